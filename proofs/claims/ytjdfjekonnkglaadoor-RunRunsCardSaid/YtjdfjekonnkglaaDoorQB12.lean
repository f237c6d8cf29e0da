/-
  Words and walks under the law's proof.
-/
import Derived.Deep.WholeRow
import Derived.Laws.Tables
import Derived.Laws.Rows
import Derived.Laws.ResultCell
import Derived.Test.YtjdfjekonnkglaaDoorQB02
import Derived.Test.YtjdfjekonnkglaaDoorQB09
import Derived.Test.YtjdfjekonnkglaaDoorQB11
namespace Go.Proofs.YtjdfjekonnkglaaDoor
open Go.RowKit
set_option linter.unusedVariables false
set_option linter.unusedSimpArgs false
def stepS (D : PD) (pt : Int) (l : List Int) (e v : Int) : (Int × List Int) × Int := if progB D = true then (if stateB D pt l = true then stepR D pt l e v else ((0, []), 1)) else ((0, []), 110)
set_option maxRecDepth 100000 in
set_option maxHeartbeats 4000000 in
theorem runStep_no (pnm : ByteArray) (pa1 : Option Addr) (pn1 pc1 : Nat) (pa2 : Option Addr) (pn2 pc2 : Nat) (pa3 : Option Addr) (pn3 pc3 : Nat) (D : PD) (pt : Int) (a : Option Addr) (n c : Nat) (l : List Int) (e v : Int) (w : World) (h : PrA w ⟨pnm, pa1, pn1, pc1, pa2, pn2, pc2, pa3, pn3, pc3⟩ D) (hs : SL w a n c l) (hp : progB D = false) : Calls Tryd.prog 7 #[.agg #[.string pnm, .slice pa1 pn1 pc1, .slice pa2 pn2 pc2, .slice pa3 pn3 pc3], .agg #[.int .i64 pt, .slice a n c], .agg #[.int .i64 e, .int .i64 v]] w (StE 0 [] 110 w) := by
  obtain ⟨W1, hW1⟩ : ∃ W1, W1 = (((w.alloc (.cells #[.string pnm, .slice pa1 pn1 pc1, .slice pa2 pn2 pc2, .slice pa3 pn3 pc3] 26)).alloc (.cells #[.int .i64 pt, .slice a n c] 29)).alloc (.cells #[.int .i64 e, .int .i64 v] 31)).alloc (.cells #[.int .i64 0, .slice none 0 0] 29) := ⟨_, rfl⟩
  have BL : Hid (Below w.heap.size w W1) := Lib.hid (by rw [hW1]; exact ((((Below.refl _ _).alloc (Nat.le_refl _) _).alloc (by simp) _).alloc (by simp; omega) _).alloc (by simp; omega) _)
  have Z0 : Hid (Holds W1 w.heap.size 26 #[.string pnm, .slice pa1 pn1 pc1, .slice pa2 pn2 pc2, .slice pa3 pn3 pc3]) := Lib.hid (by rw [hW1]; exact (((Holds.new w _ _).alloc _).alloc _).alloc _)
  have Z1 : Hid (Holds W1 (w.heap.size + 1) 29 #[.int .i64 pt, .slice a n c]) := Lib.hid (by rw [hW1]; have q := ((Holds.new (w.alloc (.cells #[.string pnm, .slice pa1 pn1 pc1, .slice pa2 pn2 pc2, .slice pa3 pn3 pc3] 26)) 29 #[.int .i64 pt, .slice a n c]).alloc (.cells #[.int .i64 e, .int .i64 v] 31)).alloc (.cells #[.int .i64 0, .slice none 0 0] 29); simpa using q)
  have Z2 : Hid (Holds W1 (w.heap.size + 2) 31 #[.int .i64 e, .int .i64 v]) := Lib.hid (by rw [hW1]; have q := (Holds.new ((w.alloc (.cells #[.string pnm, .slice pa1 pn1 pc1, .slice pa2 pn2 pc2, .slice pa3 pn3 pc3] 26)).alloc (.cells #[.int .i64 pt, .slice a n c] 29)) 31 #[.int .i64 e, .int .i64 v]).alloc (.cells #[.int .i64 0, .slice none 0 0] 29); simpa using q)
  have Z3 : Hid (Holds W1 (w.heap.size + 3) 29 #[.int .i64 0, .slice none 0 0]) := Lib.hid (by rw [hW1]; have q := Holds.new (((w.alloc (.cells #[.string pnm, .slice pa1 pn1 pc1, .slice pa2 pn2 pc2, .slice pa3 pn3 pc3] 26)).alloc (.cells #[.int .i64 pt, .slice a n c] 29)).alloc (.cells #[.int .i64 e, .int .i64 v] 31)) 29 #[.int .i64 0, .slice none 0 0]; simpa using q)
  have hW1' := Lib.hid hW1
  clear hW1
  have P := Lib.hid (h.below BL.out)
  have S := Lib.hid (hs.below BL.out)
  have qc := Lib.hid (pcheck_any ⟨pnm, pa1, pn1, pc1, pa2, pn2, pc2, pa3, pn3, pc3⟩ D W1 P.out)
  rw [pchk_bad hp] at qc
  have k0 := Z0.out.cell 0
  have k1 := Z0.out.cell 1
  have k2 := Z0.out.cell 2
  have k3 := Z0.out.cell 3
  have j0 := Z1.out.cell 0
  have j1 := Z1.out.cell 1
  have i0 := Z2.out.cell 0
  have i1 := Z2.out.cell 1
  simp at k0 k1 k2 k3 j0 j1 i0 i1
  rw [hW1'.out] at k0 k1 k2 k3 j0 j1 i0 i1
  clear h hs hp
  go_enter Tryd.func7, Tryd.ntmps7
  go_wp2_with fail
  rw [← hW1'.out]
  with_reducible refine qc.out.mono ?_
  rintro e2 W2 ⟨rfl, b2⟩
  clear k0 k1 k2 k3 j0 j1 i0 i1
  replace Z0 := Lib.hid (Z0.out.below b2 Z0.out.lt)
  replace Z1 := Lib.hid (Z1.out.below b2 Z1.out.lt)
  replace Z2 := Lib.hid (Z2.out.below b2 Z2.out.lt)
  replace Z3 := Lib.hid (Z3.out.below b2 Z3.out.lt)
  replace P := Lib.hid (P.out.below b2)
  replace S := Lib.hid (S.out.below b2)
  replace BL := Lib.hid (BL.out.trans (b2.mono BL.out.size))
  clear b2
  have m0 := Z3.out.cell 0
  have m1 := Z3.out.cell 1
  have n0 := Z3.out.free 0
  have n1 := Z3.out.free 1
  simp at m0 m1
  go_wp2
  exact state_ret2 (state_set Z3.out _ _) ⟨none, 0, 0, rfl, SL.nil _, belT BL.out (by omega) _ _, fun p hp => by cases hp⟩ _ _ 6 7 rfl rfl rfl rfl
set_option maxRecDepth 100000 in
set_option maxHeartbeats 4000000 in
theorem runStep_bad (pnm : ByteArray) (pa1 : Option Addr) (pn1 pc1 : Nat) (pa2 : Option Addr) (pn2 pc2 : Nat) (pa3 : Option Addr) (pn3 pc3 : Nat) (D : PD) (pt : Int) (a : Option Addr) (n c : Nat) (l : List Int) (e v : Int) (w : World) (h : PrA w ⟨pnm, pa1, pn1, pc1, pa2, pn2, pc2, pa3, pn3, pc3⟩ D) (hs : SL w a n c l) (hp : progB D = true) (hst : stateB D pt l = false) : Calls Tryd.prog 7 #[.agg #[.string pnm, .slice pa1 pn1 pc1, .slice pa2 pn2 pc2, .slice pa3 pn3 pc3], .agg #[.int .i64 pt, .slice a n c], .agg #[.int .i64 e, .int .i64 v]] w (StE 0 [] 1 w) := by
  obtain ⟨W1, hW1⟩ : ∃ W1, W1 = (((w.alloc (.cells #[.string pnm, .slice pa1 pn1 pc1, .slice pa2 pn2 pc2, .slice pa3 pn3 pc3] 26)).alloc (.cells #[.int .i64 pt, .slice a n c] 29)).alloc (.cells #[.int .i64 e, .int .i64 v] 31)).alloc (.cells #[.int .i64 0, .slice none 0 0] 29) := ⟨_, rfl⟩
  have BL : Hid (Below w.heap.size w W1) := Lib.hid (by rw [hW1]; exact ((((Below.refl _ _).alloc (Nat.le_refl _) _).alloc (by simp) _).alloc (by simp; omega) _).alloc (by simp; omega) _)
  have Z0 : Hid (Holds W1 w.heap.size 26 #[.string pnm, .slice pa1 pn1 pc1, .slice pa2 pn2 pc2, .slice pa3 pn3 pc3]) := Lib.hid (by rw [hW1]; exact (((Holds.new w _ _).alloc _).alloc _).alloc _)
  have Z1 : Hid (Holds W1 (w.heap.size + 1) 29 #[.int .i64 pt, .slice a n c]) := Lib.hid (by rw [hW1]; have q := ((Holds.new (w.alloc (.cells #[.string pnm, .slice pa1 pn1 pc1, .slice pa2 pn2 pc2, .slice pa3 pn3 pc3] 26)) 29 #[.int .i64 pt, .slice a n c]).alloc (.cells #[.int .i64 e, .int .i64 v] 31)).alloc (.cells #[.int .i64 0, .slice none 0 0] 29); simpa using q)
  have Z2 : Hid (Holds W1 (w.heap.size + 2) 31 #[.int .i64 e, .int .i64 v]) := Lib.hid (by rw [hW1]; have q := (Holds.new ((w.alloc (.cells #[.string pnm, .slice pa1 pn1 pc1, .slice pa2 pn2 pc2, .slice pa3 pn3 pc3] 26)).alloc (.cells #[.int .i64 pt, .slice a n c] 29)) 31 #[.int .i64 e, .int .i64 v]).alloc (.cells #[.int .i64 0, .slice none 0 0] 29); simpa using q)
  have Z3 : Hid (Holds W1 (w.heap.size + 3) 29 #[.int .i64 0, .slice none 0 0]) := Lib.hid (by rw [hW1]; have q := Holds.new (((w.alloc (.cells #[.string pnm, .slice pa1 pn1 pc1, .slice pa2 pn2 pc2, .slice pa3 pn3 pc3] 26)).alloc (.cells #[.int .i64 pt, .slice a n c] 29)).alloc (.cells #[.int .i64 e, .int .i64 v] 31)) 29 #[.int .i64 0, .slice none 0 0]; simpa using q)
  have hW1' := Lib.hid hW1
  clear hW1
  have P := Lib.hid (h.below BL.out)
  have S := Lib.hid (hs.below BL.out)
  have qc := Lib.hid (pcheck_any ⟨pnm, pa1, pn1, pc1, pa2, pn2, pc2, pa3, pn3, pc3⟩ D W1 P.out)
  rw [pchk_ok hp] at qc
  have qs := Lib.hid (fun W (hW : Below W1.heap.size W1 W) => isState_any pnm pa1 pn1 pc1 pa2 pn2 pc2 pa3 pn3 pc3 D pt a n c l W (P.out.below hW) (S.out.below hW))
  rw [hst] at qs
  have k0 := Z0.out.cell 0
  have k1 := Z0.out.cell 1
  have k2 := Z0.out.cell 2
  have k3 := Z0.out.cell 3
  have j0 := Z1.out.cell 0
  have j1 := Z1.out.cell 1
  have i0 := Z2.out.cell 0
  have i1 := Z2.out.cell 1
  simp at k0 k1 k2 k3 j0 j1 i0 i1
  rw [hW1'.out] at k0 k1 k2 k3 j0 j1 i0 i1
  clear h hs hp hst
  go_enter Tryd.func7, Tryd.ntmps7
  go_wp2_with fail
  rw [← hW1'.out]
  with_reducible refine qc.out.mono ?_
  rintro e2 W2 ⟨rfl, b2⟩
  clear k0 k1 k2 k3 j0 j1 i0 i1
  have b2' := Lib.hid b2
  replace Z0 := Lib.hid (Z0.out.below b2 Z0.out.lt)
  replace Z1 := Lib.hid (Z1.out.below b2 Z1.out.lt)
  replace Z2 := Lib.hid (Z2.out.below b2 Z2.out.lt)
  replace Z3 := Lib.hid (Z3.out.below b2 Z3.out.lt)
  replace P := Lib.hid (P.out.below b2)
  replace S := Lib.hid (S.out.below b2)
  replace BL := Lib.hid (BL.out.trans (b2.mono BL.out.size))
  clear b2
  have k0 := Z0.out.cell 0
  have k1 := Z0.out.cell 1
  have k2 := Z0.out.cell 2
  have k3 := Z0.out.cell 3
  have j0 := Z1.out.cell 0
  have j1 := Z1.out.cell 1
  have i0 := Z2.out.cell 0
  have i1 := Z2.out.cell 1
  simp at k0 k1 k2 k3 j0 j1 i0 i1
  go_wp2_with fail
  with_reducible refine (qs.out _ b2'.out).mono ?_
  rintro e3 W3 ⟨rfl, b3⟩
  clear k0 k1 k2 k3 j0 j1 i0 i1
  replace Z0 := Lib.hid (Z0.out.below b3 Z0.out.lt)
  replace Z1 := Lib.hid (Z1.out.below b3 Z1.out.lt)
  replace Z2 := Lib.hid (Z2.out.below b3 Z2.out.lt)
  replace Z3 := Lib.hid (Z3.out.below b3 Z3.out.lt)
  replace P := Lib.hid (P.out.below b3)
  replace S := Lib.hid (S.out.below b3)
  replace BL := Lib.hid (BL.out.trans (b3.mono BL.out.size))
  clear b3
  have m0 := Z3.out.cell 0
  have m1 := Z3.out.cell 1
  have n0 := Z3.out.free 0
  have n1 := Z3.out.free 1
  simp at m0 m1
  go_wp2
  exact state_ret2 (state_set Z3.out _ _) ⟨none, 0, 0, rfl, SL.nil _, belT BL.out (by omega) _ _, fun p hp => by cases hp⟩ _ _ 6 7 rfl rfl rfl rfl
set_option maxRecDepth 100000 in
set_option maxHeartbeats 4000000 in
theorem runStep_go (pnm : ByteArray) (pa1 : Option Addr) (pn1 pc1 : Nat) (pa2 : Option Addr) (pn2 pc2 : Nat) (pa3 : Option Addr) (pn3 pc3 : Nat) (D : PD) (pt : Int) (a : Option Addr) (n c : Nat) (l : List Int) (e v : Int) (w : World) (h : PrA w ⟨pnm, pa1, pn1, pc1, pa2, pn2, pc2, pa3, pn3, pc3⟩ D) (hs : SL w a n c l) (hp : progB D = true) (hst : stateB D pt l = true) : Calls Tryd.prog 7 #[.agg #[.string pnm, .slice pa1 pn1 pc1, .slice pa2 pn2 pc2, .slice pa3 pn3 pc3], .agg #[.int .i64 pt, .slice a n c], .agg #[.int .i64 e, .int .i64 v]] w (StE (stepR D pt l e v).1.1 (stepR D pt l e v).1.2 (stepR D pt l e v).2 w) := by
  obtain ⟨W1, hW1⟩ : ∃ W1, W1 = (((w.alloc (.cells #[.string pnm, .slice pa1 pn1 pc1, .slice pa2 pn2 pc2, .slice pa3 pn3 pc3] 26)).alloc (.cells #[.int .i64 pt, .slice a n c] 29)).alloc (.cells #[.int .i64 e, .int .i64 v] 31)).alloc (.cells #[.int .i64 0, .slice none 0 0] 29) := ⟨_, rfl⟩
  have BL : Hid (Below w.heap.size w W1) := Lib.hid (by rw [hW1]; exact ((((Below.refl _ _).alloc (Nat.le_refl _) _).alloc (by simp) _).alloc (by simp; omega) _).alloc (by simp; omega) _)
  have Z0 : Hid (Holds W1 w.heap.size 26 #[.string pnm, .slice pa1 pn1 pc1, .slice pa2 pn2 pc2, .slice pa3 pn3 pc3]) := Lib.hid (by rw [hW1]; exact (((Holds.new w _ _).alloc _).alloc _).alloc _)
  have Z1 : Hid (Holds W1 (w.heap.size + 1) 29 #[.int .i64 pt, .slice a n c]) := Lib.hid (by rw [hW1]; have q := ((Holds.new (w.alloc (.cells #[.string pnm, .slice pa1 pn1 pc1, .slice pa2 pn2 pc2, .slice pa3 pn3 pc3] 26)) 29 #[.int .i64 pt, .slice a n c]).alloc (.cells #[.int .i64 e, .int .i64 v] 31)).alloc (.cells #[.int .i64 0, .slice none 0 0] 29); simpa using q)
  have Z2 : Hid (Holds W1 (w.heap.size + 2) 31 #[.int .i64 e, .int .i64 v]) := Lib.hid (by rw [hW1]; have q := (Holds.new ((w.alloc (.cells #[.string pnm, .slice pa1 pn1 pc1, .slice pa2 pn2 pc2, .slice pa3 pn3 pc3] 26)).alloc (.cells #[.int .i64 pt, .slice a n c] 29)) 31 #[.int .i64 e, .int .i64 v]).alloc (.cells #[.int .i64 0, .slice none 0 0] 29); simpa using q)
  have Z3 : Hid (Holds W1 (w.heap.size + 3) 29 #[.int .i64 0, .slice none 0 0]) := Lib.hid (by rw [hW1]; have q := Holds.new (((w.alloc (.cells #[.string pnm, .slice pa1 pn1 pc1, .slice pa2 pn2 pc2, .slice pa3 pn3 pc3] 26)).alloc (.cells #[.int .i64 pt, .slice a n c] 29)).alloc (.cells #[.int .i64 e, .int .i64 v] 31)) 29 #[.int .i64 0, .slice none 0 0]; simpa using q)
  have hW1' := Lib.hid hW1
  clear hW1
  have P := Lib.hid (h.below BL.out)
  have S := Lib.hid (hs.below BL.out)
  have qc := Lib.hid (pcheck_any ⟨pnm, pa1, pn1, pc1, pa2, pn2, pc2, pa3, pn3, pc3⟩ D W1 P.out)
  rw [pchk_ok hp] at qc
  have qs := Lib.hid (fun W (hW : Below W1.heap.size W1 W) => isState_any pnm pa1 pn1 pc1 pa2 pn2 pc2 pa3 pn3 pc3 D pt a n c l W (P.out.below hW) (S.out.below hW))
  rw [hst] at qs
  have k0 := Z0.out.cell 0
  have k1 := Z0.out.cell 1
  have k2 := Z0.out.cell 2
  have k3 := Z0.out.cell 3
  have j0 := Z1.out.cell 0
  have j1 := Z1.out.cell 1
  have i0 := Z2.out.cell 0
  have i1 := Z2.out.cell 1
  simp at k0 k1 k2 k3 j0 j1 i0 i1
  rw [hW1'.out] at k0 k1 k2 k3 j0 j1 i0 i1
  have hv : valsB l D.vars.length = true := by unfold stateB at hst; simp only [Bool.and_eq_true] at hst; exact hst.2.2
  have qp := Lib.hid (fun W hW hW2 => step_any pnm pa1 pn1 pc1 pa2 pn2 pc2 pa3 pn3 pc3 D pt a n c l hp hv e v W hW hW2)
  generalize stepR D pt l e v = R at *
  clear hv
  clear h hs hp hst
  go_enter Tryd.func7, Tryd.ntmps7
  go_wp2_with fail
  rw [← hW1'.out]
  with_reducible refine qc.out.mono ?_
  rintro e2 W2 ⟨rfl, b2⟩
  clear k0 k1 k2 k3 j0 j1 i0 i1
  have b2' := Lib.hid b2
  replace Z0 := Lib.hid (Z0.out.below b2 Z0.out.lt)
  replace Z1 := Lib.hid (Z1.out.below b2 Z1.out.lt)
  replace Z2 := Lib.hid (Z2.out.below b2 Z2.out.lt)
  replace Z3 := Lib.hid (Z3.out.below b2 Z3.out.lt)
  replace P := Lib.hid (P.out.below b2)
  replace S := Lib.hid (S.out.below b2)
  replace BL := Lib.hid (BL.out.trans (b2.mono BL.out.size))
  clear b2
  have k0 := Z0.out.cell 0
  have k1 := Z0.out.cell 1
  have k2 := Z0.out.cell 2
  have k3 := Z0.out.cell 3
  have j0 := Z1.out.cell 0
  have j1 := Z1.out.cell 1
  have i0 := Z2.out.cell 0
  have i1 := Z2.out.cell 1
  simp at k0 k1 k2 k3 j0 j1 i0 i1
  go_wp2_with fail
  with_reducible refine (qs.out _ b2'.out).mono ?_
  rintro e3 W3 ⟨rfl, b3⟩
  clear k0 k1 k2 k3 j0 j1 i0 i1
  replace Z0 := Lib.hid (Z0.out.below b3 Z0.out.lt)
  replace Z1 := Lib.hid (Z1.out.below b3 Z1.out.lt)
  replace Z2 := Lib.hid (Z2.out.below b3 Z2.out.lt)
  replace Z3 := Lib.hid (Z3.out.below b3 Z3.out.lt)
  replace P := Lib.hid (P.out.below b3)
  replace S := Lib.hid (S.out.below b3)
  replace BL := Lib.hid (BL.out.trans (b3.mono BL.out.size))
  clear b3
  have k0 := Z0.out.cell 0
  have k1 := Z0.out.cell 1
  have k2 := Z0.out.cell 2
  have k3 := Z0.out.cell 3
  have j0 := Z1.out.cell 0
  have j1 := Z1.out.cell 1
  have i0 := Z2.out.cell 0
  have i1 := Z2.out.cell 1
  simp at k0 k1 k2 k3 j0 j1 i0 i1
  go_wp2_with fail
  with_reducible refine (qp.out _ P.out S.out).mono ?_
  rintro e4 W4 ⟨a', n', c', rfl, hS4, b4, hfr⟩
  clear k0 k1 k2 k3 j0 j1 i0 i1
  have hfr' := Lib.hid hfr
  have hz3 := Lib.hid Z3.out.lt
  have S4 := Lib.hid hS4
  clear hfr hS4
  replace Z0 := Lib.hid (Z0.out.below b4 Z0.out.lt)
  replace Z1 := Lib.hid (Z1.out.below b4 Z1.out.lt)
  replace Z2 := Lib.hid (Z2.out.below b4 Z2.out.lt)
  replace Z3 := Lib.hid (Z3.out.below b4 Z3.out.lt)
  replace P := Lib.hid (P.out.below b4)
  replace S := Lib.hid (S.out.below b4)
  replace BL := Lib.hid (BL.out.trans (b4.mono BL.out.size))
  clear b4
  have m0 := Z3.out.cell 0
  have m1 := Z3.out.cell 1
  have n0 := Z3.out.free 0
  have n1 := Z3.out.free 1
  simp at m0 m1
  go_wp2
  exact state_ret2 (state_set Z3.out _ _) ⟨a', n', c', rfl, sl_set2 S4.out _ _ _ (fun p hp => by have := hfr'.out p hp; have := hz3.out; omega), belT BL.out (by omega) _ _, fun p hp => by have := hfr'.out p hp; have := hz3.out; omega⟩ _ _ 6 7 rfl rfl rfl rfl
theorem runStep_any (pnm : ByteArray) (pa1 : Option Addr) (pn1 pc1 : Nat) (pa2 : Option Addr) (pn2 pc2 : Nat) (pa3 : Option Addr) (pn3 pc3 : Nat) (D : PD) (pt : Int) (a : Option Addr) (n c : Nat) (l : List Int) (e v : Int) (w : World) (h : PrA w ⟨pnm, pa1, pn1, pc1, pa2, pn2, pc2, pa3, pn3, pc3⟩ D) (hs : SL w a n c l) : Calls Tryd.prog 7 #[.agg #[.string pnm, .slice pa1 pn1 pc1, .slice pa2 pn2 pc2, .slice pa3 pn3 pc3], .agg #[.int .i64 pt, .slice a n c], .agg #[.int .i64 e, .int .i64 v]] w (StE (stepS D pt l e v).1.1 (stepS D pt l e v).1.2 (stepS D pt l e v).2 w) := by
  unfold stepS
  by_cases hp : progB D = true
  · rw [if_pos hp]
    by_cases hst : stateB D pt l = true
    · rw [if_pos hst]
      exact runStep_go pnm pa1 pn1 pc1 pa2 pn2 pc2 pa3 pn3 pc3 D pt a n c l e v w h hs hp hst
    · rw [if_neg hst]
      exact runStep_bad pnm pa1 pn1 pc1 pa2 pn2 pc2 pa3 pn3 pc3 D pt a n c l e v w h hs hp (by simpa using hst)
  · rw [if_neg hp]
    exact runStep_no pnm pa1 pn1 pc1 pa2 pn2 pc2 pa3 pn3 pc3 D pt a n c l e v w h hs (by simpa using hp)
end Go.Proofs.YtjdfjekonnkglaaDoor
namespace Go.Proofs.YtjdfjekonnkglaaDoor
open Go.RowKit
set_option linter.unusedVariables false
set_option linter.unusedSimpArgs false
def chC (p : Int × Int) : List Value := [.int .i64 p.1, .int .i64 p.2]
theorem chC_len (p : Int × Int) : (chC p).length = 2 := rfl
theorem choice_at {w : World} {a : Option Addr} {n c : Nat} {l : List (Int × Int)} (h : RO chC w a n c l) {i : Nat} (hi : i < n) : ∃ b off, a = some ⟨b, off, none⟩ ∧ b < w.heap.size ∧ w.cell? ⟨b, off + i * 2, none⟩ = some (.int .i64 (l.getD i (0, 0)).1) ∧ w.cell? ⟨b, off + i * 2 + 1, none⟩ = some (.int .i64 (l.getD i (0, 0)).2) := by
  obtain ⟨b, off, h1, h2, hc⟩ := h.at_ chC_len (by decide) (0, 0) hi
  exact ⟨b, off, h1, h2, hc 0 (by decide), hc 1 (by decide)⟩
def runL (D : PD) : Int → List Int → List (Int × Int) → List (Int × List Int) × Int
  | _, _, [] => ([], 0)
  | pt, l, (e, v) :: cs => if (stepR D pt l e v).2 = 0 then ((stepR D pt l e v).1 :: (runL D (stepR D pt l e v).1.1 (stepR D pt l e v).1.2 cs).1, (runL D (stepR D pt l e v).1.1 (stepR D pt l e v).1.2 cs).2) else ([], (stepR D pt l e v).2)
theorem isV_mid {c v d : Int} (h1 : isV c = true) (h2 : isV d = true) (h3 : c ≤ v) (h4 : v ≤ d) : isV v = true := by
  rw [isV_iff] at *
  omega
theorem all_set {l : List Int} {j : Nat} {u : Int} (h : l.all isV = true) (hu : isV u = true) : (l.set j u).all isV = true := by
  rw [List.all_eq_true] at *
  intro x hx
  rcases List.mem_or_eq_of_mem_set hx with h1 | h1
  · exact h x h1
  · rw [h1]; exact hu
theorem rr_any2 {x y c d n : Int} (h : rightB 3 x y c d n = true) : isV d = true := by
  unfold rightB at h
  split at h
  · cases h
  · simp only [stmtB, anyB, isVarB, isTermB, isValB, show ¬ (3 : Int) = 1 by omega, show ¬ (3 : Int) = 2 by omega, if_false, if_true, Bool.and_eq_true, decide_eq_true_eq, beq_iff_eq] at h
    exact (isV_iff d).2 ⟨h.2.2.2.1.1, h.2.2.2.1.2⟩
theorem does_vals {k x y c d n : Int} {l : List Int} {v : Int} (hr : rightB k x y c d n = true) (hl : l.all isV = true) (h0 : (doesR k x y c d l v).2 = 0) : (doesR k x y c d l v).1.all isV = true ∧ (doesR k x y c d l v).1.length = l.length := by
  obtain ⟨k0, k5⟩ := rr_kind hr
  rcases (show k = 1 ∨ k = 2 ∨ k = 3 ∨ k = 4 ∨ k = 5 by omega) with rfl | rfl | rfl | rfl | rfl
  · exact ⟨hl, rfl⟩
  · unfold doesR at h0 ⊢
    rw [if_pos rfl] at h0 ⊢
    by_cases ho : isV (valAt l y + c) = true
    · rw [if_pos ho]; exact ⟨all_set hl ho, by simp [withV]⟩
    · rw [if_neg ho] at h0; cases h0
  · unfold doesR at h0 ⊢
    rw [if_neg (by omega), if_pos rfl] at h0 ⊢
    by_cases ho : c ≤ v ∧ v ≤ d
    · rw [if_pos ho]; exact ⟨all_set hl (isV_mid (rr_any hr).2.2 (rr_any2 hr) ho.1 ho.2), by simp [withV]⟩
    · rw [if_neg ho] at h0; cases h0
  · unfold doesR at h0 ⊢
    rw [if_neg (by omega), if_neg (by omega), if_pos rfl] at h0 ⊢
    by_cases ho : valAt l x - valAt l y ≤ c
    · rw [if_pos ho]; exact ⟨hl, rfl⟩
    · rw [if_neg ho] at h0; cases h0
  · unfold doesR at h0 ⊢
    rw [if_neg (by omega), if_neg (by omega), if_neg (by omega), if_pos rfl] at h0 ⊢
    by_cases ho : valAt l x - valAt l y ≤ c
    · rw [if_pos ho]; exact ⟨hl, rfl⟩
    · rw [if_neg ho] at h0; cases h0
theorem step_vals {D : PD} {pt : Int} {l : List Int} {e v : Int} (hp : progB D = true) (hv : valsB l D.vars.length = true) (h0 : (stepR D pt l e v).2 = 0) : valsB (stepR D pt l e v).1.2 D.vars.length = true := by
  have hv2 := hv
  unfold valsB at hv2
  rw [Bool.and_eq_true, decide_eq_true_eq] at hv2
  unfold stepR at h0 ⊢
  split at h0
  · next h1 =>
    rw [if_pos h1]
    split at h0
    · next h2 =>
      rw [if_pos h2]
      split at h0
      · next h3 =>
        rw [if_pos h3]
        have hr := prog_edge hp (i := e.toNat) (by omega)
        unfold edgeB at hr
        simp only [Bool.and_eq_true] at hr
        obtain ⟨g1, g2⟩ := does_vals (v := v) hr.2.2 hv2.2 h3
        show valsB (doesR _ _ _ _ _ l v).1 D.vars.length = true
        unfold valsB
        rw [Bool.and_eq_true, decide_eq_true_eq]
        exact ⟨by rw [g2]; exact hv2.1, g1⟩
      · next h3 => exact absurd h0 h3
    · cases h0
  · cases h0
def StsL (W : World) (a : Option Addr) (n c : Nat) (L : List (Int × List Int)) : Prop :=
  n = L.length ∧ n ≤ c ∧ (L = [] ∨ ∃ b, a = some ⟨b, 0, none⟩ ∧ b < W.heap.size ∧ ∀ i, i < L.length → ∃ ai ni ci, W.cell? ⟨b, i * 2, none⟩ = some (.int .i64 (L.getD i (0, [])).1) ∧ W.cell? ⟨b, i * 2 + 1, none⟩ = some (.slice ai ni ci) ∧ SL W ai ni ci (L.getD i (0, [])).2)
theorem StsL.below {W W' : World} {a : Option Addr} {n c : Nat} {L : List (Int × List Int)} (h : StsL W a n c L) (hb : Below W.heap.size W W') : StsL W' a n c L := by
  obtain ⟨h1, h2, h3⟩ := h
  refine ⟨h1, h2, ?_⟩
  rcases h3 with h3 | ⟨b, rfl, hB, hc⟩
  · exact .inl h3
  · refine .inr ⟨b, rfl, Nat.lt_of_lt_of_le hB hb.size, fun i hi => ?_⟩
    obtain ⟨ai, ni, ci, g1, g2, g3⟩ := hc i hi
    exact ⟨ai, ni, ci, (hb.cell (p := ⟨b, i * 2, none⟩) hB).trans g1, (hb.cell (p := ⟨b, i * 2 + 1, none⟩) hB).trans g2, g3.below hb⟩
def RunE (L : List (Int × List Int)) (err : Int) (w : World) (e : Ending) (w' : World) : Prop := ∃ a n c, e = .returned (.tuple #[.slice a n c, .int .i64 err]) ∧ StsL w' a n c L ∧ Below w.heap.size w w'
def Apart (a : Option Addr) (l : List Int) (x y : Nat) : Prop := l = [] ∨ ∀ p : Addr, a = some p → p.block ≠ x ∧ p.block ≠ y
theorem sl_keep {w w' : World} {a : Option Addr} {n c : Nat} {l : List Int} {X : List Nat} (h : SL w a n c l) (hb : BelowE X w.heap.size w w') (hne : l = [] ∨ ∀ p : Addr, a = some p → p.block ∉ X) : SL w' a n c l := by
  rcases hne with e | hne
  · exact ⟨h.len, h.cap, h.max, .inl e⟩
  · have hE : SeesE X .i64 w.heap.size w a l := by
      rcases h.sees with hh | ⟨b, off, rfl, h2, h3⟩
      · exact .inl hh
      · exact .inr ⟨b, off, rfl, h2, hne ⟨b, off, none⟩ rfl, h3⟩
    exact ⟨h.len, h.cap, h.max, ((hE.belowE hb).mono hb.size).sees⟩
theorem Apart.left {a : Option Addr} {l : List Int} {x y : Nat} (h : Apart a l x y) : l = [] ∨ ∀ p : Addr, a = some p → p.block ∉ [x] := by
  rcases h with h | h
  · exact .inl h
  · exact .inr fun p hp => by simpa using (h p hp).1
theorem Apart.right {a : Option Addr} {l : List Int} {x y : Nat} (h : Apart a l x y) : l = [] ∨ ∀ p : Addr, a = some p → p.block ∉ [y] := by
  rcases h with h | h
  · exact .inl h
  · exact .inr fun p hp => by simpa using (h p hp).2
theorem Apart.move {w : World} {a : Option Addr} {n c : Nat} {l : List Int} {x y y' : Nat} (h : Apart a l x y) (hs : SL w a n c l) (hy : y' = y ∨ w.heap.size ≤ y') : Apart a l x y' := by
  rcases h with h | h
  · exact .inl h
  · rcases hs.sees with hh | ⟨b, off, rfl, h2, h3⟩
    · exact .inl hh
    · refine .inr fun p hp => ⟨(h p hp).1, ?_⟩
      rcases hy with e | e
      · rw [e]; exact (h p hp).2
      · injection hp with hp
        subst hp
        show b ≠ y'
        omega
structure RowI (w : World) (gs gr cap : Nat) (L : List (Int × List Int)) (xs : List Value) (W : World) : Prop where
  bel : Below w.heap.size w W
  gs0 : w.heap.size ≤ gs
  gsl : gs < W.heap.size
  row : W.ownsRow w.heap.size 29 2 (.slice (some ⟨gr, 0, none⟩) L.length cap) L.length xs
  ne : gr ≠ gs
  each : ∀ i, i < L.length → ∃ ai ni ci, xs[i * 2]? = some (.int .i64 (L.getD i (0, [])).1) ∧ xs[i * 2 + 1]? = some (.slice ai ni ci) ∧ SL W ai ni ci (L.getD i (0, [])).2 ∧ Apart ai (L.getD i (0, [])).2 gs gr
theorem RowI.gr {w : World} {gs gr cap : Nat} {L : List (Int × List Int)} {xs : List Value} {W : World} (h : RowI w gs gr cap L xs W) : w.heap.size ≤ gr ∧ gr < W.heap.size := h.row.lt gr rfl
theorem RowI.below {w : World} {gs gr cap : Nat} {L : List (Int × List Int)} {xs : List Value} {W W' : World} (h : RowI w gs gr cap L xs W) (hb : Below W.heap.size W W') : RowI w gs gr cap L xs W' :=
  ⟨h.bel.trans (hb.mono h.bel.size), h.gs0, Nat.lt_of_lt_of_le h.gsl hb.size, own_below h.row hb, h.ne, fun i hi => by
    obtain ⟨ai, ni, ci, g1, g2, g3, g4⟩ := h.each i hi
    exact ⟨ai, ni, ci, g1, g2, g3.below hb, g4⟩⟩
theorem RowI.set {w : World} {gs gr cap : Nat} {L : List (Int × List Int)} {xs : List Value} {W : World} (h : RowI w gs gr cap L xs W) (u1 u2 : Value) : RowI w gs gr cap L xs ((W.setCell ⟨gs, 0, none⟩ u1).setCell ⟨gs, 1, none⟩ u2) := by
  have hE : BelowE [gs] W.heap.size W ((W.setCell ⟨gs, 0, none⟩ u1).setCell ⟨gs, 1, none⟩ u2) := ((BelowE.refl _ _ _).setIn (p := ⟨gs, 0, none⟩) (by simp) _).setIn (p := ⟨gs, 1, none⟩) (by simp) _
  refine ⟨belT h.bel h.gs0 _ _, h.gs0, by simpa using h.gsl, own_belowE h.row hE (fun k hk => by injection hk with hk; subst hk; simpa using h.ne), h.ne, fun i hi => ?_⟩
  obtain ⟨ai, ni, ci, g1, g2, g3, g4⟩ := h.each i hi
  exact ⟨ai, ni, ci, g1, g2, sl_keep g3 hE g4.left, g4⟩
theorem RowI.grow {w : World} {gs gr cap : Nat} {L : List (Int × List Int)} {xs : List Value} {W X W' : World} (h : RowI w gs gr cap L xs W) {pt : Int} {a : Option Addr} {n c : Nat} {l : List Int} (hX : X = W.alloc (.cells #[.int .i64 pt, .slice a n c] 29)) (hs : SL W a n c l) (hne : Apart a l gs gr)
    {v' : Value} (own : W'.ownsRow 0 29 2 v' (L.length + 1) (xs ++ [.int .i64 pt, .slice a n c])) (g : X.grownBy W' (Value.slice (some ⟨gr, 0, none⟩) L.length cap).ownBlock) (blk : v'.ownBlock = some gr ∨ v'.ownBlock = some X.heap.size) :
    ∃ gr' cap', v' = .slice (some ⟨gr', 0, none⟩) (L ++ [(pt, l)]).length cap' ∧ RowI w gs gr' cap' (L ++ [(pt, l)]) (xs ++ [.int .i64 pt, .slice a n c]) W' ∧ SL W' a n c l ∧ Apart a l gs gr' ∧ BelowE [gr] W.heap.size W W' := by
  have hb1 : Below W.heap.size W X := by rw [hX]; exact box_below _ _ _
  have hXs : X.heap.size = W.heap.size + 1 := by rw [hX]; simp
  have hgr := h.gr
  have hE : BelowE [gr] X.heap.size X W' := ⟨g.os, g.tape, g.output, g.size, fun k hk hx => g.block k hk (fun e => hx (by have : k = gr := (by simpa [Value.ownBlock] using e); simp [this]))⟩
  have hE2 : BelowE [gr] W.heap.size W W' := (BelowE.of hb1).trans (hE.mono hb1.size)
  obtain ⟨gr', cap', rfl, hgr'⟩ : ∃ gr' cap', v' = .slice (some ⟨gr', 0, none⟩) (L.length + 1) cap' ∧ (gr' = gr ∨ gr' = X.heap.size) := by
    rcases own.2 with ⟨_, h0⟩ | ⟨b, cp, cur, rfl, _⟩
    · omega
    · refine ⟨b, cp, rfl, ?_⟩
      rcases blk with e | e
      · left; simpa [Value.ownBlock] using e
      · right; simpa [Value.ownBlock] using e
  have hy : gr' = gr ∨ W.heap.size ≤ gr' := by rcases hgr' with e | e <;> omega
  refine ⟨gr', cap', by simp, ⟨?_, h.gs0, Nat.lt_of_lt_of_le h.gsl hE2.size, ?_, ?_, ?_⟩, sl_keep hs hE2 hne.right, hne.move hs hy, hE2⟩
  · exact h.bel.trans ((hE2.mono h.bel.size).less (Y := []) (fun x hx hl => by simp at hx; omega)).none
  · have := own_from (B := w.heap.size) own (fun b hb => by
      have hb' : b = gr' := by simpa [Value.ownBlock] using hb.symm
      have := h.bel.size
      rcases hgr' with e | e <;> omega)
    simpa using this
  · rcases hgr' with e | e
    · rw [e]; exact h.ne
    · have := h.gsl; omega
  · intro i hi
    have hxl : xs.length = L.length * 2 := h.row.1
    by_cases hiL : i < L.length
    · obtain ⟨ai, ni, ci, g1, g2, g3, g4⟩ := h.each i hiL
      have e1 : (L ++ [(pt, l)]).getD i (0, []) = L.getD i (0, []) := by simp [List.getD, List.getElem?_append_left hiL]
      rw [e1]
      refine ⟨ai, ni, ci, by rw [List.getElem?_append_left (by omega)]; exact g1, by rw [List.getElem?_append_left (by omega)]; exact g2, sl_keep g3 hE2 g4.right, g4.move g3 hy⟩
    · have hie : i = L.length := by simp at hi; omega
      subst hie
      have e1 : (L ++ [(pt, l)]).getD L.length (0, []) = (pt, l) := by simp [List.getD]
      rw [e1]
      refine ⟨a, n, c, by rw [List.getElem?_append_right (by omega), hxl]; simp, by rw [List.getElem?_append_right (by omega), hxl]; simp, sl_keep hs hE2 hne.right, hne.move hs hy⟩
end Go.Proofs.YtjdfjekonnkglaaDoor
namespace Go.Proofs.YtjdfjekonnkglaaDoor
open Go.RowKit
set_option linter.unusedVariables false
set_option linter.unusedSimpArgs false
def stateZ : Value := .agg #[.int .i64 0, .slice none 0 0]
theorem infoStateP : (Tryd.prog.info? 29).map (fun i => (i.zero, i.size, i.bytes)) = some (some stateZ, 2, 32) := by kernel_rfl
theorem infoStateQ : ∃ i, Tryd.prog.info? 29 = some i ∧ i.zero = some stateZ ∧ i.size = 2 ∧ i.bytes = 32 := by
  have h := infoStateP
  cases hi : Tryd.prog.info? 29 with
  | none => rw [hi] at h; simp at h
  | some i => rw [hi] at h; simp at h; exact ⟨i, rfl, h.1, h.2.1, h.2.2⟩
structure RunAt (D : PD) (ch : List (Int × Int)) (l0 : List Int) (i : Nat) (L : List (Int × List Int)) (pt : Int) (l : List Int) : Prop where
  len : L.length = i + 1
  vals : valsB l D.vars.length = true
  out : (0, l0) :: (runL D 0 l0 ch).1 = L ++ (runL D pt l (ch.drop i)).1
  err : (runL D 0 l0 ch).2 = (runL D pt l (ch.drop i)).2
theorem run_at0 {D : PD} {ch : List (Int × Int)} {l0 : List Int} (hv : valsB l0 D.vars.length = true) : RunAt D ch l0 0 [(0, l0)] 0 l0 := ⟨rfl, hv, rfl, rfl⟩
theorem drop_at {ch : List (Int × Int)} {i : Nat} (hi : i < ch.length) : ch.drop i = ((ch.getD i (0, 0)).1, (ch.getD i (0, 0)).2) :: ch.drop (i + 1) := by
  rw [List.drop_eq_getElem_cons hi]
  have : ch.getD i (0, 0) = ch[i] := by simp [List.getD, hi]
  rw [this]
theorem runL_at {D : PD} {ch : List (Int × Int)} {i : Nat} (hi : i < ch.length) (pt : Int) (l : List Int) : runL D pt l (ch.drop i) = if (stepR D pt l (ch.getD i (0, 0)).1 (ch.getD i (0, 0)).2).2 = 0 then ((stepR D pt l (ch.getD i (0, 0)).1 (ch.getD i (0, 0)).2).1 :: (runL D (stepR D pt l (ch.getD i (0, 0)).1 (ch.getD i (0, 0)).2).1.1 (stepR D pt l (ch.getD i (0, 0)).1 (ch.getD i (0, 0)).2).1.2 (ch.drop (i + 1))).1, (runL D (stepR D pt l (ch.getD i (0, 0)).1 (ch.getD i (0, 0)).2).1.1 (stepR D pt l (ch.getD i (0, 0)).1 (ch.getD i (0, 0)).2).1.2 (ch.drop (i + 1))).2) else ([], (stepR D pt l (ch.getD i (0, 0)).1 (ch.getD i (0, 0)).2).2) := by
  rw [drop_at hi]
  rfl
theorem run_next {D : PD} {ch : List (Int × Int)} {l0 : List Int} {i : Nat} {L : List (Int × List Int)} {pt : Int} {l : List Int} (hp : progB D = true) (h : RunAt D ch l0 i L pt l) (hi : i < ch.length) (h0 : (stepR D pt l (ch.getD i (0, 0)).1 (ch.getD i (0, 0)).2).2 = 0) : RunAt D ch l0 (i + 1) (L ++ [((stepR D pt l (ch.getD i (0, 0)).1 (ch.getD i (0, 0)).2).1.1, (stepR D pt l (ch.getD i (0, 0)).1 (ch.getD i (0, 0)).2).1.2)]) (stepR D pt l (ch.getD i (0, 0)).1 (ch.getD i (0, 0)).2).1.1 (stepR D pt l (ch.getD i (0, 0)).1 (ch.getD i (0, 0)).2).1.2 := by
  have h1 := h.out
  have h2 := h.err
  rw [runL_at hi, if_pos h0] at h1 h2
  exact ⟨by rw [List.length_append, h.len]; rfl, step_vals hp h.vals h0, by rw [List.append_assoc]; exact h1, h2⟩
theorem run_stop {D : PD} {ch : List (Int × Int)} {l0 : List Int} {i : Nat} {L : List (Int × List Int)} {pt : Int} {l : List Int} (h : RunAt D ch l0 i L pt l) (hi : i < ch.length) (h0 : (stepR D pt l (ch.getD i (0, 0)).1 (ch.getD i (0, 0)).2).2 ≠ 0) : (0, l0) :: (runL D 0 l0 ch).1 = L ∧ (runL D 0 l0 ch).2 = (stepR D pt l (ch.getD i (0, 0)).1 (ch.getD i (0, 0)).2).2 := by
  have h1 := h.out
  have h2 := h.err
  rw [runL_at hi, if_neg h0] at h1 h2
  exact ⟨by rw [h1, List.append_nil], h2⟩
theorem run_end {D : PD} {ch : List (Int × Int)} {l0 : List Int} {i : Nat} {L : List (Int × List Int)} {pt : Int} {l : List Int} (h : RunAt D ch l0 i L pt l) (hi : i = ch.length) : (0, l0) :: (runL D 0 l0 ch).1 = L ∧ (runL D 0 l0 ch).2 = 0 := by
  have h1 := h.out
  have h2 := h.err
  have e2 : runL D pt l (ch.drop i) = ([], 0) := by
    rw [hi, List.drop_length]
    rfl
  rw [e2] at h1 h2
  exact ⟨by rw [h1, List.append_nil], h2⟩
structure LoopI (w : World) (gs gr cap : Nat) (L : List (Int × List Int)) (xs : List Value) (pt : Int) (a : Option Addr) (n c : Nat) (l : List Int) (W : World) : Prop where
  row : RowI w gs gr cap L xs W
  box : Holds W gs 29 #[.int .i64 pt, .slice a n c]
  sl : SL W a n c l
  ap : Apart a l gs gr
theorem LoopI.below {w : World} {gs gr cap : Nat} {L : List (Int × List Int)} {xs : List Value} {pt : Int} {a : Option Addr} {n c : Nat} {l : List Int} {W W' : World} (h : LoopI w gs gr cap L xs pt a n c l W) (hb : Below W.heap.size W W') : LoopI w gs gr cap L xs pt a n c l W' :=
  ⟨h.row.below hb, h.box.below hb h.box.lt, h.sl.below hb, h.ap⟩
theorem sts_row {w : World} {gs gr cap : Nat} {L : List (Int × List Int)} {xs : List Value} {W : World} (h : RowI w gs gr cap L xs W) : StsL W (some ⟨gr, 0, none⟩) L.length cap L := by
  obtain ⟨hxl, hr⟩ := h.row
  rcases hr with ⟨e, _⟩ | ⟨b, cp, cur, e, _, hh, hcap, _, hsz, hxs⟩
  · cases e
  · injection e with e1 e2 e3
    injection e1 with e1
    injection e1 with e1
    subst e1 e3
    refine ⟨rfl, hcap, ?_⟩
    have hgl := (Array.getElem?_eq_some_iff.1 hh).1
    refine .inr ⟨gr, rfl, hgl, fun i hi => ?_⟩
    obtain ⟨ai, ni, ci, g1, g2, g3, _⟩ := h.each i hi
    have hcell : ∀ k u, xs[k]? = some u → W.cell? ⟨gr, k, none⟩ = some u := by
      intro k u hu
      rw [cell_of_row _ _ _ _ _ _ hh]
      have hk : k < L.length * 2 := by
        have := (List.getElem?_eq_some_iff.1 hu).1
        omega
      rw [← hxs, List.getElem?_take_of_lt hk] at hu
      simpa using hu
    exact ⟨ai, ni, ci, hcell _ _ g1, hcell _ _ g2, g3⟩
theorem LoopI.set {w : World} {gs gr cap : Nat} {L : List (Int × List Int)} {xs : List Value} {pt : Int} {a : Option Addr} {n c : Nat} {l : List Int} {W : World} (h : LoopI w gs gr cap L xs pt a n c l W) {a' : Option Addr} {n' c' : Nat} {l' : List Int} (pt' : Int) (hs : SL W a' n' c' l') (hap : Apart a' l' gs gr) : LoopI w gs gr cap L xs pt' a' n' c' l' ((W.setCell ⟨gs, 0, none⟩ (.int .i64 pt')).setCell ⟨gs, 1, none⟩ (.slice a' n' c')) := by
  have hE : BelowE [gs] W.heap.size W ((W.setCell ⟨gs, 0, none⟩ (.int .i64 pt')).setCell ⟨gs, 1, none⟩ (.slice a' n' c')) := ((BelowE.refl _ _ _).setIn (p := ⟨gs, 0, none⟩) (by simp) _).setIn (p := ⟨gs, 1, none⟩) (by simp) _
  exact ⟨h.row.set _ _, state_set h.box _ _, sl_keep hs hE hap.left, hap⟩
theorem wpList_append_loop {w V : World} {gs gr cap : Nat} {L : List (Int × List Int)} {xs : List Value} {pt : Int} {a : Option Addr} {n c : Nat} {l : List Int} (h : LoopI w gs gr cap L xs pt a n c l V) {ops : Array Oper} {rest : List Oper} {o : Oper} {ac : Act} {Q : Exit → Act → World → Prop}
    (hg : o.guard = none) (s x : Operand) (hop : o.op = Op.call { callee := Callee.builtin Builtin.append, args := #[s, x], argTypes := #[42, 42] })
    (hsv : ac.eval s = .slice (some ⟨gr, 0, none⟩) L.length cap) (hx : ac.eval x = .slice (some ⟨V.heap.size, 0, none⟩) 1 1) (hn : L.length ≤ 2000)
    (hK : ∀ gr' cap' W', LoopI w gs gr' cap' (L ++ [(pt, l)]) (xs ++ [.int .i64 pt, .slice a n c]) pt a n c l W' → wpList Tryd.prog ops Q rest (ac.put o.dst (.slice (some ⟨gr', 0, none⟩) (L ++ [(pt, l)]).length cap')) W') :
    wpList Tryd.prog ops Q (o :: rest) ac (V.alloc (.cells #[.int .i64 pt, .slice a n c] 29)) := by
  obtain ⟨i0, hi, hz0, hz1, hz2⟩ := infoStateQ
  refine wpList_append_cells _ hg s x 42 hop 29 i0 stateZ 2 32 Tryd.underlying42 hi hz0 hz1 hz2 rfl (by omega) _ L.length xs (own_below (own_from h.row.row (B := 0) (fun _ _ => Nat.zero_le _)) (box_below V _ _)) _ _ 1 1 [.int .i64 pt, .slice a n c] rfl (by have q := seesC_lit V 29 #[.int .i64 pt, .slice a n c]; simpa using q) (by intro u hu; simp at hu; rcases hu with rfl | rfl <;> rfl) (by simp) hsv hx (by unfold maxLen; omega) (by omega) ?_
  intro v' W' o2 g2 b2
  obtain ⟨gr', cap', rfl, hr, hs, hap, hE⟩ := h.row.grow rfl h.sl h.ap o2 g2 (by rcases b2 with e | e; exact .inl e; exact .inr e)
  refine hK gr' cap' W' ⟨hr, ?_, hs, hap⟩
  exact (h.box.belowE hE h.box.lt (by simpa using h.row.ne.symm))
theorem apart_new {w : World} {gs gr cap : Nat} {L : List (Int × List Int)} {xs : List Value} {W : World} {a : Option Addr} {l : List Int} (hf : ∀ p : Addr, a = some p → W.heap.size ≤ p.block) (h : RowI w gs gr cap L xs W) : Apart a l gs gr := .inr fun p hp => by have := hf p hp; have := h.gsl; have := h.gr; omega
theorem sl_fresh {w w' : World} {n : Nat} {a' : Option Addr} {c' : Nat} {l : List Int} (h : w'.ownsRow w.heap.size 3 1 (.slice a' n c') n (nums .i64 l)) : ∀ p : Addr, a' = some p → w.heap.size ≤ p.block ∧ p.block < w'.heap.size := by
  intro p hp
  subst hp
  exact h.lt p.block rfl
theorem loop_start {W : World} {a : Option Addr} {n c : Nat} {l : List Int} (hs : SL W a n c l) : LoopI W W.heap.size (W.heap.size + 1) 1 [(0, l)] [.int .i64 0, .slice a n c] 0 a n c l ((W.alloc (.cells #[.int .i64 0, .slice a n c] 29)).alloc (.cells #[.int .i64 0, .slice a n c] 29)) := by
  have hb : Below W.heap.size W ((W.alloc (.cells #[.int .i64 0, .slice a n c] 29)).alloc (.cells #[.int .i64 0, .slice a n c] 29)) := box2_below _ _ _ _ _
  have hap : Apart a l W.heap.size (W.heap.size + 1) := by
    rcases hs.sees with hh | ⟨b, off, rfl, h2, _⟩
    · exact .inl hh
    · refine .inr fun p hp => ?_
      injection hp with hp
      subst hp
      show b ≠ _ ∧ b ≠ _
      omega
  refine ⟨⟨hb, Nat.le_refl _, by simp; omega, ?_, by omega, ?_⟩, (Holds.new W _ _).alloc _, hs.below hb, hap⟩
  · have q := own_cells (W.alloc (.cells #[.int .i64 0, .slice a n c] 29)) 29 2 1 #[.int .i64 0, .slice a n c] rfl (by unfold maxLen; omega)
    have q2 := own_from q (B := W.heap.size) (fun b hb => by have := (q.lt b hb).1; simp at this; omega)
    simpa using q2
  · intro i hi
    have : i = 0 := by simp at hi; omega
    subst this
    exact ⟨a, n, c, rfl, rfl, hs.below hb, hap⟩
set_option maxRecDepth 100000 in
set_option maxHeartbeats 4000000 in
theorem run_no (pnm : ByteArray) (pa1 : Option Addr) (pn1 pc1 : Nat) (pa2 : Option Addr) (pn2 pc2 : Nat) (pa3 : Option Addr) (pn3 pc3 : Nat) (D : PD) (a : Option Addr) (n c : Nat) (l : List Int) (ca : Option Addr) (cn cc : Nat) (ch : List (Int × Int)) (w : World) (h : PrA w ⟨pnm, pa1, pn1, pc1, pa2, pn2, pc2, pa3, pn3, pc3⟩ D) (hs : SL w a n c l) (hc : RO chC w ca cn cc ch) (hcn : cn ≤ 1000) (hp : progB D = false) : Calls Tryd.prog 14 #[.agg #[.string pnm, .slice pa1 pn1 pc1, .slice pa2 pn2 pc2, .slice pa3 pn3 pc3], .slice a n c, .slice ca cn cc] w (RunE [] 110 w) := by
  obtain ⟨W1, hW1⟩ : ∃ W1, W1 = w.alloc (.cells #[.string pnm, .slice pa1 pn1 pc1, .slice pa2 pn2 pc2, .slice pa3 pn3 pc3] 26) := ⟨_, rfl⟩
  have BL : Hid (Below w.heap.size w W1) := Lib.hid (by rw [hW1]; exact box_below _ _ _)
  have Z0 : Hid (Holds W1 w.heap.size 26 #[.string pnm, .slice pa1 pn1 pc1, .slice pa2 pn2 pc2, .slice pa3 pn3 pc3]) := Lib.hid (by rw [hW1]; exact Holds.new w _ _)
  have hW1' := Lib.hid hW1
  clear hW1
  have P := Lib.hid (h.below BL.out)
  have S := Lib.hid (hs.below BL.out)
  have C := Lib.hid (hc.below BL.out)
  have qc := Lib.hid (pcheck_any ⟨pnm, pa1, pn1, pc1, pa2, pn2, pc2, pa3, pn3, pc3⟩ D W1 P.out)
  rw [pchk_bad hp] at qc
  have k0 := Z0.out.cell 0
  have k1 := Z0.out.cell 1
  have k2 := Z0.out.cell 2
  have k3 := Z0.out.cell 3
  simp at k0 k1 k2 k3
  rw [hW1'.out] at k0 k1 k2 k3
  clear h hs hc
  go_enter Tryd.func14, Tryd.ntmps14
  go_wp2_with fail
  rw [← hW1'.out]
  with_reducible refine qc.out.mono ?_
  rintro e2 W2 ⟨rfl, b2⟩
  clear k0 k1 k2 k3 qc
  replace Z0 := Lib.hid (Z0.out.below b2 Z0.out.lt)
  replace P := Lib.hid (P.out.below b2)
  replace S := Lib.hid (S.out.below b2)
  replace C := Lib.hid (C.out.below b2)
  replace BL := Lib.hid (BL.out.trans (b2.mono BL.out.size))
  clear b2
  go_wp2
  exact bodyPost_ret (results_tmp2 rfl _ _ _) rfl ⟨none, 0, 0, rfl, ⟨rfl, Nat.le_refl _, .inl rfl⟩, BL.out⟩
set_option maxRecDepth 100000 in
set_option maxHeartbeats 4000000 in
theorem run_bad (pnm : ByteArray) (pa1 : Option Addr) (pn1 pc1 : Nat) (pa2 : Option Addr) (pn2 pc2 : Nat) (pa3 : Option Addr) (pn3 pc3 : Nat) (D : PD) (a : Option Addr) (n c : Nat) (l : List Int) (ca : Option Addr) (cn cc : Nat) (ch : List (Int × Int)) (w : World) (h : PrA w ⟨pnm, pa1, pn1, pc1, pa2, pn2, pc2, pa3, pn3, pc3⟩ D) (hs : SL w a n c l) (hc : RO chC w ca cn cc ch) (hcn : cn ≤ 1000) (hp : progB D = true) (hv : valsB l D.vars.length = false) : Calls Tryd.prog 14 #[.agg #[.string pnm, .slice pa1 pn1 pc1, .slice pa2 pn2 pc2, .slice pa3 pn3 pc3], .slice a n c, .slice ca cn cc] w (RunE [] 1 w) := by
  obtain ⟨W1, hW1⟩ : ∃ W1, W1 = w.alloc (.cells #[.string pnm, .slice pa1 pn1 pc1, .slice pa2 pn2 pc2, .slice pa3 pn3 pc3] 26) := ⟨_, rfl⟩
  have BL : Hid (Below w.heap.size w W1) := Lib.hid (by rw [hW1]; exact box_below _ _ _)
  have Z0 : Hid (Holds W1 w.heap.size 26 #[.string pnm, .slice pa1 pn1 pc1, .slice pa2 pn2 pc2, .slice pa3 pn3 pc3]) := Lib.hid (by rw [hW1]; exact Holds.new w _ _)
  have hW1' := Lib.hid hW1
  clear hW1
  have P := Lib.hid (h.below BL.out)
  have S := Lib.hid (hs.below BL.out)
  have C := Lib.hid (hc.below BL.out)
  have qc := Lib.hid (pcheck_any ⟨pnm, pa1, pn1, pc1, pa2, pn2, pc2, pa3, pn3, pc3⟩ D W1 P.out)
  rw [pchk_ok hp] at qc
  have qv := Lib.hid (fun W (hW : Below W1.heap.size W1 W) => areVals_any ⟨pnm, pa1, pn1, pc1, pa2, pn2, pc2, pa3, pn3, pc3⟩ D a n c l W (P.out.below hW) (S.out.below hW))
  rw [hv] at qv
  have k0 := Z0.out.cell 0
  have k1 := Z0.out.cell 1
  have k2 := Z0.out.cell 2
  have k3 := Z0.out.cell 3
  simp at k0 k1 k2 k3
  rw [hW1'.out] at k0 k1 k2 k3
  clear h hs hc
  go_enter Tryd.func14, Tryd.ntmps14
  go_wp2_with fail
  rw [← hW1'.out]
  with_reducible refine qc.out.mono ?_
  rintro e2 W2 ⟨rfl, b2⟩
  clear k0 k1 k2 k3 qc
  have b2' := Lib.hid b2
  replace Z0 := Lib.hid (Z0.out.below b2 Z0.out.lt)
  replace P := Lib.hid (P.out.below b2)
  replace S := Lib.hid (S.out.below b2)
  replace C := Lib.hid (C.out.below b2)
  replace BL := Lib.hid (BL.out.trans (b2.mono BL.out.size))
  clear b2
  have k0 := Z0.out.cell 0
  have k1 := Z0.out.cell 1
  have k2 := Z0.out.cell 2
  have k3 := Z0.out.cell 3
  simp at k0 k1 k2 k3
  go_wp2_with fail
  with_reducible refine (qv.out _ b2'.out).mono ?_
  rintro e3 W3 ⟨rfl, b3⟩
  clear k0 k1 k2 k3 b2' qv
  replace Z0 := Lib.hid (Z0.out.below b3 Z0.out.lt)
  replace P := Lib.hid (P.out.below b3)
  replace S := Lib.hid (S.out.below b3)
  replace C := Lib.hid (C.out.below b3)
  replace BL := Lib.hid (BL.out.trans (b3.mono BL.out.size))
  clear b3
  go_wp2
  exact bodyPost_ret (results_tmp2 rfl _ _ _) rfl ⟨none, 0, 0, rfl, ⟨rfl, Nat.le_refl _, .inl rfl⟩, BL.out⟩
set_option maxRecDepth 100000 in
set_option maxHeartbeats 4000000 in
theorem run_go (pnm : ByteArray) (pa1 : Option Addr) (pn1 pc1 : Nat) (pa2 : Option Addr) (pn2 pc2 : Nat) (pa3 : Option Addr) (pn3 pc3 : Nat) (D : PD) (a : Option Addr) (n c : Nat) (l : List Int) (ca : Option Addr) (cn cc : Nat) (ch : List (Int × Int)) (w : World) (h : PrA w ⟨pnm, pa1, pn1, pc1, pa2, pn2, pc2, pa3, pn3, pc3⟩ D) (hs : SL w a n c l) (hc : RO chC w ca cn cc ch) (hcn : cn ≤ 1000) (hp : progB D = true) (hv : valsB l D.vars.length = true) (hn : n ≤ 1000) : Calls Tryd.prog 14 #[.agg #[.string pnm, .slice pa1 pn1 pc1, .slice pa2 pn2 pc2, .slice pa3 pn3 pc3], .slice a n c, .slice ca cn cc] w (RunE ((0, l) :: (runL D 0 l ch).1) (runL D 0 l ch).2 w) := by
  obtain ⟨W1, hW1⟩ : ∃ W1, W1 = w.alloc (.cells #[.string pnm, .slice pa1 pn1 pc1, .slice pa2 pn2 pc2, .slice pa3 pn3 pc3] 26) := ⟨_, rfl⟩
  have BL : Hid (Below w.heap.size w W1) := Lib.hid (by rw [hW1]; exact box_below _ _ _)
  have Z0 : Hid (Holds W1 w.heap.size 26 #[.string pnm, .slice pa1 pn1 pc1, .slice pa2 pn2 pc2, .slice pa3 pn3 pc3]) := Lib.hid (by rw [hW1]; exact Holds.new w _ _)
  have hW1' := Lib.hid hW1
  clear hW1
  have P := Lib.hid (h.below BL.out)
  have S := Lib.hid (hs.below BL.out)
  have C := Lib.hid (hc.below BL.out)
  have qc := Lib.hid (pcheck_any ⟨pnm, pa1, pn1, pc1, pa2, pn2, pc2, pa3, pn3, pc3⟩ D W1 P.out)
  rw [pchk_ok hp] at qc
  have qv := Lib.hid (fun W (hW : Below W1.heap.size W1 W) => areVals_any ⟨pnm, pa1, pn1, pc1, pa2, pn2, pc2, pa3, pn3, pc3⟩ D a n c l W (P.out.below hW) (S.out.below hW))
  rw [hv] at qv
  have k0 := Z0.out.cell 0
  have k1 := Z0.out.cell 1
  have k2 := Z0.out.cell 2
  have k3 := Z0.out.cell 3
  simp at k0 k1 k2 k3
  rw [hW1'.out] at k0 k1 k2 k3
  clear h hs hc
  go_enter Tryd.func14, Tryd.ntmps14
  go_wp2_with fail
  rw [← hW1'.out]
  with_reducible refine qc.out.mono ?_
  rintro e2 W2 ⟨rfl, b2⟩
  clear k0 k1 k2 k3 qc
  have b2' := Lib.hid b2
  replace Z0 := Lib.hid (Z0.out.below b2 Z0.out.lt)
  replace P := Lib.hid (P.out.below b2)
  replace S := Lib.hid (S.out.below b2)
  replace C := Lib.hid (C.out.below b2)
  replace BL := Lib.hid (BL.out.trans (b2.mono BL.out.size))
  clear b2
  have k0 := Z0.out.cell 0
  have k1 := Z0.out.cell 1
  have k2 := Z0.out.cell 2
  have k3 := Z0.out.cell 3
  simp at k0 k1 k2 k3
  go_wp2_with fail
  with_reducible refine (qv.out _ b2'.out).mono ?_
  rintro e3 W3 ⟨rfl, b3⟩
  clear k0 k1 k2 k3 b2' qv
  replace Z0 := Lib.hid (Z0.out.below b3 Z0.out.lt)
  replace P := Lib.hid (P.out.below b3)
  replace S := Lib.hid (S.out.below b3)
  replace C := Lib.hid (C.out.below b3)
  replace BL := Lib.hid (BL.out.trans (b3.mono BL.out.size))
  clear b3
  have z3 : Hid (w.heap.size < W3.heap.size) := Lib.hid Z0.out.lt
  have qk := Lib.hid (clone_any a n c l hn _ S.out)
  go_wp2_with fail
  with_reducible refine qk.out.mono ?_
  rintro e4 W4 ⟨a', c', rfl, ho, b4⟩
  have z4 := Lib.hid b4.size
  have ho4 := Lib.hid ho
  clear qk ho
  replace Z0 := Lib.hid (Z0.out.below b4 Z0.out.lt)
  replace P := Lib.hid (P.out.below b4)
  replace S := Lib.hid (S.out.below b4)
  replace C := Lib.hid (C.out.below b4)
  replace BL := Lib.hid (BL.out.trans (b4.mono BL.out.size))
  clear b4
  go_wp2
  have s4 := Lib.hid (clone_sl ho4.out hn)
  have hf4 := Lib.hid (fun p hp => sl_fresh ho4.out p hp)
  have hI0 : Hid (LoopI W4 W4.heap.size (W4.heap.size + 1) 1 [(0, l)] [.int .i64 0, .slice a' n c'] 0 a' n c' l ((W4.alloc (.cells #[.int .i64 0, .slice a' n c'] 29)).alloc (.cells #[.int .i64 0, .slice a' n c'] 29))) := Lib.hid (loop_start s4.out)
  have hR0 : Hid (RunAt D ch l 0 [(0, l)] 0 l) := Lib.hid (run_at0 hv)
  go_loopw [10, 31] (fun v x wr => ∃ (i gr cap : Nat) (L : List (Int × List Int)) (xs : List Value) (pt : Int) (ai : Option Addr) (ni ci : Nat) (li : List Int), i ≤ cn ∧ x = .int .i64 i ∧ v = .slice (some ⟨gr, 0, none⟩) L.length cap ∧ Hid (LoopI W4 W4.heap.size gr cap L xs pt ai ni ci li wr) ∧ Hid (RunAt D ch l i L pt li)) (fun _ x _ => cn - (intOf x).toNat)
  case atStart => exact ⟨0, W4.heap.size + 1, 1, [(0, l)], [.int .i64 0, .slice a' n c'], 0, a', n, c', l, by omega, rfl, rfl, hI0, hR0⟩
  case round =>
    clear hI0 hR0 s4 hf4 ho4
    obtain ⟨i, gr, cap, L, xs, pt, ai, ni, ci, li, hi, rfl, rfl, hI, hR⟩ := hrel
    by_cases hlt : i < cn
    · have hlti : (i : Int) < (cn : Int) := by omega
      obtain ⟨b, off, rfl, hB, x0, x1⟩ := choice_at (C.out.below hI.out.row.bel) hlt
      have hil : i < ch.length := by rw [← C.out.len]; exact hlt
      have hnext := Lib.hid (fun h0 => run_next hp hR.out hil h0)
      have hstop := Lib.hid (fun h0 => run_stop hR.out hil h0)
      have hst := Lib.hid (fun W hW hW2 => step_any pnm pa1 pn1 pc1 pa2 pn2 pc2 pa3 pn3 pc3 D pt ai ni ci li hp hR.out.vals (ch.getD i (0, 0)).1 (ch.getD i (0, 0)).2 W hW hW2)
      generalize stepR D pt li (ch.getD i (0, 0)).1 (ch.getD i (0, 0)).2 = R at hnext hstop hst
      generalize (ch.getD i (0, 0)).1 = ce at hst x0
      generalize (ch.getD i (0, 0)).2 = cv at hst x1
      obtain ⟨⟨rp, rl⟩, re⟩ := R
      go_upto_region 11 with (fail)
      obtain ⟨X, hX⟩ : ∃ X, X = wr.alloc (.cells #[.int .i64 ce, .int .i64 cv] 31) := ⟨_, rfl⟩
      rw [← hX]
      have bX : Below wr.heap.size wr X := by rw [hX]; exact box_below _ _ _
      have hXc : Hid (Holds X wr.heap.size 31 #[.int .i64 ce, .int .i64 cv]) := Lib.hid (by rw [hX]; exact Holds.new _ _ _)
      replace hI := Lib.hid (hI.out.below bX)
      clear hX bX x0 x1 hB
      generalize wr.heap.size = gc at hXc ⊢
      have k0 := (Z0.out.below hI.out.row.bel Z0.out.lt).cell 0
      have k1 := (Z0.out.below hI.out.row.bel Z0.out.lt).cell 1
      have k2 := (Z0.out.below hI.out.row.bel Z0.out.lt).cell 2
      have k3 := (Z0.out.below hI.out.row.bel Z0.out.lt).cell 3
      have j0 := hI.out.box.cell 0
      have j1 := hI.out.box.cell 1
      have i0 := hXc.out.cell 0
      have i1 := hXc.out.cell 1
      simp at k0 k1 k2 k3 j0 j1 i0 i1
      go_wp2_with fail
      with_reducible refine (hst.out _ (P.out.below hI.out.row.bel) hI.out.sl).mono ?_
      rintro e5 W5 ⟨a5, n5, c5, rfl, s5, b5, f5⟩
      have hap := Lib.hid (apart_new (l := rl) f5 hI.out.row)
      have s5' := Lib.hid s5
      replace hI := Lib.hid (hI.out.below b5)
      clear k0 k1 k2 k3 j0 j1 i0 i1 b5 f5 s5 hst hXc
      go_upto_region 12 with (fail)
      obtain ⟨Y, hY⟩ : ∃ Y, Y = W5.alloc (.cells #[.int .i64 rp, .slice a5 n5 c5] 29) := ⟨_, rfl⟩
      rw [← hY]
      have bY : Below W5.heap.size W5 Y := by rw [hY]; exact box_below _ _ _
      have hYc : Hid (Holds Y W5.heap.size 29 #[.int .i64 rp, .slice a5 n5 c5]) := Lib.hid (by rw [hY]; exact Holds.new _ _ _)
      replace hI := Lib.hid (hI.out.below bY)
      replace s5' := Lib.hid (s5'.out.below bY)
      clear hY bY
      generalize W5.heap.size = gy at hYc ⊢
      by_cases h0 : re = 0
      · subst h0
        have hR2 := Lib.hid (hnext.out rfl)
        have y0 := hYc.out.cell 0
        have y1 := hYc.out.cell 1
        have j0 := hI.out.box.cell 0
        have j1 := hI.out.box.cell 1
        have f0 := hI.out.box.free 0
        have f1 := hI.out.box.free 1
        simp at y0 y1 j0 j1
        go_upto_region 15 with (fail)
        replace hI := Lib.hid (hI.out.set rp s5'.out hap.out)
        obtain ⟨V, hV⟩ : ∃ V, V = (Y.setCell ⟨W4.heap.size, 0, none⟩ (.int .i64 rp)).setCell ⟨W4.heap.size, 1, none⟩ (.slice a5 n5 c5) := ⟨_, rfl⟩
        rw [← hV] at hI ⊢
        clear hV y0 y1 j0 j1 f0 f1 hYc s5' hap
        have j0 := hI.out.box.cell 0
        have j1 := hI.out.box.cell 1
        simp at j0 j1
        go_wp2_with (at_builtin; refine wpList_append_loop hI.out rfl _ _ rfl rfl rfl (by have := hR.out.len; omega) ?_; intro gr' cap' W' hI2; replace hI2 := Lib.hid hI2; clear j0 j1)
        go_roundw
        case rel => exact ⟨i + 1, gr', cap', L ++ [(rp, rl)], _, rp, a5, n5, c5, rl, by omega, by go_num, by simp, hI2, hR2⟩
        case measure => simp [intOf]; omega
      · obtain ⟨hs1, hs2⟩ := hstop.out h0
        have hsb := Lib.hid (sts_row hI.out.row)
        rw [← hs1] at hsb
        have hs2' := Lib.hid hs2
        have hs1' := Lib.hid hs1
        go_wp2
        exact bodyPost_ret (results_tmp2 rfl _ _ _) rfl ⟨_, _, _, by rw [hs2'.out]; rfl, by have q := hsb.out; rw [hs1'.out] at q ⊢; exact q, BL.out.trans (hI.out.row.bel.mono BL.out.size)⟩
    · obtain ⟨hs1, hs2⟩ := run_end hR.out (show i = ch.length by rw [← C.out.len]; omega)
      have hsb := Lib.hid (sts_row hI.out.row)
      have hs2' := Lib.hid hs2
      have hs1' := Lib.hid hs1
      clear hs1 hs2
      go_wp2
      exact bodyPost_ret (results_tmp2 rfl _ _ _) rfl ⟨_, _, _, by rw [hs2'.out]; rfl, by rw [hs1'.out]; exact hsb.out, BL.out.trans (hI.out.row.bel.mono BL.out.size)⟩
end Go.Proofs.YtjdfjekonnkglaaDoor
namespace Go.Proofs.YtjdfjekonnkglaaDoor
open Go.RowKit
set_option linter.unusedVariables false
set_option linter.unusedSimpArgs false
def spotX : SpotD := ⟨⟨#[109, 97, 105, 110]⟩, ⟨#[97, 46, 103, 111]⟩, 3⟩
def smallD : PD := ⟨⟨#[112]⟩, [⟨#[105]⟩, ⟨#[110]⟩], [spotX, spotX, spotX, spotX, spotX], [⟨0, 1, 2, 1, 0, 0, 0⟩, ⟨1, 2, 4, 1, 2, -1, 0⟩, ⟨2, 1, 2, 1, 1, 1, 0⟩, ⟨1, 3, 5, 0, 1, 0, 0⟩]⟩
def PrE (D : PD) (w : World) (e : Ending) (w' : World) : Prop := ∃ p : PV, e = .returned (.agg p.cells) ∧ PrA w' p D ∧ Below w.heap.size w w'
theorem info_prog : (Tryd.prog.info? 26).map (·.size) = some 4 := by kernel_rfl
theorem seesT_cells {B : Nat} {w : World} {a : Option Addr} {l : List ByteArray} (h : SeesC B w a (txts l)) : SeesT B w a l := by
  rcases h with h | ⟨b, off, rfl, hB, hc⟩
  · left
    cases l with
    | nil => rfl
    | cons x l => cases h
  · exact .inr ⟨b, off, rfl, hB, fun i hi => hc i _ (by simp [txts, List.getD, hi])⟩
set_option maxRecDepth 100000 in
theorem small_mem (w : World) (C0 C1 : Array Value) (t1 : TypeId) (W2 W3 W4 W5 : World) (h2 : W2 = (w.alloc (.cells C0 26)).alloc (.cells C1 t1)) (h3 : W3 = W2.alloc (.cells #[.string ⟨#[105]⟩, .string ⟨#[110]⟩] 9)) (h4 : W4 = W3.alloc (.cells #[.string ⟨#[109, 97, 105, 110]⟩, .string ⟨#[97, 46, 103, 111]⟩, .int .i64 3, .string ⟨#[109, 97, 105, 110]⟩, .string ⟨#[97, 46, 103, 111]⟩, .int .i64 3, .string ⟨#[109, 97, 105, 110]⟩, .string ⟨#[97, 46, 103, 111]⟩, .int .i64 3, .string ⟨#[109, 97, 105, 110]⟩, .string ⟨#[97, 46, 103, 111]⟩, .int .i64 3, .string ⟨#[109, 97, 105, 110]⟩, .string ⟨#[97, 46, 103, 111]⟩, .int .i64 3] 52)) (h5 : W5 = W4.alloc (.cells #[.int .i64 0, .int .i64 1, .int .i64 2, .int .i64 1, .int .i64 0, .int .i64 0, .int .i64 0, .int .i64 1, .int .i64 2, .int .i64 4, .int .i64 1, .int .i64 2, .int .i64 (-1), .int .i64 0, .int .i64 2, .int .i64 1, .int .i64 2, .int .i64 1, .int .i64 1, .int .i64 1, .int .i64 0, .int .i64 1, .int .i64 3, .int .i64 5, .int .i64 0, .int .i64 1, .int .i64 0, .int .i64 0] 56)) :
    Holds W5 w.heap.size 26 C0 ∧ PrA W5 ⟨⟨#[112]⟩, some ⟨w.heap.size + 1 + 1, 0, none⟩, 2, 2, some ⟨w.heap.size + 1 + 1 + 1, 0, none⟩, 5, 5, some ⟨w.heap.size + 1 + 1 + 1 + 1, 0, none⟩, 4, 4⟩ smallD ∧ Below w.heap.size w W5 := by
  have z2 : W2.heap.size = w.heap.size + 1 + 1 := by rw [h2]; simp
  have z3 : W3.heap.size = w.heap.size + 1 + 1 + 1 := by rw [h3]; simp [z2]
  have z4 : W4.heap.size = w.heap.size + 1 + 1 + 1 + 1 := by rw [h4]; simp [z3]
  have b2 : Below w.heap.size w W2 := by rw [h2]; exact box2_below _ _ _ _ _
  have b3 : Below W2.heap.size W2 W3 := by rw [h3]; exact box_below _ _ _
  have b4 : Below W3.heap.size W3 W4 := by rw [h4]; exact box_below _ _ _
  have b5 : Below W4.heap.size W4 W5 := by rw [h5]; exact box_below _ _ _
  have H0 : Holds W2 w.heap.size 26 C0 := by rw [h2]; exact (Holds.new w _ _).alloc _
  have s3 : SeesC W3.heap.size W3 (some ⟨w.heap.size + 1 + 1, 0, none⟩) (txts [⟨#[105]⟩, ⟨#[110]⟩]) := by
    have q := seesC_lit W2 9 #[.string ⟨#[105]⟩, .string ⟨#[110]⟩]
    rw [← h3, z2] at q
    exact q
  have s4 : SeesC W4.heap.size W4 (some ⟨w.heap.size + 1 + 1 + 1, 0, none⟩) (smallD.spots.flatMap spotC) := by
    have q := seesC_lit W3 52 #[.string ⟨#[109, 97, 105, 110]⟩, .string ⟨#[97, 46, 103, 111]⟩, .int .i64 3, .string ⟨#[109, 97, 105, 110]⟩, .string ⟨#[97, 46, 103, 111]⟩, .int .i64 3, .string ⟨#[109, 97, 105, 110]⟩, .string ⟨#[97, 46, 103, 111]⟩, .int .i64 3, .string ⟨#[109, 97, 105, 110]⟩, .string ⟨#[97, 46, 103, 111]⟩, .int .i64 3, .string ⟨#[109, 97, 105, 110]⟩, .string ⟨#[97, 46, 103, 111]⟩, .int .i64 3]
    rw [← h4, z3] at q
    exact q
  have s5 : SeesC W5.heap.size W5 (some ⟨w.heap.size + 1 + 1 + 1 + 1, 0, none⟩) (smallD.edges.flatMap edgeC) := by
    have q := seesC_lit W4 56 #[.int .i64 0, .int .i64 1, .int .i64 2, .int .i64 1, .int .i64 0, .int .i64 0, .int .i64 0, .int .i64 1, .int .i64 2, .int .i64 4, .int .i64 1, .int .i64 2, .int .i64 (-1), .int .i64 0, .int .i64 2, .int .i64 1, .int .i64 2, .int .i64 1, .int .i64 1, .int .i64 1, .int .i64 0, .int .i64 1, .int .i64 3, .int .i64 5, .int .i64 0, .int .i64 1, .int .i64 0, .int .i64 0]
    rw [← h5, z4] at q
    exact q
  have c3 := (b4.mono (Nat.le_refl _)).trans (b5.mono b4.size)
  refine ⟨((H0.below b3 H0.lt).below b4 (H0.below b3 H0.lt).lt).below b5 ((H0.below b3 H0.lt).below b4 (H0.below b3 H0.lt).lt).lt, ⟨rfl, ⟨rfl, Nat.le_refl _, by show (2 : Nat) ≤ maxLen; unfold maxLen; omega, seesT_cells ((s3.below c3).mono c3.size)⟩, ⟨rfl, Nat.le_refl _, by show (5 : Nat) ≤ maxLen; unfold maxLen; omega, (s4.below b5).mono b5.size⟩, ⟨rfl, Nat.le_refl _, by show (4 : Nat) ≤ maxLen; unfold maxLen; omega, s5⟩⟩, ?_⟩
  exact ((b2.trans (b3.mono b2.size)).trans ((b4.mono (Nat.le_trans b2.size b3.size)))).trans (b5.mono (Nat.le_trans b2.size (Nat.le_trans b3.size b4.size)))
set_option maxRecDepth 100000 in
set_option maxHeartbeats 4000000 in
theorem small_any (w : World) : Calls Tryd.prog 18 #[] w (PrE smallD w) := by
  go_enter Tryd.func18, Tryd.ntmps18
  go_wp2
  obtain ⟨m1, m2, m3⟩ := small_mem w _ _ _ _ _ _ _ rfl rfl rfl rfl
  exact bodyPost_ret (results_cell_row rfl _ _ w.heap.size 26 _ (0, 0) _ rfl m1 Tryd.underlying26 rfl info_prog) rfl ⟨_, rfl, m2, m3⟩
end Go.Proofs.YtjdfjekonnkglaaDoor
namespace Go.Proofs.YtjdfjekonnkglaaDoor
open Go.RowKit
set_option linter.unusedVariables false
def runT (D : PD) (l : List Int) (ch : List (Int × Int)) : List (Int × List Int) × Int := if progB D = true then (if valsB l D.vars.length = true then ((0, l) :: (runL D 0 l ch).1, (runL D 0 l ch).2) else ([], 1)) else ([], 110)
theorem run_any (pnm : ByteArray) (pa1 : Option Addr) (pn1 pc1 : Nat) (pa2 : Option Addr) (pn2 pc2 : Nat) (pa3 : Option Addr) (pn3 pc3 : Nat) (D : PD) (a : Option Addr) (n c : Nat) (l : List Int) (ca : Option Addr) (cn cc : Nat) (ch : List (Int × Int)) (w : World) (h : PrA w ⟨pnm, pa1, pn1, pc1, pa2, pn2, pc2, pa3, pn3, pc3⟩ D) (hs : SL w a n c l) (hc : RO chC w ca cn cc ch) (hcn : cn ≤ 1000) (hn : n ≤ 1000) : Calls Tryd.prog 14 #[.agg #[.string pnm, .slice pa1 pn1 pc1, .slice pa2 pn2 pc2, .slice pa3 pn3 pc3], .slice a n c, .slice ca cn cc] w (RunE (runT D l ch).1 (runT D l ch).2 w) := by
  unfold runT
  by_cases hp : progB D = true
  · rw [if_pos hp]
    by_cases hv : valsB l D.vars.length = true
    · rw [if_pos hv]
      exact run_go pnm pa1 pn1 pc1 pa2 pn2 pc2 pa3 pn3 pc3 D a n c l ca cn cc ch w h hs hc hcn hp hv hn
    · rw [if_neg hv]
      exact run_bad pnm pa1 pn1 pc1 pa2 pn2 pc2 pa3 pn3 pc3 D a n c l ca cn cc ch w h hs hc hcn hp (by simpa using hv)
  · rw [if_neg hp]
    exact run_no pnm pa1 pn1 pc1 pa2 pn2 pc2 pa3 pn3 pc3 D a n c l ca cn cc ch w h hs hc hcn (by simpa using hp)
set_option maxRecDepth 100000
def noD : PD := ⟨⟨#[]⟩, [], [], []⟩
def fourS : List (Int × List Int) := [(0, [5, 1]), (1, [0, 1]), (2, [0, 1]), (1, [1, 1])]
theorem four_run : runT smallD [5, 1] [(0, 0), (1, 0), (2, 0), (1, 0)] = (fourS, 130) := by kernel_rfl
theorem four_step : stepS smallD 1 [-1, 0] 3 0 = ((0, []), 131) := by kernel_rfl
theorem no_run : runT noD [] [] = ([], 110) := by kernel_rfl
theorem four_right : (progB smallD && stateB smallD 0 [5, 1]) = true := by kernel_rfl
theorem no_right : (progB smallD && stateB smallD 0 []) = false := by kernel_rfl
theorem four_sameR : sameT 1 1 [1, 1] [1, 1] = true := by kernel_rfl
theorem four_same0 : sameT 0 0 [5, 1] [5, 1] = true := by kernel_rfl
end Go.Proofs.YtjdfjekonnkglaaDoor
namespace Go.Proofs.YtjdfjekonnkglaaDoor
open Go.RowKit
set_option linter.unusedVariables false
set_option linter.unusedSimpArgs false
theorem rsl_lit (w : World) (l : List Int) (n : Nat) (hn : n = l.length) (hm : n ≤ 1000) (cs : Array Value) (hc : cs = (nums .i64 l).toArray) : SL (w.alloc (.cells cs 3)) (some ⟨w.heap.size, 0, none⟩) n n l := by
  subst hn
  exact ⟨rfl, Nat.le_refl _, by omega, by have := sees_new .i64 w 3 l cs hc; simpa using this⟩
theorem rch_lit (w : World) : RO chC (w.alloc (.cells #[.int .i64 0, .int .i64 0, .int .i64 1, .int .i64 0, .int .i64 2, .int .i64 0, .int .i64 1, .int .i64 0] 31)) (some ⟨w.heap.size, 0, none⟩) 4 4 [(0, 0), (1, 0), (2, 0), (1, 0)] :=
  ⟨rfl, Nat.le_refl _, by unfold maxLen; omega, seesC_lit w 31 #[.int .i64 0, .int .i64 0, .int .i64 1, .int .i64 0, .int .i64 2, .int .i64 0, .int .i64 1, .int .i64 0]⟩
structure LvR (w : World) (g : Nat) (pnm : ByteArray) (pa1 : Option Addr) (pn1 pc1 : Nat) (pa2 : Option Addr) (pn2 pc2 : Nat) (pa3 : Option Addr) (pn3 pc3 : Nat) (W : World) : Prop where
  pr : PrA W ⟨pnm, pa1, pn1, pc1, pa2, pn2, pc2, pa3, pn3, pc3⟩ smallD
  box : Holds W g 26 #[.string pnm, .slice pa1 pn1 pc1, .slice pa2 pn2 pc2, .slice pa3 pn3 pc3]
  bel : Below w.heap.size w W
theorem LvR.below {w : World} {g : Nat} {pnm : ByteArray} {pa1 : Option Addr} {pn1 pc1 : Nat} {pa2 : Option Addr} {pn2 pc2 : Nat} {pa3 : Option Addr} {pn3 pc3 : Nat} {W W' : World} (h : LvR w g pnm pa1 pn1 pc1 pa2 pn2 pc2 pa3 pn3 pc3 W) (hb : Below W.heap.size W W') : LvR w g pnm pa1 pn1 pc1 pa2 pn2 pc2 pa3 pn3 pc3 W' :=
  ⟨h.pr.below hb, h.box.below hb h.box.lt, h.bel.trans (hb.mono h.bel.size)⟩
theorem sts_at {W : World} {bl n c : Nat} {L : List (Int × List Int)} (h : StsL W (some ⟨bl, 0, none⟩) n c L) {i : Nat} (hi : i < L.length) : bl < W.heap.size ∧ ∃ ai ni ci, W.cell? ⟨bl, i * 2, none⟩ = some (.int .i64 (L.getD i (0, [])).1) ∧ W.cell? ⟨bl, i * 2 + 1, none⟩ = some (.slice ai ni ci) ∧ SL W ai ni ci (L.getD i (0, [])).2 := by
  rcases h.2.2 with e | ⟨b, e, hb, hc⟩
  · rw [e] at hi; simp at hi
  · injection e with e
    injection e with e
    subst e
    exact ⟨hb, hc i hi⟩
theorem sts_addr {W : World} {a : Option Addr} {n c : Nat} {L : List (Int × List Int)} (h : StsL W a n c L) (hL : L ≠ []) : ∃ bl, a = some ⟨bl, 0, none⟩ := by
  rcases h.2.2 with e | ⟨b, e, _, _⟩
  · exact absurd e hL
  · exact ⟨b, e⟩
set_option maxRecDepth 100000 in
set_option maxHeartbeats 16000000 in
theorem rlives_any (w : World) : Calls Tryd.prog 6 #[] w (Gives (.bool true) w) := by
  have q1 := Lib.hid (small_any w)
  go_enter Tryd.func6, Tryd.ntmps6
  go_wp2_with fail
  with_reducible refine q1.out.mono ?_
  rintro e u1 ⟨⟨pnm, pa1, pn1, pc1, pa2, pn2, pc2, pa3, pn3, pc3⟩, he, hp, hb1⟩
  replace he := show e = .returned (.agg #[.string pnm, .slice pa1 pn1 pc1, .slice pa2 pn2 pc2, .slice pa3 pn3 pc3]) from he
  subst he
  obtain ⟨u2, hu2⟩ : ∃ u2, u2 = u1.alloc (.cells #[.string pnm, .slice pa1 pn1 pc1, .slice pa2 pn2 pc2, .slice pa3 pn3 pc3] 26) := ⟨_, rfl⟩
  have b2 : Below u1.heap.size u1 u2 := by rw [hu2]; exact box_below _ _ _
  have L0 : LvR w u1.heap.size pnm pa1 pn1 pc1 pa2 pn2 pc2 pa3 pn3 pc3 u2 := ⟨hp.below b2, by rw [hu2]; exact Holds.new _ _ _, hb1.trans (b2.mono hb1.size)⟩
  have L := Lib.hid L0
  have hu2' := Lib.hid hu2
  clear hu2 b2 L0 hp hb1 q1
  go_upto_region 2 with (fail)
  rw [← hu2'.out]
  clear hu2'
  have k0 := L.out.box.cell 0
  have k1 := L.out.box.cell 1
  have k2 := L.out.box.cell 2
  have k3 := L.out.box.cell 3
  simp at k0 k1 k2 k3
  obtain ⟨u3, hu3⟩ : ∃ u3, u3 = (u2.alloc (.cells #[.int .i64 5, .int .i64 1] 3)).alloc (.cells #[.int .i64 0, .int .i64 0, .int .i64 1, .int .i64 0, .int .i64 2, .int .i64 0, .int .i64 1, .int .i64 0] 31) := ⟨_, rfl⟩
  have b3 : Below u2.heap.size u2 u3 := by rw [hu3]; exact box2_below _ _ _ _ _
  have sv : SL u3 (some ⟨u2.heap.size, 0, none⟩) 2 2 [5, 1] := by rw [hu3]; exact (rsl_lit u2 [5, 1] 2 rfl (by omega) _ rfl).below (box_below _ _ _)
  have sc : RO chC u3 (some ⟨u2.heap.size + 1, 0, none⟩) 4 4 [(0, 0), (1, 0), (2, 0), (1, 0)] := by rw [hu3]; have q := rch_lit (u2.alloc (.cells #[.int .i64 5, .int .i64 1] 3)); simpa using q
  have qr := run_any pnm pa1 pn1 pc1 pa2 pn2 pc2 pa3 pn3 pc3 smallD _ 2 2 [5, 1] _ 4 4 _ u3 ((L.out.below b3).pr) sv sc (by omega) (by omega)
  rw [four_run] at qr
  have qr' := Lib.hid qr
  replace L := Lib.hid (L.out.below b3)
  have hu3' := Lib.hid hu3
  clear hu3 b3 sv sc qr
  go_wp2_with fail
  rw [← hu3'.out]
  clear hu3' k0 k1 k2 k3
  with_reducible refine qr'.out.mono ?_
  rintro e u4 ⟨al, nl, cl, rfl, hst, b4⟩
  obtain rfl : nl = 4 := hst.1
  obtain ⟨bl, rfl⟩ := sts_addr hst (by simp [fourS])
  replace L := Lib.hid (L.out.below b4)
  have T := Lib.hid hst
  clear b4 hst qr'
  go_upto_region 3 with (fail)
  have k0 := L.out.box.cell 0
  have k1 := L.out.box.cell 1
  have k2 := L.out.box.cell 2
  have k3 := L.out.box.cell 3
  simp at k0 k1 k2 k3
  obtain ⟨u5, hu5⟩ : ∃ u5, u5 = u4.alloc (.cells #[.int .i64 (-1), .int .i64 0] 3) := ⟨_, rfl⟩
  have b5 : Below u4.heap.size u4 u5 := by rw [hu5]; exact box_below _ _ _
  have sv : SL u5 (some ⟨u4.heap.size, 0, none⟩) 2 2 [-1, 0] := by rw [hu5]; exact rsl_lit u4 [-1, 0] 2 rfl (by omega) _ rfl
  have qr := runStep_any pnm pa1 pn1 pc1 pa2 pn2 pc2 pa3 pn3 pc3 smallD 1 _ 2 2 [-1, 0] 3 0 u5 ((L.out.below b5).pr) sv
  rw [four_step] at qr
  have qr' := Lib.hid qr
  replace L := Lib.hid (L.out.below b5)
  replace T := Lib.hid (T.out.below b5)
  have hu5' := Lib.hid hu5
  clear hu5 b5 sv qr
  go_wp2_with fail
  rw [← hu5'.out]
  clear hu5' k0 k1 k2 k3
  with_reducible refine qr'.out.mono ?_
  rintro e u6 ⟨a6, n6, c6, rfl, s6, b6, -⟩
  obtain rfl : n6 = 0 := s6.len
  obtain ⟨u7, hu7⟩ : ∃ u7, u7 = u6.alloc (.cells #[.int .i64 0, .slice a6 0 c6] 29) := ⟨_, rfl⟩
  have b7 : Below u6.heap.size u6 u7 := by rw [hu7]; exact box_below _ _ _
  have S4 : Hid (Holds u7 u6.heap.size 29 #[.int .i64 0, .slice a6 0 c6]) := Lib.hid (by rw [hu7]; exact Holds.new _ _ _)
  replace L := Lib.hid ((L.out.below b6).below b7)
  replace T := Lib.hid ((T.out.below b6).below b7)
  have hu7' := Lib.hid hu7
  clear b6 hu7 b7 s6 qr'
  go_upto_region 4 with (fail)
  rw [← hu7'.out]
  clear hu7'
  generalize u6.heap.size = g4 at S4 ⊢
  have qr := run_any ⟨#[]⟩ none 0 0 none 0 0 none 0 0 noD none 0 0 [] none 0 0 [] u7 ⟨rfl, ⟨rfl, Nat.le_refl _, by show (0 : Nat) ≤ maxLen; unfold maxLen; omega, .inl rfl⟩, .nil _, .nil _⟩ (SL.nil _) (RO.nil _) (by omega) (by omega)
  rw [no_run] at qr
  have qr' := Lib.hid qr
  clear qr
  go_wp2_with fail
  with_reducible refine qr'.out.mono ?_
  rintro e u8 ⟨a8, n8, c8, rfl, h8, b8⟩
  replace L := Lib.hid (L.out.below b8)
  replace T := Lib.hid (T.out.below b8)
  replace S4 := Lib.hid (S4.out.below b8 S4.out.lt)
  clear b8 h8 qr'
  obtain ⟨hbl, a3, n3, c3, x6, x7, x8⟩ := sts_at T.out (i := 3) (by show (3 : Nat) < 4; omega)
  obtain ⟨-, a0, n0, c0, y0, y1, y2⟩ := sts_at T.out (i := 0) (by show (0 : Nat) < 4; omega)
  replace x6 := Lib.hid (show u8.cell? ⟨bl, 6, none⟩ = some (.int .i64 1) from x6)
  replace x7 := Lib.hid (show u8.cell? ⟨bl, 7, none⟩ = some (.slice a3 n3 c3) from x7)
  replace x8 := Lib.hid (show SL u8 a3 n3 c3 [1, 1] from x8)
  replace y0 := Lib.hid (show u8.cell? ⟨bl, 0, none⟩ = some (.int .i64 0) from y0)
  replace y1 := Lib.hid (show u8.cell? ⟨bl, 1, none⟩ = some (.slice a0 n0 c0) from y1)
  replace y2 := Lib.hid (show SL u8 a0 n0 c0 [5, 1] from y2)
  have LF : ∀ W, Below u8.heap.size u8 W → LvR w u1.heap.size pnm pa1 pn1 pc1 pa2 pn2 pc2 pa3 pn3 pc3 W := fun W hW => L.out.below hW
  have SF3 : ∀ W, Below u8.heap.size u8 W → SL W a3 n3 c3 [1, 1] := fun W hW => x8.out.below hW
  have SF0 : ∀ W, Below u8.heap.size u8 W → SL W a0 n0 c0 [5, 1] := fun W hW => y2.out.below hW
  have z0 : ∀ W, Below u8.heap.size u8 W → W.cell? ⟨u1.heap.size, 0, none⟩ = some (.string pnm) := fun W hW => (L.out.box.below hW L.out.box.lt).cell 0
  have z1 : ∀ W, Below u8.heap.size u8 W → W.cell? ⟨u1.heap.size, 1, none⟩ = some (.slice pa1 pn1 pc1) := fun W hW => (L.out.box.below hW L.out.box.lt).cell 1
  have z2 : ∀ W, Below u8.heap.size u8 W → W.cell? ⟨u1.heap.size, 2, none⟩ = some (.slice pa2 pn2 pc2) := fun W hW => (L.out.box.below hW L.out.box.lt).cell 2
  have z3 : ∀ W, Below u8.heap.size u8 W → W.cell? ⟨u1.heap.size, 3, none⟩ = some (.slice pa3 pn3 pc3) := fun W hW => (L.out.box.below hW L.out.box.lt).cell 3
  have s1 : ∀ W, Below u8.heap.size u8 W → W.cell? ⟨g4, 1, none⟩ = some (.slice a6 0 c6) := fun W hW => (S4.out.below hW S4.out.lt).cell 1
  have t6 : ∀ W, Below u8.heap.size u8 W → W.cell? ⟨bl, 6, none⟩ = some (.int .i64 1) := fun W hW => (hW.cell (p := ⟨bl, 6, none⟩) hbl).trans x6.out
  have t7 : ∀ W, Below u8.heap.size u8 W → W.cell? ⟨bl, 7, none⟩ = some (.slice a3 n3 c3) := fun W hW => (hW.cell (p := ⟨bl, 7, none⟩) hbl).trans x7.out
  have t0 : ∀ W, Below u8.heap.size u8 W → W.cell? ⟨bl, 0, none⟩ = some (.int .i64 0) := fun W hW => (hW.cell (p := ⟨bl, 0, none⟩) hbl).trans y0.out
  have t1 : ∀ W, Below u8.heap.size u8 W → W.cell? ⟨bl, 1, none⟩ = some (.slice a0 n0 c0) := fun W hW => (hW.cell (p := ⟨bl, 1, none⟩) hbl).trans y1.out
  have QA : Hid (∀ a2 n2 c2 W, SL W a3 n3 c3 [1, 1] → SL W a2 n2 c2 [1, 1] → Calls Tryd.prog 9 #[.agg #[.int .i64 1, .slice a3 n3 c3], .agg #[.int .i64 1, .slice a2 n2 c2]] W (Gives (.bool true) W)) := Lib.hid (fun a2 n2 c2 W h1 h2 => by have q := rSame_any 1 1 a3 a2 n3 n2 c3 c2 [1, 1] [1, 1] W h1 h2; rw [four_sameR] at q; exact q)
  have QB : Hid (∀ a2 n2 c2 W, SL W a0 n0 c0 [5, 1] → SL W a2 n2 c2 [5, 1] → Calls Tryd.prog 8 #[.agg #[.int .i64 0, .slice a0 n0 c0], .agg #[.int .i64 0, .slice a2 n2 c2]] W (Gives (.bool true) W)) := Lib.hid (fun a2 n2 c2 W h1 h2 => by have q := runSame_any 0 0 a0 a2 n0 n2 c0 c2 [5, 1] [5, 1] W h1 h2; rw [four_same0] at q; exact q)
  have QR : Hid (∀ W, LvR w u1.heap.size pnm pa1 pn1 pc1 pa2 pn2 pc2 pa3 pn3 pc3 W → SL W a0 n0 c0 [5, 1] → Calls Tryd.prog 11 #[.agg #[.string pnm, .slice pa1 pn1 pc1, .slice pa2 pn2 pc2, .slice pa3 pn3 pc3], .agg #[.int .i64 0, .slice a0 n0 c0]] W (Gives (.bool true) W)) := Lib.hid (fun W h h2 => by have q := runRight_any pnm pa1 pn1 pc1 pa2 pn2 pc2 pa3 pn3 pc3 smallD 0 a0 n0 c0 [5, 1] W h.pr h2; rw [four_right] at q; exact q)
  have QN : Hid (∀ W, LvR w u1.heap.size pnm pa1 pn1 pc1 pa2 pn2 pc2 pa3 pn3 pc3 W → Calls Tryd.prog 11 #[.agg #[.string pnm, .slice pa1 pn1 pc1, .slice pa2 pn2 pc2, .slice pa3 pn3 pc3], .agg #[.int .i64 0, .slice none 0 0]] W (Gives (.bool false) W)) := Lib.hid (fun W h => by have q := runRight_any pnm pa1 pn1 pc1 pa2 pn2 pc2 pa3 pn3 pc3 smallD 0 none 0 0 [] W h.pr (SL.nil _); rw [no_right] at q; exact q)
  clear L S4 T x6 x7 x8 y0 y1 y2
  go_wp2
  refine wp_drawn (by kernel_rfl) (fun hHeld => ?_)
  refine wpAnyH_take (i := 0) (oi := { dst := some 33, op := Go.Op.move (Go.Operand.tmp 3), type := 34, pos := "law.go:19", after := #[], guard := none }) (v := ?v1) rfl (by as_aux_lemma => kernel_rfl) (by as_aux_lemma => kernel_rfl) (by as_aux_lemma => kernel_rfl) (fun _ _ _ h => h) (Or.inl ⟨by kernel_rfl, ?h1⟩) (by assumption) ?r1
  case h1 => (intro w hSw; (try dsimp only at hSw); go_simp; try with_reducible rfl)
  try simp only [Act.put, List.setIfInBounds_toArray, List.set_cons_zero, List.set_cons_succ]
  refine wpAnyH_take (i := 1) (oi := { dst := some 34, op := Go.Op.binOp Go.BinOp.eql 34 (Go.Operand.tmp 33) (Go.Operand.const (Go.Value.int Go.IntKind.i64 130)) 34, type := 4, pos := "law.go:19", after := #[{ on := 0, ground := Go.Ground.data }], guard := none }) (v := ?v2) rfl (by as_aux_lemma => kernel_rfl) (by as_aux_lemma => kernel_rfl) (by as_aux_lemma => kernel_rfl) (fun _ _ _ h => h) (Or.inl ⟨by kernel_rfl, ?h2⟩) (by assumption) ?r2
  case h2 => (intro w hSw; (try dsimp only at hSw); go_simp; try with_reducible rfl)
  try simp only [Act.put, List.setIfInBounds_toArray, List.set_cons_zero, List.set_cons_succ]
  refine wpAnyH_take (i := 2) (oi := { dst := some 35, op := Go.Op.move (Go.Operand.tmp 34), type := 4, pos := "law.go:19", after := #[{ on := 1, ground := Go.Ground.data }], guard := none }) (v := ?v3) rfl (by as_aux_lemma => kernel_rfl) (by as_aux_lemma => kernel_rfl) (by as_aux_lemma => kernel_rfl) (fun _ _ _ h => h) (Or.inl ⟨by kernel_rfl, ?h3⟩) (by assumption) ?r3
  case h3 => (intro w hSw; (try dsimp only at hSw); go_simp; try with_reducible rfl)
  try simp only [Act.put, List.setIfInBounds_toArray, List.set_cons_zero, List.set_cons_succ]
  refine wpAnyH_take (i := 3) (oi := { dst := some 36, op := Go.Op.move (Go.Operand.tmp 2), type := 42, pos := "law.go:19", after := #[{ on := 2, ground := Go.Ground.guard }], guard := some (2, true) }) (v := ?v4) rfl (by as_aux_lemma => kernel_rfl) (by as_aux_lemma => kernel_rfl) (by as_aux_lemma => kernel_rfl) (fun _ _ _ h => h) (Or.inl ⟨by kernel_rfl, ?h4⟩) (by assumption) ?r4
  case h4 => (intro w hSw; (try dsimp only at hSw); go_simp; try with_reducible rfl)
  try simp only [Act.put, List.setIfInBounds_toArray, List.set_cons_zero, List.set_cons_succ]
  refine wpAnyH_take (i := 4) (oi := { dst := some 37, op := Go.Op.call { callee := Go.Callee.builtin Go.Builtin.len, args := #[Go.Operand.tmp 36], argTypes := #[42] }, type := 3, pos := "law.go:19", after := #[{ on := 3, ground := Go.Ground.data }, { on := 2, ground := Go.Ground.guard }], guard := some (2, true) }) (v := ?v5) rfl (by as_aux_lemma => kernel_rfl) (by as_aux_lemma => kernel_rfl) (by as_aux_lemma => kernel_rfl) (fun _ _ _ h => h) (Or.inl ⟨by kernel_rfl, ?h5⟩) (by assumption) ?r5
  case h5 => (intro w hSw; (try dsimp only at hSw); go_simp; try with_reducible rfl)
  try simp only [Act.put, List.setIfInBounds_toArray, List.set_cons_zero, List.set_cons_succ]
  refine wpAnyH_take (i := 5) (oi := { dst := some 38, op := Go.Op.binOp Go.BinOp.eql 3 (Go.Operand.tmp 37) (Go.Operand.const (Go.Value.int Go.IntKind.i64 4)) 3, type := 4, pos := "law.go:19", after := #[{ on := 4, ground := Go.Ground.data }, { on := 2, ground := Go.Ground.guard }], guard := some (2, true) }) (v := ?v6) rfl (by as_aux_lemma => kernel_rfl) (by as_aux_lemma => kernel_rfl) (by as_aux_lemma => kernel_rfl) (fun _ _ _ h => h) (Or.inl ⟨by kernel_rfl, ?h6⟩) (by assumption) ?r6
  case h6 => (intro w hSw; (try dsimp only at hSw); go_simp; try with_reducible rfl)
  try simp only [Act.put, List.setIfInBounds_toArray, List.set_cons_zero, List.set_cons_succ]
  refine wpAnyH_take (i := 6) (oi := { dst := some 39, op := Go.Op.pick (Go.Operand.tmp 35) (Go.Operand.tmp 38) (Go.Operand.const (Go.Value.bool false)), type := 4, pos := "law.go:19", after := #[{ on := 2, ground := Go.Ground.data }, { on := 5, ground := Go.Ground.data }], guard := none }) (v := ?v7) rfl (by as_aux_lemma => kernel_rfl) (by as_aux_lemma => kernel_rfl) (by as_aux_lemma => kernel_rfl) (fun _ _ _ h => h) (Or.inl ⟨by kernel_rfl, ?h7⟩) (by assumption) ?r7
  case h7 => (intro w hSw; (try dsimp only at hSw); go_simp; try with_reducible rfl)
  try simp only [Act.put, List.setIfInBounds_toArray, List.set_cons_zero, List.set_cons_succ]
  refine wpAnyH_take (i := 7) (oi := { dst := some 40, op := Go.Op.move (Go.Operand.tmp 39), type := 4, pos := "law.go:19", after := #[{ on := 6, ground := Go.Ground.data }, { on := 2, ground := Go.Ground.chain }], guard := none }) (v := ?v8) rfl (by as_aux_lemma => kernel_rfl) (by as_aux_lemma => kernel_rfl) (by as_aux_lemma => kernel_rfl) (fun _ _ _ h => h) (Or.inl ⟨by kernel_rfl, ?h8⟩) (by assumption) ?r8
  case h8 => (intro w hSw; (try dsimp only at hSw); go_simp; try with_reducible rfl)
  try simp only [Act.put, List.setIfInBounds_toArray, List.set_cons_zero, List.set_cons_succ]
  refine wpAnyH_take (i := 8) (oi := { dst := some 41, op := Go.Op.move (Go.Operand.tmp 2), type := 42, pos := "law.go:19", after := #[{ on := 7, ground := Go.Ground.guard }], guard := some (7, true) }) (v := ?v9) rfl (by as_aux_lemma => kernel_rfl) (by as_aux_lemma => kernel_rfl) (by as_aux_lemma => kernel_rfl) (fun _ _ _ h => h) (Or.inl ⟨by kernel_rfl, ?h9⟩) (by assumption) ?r9
  case h9 => (intro w hSw; (try dsimp only at hSw); go_simp; try with_reducible rfl)
  try simp only [Act.put, List.setIfInBounds_toArray, List.set_cons_zero, List.set_cons_succ]
  refine wpAnyH_take (i := 9) (oi := { dst := some 42, op := Go.Op.indexAddr 42 (Go.Operand.tmp 41) (Go.Operand.const (Go.Value.int Go.IntKind.i64 3)), type := 0, pos := "law.go:19", after := #[{ on := 8, ground := Go.Ground.data }, { on := 7, ground := Go.Ground.guard }], guard := some (7, true) }) (v := ?v10) rfl (by as_aux_lemma => kernel_rfl) (by as_aux_lemma => kernel_rfl) (by as_aux_lemma => kernel_rfl) (fun _ _ _ h => h) (Or.inl ⟨by kernel_rfl, ?h10⟩) (by assumption) ?r10
  case h10 => (intro w hSw; (try dsimp only at hSw); go_simp; try with_reducible rfl)
  try simp only [Act.put, List.setIfInBounds_toArray, List.set_cons_zero, List.set_cons_succ]
  refine wpAnyH_take (i := 10) (oi := { dst := some 43, op := Go.Op.load 29 (Go.Operand.tmp 42), type := 29, pos := "law.go:19", after := #[{ on := 9, ground := Go.Ground.data }, { on := 7, ground := Go.Ground.guard }], guard := some (7, true) }) (v := ?v11) rfl (by as_aux_lemma => kernel_rfl) (by as_aux_lemma => kernel_rfl) (by as_aux_lemma => kernel_rfl) (fun _ _ _ h => h) (Or.inl ⟨by kernel_rfl, ?h11⟩) (by assumption) ?r11
  case h11 => (intro w hSw; (try dsimp only at hSw); go_simp; try with_reducible rfl)
  try simp only [Act.put, List.setIfInBounds_toArray, List.set_cons_zero, List.set_cons_succ]
  refine wpAnyH_ready (rs := [11]) (by as_aux_lemma => kernel_rfl) (by simp) ?_
  refine AllReadyH.cons (o := { dst := some 44, op := Go.Op.buildSlice 27 2 #[(0, Go.Operand.const (Go.Value.int Go.IntKind.i64 1)), (1, Go.Operand.const (Go.Value.int Go.IntKind.i64 1))], type := 27, pos := "law.go:19", after := #[{ on := 7, ground := Go.Ground.guard }], guard := some (7, true) }) rfl (fun K hK => ?_) AllReadyH.nil
  go_simp
  obtain ⟨v11, ht11⟩ : ∃ v11, v11 = (u8.alloc (.cells #[.int .i64 1, .int .i64 1] 3)).drew := ⟨_, rfl⟩
  have sXA0 : SL (u8.alloc (.cells #[.int .i64 1, .int .i64 1] 3)) (some ⟨u8.heap.size, 0, none⟩) 2 2 [1, 1] := rsl_lit _ _ 2 rfl (by omega) _ rfl
  have sXA' : SL v11 (some ⟨u8.heap.size, 0, none⟩) 2 2 [1, 1] := (by rw [ht11]; exact ⟨sXA0.len, sXA0.cap, sXA0.max, sXA0.sees⟩)
  have hB11 : Below u8.heap.size u8 v11 := (by rw [ht11]; exact hHeld.alloc hHeld.size (.cells #[.int .i64 1, .int .i64 1] 3))
  rw [← ht11]
  clear ht11 sXA0
  have XA : ∀ W, Below v11.heap.size v11 W → SL W (some ⟨u8.heap.size, 0, none⟩) 2 2 [1, 1] := fun W hW => sXA'.below hW
  refine hK.out _ _ (hB11) (fun hHeld => ?_)
  clear hK K
  try simp only [Act.put, List.setIfInBounds_toArray, List.set_cons_zero, List.set_cons_succ]
  refine wpAnyH_now hHeld (fun hHeld => ?_)
  replace LF := rebase LF (hB11)
  replace SF3 := rebase SF3 (hB11)
  replace SF0 := rebase SF0 (hB11)
  replace z0 := rebase z0 (hB11)
  replace z1 := rebase z1 (hB11)
  replace z2 := rebase z2 (hB11)
  replace z3 := rebase z3 (hB11)
  replace s1 := rebase s1 (hB11)
  replace t6 := rebase t6 (hB11)
  replace t7 := rebase t7 (hB11)
  replace t0 := rebase t0 (hB11)
  replace t1 := rebase t1 (hB11)
  refine wpAnyH_take (i := 12) (oi := { dst := some 45, op := Go.Op.build 29 #[(0, Go.Operand.const (Go.Value.int Go.IntKind.i64 1)), (1, Go.Operand.tmp 44)], type := 29, pos := "law.go:19", after := #[{ on := 11, ground := Go.Ground.data }, { on := 7, ground := Go.Ground.guard }], guard := some (7, true) }) (v := ?v12) rfl (by as_aux_lemma => kernel_rfl) (by as_aux_lemma => kernel_rfl) (by as_aux_lemma => kernel_rfl) (fun _ _ _ h => h) (Or.inl ⟨by kernel_rfl, ?h12⟩) (by assumption) ?r12
  case h12 => (intro w hSw; (try dsimp only at hSw); go_simp; try with_reducible rfl)
  try simp only [Act.put, List.setIfInBounds_toArray, List.set_cons_zero, List.set_cons_succ]
  refine wpAnyH_ready (rs := [13]) (by as_aux_lemma => kernel_rfl) (by simp) ?_
  refine AllReadyH.cons (o := { dst := some 46, op := Go.Op.call { callee := Go.Callee.value (Go.Operand.func 9), args := #[Go.Operand.tmp 43, Go.Operand.tmp 45], argTypes := #[29, 29] }, type := 4, pos := "law.go:19", after := #[{ on := 10, ground := Go.Ground.data }, { on := 12, ground := Go.Ground.data }, { on := 7, ground := Go.Ground.chain }, { on := 7, ground := Go.Ground.guard }], guard := some (7, true) }) rfl (fun K hK => ?_) AllReadyH.nil
  go_simp
  with_reducible refine (QA.out _ _ _ _ (SF3 _ hHeld) (XA _ hHeld)).mono ?_
  rintro e v13 ⟨rfl, b13⟩
  have hB13 := hHeld.trans (b13.mono hHeld.size)
  go_simp
  refine hK.out _ _ (hB13) (fun hHeld => ?_)
  clear hK K
  try simp only [Act.put, List.setIfInBounds_toArray, List.set_cons_zero, List.set_cons_succ]
  refine wpAnyH_now hHeld (fun hHeld => ?_)
  replace LF := rebase LF (hB13)
  replace SF3 := rebase SF3 (hB13)
  replace SF0 := rebase SF0 (hB13)
  replace z0 := rebase z0 (hB13)
  replace z1 := rebase z1 (hB13)
  replace z2 := rebase z2 (hB13)
  replace z3 := rebase z3 (hB13)
  replace s1 := rebase s1 (hB13)
  replace t6 := rebase t6 (hB13)
  replace t7 := rebase t7 (hB13)
  replace t0 := rebase t0 (hB13)
  replace t1 := rebase t1 (hB13)
  replace XA := rebase XA (hB13)
  refine wpAnyH_take (i := 14) (oi := { dst := some 47, op := Go.Op.pick (Go.Operand.tmp 40) (Go.Operand.tmp 46) (Go.Operand.const (Go.Value.bool false)), type := 4, pos := "law.go:19", after := #[{ on := 7, ground := Go.Ground.data }, { on := 13, ground := Go.Ground.data }], guard := none }) (v := ?v13) rfl (by as_aux_lemma => kernel_rfl) (by as_aux_lemma => kernel_rfl) (by as_aux_lemma => kernel_rfl) (fun _ _ _ h => h) (Or.inl ⟨by kernel_rfl, ?h13⟩) (by assumption) ?r13
  case h13 => (intro w hSw; (try dsimp only at hSw); go_simp; try with_reducible rfl)
  try simp only [Act.put, List.setIfInBounds_toArray, List.set_cons_zero, List.set_cons_succ]
  refine wpAnyH_take (i := 15) (oi := { dst := some 48, op := Go.Op.move (Go.Operand.tmp 47), type := 4, pos := "law.go:19", after := #[{ on := 14, ground := Go.Ground.data }, { on := 13, ground := Go.Ground.chain }], guard := none }) (v := ?v14) rfl (by as_aux_lemma => kernel_rfl) (by as_aux_lemma => kernel_rfl) (by as_aux_lemma => kernel_rfl) (fun _ _ _ h => h) (Or.inl ⟨by kernel_rfl, ?h14⟩) (by assumption) ?r14
  case h14 => (intro w hSw; (try dsimp only at hSw); go_simp; try with_reducible rfl)
  try simp only [Act.put, List.setIfInBounds_toArray, List.set_cons_zero, List.set_cons_succ]
  refine wpAnyH_take (i := 16) (oi := { dst := some 49, op := Go.Op.move (Go.Operand.tmp 5), type := 34, pos := "law.go:19", after := #[{ on := 15, ground := Go.Ground.guard }], guard := some (15, true) }) (v := ?v15) rfl (by as_aux_lemma => kernel_rfl) (by as_aux_lemma => kernel_rfl) (by as_aux_lemma => kernel_rfl) (fun _ _ _ h => h) (Or.inl ⟨by kernel_rfl, ?h15⟩) (by assumption) ?r15
  case h15 => (intro w hSw; (try dsimp only at hSw); go_simp; try with_reducible rfl)
  try simp only [Act.put, List.setIfInBounds_toArray, List.set_cons_zero, List.set_cons_succ]
  refine wpAnyH_take (i := 17) (oi := { dst := some 50, op := Go.Op.binOp Go.BinOp.eql 34 (Go.Operand.tmp 49) (Go.Operand.const (Go.Value.int Go.IntKind.i64 131)) 34, type := 4, pos := "law.go:19", after := #[{ on := 16, ground := Go.Ground.data }, { on := 15, ground := Go.Ground.guard }], guard := some (15, true) }) (v := ?v16) rfl (by as_aux_lemma => kernel_rfl) (by as_aux_lemma => kernel_rfl) (by as_aux_lemma => kernel_rfl) (fun _ _ _ h => h) (Or.inl ⟨by kernel_rfl, ?h16⟩) (by assumption) ?r16
  case h16 => (intro w hSw; (try dsimp only at hSw); go_simp; try with_reducible rfl)
  try simp only [Act.put, List.setIfInBounds_toArray, List.set_cons_zero, List.set_cons_succ]
  refine wpAnyH_take (i := 18) (oi := { dst := some 51, op := Go.Op.pick (Go.Operand.tmp 48) (Go.Operand.tmp 50) (Go.Operand.const (Go.Value.bool false)), type := 4, pos := "law.go:19", after := #[{ on := 15, ground := Go.Ground.data }, { on := 17, ground := Go.Ground.data }], guard := none }) (v := ?v17) rfl (by as_aux_lemma => kernel_rfl) (by as_aux_lemma => kernel_rfl) (by as_aux_lemma => kernel_rfl) (fun _ _ _ h => h) (Or.inl ⟨by kernel_rfl, ?h17⟩) (by assumption) ?r17
  case h17 => (intro w hSw; (try dsimp only at hSw); go_simp; try with_reducible rfl)
  try simp only [Act.put, List.setIfInBounds_toArray, List.set_cons_zero, List.set_cons_succ]
  refine wpAnyH_take (i := 19) (oi := { dst := some 52, op := Go.Op.move (Go.Operand.tmp 51), type := 4, pos := "law.go:19", after := #[{ on := 18, ground := Go.Ground.data }, { on := 15, ground := Go.Ground.chain }], guard := none }) (v := ?v18) rfl (by as_aux_lemma => kernel_rfl) (by as_aux_lemma => kernel_rfl) (by as_aux_lemma => kernel_rfl) (fun _ _ _ h => h) (Or.inl ⟨by kernel_rfl, ?h18⟩) (by assumption) ?r18
  case h18 => (intro w hSw; (try dsimp only at hSw); go_simp; try with_reducible rfl)
  try simp only [Act.put, List.setIfInBounds_toArray, List.set_cons_zero, List.set_cons_succ]
  refine wpAnyH_take (i := 20) (oi := { dst := some 53, op := Go.Op.fieldAddr 29 (Go.Operand.tmp 4) 1, type := 0, pos := "law.go:19", after := #[{ on := 19, ground := Go.Ground.guard }], guard := some (19, true) }) (v := ?v19) rfl (by as_aux_lemma => kernel_rfl) (by as_aux_lemma => kernel_rfl) (by as_aux_lemma => kernel_rfl) (fun _ _ _ h => h) (Or.inl ⟨by kernel_rfl, ?h19⟩) (by assumption) ?r19
  case h19 => (intro w hSw; (try dsimp only at hSw); go_simp; try with_reducible rfl)
  try simp only [Act.put, List.setIfInBounds_toArray, List.set_cons_zero, List.set_cons_succ]
  refine wpAnyH_take (i := 21) (oi := { dst := some 54, op := Go.Op.load 27 (Go.Operand.tmp 53), type := 27, pos := "law.go:19", after := #[{ on := 20, ground := Go.Ground.data }, { on := 19, ground := Go.Ground.guard }], guard := some (19, true) }) (v := ?v20) rfl (by as_aux_lemma => kernel_rfl) (by as_aux_lemma => kernel_rfl) (by as_aux_lemma => kernel_rfl) (fun _ _ _ h => h) (Or.inl ⟨by kernel_rfl, ?h20⟩) (by assumption) ?r20
  case h20 => (intro w hSw; (try dsimp only at hSw); go_simp; try with_reducible rfl)
  try simp only [Act.put, List.setIfInBounds_toArray, List.set_cons_zero, List.set_cons_succ]
  refine wpAnyH_take (i := 22) (oi := { dst := some 55, op := Go.Op.call { callee := Go.Callee.builtin Go.Builtin.len, args := #[Go.Operand.tmp 54], argTypes := #[27] }, type := 3, pos := "law.go:19", after := #[{ on := 21, ground := Go.Ground.data }, { on := 19, ground := Go.Ground.guard }], guard := some (19, true) }) (v := ?v21) rfl (by as_aux_lemma => kernel_rfl) (by as_aux_lemma => kernel_rfl) (by as_aux_lemma => kernel_rfl) (fun _ _ _ h => h) (Or.inl ⟨by kernel_rfl, ?h21⟩) (by assumption) ?r21
  case h21 => (intro w hSw; (try dsimp only at hSw); go_simp; try with_reducible rfl)
  try simp only [Act.put, List.setIfInBounds_toArray, List.set_cons_zero, List.set_cons_succ]
  refine wpAnyH_take (i := 23) (oi := { dst := some 56, op := Go.Op.binOp Go.BinOp.eql 3 (Go.Operand.tmp 55) (Go.Operand.const (Go.Value.int Go.IntKind.i64 0)) 3, type := 4, pos := "law.go:19", after := #[{ on := 22, ground := Go.Ground.data }, { on := 19, ground := Go.Ground.guard }], guard := some (19, true) }) (v := ?v22) rfl (by as_aux_lemma => kernel_rfl) (by as_aux_lemma => kernel_rfl) (by as_aux_lemma => kernel_rfl) (fun _ _ _ h => h) (Or.inl ⟨by kernel_rfl, ?h22⟩) (by assumption) ?r22
  case h22 => (intro w hSw; (try dsimp only at hSw); go_simp; try with_reducible rfl)
  try simp only [Act.put, List.setIfInBounds_toArray, List.set_cons_zero, List.set_cons_succ]
  refine wpAnyH_take (i := 24) (oi := { dst := some 57, op := Go.Op.pick (Go.Operand.tmp 52) (Go.Operand.tmp 56) (Go.Operand.const (Go.Value.bool false)), type := 4, pos := "law.go:19", after := #[{ on := 19, ground := Go.Ground.data }, { on := 23, ground := Go.Ground.data }], guard := none }) (v := ?v23) rfl (by as_aux_lemma => kernel_rfl) (by as_aux_lemma => kernel_rfl) (by as_aux_lemma => kernel_rfl) (fun _ _ _ h => h) (Or.inl ⟨by kernel_rfl, ?h23⟩) (by assumption) ?r23
  case h23 => (intro w hSw; (try dsimp only at hSw); go_simp; try with_reducible rfl)
  try simp only [Act.put, List.setIfInBounds_toArray, List.set_cons_zero, List.set_cons_succ]
  refine wpAnyH_take (i := 25) (oi := { dst := some 58, op := Go.Op.move (Go.Operand.tmp 57), type := 4, pos := "law.go:19", after := #[{ on := 24, ground := Go.Ground.data }, { on := 19, ground := Go.Ground.chain }], guard := none }) (v := ?v24) rfl (by as_aux_lemma => kernel_rfl) (by as_aux_lemma => kernel_rfl) (by as_aux_lemma => kernel_rfl) (fun _ _ _ h => h) (Or.inl ⟨by kernel_rfl, ?h24⟩) (by assumption) ?r24
  case h24 => (intro w hSw; (try dsimp only at hSw); go_simp; try with_reducible rfl)
  try simp only [Act.put, List.setIfInBounds_toArray, List.set_cons_zero, List.set_cons_succ]
  refine wpAnyH_take (i := 26) (oi := { dst := some 59, op := Go.Op.move (Go.Operand.tmp 7), type := 34, pos := "law.go:19", after := #[{ on := 25, ground := Go.Ground.guard }], guard := some (25, true) }) (v := ?v25) rfl (by as_aux_lemma => kernel_rfl) (by as_aux_lemma => kernel_rfl) (by as_aux_lemma => kernel_rfl) (fun _ _ _ h => h) (Or.inl ⟨by kernel_rfl, ?h25⟩) (by assumption) ?r25
  case h25 => (intro w hSw; (try dsimp only at hSw); go_simp; try with_reducible rfl)
  try simp only [Act.put, List.setIfInBounds_toArray, List.set_cons_zero, List.set_cons_succ]
  refine wpAnyH_take (i := 27) (oi := { dst := some 60, op := Go.Op.binOp Go.BinOp.eql 34 (Go.Operand.tmp 59) (Go.Operand.const (Go.Value.int Go.IntKind.i64 110)) 34, type := 4, pos := "law.go:19", after := #[{ on := 26, ground := Go.Ground.data }, { on := 25, ground := Go.Ground.guard }], guard := some (25, true) }) (v := ?v26) rfl (by as_aux_lemma => kernel_rfl) (by as_aux_lemma => kernel_rfl) (by as_aux_lemma => kernel_rfl) (fun _ _ _ h => h) (Or.inl ⟨by kernel_rfl, ?h26⟩) (by assumption) ?r26
  case h26 => (intro w hSw; (try dsimp only at hSw); go_simp; try with_reducible rfl)
  try simp only [Act.put, List.setIfInBounds_toArray, List.set_cons_zero, List.set_cons_succ]
  refine wpAnyH_take (i := 28) (oi := { dst := some 61, op := Go.Op.pick (Go.Operand.tmp 58) (Go.Operand.tmp 60) (Go.Operand.const (Go.Value.bool false)), type := 4, pos := "law.go:19", after := #[{ on := 25, ground := Go.Ground.data }, { on := 27, ground := Go.Ground.data }], guard := none }) (v := ?v27) rfl (by as_aux_lemma => kernel_rfl) (by as_aux_lemma => kernel_rfl) (by as_aux_lemma => kernel_rfl) (fun _ _ _ h => h) (Or.inl ⟨by kernel_rfl, ?h27⟩) (by assumption) ?r27
  case h27 => (intro w hSw; (try dsimp only at hSw); go_simp; try with_reducible rfl)
  try simp only [Act.put, List.setIfInBounds_toArray, List.set_cons_zero, List.set_cons_succ]
  refine wpAnyH_take (i := 29) (oi := { dst := some 62, op := Go.Op.move (Go.Operand.tmp 61), type := 4, pos := "law.go:19", after := #[{ on := 28, ground := Go.Ground.data }, { on := 25, ground := Go.Ground.chain }], guard := none }) (v := ?v28) rfl (by as_aux_lemma => kernel_rfl) (by as_aux_lemma => kernel_rfl) (by as_aux_lemma => kernel_rfl) (fun _ _ _ h => h) (Or.inl ⟨by kernel_rfl, ?h28⟩) (by assumption) ?r28
  case h28 => (intro w hSw; (try dsimp only at hSw); go_simp; try with_reducible rfl)
  try simp only [Act.put, List.setIfInBounds_toArray, List.set_cons_zero, List.set_cons_succ]
  refine wpAnyH_take (i := 30) (oi := { dst := some 63, op := Go.Op.load 26 (Go.Operand.tmp 1), type := 26, pos := "law.go:19", after := #[{ on := 29, ground := Go.Ground.guard }], guard := some (29, true) }) (v := ?v29) rfl (by as_aux_lemma => kernel_rfl) (by as_aux_lemma => kernel_rfl) (by as_aux_lemma => kernel_rfl) (fun _ _ _ h => h) (Or.inl ⟨by kernel_rfl, ?h29⟩) (by assumption) ?r29
  case h29 => (intro w hSw; (try dsimp only at hSw); go_simp; try with_reducible rfl)
  try simp only [Act.put, List.setIfInBounds_toArray, List.set_cons_zero, List.set_cons_succ]
  refine wpAnyH_take (i := 31) (oi := { dst := some 64, op := Go.Op.move (Go.Operand.tmp 2), type := 42, pos := "law.go:19", after := #[{ on := 29, ground := Go.Ground.guard }], guard := some (29, true) }) (v := ?v30) rfl (by as_aux_lemma => kernel_rfl) (by as_aux_lemma => kernel_rfl) (by as_aux_lemma => kernel_rfl) (fun _ _ _ h => h) (Or.inl ⟨by kernel_rfl, ?h30⟩) (by assumption) ?r30
  case h30 => (intro w hSw; (try dsimp only at hSw); go_simp; try with_reducible rfl)
  try simp only [Act.put, List.setIfInBounds_toArray, List.set_cons_zero, List.set_cons_succ]
  refine wpAnyH_take (i := 32) (oi := { dst := some 65, op := Go.Op.indexAddr 42 (Go.Operand.tmp 64) (Go.Operand.const (Go.Value.int Go.IntKind.i64 0)), type := 0, pos := "law.go:19", after := #[{ on := 31, ground := Go.Ground.data }, { on := 29, ground := Go.Ground.guard }], guard := some (29, true) }) (v := ?v31) rfl (by as_aux_lemma => kernel_rfl) (by as_aux_lemma => kernel_rfl) (by as_aux_lemma => kernel_rfl) (fun _ _ _ h => h) (Or.inl ⟨by kernel_rfl, ?h31⟩) (by assumption) ?r31
  case h31 => (intro w hSw; (try dsimp only at hSw); go_simp; try with_reducible rfl)
  try simp only [Act.put, List.setIfInBounds_toArray, List.set_cons_zero, List.set_cons_succ]
  refine wpAnyH_take (i := 33) (oi := { dst := some 66, op := Go.Op.load 29 (Go.Operand.tmp 65), type := 29, pos := "law.go:19", after := #[{ on := 32, ground := Go.Ground.data }, { on := 29, ground := Go.Ground.guard }], guard := some (29, true) }) (v := ?v32) rfl (by as_aux_lemma => kernel_rfl) (by as_aux_lemma => kernel_rfl) (by as_aux_lemma => kernel_rfl) (fun _ _ _ h => h) (Or.inl ⟨by kernel_rfl, ?h32⟩) (by assumption) ?r32
  case h32 => (intro w hSw; (try dsimp only at hSw); go_simp; try with_reducible rfl)
  try simp only [Act.put, List.setIfInBounds_toArray, List.set_cons_zero, List.set_cons_succ]
  refine wpAnyH_ready (rs := [34]) (by as_aux_lemma => kernel_rfl) (by simp) ?_
  refine AllReadyH.cons (o := { dst := some 67, op := Go.Op.call { callee := Go.Callee.value (Go.Operand.func 11), args := #[Go.Operand.tmp 63, Go.Operand.tmp 66], argTypes := #[26, 29] }, type := 4, pos := "law.go:19", after := #[{ on := 30, ground := Go.Ground.data }, { on := 33, ground := Go.Ground.data }, { on := 29, ground := Go.Ground.chain }, { on := 29, ground := Go.Ground.guard }], guard := some (29, true) }) rfl (fun K hK => ?_) AllReadyH.nil
  go_simp
  with_reducible refine (QR.out _ (LF _ hHeld) (SF0 _ hHeld)).mono ?_
  rintro e v34 ⟨rfl, b34⟩
  have hB34 := hHeld.trans (b34.mono hHeld.size)
  go_simp
  refine hK.out _ _ (hB34) (fun hHeld => ?_)
  clear hK K
  try simp only [Act.put, List.setIfInBounds_toArray, List.set_cons_zero, List.set_cons_succ]
  refine wpAnyH_now hHeld (fun hHeld => ?_)
  replace LF := rebase LF (hB34)
  replace SF3 := rebase SF3 (hB34)
  replace SF0 := rebase SF0 (hB34)
  replace z0 := rebase z0 (hB34)
  replace z1 := rebase z1 (hB34)
  replace z2 := rebase z2 (hB34)
  replace z3 := rebase z3 (hB34)
  replace s1 := rebase s1 (hB34)
  replace t6 := rebase t6 (hB34)
  replace t7 := rebase t7 (hB34)
  replace t0 := rebase t0 (hB34)
  replace t1 := rebase t1 (hB34)
  replace XA := rebase XA (hB34)
  refine wpAnyH_take (i := 35) (oi := { dst := some 68, op := Go.Op.pick (Go.Operand.tmp 62) (Go.Operand.tmp 67) (Go.Operand.const (Go.Value.bool false)), type := 4, pos := "law.go:19", after := #[{ on := 29, ground := Go.Ground.data }, { on := 34, ground := Go.Ground.data }], guard := none }) (v := ?v33) rfl (by as_aux_lemma => kernel_rfl) (by as_aux_lemma => kernel_rfl) (by as_aux_lemma => kernel_rfl) (fun _ _ _ h => h) (Or.inl ⟨by kernel_rfl, ?h33⟩) (by assumption) ?r33
  case h33 => (intro w hSw; (try dsimp only at hSw); go_simp; try with_reducible rfl)
  try simp only [Act.put, List.setIfInBounds_toArray, List.set_cons_zero, List.set_cons_succ]
  refine wpAnyH_take (i := 36) (oi := { dst := some 69, op := Go.Op.move (Go.Operand.tmp 68), type := 4, pos := "law.go:19", after := #[{ on := 35, ground := Go.Ground.data }, { on := 34, ground := Go.Ground.chain }], guard := none }) (v := ?v34) rfl (by as_aux_lemma => kernel_rfl) (by as_aux_lemma => kernel_rfl) (by as_aux_lemma => kernel_rfl) (fun _ _ _ h => h) (Or.inl ⟨by kernel_rfl, ?h34⟩) (by assumption) ?r34
  case h34 => (intro w hSw; (try dsimp only at hSw); go_simp; try with_reducible rfl)
  try simp only [Act.put, List.setIfInBounds_toArray, List.set_cons_zero, List.set_cons_succ]
  refine wpAnyH_take (i := 37) (oi := { dst := some 70, op := Go.Op.load 26 (Go.Operand.tmp 1), type := 26, pos := "law.go:19", after := #[{ on := 36, ground := Go.Ground.guard }], guard := some (36, true) }) (v := ?v35) rfl (by as_aux_lemma => kernel_rfl) (by as_aux_lemma => kernel_rfl) (by as_aux_lemma => kernel_rfl) (fun _ _ _ h => h) (Or.inl ⟨by kernel_rfl, ?h35⟩) (by assumption) ?r35
  case h35 => (intro w hSw; (try dsimp only at hSw); go_simp; try with_reducible rfl)
  try simp only [Act.put, List.setIfInBounds_toArray, List.set_cons_zero, List.set_cons_succ]
  refine wpAnyH_take (i := 38) (oi := { dst := some 71, op := Go.Op.build 29 #[], type := 29, pos := "law.go:19", after := #[{ on := 36, ground := Go.Ground.guard }], guard := some (36, true) }) (v := ?v36) rfl (by as_aux_lemma => kernel_rfl) (by as_aux_lemma => kernel_rfl) (by as_aux_lemma => kernel_rfl) (fun _ _ _ h => h) (Or.inl ⟨by kernel_rfl, ?h36⟩) (by assumption) ?r36
  case h36 => (intro w hSw; (try dsimp only at hSw); go_simp; try with_reducible rfl)
  try simp only [Act.put, List.setIfInBounds_toArray, List.set_cons_zero, List.set_cons_succ]
  refine wpAnyH_ready (rs := [39]) (by as_aux_lemma => kernel_rfl) (by simp) ?_
  refine AllReadyH.cons (o := { dst := some 72, op := Go.Op.call { callee := Go.Callee.value (Go.Operand.func 11), args := #[Go.Operand.tmp 70, Go.Operand.tmp 71], argTypes := #[26, 29] }, type := 4, pos := "law.go:19", after := #[{ on := 37, ground := Go.Ground.data }, { on := 38, ground := Go.Ground.data }, { on := 36, ground := Go.Ground.chain }, { on := 36, ground := Go.Ground.guard }], guard := some (36, true) }) rfl (fun K hK => ?_) AllReadyH.nil
  go_simp
  with_reducible refine (QN.out _ (LF _ hHeld)).mono ?_
  rintro e v39 ⟨rfl, b39⟩
  have hB39 := hHeld.trans (b39.mono hHeld.size)
  go_simp
  refine hK.out _ _ (hB39) (fun hHeld => ?_)
  clear hK K
  try simp only [Act.put, List.setIfInBounds_toArray, List.set_cons_zero, List.set_cons_succ]
  refine wpAnyH_now hHeld (fun hHeld => ?_)
  replace LF := rebase LF (hB39)
  replace SF3 := rebase SF3 (hB39)
  replace SF0 := rebase SF0 (hB39)
  replace z0 := rebase z0 (hB39)
  replace z1 := rebase z1 (hB39)
  replace z2 := rebase z2 (hB39)
  replace z3 := rebase z3 (hB39)
  replace s1 := rebase s1 (hB39)
  replace t6 := rebase t6 (hB39)
  replace t7 := rebase t7 (hB39)
  replace t0 := rebase t0 (hB39)
  replace t1 := rebase t1 (hB39)
  replace XA := rebase XA (hB39)
  refine wpAnyH_take (i := 40) (oi := { dst := some 73, op := Go.Op.unOp Go.UnOp.not 4 (Go.Operand.tmp 72), type := 4, pos := "law.go:19", after := #[{ on := 39, ground := Go.Ground.data }, { on := 36, ground := Go.Ground.guard }], guard := some (36, true) }) (v := ?v37) rfl (by as_aux_lemma => kernel_rfl) (by as_aux_lemma => kernel_rfl) (by as_aux_lemma => kernel_rfl) (fun _ _ _ h => h) (Or.inl ⟨by kernel_rfl, ?h37⟩) (by assumption) ?r37
  case h37 => (intro w hSw; (try dsimp only at hSw); go_simp; try with_reducible rfl)
  try simp only [Act.put, List.setIfInBounds_toArray, List.set_cons_zero, List.set_cons_succ]
  refine wpAnyH_take (i := 41) (oi := { dst := some 74, op := Go.Op.pick (Go.Operand.tmp 69) (Go.Operand.tmp 73) (Go.Operand.const (Go.Value.bool false)), type := 4, pos := "law.go:19", after := #[{ on := 36, ground := Go.Ground.data }, { on := 40, ground := Go.Ground.data }], guard := none }) (v := ?v38) rfl (by as_aux_lemma => kernel_rfl) (by as_aux_lemma => kernel_rfl) (by as_aux_lemma => kernel_rfl) (fun _ _ _ h => h) (Or.inl ⟨by kernel_rfl, ?h38⟩) (by assumption) ?r38
  case h38 => (intro w hSw; (try dsimp only at hSw); go_simp; try with_reducible rfl)
  try simp only [Act.put, List.setIfInBounds_toArray, List.set_cons_zero, List.set_cons_succ]
  refine wpAnyH_take (i := 42) (oi := { dst := some 75, op := Go.Op.move (Go.Operand.tmp 74), type := 4, pos := "law.go:19", after := #[{ on := 41, ground := Go.Ground.data }, { on := 39, ground := Go.Ground.chain }], guard := none }) (v := ?v39) rfl (by as_aux_lemma => kernel_rfl) (by as_aux_lemma => kernel_rfl) (by as_aux_lemma => kernel_rfl) (fun _ _ _ h => h) (Or.inl ⟨by kernel_rfl, ?h39⟩) (by assumption) ?r39
  case h39 => (intro w hSw; (try dsimp only at hSw); go_simp; try with_reducible rfl)
  try simp only [Act.put, List.setIfInBounds_toArray, List.set_cons_zero, List.set_cons_succ]
  refine wpAnyH_take (i := 43) (oi := { dst := some 76, op := Go.Op.move (Go.Operand.tmp 2), type := 42, pos := "law.go:19", after := #[{ on := 42, ground := Go.Ground.guard }], guard := some (42, true) }) (v := ?v40) rfl (by as_aux_lemma => kernel_rfl) (by as_aux_lemma => kernel_rfl) (by as_aux_lemma => kernel_rfl) (fun _ _ _ h => h) (Or.inl ⟨by kernel_rfl, ?h40⟩) (by assumption) ?r40
  case h40 => (intro w hSw; (try dsimp only at hSw); go_simp; try with_reducible rfl)
  try simp only [Act.put, List.setIfInBounds_toArray, List.set_cons_zero, List.set_cons_succ]
  refine wpAnyH_take (i := 44) (oi := { dst := some 77, op := Go.Op.indexAddr 42 (Go.Operand.tmp 76) (Go.Operand.const (Go.Value.int Go.IntKind.i64 0)), type := 0, pos := "law.go:19", after := #[{ on := 43, ground := Go.Ground.data }, { on := 42, ground := Go.Ground.guard }], guard := some (42, true) }) (v := ?v41) rfl (by as_aux_lemma => kernel_rfl) (by as_aux_lemma => kernel_rfl) (by as_aux_lemma => kernel_rfl) (fun _ _ _ h => h) (Or.inl ⟨by kernel_rfl, ?h41⟩) (by assumption) ?r41
  case h41 => (intro w hSw; (try dsimp only at hSw); go_simp; try with_reducible rfl)
  try simp only [Act.put, List.setIfInBounds_toArray, List.set_cons_zero, List.set_cons_succ]
  refine wpAnyH_take (i := 45) (oi := { dst := some 78, op := Go.Op.load 29 (Go.Operand.tmp 77), type := 29, pos := "law.go:19", after := #[{ on := 44, ground := Go.Ground.data }, { on := 42, ground := Go.Ground.guard }], guard := some (42, true) }) (v := ?v42) rfl (by as_aux_lemma => kernel_rfl) (by as_aux_lemma => kernel_rfl) (by as_aux_lemma => kernel_rfl) (fun _ _ _ h => h) (Or.inl ⟨by kernel_rfl, ?h42⟩) (by assumption) ?r42
  case h42 => (intro w hSw; (try dsimp only at hSw); go_simp; try with_reducible rfl)
  try simp only [Act.put, List.setIfInBounds_toArray, List.set_cons_zero, List.set_cons_succ]
  refine wpAnyH_ready (rs := [46]) (by as_aux_lemma => kernel_rfl) (by simp) ?_
  refine AllReadyH.cons (o := { dst := some 79, op := Go.Op.buildSlice 27 2 #[(0, Go.Operand.const (Go.Value.int Go.IntKind.i64 5)), (1, Go.Operand.const (Go.Value.int Go.IntKind.i64 1))], type := 27, pos := "law.go:19", after := #[{ on := 42, ground := Go.Ground.guard }], guard := some (42, true) }) rfl (fun K hK => ?_) AllReadyH.nil
  go_simp
  obtain ⟨v46, ht46⟩ : ∃ v46, v46 = v39.alloc (.cells #[.int .i64 5, .int .i64 1] 3) := ⟨_, rfl⟩
  have sXB' : SL v46 (some ⟨v39.heap.size, 0, none⟩) 2 2 [5, 1] := (by rw [ht46]; exact rsl_lit _ _ 2 rfl (by omega) _ rfl)
  have hB46 := hHeld.alloc hHeld.size (.cells #[.int .i64 5, .int .i64 1] 3)
  rw [← ht46] at hB46
  rw [← ht46]
  clear ht46
  have XB : ∀ W, Below v46.heap.size v46 W → SL W (some ⟨v39.heap.size, 0, none⟩) 2 2 [5, 1] := fun W hW => sXB'.below hW
  refine hK.out _ _ (hB46) (fun hHeld => ?_)
  clear hK K
  try simp only [Act.put, List.setIfInBounds_toArray, List.set_cons_zero, List.set_cons_succ]
  refine wpAnyH_now hHeld (fun hHeld => ?_)
  replace LF := rebase LF (hB46)
  replace SF3 := rebase SF3 (hB46)
  replace SF0 := rebase SF0 (hB46)
  replace z0 := rebase z0 (hB46)
  replace z1 := rebase z1 (hB46)
  replace z2 := rebase z2 (hB46)
  replace z3 := rebase z3 (hB46)
  replace s1 := rebase s1 (hB46)
  replace t6 := rebase t6 (hB46)
  replace t7 := rebase t7 (hB46)
  replace t0 := rebase t0 (hB46)
  replace t1 := rebase t1 (hB46)
  replace XA := rebase XA (hB46)
  refine wpAnyH_take (i := 47) (oi := { dst := some 80, op := Go.Op.build 29 #[(1, Go.Operand.tmp 79)], type := 29, pos := "law.go:19", after := #[{ on := 46, ground := Go.Ground.data }, { on := 42, ground := Go.Ground.guard }], guard := some (42, true) }) (v := ?v43) rfl (by as_aux_lemma => kernel_rfl) (by as_aux_lemma => kernel_rfl) (by as_aux_lemma => kernel_rfl) (fun _ _ _ h => h) (Or.inl ⟨by kernel_rfl, ?h43⟩) (by assumption) ?r43
  case h43 => (intro w hSw; (try dsimp only at hSw); go_simp; try with_reducible rfl)
  try simp only [Act.put, List.setIfInBounds_toArray, List.set_cons_zero, List.set_cons_succ]
  refine wpAnyH_ready (rs := [48]) (by as_aux_lemma => kernel_rfl) (by simp) ?_
  refine AllReadyH.cons (o := { dst := some 81, op := Go.Op.call { callee := Go.Callee.value (Go.Operand.func 8), args := #[Go.Operand.tmp 78, Go.Operand.tmp 80], argTypes := #[29, 29] }, type := 4, pos := "law.go:19", after := #[{ on := 45, ground := Go.Ground.data }, { on := 47, ground := Go.Ground.data }, { on := 42, ground := Go.Ground.chain }, { on := 42, ground := Go.Ground.guard }], guard := some (42, true) }) rfl (fun K hK => ?_) AllReadyH.nil
  go_simp
  with_reducible refine (QB.out _ _ _ _ (SF0 _ hHeld) (XB _ hHeld)).mono ?_
  rintro e v48 ⟨rfl, b48⟩
  have hB48 := hHeld.trans (b48.mono hHeld.size)
  go_simp
  refine hK.out _ _ (hB48) (fun hHeld => ?_)
  clear hK K
  try simp only [Act.put, List.setIfInBounds_toArray, List.set_cons_zero, List.set_cons_succ]
  refine wpAnyH_now hHeld (fun hHeld => ?_)
  replace LF := rebase LF (hB48)
  replace SF3 := rebase SF3 (hB48)
  replace SF0 := rebase SF0 (hB48)
  replace z0 := rebase z0 (hB48)
  replace z1 := rebase z1 (hB48)
  replace z2 := rebase z2 (hB48)
  replace z3 := rebase z3 (hB48)
  replace s1 := rebase s1 (hB48)
  replace t6 := rebase t6 (hB48)
  replace t7 := rebase t7 (hB48)
  replace t0 := rebase t0 (hB48)
  replace t1 := rebase t1 (hB48)
  replace XA := rebase XA (hB48)
  replace XB := rebase XB (hB48)
  refine wpAnyH_take (i := 49) (oi := { dst := some 82, op := Go.Op.pick (Go.Operand.tmp 75) (Go.Operand.tmp 81) (Go.Operand.const (Go.Value.bool false)), type := 4, pos := "law.go:19", after := #[{ on := 42, ground := Go.Ground.data }, { on := 48, ground := Go.Ground.data }], guard := none }) (v := ?v44) rfl (by as_aux_lemma => kernel_rfl) (by as_aux_lemma => kernel_rfl) (by as_aux_lemma => kernel_rfl) (fun _ _ _ h => h) (Or.inl ⟨by kernel_rfl, ?h44⟩) (by assumption) ?r44
  case h44 => (intro w hSw; (try dsimp only at hSw); go_simp; try with_reducible rfl)
  try simp only [Act.put, List.setIfInBounds_toArray, List.set_cons_zero, List.set_cons_succ]
  refine wpAnyH_take (i := 50) (oi := { dst := some 0, op := Go.Op.assign (Go.Operand.tmp 82), type := 4, pos := "law.go:19", after := #[{ on := 49, ground := Go.Ground.data }, { on := 48, ground := Go.Ground.chain }, { on := 0, ground := Go.Ground.phase }, { on := 1, ground := Go.Ground.phase }, { on := 2, ground := Go.Ground.phase }, { on := 3, ground := Go.Ground.phase }, { on := 4, ground := Go.Ground.phase }, { on := 5, ground := Go.Ground.phase }, { on := 6, ground := Go.Ground.phase }, { on := 7, ground := Go.Ground.phase }, { on := 8, ground := Go.Ground.phase }, { on := 9, ground := Go.Ground.phase }, { on := 10, ground := Go.Ground.phase }, { on := 11, ground := Go.Ground.phase }, { on := 12, ground := Go.Ground.phase }, { on := 13, ground := Go.Ground.phase }, { on := 14, ground := Go.Ground.phase }, { on := 15, ground := Go.Ground.phase }, { on := 16, ground := Go.Ground.phase }, { on := 17, ground := Go.Ground.phase }, { on := 18, ground := Go.Ground.phase }, { on := 19, ground := Go.Ground.phase }, { on := 20, ground := Go.Ground.phase }, { on := 21, ground := Go.Ground.phase }, { on := 22, ground := Go.Ground.phase }, { on := 23, ground := Go.Ground.phase }, { on := 24, ground := Go.Ground.phase }, { on := 25, ground := Go.Ground.phase }, { on := 26, ground := Go.Ground.phase }, { on := 27, ground := Go.Ground.phase }, { on := 28, ground := Go.Ground.phase }, { on := 29, ground := Go.Ground.phase }, { on := 30, ground := Go.Ground.phase }, { on := 31, ground := Go.Ground.phase }, { on := 32, ground := Go.Ground.phase }, { on := 33, ground := Go.Ground.phase }, { on := 34, ground := Go.Ground.phase }, { on := 35, ground := Go.Ground.phase }, { on := 36, ground := Go.Ground.phase }, { on := 37, ground := Go.Ground.phase }, { on := 38, ground := Go.Ground.phase }, { on := 39, ground := Go.Ground.phase }, { on := 40, ground := Go.Ground.phase }, { on := 41, ground := Go.Ground.phase }, { on := 42, ground := Go.Ground.phase }, { on := 43, ground := Go.Ground.phase }, { on := 44, ground := Go.Ground.phase }, { on := 45, ground := Go.Ground.phase }, { on := 46, ground := Go.Ground.phase }, { on := 47, ground := Go.Ground.phase }, { on := 48, ground := Go.Ground.phase }, { on := 49, ground := Go.Ground.phase }], guard := none }) (v := ?v45) rfl (by as_aux_lemma => kernel_rfl) (by as_aux_lemma => kernel_rfl) (by as_aux_lemma => kernel_rfl) (fun _ _ _ h => h) (Or.inl ⟨by kernel_rfl, ?h45⟩) (by assumption) ?r45
  case h45 => (intro w hSw; (try dsimp only at hSw); go_simp; try with_reducible rfl)
  try simp only [Act.put, List.setIfInBounds_toArray, List.set_cons_zero, List.set_cons_succ]
  refine wpAnyH_done (by as_aux_lemma => kernel_rfl) ?_ _
  go_wp2
  go_ret
  exact ⟨rfl, (LF _ hHeld).bel⟩
end Go.Proofs.YtjdfjekonnkglaaDoor
