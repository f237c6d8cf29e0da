/-
  Words and walks under the law's proof.
-/
import Derived.Test.YtgeliikfgnkppaaGreatDoorQC04
import Derived.Test.YtgeliikfgnkppaaGreatDoorQC05
import Derived.Test.YtgeliikfgnkppaaGreatDoorQC06
import Derived.Test.YtgeliikfgnkppaaGreatDoorQC07
namespace Go.Proofs.YtgeliikfgnkppaaGreatDoor
open Go.RowKit
set_option linter.unusedVariables false
set_option linter.unusedSimpArgs false
structure LC (A B : PD) (w : World) (pnm : ByteArray) (pa1 : Option Addr) (pn1 pc1 : Nat) (pa2 : Option Addr) (pn2 pc2 : Nat) (pa3 : Option Addr) (pn3 pc3 : Nat) (qnm : ByteArray) (qa1 : Option Addr) (qn1 qc1 : Nat) (qa2 : Option Addr) (qn2 qc2 : Nat) (qa3 : Option Addr) (qn3 qc3 : Nat) (W : World) : Prop where
  p1 : PrA W ⟨pnm, pa1, pn1, pc1, pa2, pn2, pc2, pa3, pn3, pc3⟩ A
  p2 : PrA W ⟨qnm, qa1, qn1, qc1, qa2, qn2, qc2, qa3, qn3, qc3⟩ B
  b1 : Holds W w.heap.size 26 #[.string pnm, .slice pa1 pn1 pc1, .slice pa2 pn2 pc2, .slice pa3 pn3 pc3]
  b2 : Holds W (w.heap.size + 1) 26 #[.string qnm, .slice qa1 qn1 qc1, .slice qa2 qn2 qc2, .slice qa3 qn3 qc3]
  bel : Below w.heap.size w W
  tab : Tab W
theorem LC.below {A B : PD} {w : World} {pnm : ByteArray} {pa1 : Option Addr} {pn1 pc1 : Nat} {pa2 : Option Addr} {pn2 pc2 : Nat} {pa3 : Option Addr} {pn3 pc3 : Nat} {qnm : ByteArray} {qa1 : Option Addr} {qn1 qc1 : Nat} {qa2 : Option Addr} {qn2 qc2 : Nat} {qa3 : Option Addr} {qn3 qc3 : Nat} {W W' : World} (h : LC A B w pnm pa1 pn1 pc1 pa2 pn2 pc2 pa3 pn3 pc3 qnm qa1 qn1 qc1 qa2 qn2 qc2 qa3 qn3 qc3 W) (hb : Below W.heap.size W W') : LC A B w pnm pa1 pn1 pc1 pa2 pn2 pc2 pa3 pn3 pc3 qnm qa1 qn1 qc1 qa2 qn2 qc2 qa3 qn3 qc3 W' :=
  ⟨h.p1.below hb, h.p2.below hb, h.b1.below hb h.b1.lt, h.b2.below hb h.b2.lt, h.bel.trans (hb.mono h.bel.size), h.tab.on hb⟩
theorem selP_ok {q : EdgeD → Bool} {D : PD} (h : progB D = true) : selP q D = selL q D.edges D.edges.length := by unfold selP; rw [if_pos h]
theorem selP_no {q : EdgeD → Bool} {D : PD} (h : progB D = false) : selP q D = [] := by unfold selP; rw [h]; rfl
theorem reachP_ok {D : PD} (h : progB D = true) : reachP D = intsP (reachN D) := by unfold reachP; rw [if_pos h]
theorem reachP_no {D : PD} (h : progB D = false) : reachP D = [] := by unfold reachP; rw [h]; rfl
theorem slp_nil {w w' : World} {e : Ending} (h : SlP [] w e w') : ∃ a c, e = .returned (.slice a 0 c) ∧ Below w.heap.size w w' := by
  obtain ⟨a, n, c, h1, h2, h3⟩ := h
  obtain rfl : n = 0 := h2.len
  exact ⟨a, c, h1, h3⟩
set_option maxRecDepth 100000 in
set_option maxHeartbeats 8000000 in
theorem pchecks_big1 (pnm : ByteArray) (pa1 : Option Addr) (pn1 pc1 : Nat) (pa2 : Option Addr) (pn2 pc2 : Nat) (pa3 : Option Addr) (pn3 pc3 : Nat) (qnm : ByteArray) (qa1 : Option Addr) (qn1 qc1 : Nat) (qa2 : Option Addr) (qn2 qc2 : Nat) (qa3 : Option Addr) (qn3 qc3 : Nat) (A B : PD) (hA : PW A) (hB : PW B) (x : Int) (w : World) (ht : Tab w) (h1 : PrA w ⟨pnm, pa1, pn1, pc1, pa2, pn2, pc2, pa3, pn3, pc3⟩ A) (h2 : PrA w ⟨qnm, qa1, qn1, qc1, qa2, qn2, qc2, qa3, qn3, qc3⟩ B) (HL : ∀ W, Tab W → Calls Tryz.prog 8 #[] W (Gives (.bool true) W)) (hg : bigP A = true) :
    Calls Tryz.prog 3 #[.agg #[.string pnm, .slice pa1 pn1 pc1, .slice pa2 pn2 pc2, .slice pa3 pn3 pc3], .agg #[.string qnm, .slice qa1 qn1 qc1, .slice qa2 qn2 qc2, .slice qa3 qn3 qc3], .int .i64 x] w (Gives (.bool true) w) := by
  obtain ⟨u0, hu0⟩ : ∃ u0, u0 = (w.alloc (.cells #[.string pnm, .slice pa1 pn1 pc1, .slice pa2 pn2 pc2, .slice pa3 pn3 pc3] 26)).alloc (.cells #[.string qnm, .slice qa1 qn1 qc1, .slice qa2 qn2 qc2, .slice qa3 qn3 qc3] 26) := ⟨_, rfl⟩
  have b0 : Below w.heap.size w u0 := by rw [hu0]; exact (box_below _ _ _).alloc (by simp) _
  have L0 : LC A B w pnm pa1 pn1 pc1 pa2 pn2 pc2 pa3 pn3 pc3 qnm qa1 qn1 qc1 qa2 qn2 qc2 qa3 qn3 qc3 u0 := ⟨h1.below b0, h2.below b0, by rw [hu0]; exact (Holds.new w _ _).alloc _, by rw [hu0]; have q := Holds.new (w.alloc (.cells #[.string pnm, .slice pa1 pn1 pc1, .slice pa2 pn2 pc2, .slice pa3 pn3 pc3] 26)) 26 #[.string qnm, .slice qa1 qn1 qc1, .slice qa2 qn2 qc2, .slice qa3 qn3 qc3]; simpa using q, b0, ht.on b0⟩
  have L := Lib.hid L0
  have hu0' := Lib.hid hu0
  have QL := Lib.hid HL
  have qA := Lib.hid (fun W (h : LC A B w pnm pa1 pn1 pc1 pa2 pn2 pc2 pa3 pn3 pc3 qnm qa1 qn1 qc1 qa2 qn2 qc2 qa3 qn3 qc3 W) => plarge_any _ A hA W h.p1)
  have qB := Lib.hid (fun W (h : LC A B w pnm pa1 pn1 pc1 pa2 pn2 pc2 pa3 pn3 pc3 qnm qa1 qn1 qc1 qa2 qn2 qc2 qa3 qn3 qc3 W) => plarge_any _ B hB W h.p2)
  have qc := Lib.hid (fun W (h : LC A B w pnm pa1 pn1 pc1 pa2 pn2 pc2 pa3 pn3 pc3 qnm qa1 qn1 qc1 qa2 qn2 qc2 qa3 qn3 qc3 W) => pcheck_any _ A W h.p1)
  have qs := Lib.hid (fun W (h : LC A B w pnm pa1 pn1 pc1 pa2 pn2 pc2 pa3 pn3 pc3 qnm qa1 qn1 qc1 qa2 qn2 qc2 qa3 qn3 qc3 W) => psame'_any _ _ A B W h.p1 h.p2)
  have qr := Lib.hid (fun W (h : LC A B w pnm pa1 pn1 pc1 pa2 pn2 pc2 pa3 pn3 pc3 qnm qa1 qn1 qc1 qa2 qn2 qc2 qa3 qn3 qc3 W) => psameRef_any _ _ A B W h.p1 h.p2)
  have qk := Lib.hid (fun W (h : LC A B w pnm pa1 pn1 pc1 pa2 pn2 pc2 pa3 pn3 pc3 qnm qa1 qn1 qc1 qa2 qn2 qc2 qa3 qn3 qc3 W) => rcheckP_any _ A hA W h.p1)
  have qo := Lib.hid (fun W (h : LC A B w pnm pa1 pn1 pc1 pa2 pn2 pc2 pa3 pn3 pc3 qnm qa1 qn1 qc1 qa2 qn2 qc2 qa3 qn3 qc3 W) => pOut_any _ A x W h.p1)
  have qi := Lib.hid (fun W (h : LC A B w pnm pa1 pn1 pc1 pa2 pn2 pc2 pa3 pn3 pc3 qnm qa1 qn1 qc1 qa2 qn2 qc2 qa3 qn3 qc3 W) => pInto_any _ A x W h.p1)
  have qh := Lib.hid (fun W (h : LC A B w pnm pa1 pn1 pc1 pa2 pn2 pc2 pa3 pn3 pc3 qnm qa1 qn1 qc1 qa2 qn2 qc2 qa3 qn3 qc3 W) => preach_any ⟨pnm, pa1, pn1, pc1, pa2, pn2, pc2, pa3, pn3, pc3⟩ A W h.p1)
  clear hu0 b0 L0 h1 h2 ht HL
  rw [hg] at qA
  go_enter Tryz.func3, Tryz.ntmps3
  go_wp2_with fail
  rw [← hu0'.out]
  with_reducible refine (qA.out _ L.out).mono ?_
  rintro e u1 ⟨rfl, bu1⟩
  replace L := Lib.hid (L.out.below bu1)
  clear bu1 
  go_wp2_with fail
  with_reducible refine (QL.out _ L.out.tab).mono ?_
  rintro e u2 ⟨rfl, bu2⟩
  replace L := Lib.hid (L.out.below bu2)
  clear bu2 
  go_wp2
  go_ret
  exact ⟨rfl, L.out.bel⟩
set_option maxRecDepth 100000 in
set_option maxHeartbeats 8000000 in
theorem pchecks_big2 (pnm : ByteArray) (pa1 : Option Addr) (pn1 pc1 : Nat) (pa2 : Option Addr) (pn2 pc2 : Nat) (pa3 : Option Addr) (pn3 pc3 : Nat) (qnm : ByteArray) (qa1 : Option Addr) (qn1 qc1 : Nat) (qa2 : Option Addr) (qn2 qc2 : Nat) (qa3 : Option Addr) (qn3 qc3 : Nat) (A B : PD) (hA : PW A) (hB : PW B) (x : Int) (w : World) (ht : Tab w) (h1 : PrA w ⟨pnm, pa1, pn1, pc1, pa2, pn2, pc2, pa3, pn3, pc3⟩ A) (h2 : PrA w ⟨qnm, qa1, qn1, qc1, qa2, qn2, qc2, qa3, qn3, qc3⟩ B) (HL : ∀ W, Tab W → Calls Tryz.prog 8 #[] W (Gives (.bool true) W)) (hg : bigP A = false) (hh : bigP B = true) :
    Calls Tryz.prog 3 #[.agg #[.string pnm, .slice pa1 pn1 pc1, .slice pa2 pn2 pc2, .slice pa3 pn3 pc3], .agg #[.string qnm, .slice qa1 qn1 qc1, .slice qa2 qn2 qc2, .slice qa3 qn3 qc3], .int .i64 x] w (Gives (.bool true) w) := by
  obtain ⟨u0, hu0⟩ : ∃ u0, u0 = (w.alloc (.cells #[.string pnm, .slice pa1 pn1 pc1, .slice pa2 pn2 pc2, .slice pa3 pn3 pc3] 26)).alloc (.cells #[.string qnm, .slice qa1 qn1 qc1, .slice qa2 qn2 qc2, .slice qa3 qn3 qc3] 26) := ⟨_, rfl⟩
  have b0 : Below w.heap.size w u0 := by rw [hu0]; exact (box_below _ _ _).alloc (by simp) _
  have L0 : LC A B w pnm pa1 pn1 pc1 pa2 pn2 pc2 pa3 pn3 pc3 qnm qa1 qn1 qc1 qa2 qn2 qc2 qa3 qn3 qc3 u0 := ⟨h1.below b0, h2.below b0, by rw [hu0]; exact (Holds.new w _ _).alloc _, by rw [hu0]; have q := Holds.new (w.alloc (.cells #[.string pnm, .slice pa1 pn1 pc1, .slice pa2 pn2 pc2, .slice pa3 pn3 pc3] 26)) 26 #[.string qnm, .slice qa1 qn1 qc1, .slice qa2 qn2 qc2, .slice qa3 qn3 qc3]; simpa using q, b0, ht.on b0⟩
  have L := Lib.hid L0
  have hu0' := Lib.hid hu0
  have QL := Lib.hid HL
  have qA := Lib.hid (fun W (h : LC A B w pnm pa1 pn1 pc1 pa2 pn2 pc2 pa3 pn3 pc3 qnm qa1 qn1 qc1 qa2 qn2 qc2 qa3 qn3 qc3 W) => plarge_any _ A hA W h.p1)
  have qB := Lib.hid (fun W (h : LC A B w pnm pa1 pn1 pc1 pa2 pn2 pc2 pa3 pn3 pc3 qnm qa1 qn1 qc1 qa2 qn2 qc2 qa3 qn3 qc3 W) => plarge_any _ B hB W h.p2)
  have qc := Lib.hid (fun W (h : LC A B w pnm pa1 pn1 pc1 pa2 pn2 pc2 pa3 pn3 pc3 qnm qa1 qn1 qc1 qa2 qn2 qc2 qa3 qn3 qc3 W) => pcheck_any _ A W h.p1)
  have qs := Lib.hid (fun W (h : LC A B w pnm pa1 pn1 pc1 pa2 pn2 pc2 pa3 pn3 pc3 qnm qa1 qn1 qc1 qa2 qn2 qc2 qa3 qn3 qc3 W) => psame'_any _ _ A B W h.p1 h.p2)
  have qr := Lib.hid (fun W (h : LC A B w pnm pa1 pn1 pc1 pa2 pn2 pc2 pa3 pn3 pc3 qnm qa1 qn1 qc1 qa2 qn2 qc2 qa3 qn3 qc3 W) => psameRef_any _ _ A B W h.p1 h.p2)
  have qk := Lib.hid (fun W (h : LC A B w pnm pa1 pn1 pc1 pa2 pn2 pc2 pa3 pn3 pc3 qnm qa1 qn1 qc1 qa2 qn2 qc2 qa3 qn3 qc3 W) => rcheckP_any _ A hA W h.p1)
  have qo := Lib.hid (fun W (h : LC A B w pnm pa1 pn1 pc1 pa2 pn2 pc2 pa3 pn3 pc3 qnm qa1 qn1 qc1 qa2 qn2 qc2 qa3 qn3 qc3 W) => pOut_any _ A x W h.p1)
  have qi := Lib.hid (fun W (h : LC A B w pnm pa1 pn1 pc1 pa2 pn2 pc2 pa3 pn3 pc3 qnm qa1 qn1 qc1 qa2 qn2 qc2 qa3 qn3 qc3 W) => pInto_any _ A x W h.p1)
  have qh := Lib.hid (fun W (h : LC A B w pnm pa1 pn1 pc1 pa2 pn2 pc2 pa3 pn3 pc3 qnm qa1 qn1 qc1 qa2 qn2 qc2 qa3 qn3 qc3 W) => preach_any ⟨pnm, pa1, pn1, pc1, pa2, pn2, pc2, pa3, pn3, pc3⟩ A W h.p1)
  clear hu0 b0 L0 h1 h2 ht HL
  rw [hg] at qA
  rw [hh] at qB
  go_enter Tryz.func3, Tryz.ntmps3
  go_wp2_with fail
  rw [← hu0'.out]
  with_reducible refine (qA.out _ L.out).mono ?_
  rintro e u1 ⟨rfl, bu1⟩
  replace L := Lib.hid (L.out.below bu1)
  clear bu1 
  have y0 := L.out.b2.cell 0
  have y1 := L.out.b2.cell 1
  have y2 := L.out.b2.cell 2
  have y3 := L.out.b2.cell 3
  simp at y0 y1 y2 y3
  go_wp2_with fail
  with_reducible refine (qB.out _ L.out).mono ?_
  rintro e u2 ⟨rfl, bu2⟩
  replace L := Lib.hid (L.out.below bu2)
  clear bu2 
  clear y0 y1 y2 y3
  go_wp2_with fail
  with_reducible refine (QL.out _ L.out.tab).mono ?_
  rintro e u3 ⟨rfl, bu3⟩
  replace L := Lib.hid (L.out.below bu3)
  clear bu3 
  go_wp2
  go_ret
  exact ⟨rfl, L.out.bel⟩
set_option maxRecDepth 100000 in
set_option maxHeartbeats 8000000 in
theorem pchecks_no (pnm : ByteArray) (pa1 : Option Addr) (pn1 pc1 : Nat) (pa2 : Option Addr) (pn2 pc2 : Nat) (pa3 : Option Addr) (pn3 pc3 : Nat) (qnm : ByteArray) (qa1 : Option Addr) (qn1 qc1 : Nat) (qa2 : Option Addr) (qn2 qc2 : Nat) (qa3 : Option Addr) (qn3 qc3 : Nat) (A B : PD) (hA : PW A) (hB : PW B) (x : Int) (w : World) (ht : Tab w) (h1 : PrA w ⟨pnm, pa1, pn1, pc1, pa2, pn2, pc2, pa3, pn3, pc3⟩ A) (h2 : PrA w ⟨qnm, qa1, qn1, qc1, qa2, qn2, qc2, qa3, qn3, qc3⟩ B) (HL : ∀ W, Tab W → Calls Tryz.prog 8 #[] W (Gives (.bool true) W)) (hg : bigP A = false) (hh : bigP B = false) (hp : progB A = false) :
    Calls Tryz.prog 3 #[.agg #[.string pnm, .slice pa1 pn1 pc1, .slice pa2 pn2 pc2, .slice pa3 pn3 pc3], .agg #[.string qnm, .slice qa1 qn1 qc1, .slice qa2 qn2 qc2, .slice qa3 qn3 qc3], .int .i64 x] w (Gives (.bool true) w) := by
  obtain ⟨u0, hu0⟩ : ∃ u0, u0 = (w.alloc (.cells #[.string pnm, .slice pa1 pn1 pc1, .slice pa2 pn2 pc2, .slice pa3 pn3 pc3] 26)).alloc (.cells #[.string qnm, .slice qa1 qn1 qc1, .slice qa2 qn2 qc2, .slice qa3 qn3 qc3] 26) := ⟨_, rfl⟩
  have b0 : Below w.heap.size w u0 := by rw [hu0]; exact (box_below _ _ _).alloc (by simp) _
  have L0 : LC A B w pnm pa1 pn1 pc1 pa2 pn2 pc2 pa3 pn3 pc3 qnm qa1 qn1 qc1 qa2 qn2 qc2 qa3 qn3 qc3 u0 := ⟨h1.below b0, h2.below b0, by rw [hu0]; exact (Holds.new w _ _).alloc _, by rw [hu0]; have q := Holds.new (w.alloc (.cells #[.string pnm, .slice pa1 pn1 pc1, .slice pa2 pn2 pc2, .slice pa3 pn3 pc3] 26)) 26 #[.string qnm, .slice qa1 qn1 qc1, .slice qa2 qn2 qc2, .slice qa3 qn3 qc3]; simpa using q, b0, ht.on b0⟩
  have L := Lib.hid L0
  have hu0' := Lib.hid hu0
  have QL := Lib.hid HL
  have qA := Lib.hid (fun W (h : LC A B w pnm pa1 pn1 pc1 pa2 pn2 pc2 pa3 pn3 pc3 qnm qa1 qn1 qc1 qa2 qn2 qc2 qa3 qn3 qc3 W) => plarge_any _ A hA W h.p1)
  have qB := Lib.hid (fun W (h : LC A B w pnm pa1 pn1 pc1 pa2 pn2 pc2 pa3 pn3 pc3 qnm qa1 qn1 qc1 qa2 qn2 qc2 qa3 qn3 qc3 W) => plarge_any _ B hB W h.p2)
  have qc := Lib.hid (fun W (h : LC A B w pnm pa1 pn1 pc1 pa2 pn2 pc2 pa3 pn3 pc3 qnm qa1 qn1 qc1 qa2 qn2 qc2 qa3 qn3 qc3 W) => pcheck_any _ A W h.p1)
  have qs := Lib.hid (fun W (h : LC A B w pnm pa1 pn1 pc1 pa2 pn2 pc2 pa3 pn3 pc3 qnm qa1 qn1 qc1 qa2 qn2 qc2 qa3 qn3 qc3 W) => psame'_any _ _ A B W h.p1 h.p2)
  have qr := Lib.hid (fun W (h : LC A B w pnm pa1 pn1 pc1 pa2 pn2 pc2 pa3 pn3 pc3 qnm qa1 qn1 qc1 qa2 qn2 qc2 qa3 qn3 qc3 W) => psameRef_any _ _ A B W h.p1 h.p2)
  have qk := Lib.hid (fun W (h : LC A B w pnm pa1 pn1 pc1 pa2 pn2 pc2 pa3 pn3 pc3 qnm qa1 qn1 qc1 qa2 qn2 qc2 qa3 qn3 qc3 W) => rcheckP_any _ A hA W h.p1)
  have qo := Lib.hid (fun W (h : LC A B w pnm pa1 pn1 pc1 pa2 pn2 pc2 pa3 pn3 pc3 qnm qa1 qn1 qc1 qa2 qn2 qc2 qa3 qn3 qc3 W) => pOut_any _ A x W h.p1)
  have qi := Lib.hid (fun W (h : LC A B w pnm pa1 pn1 pc1 pa2 pn2 pc2 pa3 pn3 pc3 qnm qa1 qn1 qc1 qa2 qn2 qc2 qa3 qn3 qc3 W) => pInto_any _ A x W h.p1)
  have qh := Lib.hid (fun W (h : LC A B w pnm pa1 pn1 pc1 pa2 pn2 pc2 pa3 pn3 pc3 qnm qa1 qn1 qc1 qa2 qn2 qc2 qa3 qn3 qc3 W) => preach_any ⟨pnm, pa1, pn1, pc1, pa2, pn2, pc2, pa3, pn3, pc3⟩ A W h.p1)
  clear hu0 b0 L0 h1 h2 ht HL
  rw [hg] at qA
  rw [hh] at qB
  rw [hp] at qk
  rw [selP_no hp] at qo qi
  rw [reachP_no hp] at qh
  rw [pchk_bad hp] at qc
  generalize sameP A B = sm at *
  go_enter Tryz.func3, Tryz.ntmps3
  go_wp2_with fail
  rw [← hu0'.out]
  with_reducible refine (qA.out _ L.out).mono ?_
  rintro e u1 ⟨rfl, bu1⟩
  replace L := Lib.hid (L.out.below bu1)
  clear bu1 
  have y0 := L.out.b2.cell 0
  have y1 := L.out.b2.cell 1
  have y2 := L.out.b2.cell 2
  have y3 := L.out.b2.cell 3
  simp at y0 y1 y2 y3
  go_wp2_with fail
  with_reducible refine (qB.out _ L.out).mono ?_
  rintro e u2 ⟨rfl, bu2⟩
  replace L := Lib.hid (L.out.below bu2)
  clear bu2 
  clear y0 y1 y2 y3
  have z0 := L.out.b1.cell 0
  have z1 := L.out.b1.cell 1
  have z2 := L.out.b1.cell 2
  have z3 := L.out.b1.cell 3
  simp at z0 z1 z2 z3
  go_wp2_with fail
  with_reducible refine (qc.out _ L.out).mono ?_
  rintro e u3 ⟨rfl, bu3⟩
  replace L := Lib.hid (L.out.below bu3)
  clear bu3 
  clear z0 z1 z2 z3 
  have LF : ∀ W, Below u3.heap.size u3 W → LC A B w pnm pa1 pn1 pc1 pa2 pn2 pc2 pa3 pn3 pc3 qnm qa1 qn1 qc1 qa2 qn2 qc2 qa3 qn3 qc3 W := fun W hW => L.out.below hW
  have z0 : ∀ W, Below u3.heap.size u3 W → W.cell? ⟨w.heap.size, 0, none⟩ = some (.string pnm) := fun W hW => (LF W hW).b1.cell 0
  have z1 : ∀ W, Below u3.heap.size u3 W → W.cell? ⟨w.heap.size, 1, none⟩ = some (.slice pa1 pn1 pc1) := fun W hW => (LF W hW).b1.cell 1
  have z2 : ∀ W, Below u3.heap.size u3 W → W.cell? ⟨w.heap.size, 2, none⟩ = some (.slice pa2 pn2 pc2) := fun W hW => (LF W hW).b1.cell 2
  have z3 : ∀ W, Below u3.heap.size u3 W → W.cell? ⟨w.heap.size, 3, none⟩ = some (.slice pa3 pn3 pc3) := fun W hW => (LF W hW).b1.cell 3
  have y0 : ∀ W, Below u3.heap.size u3 W → W.cell? ⟨w.heap.size + 1, 0, none⟩ = some (.string qnm) := fun W hW => (LF W hW).b2.cell 0
  have y1 : ∀ W, Below u3.heap.size u3 W → W.cell? ⟨w.heap.size + 1, 1, none⟩ = some (.slice qa1 qn1 qc1) := fun W hW => (LF W hW).b2.cell 1
  have y2 : ∀ W, Below u3.heap.size u3 W → W.cell? ⟨w.heap.size + 1, 2, none⟩ = some (.slice qa2 qn2 qc2) := fun W hW => (LF W hW).b2.cell 2
  have y3 : ∀ W, Below u3.heap.size u3 W → W.cell? ⟨w.heap.size + 1, 3, none⟩ = some (.slice qa3 qn3 qc3) := fun W hW => (LF W hW).b2.cell 3
  go_wp2
  refine wp_drawn (by kernel_rfl) (fun hHeld => ?_)
  refine wpAnyH_ready (rs := [0]) (by kernel_rfl) (by simp) ?_
  refine AllReadyH.cons (o := { dst := some 17, op := Go.Op.call { callee := Go.Callee.value (Go.Operand.func 8), args := #[], argTypes := #[] }, type := 4, pos := "law.go:43", after := #[], guard := none }) rfl (fun K hK => ?_) AllReadyH.nil
  go_simp
  with_reducible refine (QL.out _ (LF _ hHeld).tab).mono ?_
  rintro e t0 ⟨rfl, b0⟩
  have hB0 := hHeld.trans (b0.mono hHeld.size)
  go_simp
  refine hK.out _ _ (hB0) (fun hHeld => ?_)
  clear hK K
  try simp only [Act.put, List.setIfInBounds_toArray, List.set_cons_zero, List.set_cons_succ]
  refine wpAnyH_now hHeld (fun hHeld => ?_)
  replace LF := rebase LF (hB0)
  replace z0 := rebase z0 (hB0)
  replace z1 := rebase z1 (hB0)
  replace z2 := rebase z2 (hB0)
  replace z3 := rebase z3 (hB0)
  replace y0 := rebase y0 (hB0)
  replace y1 := rebase y1 (hB0)
  replace y2 := rebase y2 (hB0)
  replace y3 := rebase y3 (hB0)
  refine wpAnyH_take (i := 1) (oi := { dst := some 18, op := Go.Op.unOp Go.UnOp.not 4 (Go.Operand.tmp 17), type := 4, pos := "law.go:43", after := #[{ on := 0, ground := Go.Ground.data }], guard := none }) (v := ?v1) rfl (by kernel_rfl) (by kernel_rfl) (by kernel_rfl) (fun _ _ _ h => h) (Or.inl ⟨by kernel_rfl, ?h1⟩) (by assumption) ?r1
  case h1 => (intro w hSw; (try dsimp only at hSw); go_simp; try with_reducible rfl)
  try simp only [Act.put, List.setIfInBounds_toArray, List.set_cons_zero, List.set_cons_succ]
  refine wpAnyH_take (i := 2) (oi := { dst := some 19, op := Go.Op.move (Go.Operand.tmp 18), type := 4, pos := "law.go:43", after := #[{ on := 1, ground := Go.Ground.data }, { on := 0, ground := Go.Ground.chain }], guard := none }) (v := ?v2) rfl (by kernel_rfl) (by kernel_rfl) (by kernel_rfl) (fun _ _ _ h => h) (Or.inl ⟨by kernel_rfl, ?h2⟩) (by assumption) ?r2
  case h2 => (intro w hSw; (try dsimp only at hSw); go_simp; try with_reducible rfl)
  try simp only [Act.put, List.setIfInBounds_toArray, List.set_cons_zero, List.set_cons_succ]
  refine wpAnyH_take (i := 3) (oi := { dst := some 20, op := Go.Op.load 26 (Go.Operand.tmp 3), type := 26, pos := "law.go:43", after := #[{ on := 2, ground := Go.Ground.guard }], guard := some (2, false) }) (v := ?v3) rfl (by kernel_rfl) (by kernel_rfl) (by kernel_rfl) (fun _ _ _ h => h) (Or.inl ⟨by kernel_rfl, ?h3⟩) (by assumption) ?r3
  case h3 => (intro w hSw; (try dsimp only at hSw); go_simp; try with_reducible rfl)
  try simp only [Act.put, List.setIfInBounds_toArray, List.set_cons_zero, List.set_cons_succ]
  refine wpAnyH_take (i := 4) (oi := { dst := some 21, op := Go.Op.load 26 (Go.Operand.tmp 4), type := 26, pos := "law.go:43", after := #[{ on := 2, ground := Go.Ground.guard }], guard := some (2, false) }) (v := ?v4) rfl (by kernel_rfl) (by kernel_rfl) (by kernel_rfl) (fun _ _ _ h => h) (Or.inl ⟨by kernel_rfl, ?h4⟩) (by assumption) ?r4
  case h4 => (intro w hSw; (try dsimp only at hSw); go_simp; try with_reducible rfl)
  try simp only [Act.put, List.setIfInBounds_toArray, List.set_cons_zero, List.set_cons_succ]
  refine wpAnyH_take (i := 6) (oi := { dst := some 23, op := Go.Op.load 26 (Go.Operand.tmp 3), type := 26, pos := "law.go:43", after := #[{ on := 2, ground := Go.Ground.guard }], guard := some (2, false) }) (v := ?v5) rfl (by kernel_rfl) (by kernel_rfl) (by kernel_rfl) (fun _ _ _ h => h) (Or.inl ⟨by kernel_rfl, ?h5⟩) (by assumption) ?r5
  case h5 => (intro w hSw; (try dsimp only at hSw); go_simp; try with_reducible rfl)
  try simp only [Act.put, List.setIfInBounds_toArray, List.set_cons_zero, List.set_cons_succ]
  refine wpAnyH_take (i := 7) (oi := { dst := some 24, op := Go.Op.load 26 (Go.Operand.tmp 4), type := 26, pos := "law.go:43", after := #[{ on := 2, ground := Go.Ground.guard }], guard := some (2, false) }) (v := ?v6) rfl (by kernel_rfl) (by kernel_rfl) (by kernel_rfl) (fun _ _ _ h => h) (Or.inl ⟨by kernel_rfl, ?h6⟩) (by assumption) ?r6
  case h6 => (intro w hSw; (try dsimp only at hSw); go_simp; try with_reducible rfl)
  try simp only [Act.put, List.setIfInBounds_toArray, List.set_cons_zero, List.set_cons_succ]
  refine wpAnyH_ready (rs := [5]) (by kernel_rfl) (by simp) ?_
  refine AllReadyH.cons (o := { dst := some 22, op := Go.Op.call { callee := Go.Callee.value (Go.Operand.func 10), args := #[Go.Operand.tmp 20, Go.Operand.tmp 21], argTypes := #[26, 26] }, type := 4, pos := "law.go:43", after := #[{ on := 3, ground := Go.Ground.data }, { on := 4, ground := Go.Ground.data }, { on := 2, ground := Go.Ground.chain }, { on := 2, ground := Go.Ground.guard }], guard := some (2, false) }) rfl (fun K hK => ?_) AllReadyH.nil
  go_simp
  with_reducible refine (qs.out _ (LF _ hHeld)).mono ?_
  rintro e t5 ⟨rfl, b5⟩
  have hB5 := hHeld.trans (b5.mono hHeld.size)
  go_simp
  refine hK.out _ _ (hB5) (fun hHeld => ?_)
  clear hK K
  try simp only [Act.put, List.setIfInBounds_toArray, List.set_cons_zero, List.set_cons_succ]
  refine wpAnyH_now hHeld (fun hHeld => ?_)
  replace LF := rebase LF (hB5)
  replace z0 := rebase z0 (hB5)
  replace z1 := rebase z1 (hB5)
  replace z2 := rebase z2 (hB5)
  replace z3 := rebase z3 (hB5)
  replace y0 := rebase y0 (hB5)
  replace y1 := rebase y1 (hB5)
  replace y2 := rebase y2 (hB5)
  replace y3 := rebase y3 (hB5)
  refine wpAnyH_ready (rs := [8]) (by kernel_rfl) (by simp) ?_
  refine AllReadyH.cons (o := { dst := some 25, op := Go.Op.call { callee := Go.Callee.value (Go.Operand.func 11), args := #[Go.Operand.tmp 23, Go.Operand.tmp 24], argTypes := #[26, 26] }, type := 4, pos := "law.go:43", after := #[{ on := 6, ground := Go.Ground.data }, { on := 7, ground := Go.Ground.data }, { on := 5, ground := Go.Ground.chain }, { on := 2, ground := Go.Ground.guard }], guard := some (2, false) }) rfl (fun K hK => ?_) AllReadyH.nil
  go_simp
  with_reducible refine (qr.out _ (LF _ hHeld)).mono ?_
  rintro e t8 ⟨rfl, b8⟩
  have hB8 := hHeld.trans (b8.mono hHeld.size)
  go_simp
  refine hK.out _ _ (hB8) (fun hHeld => ?_)
  clear hK K
  try simp only [Act.put, List.setIfInBounds_toArray, List.set_cons_zero, List.set_cons_succ]
  refine wpAnyH_now hHeld (fun hHeld => ?_)
  replace LF := rebase LF (hB8)
  replace z0 := rebase z0 (hB8)
  replace z1 := rebase z1 (hB8)
  replace z2 := rebase z2 (hB8)
  replace z3 := rebase z3 (hB8)
  replace y0 := rebase y0 (hB8)
  replace y1 := rebase y1 (hB8)
  replace y2 := rebase y2 (hB8)
  replace y3 := rebase y3 (hB8)
  refine wpAnyH_take (i := 9) (oi := { dst := some 26, op := Go.Op.binOp Go.BinOp.neq 4 (Go.Operand.tmp 22) (Go.Operand.tmp 25) 4, type := 4, pos := "law.go:43", after := #[{ on := 5, ground := Go.Ground.data }, { on := 8, ground := Go.Ground.data }, { on := 2, ground := Go.Ground.guard }], guard := some (2, false) }) (v := ?v7) rfl (by kernel_rfl) (by kernel_rfl) (by kernel_rfl) (fun _ _ _ h => h) (Or.inl ⟨by kernel_rfl, ?h7⟩) (by assumption) ?r7
  case h7 => (intro w hSw; (try dsimp only at hSw); go_simp; try with_reducible rfl)
  try simp only [Act.put, List.setIfInBounds_toArray, List.set_cons_zero, List.set_cons_succ]
  refine wpAnyH_take (i := 10) (oi := { dst := some 27, op := Go.Op.pick (Go.Operand.tmp 19) (Go.Operand.const (Go.Value.bool true)) (Go.Operand.tmp 26), type := 4, pos := "law.go:43", after := #[{ on := 2, ground := Go.Ground.data }, { on := 9, ground := Go.Ground.data }], guard := none }) (v := ?v8) rfl (by kernel_rfl) (by kernel_rfl) (by kernel_rfl) (fun _ _ _ h => h) (Or.inl ⟨by kernel_rfl, ?h8⟩) (by assumption) ?r8
  case h8 => (intro w hSw; (try dsimp only at hSw); go_simp; try with_reducible rfl)
  try simp only [Act.put, List.setIfInBounds_toArray, List.set_cons_zero, List.set_cons_succ]
  refine wpAnyH_done (by kernel_rfl) ?_ _
  replace L := Lib.hid (LF _ hHeld)
  clear z0 z1 z2 z3 y0 y1 y2 y3 LF hHeld
  have z0 := L.out.b1.cell 0
  have z1 := L.out.b1.cell 1
  have z2 := L.out.b1.cell 2
  have z3 := L.out.b1.cell 3
  simp at z0 z1 z2 z3
  go_wp2_with fail
  with_reducible refine (qk.out _ L.out).mono ?_
  rintro e u4 ⟨rfl, bu4⟩
  replace L := Lib.hid (L.out.below bu4)
  clear bu4
  clear z0 z1 z2 z3
  have z0 := L.out.b1.cell 0
  have z1 := L.out.b1.cell 1
  have z2 := L.out.b1.cell 2
  have z3 := L.out.b1.cell 3
  simp at z0 z1 z2 z3
  go_wp2_with fail
  with_reducible refine (qo.out _ L.out).mono ?_
  rintro e u5 hs
  obtain ⟨au5, cu5, rfl, bu5⟩ := slp_nil hs
  replace L := Lib.hid (L.out.below bu5)
  clear bu5 hs
  clear z0 z1 z2 z3
  have z0 := L.out.b1.cell 0
  have z1 := L.out.b1.cell 1
  have z2 := L.out.b1.cell 2
  have z3 := L.out.b1.cell 3
  simp at z0 z1 z2 z3
  go_wp2_with fail
  with_reducible refine (qi.out _ L.out).mono ?_
  rintro e u6 hs
  obtain ⟨au6, cu6, rfl, bu6⟩ := slp_nil hs
  replace L := Lib.hid (L.out.below bu6)
  clear bu6 hs
  clear z0 z1 z2 z3
  have z0 := L.out.b1.cell 0
  have z1 := L.out.b1.cell 1
  have z2 := L.out.b1.cell 2
  have z3 := L.out.b1.cell 3
  simp at z0 z1 z2 z3
  go_wp2_with fail
  with_reducible refine (qh.out _ L.out).mono ?_
  rintro e u7 hs
  obtain ⟨au7, cu7, rfl, bu7⟩ := slp_nil hs
  replace L := Lib.hid (L.out.below bu7)
  clear bu7 hs
  clear z0 z1 z2 z3
  go_wp2
  go_ret
  exact ⟨rfl, L.out.bel⟩
set_option maxRecDepth 100000 in
set_option maxHeartbeats 8000000 in
theorem pchecks_ok (pnm : ByteArray) (pa1 : Option Addr) (pn1 pc1 : Nat) (pa2 : Option Addr) (pn2 pc2 : Nat) (pa3 : Option Addr) (pn3 pc3 : Nat) (qnm : ByteArray) (qa1 : Option Addr) (qn1 qc1 : Nat) (qa2 : Option Addr) (qn2 qc2 : Nat) (qa3 : Option Addr) (qn3 qc3 : Nat) (A B : PD) (hA : PW A) (hB : PW B) (x : Int) (w : World) (ht : Tab w) (h1 : PrA w ⟨pnm, pa1, pn1, pc1, pa2, pn2, pc2, pa3, pn3, pc3⟩ A) (h2 : PrA w ⟨qnm, qa1, qn1, qc1, qa2, qn2, qc2, qa3, qn3, qc3⟩ B) (HL : ∀ W, Tab W → Calls Tryz.prog 8 #[] W (Gives (.bool true) W)) (hg : bigP A = false) (hh : bigP B = false) (hp : progB A = true) :
    Calls Tryz.prog 3 #[.agg #[.string pnm, .slice pa1 pn1 pc1, .slice pa2 pn2 pc2, .slice pa3 pn3 pc3], .agg #[.string qnm, .slice qa1 qn1 qc1, .slice qa2 qn2 qc2, .slice qa3 qn3 qc3], .int .i64 x] w (Gives (.bool true) w) := by
  obtain ⟨u0, hu0⟩ : ∃ u0, u0 = (w.alloc (.cells #[.string pnm, .slice pa1 pn1 pc1, .slice pa2 pn2 pc2, .slice pa3 pn3 pc3] 26)).alloc (.cells #[.string qnm, .slice qa1 qn1 qc1, .slice qa2 qn2 qc2, .slice qa3 qn3 qc3] 26) := ⟨_, rfl⟩
  have b0 : Below w.heap.size w u0 := by rw [hu0]; exact (box_below _ _ _).alloc (by simp) _
  have L0 : LC A B w pnm pa1 pn1 pc1 pa2 pn2 pc2 pa3 pn3 pc3 qnm qa1 qn1 qc1 qa2 qn2 qc2 qa3 qn3 qc3 u0 := ⟨h1.below b0, h2.below b0, by rw [hu0]; exact (Holds.new w _ _).alloc _, by rw [hu0]; have q := Holds.new (w.alloc (.cells #[.string pnm, .slice pa1 pn1 pc1, .slice pa2 pn2 pc2, .slice pa3 pn3 pc3] 26)) 26 #[.string qnm, .slice qa1 qn1 qc1, .slice qa2 qn2 qc2, .slice qa3 qn3 qc3]; simpa using q, b0, ht.on b0⟩
  have L := Lib.hid L0
  have hu0' := Lib.hid hu0
  have QL := Lib.hid HL
  have qA := Lib.hid (fun W (h : LC A B w pnm pa1 pn1 pc1 pa2 pn2 pc2 pa3 pn3 pc3 qnm qa1 qn1 qc1 qa2 qn2 qc2 qa3 qn3 qc3 W) => plarge_any _ A hA W h.p1)
  have qB := Lib.hid (fun W (h : LC A B w pnm pa1 pn1 pc1 pa2 pn2 pc2 pa3 pn3 pc3 qnm qa1 qn1 qc1 qa2 qn2 qc2 qa3 qn3 qc3 W) => plarge_any _ B hB W h.p2)
  have qc := Lib.hid (fun W (h : LC A B w pnm pa1 pn1 pc1 pa2 pn2 pc2 pa3 pn3 pc3 qnm qa1 qn1 qc1 qa2 qn2 qc2 qa3 qn3 qc3 W) => pcheck_any _ A W h.p1)
  have qs := Lib.hid (fun W (h : LC A B w pnm pa1 pn1 pc1 pa2 pn2 pc2 pa3 pn3 pc3 qnm qa1 qn1 qc1 qa2 qn2 qc2 qa3 qn3 qc3 W) => psame'_any _ _ A B W h.p1 h.p2)
  have qr := Lib.hid (fun W (h : LC A B w pnm pa1 pn1 pc1 pa2 pn2 pc2 pa3 pn3 pc3 qnm qa1 qn1 qc1 qa2 qn2 qc2 qa3 qn3 qc3 W) => psameRef_any _ _ A B W h.p1 h.p2)
  have qk := Lib.hid (fun W (h : LC A B w pnm pa1 pn1 pc1 pa2 pn2 pc2 pa3 pn3 pc3 qnm qa1 qn1 qc1 qa2 qn2 qc2 qa3 qn3 qc3 W) => rcheckP_any _ A hA W h.p1)
  have qo := Lib.hid (fun W (h : LC A B w pnm pa1 pn1 pc1 pa2 pn2 pc2 pa3 pn3 pc3 qnm qa1 qn1 qc1 qa2 qn2 qc2 qa3 qn3 qc3 W) => pOut_any _ A x W h.p1)
  have qi := Lib.hid (fun W (h : LC A B w pnm pa1 pn1 pc1 pa2 pn2 pc2 pa3 pn3 pc3 qnm qa1 qn1 qc1 qa2 qn2 qc2 qa3 qn3 qc3 W) => pInto_any _ A x W h.p1)
  have qh := Lib.hid (fun W (h : LC A B w pnm pa1 pn1 pc1 pa2 pn2 pc2 pa3 pn3 pc3 qnm qa1 qn1 qc1 qa2 qn2 qc2 qa3 qn3 qc3 W) => preach_any ⟨pnm, pa1, pn1, pc1, pa2, pn2, pc2, pa3, pn3, pc3⟩ A W h.p1)
  clear hu0 b0 L0 h1 h2 ht HL
  rw [hg] at qA
  rw [hh] at qB
  have hn3 : pn3 ≤ 256 := by have q : pn3 = A.edges.length := L.out.p1.edges.len; have := (prog_sizes hp).2.2; omega
  have qro := Lib.hid (fun W (h : LC A B w pnm pa1 pn1 pc1 pa2 pn2 pc2 pa3 pn3 pc3 qnm qa1 qn1 qc1 qa2 qn2 qc2 qa3 qn3 qc3 W) => rOut_any ⟨pnm, pa1, pn1, pc1, pa2, pn2, pc2, pa3, pn3, pc3⟩ A x hn3 W h.p1)
  have qri := Lib.hid (fun W (h : LC A B w pnm pa1 pn1 pc1 pa2 pn2 pc2 pa3 pn3 pc3 qnm qa1 qn1 qc1 qa2 qn2 qc2 qa3 qn3 qc3 W) => rInto_any ⟨pnm, pa1, pn1, pc1, pa2, pn2, pc2, pa3, pn3, pc3⟩ A x hn3 W h.p1)
  have qrh := Lib.hid (fun W (h : LC A B w pnm pa1 pn1 pc1 pa2 pn2 pc2 pa3 pn3 pc3 qnm qa1 qn1 qc1 qa2 qn2 qc2 qa3 qn3 qc3 W) => rreach_any ⟨pnm, pa1, pn1, pc1, pa2, pn2, pc2, pa3, pn3, pc3⟩ A hp W h.p1)
  have QN : Hid (∀ l a1 a3 n1 n3 c1 c3 W, SL W a1 n1 c1 l → SL W a3 n3 c3 l → Calls Tryz.prog 16 #[.slice a1 n1 c1, .slice a3 n3 c3] W (Gives (.bool true) W)) := Lib.hid (fun l a1 a3 n1 n3 c1 c3 W h1 h2 => by have q := pints_any a1 a3 l l n1 n3 c1 c3 W h1 h2; rw [show decide (l = l) = true by simp] at q; exact q)
  rw [hp] at qk
  rw [selP_ok hp] at qo qi
  rw [reachP_ok hp] at qh
  rw [pchk_ok hp] at qc
  generalize selL (outQ x) A.edges A.edges.length = LO at *
  generalize selL (intoQ x) A.edges A.edges.length = LI at *
  generalize intsP (reachN A) = LR at *
  generalize sameP A B = sm at *
  go_enter Tryz.func3, Tryz.ntmps3
  go_wp2_with fail
  rw [← hu0'.out]
  with_reducible refine (qA.out _ L.out).mono ?_
  rintro e u1 ⟨rfl, bu1⟩
  replace L := Lib.hid (L.out.below bu1)
  clear bu1 
  have y0 := L.out.b2.cell 0
  have y1 := L.out.b2.cell 1
  have y2 := L.out.b2.cell 2
  have y3 := L.out.b2.cell 3
  simp at y0 y1 y2 y3
  go_wp2_with fail
  with_reducible refine (qB.out _ L.out).mono ?_
  rintro e u2 ⟨rfl, bu2⟩
  replace L := Lib.hid (L.out.below bu2)
  clear bu2 
  clear y0 y1 y2 y3
  have z0 := L.out.b1.cell 0
  have z1 := L.out.b1.cell 1
  have z2 := L.out.b1.cell 2
  have z3 := L.out.b1.cell 3
  simp at z0 z1 z2 z3
  go_wp2_with fail
  with_reducible refine (qc.out _ L.out).mono ?_
  rintro e u3 ⟨rfl, bu3⟩
  replace L := Lib.hid (L.out.below bu3)
  clear bu3 
  clear z0 z1 z2 z3 
  have LF : ∀ W, Below u3.heap.size u3 W → LC A B w pnm pa1 pn1 pc1 pa2 pn2 pc2 pa3 pn3 pc3 qnm qa1 qn1 qc1 qa2 qn2 qc2 qa3 qn3 qc3 W := fun W hW => L.out.below hW
  have z0 : ∀ W, Below u3.heap.size u3 W → W.cell? ⟨w.heap.size, 0, none⟩ = some (.string pnm) := fun W hW => (LF W hW).b1.cell 0
  have z1 : ∀ W, Below u3.heap.size u3 W → W.cell? ⟨w.heap.size, 1, none⟩ = some (.slice pa1 pn1 pc1) := fun W hW => (LF W hW).b1.cell 1
  have z2 : ∀ W, Below u3.heap.size u3 W → W.cell? ⟨w.heap.size, 2, none⟩ = some (.slice pa2 pn2 pc2) := fun W hW => (LF W hW).b1.cell 2
  have z3 : ∀ W, Below u3.heap.size u3 W → W.cell? ⟨w.heap.size, 3, none⟩ = some (.slice pa3 pn3 pc3) := fun W hW => (LF W hW).b1.cell 3
  have y0 : ∀ W, Below u3.heap.size u3 W → W.cell? ⟨w.heap.size + 1, 0, none⟩ = some (.string qnm) := fun W hW => (LF W hW).b2.cell 0
  have y1 : ∀ W, Below u3.heap.size u3 W → W.cell? ⟨w.heap.size + 1, 1, none⟩ = some (.slice qa1 qn1 qc1) := fun W hW => (LF W hW).b2.cell 1
  have y2 : ∀ W, Below u3.heap.size u3 W → W.cell? ⟨w.heap.size + 1, 2, none⟩ = some (.slice qa2 qn2 qc2) := fun W hW => (LF W hW).b2.cell 2
  have y3 : ∀ W, Below u3.heap.size u3 W → W.cell? ⟨w.heap.size + 1, 3, none⟩ = some (.slice qa3 qn3 qc3) := fun W hW => (LF W hW).b2.cell 3
  go_wp2
  refine wp_drawn (by kernel_rfl) (fun hHeld => ?_)
  refine wpAnyH_ready (rs := [0]) (by kernel_rfl) (by simp) ?_
  refine AllReadyH.cons (o := { dst := some 17, op := Go.Op.call { callee := Go.Callee.value (Go.Operand.func 8), args := #[], argTypes := #[] }, type := 4, pos := "law.go:43", after := #[], guard := none }) rfl (fun K hK => ?_) AllReadyH.nil
  go_simp
  with_reducible refine (QL.out _ (LF _ hHeld).tab).mono ?_
  rintro e t0 ⟨rfl, b0⟩
  have hB0 := hHeld.trans (b0.mono hHeld.size)
  go_simp
  refine hK.out _ _ (hB0) (fun hHeld => ?_)
  clear hK K
  try simp only [Act.put, List.setIfInBounds_toArray, List.set_cons_zero, List.set_cons_succ]
  refine wpAnyH_now hHeld (fun hHeld => ?_)
  replace LF := rebase LF (hB0)
  replace z0 := rebase z0 (hB0)
  replace z1 := rebase z1 (hB0)
  replace z2 := rebase z2 (hB0)
  replace z3 := rebase z3 (hB0)
  replace y0 := rebase y0 (hB0)
  replace y1 := rebase y1 (hB0)
  replace y2 := rebase y2 (hB0)
  replace y3 := rebase y3 (hB0)
  refine wpAnyH_take (i := 1) (oi := { dst := some 18, op := Go.Op.unOp Go.UnOp.not 4 (Go.Operand.tmp 17), type := 4, pos := "law.go:43", after := #[{ on := 0, ground := Go.Ground.data }], guard := none }) (v := ?v9) rfl (by kernel_rfl) (by kernel_rfl) (by kernel_rfl) (fun _ _ _ h => h) (Or.inl ⟨by kernel_rfl, ?h9⟩) (by assumption) ?r9
  case h9 => (intro w hSw; (try dsimp only at hSw); go_simp; try with_reducible rfl)
  try simp only [Act.put, List.setIfInBounds_toArray, List.set_cons_zero, List.set_cons_succ]
  refine wpAnyH_take (i := 2) (oi := { dst := some 19, op := Go.Op.move (Go.Operand.tmp 18), type := 4, pos := "law.go:43", after := #[{ on := 1, ground := Go.Ground.data }, { on := 0, ground := Go.Ground.chain }], guard := none }) (v := ?v10) rfl (by kernel_rfl) (by kernel_rfl) (by kernel_rfl) (fun _ _ _ h => h) (Or.inl ⟨by kernel_rfl, ?h10⟩) (by assumption) ?r10
  case h10 => (intro w hSw; (try dsimp only at hSw); go_simp; try with_reducible rfl)
  try simp only [Act.put, List.setIfInBounds_toArray, List.set_cons_zero, List.set_cons_succ]
  refine wpAnyH_take (i := 3) (oi := { dst := some 20, op := Go.Op.load 26 (Go.Operand.tmp 3), type := 26, pos := "law.go:43", after := #[{ on := 2, ground := Go.Ground.guard }], guard := some (2, false) }) (v := ?v11) rfl (by kernel_rfl) (by kernel_rfl) (by kernel_rfl) (fun _ _ _ h => h) (Or.inl ⟨by kernel_rfl, ?h11⟩) (by assumption) ?r11
  case h11 => (intro w hSw; (try dsimp only at hSw); go_simp; try with_reducible rfl)
  try simp only [Act.put, List.setIfInBounds_toArray, List.set_cons_zero, List.set_cons_succ]
  refine wpAnyH_take (i := 4) (oi := { dst := some 21, op := Go.Op.load 26 (Go.Operand.tmp 4), type := 26, pos := "law.go:43", after := #[{ on := 2, ground := Go.Ground.guard }], guard := some (2, false) }) (v := ?v12) rfl (by kernel_rfl) (by kernel_rfl) (by kernel_rfl) (fun _ _ _ h => h) (Or.inl ⟨by kernel_rfl, ?h12⟩) (by assumption) ?r12
  case h12 => (intro w hSw; (try dsimp only at hSw); go_simp; try with_reducible rfl)
  try simp only [Act.put, List.setIfInBounds_toArray, List.set_cons_zero, List.set_cons_succ]
  refine wpAnyH_take (i := 6) (oi := { dst := some 23, op := Go.Op.load 26 (Go.Operand.tmp 3), type := 26, pos := "law.go:43", after := #[{ on := 2, ground := Go.Ground.guard }], guard := some (2, false) }) (v := ?v13) rfl (by kernel_rfl) (by kernel_rfl) (by kernel_rfl) (fun _ _ _ h => h) (Or.inl ⟨by kernel_rfl, ?h13⟩) (by assumption) ?r13
  case h13 => (intro w hSw; (try dsimp only at hSw); go_simp; try with_reducible rfl)
  try simp only [Act.put, List.setIfInBounds_toArray, List.set_cons_zero, List.set_cons_succ]
  refine wpAnyH_take (i := 7) (oi := { dst := some 24, op := Go.Op.load 26 (Go.Operand.tmp 4), type := 26, pos := "law.go:43", after := #[{ on := 2, ground := Go.Ground.guard }], guard := some (2, false) }) (v := ?v14) rfl (by kernel_rfl) (by kernel_rfl) (by kernel_rfl) (fun _ _ _ h => h) (Or.inl ⟨by kernel_rfl, ?h14⟩) (by assumption) ?r14
  case h14 => (intro w hSw; (try dsimp only at hSw); go_simp; try with_reducible rfl)
  try simp only [Act.put, List.setIfInBounds_toArray, List.set_cons_zero, List.set_cons_succ]
  refine wpAnyH_ready (rs := [5]) (by kernel_rfl) (by simp) ?_
  refine AllReadyH.cons (o := { dst := some 22, op := Go.Op.call { callee := Go.Callee.value (Go.Operand.func 10), args := #[Go.Operand.tmp 20, Go.Operand.tmp 21], argTypes := #[26, 26] }, type := 4, pos := "law.go:43", after := #[{ on := 3, ground := Go.Ground.data }, { on := 4, ground := Go.Ground.data }, { on := 2, ground := Go.Ground.chain }, { on := 2, ground := Go.Ground.guard }], guard := some (2, false) }) rfl (fun K hK => ?_) AllReadyH.nil
  go_simp
  with_reducible refine (qs.out _ (LF _ hHeld)).mono ?_
  rintro e t5 ⟨rfl, b5⟩
  have hB5 := hHeld.trans (b5.mono hHeld.size)
  go_simp
  refine hK.out _ _ (hB5) (fun hHeld => ?_)
  clear hK K
  try simp only [Act.put, List.setIfInBounds_toArray, List.set_cons_zero, List.set_cons_succ]
  refine wpAnyH_now hHeld (fun hHeld => ?_)
  replace LF := rebase LF (hB5)
  replace z0 := rebase z0 (hB5)
  replace z1 := rebase z1 (hB5)
  replace z2 := rebase z2 (hB5)
  replace z3 := rebase z3 (hB5)
  replace y0 := rebase y0 (hB5)
  replace y1 := rebase y1 (hB5)
  replace y2 := rebase y2 (hB5)
  replace y3 := rebase y3 (hB5)
  refine wpAnyH_ready (rs := [8]) (by kernel_rfl) (by simp) ?_
  refine AllReadyH.cons (o := { dst := some 25, op := Go.Op.call { callee := Go.Callee.value (Go.Operand.func 11), args := #[Go.Operand.tmp 23, Go.Operand.tmp 24], argTypes := #[26, 26] }, type := 4, pos := "law.go:43", after := #[{ on := 6, ground := Go.Ground.data }, { on := 7, ground := Go.Ground.data }, { on := 5, ground := Go.Ground.chain }, { on := 2, ground := Go.Ground.guard }], guard := some (2, false) }) rfl (fun K hK => ?_) AllReadyH.nil
  go_simp
  with_reducible refine (qr.out _ (LF _ hHeld)).mono ?_
  rintro e t8 ⟨rfl, b8⟩
  have hB8 := hHeld.trans (b8.mono hHeld.size)
  go_simp
  refine hK.out _ _ (hB8) (fun hHeld => ?_)
  clear hK K
  try simp only [Act.put, List.setIfInBounds_toArray, List.set_cons_zero, List.set_cons_succ]
  refine wpAnyH_now hHeld (fun hHeld => ?_)
  replace LF := rebase LF (hB8)
  replace z0 := rebase z0 (hB8)
  replace z1 := rebase z1 (hB8)
  replace z2 := rebase z2 (hB8)
  replace z3 := rebase z3 (hB8)
  replace y0 := rebase y0 (hB8)
  replace y1 := rebase y1 (hB8)
  replace y2 := rebase y2 (hB8)
  replace y3 := rebase y3 (hB8)
  refine wpAnyH_take (i := 9) (oi := { dst := some 26, op := Go.Op.binOp Go.BinOp.neq 4 (Go.Operand.tmp 22) (Go.Operand.tmp 25) 4, type := 4, pos := "law.go:43", after := #[{ on := 5, ground := Go.Ground.data }, { on := 8, ground := Go.Ground.data }, { on := 2, ground := Go.Ground.guard }], guard := some (2, false) }) (v := ?v15) rfl (by kernel_rfl) (by kernel_rfl) (by kernel_rfl) (fun _ _ _ h => h) (Or.inl ⟨by kernel_rfl, ?h15⟩) (by assumption) ?r15
  case h15 => (intro w hSw; (try dsimp only at hSw); go_simp; try with_reducible rfl)
  try simp only [Act.put, List.setIfInBounds_toArray, List.set_cons_zero, List.set_cons_succ]
  refine wpAnyH_take (i := 10) (oi := { dst := some 27, op := Go.Op.pick (Go.Operand.tmp 19) (Go.Operand.const (Go.Value.bool true)) (Go.Operand.tmp 26), type := 4, pos := "law.go:43", after := #[{ on := 2, ground := Go.Ground.data }, { on := 9, ground := Go.Ground.data }], guard := none }) (v := ?v16) rfl (by kernel_rfl) (by kernel_rfl) (by kernel_rfl) (fun _ _ _ h => h) (Or.inl ⟨by kernel_rfl, ?h16⟩) (by assumption) ?r16
  case h16 => (intro w hSw; (try dsimp only at hSw); go_simp; try with_reducible rfl)
  try simp only [Act.put, List.setIfInBounds_toArray, List.set_cons_zero, List.set_cons_succ]
  refine wpAnyH_done (by kernel_rfl) ?_ _
  replace L := Lib.hid (LF _ hHeld)
  clear z0 z1 z2 z3 y0 y1 y2 y3 LF hHeld
  have z0 := L.out.b1.cell 0
  have z1 := L.out.b1.cell 1
  have z2 := L.out.b1.cell 2
  have z3 := L.out.b1.cell 3
  simp at z0 z1 z2 z3
  go_wp2_with fail
  with_reducible refine (qk.out _ L.out).mono ?_
  rintro e u4 ⟨rfl, bu4⟩
  replace L := Lib.hid (L.out.below bu4)
  clear bu4
  clear z0 z1 z2 z3
  have LF : ∀ W, Below u4.heap.size u4 W → LC A B w pnm pa1 pn1 pc1 pa2 pn2 pc2 pa3 pn3 pc3 qnm qa1 qn1 qc1 qa2 qn2 qc2 qa3 qn3 qc3 W := fun W hW => L.out.below hW
  have z0 : ∀ W, Below u4.heap.size u4 W → W.cell? ⟨w.heap.size, 0, none⟩ = some (.string pnm) := fun W hW => (LF W hW).b1.cell 0
  have z1 : ∀ W, Below u4.heap.size u4 W → W.cell? ⟨w.heap.size, 1, none⟩ = some (.slice pa1 pn1 pc1) := fun W hW => (LF W hW).b1.cell 1
  have z2 : ∀ W, Below u4.heap.size u4 W → W.cell? ⟨w.heap.size, 2, none⟩ = some (.slice pa2 pn2 pc2) := fun W hW => (LF W hW).b1.cell 2
  have z3 : ∀ W, Below u4.heap.size u4 W → W.cell? ⟨w.heap.size, 3, none⟩ = some (.slice pa3 pn3 pc3) := fun W hW => (LF W hW).b1.cell 3
  have y0 : ∀ W, Below u4.heap.size u4 W → W.cell? ⟨w.heap.size + 1, 0, none⟩ = some (.string qnm) := fun W hW => (LF W hW).b2.cell 0
  have y1 : ∀ W, Below u4.heap.size u4 W → W.cell? ⟨w.heap.size + 1, 1, none⟩ = some (.slice qa1 qn1 qc1) := fun W hW => (LF W hW).b2.cell 1
  have y2 : ∀ W, Below u4.heap.size u4 W → W.cell? ⟨w.heap.size + 1, 2, none⟩ = some (.slice qa2 qn2 qc2) := fun W hW => (LF W hW).b2.cell 2
  have y3 : ∀ W, Below u4.heap.size u4 W → W.cell? ⟨w.heap.size + 1, 3, none⟩ = some (.slice qa3 qn3 qc3) := fun W hW => (LF W hW).b2.cell 3
  go_wp2
  refine wp_drawn (by kernel_rfl) (fun hHeld => ?_)
  refine wpAnyH_take (i := 0) (oi := { dst := some 53, op := Go.Op.move (Go.Operand.tmp 7), type := 29, pos := "law.go:49", after := #[], guard := none }) (v := ?v17) rfl (by kernel_rfl) (by kernel_rfl) (by kernel_rfl) (fun _ _ _ h => h) (Or.inl ⟨by kernel_rfl, ?h17⟩) (by assumption) ?r17
  case h17 => (intro w hSw; (try dsimp only at hSw); go_simp; try with_reducible rfl)
  try simp only [Act.put, List.setIfInBounds_toArray, List.set_cons_zero, List.set_cons_succ]
  refine wpAnyH_take (i := 1) (oi := { dst := some 54, op := Go.Op.binOp Go.BinOp.eql 29 (Go.Operand.tmp 53) (Go.Operand.const (Go.Value.int Go.IntKind.i64 0)) 29, type := 4, pos := "law.go:49", after := #[{ on := 0, ground := Go.Ground.data }], guard := none }) (v := ?v18) rfl (by kernel_rfl) (by kernel_rfl) (by kernel_rfl) (fun _ _ _ h => h) (Or.inl ⟨by kernel_rfl, ?h18⟩) (by assumption) ?r18
  case h18 => (intro w hSw; (try dsimp only at hSw); go_simp; try with_reducible rfl)
  try simp only [Act.put, List.setIfInBounds_toArray, List.set_cons_zero, List.set_cons_succ]
  refine wpAnyH_take (i := 2) (oi := { dst := some 55, op := Go.Op.move (Go.Operand.tmp 54), type := 4, pos := "law.go:49", after := #[{ on := 1, ground := Go.Ground.data }], guard := none }) (v := ?v19) rfl (by kernel_rfl) (by kernel_rfl) (by kernel_rfl) (fun _ _ _ h => h) (Or.inl ⟨by kernel_rfl, ?h19⟩) (by assumption) ?r19
  case h19 => (intro w hSw; (try dsimp only at hSw); go_simp; try with_reducible rfl)
  try simp only [Act.put, List.setIfInBounds_toArray, List.set_cons_zero, List.set_cons_succ]
  refine wpAnyH_take (i := 3) (oi := { dst := some 56, op := Go.Op.load 26 (Go.Operand.tmp 3), type := 26, pos := "law.go:49", after := #[{ on := 2, ground := Go.Ground.guard }], guard := some (2, true) }) (v := ?v20) rfl (by kernel_rfl) (by kernel_rfl) (by kernel_rfl) (fun _ _ _ h => h) (Or.inl ⟨by kernel_rfl, ?h20⟩) (by assumption) ?r20
  case h20 => (intro w hSw; (try dsimp only at hSw); go_simp; try with_reducible rfl)
  try simp only [Act.put, List.setIfInBounds_toArray, List.set_cons_zero, List.set_cons_succ]
  refine wpAnyH_take (i := 4) (oi := { dst := some 57, op := Go.Op.move (Go.Operand.tmp 2), type := 3, pos := "law.go:49", after := #[{ on := 2, ground := Go.Ground.guard }], guard := some (2, true) }) (v := ?v21) rfl (by kernel_rfl) (by kernel_rfl) (by kernel_rfl) (fun _ _ _ h => h) (Or.inl ⟨by kernel_rfl, ?h21⟩) (by assumption) ?r21
  case h21 => (intro w hSw; (try dsimp only at hSw); go_simp; try with_reducible rfl)
  try simp only [Act.put, List.setIfInBounds_toArray, List.set_cons_zero, List.set_cons_succ]
  refine wpAnyH_take (i := 6) (oi := { dst := some 59, op := Go.Op.load 26 (Go.Operand.tmp 3), type := 26, pos := "law.go:49", after := #[{ on := 2, ground := Go.Ground.guard }], guard := some (2, true) }) (v := ?v22) rfl (by kernel_rfl) (by kernel_rfl) (by kernel_rfl) (fun _ _ _ h => h) (Or.inl ⟨by kernel_rfl, ?h22⟩) (by assumption) ?r22
  case h22 => (intro w hSw; (try dsimp only at hSw); go_simp; try with_reducible rfl)
  try simp only [Act.put, List.setIfInBounds_toArray, List.set_cons_zero, List.set_cons_succ]
  refine wpAnyH_take (i := 7) (oi := { dst := some 60, op := Go.Op.move (Go.Operand.tmp 2), type := 3, pos := "law.go:49", after := #[{ on := 2, ground := Go.Ground.guard }], guard := some (2, true) }) (v := ?v23) rfl (by kernel_rfl) (by kernel_rfl) (by kernel_rfl) (fun _ _ _ h => h) (Or.inl ⟨by kernel_rfl, ?h23⟩) (by assumption) ?r23
  case h23 => (intro w hSw; (try dsimp only at hSw); go_simp; try with_reducible rfl)
  try simp only [Act.put, List.setIfInBounds_toArray, List.set_cons_zero, List.set_cons_succ]
  refine wpAnyH_ready (rs := [5]) (by kernel_rfl) (by simp) ?_
  refine AllReadyH.cons (o := { dst := some 58, op := Go.Op.call { callee := Go.Callee.value (Go.Operand.func 13), args := #[Go.Operand.tmp 56, Go.Operand.tmp 57], argTypes := #[26, 3] }, type := 32, pos := "law.go:49", after := #[{ on := 3, ground := Go.Ground.data }, { on := 4, ground := Go.Ground.data }, { on := 2, ground := Go.Ground.chain }, { on := 2, ground := Go.Ground.guard }], guard := some (2, true) }) rfl (fun K hK => ?_) AllReadyH.nil
  go_simp
  with_reducible refine (qo.out _ (LF _ hHeld)).mono ?_
  rintro e t5 ⟨aMO, nMO, cMO, rfl, sMO', b5⟩
  have hB5 := hHeld.trans (b5.mono hHeld.size)
  have MO : ∀ W, Below t5.heap.size t5 W → SL W aMO nMO cMO LO := fun W hW => sMO'.below hW
  go_simp
  refine hK.out _ _ (hB5) (fun hHeld => ?_)
  clear hK K
  try simp only [Act.put, List.setIfInBounds_toArray, List.set_cons_zero, List.set_cons_succ]
  refine wpAnyH_now hHeld (fun hHeld => ?_)
  replace LF := rebase LF (hB5)
  replace z0 := rebase z0 (hB5)
  replace z1 := rebase z1 (hB5)
  replace z2 := rebase z2 (hB5)
  replace z3 := rebase z3 (hB5)
  replace y0 := rebase y0 (hB5)
  replace y1 := rebase y1 (hB5)
  replace y2 := rebase y2 (hB5)
  replace y3 := rebase y3 (hB5)
  refine wpAnyH_ready (rs := [8]) (by kernel_rfl) (by simp) ?_
  refine AllReadyH.cons (o := { dst := some 61, op := Go.Op.call { callee := Go.Callee.value (Go.Operand.func 17), args := #[Go.Operand.tmp 59, Go.Operand.tmp 60], argTypes := #[26, 3] }, type := 32, pos := "law.go:49", after := #[{ on := 6, ground := Go.Ground.data }, { on := 7, ground := Go.Ground.data }, { on := 5, ground := Go.Ground.chain }, { on := 2, ground := Go.Ground.guard }], guard := some (2, true) }) rfl (fun K hK => ?_) AllReadyH.nil
  go_simp
  with_reducible refine (qro.out _ (LF _ hHeld)).mono ?_
  rintro e t8 ⟨aMOr, nMOr, cMOr, rfl, sMOr', b8⟩
  have hB8 := hHeld.trans (b8.mono hHeld.size)
  have MOr : ∀ W, Below t8.heap.size t8 W → SL W aMOr nMOr cMOr LO := fun W hW => sMOr'.below hW
  go_simp
  refine hK.out _ _ (hB8) (fun hHeld => ?_)
  clear hK K
  try simp only [Act.put, List.setIfInBounds_toArray, List.set_cons_zero, List.set_cons_succ]
  refine wpAnyH_now hHeld (fun hHeld => ?_)
  replace LF := rebase LF (hB8)
  replace z0 := rebase z0 (hB8)
  replace z1 := rebase z1 (hB8)
  replace z2 := rebase z2 (hB8)
  replace z3 := rebase z3 (hB8)
  replace y0 := rebase y0 (hB8)
  replace y1 := rebase y1 (hB8)
  replace y2 := rebase y2 (hB8)
  replace y3 := rebase y3 (hB8)
  replace MO := rebase MO (hB8)
  refine wpAnyH_ready (rs := [9]) (by kernel_rfl) (by simp) ?_
  refine AllReadyH.cons (o := { dst := some 62, op := Go.Op.call { callee := Go.Callee.value (Go.Operand.func 16), args := #[Go.Operand.tmp 58, Go.Operand.tmp 61], argTypes := #[32, 32] }, type := 4, pos := "law.go:49", after := #[{ on := 5, ground := Go.Ground.data }, { on := 8, ground := Go.Ground.data }, { on := 8, ground := Go.Ground.chain }, { on := 2, ground := Go.Ground.guard }], guard := some (2, true) }) rfl (fun K hK => ?_) AllReadyH.nil
  go_simp
  with_reducible refine (QN.out _ _ _ _ _ _ _ _ (MO _ hHeld) (MOr _ hHeld)).mono ?_
  rintro e t9 ⟨rfl, b9⟩
  have hB9 := hHeld.trans (b9.mono hHeld.size)
  go_simp
  refine hK.out _ _ (hB9) (fun hHeld => ?_)
  clear hK K
  try simp only [Act.put, List.setIfInBounds_toArray, List.set_cons_zero, List.set_cons_succ]
  refine wpAnyH_now hHeld (fun hHeld => ?_)
  replace LF := rebase LF (hB9)
  replace z0 := rebase z0 (hB9)
  replace z1 := rebase z1 (hB9)
  replace z2 := rebase z2 (hB9)
  replace z3 := rebase z3 (hB9)
  replace y0 := rebase y0 (hB9)
  replace y1 := rebase y1 (hB9)
  replace y2 := rebase y2 (hB9)
  replace y3 := rebase y3 (hB9)
  replace MO := rebase MO (hB9)
  replace MOr := rebase MOr (hB9)
  refine wpAnyH_take (i := 10) (oi := { dst := some 63, op := Go.Op.pick (Go.Operand.tmp 55) (Go.Operand.tmp 62) (Go.Operand.const (Go.Value.bool false)), type := 4, pos := "law.go:49", after := #[{ on := 2, ground := Go.Ground.data }, { on := 9, ground := Go.Ground.data }], guard := none }) (v := ?v24) rfl (by kernel_rfl) (by kernel_rfl) (by kernel_rfl) (fun _ _ _ h => h) (Or.inl ⟨by kernel_rfl, ?h24⟩) (by assumption) ?r24
  case h24 => (intro w hSw; (try dsimp only at hSw); go_simp; try with_reducible rfl)
  try simp only [Act.put, List.setIfInBounds_toArray, List.set_cons_zero, List.set_cons_succ]
  refine wpAnyH_take (i := 11) (oi := { dst := some 64, op := Go.Op.move (Go.Operand.tmp 63), type := 4, pos := "law.go:49", after := #[{ on := 10, ground := Go.Ground.data }, { on := 9, ground := Go.Ground.chain }], guard := none }) (v := ?v25) rfl (by kernel_rfl) (by kernel_rfl) (by kernel_rfl) (fun _ _ _ h => h) (Or.inl ⟨by kernel_rfl, ?h25⟩) (by assumption) ?r25
  case h25 => (intro w hSw; (try dsimp only at hSw); go_simp; try with_reducible rfl)
  try simp only [Act.put, List.setIfInBounds_toArray, List.set_cons_zero, List.set_cons_succ]
  refine wpAnyH_take (i := 12) (oi := { dst := some 65, op := Go.Op.load 26 (Go.Operand.tmp 3), type := 26, pos := "law.go:49", after := #[{ on := 11, ground := Go.Ground.guard }], guard := some (11, true) }) (v := ?v26) rfl (by kernel_rfl) (by kernel_rfl) (by kernel_rfl) (fun _ _ _ h => h) (Or.inl ⟨by kernel_rfl, ?h26⟩) (by assumption) ?r26
  case h26 => (intro w hSw; (try dsimp only at hSw); go_simp; try with_reducible rfl)
  try simp only [Act.put, List.setIfInBounds_toArray, List.set_cons_zero, List.set_cons_succ]
  refine wpAnyH_take (i := 13) (oi := { dst := some 66, op := Go.Op.move (Go.Operand.tmp 2), type := 3, pos := "law.go:49", after := #[{ on := 11, ground := Go.Ground.guard }], guard := some (11, true) }) (v := ?v27) rfl (by kernel_rfl) (by kernel_rfl) (by kernel_rfl) (fun _ _ _ h => h) (Or.inl ⟨by kernel_rfl, ?h27⟩) (by assumption) ?r27
  case h27 => (intro w hSw; (try dsimp only at hSw); go_simp; try with_reducible rfl)
  try simp only [Act.put, List.setIfInBounds_toArray, List.set_cons_zero, List.set_cons_succ]
  refine wpAnyH_take (i := 15) (oi := { dst := some 68, op := Go.Op.load 26 (Go.Operand.tmp 3), type := 26, pos := "law.go:49", after := #[{ on := 11, ground := Go.Ground.guard }], guard := some (11, true) }) (v := ?v28) rfl (by kernel_rfl) (by kernel_rfl) (by kernel_rfl) (fun _ _ _ h => h) (Or.inl ⟨by kernel_rfl, ?h28⟩) (by assumption) ?r28
  case h28 => (intro w hSw; (try dsimp only at hSw); go_simp; try with_reducible rfl)
  try simp only [Act.put, List.setIfInBounds_toArray, List.set_cons_zero, List.set_cons_succ]
  refine wpAnyH_take (i := 16) (oi := { dst := some 69, op := Go.Op.move (Go.Operand.tmp 2), type := 3, pos := "law.go:49", after := #[{ on := 11, ground := Go.Ground.guard }], guard := some (11, true) }) (v := ?v29) rfl (by kernel_rfl) (by kernel_rfl) (by kernel_rfl) (fun _ _ _ h => h) (Or.inl ⟨by kernel_rfl, ?h29⟩) (by assumption) ?r29
  case h29 => (intro w hSw; (try dsimp only at hSw); go_simp; try with_reducible rfl)
  try simp only [Act.put, List.setIfInBounds_toArray, List.set_cons_zero, List.set_cons_succ]
  refine wpAnyH_ready (rs := [14]) (by kernel_rfl) (by simp) ?_
  refine AllReadyH.cons (o := { dst := some 67, op := Go.Op.call { callee := Go.Callee.value (Go.Operand.func 14), args := #[Go.Operand.tmp 65, Go.Operand.tmp 66], argTypes := #[26, 3] }, type := 32, pos := "law.go:49", after := #[{ on := 12, ground := Go.Ground.data }, { on := 13, ground := Go.Ground.data }, { on := 11, ground := Go.Ground.chain }, { on := 11, ground := Go.Ground.guard }], guard := some (11, true) }) rfl (fun K hK => ?_) AllReadyH.nil
  go_simp
  with_reducible refine (qi.out _ (LF _ hHeld)).mono ?_
  rintro e t14 ⟨aMI, nMI, cMI, rfl, sMI', b14⟩
  have hB14 := hHeld.trans (b14.mono hHeld.size)
  have MI : ∀ W, Below t14.heap.size t14 W → SL W aMI nMI cMI LI := fun W hW => sMI'.below hW
  go_simp
  refine hK.out _ _ (hB14) (fun hHeld => ?_)
  clear hK K
  try simp only [Act.put, List.setIfInBounds_toArray, List.set_cons_zero, List.set_cons_succ]
  refine wpAnyH_now hHeld (fun hHeld => ?_)
  replace LF := rebase LF (hB14)
  replace z0 := rebase z0 (hB14)
  replace z1 := rebase z1 (hB14)
  replace z2 := rebase z2 (hB14)
  replace z3 := rebase z3 (hB14)
  replace y0 := rebase y0 (hB14)
  replace y1 := rebase y1 (hB14)
  replace y2 := rebase y2 (hB14)
  replace y3 := rebase y3 (hB14)
  replace MO := rebase MO (hB14)
  replace MOr := rebase MOr (hB14)
  refine wpAnyH_ready (rs := [17]) (by kernel_rfl) (by simp) ?_
  refine AllReadyH.cons (o := { dst := some 70, op := Go.Op.call { callee := Go.Callee.value (Go.Operand.func 18), args := #[Go.Operand.tmp 68, Go.Operand.tmp 69], argTypes := #[26, 3] }, type := 32, pos := "law.go:49", after := #[{ on := 15, ground := Go.Ground.data }, { on := 16, ground := Go.Ground.data }, { on := 14, ground := Go.Ground.chain }, { on := 11, ground := Go.Ground.guard }], guard := some (11, true) }) rfl (fun K hK => ?_) AllReadyH.nil
  go_simp
  with_reducible refine (qri.out _ (LF _ hHeld)).mono ?_
  rintro e t17 ⟨aMIr, nMIr, cMIr, rfl, sMIr', b17⟩
  have hB17 := hHeld.trans (b17.mono hHeld.size)
  have MIr : ∀ W, Below t17.heap.size t17 W → SL W aMIr nMIr cMIr LI := fun W hW => sMIr'.below hW
  go_simp
  refine hK.out _ _ (hB17) (fun hHeld => ?_)
  clear hK K
  try simp only [Act.put, List.setIfInBounds_toArray, List.set_cons_zero, List.set_cons_succ]
  refine wpAnyH_now hHeld (fun hHeld => ?_)
  replace LF := rebase LF (hB17)
  replace z0 := rebase z0 (hB17)
  replace z1 := rebase z1 (hB17)
  replace z2 := rebase z2 (hB17)
  replace z3 := rebase z3 (hB17)
  replace y0 := rebase y0 (hB17)
  replace y1 := rebase y1 (hB17)
  replace y2 := rebase y2 (hB17)
  replace y3 := rebase y3 (hB17)
  replace MO := rebase MO (hB17)
  replace MOr := rebase MOr (hB17)
  replace MI := rebase MI (hB17)
  refine wpAnyH_ready (rs := [18]) (by kernel_rfl) (by simp) ?_
  refine AllReadyH.cons (o := { dst := some 71, op := Go.Op.call { callee := Go.Callee.value (Go.Operand.func 16), args := #[Go.Operand.tmp 67, Go.Operand.tmp 70], argTypes := #[32, 32] }, type := 4, pos := "law.go:49", after := #[{ on := 14, ground := Go.Ground.data }, { on := 17, ground := Go.Ground.data }, { on := 17, ground := Go.Ground.chain }, { on := 11, ground := Go.Ground.guard }], guard := some (11, true) }) rfl (fun K hK => ?_) AllReadyH.nil
  go_simp
  with_reducible refine (QN.out _ _ _ _ _ _ _ _ (MI _ hHeld) (MIr _ hHeld)).mono ?_
  rintro e t18 ⟨rfl, b18⟩
  have hB18 := hHeld.trans (b18.mono hHeld.size)
  go_simp
  refine hK.out _ _ (hB18) (fun hHeld => ?_)
  clear hK K
  try simp only [Act.put, List.setIfInBounds_toArray, List.set_cons_zero, List.set_cons_succ]
  refine wpAnyH_now hHeld (fun hHeld => ?_)
  replace LF := rebase LF (hB18)
  replace z0 := rebase z0 (hB18)
  replace z1 := rebase z1 (hB18)
  replace z2 := rebase z2 (hB18)
  replace z3 := rebase z3 (hB18)
  replace y0 := rebase y0 (hB18)
  replace y1 := rebase y1 (hB18)
  replace y2 := rebase y2 (hB18)
  replace y3 := rebase y3 (hB18)
  replace MO := rebase MO (hB18)
  replace MOr := rebase MOr (hB18)
  replace MI := rebase MI (hB18)
  replace MIr := rebase MIr (hB18)
  refine wpAnyH_take (i := 19) (oi := { dst := some 72, op := Go.Op.pick (Go.Operand.tmp 64) (Go.Operand.tmp 71) (Go.Operand.const (Go.Value.bool false)), type := 4, pos := "law.go:49", after := #[{ on := 11, ground := Go.Ground.data }, { on := 18, ground := Go.Ground.data }], guard := none }) (v := ?v30) rfl (by kernel_rfl) (by kernel_rfl) (by kernel_rfl) (fun _ _ _ h => h) (Or.inl ⟨by kernel_rfl, ?h30⟩) (by assumption) ?r30
  case h30 => (intro w hSw; (try dsimp only at hSw); go_simp; try with_reducible rfl)
  try simp only [Act.put, List.setIfInBounds_toArray, List.set_cons_zero, List.set_cons_succ]
  refine wpAnyH_take (i := 20) (oi := { dst := some 73, op := Go.Op.move (Go.Operand.tmp 72), type := 4, pos := "law.go:49", after := #[{ on := 19, ground := Go.Ground.data }, { on := 18, ground := Go.Ground.chain }], guard := none }) (v := ?v31) rfl (by kernel_rfl) (by kernel_rfl) (by kernel_rfl) (fun _ _ _ h => h) (Or.inl ⟨by kernel_rfl, ?h31⟩) (by assumption) ?r31
  case h31 => (intro w hSw; (try dsimp only at hSw); go_simp; try with_reducible rfl)
  try simp only [Act.put, List.setIfInBounds_toArray, List.set_cons_zero, List.set_cons_succ]
  refine wpAnyH_take (i := 21) (oi := { dst := some 74, op := Go.Op.load 26 (Go.Operand.tmp 3), type := 26, pos := "law.go:49", after := #[{ on := 20, ground := Go.Ground.guard }], guard := some (20, true) }) (v := ?v32) rfl (by kernel_rfl) (by kernel_rfl) (by kernel_rfl) (fun _ _ _ h => h) (Or.inl ⟨by kernel_rfl, ?h32⟩) (by assumption) ?r32
  case h32 => (intro w hSw; (try dsimp only at hSw); go_simp; try with_reducible rfl)
  try simp only [Act.put, List.setIfInBounds_toArray, List.set_cons_zero, List.set_cons_succ]
  refine wpAnyH_take (i := 23) (oi := { dst := some 76, op := Go.Op.load 26 (Go.Operand.tmp 3), type := 26, pos := "law.go:49", after := #[{ on := 20, ground := Go.Ground.guard }], guard := some (20, true) }) (v := ?v33) rfl (by kernel_rfl) (by kernel_rfl) (by kernel_rfl) (fun _ _ _ h => h) (Or.inl ⟨by kernel_rfl, ?h33⟩) (by assumption) ?r33
  case h33 => (intro w hSw; (try dsimp only at hSw); go_simp; try with_reducible rfl)
  try simp only [Act.put, List.setIfInBounds_toArray, List.set_cons_zero, List.set_cons_succ]
  refine wpAnyH_ready (rs := [22]) (by kernel_rfl) (by simp) ?_
  refine AllReadyH.cons (o := { dst := some 75, op := Go.Op.call { callee := Go.Callee.value (Go.Operand.func 15), args := #[Go.Operand.tmp 74], argTypes := #[26] }, type := 32, pos := "law.go:49", after := #[{ on := 21, ground := Go.Ground.data }, { on := 20, ground := Go.Ground.chain }, { on := 20, ground := Go.Ground.guard }], guard := some (20, true) }) rfl (fun K hK => ?_) AllReadyH.nil
  go_simp
  with_reducible refine (qh.out _ (LF _ hHeld)).mono ?_
  rintro e t22 ⟨aMR, nMR, cMR, rfl, sMR', b22⟩
  have hB22 := hHeld.trans (b22.mono hHeld.size)
  have MR : ∀ W, Below t22.heap.size t22 W → SL W aMR nMR cMR LR := fun W hW => sMR'.below hW
  go_simp
  refine hK.out _ _ (hB22) (fun hHeld => ?_)
  clear hK K
  try simp only [Act.put, List.setIfInBounds_toArray, List.set_cons_zero, List.set_cons_succ]
  refine wpAnyH_now hHeld (fun hHeld => ?_)
  replace LF := rebase LF (hB22)
  replace z0 := rebase z0 (hB22)
  replace z1 := rebase z1 (hB22)
  replace z2 := rebase z2 (hB22)
  replace z3 := rebase z3 (hB22)
  replace y0 := rebase y0 (hB22)
  replace y1 := rebase y1 (hB22)
  replace y2 := rebase y2 (hB22)
  replace y3 := rebase y3 (hB22)
  replace MO := rebase MO (hB22)
  replace MOr := rebase MOr (hB22)
  replace MI := rebase MI (hB22)
  replace MIr := rebase MIr (hB22)
  refine wpAnyH_ready (rs := [24]) (by kernel_rfl) (by simp) ?_
  refine AllReadyH.cons (o := { dst := some 77, op := Go.Op.call { callee := Go.Callee.value (Go.Operand.func 19), args := #[Go.Operand.tmp 76], argTypes := #[26] }, type := 32, pos := "law.go:49", after := #[{ on := 23, ground := Go.Ground.data }, { on := 22, ground := Go.Ground.chain }, { on := 20, ground := Go.Ground.guard }], guard := some (20, true) }) rfl (fun K hK => ?_) AllReadyH.nil
  go_simp
  with_reducible refine (qrh.out _ (LF _ hHeld)).mono ?_
  rintro e t24 ⟨aMRr, nMRr, cMRr, rfl, sMRr', b24⟩
  have hB24 := hHeld.trans (b24.mono hHeld.size)
  have MRr : ∀ W, Below t24.heap.size t24 W → SL W aMRr nMRr cMRr LR := fun W hW => sMRr'.below hW
  go_simp
  refine hK.out _ _ (hB24) (fun hHeld => ?_)
  clear hK K
  try simp only [Act.put, List.setIfInBounds_toArray, List.set_cons_zero, List.set_cons_succ]
  refine wpAnyH_now hHeld (fun hHeld => ?_)
  replace LF := rebase LF (hB24)
  replace z0 := rebase z0 (hB24)
  replace z1 := rebase z1 (hB24)
  replace z2 := rebase z2 (hB24)
  replace z3 := rebase z3 (hB24)
  replace y0 := rebase y0 (hB24)
  replace y1 := rebase y1 (hB24)
  replace y2 := rebase y2 (hB24)
  replace y3 := rebase y3 (hB24)
  replace MO := rebase MO (hB24)
  replace MOr := rebase MOr (hB24)
  replace MI := rebase MI (hB24)
  replace MIr := rebase MIr (hB24)
  replace MR := rebase MR (hB24)
  refine wpAnyH_ready (rs := [25]) (by kernel_rfl) (by simp) ?_
  refine AllReadyH.cons (o := { dst := some 78, op := Go.Op.call { callee := Go.Callee.value (Go.Operand.func 16), args := #[Go.Operand.tmp 75, Go.Operand.tmp 77], argTypes := #[32, 32] }, type := 4, pos := "law.go:49", after := #[{ on := 22, ground := Go.Ground.data }, { on := 24, ground := Go.Ground.data }, { on := 24, ground := Go.Ground.chain }, { on := 20, ground := Go.Ground.guard }], guard := some (20, true) }) rfl (fun K hK => ?_) AllReadyH.nil
  go_simp
  with_reducible refine (QN.out _ _ _ _ _ _ _ _ (MR _ hHeld) (MRr _ hHeld)).mono ?_
  rintro e t25 ⟨rfl, b25⟩
  have hB25 := hHeld.trans (b25.mono hHeld.size)
  go_simp
  refine hK.out _ _ (hB25) (fun hHeld => ?_)
  clear hK K
  try simp only [Act.put, List.setIfInBounds_toArray, List.set_cons_zero, List.set_cons_succ]
  refine wpAnyH_now hHeld (fun hHeld => ?_)
  replace LF := rebase LF (hB25)
  replace z0 := rebase z0 (hB25)
  replace z1 := rebase z1 (hB25)
  replace z2 := rebase z2 (hB25)
  replace z3 := rebase z3 (hB25)
  replace y0 := rebase y0 (hB25)
  replace y1 := rebase y1 (hB25)
  replace y2 := rebase y2 (hB25)
  replace y3 := rebase y3 (hB25)
  replace MO := rebase MO (hB25)
  replace MOr := rebase MOr (hB25)
  replace MI := rebase MI (hB25)
  replace MIr := rebase MIr (hB25)
  replace MR := rebase MR (hB25)
  replace MRr := rebase MRr (hB25)
  refine wpAnyH_take (i := 26) (oi := { dst := some 79, op := Go.Op.pick (Go.Operand.tmp 73) (Go.Operand.tmp 78) (Go.Operand.const (Go.Value.bool false)), type := 4, pos := "law.go:49", after := #[{ on := 20, ground := Go.Ground.data }, { on := 25, ground := Go.Ground.data }], guard := none }) (v := ?v34) rfl (by kernel_rfl) (by kernel_rfl) (by kernel_rfl) (fun _ _ _ h => h) (Or.inl ⟨by kernel_rfl, ?h34⟩) (by assumption) ?r34
  case h34 => (intro w hSw; (try dsimp only at hSw); go_simp; try with_reducible rfl)
  try simp only [Act.put, List.setIfInBounds_toArray, List.set_cons_zero, List.set_cons_succ]
  refine wpAnyH_take (i := 27) (oi := { dst := some 6, op := Go.Op.assign (Go.Operand.tmp 79), type := 4, pos := "law.go:49", after := #[{ on := 26, ground := Go.Ground.data }, { on := 25, ground := Go.Ground.chain }, { on := 0, ground := Go.Ground.phase }, { on := 1, ground := Go.Ground.phase }, { on := 2, ground := Go.Ground.phase }, { on := 3, ground := Go.Ground.phase }, { on := 4, ground := Go.Ground.phase }, { on := 5, ground := Go.Ground.phase }, { on := 6, ground := Go.Ground.phase }, { on := 7, ground := Go.Ground.phase }, { on := 8, ground := Go.Ground.phase }, { on := 9, ground := Go.Ground.phase }, { on := 10, ground := Go.Ground.phase }, { on := 11, ground := Go.Ground.phase }, { on := 12, ground := Go.Ground.phase }, { on := 13, ground := Go.Ground.phase }, { on := 14, ground := Go.Ground.phase }, { on := 15, ground := Go.Ground.phase }, { on := 16, ground := Go.Ground.phase }, { on := 17, ground := Go.Ground.phase }, { on := 18, ground := Go.Ground.phase }, { on := 19, ground := Go.Ground.phase }, { on := 20, ground := Go.Ground.phase }, { on := 21, ground := Go.Ground.phase }, { on := 22, ground := Go.Ground.phase }, { on := 23, ground := Go.Ground.phase }, { on := 24, ground := Go.Ground.phase }, { on := 25, ground := Go.Ground.phase }, { on := 26, ground := Go.Ground.phase }], guard := none }) (v := ?v35) rfl (by kernel_rfl) (by kernel_rfl) (by kernel_rfl) (fun _ _ _ h => h) (Or.inl ⟨by kernel_rfl, ?h35⟩) (by assumption) ?r35
  case h35 => (intro w hSw; (try dsimp only at hSw); go_simp; try with_reducible rfl)
  try simp only [Act.put, List.setIfInBounds_toArray, List.set_cons_zero, List.set_cons_succ]
  refine wpAnyH_done (by kernel_rfl) ?_ _
  go_wp2
  go_ret
  exact ⟨rfl, (LF _ hHeld).bel⟩
theorem progChecks_given (pnm : ByteArray) (pa1 : Option Addr) (pn1 pc1 : Nat) (pa2 : Option Addr) (pn2 pc2 : Nat) (pa3 : Option Addr) (pn3 pc3 : Nat) (qnm : ByteArray) (qa1 : Option Addr) (qn1 qc1 : Nat) (qa2 : Option Addr) (qn2 qc2 : Nat) (qa3 : Option Addr) (qn3 qc3 : Nat) (A B : PD) (hA : PW A) (hB : PW B) (x : Int) (w : World) (ht : Tab w) (h1 : PrA w ⟨pnm, pa1, pn1, pc1, pa2, pn2, pc2, pa3, pn3, pc3⟩ A) (h2 : PrA w ⟨qnm, qa1, qn1, qc1, qa2, qn2, qc2, qa3, qn3, qc3⟩ B) (HL : ∀ W, Tab W → Calls Tryz.prog 8 #[] W (Gives (.bool true) W)) :
    Calls Tryz.prog 3 #[.agg #[.string pnm, .slice pa1 pn1 pc1, .slice pa2 pn2 pc2, .slice pa3 pn3 pc3], .agg #[.string qnm, .slice qa1 qn1 qc1, .slice qa2 qn2 qc2, .slice qa3 qn3 qc3], .int .i64 x] w (Gives (.bool true) w) := by
  cases hg : bigP A
  · cases hh : bigP B
    · cases hp : progB A
      · exact pchecks_no pnm pa1 pn1 pc1 pa2 pn2 pc2 pa3 pn3 pc3 qnm qa1 qn1 qc1 qa2 qn2 qc2 qa3 qn3 qc3 A B hA hB x w ht h1 h2 HL hg hh hp
      · exact pchecks_ok pnm pa1 pn1 pc1 pa2 pn2 pc2 pa3 pn3 pc3 qnm qa1 qn1 qc1 qa2 qn2 qc2 qa3 qn3 qc3 A B hA hB x w ht h1 h2 HL hg hh hp
    · exact pchecks_big2 pnm pa1 pn1 pc1 pa2 pn2 pc2 pa3 pn3 pc3 qnm qa1 qn1 qc1 qa2 qn2 qc2 qa3 qn3 qc3 A B hA hB x w ht h1 h2 HL hg hh
  · exact pchecks_big1 pnm pa1 pn1 pc1 pa2 pn2 pc2 pa3 pn3 pc3 qnm qa1 qn1 qc1 qa2 qn2 qc2 qa3 qn3 qc3 A B hA hB x w ht h1 h2 HL hg
end Go.Proofs.YtgeliikfgnkppaaGreatDoor
