/- ZoneHas: the rest of it. (Written by gen-zone-has.py.) -/
import Derived.Test.YtacbkddkjlnklaaZoneLawHas
import Derived.Deep.DeepCutAuto
namespace Go.Proofs.Ytacbkddkjlnklaa
open Go.RowKit
set_option linter.unusedVariables false
set_option linter.unusedSimpArgs false

set_option maxRecDepth 100000 in
set_option maxHeartbeats 8000000 in
theorem has_ff (i j : Nat) (c : Int) (a1 a2 av : Option Addr) (m1 m2 mv c1 c2 cv : Nat) (l1 l2 v : List Int) (w : World) (h1 : SL w a1 m1 c1 l1) (h2 : SL w a2 m2 c2 l2) (hv : SL w av mv cv v) (g1 : ¬ 200 < m1) (g2 : ¬ 200 < m2) (g3 : ¬ 8 < mv) (z1 : IsZ mv l1) (z2 : IsZ mv l2) (hi0 : 1 ≤ i) (hi : i ≤ mv) (hj : j ≤ mv) (hp : hasB mv l1 v = false) (hq : hasB mv l2 v = false) : Calls Try.prog 6 #[.agg #[.int .i64 mv, .slice a1 m1 c1], .agg #[.int .i64 mv, .slice a2 m2 c2], .slice av mv cv, .int .i64 i, .int .i64 j, .int .i64 c] w (Gives (.bool true) w) := by
  have hvl : v.length = mv := hv.len.symm
  have g3i : ¬ (8 : Int) < (mv : Int) := by omega
  have htwo := Lib.hid (z1.two z2)
  have hvar : Hid ((decide (1 ≤ (i : Int)) && decide ((i : Int) ≤ (mv : Int))) = true) := Lib.hid (by simp; omega)
  have hor : Hid ((decide (0 ≤ (j : Int)) && decide ((j : Int) ≤ (mv : Int))) = true) := Lib.hid (by simp; omega)
  have H1 := Lib.hid h1
  have H2 := Lib.hid h2
  have HV := Lib.hid hv
  have zM : IsZ mv (meetL mv l1 l2) := meetL_isz z1 z2
  obtain ⟨mM, hmM⟩ : ∃ x, x = (meetL mv l1 l2).length := ⟨_, rfl⟩
  have rM : mM ≤ 81 := by rw [hmM]; exact zM.small
  have QM := Lib.hid (fun W (hW : Below w.heap.size w W) => (zmeet_ok a1 a2 m1 m2 c1 c2 l1 l2 mv z1 z2 W (H1.out.below hW) (H2.out.below hW)).mono (fun e w' h => ends_of (m := mM) hmM.symm (by omega) h))
  have fm := fact_meet z1 z2 hvl
  rw [hp, hq] at fm
  have QHM : Hid (∀ W a cz, SL W a mM cz (meetL mv l1 l2) → SL W av mv cv v → Calls Try.prog 35 #[.agg #[.int .i64 mv, .slice a mM cz], .slice av mv cv] W (Gives (.bool (false)) W)) := Lib.hid (fun W a cz hS hV => by have := has_any mv a mM cz _ av mv cv v W hS hV; rwa [fm, show (false && false) = false from rfl] at this)
  have zJ : IsZ mv (joinL mv l1 l2) := joinL_isz z1 z2
  obtain ⟨mJ, hmJ⟩ : ∃ x, x = (joinL mv l1 l2).length := ⟨_, rfl⟩
  have rJ : mJ ≤ 81 := by rw [hmJ]; exact zJ.small
  have QJ := Lib.hid (fun W (hW : Below w.heap.size w W) => (zjoin_ok a1 a2 m1 m2 c1 c2 l1 l2 mv z1 z2 W (H1.out.below hW) (H2.out.below hW)).mono (fun e w' h => ends_of (m := mJ) hmJ.symm (by omega) h))
  have zW : IsZ mv (widenL mv l1 l2) := widenL_isz z1 z2
  obtain ⟨mW, hmW⟩ : ∃ x, x = (widenL mv l1 l2).length := ⟨_, rfl⟩
  have rW : mW ≤ 81 := by rw [hmW]; exact zW.small
  have QW := Lib.hid (fun W (hW : Below w.heap.size w W) => (zwiden_ok a1 a2 m1 m2 c1 c2 l1 l2 mv z1 z2 W (H1.out.below hW) (H2.out.below hW)).mono (fun e w' h => ends_of (m := mW) hmW.symm (by omega) h))
  have zL : IsZ mv (limitL mv l1 i j c) := limitL_isz z1.1 _ _ _ _
  obtain ⟨mL, hmL⟩ : ∃ x, x = (limitL mv l1 i j c).length := ⟨_, rfl⟩
  have rL : mL ≤ 81 := by rw [hmL]; exact zL.small
  have QL := Lib.hid (fun W (hW : Below w.heap.size w W) => (zlimit_ok mv l1 z1 i j (by omega) hj c a1 m1 c1 W (H1.out.below hW)).mono (fun e w' h => ends_of (m := mL) hmL.symm (by omega) h))
  have fl := fact_limit z1 hvl hi hj c
  rw [hp] at fl
  have QHL : Hid (∀ W a cz, SL W a mL cz (limitL mv l1 i j c) → SL W av mv cv v → Calls Try.prog 35 #[.agg #[.int .i64 mv, .slice a mL cz], .slice av mv cv] W (Gives (.bool (false)) W)) := Lib.hid (fun W a cz hS hV => by have := has_any mv a mL cz _ av mv cv v W hS hV; rwa [fl, Bool.false_and] at this)
  have zF : IsZ mv (forgetL mv l1 i) := forgetL_isz z1.1 _ _
  obtain ⟨mF, hmF⟩ : ∃ x, x = (forgetL mv l1 i).length := ⟨_, rfl⟩
  have rF : mF ≤ 81 := by rw [hmF]; exact zF.small
  have QF := Lib.hid (fun W (hW : Below w.heap.size w W) => (zforget_ok mv l1 z1 i hi0 hi a1 m1 c1 W (H1.out.below hW)).mono (fun e w' h => ends_of (m := mF) hmF.symm (by omega) h))
  have QI : Hid (∀ W a cz, SL W a mF cz (forgetL mv l1 i) → Calls Try.prog 24 #[.agg #[.int .i64 mv, .slice a mF cz], .int .i64 i] W (Gives (.tuple #[.agg #[.int .i64 (itvL mv (forgetL mv l1 i) i).1, .int .i64 (itvL mv (forgetL mv l1 i) i).2], .int .i64 0]) W)) := Lib.hid (fun W a cz hS => zitvL_any mv i hi _ zF a mF cz W hS)
  have QA := Lib.hid (fun W (hW : Below w.heap.size w W) => has_any mv a1 m1 c1 l1 av mv cv v W (H1.out.below hW) (HV.out.below hW))
  have QB := Lib.hid (fun W (hW : Below w.heap.size w W) => has_any mv a2 m2 c2 l2 av mv cv v W (H2.out.below hW) (HV.out.below hW))
  rw [hp] at QA
  rw [hq] at QB
  clear hp hq fm fl zM hmM zJ hmJ zW hmW zL hmL zF hmF
  clear z1 z2 hi0 hi hj hvl
  generalize meetL mv l1 l2 = LM at *
  generalize joinL mv l1 l2 = LJ at *
  generalize widenL mv l1 l2 = LW at *
  generalize limitL mv l1 i j c = LL at *
  generalize forgetL mv l1 i = LF at *
  generalize (itvL mv LF i).1 = ix at *
  generalize (itvL mv LF i).2 = iy at *
  obtain ⟨W1, hW1⟩ : ∃ W1, W1 = (w.alloc (.cells #[.int .i64 mv, .slice a1 m1 c1] 24)).alloc (.cells #[.int .i64 mv, .slice a2 m2 c2] 24) := ⟨_, rfl⟩
  have Z1 : Hid (Holds W1 (w.heap.size) 24 #[.int .i64 mv, .slice a1 m1 c1]) := Lib.hid (by rw [hW1]; exact (Holds.new w _ _).alloc _)
  have Z2 : Hid (Holds W1 (w.heap.size + 1) 24 #[.int .i64 mv, .slice a2 m2 c2]) := Lib.hid (by rw [hW1]; have := Holds.new (w.alloc (.cells #[.int .i64 mv, .slice a1 m1 c1] 24)) 24 #[.int .i64 mv, .slice a2 m2 c2]; simpa using this)
  have BL := Lib.hid (show Below w.heap.size w W1 by rw [hW1]; exact box2_below _ _ _ _ _)
  have S1 := Lib.hid (h1.below BL.out)
  have S2 := Lib.hid (h2.below BL.out)
  have SV := Lib.hid (hv.below BL.out)
  have hW1' := Lib.hid hW1
  clear hW1
  clear h1 h2 hv
  go_enter Try.func6, Try.ntmps6
  have k1 := Z1.out.cell 0
  have k2 := Z1.out.cell 1
  have q := Lib.hid (by have := large_any a1 m1 c1 S1.out.max W1; rwa [decide_eq_false (show ¬ (200 : Int) < (m1 : Int) by omega)] at this)
  go_wp2_with fail
  rw [← hW1'.out]
  refine q.out.mono ?_
  rintro e u1 ⟨rfl, rfl⟩
  clear hW1'
  clear q
  clear k1 k2
  have k3 := Z2.out.cell 0
  have k4 := Z2.out.cell 1
  have q := Lib.hid (by have := large_any a2 m2 c2 S2.out.max W1; rwa [decide_eq_false (show ¬ (200 : Int) < (m2 : Int) by omega)] at this)
  go_wp2_with fail
  refine q.out.mono ?_
  rintro e u1 ⟨rfl, rfl⟩
  clear q
  clear k3 k4
  have k5 := Z1.out.cell 0
  have k6 := Z1.out.cell 1
  have k7 := Z2.out.cell 0
  have k8 := Z2.out.cell 1
  have q := Lib.hid (by have := rtwo_any mv mv a1 a2 m1 m2 c1 c2 l1 l2 W1 S1.out S2.out; rwa [htwo.out] at this)
  go_wp2_with fail
  refine q.out.mono ?_
  rintro e u2 ⟨rfl, b2⟩
  clear k5 k6 k7 k8
  clear q
  have k9 : u2.cell? ⟨w.heap.size, 0, none⟩ = some (.int .i64 mv) := (Z1.out.below b2 Z1.out.lt).cell 0
  have k10 : u2.cell? ⟨w.heap.size, 1, none⟩ = some (.slice a1 m1 c1) := (Z1.out.below b2 Z1.out.lt).cell 1
  replace Z1 := Lib.hid (Z1.out.below b2 Z1.out.lt)
  replace Z2 := Lib.hid (Z2.out.below b2 Z2.out.lt)
  replace BL := Lib.hid (BL.out.trans (b2.mono BL.out.size))
  replace S1 := Lib.hid (S1.out.below b2)
  replace S2 := Lib.hid (S2.out.below b2)
  replace SV := Lib.hid (SV.out.below b2)
  clear b2
  have q := Lib.hid (by have := rvar_any mv i a1 m1 c1 u2; rwa [hvar.out] at this)
  go_wp2_with fail
  refine q.out.mono ?_
  rintro e u3 ⟨rfl, b3⟩
  clear k9 k10
  clear q
  have k11 : u3.cell? ⟨w.heap.size, 0, none⟩ = some (.int .i64 mv) := (Z1.out.below b3 Z1.out.lt).cell 0
  have k12 : u3.cell? ⟨w.heap.size, 1, none⟩ = some (.slice a1 m1 c1) := (Z1.out.below b3 Z1.out.lt).cell 1
  replace Z1 := Lib.hid (Z1.out.below b3 Z1.out.lt)
  replace Z2 := Lib.hid (Z2.out.below b3 Z2.out.lt)
  replace BL := Lib.hid (BL.out.trans (b3.mono BL.out.size))
  replace S1 := Lib.hid (S1.out.below b3)
  replace S2 := Lib.hid (S2.out.below b3)
  replace SV := Lib.hid (SV.out.below b3)
  clear b3
  have q := Lib.hid (by have := ror0_any mv j a1 m1 c1 u3; rwa [hor.out] at this)
  go_wp2_with fail
  refine q.out.mono ?_
  rintro e u4 ⟨rfl, b4⟩
  clear k11 k12
  clear q
  have k13 : u4.cell? ⟨w.heap.size, 0, none⟩ = some (.int .i64 mv) := (Z1.out.below b4 Z1.out.lt).cell 0
  have k14 : u4.cell? ⟨w.heap.size, 1, none⟩ = some (.slice a1 m1 c1) := (Z1.out.below b4 Z1.out.lt).cell 1
  have k15 : u4.cell? ⟨w.heap.size + 1, 0, none⟩ = some (.int .i64 mv) := (Z2.out.below b4 Z2.out.lt).cell 0
  have k16 : u4.cell? ⟨w.heap.size + 1, 1, none⟩ = some (.slice a2 m2 c2) := (Z2.out.below b4 Z2.out.lt).cell 1
  replace Z1 := Lib.hid (Z1.out.below b4 Z1.out.lt)
  replace Z2 := Lib.hid (Z2.out.below b4 Z2.out.lt)
  replace BL := Lib.hid (BL.out.trans (b4.mono BL.out.size))
  replace S1 := Lib.hid (S1.out.below b4)
  replace S2 := Lib.hid (S2.out.below b4)
  replace SV := Lib.hid (SV.out.below b4)
  clear b4
  have q := Lib.hid (QM.out _ BL.out)
  go_wp2_with fail
  refine q.out.mono ?_
  rintro e v1 ⟨aM, dM, rfl, sM, bM⟩
  clear k13 k14 k15 k16
  clear q QM
  have k17 : v1.cell? ⟨w.heap.size, 0, none⟩ = some (.int .i64 mv) := (Z1.out.below bM Z1.out.lt).cell 0
  have k18 : v1.cell? ⟨w.heap.size, 1, none⟩ = some (.slice a1 m1 c1) := (Z1.out.below bM Z1.out.lt).cell 1
  have k19 : w.heap.size < v1.heap.size := (Z1.out.below bM Z1.out.lt).lt
  have k20 : v1.cell? ⟨w.heap.size + 1, 0, none⟩ = some (.int .i64 mv) := (Z2.out.below bM Z2.out.lt).cell 0
  have k21 : v1.cell? ⟨w.heap.size + 1, 1, none⟩ = some (.slice a2 m2 c2) := (Z2.out.below bM Z2.out.lt).cell 1
  have k22 : w.heap.size + 1 < v1.heap.size := (Z2.out.below bM Z2.out.lt).lt
  have B0 := box_below v1 #[.int .i64 mv, .slice aM mM dM] 24
  have B := bM.trans (B0.mono bM.size)
  replace Z1 := Lib.hid (Z1.out.below B Z1.out.lt)
  replace Z2 := Lib.hid (Z2.out.below B Z2.out.lt)
  replace BL := Lib.hid (BL.out.trans (B.mono BL.out.size))
  replace S1 := Lib.hid (S1.out.below B)
  replace S2 := Lib.hid (S2.out.below B)
  replace SV := Lib.hid (SV.out.below B)
  have ZM := Lib.hid (Holds.new v1 24 #[.int .i64 mv, .slice aM mM dM])
  have TM := Lib.hid (sM.below B0)
  clear bM B B0 sM
  have q := Lib.hid (QJ.out _ BL.out)
  go_wp2_with fail
  refine q.out.mono ?_
  rintro e v2 ⟨aJ, dJ, rfl, sJ, bJ⟩
  clear k17 k18 k19 k20 k21 k22
  clear q QJ
  have k23 : v2.cell? ⟨w.heap.size, 0, none⟩ = some (.int .i64 mv) := (Z1.out.below bJ Z1.out.lt).cell 0
  have k24 : v2.cell? ⟨w.heap.size, 1, none⟩ = some (.slice a1 m1 c1) := (Z1.out.below bJ Z1.out.lt).cell 1
  have k25 : w.heap.size < v2.heap.size := (Z1.out.below bJ Z1.out.lt).lt
  have k26 : v2.cell? ⟨w.heap.size + 1, 0, none⟩ = some (.int .i64 mv) := (Z2.out.below bJ Z2.out.lt).cell 0
  have k27 : v2.cell? ⟨w.heap.size + 1, 1, none⟩ = some (.slice a2 m2 c2) := (Z2.out.below bJ Z2.out.lt).cell 1
  have k28 : w.heap.size + 1 < v2.heap.size := (Z2.out.below bJ Z2.out.lt).lt
  have B0 := box_below v2 #[.int .i64 mv, .slice aJ mJ dJ] 24
  have B := bJ.trans (B0.mono bJ.size)
  replace Z1 := Lib.hid (Z1.out.below B Z1.out.lt)
  replace Z2 := Lib.hid (Z2.out.below B Z2.out.lt)
  replace ZM := Lib.hid (ZM.out.below B ZM.out.lt)
  replace BL := Lib.hid (BL.out.trans (B.mono BL.out.size))
  replace S1 := Lib.hid (S1.out.below B)
  replace S2 := Lib.hid (S2.out.below B)
  replace SV := Lib.hid (SV.out.below B)
  replace TM := Lib.hid (TM.out.below B)
  have ZJ := Lib.hid (Holds.new v2 24 #[.int .i64 mv, .slice aJ mJ dJ])
  have TJ := Lib.hid (sJ.below B0)
  clear bJ B B0 sJ
  have q := Lib.hid (QW.out _ BL.out)
  go_wp2_with fail
  refine q.out.mono ?_
  rintro e v3 ⟨aW, dW, rfl, sW, bW⟩
  clear k23 k24 k25 k26 k27 k28
  clear q QW
  have k29 : v3.cell? ⟨w.heap.size, 0, none⟩ = some (.int .i64 mv) := (Z1.out.below bW Z1.out.lt).cell 0
  have k30 : v3.cell? ⟨w.heap.size, 1, none⟩ = some (.slice a1 m1 c1) := (Z1.out.below bW Z1.out.lt).cell 1
  have k31 : w.heap.size < v3.heap.size := (Z1.out.below bW Z1.out.lt).lt
  have B0 := box_below v3 #[.int .i64 mv, .slice aW mW dW] 24
  have B := bW.trans (B0.mono bW.size)
  replace Z1 := Lib.hid (Z1.out.below B Z1.out.lt)
  replace Z2 := Lib.hid (Z2.out.below B Z2.out.lt)
  replace ZM := Lib.hid (ZM.out.below B ZM.out.lt)
  replace ZJ := Lib.hid (ZJ.out.below B ZJ.out.lt)
  replace BL := Lib.hid (BL.out.trans (B.mono BL.out.size))
  replace S1 := Lib.hid (S1.out.below B)
  replace S2 := Lib.hid (S2.out.below B)
  replace SV := Lib.hid (SV.out.below B)
  replace TM := Lib.hid (TM.out.below B)
  replace TJ := Lib.hid (TJ.out.below B)
  have ZW := Lib.hid (Holds.new v3 24 #[.int .i64 mv, .slice aW mW dW])
  have TW := Lib.hid (sW.below B0)
  clear bW B B0 sW
  have q := Lib.hid (QL.out _ BL.out)
  go_wp2_with fail
  refine q.out.mono ?_
  rintro e v4 ⟨aL, dL, rfl, sL, bL⟩
  clear k29 k30 k31
  clear q QL
  have B0 := box_below v4 #[.int .i64 mv, .slice aL mL dL] 24
  have B := bL.trans (B0.mono bL.size)
  replace Z1 := Lib.hid (Z1.out.below B Z1.out.lt)
  replace Z2 := Lib.hid (Z2.out.below B Z2.out.lt)
  replace ZM := Lib.hid (ZM.out.below B ZM.out.lt)
  replace ZJ := Lib.hid (ZJ.out.below B ZJ.out.lt)
  replace ZW := Lib.hid (ZW.out.below B ZW.out.lt)
  replace BL := Lib.hid (BL.out.trans (B.mono BL.out.size))
  replace S1 := Lib.hid (S1.out.below B)
  replace S2 := Lib.hid (S2.out.below B)
  replace SV := Lib.hid (SV.out.below B)
  replace TM := Lib.hid (TM.out.below B)
  replace TJ := Lib.hid (TJ.out.below B)
  replace TW := Lib.hid (TW.out.below B)
  have ZL := Lib.hid (Holds.new v4 24 #[.int .i64 mv, .slice aL mL dL])
  have TL := Lib.hid (sL.below B0)
  clear bL B B0 sL
  go_wp2
  generalize (v4.alloc (.cells #[.int .i64 mv, .slice aL mL dL] 24)) = V7 at *
  have k32 : ∀ W, Below V7.heap.size V7 W → W.cell? ⟨w.heap.size, 0, none⟩ = some (.int .i64 mv) := fun W hW => (Z1.out.below hW Z1.out.lt).cell 0
  have k33 : ∀ W, Below V7.heap.size V7 W → W.cell? ⟨w.heap.size, 1, none⟩ = some (.slice a1 m1 c1) := fun W hW => (Z1.out.below hW Z1.out.lt).cell 1
  have k34 : ∀ W, Below V7.heap.size V7 W → W.cell? ⟨w.heap.size + 1, 0, none⟩ = some (.int .i64 mv) := fun W hW => (Z2.out.below hW Z2.out.lt).cell 0
  have k35 : ∀ W, Below V7.heap.size V7 W → W.cell? ⟨w.heap.size + 1, 1, none⟩ = some (.slice a2 m2 c2) := fun W hW => (Z2.out.below hW Z2.out.lt).cell 1
  have ht : Hid (∀ W, Below V7.heap.size V7 W → Below w.heap.size w W) := Lib.hid (fun W hW => BL.out.trans (hW.mono BL.out.size))
  refine wp_drawn_on (fun W => Below V7.heap.size V7 W) (by kernel_rfl) (below_drew (Below.refl _ _)) (fun hHeld => ?_)
  refine wpAnyH_take (i := 0) (oi := { dst := some 95, op := Go.Op.load 24 (Go.Operand.tmp 6), type := 24, pos := "law.go:129", after := #[], guard := none }) (v := ?v1) rfl (by kernel_rfl) (by kernel_rfl) (by kernel_rfl) (fun _ _ _ h => h) (Or.inl ⟨by kernel_rfl, ?h1⟩) (by assumption) ?r1
  case h1 => (intro w hSw; (try dsimp only at hSw); go_simp; try with_reducible rfl)
  try simp only [Act.put, List.setIfInBounds_toArray, List.set_cons_zero, List.set_cons_succ]
  refine wpAnyH_take (i := 1) (oi := { dst := some 96, op := Go.Op.move (Go.Operand.tmp 2), type := 22, pos := "law.go:129", after := #[], guard := none }) (v := ?v2) rfl (by kernel_rfl) (by kernel_rfl) (by kernel_rfl) (fun _ _ _ h => h) (Or.inl ⟨by kernel_rfl, ?h2⟩) (by assumption) ?r2
  case h2 => (intro w hSw; (try dsimp only at hSw); go_simp; try with_reducible rfl)
  try simp only [Act.put, List.setIfInBounds_toArray, List.set_cons_zero, List.set_cons_succ]
  refine wpAnyH_take (i := 3) (oi := { dst := some 98, op := Go.Op.load 24 (Go.Operand.tmp 7), type := 24, pos := "law.go:129", after := #[], guard := none }) (v := ?v3) rfl (by kernel_rfl) (by kernel_rfl) (by kernel_rfl) (fun _ _ _ h => h) (Or.inl ⟨by kernel_rfl, ?h3⟩) (by assumption) ?r3
  case h3 => (intro w hSw; (try dsimp only at hSw); go_simp; try with_reducible rfl)
  try simp only [Act.put, List.setIfInBounds_toArray, List.set_cons_zero, List.set_cons_succ]
  refine wpAnyH_take (i := 4) (oi := { dst := some 99, op := Go.Op.move (Go.Operand.tmp 2), type := 22, pos := "law.go:129", after := #[], guard := none }) (v := ?v4) rfl (by kernel_rfl) (by kernel_rfl) (by kernel_rfl) (fun _ _ _ h => h) (Or.inl ⟨by kernel_rfl, ?h4⟩) (by assumption) ?r4
  case h4 => (intro w hSw; (try dsimp only at hSw); go_simp; try with_reducible rfl)
  try simp only [Act.put, List.setIfInBounds_toArray, List.set_cons_zero, List.set_cons_succ]
  refine wpAnyH_ready (rs := [2]) (by kernel_rfl) (by simp) ?_
  refine AllReadyH.cons (o := { dst := some 97, op := Go.Op.call { callee := Go.Callee.value (Go.Operand.func 35), args := #[Go.Operand.tmp 95, Go.Operand.tmp 96], argTypes := #[24, 22] }, type := 4, pos := "law.go:129", after := #[{ on := 0, ground := Go.Ground.data }, { on := 1, ground := Go.Ground.data }], guard := none }) rfl (fun K hK => ?_) AllReadyH.nil
  go_simp
  refine (QA.out _ (ht.out _ hHeld)).mono ?_
  rintro e u7 ⟨rfl, b2⟩
  go_simp
  refine hK.out _ _ (hHeld.trans (b2.mono hHeld.size)) (fun hHeld => ?_)
  clear hK K
  try simp only [Act.put, List.setIfInBounds_toArray, List.set_cons_zero, List.set_cons_succ]
  refine wpAnyH_ready (rs := [5]) (by kernel_rfl) (by simp) ?_
  refine AllReadyH.cons (o := { dst := some 100, op := Go.Op.call { callee := Go.Callee.value (Go.Operand.func 35), args := #[Go.Operand.tmp 98, Go.Operand.tmp 99], argTypes := #[24, 22] }, type := 4, pos := "law.go:129", after := #[{ on := 3, ground := Go.Ground.data }, { on := 4, ground := Go.Ground.data }, { on := 2, ground := Go.Ground.chain }], guard := none }) rfl (fun K hK => ?_) AllReadyH.nil
  go_simp
  refine (QB.out _ (ht.out _ hHeld)).mono ?_
  rintro e u8 ⟨rfl, b5⟩
  go_simp
  refine hK.out _ _ (hHeld.trans (b5.mono hHeld.size)) (fun hHeld => ?_)
  clear hK K
  try simp only [Act.put, List.setIfInBounds_toArray, List.set_cons_zero, List.set_cons_succ]
  refine wpAnyH_take (i := 6) (oi := { dst := some 21, op := Go.Op.assign (Go.Operand.tmp 97), type := 4, pos := "law.go:129", after := #[{ on := 2, ground := Go.Ground.data }, { on := 5, ground := Go.Ground.chain }, { on := 0, ground := Go.Ground.phase }, { on := 1, ground := Go.Ground.phase }, { on := 2, ground := Go.Ground.phase }, { on := 3, ground := Go.Ground.textOnly Go.Departure.lateStores }, { on := 4, ground := Go.Ground.textOnly Go.Departure.lateStores }, { on := 5, ground := Go.Ground.textOnly Go.Departure.lateStoresUnsure }], guard := none }) (v := ?v5) rfl (by kernel_rfl) (by kernel_rfl) (by kernel_rfl) (fun _ _ _ h => h) (Or.inl ⟨by kernel_rfl, ?h5⟩) (by assumption) ?r5
  case h5 => (intro w hSw; (try dsimp only at hSw); go_simp; try with_reducible rfl)
  try simp only [Act.put, List.setIfInBounds_toArray, List.set_cons_zero, List.set_cons_succ]
  refine wpAnyH_take (i := 7) (oi := { dst := some 22, op := Go.Op.assign (Go.Operand.tmp 100), type := 4, pos := "law.go:129", after := #[{ on := 5, ground := Go.Ground.data }, { on := 6, ground := Go.Ground.chain }, { on := 0, ground := Go.Ground.phase }, { on := 1, ground := Go.Ground.phase }, { on := 2, ground := Go.Ground.phase }, { on := 3, ground := Go.Ground.phase }, { on := 4, ground := Go.Ground.phase }, { on := 5, ground := Go.Ground.phase }, { on := 6, ground := Go.Ground.phase }], guard := none }) (v := ?v6) rfl (by kernel_rfl) (by kernel_rfl) (by kernel_rfl) (fun _ _ _ h => h) (Or.inl ⟨by kernel_rfl, ?h6⟩) (by assumption) ?r6
  case h6 => (intro w hSw; (try dsimp only at hSw); go_simp; try with_reducible rfl)
  try simp only [Act.put, List.setIfInBounds_toArray, List.set_cons_zero, List.set_cons_succ]
  refine wpAnyH_done (by kernel_rfl) ?_ _
  clear k32 k33 k34 k35
  replace Z1 := Lib.hid (Z1.out.below hHeld Z1.out.lt)
  replace Z2 := Lib.hid (Z2.out.below hHeld Z2.out.lt)
  replace ZM := Lib.hid (ZM.out.below hHeld ZM.out.lt)
  replace ZJ := Lib.hid (ZJ.out.below hHeld ZJ.out.lt)
  replace ZW := Lib.hid (ZW.out.below hHeld ZW.out.lt)
  replace ZL := Lib.hid (ZL.out.below hHeld ZL.out.lt)
  replace BL := Lib.hid (BL.out.trans (hHeld.mono BL.out.size))
  replace S1 := Lib.hid (S1.out.below hHeld)
  replace S2 := Lib.hid (S2.out.below hHeld)
  replace SV := Lib.hid (SV.out.below hHeld)
  replace TM := Lib.hid (TM.out.below hHeld)
  replace TJ := Lib.hid (TJ.out.below hHeld)
  replace TW := Lib.hid (TW.out.below hHeld)
  replace TL := Lib.hid (TL.out.below hHeld)
  clear hHeld ht QA QB
  have q := Lib.hid (zlivesAt w _ BL.out)
  go_wp2_with fail
  refine q.out.mono ?_
  rintro e v9 ⟨rfl, b9, -⟩
  clear q
  have k36 : v9.cell? ⟨v1.heap.size, 0, none⟩ = some (.int .i64 mv) := (ZM.out.below b9 ZM.out.lt).cell 0
  have k37 : v9.cell? ⟨v1.heap.size, 1, none⟩ = some (.slice aM mM dM) := (ZM.out.below b9 ZM.out.lt).cell 1
  replace Z1 := Lib.hid (Z1.out.below b9 Z1.out.lt)
  replace Z2 := Lib.hid (Z2.out.below b9 Z2.out.lt)
  replace ZM := Lib.hid (ZM.out.below b9 ZM.out.lt)
  replace ZJ := Lib.hid (ZJ.out.below b9 ZJ.out.lt)
  replace ZW := Lib.hid (ZW.out.below b9 ZW.out.lt)
  replace ZL := Lib.hid (ZL.out.below b9 ZL.out.lt)
  replace BL := Lib.hid (BL.out.trans (b9.mono BL.out.size))
  replace S1 := Lib.hid (S1.out.below b9)
  replace S2 := Lib.hid (S2.out.below b9)
  replace SV := Lib.hid (SV.out.below b9)
  replace TM := Lib.hid (TM.out.below b9)
  replace TJ := Lib.hid (TJ.out.below b9)
  replace TW := Lib.hid (TW.out.below b9)
  replace TL := Lib.hid (TL.out.below b9)
  clear b9
  have q := Lib.hid (QHM.out _ aM dM TM.out SV.out)
  go_wp2_with fail
  refine q.out.mono ?_
  rintro e v10 ⟨rfl, b10⟩
  clear k36 k37
  clear q QHM
  have k38 : v10.cell? ⟨v4.heap.size, 0, none⟩ = some (.int .i64 mv) := (ZL.out.below b10 ZL.out.lt).cell 0
  have k39 : v10.cell? ⟨v4.heap.size, 1, none⟩ = some (.slice aL mL dL) := (ZL.out.below b10 ZL.out.lt).cell 1
  replace Z1 := Lib.hid (Z1.out.below b10 Z1.out.lt)
  replace Z2 := Lib.hid (Z2.out.below b10 Z2.out.lt)
  replace ZM := Lib.hid (ZM.out.below b10 ZM.out.lt)
  replace ZJ := Lib.hid (ZJ.out.below b10 ZJ.out.lt)
  replace ZW := Lib.hid (ZW.out.below b10 ZW.out.lt)
  replace ZL := Lib.hid (ZL.out.below b10 ZL.out.lt)
  replace BL := Lib.hid (BL.out.trans (b10.mono BL.out.size))
  replace S1 := Lib.hid (S1.out.below b10)
  replace S2 := Lib.hid (S2.out.below b10)
  replace SV := Lib.hid (SV.out.below b10)
  replace TM := Lib.hid (TM.out.below b10)
  replace TJ := Lib.hid (TJ.out.below b10)
  replace TW := Lib.hid (TW.out.below b10)
  replace TL := Lib.hid (TL.out.below b10)
  clear b10
  have q := Lib.hid (QHL.out _ aL dL TL.out SV.out)
  go_wp2_with fail
  refine q.out.mono ?_
  rintro e v13 ⟨rfl, b13⟩
  clear k38 k39
  clear q QHL
  have k40 : v13.cell? ⟨w.heap.size, 0, none⟩ = some (.int .i64 mv) := (Z1.out.below b13 Z1.out.lt).cell 0
  have k41 : v13.cell? ⟨w.heap.size, 1, none⟩ = some (.slice a1 m1 c1) := (Z1.out.below b13 Z1.out.lt).cell 1
  replace Z1 := Lib.hid (Z1.out.below b13 Z1.out.lt)
  replace Z2 := Lib.hid (Z2.out.below b13 Z2.out.lt)
  replace ZM := Lib.hid (ZM.out.below b13 ZM.out.lt)
  replace ZJ := Lib.hid (ZJ.out.below b13 ZJ.out.lt)
  replace ZW := Lib.hid (ZW.out.below b13 ZW.out.lt)
  replace ZL := Lib.hid (ZL.out.below b13 ZL.out.lt)
  replace BL := Lib.hid (BL.out.trans (b13.mono BL.out.size))
  replace S1 := Lib.hid (S1.out.below b13)
  replace S2 := Lib.hid (S2.out.below b13)
  replace SV := Lib.hid (SV.out.below b13)
  replace TM := Lib.hid (TM.out.below b13)
  replace TJ := Lib.hid (TJ.out.below b13)
  replace TW := Lib.hid (TW.out.below b13)
  replace TL := Lib.hid (TL.out.below b13)
  clear b13
  have q := Lib.hid (QF.out _ BL.out)
  go_wp2_with fail
  refine q.out.mono ?_
  rintro e v14 ⟨aF, dF, rfl, sF, bF⟩
  clear k40 k41
  clear q QF
  have B0 := box_below v14 #[.int .i64 mv, .slice aF mF dF] 24
  have B := bF.trans (B0.mono bF.size)
  replace Z1 := Lib.hid (Z1.out.below B Z1.out.lt)
  replace Z2 := Lib.hid (Z2.out.below B Z2.out.lt)
  replace ZM := Lib.hid (ZM.out.below B ZM.out.lt)
  replace ZJ := Lib.hid (ZJ.out.below B ZJ.out.lt)
  replace ZW := Lib.hid (ZW.out.below B ZW.out.lt)
  replace ZL := Lib.hid (ZL.out.below B ZL.out.lt)
  replace BL := Lib.hid (BL.out.trans (B.mono BL.out.size))
  replace S1 := Lib.hid (S1.out.below B)
  replace S2 := Lib.hid (S2.out.below B)
  replace SV := Lib.hid (SV.out.below B)
  replace TM := Lib.hid (TM.out.below B)
  replace TJ := Lib.hid (TJ.out.below B)
  replace TW := Lib.hid (TW.out.below B)
  replace TL := Lib.hid (TL.out.below B)
  have ZF := Lib.hid (Holds.new v14 24 #[.int .i64 mv, .slice aF mF dF])
  have TF := Lib.hid (sF.below B0)
  clear bF B B0 sF
  have q := Lib.hid (QI.out _ aF dF TF.out)
  go_wp2_with fail
  refine q.out.mono ?_
  rintro e v15 ⟨rfl, b15⟩
  clear q QI
  have B0 := box_below v15 #[.int .i64 ix, .int .i64 iy] 38
  have B := b15.trans (B0.mono b15.size)
  replace Z1 := Lib.hid (Z1.out.below B Z1.out.lt)
  replace Z2 := Lib.hid (Z2.out.below B Z2.out.lt)
  replace ZM := Lib.hid (ZM.out.below B ZM.out.lt)
  replace ZJ := Lib.hid (ZJ.out.below B ZJ.out.lt)
  replace ZW := Lib.hid (ZW.out.below B ZW.out.lt)
  replace ZL := Lib.hid (ZL.out.below B ZL.out.lt)
  replace ZF := Lib.hid (ZF.out.below B ZF.out.lt)
  replace BL := Lib.hid (BL.out.trans (B.mono BL.out.size))
  replace S1 := Lib.hid (S1.out.below B)
  replace S2 := Lib.hid (S2.out.below B)
  replace SV := Lib.hid (SV.out.below B)
  replace TM := Lib.hid (TM.out.below B)
  replace TJ := Lib.hid (TJ.out.below B)
  replace TW := Lib.hid (TW.out.below B)
  replace TL := Lib.hid (TL.out.below B)
  replace TF := Lib.hid (TF.out.below B)
  have ZI := Lib.hid (Holds.new v15 38 #[.int .i64 ix, .int .i64 iy])
  clear b15 B B0
  go_wp2
  go_ret
  exact ⟨rfl, BL.out⟩
set_option maxRecDepth 100000 in
set_option maxHeartbeats 8000000 in
theorem has_ft (i j : Nat) (c : Int) (a1 a2 av : Option Addr) (m1 m2 mv c1 c2 cv : Nat) (l1 l2 v : List Int) (w : World) (h1 : SL w a1 m1 c1 l1) (h2 : SL w a2 m2 c2 l2) (hv : SL w av mv cv v) (g1 : ¬ 200 < m1) (g2 : ¬ 200 < m2) (g3 : ¬ 8 < mv) (z1 : IsZ mv l1) (z2 : IsZ mv l2) (hi0 : 1 ≤ i) (hi : i ≤ mv) (hj : j ≤ mv) (hp : hasB mv l1 v = false) (hq : hasB mv l2 v = true) : Calls Try.prog 6 #[.agg #[.int .i64 mv, .slice a1 m1 c1], .agg #[.int .i64 mv, .slice a2 m2 c2], .slice av mv cv, .int .i64 i, .int .i64 j, .int .i64 c] w (Gives (.bool true) w) := by
  have hvl : v.length = mv := hv.len.symm
  have g3i : ¬ (8 : Int) < (mv : Int) := by omega
  have htwo := Lib.hid (z1.two z2)
  have hvar : Hid ((decide (1 ≤ (i : Int)) && decide ((i : Int) ≤ (mv : Int))) = true) := Lib.hid (by simp; omega)
  have hor : Hid ((decide (0 ≤ (j : Int)) && decide ((j : Int) ≤ (mv : Int))) = true) := Lib.hid (by simp; omega)
  have H1 := Lib.hid h1
  have H2 := Lib.hid h2
  have HV := Lib.hid hv
  have zM : IsZ mv (meetL mv l1 l2) := meetL_isz z1 z2
  obtain ⟨mM, hmM⟩ : ∃ x, x = (meetL mv l1 l2).length := ⟨_, rfl⟩
  have rM : mM ≤ 81 := by rw [hmM]; exact zM.small
  have QM := Lib.hid (fun W (hW : Below w.heap.size w W) => (zmeet_ok a1 a2 m1 m2 c1 c2 l1 l2 mv z1 z2 W (H1.out.below hW) (H2.out.below hW)).mono (fun e w' h => ends_of (m := mM) hmM.symm (by omega) h))
  have fm := fact_meet z1 z2 hvl
  rw [hp, hq] at fm
  have QHM : Hid (∀ W a cz, SL W a mM cz (meetL mv l1 l2) → SL W av mv cv v → Calls Try.prog 35 #[.agg #[.int .i64 mv, .slice a mM cz], .slice av mv cv] W (Gives (.bool (false)) W)) := Lib.hid (fun W a cz hS hV => by have := has_any mv a mM cz _ av mv cv v W hS hV; rwa [fm, show (false && true) = false from rfl] at this)
  have zJ : IsZ mv (joinL mv l1 l2) := joinL_isz z1 z2
  obtain ⟨mJ, hmJ⟩ : ∃ x, x = (joinL mv l1 l2).length := ⟨_, rfl⟩
  have rJ : mJ ≤ 81 := by rw [hmJ]; exact zJ.small
  have QJ := Lib.hid (fun W (hW : Below w.heap.size w W) => (zjoin_ok a1 a2 m1 m2 c1 c2 l1 l2 mv z1 z2 W (H1.out.below hW) (H2.out.below hW)).mono (fun e w' h => ends_of (m := mJ) hmJ.symm (by omega) h))
  have zW : IsZ mv (widenL mv l1 l2) := widenL_isz z1 z2
  obtain ⟨mW, hmW⟩ : ∃ x, x = (widenL mv l1 l2).length := ⟨_, rfl⟩
  have rW : mW ≤ 81 := by rw [hmW]; exact zW.small
  have QW := Lib.hid (fun W (hW : Below w.heap.size w W) => (zwiden_ok a1 a2 m1 m2 c1 c2 l1 l2 mv z1 z2 W (H1.out.below hW) (H2.out.below hW)).mono (fun e w' h => ends_of (m := mW) hmW.symm (by omega) h))
  have fj := fact_join z1 z2 hvl (by rw [hp, hq]; rfl)
  have fw := fact_widen z1 z2 hvl (by rw [hp, hq]; rfl)
  have QHJ : Hid (∀ W a cz, SL W a mJ cz (joinL mv l1 l2) → SL W av mv cv v → Calls Try.prog 35 #[.agg #[.int .i64 mv, .slice a mJ cz], .slice av mv cv] W (Gives (.bool (true)) W)) := Lib.hid (fun W a cz hS hV => by have := has_any mv a mJ cz _ av mv cv v W hS hV; rwa [fj] at this)
  have QHW : Hid (∀ W a cz, SL W a mW cz (widenL mv l1 l2) → SL W av mv cv v → Calls Try.prog 35 #[.agg #[.int .i64 mv, .slice a mW cz], .slice av mv cv] W (Gives (.bool (true)) W)) := Lib.hid (fun W a cz hS hV => by have := has_any mv a mW cz _ av mv cv v W hS hV; rwa [fw] at this)
  have zL : IsZ mv (limitL mv l1 i j c) := limitL_isz z1.1 _ _ _ _
  obtain ⟨mL, hmL⟩ : ∃ x, x = (limitL mv l1 i j c).length := ⟨_, rfl⟩
  have rL : mL ≤ 81 := by rw [hmL]; exact zL.small
  have QL := Lib.hid (fun W (hW : Below w.heap.size w W) => (zlimit_ok mv l1 z1 i j (by omega) hj c a1 m1 c1 W (H1.out.below hW)).mono (fun e w' h => ends_of (m := mL) hmL.symm (by omega) h))
  have fl := fact_limit z1 hvl hi hj c
  rw [hp] at fl
  have QHL : Hid (∀ W a cz, SL W a mL cz (limitL mv l1 i j c) → SL W av mv cv v → Calls Try.prog 35 #[.agg #[.int .i64 mv, .slice a mL cz], .slice av mv cv] W (Gives (.bool (false)) W)) := Lib.hid (fun W a cz hS hV => by have := has_any mv a mL cz _ av mv cv v W hS hV; rwa [fl, Bool.false_and] at this)
  have zF : IsZ mv (forgetL mv l1 i) := forgetL_isz z1.1 _ _
  obtain ⟨mF, hmF⟩ : ∃ x, x = (forgetL mv l1 i).length := ⟨_, rfl⟩
  have rF : mF ≤ 81 := by rw [hmF]; exact zF.small
  have QF := Lib.hid (fun W (hW : Below w.heap.size w W) => (zforget_ok mv l1 z1 i hi0 hi a1 m1 c1 W (H1.out.below hW)).mono (fun e w' h => ends_of (m := mF) hmF.symm (by omega) h))
  have QI : Hid (∀ W a cz, SL W a mF cz (forgetL mv l1 i) → Calls Try.prog 24 #[.agg #[.int .i64 mv, .slice a mF cz], .int .i64 i] W (Gives (.tuple #[.agg #[.int .i64 (itvL mv (forgetL mv l1 i) i).1, .int .i64 (itvL mv (forgetL mv l1 i) i).2], .int .i64 0]) W)) := Lib.hid (fun W a cz hS => zitvL_any mv i hi _ zF a mF cz W hS)
  have QA := Lib.hid (fun W (hW : Below w.heap.size w W) => has_any mv a1 m1 c1 l1 av mv cv v W (H1.out.below hW) (HV.out.below hW))
  have QB := Lib.hid (fun W (hW : Below w.heap.size w W) => has_any mv a2 m2 c2 l2 av mv cv v W (H2.out.below hW) (HV.out.below hW))
  rw [hp] at QA
  rw [hq] at QB
  clear hp hq fm fj fw fl zM hmM zJ hmJ zW hmW zL hmL zF hmF
  clear z1 z2 hi0 hi hj hvl
  generalize meetL mv l1 l2 = LM at *
  generalize joinL mv l1 l2 = LJ at *
  generalize widenL mv l1 l2 = LW at *
  generalize limitL mv l1 i j c = LL at *
  generalize forgetL mv l1 i = LF at *
  generalize (itvL mv LF i).1 = ix at *
  generalize (itvL mv LF i).2 = iy at *
  obtain ⟨W1, hW1⟩ : ∃ W1, W1 = (w.alloc (.cells #[.int .i64 mv, .slice a1 m1 c1] 24)).alloc (.cells #[.int .i64 mv, .slice a2 m2 c2] 24) := ⟨_, rfl⟩
  have Z1 : Hid (Holds W1 (w.heap.size) 24 #[.int .i64 mv, .slice a1 m1 c1]) := Lib.hid (by rw [hW1]; exact (Holds.new w _ _).alloc _)
  have Z2 : Hid (Holds W1 (w.heap.size + 1) 24 #[.int .i64 mv, .slice a2 m2 c2]) := Lib.hid (by rw [hW1]; have := Holds.new (w.alloc (.cells #[.int .i64 mv, .slice a1 m1 c1] 24)) 24 #[.int .i64 mv, .slice a2 m2 c2]; simpa using this)
  have BL := Lib.hid (show Below w.heap.size w W1 by rw [hW1]; exact box2_below _ _ _ _ _)
  have S1 := Lib.hid (h1.below BL.out)
  have S2 := Lib.hid (h2.below BL.out)
  have SV := Lib.hid (hv.below BL.out)
  have hW1' := Lib.hid hW1
  clear hW1
  clear h1 h2 hv
  go_enter Try.func6, Try.ntmps6
  have k1 := Z1.out.cell 0
  have k2 := Z1.out.cell 1
  have q := Lib.hid (by have := large_any a1 m1 c1 S1.out.max W1; rwa [decide_eq_false (show ¬ (200 : Int) < (m1 : Int) by omega)] at this)
  go_wp2_with fail
  rw [← hW1'.out]
  refine q.out.mono ?_
  rintro e u1 ⟨rfl, rfl⟩
  clear hW1'
  clear q
  clear k1 k2
  have k3 := Z2.out.cell 0
  have k4 := Z2.out.cell 1
  have q := Lib.hid (by have := large_any a2 m2 c2 S2.out.max W1; rwa [decide_eq_false (show ¬ (200 : Int) < (m2 : Int) by omega)] at this)
  go_wp2_with fail
  refine q.out.mono ?_
  rintro e u1 ⟨rfl, rfl⟩
  clear q
  clear k3 k4
  have k5 := Z1.out.cell 0
  have k6 := Z1.out.cell 1
  have k7 := Z2.out.cell 0
  have k8 := Z2.out.cell 1
  have q := Lib.hid (by have := rtwo_any mv mv a1 a2 m1 m2 c1 c2 l1 l2 W1 S1.out S2.out; rwa [htwo.out] at this)
  go_wp2_with fail
  refine q.out.mono ?_
  rintro e u2 ⟨rfl, b2⟩
  clear k5 k6 k7 k8
  clear q
  have k9 : u2.cell? ⟨w.heap.size, 0, none⟩ = some (.int .i64 mv) := (Z1.out.below b2 Z1.out.lt).cell 0
  have k10 : u2.cell? ⟨w.heap.size, 1, none⟩ = some (.slice a1 m1 c1) := (Z1.out.below b2 Z1.out.lt).cell 1
  replace Z1 := Lib.hid (Z1.out.below b2 Z1.out.lt)
  replace Z2 := Lib.hid (Z2.out.below b2 Z2.out.lt)
  replace BL := Lib.hid (BL.out.trans (b2.mono BL.out.size))
  replace S1 := Lib.hid (S1.out.below b2)
  replace S2 := Lib.hid (S2.out.below b2)
  replace SV := Lib.hid (SV.out.below b2)
  clear b2
  have q := Lib.hid (by have := rvar_any mv i a1 m1 c1 u2; rwa [hvar.out] at this)
  go_wp2_with fail
  refine q.out.mono ?_
  rintro e u3 ⟨rfl, b3⟩
  clear k9 k10
  clear q
  have k11 : u3.cell? ⟨w.heap.size, 0, none⟩ = some (.int .i64 mv) := (Z1.out.below b3 Z1.out.lt).cell 0
  have k12 : u3.cell? ⟨w.heap.size, 1, none⟩ = some (.slice a1 m1 c1) := (Z1.out.below b3 Z1.out.lt).cell 1
  replace Z1 := Lib.hid (Z1.out.below b3 Z1.out.lt)
  replace Z2 := Lib.hid (Z2.out.below b3 Z2.out.lt)
  replace BL := Lib.hid (BL.out.trans (b3.mono BL.out.size))
  replace S1 := Lib.hid (S1.out.below b3)
  replace S2 := Lib.hid (S2.out.below b3)
  replace SV := Lib.hid (SV.out.below b3)
  clear b3
  have q := Lib.hid (by have := ror0_any mv j a1 m1 c1 u3; rwa [hor.out] at this)
  go_wp2_with fail
  refine q.out.mono ?_
  rintro e u4 ⟨rfl, b4⟩
  clear k11 k12
  clear q
  have k13 : u4.cell? ⟨w.heap.size, 0, none⟩ = some (.int .i64 mv) := (Z1.out.below b4 Z1.out.lt).cell 0
  have k14 : u4.cell? ⟨w.heap.size, 1, none⟩ = some (.slice a1 m1 c1) := (Z1.out.below b4 Z1.out.lt).cell 1
  have k15 : u4.cell? ⟨w.heap.size + 1, 0, none⟩ = some (.int .i64 mv) := (Z2.out.below b4 Z2.out.lt).cell 0
  have k16 : u4.cell? ⟨w.heap.size + 1, 1, none⟩ = some (.slice a2 m2 c2) := (Z2.out.below b4 Z2.out.lt).cell 1
  replace Z1 := Lib.hid (Z1.out.below b4 Z1.out.lt)
  replace Z2 := Lib.hid (Z2.out.below b4 Z2.out.lt)
  replace BL := Lib.hid (BL.out.trans (b4.mono BL.out.size))
  replace S1 := Lib.hid (S1.out.below b4)
  replace S2 := Lib.hid (S2.out.below b4)
  replace SV := Lib.hid (SV.out.below b4)
  clear b4
  have q := Lib.hid (QM.out _ BL.out)
  go_wp2_with fail
  refine q.out.mono ?_
  rintro e v1 ⟨aM, dM, rfl, sM, bM⟩
  clear k13 k14 k15 k16
  clear q QM
  have k17 : v1.cell? ⟨w.heap.size, 0, none⟩ = some (.int .i64 mv) := (Z1.out.below bM Z1.out.lt).cell 0
  have k18 : v1.cell? ⟨w.heap.size, 1, none⟩ = some (.slice a1 m1 c1) := (Z1.out.below bM Z1.out.lt).cell 1
  have k19 : w.heap.size < v1.heap.size := (Z1.out.below bM Z1.out.lt).lt
  have k20 : v1.cell? ⟨w.heap.size + 1, 0, none⟩ = some (.int .i64 mv) := (Z2.out.below bM Z2.out.lt).cell 0
  have k21 : v1.cell? ⟨w.heap.size + 1, 1, none⟩ = some (.slice a2 m2 c2) := (Z2.out.below bM Z2.out.lt).cell 1
  have k22 : w.heap.size + 1 < v1.heap.size := (Z2.out.below bM Z2.out.lt).lt
  have B0 := box_below v1 #[.int .i64 mv, .slice aM mM dM] 24
  have B := bM.trans (B0.mono bM.size)
  replace Z1 := Lib.hid (Z1.out.below B Z1.out.lt)
  replace Z2 := Lib.hid (Z2.out.below B Z2.out.lt)
  replace BL := Lib.hid (BL.out.trans (B.mono BL.out.size))
  replace S1 := Lib.hid (S1.out.below B)
  replace S2 := Lib.hid (S2.out.below B)
  replace SV := Lib.hid (SV.out.below B)
  have ZM := Lib.hid (Holds.new v1 24 #[.int .i64 mv, .slice aM mM dM])
  have TM := Lib.hid (sM.below B0)
  clear bM B B0 sM
  have q := Lib.hid (QJ.out _ BL.out)
  go_wp2_with fail
  refine q.out.mono ?_
  rintro e v2 ⟨aJ, dJ, rfl, sJ, bJ⟩
  clear k17 k18 k19 k20 k21 k22
  clear q QJ
  have k23 : v2.cell? ⟨w.heap.size, 0, none⟩ = some (.int .i64 mv) := (Z1.out.below bJ Z1.out.lt).cell 0
  have k24 : v2.cell? ⟨w.heap.size, 1, none⟩ = some (.slice a1 m1 c1) := (Z1.out.below bJ Z1.out.lt).cell 1
  have k25 : w.heap.size < v2.heap.size := (Z1.out.below bJ Z1.out.lt).lt
  have k26 : v2.cell? ⟨w.heap.size + 1, 0, none⟩ = some (.int .i64 mv) := (Z2.out.below bJ Z2.out.lt).cell 0
  have k27 : v2.cell? ⟨w.heap.size + 1, 1, none⟩ = some (.slice a2 m2 c2) := (Z2.out.below bJ Z2.out.lt).cell 1
  have k28 : w.heap.size + 1 < v2.heap.size := (Z2.out.below bJ Z2.out.lt).lt
  have B0 := box_below v2 #[.int .i64 mv, .slice aJ mJ dJ] 24
  have B := bJ.trans (B0.mono bJ.size)
  replace Z1 := Lib.hid (Z1.out.below B Z1.out.lt)
  replace Z2 := Lib.hid (Z2.out.below B Z2.out.lt)
  replace ZM := Lib.hid (ZM.out.below B ZM.out.lt)
  replace BL := Lib.hid (BL.out.trans (B.mono BL.out.size))
  replace S1 := Lib.hid (S1.out.below B)
  replace S2 := Lib.hid (S2.out.below B)
  replace SV := Lib.hid (SV.out.below B)
  replace TM := Lib.hid (TM.out.below B)
  have ZJ := Lib.hid (Holds.new v2 24 #[.int .i64 mv, .slice aJ mJ dJ])
  have TJ := Lib.hid (sJ.below B0)
  clear bJ B B0 sJ
  have q := Lib.hid (QW.out _ BL.out)
  go_wp2_with fail
  refine q.out.mono ?_
  rintro e v3 ⟨aW, dW, rfl, sW, bW⟩
  clear k23 k24 k25 k26 k27 k28
  clear q QW
  have k29 : v3.cell? ⟨w.heap.size, 0, none⟩ = some (.int .i64 mv) := (Z1.out.below bW Z1.out.lt).cell 0
  have k30 : v3.cell? ⟨w.heap.size, 1, none⟩ = some (.slice a1 m1 c1) := (Z1.out.below bW Z1.out.lt).cell 1
  have k31 : w.heap.size < v3.heap.size := (Z1.out.below bW Z1.out.lt).lt
  have B0 := box_below v3 #[.int .i64 mv, .slice aW mW dW] 24
  have B := bW.trans (B0.mono bW.size)
  replace Z1 := Lib.hid (Z1.out.below B Z1.out.lt)
  replace Z2 := Lib.hid (Z2.out.below B Z2.out.lt)
  replace ZM := Lib.hid (ZM.out.below B ZM.out.lt)
  replace ZJ := Lib.hid (ZJ.out.below B ZJ.out.lt)
  replace BL := Lib.hid (BL.out.trans (B.mono BL.out.size))
  replace S1 := Lib.hid (S1.out.below B)
  replace S2 := Lib.hid (S2.out.below B)
  replace SV := Lib.hid (SV.out.below B)
  replace TM := Lib.hid (TM.out.below B)
  replace TJ := Lib.hid (TJ.out.below B)
  have ZW := Lib.hid (Holds.new v3 24 #[.int .i64 mv, .slice aW mW dW])
  have TW := Lib.hid (sW.below B0)
  clear bW B B0 sW
  have q := Lib.hid (QL.out _ BL.out)
  go_wp2_with fail
  refine q.out.mono ?_
  rintro e v4 ⟨aL, dL, rfl, sL, bL⟩
  clear k29 k30 k31
  clear q QL
  have B0 := box_below v4 #[.int .i64 mv, .slice aL mL dL] 24
  have B := bL.trans (B0.mono bL.size)
  replace Z1 := Lib.hid (Z1.out.below B Z1.out.lt)
  replace Z2 := Lib.hid (Z2.out.below B Z2.out.lt)
  replace ZM := Lib.hid (ZM.out.below B ZM.out.lt)
  replace ZJ := Lib.hid (ZJ.out.below B ZJ.out.lt)
  replace ZW := Lib.hid (ZW.out.below B ZW.out.lt)
  replace BL := Lib.hid (BL.out.trans (B.mono BL.out.size))
  replace S1 := Lib.hid (S1.out.below B)
  replace S2 := Lib.hid (S2.out.below B)
  replace SV := Lib.hid (SV.out.below B)
  replace TM := Lib.hid (TM.out.below B)
  replace TJ := Lib.hid (TJ.out.below B)
  replace TW := Lib.hid (TW.out.below B)
  have ZL := Lib.hid (Holds.new v4 24 #[.int .i64 mv, .slice aL mL dL])
  have TL := Lib.hid (sL.below B0)
  clear bL B B0 sL
  go_wp2
  generalize (v4.alloc (.cells #[.int .i64 mv, .slice aL mL dL] 24)) = V7 at *
  have k32 : ∀ W, Below V7.heap.size V7 W → W.cell? ⟨w.heap.size, 0, none⟩ = some (.int .i64 mv) := fun W hW => (Z1.out.below hW Z1.out.lt).cell 0
  have k33 : ∀ W, Below V7.heap.size V7 W → W.cell? ⟨w.heap.size, 1, none⟩ = some (.slice a1 m1 c1) := fun W hW => (Z1.out.below hW Z1.out.lt).cell 1
  have k34 : ∀ W, Below V7.heap.size V7 W → W.cell? ⟨w.heap.size + 1, 0, none⟩ = some (.int .i64 mv) := fun W hW => (Z2.out.below hW Z2.out.lt).cell 0
  have k35 : ∀ W, Below V7.heap.size V7 W → W.cell? ⟨w.heap.size + 1, 1, none⟩ = some (.slice a2 m2 c2) := fun W hW => (Z2.out.below hW Z2.out.lt).cell 1
  have ht : Hid (∀ W, Below V7.heap.size V7 W → Below w.heap.size w W) := Lib.hid (fun W hW => BL.out.trans (hW.mono BL.out.size))
  refine wp_drawn_on (fun W => Below V7.heap.size V7 W) (by kernel_rfl) (below_drew (Below.refl _ _)) (fun hHeld => ?_)
  refine wpAnyH_take (i := 0) (oi := { dst := some 95, op := Go.Op.load 24 (Go.Operand.tmp 6), type := 24, pos := "law.go:129", after := #[], guard := none }) (v := ?v7) rfl (by kernel_rfl) (by kernel_rfl) (by kernel_rfl) (fun _ _ _ h => h) (Or.inl ⟨by kernel_rfl, ?h7⟩) (by assumption) ?r7
  case h7 => (intro w hSw; (try dsimp only at hSw); go_simp; try with_reducible rfl)
  try simp only [Act.put, List.setIfInBounds_toArray, List.set_cons_zero, List.set_cons_succ]
  refine wpAnyH_take (i := 1) (oi := { dst := some 96, op := Go.Op.move (Go.Operand.tmp 2), type := 22, pos := "law.go:129", after := #[], guard := none }) (v := ?v8) rfl (by kernel_rfl) (by kernel_rfl) (by kernel_rfl) (fun _ _ _ h => h) (Or.inl ⟨by kernel_rfl, ?h8⟩) (by assumption) ?r8
  case h8 => (intro w hSw; (try dsimp only at hSw); go_simp; try with_reducible rfl)
  try simp only [Act.put, List.setIfInBounds_toArray, List.set_cons_zero, List.set_cons_succ]
  refine wpAnyH_take (i := 3) (oi := { dst := some 98, op := Go.Op.load 24 (Go.Operand.tmp 7), type := 24, pos := "law.go:129", after := #[], guard := none }) (v := ?v9) rfl (by kernel_rfl) (by kernel_rfl) (by kernel_rfl) (fun _ _ _ h => h) (Or.inl ⟨by kernel_rfl, ?h9⟩) (by assumption) ?r9
  case h9 => (intro w hSw; (try dsimp only at hSw); go_simp; try with_reducible rfl)
  try simp only [Act.put, List.setIfInBounds_toArray, List.set_cons_zero, List.set_cons_succ]
  refine wpAnyH_take (i := 4) (oi := { dst := some 99, op := Go.Op.move (Go.Operand.tmp 2), type := 22, pos := "law.go:129", after := #[], guard := none }) (v := ?v10) rfl (by kernel_rfl) (by kernel_rfl) (by kernel_rfl) (fun _ _ _ h => h) (Or.inl ⟨by kernel_rfl, ?h10⟩) (by assumption) ?r10
  case h10 => (intro w hSw; (try dsimp only at hSw); go_simp; try with_reducible rfl)
  try simp only [Act.put, List.setIfInBounds_toArray, List.set_cons_zero, List.set_cons_succ]
  refine wpAnyH_ready (rs := [2]) (by kernel_rfl) (by simp) ?_
  refine AllReadyH.cons (o := { dst := some 97, op := Go.Op.call { callee := Go.Callee.value (Go.Operand.func 35), args := #[Go.Operand.tmp 95, Go.Operand.tmp 96], argTypes := #[24, 22] }, type := 4, pos := "law.go:129", after := #[{ on := 0, ground := Go.Ground.data }, { on := 1, ground := Go.Ground.data }], guard := none }) rfl (fun K hK => ?_) AllReadyH.nil
  go_simp
  refine (QA.out _ (ht.out _ hHeld)).mono ?_
  rintro e u7 ⟨rfl, b2⟩
  go_simp
  refine hK.out _ _ (hHeld.trans (b2.mono hHeld.size)) (fun hHeld => ?_)
  clear hK K
  try simp only [Act.put, List.setIfInBounds_toArray, List.set_cons_zero, List.set_cons_succ]
  refine wpAnyH_ready (rs := [5]) (by kernel_rfl) (by simp) ?_
  refine AllReadyH.cons (o := { dst := some 100, op := Go.Op.call { callee := Go.Callee.value (Go.Operand.func 35), args := #[Go.Operand.tmp 98, Go.Operand.tmp 99], argTypes := #[24, 22] }, type := 4, pos := "law.go:129", after := #[{ on := 3, ground := Go.Ground.data }, { on := 4, ground := Go.Ground.data }, { on := 2, ground := Go.Ground.chain }], guard := none }) rfl (fun K hK => ?_) AllReadyH.nil
  go_simp
  refine (QB.out _ (ht.out _ hHeld)).mono ?_
  rintro e u8 ⟨rfl, b5⟩
  go_simp
  refine hK.out _ _ (hHeld.trans (b5.mono hHeld.size)) (fun hHeld => ?_)
  clear hK K
  try simp only [Act.put, List.setIfInBounds_toArray, List.set_cons_zero, List.set_cons_succ]
  refine wpAnyH_take (i := 6) (oi := { dst := some 21, op := Go.Op.assign (Go.Operand.tmp 97), type := 4, pos := "law.go:129", after := #[{ on := 2, ground := Go.Ground.data }, { on := 5, ground := Go.Ground.chain }, { on := 0, ground := Go.Ground.phase }, { on := 1, ground := Go.Ground.phase }, { on := 2, ground := Go.Ground.phase }, { on := 3, ground := Go.Ground.textOnly Go.Departure.lateStores }, { on := 4, ground := Go.Ground.textOnly Go.Departure.lateStores }, { on := 5, ground := Go.Ground.textOnly Go.Departure.lateStoresUnsure }], guard := none }) (v := ?v11) rfl (by kernel_rfl) (by kernel_rfl) (by kernel_rfl) (fun _ _ _ h => h) (Or.inl ⟨by kernel_rfl, ?h11⟩) (by assumption) ?r11
  case h11 => (intro w hSw; (try dsimp only at hSw); go_simp; try with_reducible rfl)
  try simp only [Act.put, List.setIfInBounds_toArray, List.set_cons_zero, List.set_cons_succ]
  refine wpAnyH_take (i := 7) (oi := { dst := some 22, op := Go.Op.assign (Go.Operand.tmp 100), type := 4, pos := "law.go:129", after := #[{ on := 5, ground := Go.Ground.data }, { on := 6, ground := Go.Ground.chain }, { on := 0, ground := Go.Ground.phase }, { on := 1, ground := Go.Ground.phase }, { on := 2, ground := Go.Ground.phase }, { on := 3, ground := Go.Ground.phase }, { on := 4, ground := Go.Ground.phase }, { on := 5, ground := Go.Ground.phase }, { on := 6, ground := Go.Ground.phase }], guard := none }) (v := ?v12) rfl (by kernel_rfl) (by kernel_rfl) (by kernel_rfl) (fun _ _ _ h => h) (Or.inl ⟨by kernel_rfl, ?h12⟩) (by assumption) ?r12
  case h12 => (intro w hSw; (try dsimp only at hSw); go_simp; try with_reducible rfl)
  try simp only [Act.put, List.setIfInBounds_toArray, List.set_cons_zero, List.set_cons_succ]
  refine wpAnyH_done (by kernel_rfl) ?_ _
  clear k32 k33 k34 k35
  replace Z1 := Lib.hid (Z1.out.below hHeld Z1.out.lt)
  replace Z2 := Lib.hid (Z2.out.below hHeld Z2.out.lt)
  replace ZM := Lib.hid (ZM.out.below hHeld ZM.out.lt)
  replace ZJ := Lib.hid (ZJ.out.below hHeld ZJ.out.lt)
  replace ZW := Lib.hid (ZW.out.below hHeld ZW.out.lt)
  replace ZL := Lib.hid (ZL.out.below hHeld ZL.out.lt)
  replace BL := Lib.hid (BL.out.trans (hHeld.mono BL.out.size))
  replace S1 := Lib.hid (S1.out.below hHeld)
  replace S2 := Lib.hid (S2.out.below hHeld)
  replace SV := Lib.hid (SV.out.below hHeld)
  replace TM := Lib.hid (TM.out.below hHeld)
  replace TJ := Lib.hid (TJ.out.below hHeld)
  replace TW := Lib.hid (TW.out.below hHeld)
  replace TL := Lib.hid (TL.out.below hHeld)
  clear hHeld ht QA QB
  have q := Lib.hid (zlivesAt w _ BL.out)
  go_wp2_with fail
  refine q.out.mono ?_
  rintro e v9 ⟨rfl, b9, -⟩
  clear q
  have k36 : v9.cell? ⟨v1.heap.size, 0, none⟩ = some (.int .i64 mv) := (ZM.out.below b9 ZM.out.lt).cell 0
  have k37 : v9.cell? ⟨v1.heap.size, 1, none⟩ = some (.slice aM mM dM) := (ZM.out.below b9 ZM.out.lt).cell 1
  replace Z1 := Lib.hid (Z1.out.below b9 Z1.out.lt)
  replace Z2 := Lib.hid (Z2.out.below b9 Z2.out.lt)
  replace ZM := Lib.hid (ZM.out.below b9 ZM.out.lt)
  replace ZJ := Lib.hid (ZJ.out.below b9 ZJ.out.lt)
  replace ZW := Lib.hid (ZW.out.below b9 ZW.out.lt)
  replace ZL := Lib.hid (ZL.out.below b9 ZL.out.lt)
  replace BL := Lib.hid (BL.out.trans (b9.mono BL.out.size))
  replace S1 := Lib.hid (S1.out.below b9)
  replace S2 := Lib.hid (S2.out.below b9)
  replace SV := Lib.hid (SV.out.below b9)
  replace TM := Lib.hid (TM.out.below b9)
  replace TJ := Lib.hid (TJ.out.below b9)
  replace TW := Lib.hid (TW.out.below b9)
  replace TL := Lib.hid (TL.out.below b9)
  clear b9
  have q := Lib.hid (QHM.out _ aM dM TM.out SV.out)
  go_wp2_with fail
  refine q.out.mono ?_
  rintro e v10 ⟨rfl, b10⟩
  clear k36 k37
  clear q QHM
  have k38 : v10.cell? ⟨v2.heap.size, 0, none⟩ = some (.int .i64 mv) := (ZJ.out.below b10 ZJ.out.lt).cell 0
  have k39 : v10.cell? ⟨v2.heap.size, 1, none⟩ = some (.slice aJ mJ dJ) := (ZJ.out.below b10 ZJ.out.lt).cell 1
  replace Z1 := Lib.hid (Z1.out.below b10 Z1.out.lt)
  replace Z2 := Lib.hid (Z2.out.below b10 Z2.out.lt)
  replace ZM := Lib.hid (ZM.out.below b10 ZM.out.lt)
  replace ZJ := Lib.hid (ZJ.out.below b10 ZJ.out.lt)
  replace ZW := Lib.hid (ZW.out.below b10 ZW.out.lt)
  replace ZL := Lib.hid (ZL.out.below b10 ZL.out.lt)
  replace BL := Lib.hid (BL.out.trans (b10.mono BL.out.size))
  replace S1 := Lib.hid (S1.out.below b10)
  replace S2 := Lib.hid (S2.out.below b10)
  replace SV := Lib.hid (SV.out.below b10)
  replace TM := Lib.hid (TM.out.below b10)
  replace TJ := Lib.hid (TJ.out.below b10)
  replace TW := Lib.hid (TW.out.below b10)
  replace TL := Lib.hid (TL.out.below b10)
  clear b10
  have q := Lib.hid (QHJ.out _ aJ dJ TJ.out SV.out)
  go_wp2_with fail
  refine q.out.mono ?_
  rintro e v11 ⟨rfl, b11⟩
  clear k38 k39
  clear q QHJ
  have k40 : v11.cell? ⟨v3.heap.size, 0, none⟩ = some (.int .i64 mv) := (ZW.out.below b11 ZW.out.lt).cell 0
  have k41 : v11.cell? ⟨v3.heap.size, 1, none⟩ = some (.slice aW mW dW) := (ZW.out.below b11 ZW.out.lt).cell 1
  replace Z1 := Lib.hid (Z1.out.below b11 Z1.out.lt)
  replace Z2 := Lib.hid (Z2.out.below b11 Z2.out.lt)
  replace ZM := Lib.hid (ZM.out.below b11 ZM.out.lt)
  replace ZJ := Lib.hid (ZJ.out.below b11 ZJ.out.lt)
  replace ZW := Lib.hid (ZW.out.below b11 ZW.out.lt)
  replace ZL := Lib.hid (ZL.out.below b11 ZL.out.lt)
  replace BL := Lib.hid (BL.out.trans (b11.mono BL.out.size))
  replace S1 := Lib.hid (S1.out.below b11)
  replace S2 := Lib.hid (S2.out.below b11)
  replace SV := Lib.hid (SV.out.below b11)
  replace TM := Lib.hid (TM.out.below b11)
  replace TJ := Lib.hid (TJ.out.below b11)
  replace TW := Lib.hid (TW.out.below b11)
  replace TL := Lib.hid (TL.out.below b11)
  clear b11
  have q := Lib.hid (QHW.out _ aW dW TW.out SV.out)
  go_wp2_with fail
  refine q.out.mono ?_
  rintro e v12 ⟨rfl, b12⟩
  clear k40 k41
  clear q QHW
  have k42 : v12.cell? ⟨v4.heap.size, 0, none⟩ = some (.int .i64 mv) := (ZL.out.below b12 ZL.out.lt).cell 0
  have k43 : v12.cell? ⟨v4.heap.size, 1, none⟩ = some (.slice aL mL dL) := (ZL.out.below b12 ZL.out.lt).cell 1
  replace Z1 := Lib.hid (Z1.out.below b12 Z1.out.lt)
  replace Z2 := Lib.hid (Z2.out.below b12 Z2.out.lt)
  replace ZM := Lib.hid (ZM.out.below b12 ZM.out.lt)
  replace ZJ := Lib.hid (ZJ.out.below b12 ZJ.out.lt)
  replace ZW := Lib.hid (ZW.out.below b12 ZW.out.lt)
  replace ZL := Lib.hid (ZL.out.below b12 ZL.out.lt)
  replace BL := Lib.hid (BL.out.trans (b12.mono BL.out.size))
  replace S1 := Lib.hid (S1.out.below b12)
  replace S2 := Lib.hid (S2.out.below b12)
  replace SV := Lib.hid (SV.out.below b12)
  replace TM := Lib.hid (TM.out.below b12)
  replace TJ := Lib.hid (TJ.out.below b12)
  replace TW := Lib.hid (TW.out.below b12)
  replace TL := Lib.hid (TL.out.below b12)
  clear b12
  have q := Lib.hid (QHL.out _ aL dL TL.out SV.out)
  go_wp2_with fail
  refine q.out.mono ?_
  rintro e v13 ⟨rfl, b13⟩
  clear k42 k43
  clear q QHL
  have k44 : v13.cell? ⟨w.heap.size, 0, none⟩ = some (.int .i64 mv) := (Z1.out.below b13 Z1.out.lt).cell 0
  have k45 : v13.cell? ⟨w.heap.size, 1, none⟩ = some (.slice a1 m1 c1) := (Z1.out.below b13 Z1.out.lt).cell 1
  replace Z1 := Lib.hid (Z1.out.below b13 Z1.out.lt)
  replace Z2 := Lib.hid (Z2.out.below b13 Z2.out.lt)
  replace ZM := Lib.hid (ZM.out.below b13 ZM.out.lt)
  replace ZJ := Lib.hid (ZJ.out.below b13 ZJ.out.lt)
  replace ZW := Lib.hid (ZW.out.below b13 ZW.out.lt)
  replace ZL := Lib.hid (ZL.out.below b13 ZL.out.lt)
  replace BL := Lib.hid (BL.out.trans (b13.mono BL.out.size))
  replace S1 := Lib.hid (S1.out.below b13)
  replace S2 := Lib.hid (S2.out.below b13)
  replace SV := Lib.hid (SV.out.below b13)
  replace TM := Lib.hid (TM.out.below b13)
  replace TJ := Lib.hid (TJ.out.below b13)
  replace TW := Lib.hid (TW.out.below b13)
  replace TL := Lib.hid (TL.out.below b13)
  clear b13
  have q := Lib.hid (QF.out _ BL.out)
  go_wp2_with fail
  refine q.out.mono ?_
  rintro e v14 ⟨aF, dF, rfl, sF, bF⟩
  clear k44 k45
  clear q QF
  have B0 := box_below v14 #[.int .i64 mv, .slice aF mF dF] 24
  have B := bF.trans (B0.mono bF.size)
  replace Z1 := Lib.hid (Z1.out.below B Z1.out.lt)
  replace Z2 := Lib.hid (Z2.out.below B Z2.out.lt)
  replace ZM := Lib.hid (ZM.out.below B ZM.out.lt)
  replace ZJ := Lib.hid (ZJ.out.below B ZJ.out.lt)
  replace ZW := Lib.hid (ZW.out.below B ZW.out.lt)
  replace ZL := Lib.hid (ZL.out.below B ZL.out.lt)
  replace BL := Lib.hid (BL.out.trans (B.mono BL.out.size))
  replace S1 := Lib.hid (S1.out.below B)
  replace S2 := Lib.hid (S2.out.below B)
  replace SV := Lib.hid (SV.out.below B)
  replace TM := Lib.hid (TM.out.below B)
  replace TJ := Lib.hid (TJ.out.below B)
  replace TW := Lib.hid (TW.out.below B)
  replace TL := Lib.hid (TL.out.below B)
  have ZF := Lib.hid (Holds.new v14 24 #[.int .i64 mv, .slice aF mF dF])
  have TF := Lib.hid (sF.below B0)
  clear bF B B0 sF
  have q := Lib.hid (QI.out _ aF dF TF.out)
  go_wp2_with fail
  refine q.out.mono ?_
  rintro e v15 ⟨rfl, b15⟩
  clear q QI
  have B0 := box_below v15 #[.int .i64 ix, .int .i64 iy] 38
  have B := b15.trans (B0.mono b15.size)
  replace Z1 := Lib.hid (Z1.out.below B Z1.out.lt)
  replace Z2 := Lib.hid (Z2.out.below B Z2.out.lt)
  replace ZM := Lib.hid (ZM.out.below B ZM.out.lt)
  replace ZJ := Lib.hid (ZJ.out.below B ZJ.out.lt)
  replace ZW := Lib.hid (ZW.out.below B ZW.out.lt)
  replace ZL := Lib.hid (ZL.out.below B ZL.out.lt)
  replace ZF := Lib.hid (ZF.out.below B ZF.out.lt)
  replace BL := Lib.hid (BL.out.trans (B.mono BL.out.size))
  replace S1 := Lib.hid (S1.out.below B)
  replace S2 := Lib.hid (S2.out.below B)
  replace SV := Lib.hid (SV.out.below B)
  replace TM := Lib.hid (TM.out.below B)
  replace TJ := Lib.hid (TJ.out.below B)
  replace TW := Lib.hid (TW.out.below B)
  replace TL := Lib.hid (TL.out.below B)
  replace TF := Lib.hid (TF.out.below B)
  have ZI := Lib.hid (Holds.new v15 38 #[.int .i64 ix, .int .i64 iy])
  clear b15 B B0
  go_wp2
  go_ret
  exact ⟨rfl, BL.out⟩
end Go.Proofs.Ytacbkddkjlnklaa
