/- ZoneHas: the rest of it, where the first zone has the valuation. (Written by gen-zone-has.py.) -/
import Derived.Test.YtacbkddkjlnklaaZoneLawHas2
import Derived.Deep.DeepCutAuto
namespace Go.Proofs.Ytacbkddkjlnklaa
open Go.RowKit
set_option linter.unusedVariables false
set_option linter.unusedSimpArgs false

set_option maxRecDepth 100000 in
set_option maxHeartbeats 8000000 in
theorem has_tf (i j : Nat) (c : Int) (a1 a2 av : Option Addr) (m1 m2 mv c1 c2 cv : Nat) (l1 l2 v : List Int) (w : World) (h1 : SL w a1 m1 c1 l1) (h2 : SL w a2 m2 c2 l2) (hv : SL w av mv cv v) (g1 : ¬ 200 < m1) (g2 : ¬ 200 < m2) (g3 : ¬ 8 < mv) (z1 : IsZ mv l1) (z2 : IsZ mv l2) (hi0 : 1 ≤ i) (hi : i ≤ mv) (hj : j ≤ mv) (hp : hasB mv l1 v = true) (hq : hasB mv l2 v = false) : Calls Try.prog 6 #[.agg #[.int .i64 mv, .slice a1 m1 c1], .agg #[.int .i64 mv, .slice a2 m2 c2], .slice av mv cv, .int .i64 i, .int .i64 j, .int .i64 c] w (Gives (.bool true) w) := by
  have hvl : v.length = mv := hv.len.symm
  have g3i : ¬ (8 : Int) < (mv : Int) := by omega
  have htwo := Lib.hid (z1.two z2)
  have hvar : Hid ((decide (1 ≤ (i : Int)) && decide ((i : Int) ≤ (mv : Int))) = true) := Lib.hid (by simp; omega)
  have hor : Hid ((decide (0 ≤ (j : Int)) && decide ((j : Int) ≤ (mv : Int))) = true) := Lib.hid (by simp; omega)
  have H1 := Lib.hid h1
  have H2 := Lib.hid h2
  have HV := Lib.hid hv
  have zM : IsZ mv (meetL mv l1 l2) := meetL_isz z1 z2
  obtain ⟨mM, hmM⟩ : ∃ x, x = (meetL mv l1 l2).length := ⟨_, rfl⟩
  have rM : mM ≤ 81 := by rw [hmM]; exact zM.small
  have QM := Lib.hid (fun W (hW : Below w.heap.size w W) => (zmeet_ok a1 a2 m1 m2 c1 c2 l1 l2 mv z1 z2 W (H1.out.below hW) (H2.out.below hW)).mono (fun e w' h => ends_of (m := mM) hmM.symm (by omega) h))
  have fm := fact_meet z1 z2 hvl
  rw [hp, hq] at fm
  have QHM : Hid (∀ W a cz, SL W a mM cz (meetL mv l1 l2) → SL W av mv cv v → Calls Try.prog 35 #[.agg #[.int .i64 mv, .slice a mM cz], .slice av mv cv] W (Gives (.bool (false)) W)) := Lib.hid (fun W a cz hS hV => by have := has_any mv a mM cz _ av mv cv v W hS hV; rwa [fm, show (true && false) = false from rfl] at this)
  have zJ : IsZ mv (joinL mv l1 l2) := joinL_isz z1 z2
  obtain ⟨mJ, hmJ⟩ : ∃ x, x = (joinL mv l1 l2).length := ⟨_, rfl⟩
  have rJ : mJ ≤ 81 := by rw [hmJ]; exact zJ.small
  have QJ := Lib.hid (fun W (hW : Below w.heap.size w W) => (zjoin_ok a1 a2 m1 m2 c1 c2 l1 l2 mv z1 z2 W (H1.out.below hW) (H2.out.below hW)).mono (fun e w' h => ends_of (m := mJ) hmJ.symm (by omega) h))
  have zW : IsZ mv (widenL mv l1 l2) := widenL_isz z1 z2
  obtain ⟨mW, hmW⟩ : ∃ x, x = (widenL mv l1 l2).length := ⟨_, rfl⟩
  have rW : mW ≤ 81 := by rw [hmW]; exact zW.small
  have QW := Lib.hid (fun W (hW : Below w.heap.size w W) => (zwiden_ok a1 a2 m1 m2 c1 c2 l1 l2 mv z1 z2 W (H1.out.below hW) (H2.out.below hW)).mono (fun e w' h => ends_of (m := mW) hmW.symm (by omega) h))
  have fj := fact_join z1 z2 hvl (by rw [hp, hq]; rfl)
  have fw := fact_widen z1 z2 hvl (by rw [hp, hq]; rfl)
  have QHJ : Hid (∀ W a cz, SL W a mJ cz (joinL mv l1 l2) → SL W av mv cv v → Calls Try.prog 35 #[.agg #[.int .i64 mv, .slice a mJ cz], .slice av mv cv] W (Gives (.bool (true)) W)) := Lib.hid (fun W a cz hS hV => by have := has_any mv a mJ cz _ av mv cv v W hS hV; rwa [fj] at this)
  have QHW : Hid (∀ W a cz, SL W a mW cz (widenL mv l1 l2) → SL W av mv cv v → Calls Try.prog 35 #[.agg #[.int .i64 mv, .slice a mW cz], .slice av mv cv] W (Gives (.bool (true)) W)) := Lib.hid (fun W a cz hS hV => by have := has_any mv a mW cz _ av mv cv v W hS hV; rwa [fw] at this)
  have zL : IsZ mv (limitL mv l1 i j c) := limitL_isz z1.1 _ _ _ _
  obtain ⟨mL, hmL⟩ : ∃ x, x = (limitL mv l1 i j c).length := ⟨_, rfl⟩
  have rL : mL ≤ 81 := by rw [hmL]; exact zL.small
  have QL := Lib.hid (fun W (hW : Below w.heap.size w W) => (zlimit_ok mv l1 z1 i j (by omega) hj c a1 m1 c1 W (H1.out.below hW)).mono (fun e w' h => ends_of (m := mL) hmL.symm (by omega) h))
  have fl := fact_limit z1 hvl hi hj c
  rw [hp] at fl
  have QHL : Hid (∀ W a cz, SL W a mL cz (limitL mv l1 i j c) → SL W av mv cv v → Calls Try.prog 35 #[.agg #[.int .i64 mv, .slice a mL cz], .slice av mv cv] W (Gives (.bool (decide (valF v i - valF v j ≤ c))) W)) := Lib.hid (fun W a cz hS hV => by have := has_any mv a mL cz _ av mv cv v W hS hV; rwa [fl, Bool.true_and] at this)
  have zF : IsZ mv (forgetL mv l1 i) := forgetL_isz z1.1 _ _
  obtain ⟨mF, hmF⟩ : ∃ x, x = (forgetL mv l1 i).length := ⟨_, rfl⟩
  have rF : mF ≤ 81 := by rw [hmF]; exact zF.small
  have QF := Lib.hid (fun W (hW : Below w.heap.size w W) => (zforget_ok mv l1 z1 i hi0 hi a1 m1 c1 W (H1.out.below hW)).mono (fun e w' h => ends_of (m := mF) hmF.symm (by omega) h))
  have QI : Hid (∀ W a cz, SL W a mF cz (forgetL mv l1 i) → Calls Try.prog 24 #[.agg #[.int .i64 mv, .slice a mF cz], .int .i64 i] W (Gives (.tuple #[.agg #[.int .i64 (itvL mv (forgetL mv l1 i) i).1, .int .i64 (itvL mv (forgetL mv l1 i) i).2], .int .i64 0]) W)) := Lib.hid (fun W a cz hS => zitvL_any mv i hi _ zF a mF cz W hS)
  have fi := fact_itv z1 hvl hi0 hi hp
  rw [fi] at QI
  have ff := fact_forget z1 hvl hi0 hi hp (clipV c) (clipV_in c)
  have QHF : Hid (∀ W a cz b d, SL W a mF cz (forgetL mv l1 i) → SL W b mv d (withL v i (clipV c)) → Calls Try.prog 35 #[.agg #[.int .i64 mv, .slice a mF cz], .slice b mv d] W (Gives (.bool (true)) W)) := Lib.hid (fun W a cz b d hS hV => by have := has_any mv a mF cz _ b mv d _ W hS hV; rwa [ff] at this)
  have zZ : IsZ mv (letL mv l1 i j (clipV c)) := letL_isz z1.1 _ _ _ _
  obtain ⟨mZ, hmZ⟩ : ∃ x, x = (letL mv l1 i j (clipV c)).length := ⟨_, rfl⟩
  have rZ : mZ ≤ 81 := by rw [hmZ]; exact zZ.small
  have QZ := Lib.hid (fun W (hW : Below w.heap.size w W) => (zlet_ok mv l1 z1 i j hi0 hi hj (clipV c) a1 m1 c1 W (H1.out.below hW)).mono (fun e w' h => endsN_of (m := mZ) hmZ.symm (by omega) h))
  have fz := fact_let z1 hvl hi0 hi hj hp (clipV c)
  have QHZ : Hid (∀ W a cz b d, SL W a mZ cz (letL mv l1 i j (clipV c)) → SL W b mv d (withL v i (valF v j + clipV c)) → Calls Try.prog 35 #[.agg #[.int .i64 mv, .slice a mZ cz], .slice b mv d] W (Gives (.bool (!farB (valF v j + clipV c))) W)) := Lib.hid (fun W a cz b d hS hV => by have := has_any mv a mZ cz _ b mv d _ W hS hV; rwa [fz] at this)
  have QWf : Hid (∀ W, SL W av mv cv v → Calls Try.prog 42 #[.slice av mv cv, .int .i64 i, .int .i64 (clipV c)] W (SlG mv (withL v i (clipV c)) W)) := Lib.hid (fun W hV => lwith_any av v mv cv (by omega) i hi0 hi (clipV c) W hV)
  have QWz : Hid (∀ W, SL W av mv cv v → Calls Try.prog 42 #[.slice av mv cv, .int .i64 i, .int .i64 (valF v j + clipV c)] W (SlG mv (withL v i (valF v j + clipV c)) W)) := Lib.hid (fun W hV => lwith_any av v mv cv (by omega) i hi0 hi (valF v j + clipV c) W hV)
  have QVi := Lib.hid (fun W (hV : SL W av mv cv v) => lval_any av v mv cv hvl.symm (by omega) i hi W.heap.size W hV.sees)
  have QVj := Lib.hid (fun W (hV : SL W av mv cv v) => lval_any av v mv cv hvl.symm (by omega) j hj W.heap.size W hV.sees)
  have hfar := ((has_iff z1 hvl).1 hp).2.1
  have bi := val_in hfar i
  have bj := val_in hfar j
  have bc := clipV_in c
  have QC := Lib.hid (fun W => rclipV_any c W)
  have QS := Lib.hid (fun W => is_any (valF v j + clipV c) W)
  have QA := Lib.hid (fun W (hW : Below w.heap.size w W) => has_any mv a1 m1 c1 l1 av mv cv v W (H1.out.below hW) (HV.out.below hW))
  have QB := Lib.hid (fun W (hW : Below w.heap.size w W) => has_any mv a2 m2 c2 l2 av mv cv v W (H2.out.below hW) (HV.out.below hW))
  rw [hp] at QA
  rw [hq] at QB
  clear hp hq fm fj fw fl fi ff fz hfar zM hmM zJ hmJ zW hmW zL hmL zF hmF zZ hmZ
  clear z1 z2 hi0 hi hj hvl
  generalize meetL mv l1 l2 = LM at *
  generalize joinL mv l1 l2 = LJ at *
  generalize widenL mv l1 l2 = LW at *
  generalize limitL mv l1 i j c = LL at *
  generalize forgetL mv l1 i = LF at *
  generalize letL mv l1 i j (clipV c) = LZ at *
  generalize withL v i (clipV c) = vf at *
  generalize withL v i (valF v j + clipV c) = vz at *
  generalize valF v i = x at *
  generalize valF v j = y at *
  generalize clipV c = kc at *
  obtain ⟨W1, hW1⟩ : ∃ W1, W1 = (w.alloc (.cells #[.int .i64 mv, .slice a1 m1 c1] 24)).alloc (.cells #[.int .i64 mv, .slice a2 m2 c2] 24) := ⟨_, rfl⟩
  have Z1 : Hid (Holds W1 (w.heap.size) 24 #[.int .i64 mv, .slice a1 m1 c1]) := Lib.hid (by rw [hW1]; exact (Holds.new w _ _).alloc _)
  have Z2 : Hid (Holds W1 (w.heap.size + 1) 24 #[.int .i64 mv, .slice a2 m2 c2]) := Lib.hid (by rw [hW1]; have := Holds.new (w.alloc (.cells #[.int .i64 mv, .slice a1 m1 c1] 24)) 24 #[.int .i64 mv, .slice a2 m2 c2]; simpa using this)
  have BL := Lib.hid (show Below w.heap.size w W1 by rw [hW1]; exact box2_below _ _ _ _ _)
  have S1 := Lib.hid (h1.below BL.out)
  have S2 := Lib.hid (h2.below BL.out)
  have SV := Lib.hid (hv.below BL.out)
  have hW1' := Lib.hid hW1
  clear hW1
  clear h1 h2 hv
  go_enter Try.func6, Try.ntmps6
  have k1 := Z1.out.cell 0
  have k2 := Z1.out.cell 1
  have q := Lib.hid (by have := large_any a1 m1 c1 S1.out.max W1; rwa [decide_eq_false (show ¬ (200 : Int) < (m1 : Int) by omega)] at this)
  go_wp2_with fail
  rw [← hW1'.out]
  refine q.out.mono ?_
  rintro e u1 ⟨rfl, rfl⟩
  clear hW1'
  clear q
  clear k1 k2
  have k3 := Z2.out.cell 0
  have k4 := Z2.out.cell 1
  have q := Lib.hid (by have := large_any a2 m2 c2 S2.out.max W1; rwa [decide_eq_false (show ¬ (200 : Int) < (m2 : Int) by omega)] at this)
  go_wp2_with fail
  refine q.out.mono ?_
  rintro e u1 ⟨rfl, rfl⟩
  clear q
  clear k3 k4
  have k5 := Z1.out.cell 0
  have k6 := Z1.out.cell 1
  have k7 := Z2.out.cell 0
  have k8 := Z2.out.cell 1
  have q := Lib.hid (by have := rtwo_any mv mv a1 a2 m1 m2 c1 c2 l1 l2 W1 S1.out S2.out; rwa [htwo.out] at this)
  go_wp2_with fail
  refine q.out.mono ?_
  rintro e u2 ⟨rfl, b2⟩
  clear k5 k6 k7 k8
  clear q
  have k9 : u2.cell? ⟨w.heap.size, 0, none⟩ = some (.int .i64 mv) := (Z1.out.below b2 Z1.out.lt).cell 0
  have k10 : u2.cell? ⟨w.heap.size, 1, none⟩ = some (.slice a1 m1 c1) := (Z1.out.below b2 Z1.out.lt).cell 1
  replace Z1 := Lib.hid (Z1.out.below b2 Z1.out.lt)
  replace Z2 := Lib.hid (Z2.out.below b2 Z2.out.lt)
  replace BL := Lib.hid (BL.out.trans (b2.mono BL.out.size))
  replace S1 := Lib.hid (S1.out.below b2)
  replace S2 := Lib.hid (S2.out.below b2)
  replace SV := Lib.hid (SV.out.below b2)
  clear b2
  have q := Lib.hid (by have := rvar_any mv i a1 m1 c1 u2; rwa [hvar.out] at this)
  go_wp2_with fail
  refine q.out.mono ?_
  rintro e u3 ⟨rfl, b3⟩
  clear k9 k10
  clear q
  have k11 : u3.cell? ⟨w.heap.size, 0, none⟩ = some (.int .i64 mv) := (Z1.out.below b3 Z1.out.lt).cell 0
  have k12 : u3.cell? ⟨w.heap.size, 1, none⟩ = some (.slice a1 m1 c1) := (Z1.out.below b3 Z1.out.lt).cell 1
  replace Z1 := Lib.hid (Z1.out.below b3 Z1.out.lt)
  replace Z2 := Lib.hid (Z2.out.below b3 Z2.out.lt)
  replace BL := Lib.hid (BL.out.trans (b3.mono BL.out.size))
  replace S1 := Lib.hid (S1.out.below b3)
  replace S2 := Lib.hid (S2.out.below b3)
  replace SV := Lib.hid (SV.out.below b3)
  clear b3
  have q := Lib.hid (by have := ror0_any mv j a1 m1 c1 u3; rwa [hor.out] at this)
  go_wp2_with fail
  refine q.out.mono ?_
  rintro e u4 ⟨rfl, b4⟩
  clear k11 k12
  clear q
  have k13 : u4.cell? ⟨w.heap.size, 0, none⟩ = some (.int .i64 mv) := (Z1.out.below b4 Z1.out.lt).cell 0
  have k14 : u4.cell? ⟨w.heap.size, 1, none⟩ = some (.slice a1 m1 c1) := (Z1.out.below b4 Z1.out.lt).cell 1
  have k15 : u4.cell? ⟨w.heap.size + 1, 0, none⟩ = some (.int .i64 mv) := (Z2.out.below b4 Z2.out.lt).cell 0
  have k16 : u4.cell? ⟨w.heap.size + 1, 1, none⟩ = some (.slice a2 m2 c2) := (Z2.out.below b4 Z2.out.lt).cell 1
  replace Z1 := Lib.hid (Z1.out.below b4 Z1.out.lt)
  replace Z2 := Lib.hid (Z2.out.below b4 Z2.out.lt)
  replace BL := Lib.hid (BL.out.trans (b4.mono BL.out.size))
  replace S1 := Lib.hid (S1.out.below b4)
  replace S2 := Lib.hid (S2.out.below b4)
  replace SV := Lib.hid (SV.out.below b4)
  clear b4
  have q := Lib.hid (QM.out _ BL.out)
  go_wp2_with fail
  refine q.out.mono ?_
  rintro e v1 ⟨aM, dM, rfl, sM, bM⟩
  clear k13 k14 k15 k16
  clear q QM
  have k17 : v1.cell? ⟨w.heap.size, 0, none⟩ = some (.int .i64 mv) := (Z1.out.below bM Z1.out.lt).cell 0
  have k18 : v1.cell? ⟨w.heap.size, 1, none⟩ = some (.slice a1 m1 c1) := (Z1.out.below bM Z1.out.lt).cell 1
  have k19 : w.heap.size < v1.heap.size := (Z1.out.below bM Z1.out.lt).lt
  have k20 : v1.cell? ⟨w.heap.size + 1, 0, none⟩ = some (.int .i64 mv) := (Z2.out.below bM Z2.out.lt).cell 0
  have k21 : v1.cell? ⟨w.heap.size + 1, 1, none⟩ = some (.slice a2 m2 c2) := (Z2.out.below bM Z2.out.lt).cell 1
  have k22 : w.heap.size + 1 < v1.heap.size := (Z2.out.below bM Z2.out.lt).lt
  have B0 := box_below v1 #[.int .i64 mv, .slice aM mM dM] 24
  have B := bM.trans (B0.mono bM.size)
  replace Z1 := Lib.hid (Z1.out.below B Z1.out.lt)
  replace Z2 := Lib.hid (Z2.out.below B Z2.out.lt)
  replace BL := Lib.hid (BL.out.trans (B.mono BL.out.size))
  replace S1 := Lib.hid (S1.out.below B)
  replace S2 := Lib.hid (S2.out.below B)
  replace SV := Lib.hid (SV.out.below B)
  have ZM := Lib.hid (Holds.new v1 24 #[.int .i64 mv, .slice aM mM dM])
  have TM := Lib.hid (sM.below B0)
  clear bM B B0 sM
  have q := Lib.hid (QJ.out _ BL.out)
  go_wp2_with fail
  refine q.out.mono ?_
  rintro e v2 ⟨aJ, dJ, rfl, sJ, bJ⟩
  clear k17 k18 k19 k20 k21 k22
  clear q QJ
  have k23 : v2.cell? ⟨w.heap.size, 0, none⟩ = some (.int .i64 mv) := (Z1.out.below bJ Z1.out.lt).cell 0
  have k24 : v2.cell? ⟨w.heap.size, 1, none⟩ = some (.slice a1 m1 c1) := (Z1.out.below bJ Z1.out.lt).cell 1
  have k25 : w.heap.size < v2.heap.size := (Z1.out.below bJ Z1.out.lt).lt
  have k26 : v2.cell? ⟨w.heap.size + 1, 0, none⟩ = some (.int .i64 mv) := (Z2.out.below bJ Z2.out.lt).cell 0
  have k27 : v2.cell? ⟨w.heap.size + 1, 1, none⟩ = some (.slice a2 m2 c2) := (Z2.out.below bJ Z2.out.lt).cell 1
  have k28 : w.heap.size + 1 < v2.heap.size := (Z2.out.below bJ Z2.out.lt).lt
  have B0 := box_below v2 #[.int .i64 mv, .slice aJ mJ dJ] 24
  have B := bJ.trans (B0.mono bJ.size)
  replace Z1 := Lib.hid (Z1.out.below B Z1.out.lt)
  replace Z2 := Lib.hid (Z2.out.below B Z2.out.lt)
  replace ZM := Lib.hid (ZM.out.below B ZM.out.lt)
  replace BL := Lib.hid (BL.out.trans (B.mono BL.out.size))
  replace S1 := Lib.hid (S1.out.below B)
  replace S2 := Lib.hid (S2.out.below B)
  replace SV := Lib.hid (SV.out.below B)
  replace TM := Lib.hid (TM.out.below B)
  have ZJ := Lib.hid (Holds.new v2 24 #[.int .i64 mv, .slice aJ mJ dJ])
  have TJ := Lib.hid (sJ.below B0)
  clear bJ B B0 sJ
  have q := Lib.hid (QW.out _ BL.out)
  go_wp2_with fail
  refine q.out.mono ?_
  rintro e v3 ⟨aW, dW, rfl, sW, bW⟩
  clear k23 k24 k25 k26 k27 k28
  clear q QW
  have k29 : v3.cell? ⟨w.heap.size, 0, none⟩ = some (.int .i64 mv) := (Z1.out.below bW Z1.out.lt).cell 0
  have k30 : v3.cell? ⟨w.heap.size, 1, none⟩ = some (.slice a1 m1 c1) := (Z1.out.below bW Z1.out.lt).cell 1
  have k31 : w.heap.size < v3.heap.size := (Z1.out.below bW Z1.out.lt).lt
  have B0 := box_below v3 #[.int .i64 mv, .slice aW mW dW] 24
  have B := bW.trans (B0.mono bW.size)
  replace Z1 := Lib.hid (Z1.out.below B Z1.out.lt)
  replace Z2 := Lib.hid (Z2.out.below B Z2.out.lt)
  replace ZM := Lib.hid (ZM.out.below B ZM.out.lt)
  replace ZJ := Lib.hid (ZJ.out.below B ZJ.out.lt)
  replace BL := Lib.hid (BL.out.trans (B.mono BL.out.size))
  replace S1 := Lib.hid (S1.out.below B)
  replace S2 := Lib.hid (S2.out.below B)
  replace SV := Lib.hid (SV.out.below B)
  replace TM := Lib.hid (TM.out.below B)
  replace TJ := Lib.hid (TJ.out.below B)
  have ZW := Lib.hid (Holds.new v3 24 #[.int .i64 mv, .slice aW mW dW])
  have TW := Lib.hid (sW.below B0)
  clear bW B B0 sW
  have q := Lib.hid (QL.out _ BL.out)
  go_wp2_with fail
  refine q.out.mono ?_
  rintro e v4 ⟨aL, dL, rfl, sL, bL⟩
  clear k29 k30 k31
  clear q QL
  have B0 := box_below v4 #[.int .i64 mv, .slice aL mL dL] 24
  have B := bL.trans (B0.mono bL.size)
  replace Z1 := Lib.hid (Z1.out.below B Z1.out.lt)
  replace Z2 := Lib.hid (Z2.out.below B Z2.out.lt)
  replace ZM := Lib.hid (ZM.out.below B ZM.out.lt)
  replace ZJ := Lib.hid (ZJ.out.below B ZJ.out.lt)
  replace ZW := Lib.hid (ZW.out.below B ZW.out.lt)
  replace BL := Lib.hid (BL.out.trans (B.mono BL.out.size))
  replace S1 := Lib.hid (S1.out.below B)
  replace S2 := Lib.hid (S2.out.below B)
  replace SV := Lib.hid (SV.out.below B)
  replace TM := Lib.hid (TM.out.below B)
  replace TJ := Lib.hid (TJ.out.below B)
  replace TW := Lib.hid (TW.out.below B)
  have ZL := Lib.hid (Holds.new v4 24 #[.int .i64 mv, .slice aL mL dL])
  have TL := Lib.hid (sL.below B0)
  clear bL B B0 sL
  go_wp2
  generalize (v4.alloc (.cells #[.int .i64 mv, .slice aL mL dL] 24)) = V7 at *
  have k32 : ∀ W, Below V7.heap.size V7 W → W.cell? ⟨w.heap.size, 0, none⟩ = some (.int .i64 mv) := fun W hW => (Z1.out.below hW Z1.out.lt).cell 0
  have k33 : ∀ W, Below V7.heap.size V7 W → W.cell? ⟨w.heap.size, 1, none⟩ = some (.slice a1 m1 c1) := fun W hW => (Z1.out.below hW Z1.out.lt).cell 1
  have k34 : ∀ W, Below V7.heap.size V7 W → W.cell? ⟨w.heap.size + 1, 0, none⟩ = some (.int .i64 mv) := fun W hW => (Z2.out.below hW Z2.out.lt).cell 0
  have k35 : ∀ W, Below V7.heap.size V7 W → W.cell? ⟨w.heap.size + 1, 1, none⟩ = some (.slice a2 m2 c2) := fun W hW => (Z2.out.below hW Z2.out.lt).cell 1
  have ht : Hid (∀ W, Below V7.heap.size V7 W → Below w.heap.size w W) := Lib.hid (fun W hW => BL.out.trans (hW.mono BL.out.size))
  refine wp_drawn_on (fun W => Below V7.heap.size V7 W) (by kernel_rfl) (below_drew (Below.refl _ _)) (fun hHeld => ?_)
  refine wpAnyH_take (i := 0) (oi := { dst := some 95, op := Go.Op.load 24 (Go.Operand.tmp 6), type := 24, pos := "law.go:129", after := #[], guard := none }) (v := ?v1) rfl (by kernel_rfl) (by kernel_rfl) (by kernel_rfl) (fun _ _ _ h => h) (Or.inl ⟨by kernel_rfl, ?h1⟩) (by assumption) ?r1
  case h1 => (intro w hSw; (try dsimp only at hSw); go_simp; try with_reducible rfl)
  try simp only [Act.put, List.setIfInBounds_toArray, List.set_cons_zero, List.set_cons_succ]
  refine wpAnyH_take (i := 1) (oi := { dst := some 96, op := Go.Op.move (Go.Operand.tmp 2), type := 22, pos := "law.go:129", after := #[], guard := none }) (v := ?v2) rfl (by kernel_rfl) (by kernel_rfl) (by kernel_rfl) (fun _ _ _ h => h) (Or.inl ⟨by kernel_rfl, ?h2⟩) (by assumption) ?r2
  case h2 => (intro w hSw; (try dsimp only at hSw); go_simp; try with_reducible rfl)
  try simp only [Act.put, List.setIfInBounds_toArray, List.set_cons_zero, List.set_cons_succ]
  refine wpAnyH_take (i := 3) (oi := { dst := some 98, op := Go.Op.load 24 (Go.Operand.tmp 7), type := 24, pos := "law.go:129", after := #[], guard := none }) (v := ?v3) rfl (by kernel_rfl) (by kernel_rfl) (by kernel_rfl) (fun _ _ _ h => h) (Or.inl ⟨by kernel_rfl, ?h3⟩) (by assumption) ?r3
  case h3 => (intro w hSw; (try dsimp only at hSw); go_simp; try with_reducible rfl)
  try simp only [Act.put, List.setIfInBounds_toArray, List.set_cons_zero, List.set_cons_succ]
  refine wpAnyH_take (i := 4) (oi := { dst := some 99, op := Go.Op.move (Go.Operand.tmp 2), type := 22, pos := "law.go:129", after := #[], guard := none }) (v := ?v4) rfl (by kernel_rfl) (by kernel_rfl) (by kernel_rfl) (fun _ _ _ h => h) (Or.inl ⟨by kernel_rfl, ?h4⟩) (by assumption) ?r4
  case h4 => (intro w hSw; (try dsimp only at hSw); go_simp; try with_reducible rfl)
  try simp only [Act.put, List.setIfInBounds_toArray, List.set_cons_zero, List.set_cons_succ]
  refine wpAnyH_ready (rs := [2]) (by kernel_rfl) (by simp) ?_
  refine AllReadyH.cons (o := { dst := some 97, op := Go.Op.call { callee := Go.Callee.value (Go.Operand.func 35), args := #[Go.Operand.tmp 95, Go.Operand.tmp 96], argTypes := #[24, 22] }, type := 4, pos := "law.go:129", after := #[{ on := 0, ground := Go.Ground.data }, { on := 1, ground := Go.Ground.data }], guard := none }) rfl (fun K hK => ?_) AllReadyH.nil
  go_simp
  refine (QA.out _ (ht.out _ hHeld)).mono ?_
  rintro e u7 ⟨rfl, b2⟩
  go_simp
  refine hK.out _ _ (hHeld.trans (b2.mono hHeld.size)) (fun hHeld => ?_)
  clear hK K
  try simp only [Act.put, List.setIfInBounds_toArray, List.set_cons_zero, List.set_cons_succ]
  refine wpAnyH_ready (rs := [5]) (by kernel_rfl) (by simp) ?_
  refine AllReadyH.cons (o := { dst := some 100, op := Go.Op.call { callee := Go.Callee.value (Go.Operand.func 35), args := #[Go.Operand.tmp 98, Go.Operand.tmp 99], argTypes := #[24, 22] }, type := 4, pos := "law.go:129", after := #[{ on := 3, ground := Go.Ground.data }, { on := 4, ground := Go.Ground.data }, { on := 2, ground := Go.Ground.chain }], guard := none }) rfl (fun K hK => ?_) AllReadyH.nil
  go_simp
  refine (QB.out _ (ht.out _ hHeld)).mono ?_
  rintro e u8 ⟨rfl, b5⟩
  go_simp
  refine hK.out _ _ (hHeld.trans (b5.mono hHeld.size)) (fun hHeld => ?_)
  clear hK K
  try simp only [Act.put, List.setIfInBounds_toArray, List.set_cons_zero, List.set_cons_succ]
  refine wpAnyH_take (i := 6) (oi := { dst := some 21, op := Go.Op.assign (Go.Operand.tmp 97), type := 4, pos := "law.go:129", after := #[{ on := 2, ground := Go.Ground.data }, { on := 5, ground := Go.Ground.chain }, { on := 0, ground := Go.Ground.phase }, { on := 1, ground := Go.Ground.phase }, { on := 2, ground := Go.Ground.phase }, { on := 3, ground := Go.Ground.textOnly Go.Departure.lateStores }, { on := 4, ground := Go.Ground.textOnly Go.Departure.lateStores }, { on := 5, ground := Go.Ground.textOnly Go.Departure.lateStoresUnsure }], guard := none }) (v := ?v5) rfl (by kernel_rfl) (by kernel_rfl) (by kernel_rfl) (fun _ _ _ h => h) (Or.inl ⟨by kernel_rfl, ?h5⟩) (by assumption) ?r5
  case h5 => (intro w hSw; (try dsimp only at hSw); go_simp; try with_reducible rfl)
  try simp only [Act.put, List.setIfInBounds_toArray, List.set_cons_zero, List.set_cons_succ]
  refine wpAnyH_take (i := 7) (oi := { dst := some 22, op := Go.Op.assign (Go.Operand.tmp 100), type := 4, pos := "law.go:129", after := #[{ on := 5, ground := Go.Ground.data }, { on := 6, ground := Go.Ground.chain }, { on := 0, ground := Go.Ground.phase }, { on := 1, ground := Go.Ground.phase }, { on := 2, ground := Go.Ground.phase }, { on := 3, ground := Go.Ground.phase }, { on := 4, ground := Go.Ground.phase }, { on := 5, ground := Go.Ground.phase }, { on := 6, ground := Go.Ground.phase }], guard := none }) (v := ?v6) rfl (by kernel_rfl) (by kernel_rfl) (by kernel_rfl) (fun _ _ _ h => h) (Or.inl ⟨by kernel_rfl, ?h6⟩) (by assumption) ?r6
  case h6 => (intro w hSw; (try dsimp only at hSw); go_simp; try with_reducible rfl)
  try simp only [Act.put, List.setIfInBounds_toArray, List.set_cons_zero, List.set_cons_succ]
  refine wpAnyH_done (by kernel_rfl) ?_ _
  clear k32 k33 k34 k35
  replace Z1 := Lib.hid (Z1.out.below hHeld Z1.out.lt)
  replace Z2 := Lib.hid (Z2.out.below hHeld Z2.out.lt)
  replace ZM := Lib.hid (ZM.out.below hHeld ZM.out.lt)
  replace ZJ := Lib.hid (ZJ.out.below hHeld ZJ.out.lt)
  replace ZW := Lib.hid (ZW.out.below hHeld ZW.out.lt)
  replace ZL := Lib.hid (ZL.out.below hHeld ZL.out.lt)
  replace BL := Lib.hid (BL.out.trans (hHeld.mono BL.out.size))
  replace S1 := Lib.hid (S1.out.below hHeld)
  replace S2 := Lib.hid (S2.out.below hHeld)
  replace SV := Lib.hid (SV.out.below hHeld)
  replace TM := Lib.hid (TM.out.below hHeld)
  replace TJ := Lib.hid (TJ.out.below hHeld)
  replace TW := Lib.hid (TW.out.below hHeld)
  replace TL := Lib.hid (TL.out.below hHeld)
  clear hHeld ht QA QB
  have q := Lib.hid (zlivesAt w _ BL.out)
  go_wp2_with fail
  refine q.out.mono ?_
  rintro e v9 ⟨rfl, b9, -⟩
  clear q
  have k36 : v9.cell? ⟨v1.heap.size, 0, none⟩ = some (.int .i64 mv) := (ZM.out.below b9 ZM.out.lt).cell 0
  have k37 : v9.cell? ⟨v1.heap.size, 1, none⟩ = some (.slice aM mM dM) := (ZM.out.below b9 ZM.out.lt).cell 1
  replace Z1 := Lib.hid (Z1.out.below b9 Z1.out.lt)
  replace Z2 := Lib.hid (Z2.out.below b9 Z2.out.lt)
  replace ZM := Lib.hid (ZM.out.below b9 ZM.out.lt)
  replace ZJ := Lib.hid (ZJ.out.below b9 ZJ.out.lt)
  replace ZW := Lib.hid (ZW.out.below b9 ZW.out.lt)
  replace ZL := Lib.hid (ZL.out.below b9 ZL.out.lt)
  replace BL := Lib.hid (BL.out.trans (b9.mono BL.out.size))
  replace S1 := Lib.hid (S1.out.below b9)
  replace S2 := Lib.hid (S2.out.below b9)
  replace SV := Lib.hid (SV.out.below b9)
  replace TM := Lib.hid (TM.out.below b9)
  replace TJ := Lib.hid (TJ.out.below b9)
  replace TW := Lib.hid (TW.out.below b9)
  replace TL := Lib.hid (TL.out.below b9)
  clear b9
  have q := Lib.hid (QHM.out _ aM dM TM.out SV.out)
  go_wp2_with fail
  refine q.out.mono ?_
  rintro e v10 ⟨rfl, b10⟩
  clear k36 k37
  clear q QHM
  have k38 : v10.cell? ⟨v2.heap.size, 0, none⟩ = some (.int .i64 mv) := (ZJ.out.below b10 ZJ.out.lt).cell 0
  have k39 : v10.cell? ⟨v2.heap.size, 1, none⟩ = some (.slice aJ mJ dJ) := (ZJ.out.below b10 ZJ.out.lt).cell 1
  replace Z1 := Lib.hid (Z1.out.below b10 Z1.out.lt)
  replace Z2 := Lib.hid (Z2.out.below b10 Z2.out.lt)
  replace ZM := Lib.hid (ZM.out.below b10 ZM.out.lt)
  replace ZJ := Lib.hid (ZJ.out.below b10 ZJ.out.lt)
  replace ZW := Lib.hid (ZW.out.below b10 ZW.out.lt)
  replace ZL := Lib.hid (ZL.out.below b10 ZL.out.lt)
  replace BL := Lib.hid (BL.out.trans (b10.mono BL.out.size))
  replace S1 := Lib.hid (S1.out.below b10)
  replace S2 := Lib.hid (S2.out.below b10)
  replace SV := Lib.hid (SV.out.below b10)
  replace TM := Lib.hid (TM.out.below b10)
  replace TJ := Lib.hid (TJ.out.below b10)
  replace TW := Lib.hid (TW.out.below b10)
  replace TL := Lib.hid (TL.out.below b10)
  clear b10
  have q := Lib.hid (QHJ.out _ aJ dJ TJ.out SV.out)
  go_wp2_with fail
  refine q.out.mono ?_
  rintro e v11 ⟨rfl, b11⟩
  clear k38 k39
  clear q QHJ
  have k40 : v11.cell? ⟨v3.heap.size, 0, none⟩ = some (.int .i64 mv) := (ZW.out.below b11 ZW.out.lt).cell 0
  have k41 : v11.cell? ⟨v3.heap.size, 1, none⟩ = some (.slice aW mW dW) := (ZW.out.below b11 ZW.out.lt).cell 1
  replace Z1 := Lib.hid (Z1.out.below b11 Z1.out.lt)
  replace Z2 := Lib.hid (Z2.out.below b11 Z2.out.lt)
  replace ZM := Lib.hid (ZM.out.below b11 ZM.out.lt)
  replace ZJ := Lib.hid (ZJ.out.below b11 ZJ.out.lt)
  replace ZW := Lib.hid (ZW.out.below b11 ZW.out.lt)
  replace ZL := Lib.hid (ZL.out.below b11 ZL.out.lt)
  replace BL := Lib.hid (BL.out.trans (b11.mono BL.out.size))
  replace S1 := Lib.hid (S1.out.below b11)
  replace S2 := Lib.hid (S2.out.below b11)
  replace SV := Lib.hid (SV.out.below b11)
  replace TM := Lib.hid (TM.out.below b11)
  replace TJ := Lib.hid (TJ.out.below b11)
  replace TW := Lib.hid (TW.out.below b11)
  replace TL := Lib.hid (TL.out.below b11)
  clear b11
  have q := Lib.hid (QHW.out _ aW dW TW.out SV.out)
  go_wp2_with fail
  refine q.out.mono ?_
  rintro e v12 ⟨rfl, b12⟩
  clear k40 k41
  clear q QHW
  have k42 : v12.cell? ⟨v4.heap.size, 0, none⟩ = some (.int .i64 mv) := (ZL.out.below b12 ZL.out.lt).cell 0
  have k43 : v12.cell? ⟨v4.heap.size, 1, none⟩ = some (.slice aL mL dL) := (ZL.out.below b12 ZL.out.lt).cell 1
  replace Z1 := Lib.hid (Z1.out.below b12 Z1.out.lt)
  replace Z2 := Lib.hid (Z2.out.below b12 Z2.out.lt)
  replace ZM := Lib.hid (ZM.out.below b12 ZM.out.lt)
  replace ZJ := Lib.hid (ZJ.out.below b12 ZJ.out.lt)
  replace ZW := Lib.hid (ZW.out.below b12 ZW.out.lt)
  replace ZL := Lib.hid (ZL.out.below b12 ZL.out.lt)
  replace BL := Lib.hid (BL.out.trans (b12.mono BL.out.size))
  replace S1 := Lib.hid (S1.out.below b12)
  replace S2 := Lib.hid (S2.out.below b12)
  replace SV := Lib.hid (SV.out.below b12)
  replace TM := Lib.hid (TM.out.below b12)
  replace TJ := Lib.hid (TJ.out.below b12)
  replace TW := Lib.hid (TW.out.below b12)
  replace TL := Lib.hid (TL.out.below b12)
  clear b12
  have q := Lib.hid (QHL.out _ aL dL TL.out SV.out)
  go_wp2_with fail
  refine q.out.mono ?_
  rintro e v13 ⟨rfl, b13⟩
  clear k42 k43
  clear q QHL
  have k44 : v13.cell? ⟨w.heap.size, 0, none⟩ = some (.int .i64 mv) := (Z1.out.below b13 Z1.out.lt).cell 0
  have k45 : v13.cell? ⟨w.heap.size, 1, none⟩ = some (.slice a1 m1 c1) := (Z1.out.below b13 Z1.out.lt).cell 1
  replace Z1 := Lib.hid (Z1.out.below b13 Z1.out.lt)
  replace Z2 := Lib.hid (Z2.out.below b13 Z2.out.lt)
  replace ZM := Lib.hid (ZM.out.below b13 ZM.out.lt)
  replace ZJ := Lib.hid (ZJ.out.below b13 ZJ.out.lt)
  replace ZW := Lib.hid (ZW.out.below b13 ZW.out.lt)
  replace ZL := Lib.hid (ZL.out.below b13 ZL.out.lt)
  replace BL := Lib.hid (BL.out.trans (b13.mono BL.out.size))
  replace S1 := Lib.hid (S1.out.below b13)
  replace S2 := Lib.hid (S2.out.below b13)
  replace SV := Lib.hid (SV.out.below b13)
  replace TM := Lib.hid (TM.out.below b13)
  replace TJ := Lib.hid (TJ.out.below b13)
  replace TW := Lib.hid (TW.out.below b13)
  replace TL := Lib.hid (TL.out.below b13)
  clear b13
  have q := Lib.hid (QVi.out _ SV.out)
  go_wp2_with fail
  refine q.out.mono ?_
  rintro e u1 ⟨rfl, rfl⟩
  clear q
  have q := Lib.hid (QVj.out _ SV.out)
  go_wp2_with fail
  refine q.out.mono ?_
  rintro e u1 ⟨rfl, rfl⟩
  clear q
  have q := Lib.hid (QF.out _ BL.out)
  go_wp2_with fail
  refine q.out.mono ?_
  rintro e v14 ⟨aF, dF, rfl, sF, bF⟩
  clear k44 k45
  clear q QF
  have B0 := box_below v14 #[.int .i64 mv, .slice aF mF dF] 24
  have B := bF.trans (B0.mono bF.size)
  replace Z1 := Lib.hid (Z1.out.below B Z1.out.lt)
  replace Z2 := Lib.hid (Z2.out.below B Z2.out.lt)
  replace ZM := Lib.hid (ZM.out.below B ZM.out.lt)
  replace ZJ := Lib.hid (ZJ.out.below B ZJ.out.lt)
  replace ZW := Lib.hid (ZW.out.below B ZW.out.lt)
  replace ZL := Lib.hid (ZL.out.below B ZL.out.lt)
  replace BL := Lib.hid (BL.out.trans (B.mono BL.out.size))
  replace S1 := Lib.hid (S1.out.below B)
  replace S2 := Lib.hid (S2.out.below B)
  replace SV := Lib.hid (SV.out.below B)
  replace TM := Lib.hid (TM.out.below B)
  replace TJ := Lib.hid (TJ.out.below B)
  replace TW := Lib.hid (TW.out.below B)
  replace TL := Lib.hid (TL.out.below B)
  have ZF := Lib.hid (Holds.new v14 24 #[.int .i64 mv, .slice aF mF dF])
  have TF := Lib.hid (sF.below B0)
  clear bF B B0 sF
  have q := Lib.hid (QI.out _ aF dF TF.out)
  go_wp2_with fail
  refine q.out.mono ?_
  rintro e v15 ⟨rfl, b15⟩
  clear q QI
  have B0 := box_below v15 #[.int .i64 (-1099511627776), .int .i64 1099511627776] 38
  have B := b15.trans (B0.mono b15.size)
  replace Z1 := Lib.hid (Z1.out.below B Z1.out.lt)
  replace Z2 := Lib.hid (Z2.out.below B Z2.out.lt)
  replace ZM := Lib.hid (ZM.out.below B ZM.out.lt)
  replace ZJ := Lib.hid (ZJ.out.below B ZJ.out.lt)
  replace ZW := Lib.hid (ZW.out.below B ZW.out.lt)
  replace ZL := Lib.hid (ZL.out.below B ZL.out.lt)
  replace ZF := Lib.hid (ZF.out.below B ZF.out.lt)
  replace BL := Lib.hid (BL.out.trans (B.mono BL.out.size))
  replace S1 := Lib.hid (S1.out.below B)
  replace S2 := Lib.hid (S2.out.below B)
  replace SV := Lib.hid (SV.out.below B)
  replace TM := Lib.hid (TM.out.below B)
  replace TJ := Lib.hid (TJ.out.below B)
  replace TW := Lib.hid (TW.out.below B)
  replace TL := Lib.hid (TL.out.below B)
  replace TF := Lib.hid (TF.out.below B)
  have ZI := Lib.hid (Holds.new v15 38 #[.int .i64 (-1099511627776), .int .i64 1099511627776])
  clear b15 B B0
  have q := Lib.hid (QVj.out _ SV.out)
  go_wp2_with fail
  refine q.out.mono ?_
  rintro e u1 ⟨rfl, rfl⟩
  clear q
  have q := Lib.hid (QC.out (v15.alloc (.cells #[.int .i64 (-1099511627776), .int .i64 1099511627776] 38)))
  go_wp2_with fail
  refine q.out.mono ?_
  rintro e u1 ⟨rfl, rfl⟩
  clear q
  go_upto_region 17 with fail
  generalize (v15.alloc (.cells #[.int .i64 (-1099511627776), .int .i64 1099511627776] 38)) = V8 at *
  go_cut [28] (fun s28 wx => ∃ gz aZ dZ, s28 = .pointer (some ⟨gz, 0, none⟩) ∧ Below V8.heap.size V8 wx ∧ Holds wx gz 24 #[.int .i64 mv, .slice aZ mZ dZ] ∧ SL wx aZ mZ dZ LZ)
  case first =>
    have k201 : ∀ W, Below V8.heap.size V8 W → W.cell? ⟨w.heap.size, 0, none⟩ = some (.int .i64 mv) := fun W hW => (Z1.out.below hW Z1.out.lt).cell 0
    have k202 : ∀ W, Below V8.heap.size V8 W → W.cell? ⟨w.heap.size, 1, none⟩ = some (.slice a1 m1 c1) := fun W hW => (Z1.out.below hW Z1.out.lt).cell 1
    have ht : Hid (∀ W, Below V8.heap.size V8 W → Below w.heap.size w W) := Lib.hid (fun W hW => BL.out.trans (hW.mono BL.out.size))
    have hsz : V8.heap.size ≤ V8.drew.heap.size := Nat.le_refl _
    have hall : Below V8.heap.size V8 V8.drew := (Below.refl _ _).drew
    refine wp_drawn_on (fun W => Below V8.heap.size V8 W) (by kernel_rfl) (below_drew (Below.refl _ _)) (fun hHeld => ?_)
    generalize V8.drew = u0 at hsz hall hHeld ⊢
    refine wpAnyH_take (i := 0) (oi := { dst := some 168, op := Go.Op.load 24 (Go.Operand.tmp 6), type := 24, pos := "law.go:142", after := #[], guard := none }) (v := ?v7) rfl (by kernel_rfl) (by kernel_rfl) (by kernel_rfl) (fun _ _ _ h => h) (Or.inl ⟨by kernel_rfl, ?h7⟩) (by assumption) ?r7
    case h7 => (intro w hSw; (try dsimp only at hSw); go_simp; try with_reducible rfl)
    try simp only [Act.put, List.setIfInBounds_toArray, List.set_cons_zero, List.set_cons_succ]
    refine wpAnyH_take (i := 1) (oi := { dst := some 169, op := Go.Op.move (Go.Operand.tmp 3), type := 3, pos := "law.go:142", after := #[], guard := none }) (v := ?v8) rfl (by kernel_rfl) (by kernel_rfl) (by kernel_rfl) (fun _ _ _ h => h) (Or.inl ⟨by kernel_rfl, ?h8⟩) (by assumption) ?r8
    case h8 => (intro w hSw; (try dsimp only at hSw); go_simp; try with_reducible rfl)
    try simp only [Act.put, List.setIfInBounds_toArray, List.set_cons_zero, List.set_cons_succ]
    refine wpAnyH_take (i := 2) (oi := { dst := some 170, op := Go.Op.move (Go.Operand.tmp 4), type := 3, pos := "law.go:142", after := #[], guard := none }) (v := ?v9) rfl (by kernel_rfl) (by kernel_rfl) (by kernel_rfl) (fun _ _ _ h => h) (Or.inl ⟨by kernel_rfl, ?h9⟩) (by assumption) ?r9
    case h9 => (intro w hSw; (try dsimp only at hSw); go_simp; try with_reducible rfl)
    try simp only [Act.put, List.setIfInBounds_toArray, List.set_cons_zero, List.set_cons_succ]
    refine wpAnyH_take (i := 3) (oi := { dst := some 171, op := Go.Op.move (Go.Operand.tmp 5), type := 3, pos := "law.go:142", after := #[], guard := none }) (v := ?v10) rfl (by kernel_rfl) (by kernel_rfl) (by kernel_rfl) (fun _ _ _ h => h) (Or.inl ⟨by kernel_rfl, ?h10⟩) (by assumption) ?r10
    case h10 => (intro w hSw; (try dsimp only at hSw); go_simp; try with_reducible rfl)
    try simp only [Act.put, List.setIfInBounds_toArray, List.set_cons_zero, List.set_cons_succ]
    refine wpAnyH_ready (rs := [4, 9]) (by kernel_rfl) (by simp) ?_
    refine AllReadyH.cons (o := { dst := some 172, op := Go.Op.call { callee := Go.Callee.value (Go.Operand.func 40), args := #[Go.Operand.tmp 171], argTypes := #[3] }, type := 3, pos := "law.go:142", after := #[{ on := 3, ground := Go.Ground.data }], guard := none }) rfl (fun K hK => ?_) (AllReadyH.cons (o := { dst := some 28, op := Go.Op.alloc 24, type := 0, pos := "law.go:142", after := #[], guard := none }) rfl (fun K hK => ?_) AllReadyH.nil)
    · go_simp
      refine (QC.out _).mono ?_
      rintro e u4 ⟨rfl, rfl⟩
      go_simp
      refine hK.out _ _ (hHeld) (fun hHeld => ?_)
      clear hK K
      try simp only [Act.put, List.setIfInBounds_toArray, List.set_cons_zero, List.set_cons_succ]
      refine wpAnyH_ready (rs := [5, 9]) (by kernel_rfl) (by simp) ?_
      refine AllReadyH.cons (o := { dst := some 173, op := Go.Op.call { callee := Go.Callee.value (Go.Operand.func 23), args := #[Go.Operand.tmp 168, Go.Operand.tmp 169, Go.Operand.tmp 170, Go.Operand.tmp 172], argTypes := #[24, 3, 3, 3] }, type := 31, pos := "law.go:142", after := #[{ on := 0, ground := Go.Ground.data }, { on := 1, ground := Go.Ground.data }, { on := 2, ground := Go.Ground.data }, { on := 4, ground := Go.Ground.data }, { on := 4, ground := Go.Ground.chain }], guard := none }) rfl (fun K hK => ?_) (AllReadyH.cons (o := { dst := some 28, op := Go.Op.alloc 24, type := 0, pos := "law.go:142", after := #[], guard := none }) rfl (fun K hK => ?_) AllReadyH.nil)
      · go_simp
        refine (QZ.out _ (ht.out _ hHeld)).mono ?_
        rintro e u5 ⟨aZ, dZ, rfl, sZ, bZ, nZ⟩
        have hx5 := hHeld.trans (bZ.mono hHeld.size)
        first | (have hfz := new_far (l := LZ) nZ za.lt; replace za := za.below bZ za.lt) | skip
        clear nZ bZ
        go_simp
        refine hK.out _ _ (hx5) (fun hHeld => ?_)
        clear hK K
        try simp only [Act.put, List.setIfInBounds_toArray, List.set_cons_zero, List.set_cons_succ]
        refine wpAnyH_take (i := 6) (oi := { dst := some 167, op := Go.Op.move (Go.Operand.tmp 173), type := 31, pos := "law.go:142", after := #[{ on := 5, ground := Go.Ground.data }], guard := none }) (v := ?v11) rfl (by kernel_rfl) (by kernel_rfl) (by kernel_rfl) (fun _ _ _ h => h) (Or.inl ⟨by kernel_rfl, ?h11⟩) (by assumption) ?r11
        case h11 => (intro w hSw; (try dsimp only at hSw); go_simp; try with_reducible rfl)
        try simp only [Act.put, List.setIfInBounds_toArray, List.set_cons_zero, List.set_cons_succ]
        refine wpAnyH_take (i := 7) (oi := { dst := some 174, op := Go.Op.extract (Go.Operand.tmp 167) 0, type := 24, pos := "law.go:142", after := #[{ on := 6, ground := Go.Ground.data }], guard := none }) (v := ?v12) rfl (by kernel_rfl) (by kernel_rfl) (by kernel_rfl) (fun _ _ _ h => h) (Or.inl ⟨by kernel_rfl, ?h12⟩) (by assumption) ?r12
        case h12 => (intro w hSw; (try dsimp only at hSw); go_simp; try with_reducible rfl)
        try simp only [Act.put, List.setIfInBounds_toArray, List.set_cons_zero, List.set_cons_succ]
        refine wpAnyH_take (i := 8) (oi := { dst := some 175, op := Go.Op.extract (Go.Operand.tmp 167) 1, type := 27, pos := "law.go:142", after := #[{ on := 6, ground := Go.Ground.data }, { on := 10, ground := Go.Ground.gcOnly Go.Departure.lateStores }], guard := none }) (v := ?v13) rfl (by kernel_rfl) (by kernel_rfl) (by kernel_rfl) (fun _ _ _ h => h) (Or.inl ⟨by kernel_rfl, ?h13⟩) (by assumption) ?r13
        case h13 => (intro w hSw; (try dsimp only at hSw); go_simp; try with_reducible rfl)
        try simp only [Act.put, List.setIfInBounds_toArray, List.set_cons_zero, List.set_cons_succ]
        refine wpAnyH_ready (rs := [9]) (by kernel_rfl) (by simp) ?_
        refine AllReadyH.cons (o := { dst := some 28, op := Go.Op.alloc 24, type := 0, pos := "law.go:142", after := #[], guard := none }) rfl (fun K hK => ?_) AllReadyH.nil
        go_simp
        have hx9 := hHeld.alloc hHeld.size (.cells #[.int .i64 0, .slice none 0 0] 24)
        have za := Holds.new u5 24 #[.int .i64 0, .slice none 0 0]
        have hgz : V8.heap.size ≤ u5.heap.size := hHeld.size
        first | (have hfz := sl_size sZ; replace sZ := sZ.below (box_below u5 #[.int .i64 0, .slice none 0 0] 24)) | skip
        generalize u5.alloc (.cells #[.int .i64 0, .slice none 0 0] 24) = u9 at *
        generalize u5.heap.size = gz at *
        refine hK.out _ _ (hx9) (fun hHeld => ?_)
        clear hK K
        try simp only [Act.put, List.setIfInBounds_toArray, List.set_cons_zero, List.set_cons_succ]
        refine wpAnyH_ready (rs := [10]) (by kernel_rfl) (by simp) ?_
        refine AllReadyH.cons (o := { dst := none, op := Go.Op.store 24 (Go.Operand.tmp 28) (Go.Operand.tmp 174), type := 0, pos := "law.go:142", after := #[{ on := 9, ground := Go.Ground.data }, { on := 7, ground := Go.Ground.data }, { on := 5, ground := Go.Ground.chain }, { on := 0, ground := Go.Ground.phase }, { on := 1, ground := Go.Ground.phase }, { on := 2, ground := Go.Ground.phase }, { on := 3, ground := Go.Ground.phase }, { on := 4, ground := Go.Ground.phase }, { on := 5, ground := Go.Ground.phase }, { on := 6, ground := Go.Ground.phase }, { on := 7, ground := Go.Ground.phase }, { on := 8, ground := Go.Ground.textOnly Go.Departure.lateStores }, { on := 9, ground := Go.Ground.phase }], guard := none }) rfl (fun K hK => ?_) AllReadyH.nil
        have y0 := za.cell 0
        have y1 := za.cell 1
        have f0 := za.free 0
        have f1 := za.free 1
        go_simp
        have zz := zh_set za (.int .i64 mv) (.slice aZ mZ dZ)
        have sz := sl_set sZ gz hfz (.int .i64 mv) (.slice aZ mZ dZ)
        have hx10 := (hHeld.setCell (p := ⟨gz, 0, none⟩) hgz (.int .i64 mv)).setCell (p := ⟨gz, 1, none⟩) hgz (.slice aZ mZ dZ)
        clear za sZ y0 y1 f0 f1 hfz hgz
        generalize (u9.setCell ⟨gz, 0, none⟩ (.int .i64 mv)).setCell ⟨gz, 1, none⟩ (.slice aZ mZ dZ) = u10 at *
        refine hK.out _ _ (hx10) (fun hHeld => ?_)
        clear hK K
        try simp only [Act.put, List.setIfInBounds_toArray, List.set_cons_zero, List.set_cons_succ]
        refine wpAnyH_take (i := 11) (oi := { dst := some 29, op := Go.Op.assign (Go.Operand.tmp 175), type := 27, pos := "law.go:142", after := #[{ on := 8, ground := Go.Ground.data }, { on := 10, ground := Go.Ground.chain }, { on := 0, ground := Go.Ground.phase }, { on := 1, ground := Go.Ground.phase }, { on := 2, ground := Go.Ground.phase }, { on := 3, ground := Go.Ground.phase }, { on := 4, ground := Go.Ground.phase }, { on := 5, ground := Go.Ground.phase }, { on := 6, ground := Go.Ground.phase }, { on := 7, ground := Go.Ground.phase }, { on := 8, ground := Go.Ground.phase }, { on := 9, ground := Go.Ground.phase }, { on := 10, ground := Go.Ground.phase }], guard := none }) (v := ?v14) rfl (by kernel_rfl) (by kernel_rfl) (by kernel_rfl) (fun _ _ _ h => h) (Or.inl ⟨by kernel_rfl, ?h14⟩) (by assumption) ?r14
        case h14 => (intro w hSw; (try dsimp only at hSw); go_simp; try with_reducible rfl)
        try simp only [Act.put, List.setIfInBounds_toArray, List.set_cons_zero, List.set_cons_succ]
        refine wpAnyH_done (by kernel_rfl) ?_ _
        go_wp2_with fail
        go_meet
        exact ⟨_, _, _, rfl, hHeld, zz, sz⟩
      · go_simp
        have hx9 := hHeld.alloc hHeld.size (.cells #[.int .i64 0, .slice none 0 0] 24)
        have za := Holds.new u0 24 #[.int .i64 0, .slice none 0 0]
        have hgz : V8.heap.size ≤ u0.heap.size := hHeld.size
        first | (have hfz := sl_size sZ; replace sZ := sZ.below (box_below u0 #[.int .i64 0, .slice none 0 0] 24)) | skip
        generalize u0.alloc (.cells #[.int .i64 0, .slice none 0 0] 24) = u9 at *
        generalize u0.heap.size = gz at *
        refine hK.out _ _ (hx9) (fun hHeld => ?_)
        clear hK K
        try simp only [Act.put, List.setIfInBounds_toArray, List.set_cons_zero, List.set_cons_succ]
        refine wpAnyH_ready (rs := [5]) (by kernel_rfl) (by simp) ?_
        refine AllReadyH.cons (o := { dst := some 173, op := Go.Op.call { callee := Go.Callee.value (Go.Operand.func 23), args := #[Go.Operand.tmp 168, Go.Operand.tmp 169, Go.Operand.tmp 170, Go.Operand.tmp 172], argTypes := #[24, 3, 3, 3] }, type := 31, pos := "law.go:142", after := #[{ on := 0, ground := Go.Ground.data }, { on := 1, ground := Go.Ground.data }, { on := 2, ground := Go.Ground.data }, { on := 4, ground := Go.Ground.data }, { on := 4, ground := Go.Ground.chain }], guard := none }) rfl (fun K hK => ?_) AllReadyH.nil
        go_simp
        refine (QZ.out _ (ht.out _ hHeld)).mono ?_
        rintro e u5 ⟨aZ, dZ, rfl, sZ, bZ, nZ⟩
        have hx5 := hHeld.trans (bZ.mono hHeld.size)
        first | (have hfz := new_far (l := LZ) nZ za.lt; replace za := za.below bZ za.lt) | skip
        clear nZ bZ
        go_simp
        refine hK.out _ _ (hx5) (fun hHeld => ?_)
        clear hK K
        try simp only [Act.put, List.setIfInBounds_toArray, List.set_cons_zero, List.set_cons_succ]
        refine wpAnyH_take (i := 6) (oi := { dst := some 167, op := Go.Op.move (Go.Operand.tmp 173), type := 31, pos := "law.go:142", after := #[{ on := 5, ground := Go.Ground.data }], guard := none }) (v := ?v15) rfl (by kernel_rfl) (by kernel_rfl) (by kernel_rfl) (fun _ _ _ h => h) (Or.inl ⟨by kernel_rfl, ?h15⟩) (by assumption) ?r15
        case h15 => (intro w hSw; (try dsimp only at hSw); go_simp; try with_reducible rfl)
        try simp only [Act.put, List.setIfInBounds_toArray, List.set_cons_zero, List.set_cons_succ]
        refine wpAnyH_take (i := 7) (oi := { dst := some 174, op := Go.Op.extract (Go.Operand.tmp 167) 0, type := 24, pos := "law.go:142", after := #[{ on := 6, ground := Go.Ground.data }], guard := none }) (v := ?v16) rfl (by kernel_rfl) (by kernel_rfl) (by kernel_rfl) (fun _ _ _ h => h) (Or.inl ⟨by kernel_rfl, ?h16⟩) (by assumption) ?r16
        case h16 => (intro w hSw; (try dsimp only at hSw); go_simp; try with_reducible rfl)
        try simp only [Act.put, List.setIfInBounds_toArray, List.set_cons_zero, List.set_cons_succ]
        refine wpAnyH_take (i := 8) (oi := { dst := some 175, op := Go.Op.extract (Go.Operand.tmp 167) 1, type := 27, pos := "law.go:142", after := #[{ on := 6, ground := Go.Ground.data }, { on := 10, ground := Go.Ground.gcOnly Go.Departure.lateStores }], guard := none }) (v := ?v17) rfl (by kernel_rfl) (by kernel_rfl) (by kernel_rfl) (fun _ _ _ h => h) (Or.inl ⟨by kernel_rfl, ?h17⟩) (by assumption) ?r17
        case h17 => (intro w hSw; (try dsimp only at hSw); go_simp; try with_reducible rfl)
        try simp only [Act.put, List.setIfInBounds_toArray, List.set_cons_zero, List.set_cons_succ]
        refine wpAnyH_ready (rs := [10]) (by kernel_rfl) (by simp) ?_
        refine AllReadyH.cons (o := { dst := none, op := Go.Op.store 24 (Go.Operand.tmp 28) (Go.Operand.tmp 174), type := 0, pos := "law.go:142", after := #[{ on := 9, ground := Go.Ground.data }, { on := 7, ground := Go.Ground.data }, { on := 5, ground := Go.Ground.chain }, { on := 0, ground := Go.Ground.phase }, { on := 1, ground := Go.Ground.phase }, { on := 2, ground := Go.Ground.phase }, { on := 3, ground := Go.Ground.phase }, { on := 4, ground := Go.Ground.phase }, { on := 5, ground := Go.Ground.phase }, { on := 6, ground := Go.Ground.phase }, { on := 7, ground := Go.Ground.phase }, { on := 8, ground := Go.Ground.textOnly Go.Departure.lateStores }, { on := 9, ground := Go.Ground.phase }], guard := none }) rfl (fun K hK => ?_) AllReadyH.nil
        have y0 := za.cell 0
        have y1 := za.cell 1
        have f0 := za.free 0
        have f1 := za.free 1
        go_simp
        have zz := zh_set za (.int .i64 mv) (.slice aZ mZ dZ)
        have sz := sl_set sZ gz hfz (.int .i64 mv) (.slice aZ mZ dZ)
        have hx10 := (hHeld.setCell (p := ⟨gz, 0, none⟩) hgz (.int .i64 mv)).setCell (p := ⟨gz, 1, none⟩) hgz (.slice aZ mZ dZ)
        clear za sZ y0 y1 f0 f1 hfz hgz
        generalize (u5.setCell ⟨gz, 0, none⟩ (.int .i64 mv)).setCell ⟨gz, 1, none⟩ (.slice aZ mZ dZ) = u10 at *
        refine hK.out _ _ (hx10) (fun hHeld => ?_)
        clear hK K
        try simp only [Act.put, List.setIfInBounds_toArray, List.set_cons_zero, List.set_cons_succ]
        refine wpAnyH_take (i := 11) (oi := { dst := some 29, op := Go.Op.assign (Go.Operand.tmp 175), type := 27, pos := "law.go:142", after := #[{ on := 8, ground := Go.Ground.data }, { on := 10, ground := Go.Ground.chain }, { on := 0, ground := Go.Ground.phase }, { on := 1, ground := Go.Ground.phase }, { on := 2, ground := Go.Ground.phase }, { on := 3, ground := Go.Ground.phase }, { on := 4, ground := Go.Ground.phase }, { on := 5, ground := Go.Ground.phase }, { on := 6, ground := Go.Ground.phase }, { on := 7, ground := Go.Ground.phase }, { on := 8, ground := Go.Ground.phase }, { on := 9, ground := Go.Ground.phase }, { on := 10, ground := Go.Ground.phase }], guard := none }) (v := ?v18) rfl (by kernel_rfl) (by kernel_rfl) (by kernel_rfl) (fun _ _ _ h => h) (Or.inl ⟨by kernel_rfl, ?h18⟩) (by assumption) ?r18
        case h18 => (intro w hSw; (try dsimp only at hSw); go_simp; try with_reducible rfl)
        try simp only [Act.put, List.setIfInBounds_toArray, List.set_cons_zero, List.set_cons_succ]
        refine wpAnyH_done (by kernel_rfl) ?_ _
        go_wp2_with fail
        go_meet
        exact ⟨_, _, _, rfl, hHeld, zz, sz⟩
    · go_simp
      have hx9 := hHeld.alloc hHeld.size (.cells #[.int .i64 0, .slice none 0 0] 24)
      have za := Holds.new u0 24 #[.int .i64 0, .slice none 0 0]
      have hgz : V8.heap.size ≤ u0.heap.size := hHeld.size
      first | (have hfz := sl_size sZ; replace sZ := sZ.below (box_below u0 #[.int .i64 0, .slice none 0 0] 24)) | skip
      generalize u0.alloc (.cells #[.int .i64 0, .slice none 0 0] 24) = u9 at *
      generalize u0.heap.size = gz at *
      refine hK.out _ _ (hx9) (fun hHeld => ?_)
      clear hK K
      try simp only [Act.put, List.setIfInBounds_toArray, List.set_cons_zero, List.set_cons_succ]
      refine wpAnyH_ready (rs := [4]) (by kernel_rfl) (by simp) ?_
      refine AllReadyH.cons (o := { dst := some 172, op := Go.Op.call { callee := Go.Callee.value (Go.Operand.func 40), args := #[Go.Operand.tmp 171], argTypes := #[3] }, type := 3, pos := "law.go:142", after := #[{ on := 3, ground := Go.Ground.data }], guard := none }) rfl (fun K hK => ?_) AllReadyH.nil
      go_simp
      refine (QC.out _).mono ?_
      rintro e u4 ⟨rfl, rfl⟩
      go_simp
      refine hK.out _ _ (hHeld) (fun hHeld => ?_)
      clear hK K
      try simp only [Act.put, List.setIfInBounds_toArray, List.set_cons_zero, List.set_cons_succ]
      refine wpAnyH_ready (rs := [5]) (by kernel_rfl) (by simp) ?_
      refine AllReadyH.cons (o := { dst := some 173, op := Go.Op.call { callee := Go.Callee.value (Go.Operand.func 23), args := #[Go.Operand.tmp 168, Go.Operand.tmp 169, Go.Operand.tmp 170, Go.Operand.tmp 172], argTypes := #[24, 3, 3, 3] }, type := 31, pos := "law.go:142", after := #[{ on := 0, ground := Go.Ground.data }, { on := 1, ground := Go.Ground.data }, { on := 2, ground := Go.Ground.data }, { on := 4, ground := Go.Ground.data }, { on := 4, ground := Go.Ground.chain }], guard := none }) rfl (fun K hK => ?_) AllReadyH.nil
      go_simp
      refine (QZ.out _ (ht.out _ hHeld)).mono ?_
      rintro e u5 ⟨aZ, dZ, rfl, sZ, bZ, nZ⟩
      have hx5 := hHeld.trans (bZ.mono hHeld.size)
      first | (have hfz := new_far (l := LZ) nZ za.lt; replace za := za.below bZ za.lt) | skip
      clear nZ bZ
      go_simp
      refine hK.out _ _ (hx5) (fun hHeld => ?_)
      clear hK K
      try simp only [Act.put, List.setIfInBounds_toArray, List.set_cons_zero, List.set_cons_succ]
      refine wpAnyH_take (i := 6) (oi := { dst := some 167, op := Go.Op.move (Go.Operand.tmp 173), type := 31, pos := "law.go:142", after := #[{ on := 5, ground := Go.Ground.data }], guard := none }) (v := ?v19) rfl (by kernel_rfl) (by kernel_rfl) (by kernel_rfl) (fun _ _ _ h => h) (Or.inl ⟨by kernel_rfl, ?h19⟩) (by assumption) ?r19
      case h19 => (intro w hSw; (try dsimp only at hSw); go_simp; try with_reducible rfl)
      try simp only [Act.put, List.setIfInBounds_toArray, List.set_cons_zero, List.set_cons_succ]
      refine wpAnyH_take (i := 7) (oi := { dst := some 174, op := Go.Op.extract (Go.Operand.tmp 167) 0, type := 24, pos := "law.go:142", after := #[{ on := 6, ground := Go.Ground.data }], guard := none }) (v := ?v20) rfl (by kernel_rfl) (by kernel_rfl) (by kernel_rfl) (fun _ _ _ h => h) (Or.inl ⟨by kernel_rfl, ?h20⟩) (by assumption) ?r20
      case h20 => (intro w hSw; (try dsimp only at hSw); go_simp; try with_reducible rfl)
      try simp only [Act.put, List.setIfInBounds_toArray, List.set_cons_zero, List.set_cons_succ]
      refine wpAnyH_take (i := 8) (oi := { dst := some 175, op := Go.Op.extract (Go.Operand.tmp 167) 1, type := 27, pos := "law.go:142", after := #[{ on := 6, ground := Go.Ground.data }, { on := 10, ground := Go.Ground.gcOnly Go.Departure.lateStores }], guard := none }) (v := ?v21) rfl (by kernel_rfl) (by kernel_rfl) (by kernel_rfl) (fun _ _ _ h => h) (Or.inl ⟨by kernel_rfl, ?h21⟩) (by assumption) ?r21
      case h21 => (intro w hSw; (try dsimp only at hSw); go_simp; try with_reducible rfl)
      try simp only [Act.put, List.setIfInBounds_toArray, List.set_cons_zero, List.set_cons_succ]
      refine wpAnyH_ready (rs := [10]) (by kernel_rfl) (by simp) ?_
      refine AllReadyH.cons (o := { dst := none, op := Go.Op.store 24 (Go.Operand.tmp 28) (Go.Operand.tmp 174), type := 0, pos := "law.go:142", after := #[{ on := 9, ground := Go.Ground.data }, { on := 7, ground := Go.Ground.data }, { on := 5, ground := Go.Ground.chain }, { on := 0, ground := Go.Ground.phase }, { on := 1, ground := Go.Ground.phase }, { on := 2, ground := Go.Ground.phase }, { on := 3, ground := Go.Ground.phase }, { on := 4, ground := Go.Ground.phase }, { on := 5, ground := Go.Ground.phase }, { on := 6, ground := Go.Ground.phase }, { on := 7, ground := Go.Ground.phase }, { on := 8, ground := Go.Ground.textOnly Go.Departure.lateStores }, { on := 9, ground := Go.Ground.phase }], guard := none }) rfl (fun K hK => ?_) AllReadyH.nil
      have y0 := za.cell 0
      have y1 := za.cell 1
      have f0 := za.free 0
      have f1 := za.free 1
      go_simp
      have zz := zh_set za (.int .i64 mv) (.slice aZ mZ dZ)
      have sz := sl_set sZ gz hfz (.int .i64 mv) (.slice aZ mZ dZ)
      have hx10 := (hHeld.setCell (p := ⟨gz, 0, none⟩) hgz (.int .i64 mv)).setCell (p := ⟨gz, 1, none⟩) hgz (.slice aZ mZ dZ)
      clear za sZ y0 y1 f0 f1 hfz hgz
      generalize (u5.setCell ⟨gz, 0, none⟩ (.int .i64 mv)).setCell ⟨gz, 1, none⟩ (.slice aZ mZ dZ) = u10 at *
      refine hK.out _ _ (hx10) (fun hHeld => ?_)
      clear hK K
      try simp only [Act.put, List.setIfInBounds_toArray, List.set_cons_zero, List.set_cons_succ]
      refine wpAnyH_take (i := 11) (oi := { dst := some 29, op := Go.Op.assign (Go.Operand.tmp 175), type := 27, pos := "law.go:142", after := #[{ on := 8, ground := Go.Ground.data }, { on := 10, ground := Go.Ground.chain }, { on := 0, ground := Go.Ground.phase }, { on := 1, ground := Go.Ground.phase }, { on := 2, ground := Go.Ground.phase }, { on := 3, ground := Go.Ground.phase }, { on := 4, ground := Go.Ground.phase }, { on := 5, ground := Go.Ground.phase }, { on := 6, ground := Go.Ground.phase }, { on := 7, ground := Go.Ground.phase }, { on := 8, ground := Go.Ground.phase }, { on := 9, ground := Go.Ground.phase }, { on := 10, ground := Go.Ground.phase }], guard := none }) (v := ?v22) rfl (by kernel_rfl) (by kernel_rfl) (by kernel_rfl) (fun _ _ _ h => h) (Or.inl ⟨by kernel_rfl, ?h22⟩) (by assumption) ?r22
      case h22 => (intro w hSw; (try dsimp only at hSw); go_simp; try with_reducible rfl)
      try simp only [Act.put, List.setIfInBounds_toArray, List.set_cons_zero, List.set_cons_succ]
      refine wpAnyH_done (by kernel_rfl) ?_ _
      go_wp2_with fail
      go_meet
      exact ⟨_, _, _, rfl, hHeld, zz, sz⟩
  case rest =>
    obtain ⟨gz, aZ, dZ, rfl, hx, zz, sz⟩ := hcut
    replace Z1 := Lib.hid (Z1.out.below hx Z1.out.lt)
    replace Z2 := Lib.hid (Z2.out.below hx Z2.out.lt)
    replace ZM := Lib.hid (ZM.out.below hx ZM.out.lt)
    replace ZJ := Lib.hid (ZJ.out.below hx ZJ.out.lt)
    replace ZW := Lib.hid (ZW.out.below hx ZW.out.lt)
    replace ZL := Lib.hid (ZL.out.below hx ZL.out.lt)
    replace ZF := Lib.hid (ZF.out.below hx ZF.out.lt)
    replace ZI := Lib.hid (ZI.out.below hx ZI.out.lt)
    replace BL := Lib.hid (BL.out.trans (hx.mono BL.out.size))
    replace S1 := Lib.hid (S1.out.below hx)
    replace S2 := Lib.hid (S2.out.below hx)
    replace SV := Lib.hid (SV.out.below hx)
    replace TM := Lib.hid (TM.out.below hx)
    replace TJ := Lib.hid (TJ.out.below hx)
    replace TW := Lib.hid (TW.out.below hx)
    replace TL := Lib.hid (TL.out.below hx)
    replace TF := Lib.hid (TF.out.below hx)
    have ZZ := Lib.hid zz
    have TZ := Lib.hid sz
    clear zz sz hx QZ
    go_wp2
    have k101 : ∀ W, Below wc.heap.size wc W → W.cell? ⟨v14.heap.size, 0, none⟩ = some (.int .i64 mv) := fun W hW => (ZF.out.below hW ZF.out.lt).cell 0
    have k102 : ∀ W, Below wc.heap.size wc W → W.cell? ⟨v14.heap.size, 1, none⟩ = some (.slice aF mF dF) := fun W hW => (ZF.out.below hW ZF.out.lt).cell 1
    have k103 : ∀ W, Below wc.heap.size wc W → W.cell? ⟨v15.heap.size, 0, none⟩ = some (.int .i64 (-1099511627776)) := fun W hW => (ZI.out.below hW ZI.out.lt).cell 0
    have k104 : ∀ W, Below wc.heap.size wc W → W.cell? ⟨v15.heap.size, 1, none⟩ = some (.int .i64 1099511627776) := fun W hW => (ZI.out.below hW ZI.out.lt).cell 1
    have k105 : ∀ W, Below wc.heap.size wc W → W.cell? ⟨gz, 0, none⟩ = some ((.int .i64 mv : Value)) := fun W hW => (ZZ.out.below hW ZZ.out.lt).cell 0
    have k106 : ∀ W, Below wc.heap.size wc W → W.cell? ⟨gz, 1, none⟩ = some (.slice aZ mZ dZ) := fun W hW => (ZZ.out.below hW ZZ.out.lt).cell 1
    have qa := Lib.hid (fun W (hW : Below wc.heap.size wc W) => SV.out.below hW)
    have qf := Lib.hid (fun W (hW : Below wc.heap.size wc W) => TF.out.below hW)
    have qz := Lib.hid (fun W (hW : Below wc.heap.size wc W) => TZ.out.below hW)
    have qt := Lib.hid (fun W (hW : Below wc.heap.size wc W) => BL.out.trans (hW.mono BL.out.size))
    refine wp_drawn_on (fun W => Below wc.heap.size wc W) (by kernel_rfl) (below_drew (Below.refl _ _)) (fun hHeld => ?_)
    refine wpAnyH_take (i := 0) (oi := { dst := some 176, op := Go.Op.load 38 (Go.Operand.tmp 25), type := 38, pos := "law.go:143", after := #[], guard := none }) (v := ?v23) rfl (by kernel_rfl) (by kernel_rfl) (by kernel_rfl) (fun _ _ _ h => h) (Or.inl ⟨by kernel_rfl, ?h23⟩) (by assumption) ?r23
    case h23 => (intro w hSw; (try dsimp only at hSw); go_simp; try with_reducible rfl)
    try simp only [Act.put, List.setIfInBounds_toArray, List.set_cons_zero, List.set_cons_succ]
    refine wpAnyH_ready (rs := [1]) (by kernel_rfl) (by simp) ?_
    refine AllReadyH.cons (o := { dst := some 177, op := Go.Op.call { callee := Go.Callee.value (Go.Operand.func 41), args := #[], argTypes := #[] }, type := 38, pos := "law.go:143", after := #[], guard := none }) rfl (fun K hK => ?_) AllReadyH.nil
    go_simp
    refine (iall_any _).mono ?_
    rintro e t1 ⟨rfl, b1⟩
    go_simp
    refine hK.out _ _ (hHeld.trans (b1.mono hHeld.size)) (fun hHeld => ?_)
    clear hK K
    try simp only [Act.put, List.setIfInBounds_toArray, List.set_cons_zero, List.set_cons_succ]
    refine wpAnyH_take (i := 2) (oi := { dst := some 178, op := Go.Op.binOp Go.BinOp.eql 38 (Go.Operand.tmp 176) (Go.Operand.tmp 177) 38, type := 4, pos := "law.go:143", after := #[{ on := 0, ground := Go.Ground.data }, { on := 1, ground := Go.Ground.data }], guard := none }) (v := ?v24) rfl (by kernel_rfl) (by kernel_rfl) (by kernel_rfl) (fun _ _ _ h => h) (Or.inl ⟨by kernel_rfl, ?h24⟩) (by assumption) ?r24
    case h24 => (intro w hSw; (try dsimp only at hSw); refine Eq.trans (b := Result.ok (Next.value (.bool true)) w) (by go_simp) ?_; with_reducible rfl)
    try simp only [Act.put, List.setIfInBounds_toArray, List.set_cons_zero, List.set_cons_succ]
    refine wpAnyH_take (i := 3) (oi := { dst := some 179, op := Go.Op.move (Go.Operand.tmp 178), type := 4, pos := "law.go:143", after := #[{ on := 2, ground := Go.Ground.data }, { on := 1, ground := Go.Ground.chain }], guard := none }) (v := ?v25) rfl (by kernel_rfl) (by kernel_rfl) (by kernel_rfl) (fun _ _ _ h => h) (Or.inl ⟨by kernel_rfl, ?h25⟩) (by assumption) ?r25
    case h25 => (intro w hSw; (try dsimp only at hSw); go_simp; try with_reducible rfl)
    try simp only [Act.put, List.setIfInBounds_toArray, List.set_cons_zero, List.set_cons_succ]
    refine wpAnyH_take (i := 4) (oi := { dst := some 180, op := Go.Op.load 24 (Go.Operand.tmp 23), type := 24, pos := "law.go:143", after := #[{ on := 3, ground := Go.Ground.guard }], guard := some (3, true) }) (v := ?v26) rfl (by kernel_rfl) (by kernel_rfl) (by kernel_rfl) (fun _ _ _ h => h) (Or.inl ⟨by kernel_rfl, ?h26⟩) (by assumption) ?r26
    case h26 => (intro w hSw; (try dsimp only at hSw); go_simp; try with_reducible rfl)
    try simp only [Act.put, List.setIfInBounds_toArray, List.set_cons_zero, List.set_cons_succ]
    refine wpAnyH_take (i := 5) (oi := { dst := some 181, op := Go.Op.move (Go.Operand.tmp 2), type := 22, pos := "law.go:143", after := #[{ on := 3, ground := Go.Ground.guard }], guard := some (3, true) }) (v := ?v27) rfl (by kernel_rfl) (by kernel_rfl) (by kernel_rfl) (fun _ _ _ h => h) (Or.inl ⟨by kernel_rfl, ?h27⟩) (by assumption) ?r27
    case h27 => (intro w hSw; (try dsimp only at hSw); go_simp; try with_reducible rfl)
    try simp only [Act.put, List.setIfInBounds_toArray, List.set_cons_zero, List.set_cons_succ]
    refine wpAnyH_take (i := 6) (oi := { dst := some 182, op := Go.Op.move (Go.Operand.tmp 3), type := 3, pos := "law.go:143", after := #[{ on := 3, ground := Go.Ground.guard }], guard := some (3, true) }) (v := ?v28) rfl (by kernel_rfl) (by kernel_rfl) (by kernel_rfl) (fun _ _ _ h => h) (Or.inl ⟨by kernel_rfl, ?h28⟩) (by assumption) ?r28
    case h28 => (intro w hSw; (try dsimp only at hSw); go_simp; try with_reducible rfl)
    try simp only [Act.put, List.setIfInBounds_toArray, List.set_cons_zero, List.set_cons_succ]
    refine wpAnyH_take (i := 7) (oi := { dst := some 183, op := Go.Op.move (Go.Operand.tmp 5), type := 3, pos := "law.go:143", after := #[{ on := 3, ground := Go.Ground.guard }], guard := some (3, true) }) (v := ?v29) rfl (by kernel_rfl) (by kernel_rfl) (by kernel_rfl) (fun _ _ _ h => h) (Or.inl ⟨by kernel_rfl, ?h29⟩) (by assumption) ?r29
    case h29 => (intro w hSw; (try dsimp only at hSw); go_simp; try with_reducible rfl)
    try simp only [Act.put, List.setIfInBounds_toArray, List.set_cons_zero, List.set_cons_succ]
    refine wpAnyH_ready (rs := [8]) (by kernel_rfl) (by simp) ?_
    refine AllReadyH.cons (o := { dst := some 184, op := Go.Op.call { callee := Go.Callee.value (Go.Operand.func 40), args := #[Go.Operand.tmp 183], argTypes := #[3] }, type := 3, pos := "law.go:143", after := #[{ on := 7, ground := Go.Ground.data }, { on := 3, ground := Go.Ground.chain }, { on := 3, ground := Go.Ground.guard }], guard := some (3, true) }) rfl (fun K hK => ?_) AllReadyH.nil
    go_simp
    with_reducible refine (QC.out _).mono ?_
    rintro e t8 ⟨rfl, b8⟩
    have b8 := below_of_eq b8
    go_simp
    refine hK.out _ _ (hHeld.trans (b8.mono hHeld.size)) (fun hHeld => ?_)
    clear hK K
    try simp only [Act.put, List.setIfInBounds_toArray, List.set_cons_zero, List.set_cons_succ]
    refine wpAnyH_ready (rs := [9]) (by kernel_rfl) (by simp) ?_
    refine AllReadyH.cons (o := { dst := some 185, op := Go.Op.call { callee := Go.Callee.value (Go.Operand.func 42), args := #[Go.Operand.tmp 181, Go.Operand.tmp 182, Go.Operand.tmp 184], argTypes := #[22, 3, 3] }, type := 22, pos := "law.go:143", after := #[{ on := 5, ground := Go.Ground.data }, { on := 6, ground := Go.Ground.data }, { on := 8, ground := Go.Ground.data }, { on := 8, ground := Go.Ground.chain }, { on := 3, ground := Go.Ground.guard }], guard := some (3, true) }) rfl (fun K hK => ?_) AllReadyH.nil
    go_simp
    with_reducible refine (QWf.out _ (qa.out _ hHeld)).mono ?_
    rintro e t9 ⟨bF, eF, rfl, sf, b9⟩
    go_simp
    refine hK.out _ _ (hHeld.trans (b9.mono hHeld.size)) (fun hHeld => ?_)
    clear hK K
    try simp only [Act.put, List.setIfInBounds_toArray, List.set_cons_zero, List.set_cons_succ]
    refine wpAnyH_ready (rs := [10]) (by kernel_rfl) (by simp) ?_
    refine AllReadyH.cons (o := { dst := some 186, op := Go.Op.call { callee := Go.Callee.value (Go.Operand.func 35), args := #[Go.Operand.tmp 180, Go.Operand.tmp 185], argTypes := #[24, 22] }, type := 4, pos := "law.go:143", after := #[{ on := 4, ground := Go.Ground.data }, { on := 9, ground := Go.Ground.data }, { on := 9, ground := Go.Ground.chain }, { on := 3, ground := Go.Ground.guard }], guard := some (3, true) }) rfl (fun K hK => ?_) AllReadyH.nil
    go_simp
    with_reducible refine (QHF.out _ aF dF bF eF (qf.out _ hHeld) sf).mono ?_
    rintro e t10 ⟨rfl, b10⟩
    go_simp
    refine hK.out _ _ (hHeld.trans (b10.mono hHeld.size)) (fun hHeld => ?_)
    clear hK K
    try simp only [Act.put, List.setIfInBounds_toArray, List.set_cons_zero, List.set_cons_succ]
    refine wpAnyH_take (i := 11) (oi := { dst := some 187, op := Go.Op.pick (Go.Operand.tmp 179) (Go.Operand.tmp 186) (Go.Operand.const (Go.Value.bool false)), type := 4, pos := "law.go:143", after := #[{ on := 3, ground := Go.Ground.data }, { on := 10, ground := Go.Ground.data }], guard := none }) (v := ?v30) rfl (by kernel_rfl) (by kernel_rfl) (by kernel_rfl) (fun _ _ _ h => h) (Or.inl ⟨by kernel_rfl, ?h30⟩) (by assumption) ?r30
    case h30 => (intro w hSw; (try dsimp only at hSw); go_simp; try with_reducible rfl)
    try simp only [Act.put, List.setIfInBounds_toArray, List.set_cons_zero, List.set_cons_succ]
    refine wpAnyH_take (i := 12) (oi := { dst := some 188, op := Go.Op.move (Go.Operand.tmp 187), type := 4, pos := "law.go:143", after := #[{ on := 11, ground := Go.Ground.data }, { on := 10, ground := Go.Ground.chain }], guard := none }) (v := ?v31) rfl (by kernel_rfl) (by kernel_rfl) (by kernel_rfl) (fun _ _ _ h => h) (Or.inl ⟨by kernel_rfl, ?h31⟩) (by assumption) ?r31
    case h31 => (intro w hSw; (try dsimp only at hSw); go_simp; try with_reducible rfl)
    try simp only [Act.put, List.setIfInBounds_toArray, List.set_cons_zero, List.set_cons_succ]
    refine wpAnyH_take (i := 13) (oi := { dst := some 189, op := Go.Op.load 24 (Go.Operand.tmp 28), type := 24, pos := "law.go:143", after := #[{ on := 12, ground := Go.Ground.guard }], guard := some (12, true) }) (v := ?v32) rfl (by kernel_rfl) (by kernel_rfl) (by kernel_rfl) (fun _ _ _ h => h) (Or.inl ⟨by kernel_rfl, ?h32⟩) (by assumption) ?r32
    case h32 => (intro w hSw; (try dsimp only at hSw); go_simp; try with_reducible rfl)
    try simp only [Act.put, List.setIfInBounds_toArray, List.set_cons_zero, List.set_cons_succ]
    refine wpAnyH_take (i := 14) (oi := { dst := some 190, op := Go.Op.move (Go.Operand.tmp 2), type := 22, pos := "law.go:143", after := #[{ on := 12, ground := Go.Ground.guard }], guard := some (12, true) }) (v := ?v33) rfl (by kernel_rfl) (by kernel_rfl) (by kernel_rfl) (fun _ _ _ h => h) (Or.inl ⟨by kernel_rfl, ?h33⟩) (by assumption) ?r33
    case h33 => (intro w hSw; (try dsimp only at hSw); go_simp; try with_reducible rfl)
    try simp only [Act.put, List.setIfInBounds_toArray, List.set_cons_zero, List.set_cons_succ]
    refine wpAnyH_take (i := 15) (oi := { dst := some 191, op := Go.Op.move (Go.Operand.tmp 3), type := 3, pos := "law.go:143", after := #[{ on := 12, ground := Go.Ground.guard }], guard := some (12, true) }) (v := ?v34) rfl (by kernel_rfl) (by kernel_rfl) (by kernel_rfl) (fun _ _ _ h => h) (Or.inl ⟨by kernel_rfl, ?h34⟩) (by assumption) ?r34
    case h34 => (intro w hSw; (try dsimp only at hSw); go_simp; try with_reducible rfl)
    try simp only [Act.put, List.setIfInBounds_toArray, List.set_cons_zero, List.set_cons_succ]
    refine wpAnyH_take (i := 16) (oi := { dst := some 192, op := Go.Op.move (Go.Operand.tmp 27), type := 3, pos := "law.go:143", after := #[{ on := 12, ground := Go.Ground.guard }], guard := some (12, true) }) (v := ?v35) rfl (by kernel_rfl) (by kernel_rfl) (by kernel_rfl) (fun _ _ _ h => h) (Or.inl ⟨by kernel_rfl, ?h35⟩) (by assumption) ?r35
    case h35 => (intro w hSw; (try dsimp only at hSw); go_simp; try with_reducible rfl)
    try simp only [Act.put, List.setIfInBounds_toArray, List.set_cons_zero, List.set_cons_succ]
    refine wpAnyH_take (i := 19) (oi := { dst := some 195, op := Go.Op.move (Go.Operand.tmp 27), type := 3, pos := "law.go:143", after := #[{ on := 12, ground := Go.Ground.guard }], guard := some (12, true) }) (v := ?v36) rfl (by kernel_rfl) (by kernel_rfl) (by kernel_rfl) (fun _ _ _ h => h) (Or.inl ⟨by kernel_rfl, ?h36⟩) (by assumption) ?r36
    case h36 => (intro w hSw; (try dsimp only at hSw); go_simp; try with_reducible rfl)
    try simp only [Act.put, List.setIfInBounds_toArray, List.set_cons_zero, List.set_cons_succ]
    refine wpAnyH_ready (rs := [17]) (by kernel_rfl) (by simp) ?_
    refine AllReadyH.cons (o := { dst := some 193, op := Go.Op.call { callee := Go.Callee.value (Go.Operand.func 42), args := #[Go.Operand.tmp 190, Go.Operand.tmp 191, Go.Operand.tmp 192], argTypes := #[22, 3, 3] }, type := 22, pos := "law.go:143", after := #[{ on := 14, ground := Go.Ground.data }, { on := 15, ground := Go.Ground.data }, { on := 16, ground := Go.Ground.data }, { on := 12, ground := Go.Ground.chain }, { on := 12, ground := Go.Ground.guard }], guard := some (12, true) }) rfl (fun K hK => ?_) AllReadyH.nil
    go_simp
    with_reducible refine (QWz.out _ (qa.out _ hHeld)).mono ?_
    rintro e t17 ⟨bG, eG, rfl, sg, b17⟩
    go_simp
    refine hK.out _ _ (hHeld.trans (b17.mono hHeld.size)) (fun hHeld => ?_)
    clear hK K
    try simp only [Act.put, List.setIfInBounds_toArray, List.set_cons_zero, List.set_cons_succ]
    refine wpAnyH_ready (rs := [18]) (by kernel_rfl) (by simp) ?_
    refine AllReadyH.cons (o := { dst := some 194, op := Go.Op.call { callee := Go.Callee.value (Go.Operand.func 35), args := #[Go.Operand.tmp 189, Go.Operand.tmp 193], argTypes := #[24, 22] }, type := 4, pos := "law.go:143", after := #[{ on := 13, ground := Go.Ground.data }, { on := 17, ground := Go.Ground.data }, { on := 17, ground := Go.Ground.chain }, { on := 12, ground := Go.Ground.guard }], guard := some (12, true) }) rfl (fun K hK => ?_) AllReadyH.nil
    go_simp
    with_reducible refine (QHZ.out _ aZ dZ bG eG (qz.out _ hHeld) sg).mono ?_
    rintro e t18 ⟨rfl, b18⟩
    go_simp
    refine hK.out _ _ (hHeld.trans (b18.mono hHeld.size)) (fun hHeld => ?_)
    clear hK K
    try simp only [Act.put, List.setIfInBounds_toArray, List.set_cons_zero, List.set_cons_succ]
    refine wpAnyH_ready (rs := [20]) (by kernel_rfl) (by simp) ?_
    refine AllReadyH.cons (o := { dst := some 196, op := Go.Op.call { callee := Go.Callee.value (Go.Operand.func 43), args := #[Go.Operand.tmp 195], argTypes := #[3] }, type := 4, pos := "law.go:143", after := #[{ on := 19, ground := Go.Ground.data }, { on := 18, ground := Go.Ground.chain }, { on := 12, ground := Go.Ground.guard }], guard := some (12, true) }) rfl (fun K hK => ?_) AllReadyH.nil
    go_simp
    with_reducible refine (QS.out _).mono ?_
    rintro e t20 ⟨rfl, b20⟩
    have b20 := below_of_eq b20
    go_simp
    refine hK.out _ _ (hHeld.trans (b20.mono hHeld.size)) (fun hHeld => ?_)
    clear hK K
    try simp only [Act.put, List.setIfInBounds_toArray, List.set_cons_zero, List.set_cons_succ]
    refine wpAnyH_take (i := 21) (oi := { dst := some 197, op := Go.Op.binOp Go.BinOp.eql 4 (Go.Operand.tmp 194) (Go.Operand.tmp 196) 4, type := 4, pos := "law.go:143", after := #[{ on := 18, ground := Go.Ground.data }, { on := 20, ground := Go.Ground.data }, { on := 12, ground := Go.Ground.guard }], guard := some (12, true) }) (v := ?v37) rfl (by kernel_rfl) (by kernel_rfl) (by kernel_rfl) (fun _ _ _ h => h) (Or.inl ⟨by kernel_rfl, ?h37⟩) (by assumption) ?r37
    case h37 => (intro w hSw; (try dsimp only at hSw); go_simp; try with_reducible rfl)
    try simp only [Act.put, List.setIfInBounds_toArray, List.set_cons_zero, List.set_cons_succ]
    refine wpAnyH_take (i := 22) (oi := { dst := some 198, op := Go.Op.pick (Go.Operand.tmp 188) (Go.Operand.tmp 197) (Go.Operand.const (Go.Value.bool false)), type := 4, pos := "law.go:143", after := #[{ on := 12, ground := Go.Ground.data }, { on := 21, ground := Go.Ground.data }], guard := none }) (v := ?v38) rfl (by kernel_rfl) (by kernel_rfl) (by kernel_rfl) (fun _ _ _ h => h) (Or.inl ⟨by kernel_rfl, ?h38⟩) (by assumption) ?r38
    case h38 => (intro w hSw; (try dsimp only at hSw); go_simp; try with_reducible rfl)
    try simp only [Act.put, List.setIfInBounds_toArray, List.set_cons_zero, List.set_cons_succ]
    refine wpAnyH_take (i := 23) (oi := { dst := some 12, op := Go.Op.assign (Go.Operand.tmp 198), type := 4, pos := "law.go:143", after := #[{ on := 22, ground := Go.Ground.data }, { on := 20, ground := Go.Ground.chain }, { on := 0, ground := Go.Ground.phase }, { on := 1, ground := Go.Ground.phase }, { on := 2, ground := Go.Ground.phase }, { on := 3, ground := Go.Ground.phase }, { on := 4, ground := Go.Ground.phase }, { on := 5, ground := Go.Ground.phase }, { on := 6, ground := Go.Ground.phase }, { on := 7, ground := Go.Ground.phase }, { on := 8, ground := Go.Ground.phase }, { on := 9, ground := Go.Ground.phase }, { on := 10, ground := Go.Ground.phase }, { on := 11, ground := Go.Ground.phase }, { on := 12, ground := Go.Ground.phase }, { on := 13, ground := Go.Ground.phase }, { on := 14, ground := Go.Ground.phase }, { on := 15, ground := Go.Ground.phase }, { on := 16, ground := Go.Ground.phase }, { on := 17, ground := Go.Ground.phase }, { on := 18, ground := Go.Ground.phase }, { on := 19, ground := Go.Ground.phase }, { on := 20, ground := Go.Ground.phase }, { on := 21, ground := Go.Ground.phase }, { on := 22, ground := Go.Ground.phase }], guard := none }) (v := ?v39) rfl (by kernel_rfl) (by kernel_rfl) (by kernel_rfl) (fun _ _ _ h => h) (Or.inl ⟨by kernel_rfl, ?h39⟩) (by assumption) ?r39
    case h39 => (intro w hSw; (try dsimp only at hSw); go_simp; try with_reducible rfl)
    try simp only [Act.put, List.setIfInBounds_toArray, List.set_cons_zero, List.set_cons_succ]
    refine wpAnyH_done (by kernel_rfl) ?_ _
    have bw := Lib.hid (qt.out _ hHeld)
    clear k101 k102 k103 k104 k105 k106
    go_wp2
    go_ret
    exact ⟨rfl, bw.out⟩
end Go.Proofs.Ytacbkddkjlnklaa
