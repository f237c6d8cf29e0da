/- ZoneSteps: where i is j. (Written by gen-zone-steps.py.) -/
import Derived.Test.YtacbkddkjlnklaaZoneLawSteps
namespace Go.Proofs.Ytacbkddkjlnklaa
open Go.RowKit
set_option linter.unusedVariables false
set_option linter.unusedSimpArgs false

set_option maxRecDepth 100000 in
set_option maxHeartbeats 8000000 in
theorem steps_efff (i : Nat) (c : Int) (a1 av : Option Addr) (m1 mv c1 cv : Nat) (l1 v : List Int) (w : World) (h1 : SL w a1 m1 c1 l1) (hv : SL w av mv cv v) (g1 : ¬ 200 < m1) (g2 : ¬ 8 < mv) (z1 : IsZ mv l1) (hi0 : 1 ≤ i) (hi : i ≤ mv) (hc : farB c = false) (hhf : hasB mv (forgetL mv l1 i) v = false) (hsv : farB (valF v i) = true) (hsb : farB (IntKind.i64.wrap (valF v i - c)) = true) : Calls Try.prog 7 #[.agg #[.int .i64 mv, .slice a1 m1 c1], .slice av mv cv, .int .i64 i, .int .i64 i, .int .i64 c] w (Gives (.bool true) w) := by
  have hvl : v.length = mv := hv.len.symm
  have g2i : ¬ (8 : Int) < (mv : Int) := by omega
  have hck := Lib.hid z1.check
  have his : Hid ((!farB c) = true) := Lib.hid (by rw [hc]; rfl)
  have hvar : Hid ((decide (1 ≤ (i : Int)) && decide ((i : Int) ≤ (mv : Int))) = true) := Lib.hid (by simp; omega)
  have hor : Hid ((decide (0 ≤ (i : Int)) && decide ((i : Int) ≤ (mv : Int))) = true) := Lib.hid (by simp; omega)
  have H1 := Lib.hid h1
  have HV := Lib.hid hv
  have bc : -1099511627776 ≤ c ∧ c ≤ 1099511627776 := by unfold farB at hc; simp at hc; omega
  have zF : IsZ mv (forgetL mv l1 i) := forgetL_isz z1.1 _ _
  obtain ⟨mF, hmF⟩ : ∃ x, x = (forgetL mv l1 i).length := ⟨_, rfl⟩
  have rF : mF ≤ 81 := by rw [hmF]; exact zF.small
  have QF := Lib.hid (fun W (hW : Below w.heap.size w W) => (zforget_ok mv l1 z1 i hi0 hi a1 m1 c1 W (H1.out.below hW)).mono (fun e w' h => ends_of (m := mF) hmF.symm (by omega) h))
  have zL : IsZ mv (letL mv l1 i i c) := letL_isz z1.1 _ _ _ _
  obtain ⟨mL, hmL⟩ : ∃ x, x = (letL mv l1 i i c).length := ⟨_, rfl⟩
  have rL : mL ≤ 81 := by rw [hmL]; exact zL.small
  have QL := Lib.hid (fun W (hW : Below w.heap.size w W) => (zlet_ok mv l1 z1 i i hi0 hi hi c a1 m1 c1 W (H1.out.below hW)).mono (fun e w' h => ends_of (m := mL) hmL.symm (by omega) h))
  have fm := fact_mov z1 hvl hi0 hi c
  rw [hsv] at fm
  simp only [Bool.not_true, Bool.false_and, Bool.and_false] at fm
  obtain ⟨bk, hbk⟩ : ∃ b, b = IntKind.i64.wrap (valF v i - c) := ⟨_, rfl⟩
  rw [← hbk] at hsb
  have QHL : Hid (∀ W a cz, SL W a mL cz (letL mv l1 i i c) → SL W av mv cv v → Calls Try.prog 35 #[.agg #[.int .i64 mv, .slice a mL cz], .slice av mv cv] W (Gives (.bool (false)) W)) := Lib.hid (fun W a cz hS hV => by have := has_any mv a mL cz _ av mv cv v W hS hV; rwa [fm] at this)
  have QB := Lib.hid (fun W => by have := is_any (bk) W; rwa [hsb] at this)
  have QS := Lib.hid (fun W => by have := is_any (valF v i) W; rwa [hsv] at this)
  have QHF : Hid (∀ W a cz, SL W a mF cz (forgetL mv l1 i) → SL W av mv cv v → Calls Try.prog 35 #[.agg #[.int .i64 mv, .slice a mF cz], .slice av mv cv] W (Gives (.bool (false)) W)) := Lib.hid (fun W a cz hS hV => by have := has_any mv a mF cz _ av mv cv v W hS hV; rwa [hhf] at this)
  have QVk := Lib.hid (fun k (hk : k ≤ mv) W (hV : SL W av mv cv v) => lval_any av v mv cv hvl.symm (by omega) k hk W.heap.size W hV.sees)
  have QVi := Lib.hid (fun W (hV : SL W av mv cv v) => QVk.out i hi W hV)
  clear hc hhf fm hsv hsb zF hmF zL hmL
  clear z1 hi0 hi hvl
  generalize forgetL mv l1 i = LF at *
  generalize letL mv l1 i i c = LL at *
  obtain ⟨x, hx⟩ : ∃ x, x = valF v i := ⟨_, rfl⟩
  rw [← hx] at QVi QS hbk
  clear hx
  have hbk1 := hbk.symm
  clear hbk
  obtain ⟨W1, hW1⟩ : ∃ W1, W1 = w.alloc (.cells #[.int .i64 mv, .slice a1 m1 c1] 24) := ⟨_, rfl⟩
  have Z1 : Hid (Holds W1 (w.heap.size) 24 #[.int .i64 mv, .slice a1 m1 c1]) := Lib.hid (by rw [hW1]; exact Holds.new w _ _)
  have BL := Lib.hid (show Below w.heap.size w W1 by rw [hW1]; exact box_below _ _ _)
  have S1 := Lib.hid (h1.below BL.out)
  have SV := Lib.hid (hv.below BL.out)
  have hW1' := Lib.hid hW1
  clear hW1
  clear h1 hv
  go_enter Try.func7, Try.ntmps7
  have k1 := Z1.out.cell 0
  have k2 := Z1.out.cell 1
  have q := Lib.hid (by have := large_any a1 m1 c1 S1.out.max W1; rwa [decide_eq_false (show ¬ (200 : Int) < (m1 : Int) by omega)] at this)
  go_wp2_with fail
  rw [← hW1'.out]
  with_reducible refine q.out.mono ?_
  rintro e u1 ⟨rfl, rfl⟩
  clear hW1'
  clear q
  have q := Lib.hid (by have := rcheck_any mv a1 m1 c1 l1 W1 S1.out; rwa [hck.out] at this)
  go_wp2_with fail
  with_reducible refine q.out.mono ?_
  rintro e u2 ⟨rfl, b2⟩
  clear k1 k2
  clear q
  have k3 : u2.cell? ⟨w.heap.size, 0, none⟩ = some (.int .i64 mv) := (Z1.out.below b2 Z1.out.lt).cell 0
  have k4 : u2.cell? ⟨w.heap.size, 1, none⟩ = some (.slice a1 m1 c1) := (Z1.out.below b2 Z1.out.lt).cell 1
  replace Z1 := Lib.hid (Z1.out.below b2 Z1.out.lt)
  replace BL := Lib.hid (BL.out.trans (b2.mono BL.out.size))
  replace S1 := Lib.hid (S1.out.below b2)
  replace SV := Lib.hid (SV.out.below b2)
  clear b2
  have q := Lib.hid (by have := rvar_any mv i a1 m1 c1 u2; rwa [hvar.out] at this)
  go_wp2_with fail
  with_reducible refine q.out.mono ?_
  rintro e u3 ⟨rfl, b3⟩
  clear k3 k4
  clear q
  have k5 : u3.cell? ⟨w.heap.size, 0, none⟩ = some (.int .i64 mv) := (Z1.out.below b3 Z1.out.lt).cell 0
  have k6 : u3.cell? ⟨w.heap.size, 1, none⟩ = some (.slice a1 m1 c1) := (Z1.out.below b3 Z1.out.lt).cell 1
  replace Z1 := Lib.hid (Z1.out.below b3 Z1.out.lt)
  replace BL := Lib.hid (BL.out.trans (b3.mono BL.out.size))
  replace S1 := Lib.hid (S1.out.below b3)
  replace SV := Lib.hid (SV.out.below b3)
  clear b3
  have q := Lib.hid (by have := ror0_any mv i a1 m1 c1 u3; rwa [hor.out] at this)
  go_wp2_with fail
  with_reducible refine q.out.mono ?_
  rintro e u4 ⟨rfl, b4⟩
  clear k5 k6
  clear q
  have k7 : u4.cell? ⟨w.heap.size, 0, none⟩ = some (.int .i64 mv) := (Z1.out.below b4 Z1.out.lt).cell 0
  have k8 : u4.cell? ⟨w.heap.size, 1, none⟩ = some (.slice a1 m1 c1) := (Z1.out.below b4 Z1.out.lt).cell 1
  replace Z1 := Lib.hid (Z1.out.below b4 Z1.out.lt)
  replace BL := Lib.hid (BL.out.trans (b4.mono BL.out.size))
  replace S1 := Lib.hid (S1.out.below b4)
  replace SV := Lib.hid (SV.out.below b4)
  clear b4
  have q := Lib.hid (by have := is_any c u4; rwa [his.out] at this)
  go_wp2_with fail
  with_reducible refine q.out.mono ?_
  rintro e u1 ⟨rfl, rfl⟩
  clear q
  clear k7 k8
  have k9 := Z1.out.cell 0
  have k10 := Z1.out.cell 1
  have q := Lib.hid (QF.out _ BL.out)
  go_wp2_with fail
  with_reducible refine q.out.mono ?_
  rintro e v1 ⟨aF, dF, rfl, sF, bF⟩
  clear k9 k10
  clear q QF
  have k11 : v1.cell? ⟨w.heap.size, 0, none⟩ = some (.int .i64 mv) := (Z1.out.below bF Z1.out.lt).cell 0
  have k12 : v1.cell? ⟨w.heap.size, 1, none⟩ = some (.slice a1 m1 c1) := (Z1.out.below bF Z1.out.lt).cell 1
  have k13 : w.heap.size < v1.heap.size := (Z1.out.below bF Z1.out.lt).lt
  have B0 := box_below v1 #[.int .i64 mv, .slice aF mF dF] 24
  have B := bF.trans (B0.mono bF.size)
  replace Z1 := Lib.hid (Z1.out.below B Z1.out.lt)
  replace BL := Lib.hid (BL.out.trans (B.mono BL.out.size))
  replace S1 := Lib.hid (S1.out.below B)
  replace SV := Lib.hid (SV.out.below B)
  have ZF := Lib.hid (Holds.new v1 24 #[.int .i64 mv, .slice aF mF dF])
  have TF := Lib.hid (sF.below B0)
  clear bF B B0 sF
  have q := Lib.hid (QL.out _ BL.out)
  go_wp2_with fail
  with_reducible refine q.out.mono ?_
  rintro e v2 ⟨aL, dL, rfl, sL, bL⟩
  clear k11 k12 k13
  clear q QL
  have B0 := box_below v2 #[.int .i64 mv, .slice aL mL dL] 24
  have B := bL.trans (B0.mono bL.size)
  replace Z1 := Lib.hid (Z1.out.below B Z1.out.lt)
  replace ZF := Lib.hid (ZF.out.below B ZF.out.lt)
  replace BL := Lib.hid (BL.out.trans (B.mono BL.out.size))
  replace S1 := Lib.hid (S1.out.below B)
  replace SV := Lib.hid (SV.out.below B)
  replace TF := Lib.hid (TF.out.below B)
  have ZL := Lib.hid (Holds.new v2 24 #[.int .i64 mv, .slice aL mL dL])
  have TL := Lib.hid (sL.below B0)
  clear bL B B0 sL
  have q := Lib.hid (zlivesAt w _ BL.out)
  go_wp2_with fail
  with_reducible refine q.out.mono ?_
  rintro e v3 ⟨rfl, b3, -⟩
  clear q
  replace Z1 := Lib.hid (Z1.out.below b3 Z1.out.lt)
  replace ZF := Lib.hid (ZF.out.below b3 ZF.out.lt)
  replace ZL := Lib.hid (ZL.out.below b3 ZL.out.lt)
  replace BL := Lib.hid (BL.out.trans (b3.mono BL.out.size))
  replace S1 := Lib.hid (S1.out.below b3)
  replace SV := Lib.hid (SV.out.below b3)
  replace TF := Lib.hid (TF.out.below b3)
  replace TL := Lib.hid (TL.out.below b3)
  clear b3
  have q := Lib.hid (QVi.out _ SV.out)
  go_wp2_with fail
  with_reducible refine q.out.mono ?_
  rintro e u1 ⟨rfl, rfl⟩
  clear q
  go_wp2
  have k14 : ∀ W, Below v3.heap.size v3 W → W.cell? ⟨w.heap.size, 0, none⟩ = some (.int .i64 mv) := fun W hW => (Z1.out.below hW Z1.out.lt).cell 0
  have k15 : ∀ W, Below v3.heap.size v3 W → W.cell? ⟨w.heap.size, 1, none⟩ = some (.slice a1 m1 c1) := fun W hW => (Z1.out.below hW Z1.out.lt).cell 1
  have k16 : ∀ W, Below v3.heap.size v3 W → W.cell? ⟨v2.heap.size, 0, none⟩ = some (.int .i64 mv) := fun W hW => (ZL.out.below hW ZL.out.lt).cell 0
  have k17 : ∀ W, Below v3.heap.size v3 W → W.cell? ⟨v2.heap.size, 1, none⟩ = some (.slice aL mL dL) := fun W hW => (ZL.out.below hW ZL.out.lt).cell 1
  have qa := Lib.hid (fun W (hW : Below v3.heap.size v3 W) => SV.out.below hW)
  have ql := Lib.hid (fun W (hW : Below v3.heap.size v3 W) => TL.out.below hW)
  have q1 := Lib.hid (fun W (hW : Below v3.heap.size v3 W) => S1.out.below hW)
  refine wp_drawn_on (fun W => Below v3.heap.size v3 W) (by kernel_rfl) (below_drew (Below.refl _ _)) (fun hHeld => ?_)
  refine wpAnyH_take (i := 0) (oi := { dst := some 82, op := Go.Op.load 24 (Go.Operand.tmp 13), type := 24, pos := "law.go:158", after := #[], guard := none }) (v := ?v1) rfl (by kernel_rfl) (by kernel_rfl) (by kernel_rfl) (fun _ _ _ h => h) (Or.inl ⟨by kernel_rfl, ?h1⟩) (by assumption) ?r1
  case h1 => (intro w hSw; (try dsimp only at hSw); go_simp; try with_reducible rfl)
  try simp only [Act.put, List.setIfInBounds_toArray, List.set_cons_zero, List.set_cons_succ]
  refine wpAnyH_take (i := 1) (oi := { dst := some 83, op := Go.Op.move (Go.Operand.tmp 1), type := 22, pos := "law.go:158", after := #[], guard := none }) (v := ?v2) rfl (by kernel_rfl) (by kernel_rfl) (by kernel_rfl) (fun _ _ _ h => h) (Or.inl ⟨by kernel_rfl, ?h2⟩) (by assumption) ?r2
  case h2 => (intro w hSw; (try dsimp only at hSw); go_simp; try with_reducible rfl)
  try simp only [Act.put, List.setIfInBounds_toArray, List.set_cons_zero, List.set_cons_succ]
  refine wpAnyH_take (i := 3) (oi := { dst := some 85, op := Go.Op.move (Go.Operand.tmp 15), type := 3, pos := "law.go:158", after := #[], guard := none }) (v := ?v3) rfl (by kernel_rfl) (by kernel_rfl) (by kernel_rfl) (fun _ _ _ h => h) (Or.inl ⟨by kernel_rfl, ?h3⟩) (by assumption) ?r3
  case h3 => (intro w hSw; (try dsimp only at hSw); go_simp; try with_reducible rfl)
  try simp only [Act.put, List.setIfInBounds_toArray, List.set_cons_zero, List.set_cons_succ]
  refine wpAnyH_ready (rs := [2]) (by kernel_rfl) (by simp) ?_
  refine AllReadyH.cons (o := { dst := some 84, op := Go.Op.call { callee := Go.Callee.value (Go.Operand.func 35), args := #[Go.Operand.tmp 82, Go.Operand.tmp 83], argTypes := #[24, 22] }, type := 4, pos := "law.go:158", after := #[{ on := 0, ground := Go.Ground.data }, { on := 1, ground := Go.Ground.data }], guard := none }) rfl (fun K hK => ?_) AllReadyH.nil
  go_simp
  with_reducible refine (QHL.out _ aL dL (ql.out _ hHeld) (qa.out _ hHeld)).mono ?_
  rintro e t2 ⟨rfl, b2⟩
  go_simp
  refine hK.out _ _ (hHeld.trans (b2.mono hHeld.size)) (fun hHeld => ?_)
  clear hK K
  try simp only [Act.put, List.setIfInBounds_toArray, List.set_cons_zero, List.set_cons_succ]
  refine wpAnyH_ready (rs := [4]) (by kernel_rfl) (by simp) ?_
  refine AllReadyH.cons (o := { dst := some 86, op := Go.Op.call { callee := Go.Callee.value (Go.Operand.func 43), args := #[Go.Operand.tmp 85], argTypes := #[3] }, type := 4, pos := "law.go:158", after := #[{ on := 3, ground := Go.Ground.data }, { on := 2, ground := Go.Ground.chain }], guard := none }) rfl (fun K hK => ?_) AllReadyH.nil
  go_simp
  with_reducible refine (QB.out _).mono ?_
  rintro e t4 ⟨rfl, b4⟩
  have b4 := below_of_eq b4
  go_simp
  refine hK.out _ _ (hHeld.trans (b4.mono hHeld.size)) (fun hHeld => ?_)
  clear hK K
  try simp only [Act.put, List.setIfInBounds_toArray, List.set_cons_zero, List.set_cons_succ]
  refine wpAnyH_take (i := 5) (oi := { dst := some 87, op := Go.Op.move (Go.Operand.tmp 86), type := 4, pos := "law.go:158", after := #[{ on := 4, ground := Go.Ground.data }, { on := 4, ground := Go.Ground.chain }], guard := none }) (v := ?v4) rfl (by kernel_rfl) (by kernel_rfl) (by kernel_rfl) (fun _ _ _ h => h) (Or.inl ⟨by kernel_rfl, ?h4⟩) (by assumption) ?r4
  case h4 => (intro w hSw; (try dsimp only at hSw); go_simp; try with_reducible rfl)
  try simp only [Act.put, List.setIfInBounds_toArray, List.set_cons_zero, List.set_cons_succ]
  refine wpAnyH_take (i := 6) (oi := { dst := some 88, op := Go.Op.move (Go.Operand.tmp 1), type := 22, pos := "law.go:158", after := #[{ on := 5, ground := Go.Ground.guard }], guard := some (5, true) }) (v := undef) rfl (by kernel_rfl) (by kernel_rfl) (by kernel_rfl) (fun _ _ _ h => h) (Or.inr ⟨by kernel_rfl, rfl⟩) (by assumption) ?_
  try simp only [Act.put, List.setIfInBounds_toArray, List.set_cons_zero, List.set_cons_succ]
  refine wpAnyH_take (i := 7) (oi := { dst := some 89, op := Go.Op.move (Go.Operand.tmp 2), type := 3, pos := "law.go:158", after := #[{ on := 5, ground := Go.Ground.guard }], guard := some (5, true) }) (v := undef) rfl (by kernel_rfl) (by kernel_rfl) (by kernel_rfl) (fun _ _ _ h => h) (Or.inr ⟨by kernel_rfl, rfl⟩) (by assumption) ?_
  try simp only [Act.put, List.setIfInBounds_toArray, List.set_cons_zero, List.set_cons_succ]
  refine wpAnyH_take (i := 8) (oi := { dst := some 90, op := Go.Op.call { callee := Go.Callee.value (Go.Operand.func 39), args := #[Go.Operand.tmp 88, Go.Operand.tmp 89], argTypes := #[22, 3] }, type := 3, pos := "law.go:158", after := #[{ on := 6, ground := Go.Ground.data }, { on := 7, ground := Go.Ground.data }, { on := 5, ground := Go.Ground.chain }, { on := 5, ground := Go.Ground.guard }], guard := some (5, true) }) (v := undef) rfl (by kernel_rfl) (by kernel_rfl) (by kernel_rfl) (fun _ _ _ h => h) (Or.inr ⟨by kernel_rfl, rfl⟩) (by assumption) ?_
  try simp only [Act.put, List.setIfInBounds_toArray, List.set_cons_zero, List.set_cons_succ]
  refine wpAnyH_take (i := 9) (oi := { dst := some 91, op := Go.Op.call { callee := Go.Callee.value (Go.Operand.func 43), args := #[Go.Operand.tmp 90], argTypes := #[3] }, type := 4, pos := "law.go:158", after := #[{ on := 8, ground := Go.Ground.data }, { on := 8, ground := Go.Ground.chain }, { on := 5, ground := Go.Ground.guard }], guard := some (5, true) }) (v := undef) rfl (by kernel_rfl) (by kernel_rfl) (by kernel_rfl) (fun _ _ _ h => h) (Or.inr ⟨by kernel_rfl, rfl⟩) (by assumption) ?_
  try simp only [Act.put, List.setIfInBounds_toArray, List.set_cons_zero, List.set_cons_succ]
  refine wpAnyH_take (i := 10) (oi := { dst := some 92, op := Go.Op.pick (Go.Operand.tmp 87) (Go.Operand.tmp 91) (Go.Operand.const (Go.Value.bool false)), type := 4, pos := "law.go:158", after := #[{ on := 5, ground := Go.Ground.data }, { on := 9, ground := Go.Ground.data }], guard := none }) (v := ?v9) rfl (by kernel_rfl) (by kernel_rfl) (by kernel_rfl) (fun _ _ _ h => h) (Or.inl ⟨by kernel_rfl, ?h9⟩) (by assumption) ?r9
  case h9 => (intro w hSw; (try dsimp only at hSw); go_simp; try with_reducible rfl)
  try simp only [Act.put, List.setIfInBounds_toArray, List.set_cons_zero, List.set_cons_succ]
  refine wpAnyH_take (i := 11) (oi := { dst := some 93, op := Go.Op.move (Go.Operand.tmp 92), type := 4, pos := "law.go:158", after := #[{ on := 10, ground := Go.Ground.data }, { on := 9, ground := Go.Ground.chain }], guard := none }) (v := ?v10) rfl (by kernel_rfl) (by kernel_rfl) (by kernel_rfl) (fun _ _ _ h => h) (Or.inl ⟨by kernel_rfl, ?h10⟩) (by assumption) ?r10
  case h10 => (intro w hSw; (try dsimp only at hSw); go_simp; try with_reducible rfl)
  try simp only [Act.put, List.setIfInBounds_toArray, List.set_cons_zero, List.set_cons_succ]
  refine wpAnyH_take (i := 12) (oi := { dst := some 94, op := Go.Op.load 24 (Go.Operand.tmp 5), type := 24, pos := "law.go:158", after := #[{ on := 11, ground := Go.Ground.guard }], guard := some (11, true) }) (v := undef) rfl (by kernel_rfl) (by kernel_rfl) (by kernel_rfl) (fun _ _ _ h => h) (Or.inr ⟨by kernel_rfl, rfl⟩) (by assumption) ?_
  try simp only [Act.put, List.setIfInBounds_toArray, List.set_cons_zero, List.set_cons_succ]
  refine wpAnyH_take (i := 13) (oi := { dst := some 95, op := Go.Op.move (Go.Operand.tmp 1), type := 22, pos := "law.go:158", after := #[{ on := 11, ground := Go.Ground.guard }], guard := some (11, true) }) (v := undef) rfl (by kernel_rfl) (by kernel_rfl) (by kernel_rfl) (fun _ _ _ h => h) (Or.inr ⟨by kernel_rfl, rfl⟩) (by assumption) ?_
  try simp only [Act.put, List.setIfInBounds_toArray, List.set_cons_zero, List.set_cons_succ]
  refine wpAnyH_take (i := 14) (oi := { dst := some 96, op := Go.Op.move (Go.Operand.tmp 2), type := 3, pos := "law.go:158", after := #[{ on := 11, ground := Go.Ground.guard }], guard := some (11, true) }) (v := undef) rfl (by kernel_rfl) (by kernel_rfl) (by kernel_rfl) (fun _ _ _ h => h) (Or.inr ⟨by kernel_rfl, rfl⟩) (by assumption) ?_
  try simp only [Act.put, List.setIfInBounds_toArray, List.set_cons_zero, List.set_cons_succ]
  refine wpAnyH_take (i := 15) (oi := { dst := some 97, op := Go.Op.move (Go.Operand.tmp 15), type := 3, pos := "law.go:158", after := #[{ on := 11, ground := Go.Ground.guard }], guard := some (11, true) }) (v := undef) rfl (by kernel_rfl) (by kernel_rfl) (by kernel_rfl) (fun _ _ _ h => h) (Or.inr ⟨by kernel_rfl, rfl⟩) (by assumption) ?_
  try simp only [Act.put, List.setIfInBounds_toArray, List.set_cons_zero, List.set_cons_succ]
  refine wpAnyH_take (i := 16) (oi := { dst := some 98, op := Go.Op.call { callee := Go.Callee.value (Go.Operand.func 42), args := #[Go.Operand.tmp 95, Go.Operand.tmp 96, Go.Operand.tmp 97], argTypes := #[22, 3, 3] }, type := 22, pos := "law.go:158", after := #[{ on := 13, ground := Go.Ground.data }, { on := 14, ground := Go.Ground.data }, { on := 15, ground := Go.Ground.data }, { on := 11, ground := Go.Ground.chain }, { on := 11, ground := Go.Ground.guard }], guard := some (11, true) }) (v := undef) rfl (by kernel_rfl) (by kernel_rfl) (by kernel_rfl) (fun _ _ _ h => h) (Or.inr ⟨by kernel_rfl, rfl⟩) (by assumption) ?_
  try simp only [Act.put, List.setIfInBounds_toArray, List.set_cons_zero, List.set_cons_succ]
  refine wpAnyH_take (i := 17) (oi := { dst := some 99, op := Go.Op.call { callee := Go.Callee.value (Go.Operand.func 35), args := #[Go.Operand.tmp 94, Go.Operand.tmp 98], argTypes := #[24, 22] }, type := 4, pos := "law.go:158", after := #[{ on := 12, ground := Go.Ground.data }, { on := 16, ground := Go.Ground.data }, { on := 16, ground := Go.Ground.chain }, { on := 11, ground := Go.Ground.guard }], guard := some (11, true) }) (v := undef) rfl (by kernel_rfl) (by kernel_rfl) (by kernel_rfl) (fun _ _ _ h => h) (Or.inr ⟨by kernel_rfl, rfl⟩) (by assumption) ?_
  try simp only [Act.put, List.setIfInBounds_toArray, List.set_cons_zero, List.set_cons_succ]
  refine wpAnyH_take (i := 18) (oi := { dst := some 100, op := Go.Op.pick (Go.Operand.tmp 93) (Go.Operand.tmp 99) (Go.Operand.const (Go.Value.bool false)), type := 4, pos := "law.go:158", after := #[{ on := 11, ground := Go.Ground.data }, { on := 17, ground := Go.Ground.data }], guard := none }) (v := ?v17) rfl (by kernel_rfl) (by kernel_rfl) (by kernel_rfl) (fun _ _ _ h => h) (Or.inl ⟨by kernel_rfl, ?h17⟩) (by assumption) ?r17
  case h17 => (intro w hSw; (try dsimp only at hSw); go_simp; try with_reducible rfl)
  try simp only [Act.put, List.setIfInBounds_toArray, List.set_cons_zero, List.set_cons_succ]
  refine wpAnyH_take (i := 19) (oi := { dst := some 101, op := Go.Op.binOp Go.BinOp.neq 4 (Go.Operand.tmp 84) (Go.Operand.tmp 100) 4, type := 4, pos := "law.go:158", after := #[{ on := 2, ground := Go.Ground.data }, { on := 18, ground := Go.Ground.data }], guard := none }) (v := ?v18) rfl (by kernel_rfl) (by kernel_rfl) (by kernel_rfl) (fun _ _ _ h => h) (Or.inl ⟨by kernel_rfl, ?h18⟩) (by assumption) ?r18
  case h18 => (intro w hSw; (try dsimp only at hSw); go_simp; try with_reducible rfl)
  try simp only [Act.put, List.setIfInBounds_toArray, List.set_cons_zero, List.set_cons_succ]
  refine wpAnyH_done (by kernel_rfl) ?_ _
  clear k14 k15 k16 k17
  replace Z1 := Lib.hid (Z1.out.below hHeld Z1.out.lt)
  replace ZF := Lib.hid (ZF.out.below hHeld ZF.out.lt)
  replace ZL := Lib.hid (ZL.out.below hHeld ZL.out.lt)
  replace BL := Lib.hid (BL.out.trans (hHeld.mono BL.out.size))
  replace S1 := Lib.hid (S1.out.below hHeld)
  replace SV := Lib.hid (SV.out.below hHeld)
  replace TF := Lib.hid (TF.out.below hHeld)
  replace TL := Lib.hid (TL.out.below hHeld)
  clear hHeld qa ql q1 QHL QB QS
  have k18 := ZF.out.cell 0
  have k19 := ZF.out.cell 1
  have q := Lib.hid (QHF.out _ aF dF TF.out SV.out)
  go_wp2_with fail
  with_reducible refine q.out.mono ?_
  rintro e v5 ⟨rfl, b5⟩
  clear k18 k19
  clear q QHF
  replace Z1 := Lib.hid (Z1.out.below b5 Z1.out.lt)
  replace ZF := Lib.hid (ZF.out.below b5 ZF.out.lt)
  replace ZL := Lib.hid (ZL.out.below b5 ZL.out.lt)
  replace BL := Lib.hid (BL.out.trans (b5.mono BL.out.size))
  replace S1 := Lib.hid (S1.out.below b5)
  replace SV := Lib.hid (SV.out.below b5)
  replace TF := Lib.hid (TF.out.below b5)
  replace TL := Lib.hid (TL.out.below b5)
  clear b5
  go_wp2
  go_ret
  exact ⟨rfl, BL.out⟩
set_option maxRecDepth 100000 in
set_option maxHeartbeats 8000000 in
theorem steps_eftf (i : Nat) (c : Int) (a1 av : Option Addr) (m1 mv c1 cv : Nat) (l1 v : List Int) (w : World) (h1 : SL w a1 m1 c1 l1) (hv : SL w av mv cv v) (g1 : ¬ 200 < m1) (g2 : ¬ 8 < mv) (z1 : IsZ mv l1) (hi0 : 1 ≤ i) (hi : i ≤ mv) (hc : farB c = false) (hhf : hasB mv (forgetL mv l1 i) v = false) (hsv : farB (valF v i) = true) (hsb : farB (IntKind.i64.wrap (valF v i - c)) = false) : Calls Try.prog 7 #[.agg #[.int .i64 mv, .slice a1 m1 c1], .slice av mv cv, .int .i64 i, .int .i64 i, .int .i64 c] w (Gives (.bool true) w) := by
  have hvl : v.length = mv := hv.len.symm
  have g2i : ¬ (8 : Int) < (mv : Int) := by omega
  have hck := Lib.hid z1.check
  have his : Hid ((!farB c) = true) := Lib.hid (by rw [hc]; rfl)
  have hvar : Hid ((decide (1 ≤ (i : Int)) && decide ((i : Int) ≤ (mv : Int))) = true) := Lib.hid (by simp; omega)
  have hor : Hid ((decide (0 ≤ (i : Int)) && decide ((i : Int) ≤ (mv : Int))) = true) := Lib.hid (by simp; omega)
  have H1 := Lib.hid h1
  have HV := Lib.hid hv
  have bc : -1099511627776 ≤ c ∧ c ≤ 1099511627776 := by unfold farB at hc; simp at hc; omega
  have zF : IsZ mv (forgetL mv l1 i) := forgetL_isz z1.1 _ _
  obtain ⟨mF, hmF⟩ : ∃ x, x = (forgetL mv l1 i).length := ⟨_, rfl⟩
  have rF : mF ≤ 81 := by rw [hmF]; exact zF.small
  have QF := Lib.hid (fun W (hW : Below w.heap.size w W) => (zforget_ok mv l1 z1 i hi0 hi a1 m1 c1 W (H1.out.below hW)).mono (fun e w' h => ends_of (m := mF) hmF.symm (by omega) h))
  have zL : IsZ mv (letL mv l1 i i c) := letL_isz z1.1 _ _ _ _
  obtain ⟨mL, hmL⟩ : ∃ x, x = (letL mv l1 i i c).length := ⟨_, rfl⟩
  have rL : mL ≤ 81 := by rw [hmL]; exact zL.small
  have QL := Lib.hid (fun W (hW : Below w.heap.size w W) => (zlet_ok mv l1 z1 i i hi0 hi hi c a1 m1 c1 W (H1.out.below hW)).mono (fun e w' h => ends_of (m := mL) hmL.symm (by omega) h))
  have fm := fact_mov z1 hvl hi0 hi c
  rw [hsv] at fm
  simp only [Bool.not_true, Bool.false_and, Bool.and_false] at fm
  obtain ⟨bk, hbk⟩ : ∃ b, b = IntKind.i64.wrap (valF v i - c) := ⟨_, rfl⟩
  rw [← hbk] at hsb
  have QHL : Hid (∀ W a cz, SL W a mL cz (letL mv l1 i i c) → SL W av mv cv v → Calls Try.prog 35 #[.agg #[.int .i64 mv, .slice a mL cz], .slice av mv cv] W (Gives (.bool (false)) W)) := Lib.hid (fun W a cz hS hV => by have := has_any mv a mL cz _ av mv cv v W hS hV; rwa [fm] at this)
  have QB := Lib.hid (fun W => by have := is_any (bk) W; rwa [hsb] at this)
  have QS := Lib.hid (fun W => by have := is_any (valF v i) W; rwa [hsv] at this)
  have QHF : Hid (∀ W a cz, SL W a mF cz (forgetL mv l1 i) → SL W av mv cv v → Calls Try.prog 35 #[.agg #[.int .i64 mv, .slice a mF cz], .slice av mv cv] W (Gives (.bool (false)) W)) := Lib.hid (fun W a cz hS hV => by have := has_any mv a mF cz _ av mv cv v W hS hV; rwa [hhf] at this)
  have QVk := Lib.hid (fun k (hk : k ≤ mv) W (hV : SL W av mv cv v) => lval_any av v mv cv hvl.symm (by omega) k hk W.heap.size W hV.sees)
  have QVi := Lib.hid (fun W (hV : SL W av mv cv v) => QVk.out i hi W hV)
  clear hc hhf fm hsv hsb zF hmF zL hmL
  clear z1 hi0 hi hvl
  generalize forgetL mv l1 i = LF at *
  generalize letL mv l1 i i c = LL at *
  obtain ⟨x, hx⟩ : ∃ x, x = valF v i := ⟨_, rfl⟩
  rw [← hx] at QVi QS hbk
  clear hx
  have hbk1 := hbk.symm
  clear hbk
  obtain ⟨W1, hW1⟩ : ∃ W1, W1 = w.alloc (.cells #[.int .i64 mv, .slice a1 m1 c1] 24) := ⟨_, rfl⟩
  have Z1 : Hid (Holds W1 (w.heap.size) 24 #[.int .i64 mv, .slice a1 m1 c1]) := Lib.hid (by rw [hW1]; exact Holds.new w _ _)
  have BL := Lib.hid (show Below w.heap.size w W1 by rw [hW1]; exact box_below _ _ _)
  have S1 := Lib.hid (h1.below BL.out)
  have SV := Lib.hid (hv.below BL.out)
  have hW1' := Lib.hid hW1
  clear hW1
  clear h1 hv
  go_enter Try.func7, Try.ntmps7
  have k1 := Z1.out.cell 0
  have k2 := Z1.out.cell 1
  have q := Lib.hid (by have := large_any a1 m1 c1 S1.out.max W1; rwa [decide_eq_false (show ¬ (200 : Int) < (m1 : Int) by omega)] at this)
  go_wp2_with fail
  rw [← hW1'.out]
  with_reducible refine q.out.mono ?_
  rintro e u1 ⟨rfl, rfl⟩
  clear hW1'
  clear q
  have q := Lib.hid (by have := rcheck_any mv a1 m1 c1 l1 W1 S1.out; rwa [hck.out] at this)
  go_wp2_with fail
  with_reducible refine q.out.mono ?_
  rintro e u2 ⟨rfl, b2⟩
  clear k1 k2
  clear q
  have k3 : u2.cell? ⟨w.heap.size, 0, none⟩ = some (.int .i64 mv) := (Z1.out.below b2 Z1.out.lt).cell 0
  have k4 : u2.cell? ⟨w.heap.size, 1, none⟩ = some (.slice a1 m1 c1) := (Z1.out.below b2 Z1.out.lt).cell 1
  replace Z1 := Lib.hid (Z1.out.below b2 Z1.out.lt)
  replace BL := Lib.hid (BL.out.trans (b2.mono BL.out.size))
  replace S1 := Lib.hid (S1.out.below b2)
  replace SV := Lib.hid (SV.out.below b2)
  clear b2
  have q := Lib.hid (by have := rvar_any mv i a1 m1 c1 u2; rwa [hvar.out] at this)
  go_wp2_with fail
  with_reducible refine q.out.mono ?_
  rintro e u3 ⟨rfl, b3⟩
  clear k3 k4
  clear q
  have k5 : u3.cell? ⟨w.heap.size, 0, none⟩ = some (.int .i64 mv) := (Z1.out.below b3 Z1.out.lt).cell 0
  have k6 : u3.cell? ⟨w.heap.size, 1, none⟩ = some (.slice a1 m1 c1) := (Z1.out.below b3 Z1.out.lt).cell 1
  replace Z1 := Lib.hid (Z1.out.below b3 Z1.out.lt)
  replace BL := Lib.hid (BL.out.trans (b3.mono BL.out.size))
  replace S1 := Lib.hid (S1.out.below b3)
  replace SV := Lib.hid (SV.out.below b3)
  clear b3
  have q := Lib.hid (by have := ror0_any mv i a1 m1 c1 u3; rwa [hor.out] at this)
  go_wp2_with fail
  with_reducible refine q.out.mono ?_
  rintro e u4 ⟨rfl, b4⟩
  clear k5 k6
  clear q
  have k7 : u4.cell? ⟨w.heap.size, 0, none⟩ = some (.int .i64 mv) := (Z1.out.below b4 Z1.out.lt).cell 0
  have k8 : u4.cell? ⟨w.heap.size, 1, none⟩ = some (.slice a1 m1 c1) := (Z1.out.below b4 Z1.out.lt).cell 1
  replace Z1 := Lib.hid (Z1.out.below b4 Z1.out.lt)
  replace BL := Lib.hid (BL.out.trans (b4.mono BL.out.size))
  replace S1 := Lib.hid (S1.out.below b4)
  replace SV := Lib.hid (SV.out.below b4)
  clear b4
  have q := Lib.hid (by have := is_any c u4; rwa [his.out] at this)
  go_wp2_with fail
  with_reducible refine q.out.mono ?_
  rintro e u1 ⟨rfl, rfl⟩
  clear q
  clear k7 k8
  have k9 := Z1.out.cell 0
  have k10 := Z1.out.cell 1
  have q := Lib.hid (QF.out _ BL.out)
  go_wp2_with fail
  with_reducible refine q.out.mono ?_
  rintro e v1 ⟨aF, dF, rfl, sF, bF⟩
  clear k9 k10
  clear q QF
  have k11 : v1.cell? ⟨w.heap.size, 0, none⟩ = some (.int .i64 mv) := (Z1.out.below bF Z1.out.lt).cell 0
  have k12 : v1.cell? ⟨w.heap.size, 1, none⟩ = some (.slice a1 m1 c1) := (Z1.out.below bF Z1.out.lt).cell 1
  have k13 : w.heap.size < v1.heap.size := (Z1.out.below bF Z1.out.lt).lt
  have B0 := box_below v1 #[.int .i64 mv, .slice aF mF dF] 24
  have B := bF.trans (B0.mono bF.size)
  replace Z1 := Lib.hid (Z1.out.below B Z1.out.lt)
  replace BL := Lib.hid (BL.out.trans (B.mono BL.out.size))
  replace S1 := Lib.hid (S1.out.below B)
  replace SV := Lib.hid (SV.out.below B)
  have ZF := Lib.hid (Holds.new v1 24 #[.int .i64 mv, .slice aF mF dF])
  have TF := Lib.hid (sF.below B0)
  clear bF B B0 sF
  have q := Lib.hid (QL.out _ BL.out)
  go_wp2_with fail
  with_reducible refine q.out.mono ?_
  rintro e v2 ⟨aL, dL, rfl, sL, bL⟩
  clear k11 k12 k13
  clear q QL
  have B0 := box_below v2 #[.int .i64 mv, .slice aL mL dL] 24
  have B := bL.trans (B0.mono bL.size)
  replace Z1 := Lib.hid (Z1.out.below B Z1.out.lt)
  replace ZF := Lib.hid (ZF.out.below B ZF.out.lt)
  replace BL := Lib.hid (BL.out.trans (B.mono BL.out.size))
  replace S1 := Lib.hid (S1.out.below B)
  replace SV := Lib.hid (SV.out.below B)
  replace TF := Lib.hid (TF.out.below B)
  have ZL := Lib.hid (Holds.new v2 24 #[.int .i64 mv, .slice aL mL dL])
  have TL := Lib.hid (sL.below B0)
  clear bL B B0 sL
  have q := Lib.hid (zlivesAt w _ BL.out)
  go_wp2_with fail
  with_reducible refine q.out.mono ?_
  rintro e v3 ⟨rfl, b3, -⟩
  clear q
  replace Z1 := Lib.hid (Z1.out.below b3 Z1.out.lt)
  replace ZF := Lib.hid (ZF.out.below b3 ZF.out.lt)
  replace ZL := Lib.hid (ZL.out.below b3 ZL.out.lt)
  replace BL := Lib.hid (BL.out.trans (b3.mono BL.out.size))
  replace S1 := Lib.hid (S1.out.below b3)
  replace SV := Lib.hid (SV.out.below b3)
  replace TF := Lib.hid (TF.out.below b3)
  replace TL := Lib.hid (TL.out.below b3)
  clear b3
  have q := Lib.hid (QVi.out _ SV.out)
  go_wp2_with fail
  with_reducible refine q.out.mono ?_
  rintro e u1 ⟨rfl, rfl⟩
  clear q
  go_wp2
  have k14 : ∀ W, Below v3.heap.size v3 W → W.cell? ⟨w.heap.size, 0, none⟩ = some (.int .i64 mv) := fun W hW => (Z1.out.below hW Z1.out.lt).cell 0
  have k15 : ∀ W, Below v3.heap.size v3 W → W.cell? ⟨w.heap.size, 1, none⟩ = some (.slice a1 m1 c1) := fun W hW => (Z1.out.below hW Z1.out.lt).cell 1
  have k16 : ∀ W, Below v3.heap.size v3 W → W.cell? ⟨v2.heap.size, 0, none⟩ = some (.int .i64 mv) := fun W hW => (ZL.out.below hW ZL.out.lt).cell 0
  have k17 : ∀ W, Below v3.heap.size v3 W → W.cell? ⟨v2.heap.size, 1, none⟩ = some (.slice aL mL dL) := fun W hW => (ZL.out.below hW ZL.out.lt).cell 1
  have qa := Lib.hid (fun W (hW : Below v3.heap.size v3 W) => SV.out.below hW)
  have ql := Lib.hid (fun W (hW : Below v3.heap.size v3 W) => TL.out.below hW)
  have q1 := Lib.hid (fun W (hW : Below v3.heap.size v3 W) => S1.out.below hW)
  refine wp_drawn_on (fun W => Below v3.heap.size v3 W) (by kernel_rfl) (below_drew (Below.refl _ _)) (fun hHeld => ?_)
  refine wpAnyH_take (i := 0) (oi := { dst := some 82, op := Go.Op.load 24 (Go.Operand.tmp 13), type := 24, pos := "law.go:158", after := #[], guard := none }) (v := ?v19) rfl (by kernel_rfl) (by kernel_rfl) (by kernel_rfl) (fun _ _ _ h => h) (Or.inl ⟨by kernel_rfl, ?h19⟩) (by assumption) ?r19
  case h19 => (intro w hSw; (try dsimp only at hSw); go_simp; try with_reducible rfl)
  try simp only [Act.put, List.setIfInBounds_toArray, List.set_cons_zero, List.set_cons_succ]
  refine wpAnyH_take (i := 1) (oi := { dst := some 83, op := Go.Op.move (Go.Operand.tmp 1), type := 22, pos := "law.go:158", after := #[], guard := none }) (v := ?v20) rfl (by kernel_rfl) (by kernel_rfl) (by kernel_rfl) (fun _ _ _ h => h) (Or.inl ⟨by kernel_rfl, ?h20⟩) (by assumption) ?r20
  case h20 => (intro w hSw; (try dsimp only at hSw); go_simp; try with_reducible rfl)
  try simp only [Act.put, List.setIfInBounds_toArray, List.set_cons_zero, List.set_cons_succ]
  refine wpAnyH_take (i := 3) (oi := { dst := some 85, op := Go.Op.move (Go.Operand.tmp 15), type := 3, pos := "law.go:158", after := #[], guard := none }) (v := ?v21) rfl (by kernel_rfl) (by kernel_rfl) (by kernel_rfl) (fun _ _ _ h => h) (Or.inl ⟨by kernel_rfl, ?h21⟩) (by assumption) ?r21
  case h21 => (intro w hSw; (try dsimp only at hSw); go_simp; try with_reducible rfl)
  try simp only [Act.put, List.setIfInBounds_toArray, List.set_cons_zero, List.set_cons_succ]
  refine wpAnyH_ready (rs := [2]) (by kernel_rfl) (by simp) ?_
  refine AllReadyH.cons (o := { dst := some 84, op := Go.Op.call { callee := Go.Callee.value (Go.Operand.func 35), args := #[Go.Operand.tmp 82, Go.Operand.tmp 83], argTypes := #[24, 22] }, type := 4, pos := "law.go:158", after := #[{ on := 0, ground := Go.Ground.data }, { on := 1, ground := Go.Ground.data }], guard := none }) rfl (fun K hK => ?_) AllReadyH.nil
  go_simp
  with_reducible refine (QHL.out _ aL dL (ql.out _ hHeld) (qa.out _ hHeld)).mono ?_
  rintro e t2 ⟨rfl, b2⟩
  go_simp
  refine hK.out _ _ (hHeld.trans (b2.mono hHeld.size)) (fun hHeld => ?_)
  clear hK K
  try simp only [Act.put, List.setIfInBounds_toArray, List.set_cons_zero, List.set_cons_succ]
  refine wpAnyH_ready (rs := [4]) (by kernel_rfl) (by simp) ?_
  refine AllReadyH.cons (o := { dst := some 86, op := Go.Op.call { callee := Go.Callee.value (Go.Operand.func 43), args := #[Go.Operand.tmp 85], argTypes := #[3] }, type := 4, pos := "law.go:158", after := #[{ on := 3, ground := Go.Ground.data }, { on := 2, ground := Go.Ground.chain }], guard := none }) rfl (fun K hK => ?_) AllReadyH.nil
  go_simp
  with_reducible refine (QB.out _).mono ?_
  rintro e t4 ⟨rfl, b4⟩
  have b4 := below_of_eq b4
  go_simp
  refine hK.out _ _ (hHeld.trans (b4.mono hHeld.size)) (fun hHeld => ?_)
  clear hK K
  try simp only [Act.put, List.setIfInBounds_toArray, List.set_cons_zero, List.set_cons_succ]
  refine wpAnyH_take (i := 5) (oi := { dst := some 87, op := Go.Op.move (Go.Operand.tmp 86), type := 4, pos := "law.go:158", after := #[{ on := 4, ground := Go.Ground.data }, { on := 4, ground := Go.Ground.chain }], guard := none }) (v := ?v22) rfl (by kernel_rfl) (by kernel_rfl) (by kernel_rfl) (fun _ _ _ h => h) (Or.inl ⟨by kernel_rfl, ?h22⟩) (by assumption) ?r22
  case h22 => (intro w hSw; (try dsimp only at hSw); go_simp; try with_reducible rfl)
  try simp only [Act.put, List.setIfInBounds_toArray, List.set_cons_zero, List.set_cons_succ]
  refine wpAnyH_take (i := 6) (oi := { dst := some 88, op := Go.Op.move (Go.Operand.tmp 1), type := 22, pos := "law.go:158", after := #[{ on := 5, ground := Go.Ground.guard }], guard := some (5, true) }) (v := ?v23) rfl (by kernel_rfl) (by kernel_rfl) (by kernel_rfl) (fun _ _ _ h => h) (Or.inl ⟨by kernel_rfl, ?h23⟩) (by assumption) ?r23
  case h23 => (intro w hSw; (try dsimp only at hSw); go_simp; try with_reducible rfl)
  try simp only [Act.put, List.setIfInBounds_toArray, List.set_cons_zero, List.set_cons_succ]
  refine wpAnyH_take (i := 7) (oi := { dst := some 89, op := Go.Op.move (Go.Operand.tmp 2), type := 3, pos := "law.go:158", after := #[{ on := 5, ground := Go.Ground.guard }], guard := some (5, true) }) (v := ?v24) rfl (by kernel_rfl) (by kernel_rfl) (by kernel_rfl) (fun _ _ _ h => h) (Or.inl ⟨by kernel_rfl, ?h24⟩) (by assumption) ?r24
  case h24 => (intro w hSw; (try dsimp only at hSw); go_simp; try with_reducible rfl)
  try simp only [Act.put, List.setIfInBounds_toArray, List.set_cons_zero, List.set_cons_succ]
  refine wpAnyH_ready (rs := [8]) (by kernel_rfl) (by simp) ?_
  refine AllReadyH.cons (o := { dst := some 90, op := Go.Op.call { callee := Go.Callee.value (Go.Operand.func 39), args := #[Go.Operand.tmp 88, Go.Operand.tmp 89], argTypes := #[22, 3] }, type := 3, pos := "law.go:158", after := #[{ on := 6, ground := Go.Ground.data }, { on := 7, ground := Go.Ground.data }, { on := 5, ground := Go.Ground.chain }, { on := 5, ground := Go.Ground.guard }], guard := some (5, true) }) rfl (fun K hK => ?_) AllReadyH.nil
  go_simp
  with_reducible refine (QVi.out _ (qa.out _ hHeld)).mono ?_
  rintro e t8 ⟨rfl, b8⟩
  have b8 := below_of_eq b8
  go_simp
  refine hK.out _ _ (hHeld.trans (b8.mono hHeld.size)) (fun hHeld => ?_)
  clear hK K
  try simp only [Act.put, List.setIfInBounds_toArray, List.set_cons_zero, List.set_cons_succ]
  refine wpAnyH_ready (rs := [9]) (by kernel_rfl) (by simp) ?_
  refine AllReadyH.cons (o := { dst := some 91, op := Go.Op.call { callee := Go.Callee.value (Go.Operand.func 43), args := #[Go.Operand.tmp 90], argTypes := #[3] }, type := 4, pos := "law.go:158", after := #[{ on := 8, ground := Go.Ground.data }, { on := 8, ground := Go.Ground.chain }, { on := 5, ground := Go.Ground.guard }], guard := some (5, true) }) rfl (fun K hK => ?_) AllReadyH.nil
  go_simp
  with_reducible refine (QS.out _).mono ?_
  rintro e t9 ⟨rfl, b9⟩
  have b9 := below_of_eq b9
  go_simp
  refine hK.out _ _ (hHeld.trans (b9.mono hHeld.size)) (fun hHeld => ?_)
  clear hK K
  try simp only [Act.put, List.setIfInBounds_toArray, List.set_cons_zero, List.set_cons_succ]
  refine wpAnyH_take (i := 10) (oi := { dst := some 92, op := Go.Op.pick (Go.Operand.tmp 87) (Go.Operand.tmp 91) (Go.Operand.const (Go.Value.bool false)), type := 4, pos := "law.go:158", after := #[{ on := 5, ground := Go.Ground.data }, { on := 9, ground := Go.Ground.data }], guard := none }) (v := ?v25) rfl (by kernel_rfl) (by kernel_rfl) (by kernel_rfl) (fun _ _ _ h => h) (Or.inl ⟨by kernel_rfl, ?h25⟩) (by assumption) ?r25
  case h25 => (intro w hSw; (try dsimp only at hSw); go_simp; try with_reducible rfl)
  try simp only [Act.put, List.setIfInBounds_toArray, List.set_cons_zero, List.set_cons_succ]
  refine wpAnyH_take (i := 11) (oi := { dst := some 93, op := Go.Op.move (Go.Operand.tmp 92), type := 4, pos := "law.go:158", after := #[{ on := 10, ground := Go.Ground.data }, { on := 9, ground := Go.Ground.chain }], guard := none }) (v := ?v26) rfl (by kernel_rfl) (by kernel_rfl) (by kernel_rfl) (fun _ _ _ h => h) (Or.inl ⟨by kernel_rfl, ?h26⟩) (by assumption) ?r26
  case h26 => (intro w hSw; (try dsimp only at hSw); go_simp; try with_reducible rfl)
  try simp only [Act.put, List.setIfInBounds_toArray, List.set_cons_zero, List.set_cons_succ]
  refine wpAnyH_take (i := 12) (oi := { dst := some 94, op := Go.Op.load 24 (Go.Operand.tmp 5), type := 24, pos := "law.go:158", after := #[{ on := 11, ground := Go.Ground.guard }], guard := some (11, true) }) (v := undef) rfl (by kernel_rfl) (by kernel_rfl) (by kernel_rfl) (fun _ _ _ h => h) (Or.inr ⟨by kernel_rfl, rfl⟩) (by assumption) ?_
  try simp only [Act.put, List.setIfInBounds_toArray, List.set_cons_zero, List.set_cons_succ]
  refine wpAnyH_take (i := 13) (oi := { dst := some 95, op := Go.Op.move (Go.Operand.tmp 1), type := 22, pos := "law.go:158", after := #[{ on := 11, ground := Go.Ground.guard }], guard := some (11, true) }) (v := undef) rfl (by kernel_rfl) (by kernel_rfl) (by kernel_rfl) (fun _ _ _ h => h) (Or.inr ⟨by kernel_rfl, rfl⟩) (by assumption) ?_
  try simp only [Act.put, List.setIfInBounds_toArray, List.set_cons_zero, List.set_cons_succ]
  refine wpAnyH_take (i := 14) (oi := { dst := some 96, op := Go.Op.move (Go.Operand.tmp 2), type := 3, pos := "law.go:158", after := #[{ on := 11, ground := Go.Ground.guard }], guard := some (11, true) }) (v := undef) rfl (by kernel_rfl) (by kernel_rfl) (by kernel_rfl) (fun _ _ _ h => h) (Or.inr ⟨by kernel_rfl, rfl⟩) (by assumption) ?_
  try simp only [Act.put, List.setIfInBounds_toArray, List.set_cons_zero, List.set_cons_succ]
  refine wpAnyH_take (i := 15) (oi := { dst := some 97, op := Go.Op.move (Go.Operand.tmp 15), type := 3, pos := "law.go:158", after := #[{ on := 11, ground := Go.Ground.guard }], guard := some (11, true) }) (v := undef) rfl (by kernel_rfl) (by kernel_rfl) (by kernel_rfl) (fun _ _ _ h => h) (Or.inr ⟨by kernel_rfl, rfl⟩) (by assumption) ?_
  try simp only [Act.put, List.setIfInBounds_toArray, List.set_cons_zero, List.set_cons_succ]
  refine wpAnyH_take (i := 16) (oi := { dst := some 98, op := Go.Op.call { callee := Go.Callee.value (Go.Operand.func 42), args := #[Go.Operand.tmp 95, Go.Operand.tmp 96, Go.Operand.tmp 97], argTypes := #[22, 3, 3] }, type := 22, pos := "law.go:158", after := #[{ on := 13, ground := Go.Ground.data }, { on := 14, ground := Go.Ground.data }, { on := 15, ground := Go.Ground.data }, { on := 11, ground := Go.Ground.chain }, { on := 11, ground := Go.Ground.guard }], guard := some (11, true) }) (v := undef) rfl (by kernel_rfl) (by kernel_rfl) (by kernel_rfl) (fun _ _ _ h => h) (Or.inr ⟨by kernel_rfl, rfl⟩) (by assumption) ?_
  try simp only [Act.put, List.setIfInBounds_toArray, List.set_cons_zero, List.set_cons_succ]
  refine wpAnyH_take (i := 17) (oi := { dst := some 99, op := Go.Op.call { callee := Go.Callee.value (Go.Operand.func 35), args := #[Go.Operand.tmp 94, Go.Operand.tmp 98], argTypes := #[24, 22] }, type := 4, pos := "law.go:158", after := #[{ on := 12, ground := Go.Ground.data }, { on := 16, ground := Go.Ground.data }, { on := 16, ground := Go.Ground.chain }, { on := 11, ground := Go.Ground.guard }], guard := some (11, true) }) (v := undef) rfl (by kernel_rfl) (by kernel_rfl) (by kernel_rfl) (fun _ _ _ h => h) (Or.inr ⟨by kernel_rfl, rfl⟩) (by assumption) ?_
  try simp only [Act.put, List.setIfInBounds_toArray, List.set_cons_zero, List.set_cons_succ]
  refine wpAnyH_take (i := 18) (oi := { dst := some 100, op := Go.Op.pick (Go.Operand.tmp 93) (Go.Operand.tmp 99) (Go.Operand.const (Go.Value.bool false)), type := 4, pos := "law.go:158", after := #[{ on := 11, ground := Go.Ground.data }, { on := 17, ground := Go.Ground.data }], guard := none }) (v := ?v33) rfl (by kernel_rfl) (by kernel_rfl) (by kernel_rfl) (fun _ _ _ h => h) (Or.inl ⟨by kernel_rfl, ?h33⟩) (by assumption) ?r33
  case h33 => (intro w hSw; (try dsimp only at hSw); go_simp; try with_reducible rfl)
  try simp only [Act.put, List.setIfInBounds_toArray, List.set_cons_zero, List.set_cons_succ]
  refine wpAnyH_take (i := 19) (oi := { dst := some 101, op := Go.Op.binOp Go.BinOp.neq 4 (Go.Operand.tmp 84) (Go.Operand.tmp 100) 4, type := 4, pos := "law.go:158", after := #[{ on := 2, ground := Go.Ground.data }, { on := 18, ground := Go.Ground.data }], guard := none }) (v := ?v34) rfl (by kernel_rfl) (by kernel_rfl) (by kernel_rfl) (fun _ _ _ h => h) (Or.inl ⟨by kernel_rfl, ?h34⟩) (by assumption) ?r34
  case h34 => (intro w hSw; (try dsimp only at hSw); go_simp; try with_reducible rfl)
  try simp only [Act.put, List.setIfInBounds_toArray, List.set_cons_zero, List.set_cons_succ]
  refine wpAnyH_done (by kernel_rfl) ?_ _
  clear k14 k15 k16 k17
  replace Z1 := Lib.hid (Z1.out.below hHeld Z1.out.lt)
  replace ZF := Lib.hid (ZF.out.below hHeld ZF.out.lt)
  replace ZL := Lib.hid (ZL.out.below hHeld ZL.out.lt)
  replace BL := Lib.hid (BL.out.trans (hHeld.mono BL.out.size))
  replace S1 := Lib.hid (S1.out.below hHeld)
  replace SV := Lib.hid (SV.out.below hHeld)
  replace TF := Lib.hid (TF.out.below hHeld)
  replace TL := Lib.hid (TL.out.below hHeld)
  clear hHeld qa ql q1 QHL QB QS
  have k18 := ZF.out.cell 0
  have k19 := ZF.out.cell 1
  have q := Lib.hid (QHF.out _ aF dF TF.out SV.out)
  go_wp2_with fail
  with_reducible refine q.out.mono ?_
  rintro e v5 ⟨rfl, b5⟩
  clear k18 k19
  clear q QHF
  replace Z1 := Lib.hid (Z1.out.below b5 Z1.out.lt)
  replace ZF := Lib.hid (ZF.out.below b5 ZF.out.lt)
  replace ZL := Lib.hid (ZL.out.below b5 ZL.out.lt)
  replace BL := Lib.hid (BL.out.trans (b5.mono BL.out.size))
  replace S1 := Lib.hid (S1.out.below b5)
  replace SV := Lib.hid (SV.out.below b5)
  replace TF := Lib.hid (TF.out.below b5)
  replace TL := Lib.hid (TL.out.below b5)
  clear b5
  go_wp2
  go_ret
  exact ⟨rfl, BL.out⟩
set_option maxRecDepth 100000 in
set_option maxHeartbeats 8000000 in
theorem steps_etff (i : Nat) (c : Int) (a1 av : Option Addr) (m1 mv c1 cv : Nat) (l1 v : List Int) (w : World) (h1 : SL w a1 m1 c1 l1) (hv : SL w av mv cv v) (g1 : ¬ 200 < m1) (g2 : ¬ 8 < mv) (z1 : IsZ mv l1) (hi0 : 1 ≤ i) (hi : i ≤ mv) (hc : farB c = false) (hhf : hasB mv (forgetL mv l1 i) v = false) (hsv : farB (valF v i) = false) (hsb : farB (IntKind.i64.wrap (valF v i - c)) = true) : Calls Try.prog 7 #[.agg #[.int .i64 mv, .slice a1 m1 c1], .slice av mv cv, .int .i64 i, .int .i64 i, .int .i64 c] w (Gives (.bool true) w) := by
  have hvl : v.length = mv := hv.len.symm
  have g2i : ¬ (8 : Int) < (mv : Int) := by omega
  have hck := Lib.hid z1.check
  have his : Hid ((!farB c) = true) := Lib.hid (by rw [hc]; rfl)
  have hvar : Hid ((decide (1 ≤ (i : Int)) && decide ((i : Int) ≤ (mv : Int))) = true) := Lib.hid (by simp; omega)
  have hor : Hid ((decide (0 ≤ (i : Int)) && decide ((i : Int) ≤ (mv : Int))) = true) := Lib.hid (by simp; omega)
  have H1 := Lib.hid h1
  have HV := Lib.hid hv
  have bc : -1099511627776 ≤ c ∧ c ≤ 1099511627776 := by unfold farB at hc; simp at hc; omega
  have zF : IsZ mv (forgetL mv l1 i) := forgetL_isz z1.1 _ _
  obtain ⟨mF, hmF⟩ : ∃ x, x = (forgetL mv l1 i).length := ⟨_, rfl⟩
  have rF : mF ≤ 81 := by rw [hmF]; exact zF.small
  have QF := Lib.hid (fun W (hW : Below w.heap.size w W) => (zforget_ok mv l1 z1 i hi0 hi a1 m1 c1 W (H1.out.below hW)).mono (fun e w' h => ends_of (m := mF) hmF.symm (by omega) h))
  have zL : IsZ mv (letL mv l1 i i c) := letL_isz z1.1 _ _ _ _
  obtain ⟨mL, hmL⟩ : ∃ x, x = (letL mv l1 i i c).length := ⟨_, rfl⟩
  have rL : mL ≤ 81 := by rw [hmL]; exact zL.small
  have QL := Lib.hid (fun W (hW : Below w.heap.size w W) => (zlet_ok mv l1 z1 i i hi0 hi hi c a1 m1 c1 W (H1.out.below hW)).mono (fun e w' h => ends_of (m := mL) hmL.symm (by omega) h))
  have fm := fact_mov z1 hvl hi0 hi c
  have bv : -1099511627776 ≤ valF v i ∧ valF v i ≤ 1099511627776 := by unfold farB at hsv; simp at hsv; omega
  have hwr : IntKind.i64.wrap (valF v i - c) = valF v i - c := IntWalk.i64_in _ (by omega)
  rw [hwr] at hsb
  rw [hsb, hsv] at fm
  simp only [Bool.not_false, Bool.not_true, Bool.true_and, Bool.false_and] at fm
  have QHL : Hid (∀ W a cz, SL W a mL cz (letL mv l1 i i c) → SL W av mv cv v → Calls Try.prog 35 #[.agg #[.int .i64 mv, .slice a mL cz], .slice av mv cv] W (Gives (.bool (false)) W)) := Lib.hid (fun W a cz hS hV => by have := has_any mv a mL cz _ av mv cv v W hS hV; rwa [fm] at this)
  have QB := Lib.hid (fun W => by have := is_any (valF v i - c) W; rwa [hsb] at this)
  have QS := Lib.hid (fun W => by have := is_any (valF v i) W; rwa [hsv] at this)
  have QHF : Hid (∀ W a cz, SL W a mF cz (forgetL mv l1 i) → SL W av mv cv v → Calls Try.prog 35 #[.agg #[.int .i64 mv, .slice a mF cz], .slice av mv cv] W (Gives (.bool (false)) W)) := Lib.hid (fun W a cz hS hV => by have := has_any mv a mF cz _ av mv cv v W hS hV; rwa [hhf] at this)
  have QVk := Lib.hid (fun k (hk : k ≤ mv) W (hV : SL W av mv cv v) => lval_any av v mv cv hvl.symm (by omega) k hk W.heap.size W hV.sees)
  have QVi := Lib.hid (fun W (hV : SL W av mv cv v) => QVk.out i hi W hV)
  clear hc hhf hwr fm hsv hsb zF hmF zL hmL
  clear z1 hi0 hi hvl
  generalize forgetL mv l1 i = LF at *
  generalize letL mv l1 i i c = LL at *
  obtain ⟨x, hx⟩ : ∃ x, x = valF v i := ⟨_, rfl⟩
  rw [← hx] at QVi QS bv QB
  clear hx
  obtain ⟨W1, hW1⟩ : ∃ W1, W1 = w.alloc (.cells #[.int .i64 mv, .slice a1 m1 c1] 24) := ⟨_, rfl⟩
  have Z1 : Hid (Holds W1 (w.heap.size) 24 #[.int .i64 mv, .slice a1 m1 c1]) := Lib.hid (by rw [hW1]; exact Holds.new w _ _)
  have BL := Lib.hid (show Below w.heap.size w W1 by rw [hW1]; exact box_below _ _ _)
  have S1 := Lib.hid (h1.below BL.out)
  have SV := Lib.hid (hv.below BL.out)
  have hW1' := Lib.hid hW1
  clear hW1
  clear h1 hv
  go_enter Try.func7, Try.ntmps7
  have k1 := Z1.out.cell 0
  have k2 := Z1.out.cell 1
  have q := Lib.hid (by have := large_any a1 m1 c1 S1.out.max W1; rwa [decide_eq_false (show ¬ (200 : Int) < (m1 : Int) by omega)] at this)
  go_wp2_with fail
  rw [← hW1'.out]
  with_reducible refine q.out.mono ?_
  rintro e u1 ⟨rfl, rfl⟩
  clear hW1'
  clear q
  have q := Lib.hid (by have := rcheck_any mv a1 m1 c1 l1 W1 S1.out; rwa [hck.out] at this)
  go_wp2_with fail
  with_reducible refine q.out.mono ?_
  rintro e u2 ⟨rfl, b2⟩
  clear k1 k2
  clear q
  have k3 : u2.cell? ⟨w.heap.size, 0, none⟩ = some (.int .i64 mv) := (Z1.out.below b2 Z1.out.lt).cell 0
  have k4 : u2.cell? ⟨w.heap.size, 1, none⟩ = some (.slice a1 m1 c1) := (Z1.out.below b2 Z1.out.lt).cell 1
  replace Z1 := Lib.hid (Z1.out.below b2 Z1.out.lt)
  replace BL := Lib.hid (BL.out.trans (b2.mono BL.out.size))
  replace S1 := Lib.hid (S1.out.below b2)
  replace SV := Lib.hid (SV.out.below b2)
  clear b2
  have q := Lib.hid (by have := rvar_any mv i a1 m1 c1 u2; rwa [hvar.out] at this)
  go_wp2_with fail
  with_reducible refine q.out.mono ?_
  rintro e u3 ⟨rfl, b3⟩
  clear k3 k4
  clear q
  have k5 : u3.cell? ⟨w.heap.size, 0, none⟩ = some (.int .i64 mv) := (Z1.out.below b3 Z1.out.lt).cell 0
  have k6 : u3.cell? ⟨w.heap.size, 1, none⟩ = some (.slice a1 m1 c1) := (Z1.out.below b3 Z1.out.lt).cell 1
  replace Z1 := Lib.hid (Z1.out.below b3 Z1.out.lt)
  replace BL := Lib.hid (BL.out.trans (b3.mono BL.out.size))
  replace S1 := Lib.hid (S1.out.below b3)
  replace SV := Lib.hid (SV.out.below b3)
  clear b3
  have q := Lib.hid (by have := ror0_any mv i a1 m1 c1 u3; rwa [hor.out] at this)
  go_wp2_with fail
  with_reducible refine q.out.mono ?_
  rintro e u4 ⟨rfl, b4⟩
  clear k5 k6
  clear q
  have k7 : u4.cell? ⟨w.heap.size, 0, none⟩ = some (.int .i64 mv) := (Z1.out.below b4 Z1.out.lt).cell 0
  have k8 : u4.cell? ⟨w.heap.size, 1, none⟩ = some (.slice a1 m1 c1) := (Z1.out.below b4 Z1.out.lt).cell 1
  replace Z1 := Lib.hid (Z1.out.below b4 Z1.out.lt)
  replace BL := Lib.hid (BL.out.trans (b4.mono BL.out.size))
  replace S1 := Lib.hid (S1.out.below b4)
  replace SV := Lib.hid (SV.out.below b4)
  clear b4
  have q := Lib.hid (by have := is_any c u4; rwa [his.out] at this)
  go_wp2_with fail
  with_reducible refine q.out.mono ?_
  rintro e u1 ⟨rfl, rfl⟩
  clear q
  clear k7 k8
  have k9 := Z1.out.cell 0
  have k10 := Z1.out.cell 1
  have q := Lib.hid (QF.out _ BL.out)
  go_wp2_with fail
  with_reducible refine q.out.mono ?_
  rintro e v1 ⟨aF, dF, rfl, sF, bF⟩
  clear k9 k10
  clear q QF
  have k11 : v1.cell? ⟨w.heap.size, 0, none⟩ = some (.int .i64 mv) := (Z1.out.below bF Z1.out.lt).cell 0
  have k12 : v1.cell? ⟨w.heap.size, 1, none⟩ = some (.slice a1 m1 c1) := (Z1.out.below bF Z1.out.lt).cell 1
  have k13 : w.heap.size < v1.heap.size := (Z1.out.below bF Z1.out.lt).lt
  have B0 := box_below v1 #[.int .i64 mv, .slice aF mF dF] 24
  have B := bF.trans (B0.mono bF.size)
  replace Z1 := Lib.hid (Z1.out.below B Z1.out.lt)
  replace BL := Lib.hid (BL.out.trans (B.mono BL.out.size))
  replace S1 := Lib.hid (S1.out.below B)
  replace SV := Lib.hid (SV.out.below B)
  have ZF := Lib.hid (Holds.new v1 24 #[.int .i64 mv, .slice aF mF dF])
  have TF := Lib.hid (sF.below B0)
  clear bF B B0 sF
  have q := Lib.hid (QL.out _ BL.out)
  go_wp2_with fail
  with_reducible refine q.out.mono ?_
  rintro e v2 ⟨aL, dL, rfl, sL, bL⟩
  clear k11 k12 k13
  clear q QL
  have B0 := box_below v2 #[.int .i64 mv, .slice aL mL dL] 24
  have B := bL.trans (B0.mono bL.size)
  replace Z1 := Lib.hid (Z1.out.below B Z1.out.lt)
  replace ZF := Lib.hid (ZF.out.below B ZF.out.lt)
  replace BL := Lib.hid (BL.out.trans (B.mono BL.out.size))
  replace S1 := Lib.hid (S1.out.below B)
  replace SV := Lib.hid (SV.out.below B)
  replace TF := Lib.hid (TF.out.below B)
  have ZL := Lib.hid (Holds.new v2 24 #[.int .i64 mv, .slice aL mL dL])
  have TL := Lib.hid (sL.below B0)
  clear bL B B0 sL
  have q := Lib.hid (zlivesAt w _ BL.out)
  go_wp2_with fail
  with_reducible refine q.out.mono ?_
  rintro e v3 ⟨rfl, b3, -⟩
  clear q
  replace Z1 := Lib.hid (Z1.out.below b3 Z1.out.lt)
  replace ZF := Lib.hid (ZF.out.below b3 ZF.out.lt)
  replace ZL := Lib.hid (ZL.out.below b3 ZL.out.lt)
  replace BL := Lib.hid (BL.out.trans (b3.mono BL.out.size))
  replace S1 := Lib.hid (S1.out.below b3)
  replace SV := Lib.hid (SV.out.below b3)
  replace TF := Lib.hid (TF.out.below b3)
  replace TL := Lib.hid (TL.out.below b3)
  clear b3
  have q := Lib.hid (QVi.out _ SV.out)
  go_wp2_with fail
  with_reducible refine q.out.mono ?_
  rintro e u1 ⟨rfl, rfl⟩
  clear q
  go_wp2
  have k14 : ∀ W, Below v3.heap.size v3 W → W.cell? ⟨w.heap.size, 0, none⟩ = some (.int .i64 mv) := fun W hW => (Z1.out.below hW Z1.out.lt).cell 0
  have k15 : ∀ W, Below v3.heap.size v3 W → W.cell? ⟨w.heap.size, 1, none⟩ = some (.slice a1 m1 c1) := fun W hW => (Z1.out.below hW Z1.out.lt).cell 1
  have k16 : ∀ W, Below v3.heap.size v3 W → W.cell? ⟨v2.heap.size, 0, none⟩ = some (.int .i64 mv) := fun W hW => (ZL.out.below hW ZL.out.lt).cell 0
  have k17 : ∀ W, Below v3.heap.size v3 W → W.cell? ⟨v2.heap.size, 1, none⟩ = some (.slice aL mL dL) := fun W hW => (ZL.out.below hW ZL.out.lt).cell 1
  have qa := Lib.hid (fun W (hW : Below v3.heap.size v3 W) => SV.out.below hW)
  have ql := Lib.hid (fun W (hW : Below v3.heap.size v3 W) => TL.out.below hW)
  have q1 := Lib.hid (fun W (hW : Below v3.heap.size v3 W) => S1.out.below hW)
  refine wp_drawn_on (fun W => Below v3.heap.size v3 W) (by kernel_rfl) (below_drew (Below.refl _ _)) (fun hHeld => ?_)
  refine wpAnyH_take (i := 0) (oi := { dst := some 82, op := Go.Op.load 24 (Go.Operand.tmp 13), type := 24, pos := "law.go:158", after := #[], guard := none }) (v := ?v35) rfl (by kernel_rfl) (by kernel_rfl) (by kernel_rfl) (fun _ _ _ h => h) (Or.inl ⟨by kernel_rfl, ?h35⟩) (by assumption) ?r35
  case h35 => (intro w hSw; (try dsimp only at hSw); go_simp; try with_reducible rfl)
  try simp only [Act.put, List.setIfInBounds_toArray, List.set_cons_zero, List.set_cons_succ]
  refine wpAnyH_take (i := 1) (oi := { dst := some 83, op := Go.Op.move (Go.Operand.tmp 1), type := 22, pos := "law.go:158", after := #[], guard := none }) (v := ?v36) rfl (by kernel_rfl) (by kernel_rfl) (by kernel_rfl) (fun _ _ _ h => h) (Or.inl ⟨by kernel_rfl, ?h36⟩) (by assumption) ?r36
  case h36 => (intro w hSw; (try dsimp only at hSw); go_simp; try with_reducible rfl)
  try simp only [Act.put, List.setIfInBounds_toArray, List.set_cons_zero, List.set_cons_succ]
  refine wpAnyH_take (i := 3) (oi := { dst := some 85, op := Go.Op.move (Go.Operand.tmp 15), type := 3, pos := "law.go:158", after := #[], guard := none }) (v := ?v37) rfl (by kernel_rfl) (by kernel_rfl) (by kernel_rfl) (fun _ _ _ h => h) (Or.inl ⟨by kernel_rfl, ?h37⟩) (by assumption) ?r37
  case h37 => (intro w hSw; (try dsimp only at hSw); go_simp; try with_reducible rfl)
  try simp only [Act.put, List.setIfInBounds_toArray, List.set_cons_zero, List.set_cons_succ]
  refine wpAnyH_ready (rs := [2]) (by kernel_rfl) (by simp) ?_
  refine AllReadyH.cons (o := { dst := some 84, op := Go.Op.call { callee := Go.Callee.value (Go.Operand.func 35), args := #[Go.Operand.tmp 82, Go.Operand.tmp 83], argTypes := #[24, 22] }, type := 4, pos := "law.go:158", after := #[{ on := 0, ground := Go.Ground.data }, { on := 1, ground := Go.Ground.data }], guard := none }) rfl (fun K hK => ?_) AllReadyH.nil
  go_simp
  with_reducible refine (QHL.out _ aL dL (ql.out _ hHeld) (qa.out _ hHeld)).mono ?_
  rintro e t2 ⟨rfl, b2⟩
  go_simp
  refine hK.out _ _ (hHeld.trans (b2.mono hHeld.size)) (fun hHeld => ?_)
  clear hK K
  try simp only [Act.put, List.setIfInBounds_toArray, List.set_cons_zero, List.set_cons_succ]
  refine wpAnyH_ready (rs := [4]) (by kernel_rfl) (by simp) ?_
  refine AllReadyH.cons (o := { dst := some 86, op := Go.Op.call { callee := Go.Callee.value (Go.Operand.func 43), args := #[Go.Operand.tmp 85], argTypes := #[3] }, type := 4, pos := "law.go:158", after := #[{ on := 3, ground := Go.Ground.data }, { on := 2, ground := Go.Ground.chain }], guard := none }) rfl (fun K hK => ?_) AllReadyH.nil
  go_simp
  with_reducible refine (QB.out _).mono ?_
  rintro e t4 ⟨rfl, b4⟩
  have b4 := below_of_eq b4
  go_simp
  refine hK.out _ _ (hHeld.trans (b4.mono hHeld.size)) (fun hHeld => ?_)
  clear hK K
  try simp only [Act.put, List.setIfInBounds_toArray, List.set_cons_zero, List.set_cons_succ]
  refine wpAnyH_take (i := 5) (oi := { dst := some 87, op := Go.Op.move (Go.Operand.tmp 86), type := 4, pos := "law.go:158", after := #[{ on := 4, ground := Go.Ground.data }, { on := 4, ground := Go.Ground.chain }], guard := none }) (v := ?v38) rfl (by kernel_rfl) (by kernel_rfl) (by kernel_rfl) (fun _ _ _ h => h) (Or.inl ⟨by kernel_rfl, ?h38⟩) (by assumption) ?r38
  case h38 => (intro w hSw; (try dsimp only at hSw); go_simp; try with_reducible rfl)
  try simp only [Act.put, List.setIfInBounds_toArray, List.set_cons_zero, List.set_cons_succ]
  refine wpAnyH_take (i := 6) (oi := { dst := some 88, op := Go.Op.move (Go.Operand.tmp 1), type := 22, pos := "law.go:158", after := #[{ on := 5, ground := Go.Ground.guard }], guard := some (5, true) }) (v := undef) rfl (by kernel_rfl) (by kernel_rfl) (by kernel_rfl) (fun _ _ _ h => h) (Or.inr ⟨by kernel_rfl, rfl⟩) (by assumption) ?_
  try simp only [Act.put, List.setIfInBounds_toArray, List.set_cons_zero, List.set_cons_succ]
  refine wpAnyH_take (i := 7) (oi := { dst := some 89, op := Go.Op.move (Go.Operand.tmp 2), type := 3, pos := "law.go:158", after := #[{ on := 5, ground := Go.Ground.guard }], guard := some (5, true) }) (v := undef) rfl (by kernel_rfl) (by kernel_rfl) (by kernel_rfl) (fun _ _ _ h => h) (Or.inr ⟨by kernel_rfl, rfl⟩) (by assumption) ?_
  try simp only [Act.put, List.setIfInBounds_toArray, List.set_cons_zero, List.set_cons_succ]
  refine wpAnyH_take (i := 8) (oi := { dst := some 90, op := Go.Op.call { callee := Go.Callee.value (Go.Operand.func 39), args := #[Go.Operand.tmp 88, Go.Operand.tmp 89], argTypes := #[22, 3] }, type := 3, pos := "law.go:158", after := #[{ on := 6, ground := Go.Ground.data }, { on := 7, ground := Go.Ground.data }, { on := 5, ground := Go.Ground.chain }, { on := 5, ground := Go.Ground.guard }], guard := some (5, true) }) (v := undef) rfl (by kernel_rfl) (by kernel_rfl) (by kernel_rfl) (fun _ _ _ h => h) (Or.inr ⟨by kernel_rfl, rfl⟩) (by assumption) ?_
  try simp only [Act.put, List.setIfInBounds_toArray, List.set_cons_zero, List.set_cons_succ]
  refine wpAnyH_take (i := 9) (oi := { dst := some 91, op := Go.Op.call { callee := Go.Callee.value (Go.Operand.func 43), args := #[Go.Operand.tmp 90], argTypes := #[3] }, type := 4, pos := "law.go:158", after := #[{ on := 8, ground := Go.Ground.data }, { on := 8, ground := Go.Ground.chain }, { on := 5, ground := Go.Ground.guard }], guard := some (5, true) }) (v := undef) rfl (by kernel_rfl) (by kernel_rfl) (by kernel_rfl) (fun _ _ _ h => h) (Or.inr ⟨by kernel_rfl, rfl⟩) (by assumption) ?_
  try simp only [Act.put, List.setIfInBounds_toArray, List.set_cons_zero, List.set_cons_succ]
  refine wpAnyH_take (i := 10) (oi := { dst := some 92, op := Go.Op.pick (Go.Operand.tmp 87) (Go.Operand.tmp 91) (Go.Operand.const (Go.Value.bool false)), type := 4, pos := "law.go:158", after := #[{ on := 5, ground := Go.Ground.data }, { on := 9, ground := Go.Ground.data }], guard := none }) (v := ?v43) rfl (by kernel_rfl) (by kernel_rfl) (by kernel_rfl) (fun _ _ _ h => h) (Or.inl ⟨by kernel_rfl, ?h43⟩) (by assumption) ?r43
  case h43 => (intro w hSw; (try dsimp only at hSw); go_simp; try with_reducible rfl)
  try simp only [Act.put, List.setIfInBounds_toArray, List.set_cons_zero, List.set_cons_succ]
  refine wpAnyH_take (i := 11) (oi := { dst := some 93, op := Go.Op.move (Go.Operand.tmp 92), type := 4, pos := "law.go:158", after := #[{ on := 10, ground := Go.Ground.data }, { on := 9, ground := Go.Ground.chain }], guard := none }) (v := ?v44) rfl (by kernel_rfl) (by kernel_rfl) (by kernel_rfl) (fun _ _ _ h => h) (Or.inl ⟨by kernel_rfl, ?h44⟩) (by assumption) ?r44
  case h44 => (intro w hSw; (try dsimp only at hSw); go_simp; try with_reducible rfl)
  try simp only [Act.put, List.setIfInBounds_toArray, List.set_cons_zero, List.set_cons_succ]
  refine wpAnyH_take (i := 12) (oi := { dst := some 94, op := Go.Op.load 24 (Go.Operand.tmp 5), type := 24, pos := "law.go:158", after := #[{ on := 11, ground := Go.Ground.guard }], guard := some (11, true) }) (v := undef) rfl (by kernel_rfl) (by kernel_rfl) (by kernel_rfl) (fun _ _ _ h => h) (Or.inr ⟨by kernel_rfl, rfl⟩) (by assumption) ?_
  try simp only [Act.put, List.setIfInBounds_toArray, List.set_cons_zero, List.set_cons_succ]
  refine wpAnyH_take (i := 13) (oi := { dst := some 95, op := Go.Op.move (Go.Operand.tmp 1), type := 22, pos := "law.go:158", after := #[{ on := 11, ground := Go.Ground.guard }], guard := some (11, true) }) (v := undef) rfl (by kernel_rfl) (by kernel_rfl) (by kernel_rfl) (fun _ _ _ h => h) (Or.inr ⟨by kernel_rfl, rfl⟩) (by assumption) ?_
  try simp only [Act.put, List.setIfInBounds_toArray, List.set_cons_zero, List.set_cons_succ]
  refine wpAnyH_take (i := 14) (oi := { dst := some 96, op := Go.Op.move (Go.Operand.tmp 2), type := 3, pos := "law.go:158", after := #[{ on := 11, ground := Go.Ground.guard }], guard := some (11, true) }) (v := undef) rfl (by kernel_rfl) (by kernel_rfl) (by kernel_rfl) (fun _ _ _ h => h) (Or.inr ⟨by kernel_rfl, rfl⟩) (by assumption) ?_
  try simp only [Act.put, List.setIfInBounds_toArray, List.set_cons_zero, List.set_cons_succ]
  refine wpAnyH_take (i := 15) (oi := { dst := some 97, op := Go.Op.move (Go.Operand.tmp 15), type := 3, pos := "law.go:158", after := #[{ on := 11, ground := Go.Ground.guard }], guard := some (11, true) }) (v := undef) rfl (by kernel_rfl) (by kernel_rfl) (by kernel_rfl) (fun _ _ _ h => h) (Or.inr ⟨by kernel_rfl, rfl⟩) (by assumption) ?_
  try simp only [Act.put, List.setIfInBounds_toArray, List.set_cons_zero, List.set_cons_succ]
  refine wpAnyH_take (i := 16) (oi := { dst := some 98, op := Go.Op.call { callee := Go.Callee.value (Go.Operand.func 42), args := #[Go.Operand.tmp 95, Go.Operand.tmp 96, Go.Operand.tmp 97], argTypes := #[22, 3, 3] }, type := 22, pos := "law.go:158", after := #[{ on := 13, ground := Go.Ground.data }, { on := 14, ground := Go.Ground.data }, { on := 15, ground := Go.Ground.data }, { on := 11, ground := Go.Ground.chain }, { on := 11, ground := Go.Ground.guard }], guard := some (11, true) }) (v := undef) rfl (by kernel_rfl) (by kernel_rfl) (by kernel_rfl) (fun _ _ _ h => h) (Or.inr ⟨by kernel_rfl, rfl⟩) (by assumption) ?_
  try simp only [Act.put, List.setIfInBounds_toArray, List.set_cons_zero, List.set_cons_succ]
  refine wpAnyH_take (i := 17) (oi := { dst := some 99, op := Go.Op.call { callee := Go.Callee.value (Go.Operand.func 35), args := #[Go.Operand.tmp 94, Go.Operand.tmp 98], argTypes := #[24, 22] }, type := 4, pos := "law.go:158", after := #[{ on := 12, ground := Go.Ground.data }, { on := 16, ground := Go.Ground.data }, { on := 16, ground := Go.Ground.chain }, { on := 11, ground := Go.Ground.guard }], guard := some (11, true) }) (v := undef) rfl (by kernel_rfl) (by kernel_rfl) (by kernel_rfl) (fun _ _ _ h => h) (Or.inr ⟨by kernel_rfl, rfl⟩) (by assumption) ?_
  try simp only [Act.put, List.setIfInBounds_toArray, List.set_cons_zero, List.set_cons_succ]
  refine wpAnyH_take (i := 18) (oi := { dst := some 100, op := Go.Op.pick (Go.Operand.tmp 93) (Go.Operand.tmp 99) (Go.Operand.const (Go.Value.bool false)), type := 4, pos := "law.go:158", after := #[{ on := 11, ground := Go.Ground.data }, { on := 17, ground := Go.Ground.data }], guard := none }) (v := ?v51) rfl (by kernel_rfl) (by kernel_rfl) (by kernel_rfl) (fun _ _ _ h => h) (Or.inl ⟨by kernel_rfl, ?h51⟩) (by assumption) ?r51
  case h51 => (intro w hSw; (try dsimp only at hSw); go_simp; try with_reducible rfl)
  try simp only [Act.put, List.setIfInBounds_toArray, List.set_cons_zero, List.set_cons_succ]
  refine wpAnyH_take (i := 19) (oi := { dst := some 101, op := Go.Op.binOp Go.BinOp.neq 4 (Go.Operand.tmp 84) (Go.Operand.tmp 100) 4, type := 4, pos := "law.go:158", after := #[{ on := 2, ground := Go.Ground.data }, { on := 18, ground := Go.Ground.data }], guard := none }) (v := ?v52) rfl (by kernel_rfl) (by kernel_rfl) (by kernel_rfl) (fun _ _ _ h => h) (Or.inl ⟨by kernel_rfl, ?h52⟩) (by assumption) ?r52
  case h52 => (intro w hSw; (try dsimp only at hSw); go_simp; try with_reducible rfl)
  try simp only [Act.put, List.setIfInBounds_toArray, List.set_cons_zero, List.set_cons_succ]
  refine wpAnyH_done (by kernel_rfl) ?_ _
  clear k14 k15 k16 k17
  replace Z1 := Lib.hid (Z1.out.below hHeld Z1.out.lt)
  replace ZF := Lib.hid (ZF.out.below hHeld ZF.out.lt)
  replace ZL := Lib.hid (ZL.out.below hHeld ZL.out.lt)
  replace BL := Lib.hid (BL.out.trans (hHeld.mono BL.out.size))
  replace S1 := Lib.hid (S1.out.below hHeld)
  replace SV := Lib.hid (SV.out.below hHeld)
  replace TF := Lib.hid (TF.out.below hHeld)
  replace TL := Lib.hid (TL.out.below hHeld)
  clear hHeld qa ql q1 QHL QB QS
  have k18 := ZF.out.cell 0
  have k19 := ZF.out.cell 1
  have q := Lib.hid (QHF.out _ aF dF TF.out SV.out)
  go_wp2_with fail
  with_reducible refine q.out.mono ?_
  rintro e v5 ⟨rfl, b5⟩
  clear k18 k19
  clear q QHF
  replace Z1 := Lib.hid (Z1.out.below b5 Z1.out.lt)
  replace ZF := Lib.hid (ZF.out.below b5 ZF.out.lt)
  replace ZL := Lib.hid (ZL.out.below b5 ZL.out.lt)
  replace BL := Lib.hid (BL.out.trans (b5.mono BL.out.size))
  replace S1 := Lib.hid (S1.out.below b5)
  replace SV := Lib.hid (SV.out.below b5)
  replace TF := Lib.hid (TF.out.below b5)
  replace TL := Lib.hid (TL.out.below b5)
  clear b5
  go_wp2
  go_ret
  exact ⟨rfl, BL.out⟩
set_option maxRecDepth 100000 in
set_option maxHeartbeats 8000000 in
theorem steps_etft (i : Nat) (c : Int) (a1 av : Option Addr) (m1 mv c1 cv : Nat) (l1 v : List Int) (w : World) (h1 : SL w a1 m1 c1 l1) (hv : SL w av mv cv v) (g1 : ¬ 200 < m1) (g2 : ¬ 8 < mv) (z1 : IsZ mv l1) (hi0 : 1 ≤ i) (hi : i ≤ mv) (hc : farB c = false) (hhf : hasB mv (forgetL mv l1 i) v = true) (hsv : farB (valF v i) = false) (hsb : farB (IntKind.i64.wrap (valF v i - c)) = true) : Calls Try.prog 7 #[.agg #[.int .i64 mv, .slice a1 m1 c1], .slice av mv cv, .int .i64 i, .int .i64 i, .int .i64 c] w (Gives (.bool true) w) := by
  have hvl : v.length = mv := hv.len.symm
  have g2i : ¬ (8 : Int) < (mv : Int) := by omega
  have hck := Lib.hid z1.check
  have his : Hid ((!farB c) = true) := Lib.hid (by rw [hc]; rfl)
  have hvar : Hid ((decide (1 ≤ (i : Int)) && decide ((i : Int) ≤ (mv : Int))) = true) := Lib.hid (by simp; omega)
  have hor : Hid ((decide (0 ≤ (i : Int)) && decide ((i : Int) ≤ (mv : Int))) = true) := Lib.hid (by simp; omega)
  have H1 := Lib.hid h1
  have HV := Lib.hid hv
  have bc : -1099511627776 ≤ c ∧ c ≤ 1099511627776 := by unfold farB at hc; simp at hc; omega
  have zF : IsZ mv (forgetL mv l1 i) := forgetL_isz z1.1 _ _
  obtain ⟨mF, hmF⟩ : ∃ x, x = (forgetL mv l1 i).length := ⟨_, rfl⟩
  have rF : mF ≤ 81 := by rw [hmF]; exact zF.small
  have QF := Lib.hid (fun W (hW : Below w.heap.size w W) => (zforget_ok mv l1 z1 i hi0 hi a1 m1 c1 W (H1.out.below hW)).mono (fun e w' h => ends_of (m := mF) hmF.symm (by omega) h))
  have zL : IsZ mv (letL mv l1 i i c) := letL_isz z1.1 _ _ _ _
  obtain ⟨mL, hmL⟩ : ∃ x, x = (letL mv l1 i i c).length := ⟨_, rfl⟩
  have rL : mL ≤ 81 := by rw [hmL]; exact zL.small
  have QL := Lib.hid (fun W (hW : Below w.heap.size w W) => (zlet_ok mv l1 z1 i i hi0 hi hi c a1 m1 c1 W (H1.out.below hW)).mono (fun e w' h => ends_of (m := mL) hmL.symm (by omega) h))
  have fm := fact_mov z1 hvl hi0 hi c
  have bv : -1099511627776 ≤ valF v i ∧ valF v i ≤ 1099511627776 := by unfold farB at hsv; simp at hsv; omega
  have hwr : IntKind.i64.wrap (valF v i - c) = valF v i - c := IntWalk.i64_in _ (by omega)
  rw [hwr] at hsb
  rw [hsb, hsv] at fm
  simp only [Bool.not_false, Bool.not_true, Bool.true_and, Bool.false_and] at fm
  have QHL : Hid (∀ W a cz, SL W a mL cz (letL mv l1 i i c) → SL W av mv cv v → Calls Try.prog 35 #[.agg #[.int .i64 mv, .slice a mL cz], .slice av mv cv] W (Gives (.bool (false)) W)) := Lib.hid (fun W a cz hS hV => by have := has_any mv a mL cz _ av mv cv v W hS hV; rwa [fm] at this)
  have QB := Lib.hid (fun W => by have := is_any (valF v i - c) W; rwa [hsb] at this)
  have QS := Lib.hid (fun W => by have := is_any (valF v i) W; rwa [hsv] at this)
  have QHF : Hid (∀ W a cz, SL W a mF cz (forgetL mv l1 i) → SL W av mv cv v → Calls Try.prog 35 #[.agg #[.int .i64 mv, .slice a mF cz], .slice av mv cv] W (Gives (.bool (true)) W)) := Lib.hid (fun W a cz hS hV => by have := has_any mv a mF cz _ av mv cv v W hS hV; rwa [hhf] at this)
  have QVk := Lib.hid (fun k (hk : k ≤ mv) W (hV : SL W av mv cv v) => lval_any av v mv cv hvl.symm (by omega) k hk W.heap.size W hV.sees)
  have QVi := Lib.hid (fun W (hV : SL W av mv cv v) => QVk.out i hi W hV)
  have hhas := (has_iff (forgetL_isz z1.1 l1 i) hvl).1 hhf
  have hfo := (has_forget z1 hi).1 hhas
  have hF := z1.2.resolve_left hfo.1
  have hval : Hid (∀ k, -1099511627776 ≤ valF v k ∧ valF v k ≤ 1099511627776) := Lib.hid (fun k => val_in hfo.2.1 k)
  have hmat : Hid (∀ k, k ≤ mv → -2199023255552 ≤ mat mv l1 k i ∧ mat mv l1 k i ≤ 2199023255552) := Lib.hid (fun k hk => full_near hF (place_lt hk hi))
  have QBd := Lib.hid (fun k (hk : k ≤ mv) W (hS : SL W a1 m1 c1 l1) => bound_full hF hk hi a1 m1 c1 W hS)
  have flst := fact_least z1 hvl hi0 hi hhf
  have QWl := Lib.hid (fun W (hV : SL W av mv cv v) => lwith_any av v mv cv (by omega) i hi0 hi (leastK mv l1 v i (mv + 1)) W hV)
  have QHz : Hid (∀ W b d, SL W a1 m1 c1 l1 → SL W b mv d (withL v i (leastK mv l1 v i (mv + 1))) → Calls Try.prog 35 #[.agg #[.int .i64 mv, .slice a1 m1 c1], .slice b mv d] W (Gives (.bool (true)) W)) := Lib.hid (fun W b d hS hV => by have := has_any mv a1 m1 c1 l1 b mv d _ W hS hV; rwa [flst] at this)
  clear hc hhf hwr fm hsv hsb hhas hfo hF flst zF hmF zL hmL
  clear z1 hi0 hi hvl
  generalize withL v i (leastK mv l1 v i (mv + 1)) = vl at *
  generalize forgetL mv l1 i = LF at *
  generalize letL mv l1 i i c = LL at *
  obtain ⟨x, hx⟩ : ∃ x, x = valF v i := ⟨_, rfl⟩
  rw [← hx] at QVi QS bv QB
  clear hx
  obtain ⟨W1, hW1⟩ : ∃ W1, W1 = w.alloc (.cells #[.int .i64 mv, .slice a1 m1 c1] 24) := ⟨_, rfl⟩
  have Z1 : Hid (Holds W1 (w.heap.size) 24 #[.int .i64 mv, .slice a1 m1 c1]) := Lib.hid (by rw [hW1]; exact Holds.new w _ _)
  have BL := Lib.hid (show Below w.heap.size w W1 by rw [hW1]; exact box_below _ _ _)
  have S1 := Lib.hid (h1.below BL.out)
  have SV := Lib.hid (hv.below BL.out)
  have hW1' := Lib.hid hW1
  clear hW1
  clear h1 hv
  go_enter Try.func7, Try.ntmps7
  have k1 := Z1.out.cell 0
  have k2 := Z1.out.cell 1
  have q := Lib.hid (by have := large_any a1 m1 c1 S1.out.max W1; rwa [decide_eq_false (show ¬ (200 : Int) < (m1 : Int) by omega)] at this)
  go_wp2_with fail
  rw [← hW1'.out]
  with_reducible refine q.out.mono ?_
  rintro e u1 ⟨rfl, rfl⟩
  clear hW1'
  clear q
  have q := Lib.hid (by have := rcheck_any mv a1 m1 c1 l1 W1 S1.out; rwa [hck.out] at this)
  go_wp2_with fail
  with_reducible refine q.out.mono ?_
  rintro e u2 ⟨rfl, b2⟩
  clear k1 k2
  clear q
  have k3 : u2.cell? ⟨w.heap.size, 0, none⟩ = some (.int .i64 mv) := (Z1.out.below b2 Z1.out.lt).cell 0
  have k4 : u2.cell? ⟨w.heap.size, 1, none⟩ = some (.slice a1 m1 c1) := (Z1.out.below b2 Z1.out.lt).cell 1
  replace Z1 := Lib.hid (Z1.out.below b2 Z1.out.lt)
  replace BL := Lib.hid (BL.out.trans (b2.mono BL.out.size))
  replace S1 := Lib.hid (S1.out.below b2)
  replace SV := Lib.hid (SV.out.below b2)
  clear b2
  have q := Lib.hid (by have := rvar_any mv i a1 m1 c1 u2; rwa [hvar.out] at this)
  go_wp2_with fail
  with_reducible refine q.out.mono ?_
  rintro e u3 ⟨rfl, b3⟩
  clear k3 k4
  clear q
  have k5 : u3.cell? ⟨w.heap.size, 0, none⟩ = some (.int .i64 mv) := (Z1.out.below b3 Z1.out.lt).cell 0
  have k6 : u3.cell? ⟨w.heap.size, 1, none⟩ = some (.slice a1 m1 c1) := (Z1.out.below b3 Z1.out.lt).cell 1
  replace Z1 := Lib.hid (Z1.out.below b3 Z1.out.lt)
  replace BL := Lib.hid (BL.out.trans (b3.mono BL.out.size))
  replace S1 := Lib.hid (S1.out.below b3)
  replace SV := Lib.hid (SV.out.below b3)
  clear b3
  have q := Lib.hid (by have := ror0_any mv i a1 m1 c1 u3; rwa [hor.out] at this)
  go_wp2_with fail
  with_reducible refine q.out.mono ?_
  rintro e u4 ⟨rfl, b4⟩
  clear k5 k6
  clear q
  have k7 : u4.cell? ⟨w.heap.size, 0, none⟩ = some (.int .i64 mv) := (Z1.out.below b4 Z1.out.lt).cell 0
  have k8 : u4.cell? ⟨w.heap.size, 1, none⟩ = some (.slice a1 m1 c1) := (Z1.out.below b4 Z1.out.lt).cell 1
  replace Z1 := Lib.hid (Z1.out.below b4 Z1.out.lt)
  replace BL := Lib.hid (BL.out.trans (b4.mono BL.out.size))
  replace S1 := Lib.hid (S1.out.below b4)
  replace SV := Lib.hid (SV.out.below b4)
  clear b4
  have q := Lib.hid (by have := is_any c u4; rwa [his.out] at this)
  go_wp2_with fail
  with_reducible refine q.out.mono ?_
  rintro e u1 ⟨rfl, rfl⟩
  clear q
  clear k7 k8
  have k9 := Z1.out.cell 0
  have k10 := Z1.out.cell 1
  have q := Lib.hid (QF.out _ BL.out)
  go_wp2_with fail
  with_reducible refine q.out.mono ?_
  rintro e v1 ⟨aF, dF, rfl, sF, bF⟩
  clear k9 k10
  clear q QF
  have k11 : v1.cell? ⟨w.heap.size, 0, none⟩ = some (.int .i64 mv) := (Z1.out.below bF Z1.out.lt).cell 0
  have k12 : v1.cell? ⟨w.heap.size, 1, none⟩ = some (.slice a1 m1 c1) := (Z1.out.below bF Z1.out.lt).cell 1
  have k13 : w.heap.size < v1.heap.size := (Z1.out.below bF Z1.out.lt).lt
  have B0 := box_below v1 #[.int .i64 mv, .slice aF mF dF] 24
  have B := bF.trans (B0.mono bF.size)
  replace Z1 := Lib.hid (Z1.out.below B Z1.out.lt)
  replace BL := Lib.hid (BL.out.trans (B.mono BL.out.size))
  replace S1 := Lib.hid (S1.out.below B)
  replace SV := Lib.hid (SV.out.below B)
  have ZF := Lib.hid (Holds.new v1 24 #[.int .i64 mv, .slice aF mF dF])
  have TF := Lib.hid (sF.below B0)
  clear bF B B0 sF
  have q := Lib.hid (QL.out _ BL.out)
  go_wp2_with fail
  with_reducible refine q.out.mono ?_
  rintro e v2 ⟨aL, dL, rfl, sL, bL⟩
  clear k11 k12 k13
  clear q QL
  have B0 := box_below v2 #[.int .i64 mv, .slice aL mL dL] 24
  have B := bL.trans (B0.mono bL.size)
  replace Z1 := Lib.hid (Z1.out.below B Z1.out.lt)
  replace ZF := Lib.hid (ZF.out.below B ZF.out.lt)
  replace BL := Lib.hid (BL.out.trans (B.mono BL.out.size))
  replace S1 := Lib.hid (S1.out.below B)
  replace SV := Lib.hid (SV.out.below B)
  replace TF := Lib.hid (TF.out.below B)
  have ZL := Lib.hid (Holds.new v2 24 #[.int .i64 mv, .slice aL mL dL])
  have TL := Lib.hid (sL.below B0)
  clear bL B B0 sL
  have q := Lib.hid (zlivesAt w _ BL.out)
  go_wp2_with fail
  with_reducible refine q.out.mono ?_
  rintro e v3 ⟨rfl, b3, -⟩
  clear q
  replace Z1 := Lib.hid (Z1.out.below b3 Z1.out.lt)
  replace ZF := Lib.hid (ZF.out.below b3 ZF.out.lt)
  replace ZL := Lib.hid (ZL.out.below b3 ZL.out.lt)
  replace BL := Lib.hid (BL.out.trans (b3.mono BL.out.size))
  replace S1 := Lib.hid (S1.out.below b3)
  replace SV := Lib.hid (SV.out.below b3)
  replace TF := Lib.hid (TF.out.below b3)
  replace TL := Lib.hid (TL.out.below b3)
  clear b3
  have q := Lib.hid (QVi.out _ SV.out)
  go_wp2_with fail
  with_reducible refine q.out.mono ?_
  rintro e u1 ⟨rfl, rfl⟩
  clear q
  go_wp2
  have k14 : ∀ W, Below v3.heap.size v3 W → W.cell? ⟨w.heap.size, 0, none⟩ = some (.int .i64 mv) := fun W hW => (Z1.out.below hW Z1.out.lt).cell 0
  have k15 : ∀ W, Below v3.heap.size v3 W → W.cell? ⟨w.heap.size, 1, none⟩ = some (.slice a1 m1 c1) := fun W hW => (Z1.out.below hW Z1.out.lt).cell 1
  have k16 : ∀ W, Below v3.heap.size v3 W → W.cell? ⟨v2.heap.size, 0, none⟩ = some (.int .i64 mv) := fun W hW => (ZL.out.below hW ZL.out.lt).cell 0
  have k17 : ∀ W, Below v3.heap.size v3 W → W.cell? ⟨v2.heap.size, 1, none⟩ = some (.slice aL mL dL) := fun W hW => (ZL.out.below hW ZL.out.lt).cell 1
  have qa := Lib.hid (fun W (hW : Below v3.heap.size v3 W) => SV.out.below hW)
  have ql := Lib.hid (fun W (hW : Below v3.heap.size v3 W) => TL.out.below hW)
  have q1 := Lib.hid (fun W (hW : Below v3.heap.size v3 W) => S1.out.below hW)
  refine wp_drawn_on (fun W => Below v3.heap.size v3 W) (by kernel_rfl) (below_drew (Below.refl _ _)) (fun hHeld => ?_)
  refine wpAnyH_take (i := 0) (oi := { dst := some 82, op := Go.Op.load 24 (Go.Operand.tmp 13), type := 24, pos := "law.go:158", after := #[], guard := none }) (v := ?v53) rfl (by kernel_rfl) (by kernel_rfl) (by kernel_rfl) (fun _ _ _ h => h) (Or.inl ⟨by kernel_rfl, ?h53⟩) (by assumption) ?r53
  case h53 => (intro w hSw; (try dsimp only at hSw); go_simp; try with_reducible rfl)
  try simp only [Act.put, List.setIfInBounds_toArray, List.set_cons_zero, List.set_cons_succ]
  refine wpAnyH_take (i := 1) (oi := { dst := some 83, op := Go.Op.move (Go.Operand.tmp 1), type := 22, pos := "law.go:158", after := #[], guard := none }) (v := ?v54) rfl (by kernel_rfl) (by kernel_rfl) (by kernel_rfl) (fun _ _ _ h => h) (Or.inl ⟨by kernel_rfl, ?h54⟩) (by assumption) ?r54
  case h54 => (intro w hSw; (try dsimp only at hSw); go_simp; try with_reducible rfl)
  try simp only [Act.put, List.setIfInBounds_toArray, List.set_cons_zero, List.set_cons_succ]
  refine wpAnyH_take (i := 3) (oi := { dst := some 85, op := Go.Op.move (Go.Operand.tmp 15), type := 3, pos := "law.go:158", after := #[], guard := none }) (v := ?v55) rfl (by kernel_rfl) (by kernel_rfl) (by kernel_rfl) (fun _ _ _ h => h) (Or.inl ⟨by kernel_rfl, ?h55⟩) (by assumption) ?r55
  case h55 => (intro w hSw; (try dsimp only at hSw); go_simp; try with_reducible rfl)
  try simp only [Act.put, List.setIfInBounds_toArray, List.set_cons_zero, List.set_cons_succ]
  refine wpAnyH_ready (rs := [2]) (by kernel_rfl) (by simp) ?_
  refine AllReadyH.cons (o := { dst := some 84, op := Go.Op.call { callee := Go.Callee.value (Go.Operand.func 35), args := #[Go.Operand.tmp 82, Go.Operand.tmp 83], argTypes := #[24, 22] }, type := 4, pos := "law.go:158", after := #[{ on := 0, ground := Go.Ground.data }, { on := 1, ground := Go.Ground.data }], guard := none }) rfl (fun K hK => ?_) AllReadyH.nil
  go_simp
  with_reducible refine (QHL.out _ aL dL (ql.out _ hHeld) (qa.out _ hHeld)).mono ?_
  rintro e t2 ⟨rfl, b2⟩
  go_simp
  refine hK.out _ _ (hHeld.trans (b2.mono hHeld.size)) (fun hHeld => ?_)
  clear hK K
  try simp only [Act.put, List.setIfInBounds_toArray, List.set_cons_zero, List.set_cons_succ]
  refine wpAnyH_ready (rs := [4]) (by kernel_rfl) (by simp) ?_
  refine AllReadyH.cons (o := { dst := some 86, op := Go.Op.call { callee := Go.Callee.value (Go.Operand.func 43), args := #[Go.Operand.tmp 85], argTypes := #[3] }, type := 4, pos := "law.go:158", after := #[{ on := 3, ground := Go.Ground.data }, { on := 2, ground := Go.Ground.chain }], guard := none }) rfl (fun K hK => ?_) AllReadyH.nil
  go_simp
  with_reducible refine (QB.out _).mono ?_
  rintro e t4 ⟨rfl, b4⟩
  have b4 := below_of_eq b4
  go_simp
  refine hK.out _ _ (hHeld.trans (b4.mono hHeld.size)) (fun hHeld => ?_)
  clear hK K
  try simp only [Act.put, List.setIfInBounds_toArray, List.set_cons_zero, List.set_cons_succ]
  refine wpAnyH_take (i := 5) (oi := { dst := some 87, op := Go.Op.move (Go.Operand.tmp 86), type := 4, pos := "law.go:158", after := #[{ on := 4, ground := Go.Ground.data }, { on := 4, ground := Go.Ground.chain }], guard := none }) (v := ?v56) rfl (by kernel_rfl) (by kernel_rfl) (by kernel_rfl) (fun _ _ _ h => h) (Or.inl ⟨by kernel_rfl, ?h56⟩) (by assumption) ?r56
  case h56 => (intro w hSw; (try dsimp only at hSw); go_simp; try with_reducible rfl)
  try simp only [Act.put, List.setIfInBounds_toArray, List.set_cons_zero, List.set_cons_succ]
  refine wpAnyH_take (i := 6) (oi := { dst := some 88, op := Go.Op.move (Go.Operand.tmp 1), type := 22, pos := "law.go:158", after := #[{ on := 5, ground := Go.Ground.guard }], guard := some (5, true) }) (v := undef) rfl (by kernel_rfl) (by kernel_rfl) (by kernel_rfl) (fun _ _ _ h => h) (Or.inr ⟨by kernel_rfl, rfl⟩) (by assumption) ?_
  try simp only [Act.put, List.setIfInBounds_toArray, List.set_cons_zero, List.set_cons_succ]
  refine wpAnyH_take (i := 7) (oi := { dst := some 89, op := Go.Op.move (Go.Operand.tmp 2), type := 3, pos := "law.go:158", after := #[{ on := 5, ground := Go.Ground.guard }], guard := some (5, true) }) (v := undef) rfl (by kernel_rfl) (by kernel_rfl) (by kernel_rfl) (fun _ _ _ h => h) (Or.inr ⟨by kernel_rfl, rfl⟩) (by assumption) ?_
  try simp only [Act.put, List.setIfInBounds_toArray, List.set_cons_zero, List.set_cons_succ]
  refine wpAnyH_take (i := 8) (oi := { dst := some 90, op := Go.Op.call { callee := Go.Callee.value (Go.Operand.func 39), args := #[Go.Operand.tmp 88, Go.Operand.tmp 89], argTypes := #[22, 3] }, type := 3, pos := "law.go:158", after := #[{ on := 6, ground := Go.Ground.data }, { on := 7, ground := Go.Ground.data }, { on := 5, ground := Go.Ground.chain }, { on := 5, ground := Go.Ground.guard }], guard := some (5, true) }) (v := undef) rfl (by kernel_rfl) (by kernel_rfl) (by kernel_rfl) (fun _ _ _ h => h) (Or.inr ⟨by kernel_rfl, rfl⟩) (by assumption) ?_
  try simp only [Act.put, List.setIfInBounds_toArray, List.set_cons_zero, List.set_cons_succ]
  refine wpAnyH_take (i := 9) (oi := { dst := some 91, op := Go.Op.call { callee := Go.Callee.value (Go.Operand.func 43), args := #[Go.Operand.tmp 90], argTypes := #[3] }, type := 4, pos := "law.go:158", after := #[{ on := 8, ground := Go.Ground.data }, { on := 8, ground := Go.Ground.chain }, { on := 5, ground := Go.Ground.guard }], guard := some (5, true) }) (v := undef) rfl (by kernel_rfl) (by kernel_rfl) (by kernel_rfl) (fun _ _ _ h => h) (Or.inr ⟨by kernel_rfl, rfl⟩) (by assumption) ?_
  try simp only [Act.put, List.setIfInBounds_toArray, List.set_cons_zero, List.set_cons_succ]
  refine wpAnyH_take (i := 10) (oi := { dst := some 92, op := Go.Op.pick (Go.Operand.tmp 87) (Go.Operand.tmp 91) (Go.Operand.const (Go.Value.bool false)), type := 4, pos := "law.go:158", after := #[{ on := 5, ground := Go.Ground.data }, { on := 9, ground := Go.Ground.data }], guard := none }) (v := ?v61) rfl (by kernel_rfl) (by kernel_rfl) (by kernel_rfl) (fun _ _ _ h => h) (Or.inl ⟨by kernel_rfl, ?h61⟩) (by assumption) ?r61
  case h61 => (intro w hSw; (try dsimp only at hSw); go_simp; try with_reducible rfl)
  try simp only [Act.put, List.setIfInBounds_toArray, List.set_cons_zero, List.set_cons_succ]
  refine wpAnyH_take (i := 11) (oi := { dst := some 93, op := Go.Op.move (Go.Operand.tmp 92), type := 4, pos := "law.go:158", after := #[{ on := 10, ground := Go.Ground.data }, { on := 9, ground := Go.Ground.chain }], guard := none }) (v := ?v62) rfl (by kernel_rfl) (by kernel_rfl) (by kernel_rfl) (fun _ _ _ h => h) (Or.inl ⟨by kernel_rfl, ?h62⟩) (by assumption) ?r62
  case h62 => (intro w hSw; (try dsimp only at hSw); go_simp; try with_reducible rfl)
  try simp only [Act.put, List.setIfInBounds_toArray, List.set_cons_zero, List.set_cons_succ]
  refine wpAnyH_take (i := 12) (oi := { dst := some 94, op := Go.Op.load 24 (Go.Operand.tmp 5), type := 24, pos := "law.go:158", after := #[{ on := 11, ground := Go.Ground.guard }], guard := some (11, true) }) (v := undef) rfl (by kernel_rfl) (by kernel_rfl) (by kernel_rfl) (fun _ _ _ h => h) (Or.inr ⟨by kernel_rfl, rfl⟩) (by assumption) ?_
  try simp only [Act.put, List.setIfInBounds_toArray, List.set_cons_zero, List.set_cons_succ]
  refine wpAnyH_take (i := 13) (oi := { dst := some 95, op := Go.Op.move (Go.Operand.tmp 1), type := 22, pos := "law.go:158", after := #[{ on := 11, ground := Go.Ground.guard }], guard := some (11, true) }) (v := undef) rfl (by kernel_rfl) (by kernel_rfl) (by kernel_rfl) (fun _ _ _ h => h) (Or.inr ⟨by kernel_rfl, rfl⟩) (by assumption) ?_
  try simp only [Act.put, List.setIfInBounds_toArray, List.set_cons_zero, List.set_cons_succ]
  refine wpAnyH_take (i := 14) (oi := { dst := some 96, op := Go.Op.move (Go.Operand.tmp 2), type := 3, pos := "law.go:158", after := #[{ on := 11, ground := Go.Ground.guard }], guard := some (11, true) }) (v := undef) rfl (by kernel_rfl) (by kernel_rfl) (by kernel_rfl) (fun _ _ _ h => h) (Or.inr ⟨by kernel_rfl, rfl⟩) (by assumption) ?_
  try simp only [Act.put, List.setIfInBounds_toArray, List.set_cons_zero, List.set_cons_succ]
  refine wpAnyH_take (i := 15) (oi := { dst := some 97, op := Go.Op.move (Go.Operand.tmp 15), type := 3, pos := "law.go:158", after := #[{ on := 11, ground := Go.Ground.guard }], guard := some (11, true) }) (v := undef) rfl (by kernel_rfl) (by kernel_rfl) (by kernel_rfl) (fun _ _ _ h => h) (Or.inr ⟨by kernel_rfl, rfl⟩) (by assumption) ?_
  try simp only [Act.put, List.setIfInBounds_toArray, List.set_cons_zero, List.set_cons_succ]
  refine wpAnyH_take (i := 16) (oi := { dst := some 98, op := Go.Op.call { callee := Go.Callee.value (Go.Operand.func 42), args := #[Go.Operand.tmp 95, Go.Operand.tmp 96, Go.Operand.tmp 97], argTypes := #[22, 3, 3] }, type := 22, pos := "law.go:158", after := #[{ on := 13, ground := Go.Ground.data }, { on := 14, ground := Go.Ground.data }, { on := 15, ground := Go.Ground.data }, { on := 11, ground := Go.Ground.chain }, { on := 11, ground := Go.Ground.guard }], guard := some (11, true) }) (v := undef) rfl (by kernel_rfl) (by kernel_rfl) (by kernel_rfl) (fun _ _ _ h => h) (Or.inr ⟨by kernel_rfl, rfl⟩) (by assumption) ?_
  try simp only [Act.put, List.setIfInBounds_toArray, List.set_cons_zero, List.set_cons_succ]
  refine wpAnyH_take (i := 17) (oi := { dst := some 99, op := Go.Op.call { callee := Go.Callee.value (Go.Operand.func 35), args := #[Go.Operand.tmp 94, Go.Operand.tmp 98], argTypes := #[24, 22] }, type := 4, pos := "law.go:158", after := #[{ on := 12, ground := Go.Ground.data }, { on := 16, ground := Go.Ground.data }, { on := 16, ground := Go.Ground.chain }, { on := 11, ground := Go.Ground.guard }], guard := some (11, true) }) (v := undef) rfl (by kernel_rfl) (by kernel_rfl) (by kernel_rfl) (fun _ _ _ h => h) (Or.inr ⟨by kernel_rfl, rfl⟩) (by assumption) ?_
  try simp only [Act.put, List.setIfInBounds_toArray, List.set_cons_zero, List.set_cons_succ]
  refine wpAnyH_take (i := 18) (oi := { dst := some 100, op := Go.Op.pick (Go.Operand.tmp 93) (Go.Operand.tmp 99) (Go.Operand.const (Go.Value.bool false)), type := 4, pos := "law.go:158", after := #[{ on := 11, ground := Go.Ground.data }, { on := 17, ground := Go.Ground.data }], guard := none }) (v := ?v69) rfl (by kernel_rfl) (by kernel_rfl) (by kernel_rfl) (fun _ _ _ h => h) (Or.inl ⟨by kernel_rfl, ?h69⟩) (by assumption) ?r69
  case h69 => (intro w hSw; (try dsimp only at hSw); go_simp; try with_reducible rfl)
  try simp only [Act.put, List.setIfInBounds_toArray, List.set_cons_zero, List.set_cons_succ]
  refine wpAnyH_take (i := 19) (oi := { dst := some 101, op := Go.Op.binOp Go.BinOp.neq 4 (Go.Operand.tmp 84) (Go.Operand.tmp 100) 4, type := 4, pos := "law.go:158", after := #[{ on := 2, ground := Go.Ground.data }, { on := 18, ground := Go.Ground.data }], guard := none }) (v := ?v70) rfl (by kernel_rfl) (by kernel_rfl) (by kernel_rfl) (fun _ _ _ h => h) (Or.inl ⟨by kernel_rfl, ?h70⟩) (by assumption) ?r70
  case h70 => (intro w hSw; (try dsimp only at hSw); go_simp; try with_reducible rfl)
  try simp only [Act.put, List.setIfInBounds_toArray, List.set_cons_zero, List.set_cons_succ]
  refine wpAnyH_done (by kernel_rfl) ?_ _
  clear k14 k15 k16 k17
  replace Z1 := Lib.hid (Z1.out.below hHeld Z1.out.lt)
  replace ZF := Lib.hid (ZF.out.below hHeld ZF.out.lt)
  replace ZL := Lib.hid (ZL.out.below hHeld ZL.out.lt)
  replace BL := Lib.hid (BL.out.trans (hHeld.mono BL.out.size))
  replace S1 := Lib.hid (S1.out.below hHeld)
  replace SV := Lib.hid (SV.out.below hHeld)
  replace TF := Lib.hid (TF.out.below hHeld)
  replace TL := Lib.hid (TL.out.below hHeld)
  clear hHeld qa ql q1 QHL QB QS
  have k18 := ZF.out.cell 0
  have k19 := ZF.out.cell 1
  have q := Lib.hid (QHF.out _ aF dF TF.out SV.out)
  go_wp2_with fail
  with_reducible refine q.out.mono ?_
  rintro e v5 ⟨rfl, b5⟩
  clear k18 k19
  clear q QHF
  replace Z1 := Lib.hid (Z1.out.below b5 Z1.out.lt)
  replace ZF := Lib.hid (ZF.out.below b5 ZF.out.lt)
  replace ZL := Lib.hid (ZL.out.below b5 ZL.out.lt)
  replace BL := Lib.hid (BL.out.trans (b5.mono BL.out.size))
  replace S1 := Lib.hid (S1.out.below b5)
  replace SV := Lib.hid (SV.out.below b5)
  replace TF := Lib.hid (TF.out.below b5)
  replace TL := Lib.hid (TL.out.below b5)
  clear b5
  clear TF
  clear TL
  clear ZF
  clear ZL
  have k20 := Z1.out.cell 0
  have k21 := Z1.out.cell 1
  go_wp2
  go_loopw [16, 17] (fun y x wr => ∃ k : Nat, k ≤ mv + 1 ∧ x = .int .i64 k ∧ y = .int .i64 (leastK mv l1 v i k) ∧ Hid (Below w.heap.size w wr) ∧ Hid (Holds wr w.heap.size 24 #[.int .i64 mv, .slice a1 m1 c1]) ∧ Hid (SL wr a1 m1 c1 l1) ∧ Hid (SL wr av mv cv v)) (fun _ x _ => mv + 1 - (intOf x).toNat)
  case atStart => exact ⟨0, by omega, rfl, rfl, BL, Z1, S1, SV⟩
  case round =>
    clear k20 k21 BL S1 SV Z1
    obtain ⟨k, hk, rfl, rfl, BL, Y1, S1, SV⟩ := hrel
    have k301 := Y1.out.cell 0
    have k302 := Y1.out.cell 1
    by_cases hlt : k < mv + 1
    · have hki : (k : Int) ≤ (mv : Int) := by omega
      have bk := hval.out k
      have bm := hmat.out k (by omega)
      have qv := Lib.hid (fun W hS => QVk.out k (by omega) W hS)
      have hnx : Hid (leastK mv l1 v i (k + 1) = if k ≠ i ∧ leastK mv l1 v i k < valF v k - mat mv l1 k i then valF v k - mat mv l1 k i else leastK mv l1 v i k) := Lib.hid rfl
      have qb := Lib.hid (QBd.out k (by omega) wr S1.out)
      obtain ⟨ln, hln⟩ : ∃ x, x = leastK mv l1 v i (k + 1) := ⟨_, rfl⟩
      have hln1 := Lib.hid hln.symm
      rw [← hln] at hnx
      clear hln
      generalize leastK mv l1 v i k = lk at *
      generalize valF v k = xk at *
      generalize mat mv l1 k i = mk at *
      by_cases e : k = i
      · have hn1 : Hid (ln = lk) := Lib.hid (by rw [hnx.out, if_neg (fun q => q.1 e)])
        have e1 : (k == i) = true := by simpa using e
        clear hnx e
        have q := Lib.hid (qb.out)
        go_wp2_with fail
        with_reducible refine q.out.mono ?_
        rintro e v1 ⟨rfl, b1⟩
        clear k301 k302
        clear q qb
        have k501 : v1.cell? ⟨w.heap.size, 0, none⟩ = some (.int .i64 mv) := (Y1.out.below b1 Y1.out.lt).cell 0
        have k502 : v1.cell? ⟨w.heap.size, 1, none⟩ = some (.slice a1 m1 c1) := (Y1.out.below b1 Y1.out.lt).cell 1
        replace Y1 := Lib.hid (Y1.out.below b1 Y1.out.lt)
        replace BL := Lib.hid (BL.out.trans (b1.mono BL.out.size))
        replace S1 := Lib.hid (S1.out.below b1)
        replace SV := Lib.hid (SV.out.below b1)
        clear b1
        go_wp2
        go_roundw
        case rel => exact ⟨k + 1, by omega, by go_num, by rw [hln1.out, hn1.out], BL, Y1, S1, SV⟩
        case measure => simp [intOf]; omega
      · have e1 : (k == i) = false := by simpa using e
        by_cases hl : lk < xk - mk
        · have hn1 : Hid (ln = xk - mk) := Lib.hid (by rw [hnx.out, if_pos ⟨e, hl⟩])
          clear hnx
          have q := Lib.hid (qb.out)
          go_wp2_with fail
          with_reducible refine q.out.mono ?_
          rintro e v1 ⟨rfl, b1⟩
          clear k301 k302
          clear q qb
          have k701 : v1.cell? ⟨w.heap.size, 0, none⟩ = some (.int .i64 mv) := (Y1.out.below b1 Y1.out.lt).cell 0
          have k702 : v1.cell? ⟨w.heap.size, 1, none⟩ = some (.slice a1 m1 c1) := (Y1.out.below b1 Y1.out.lt).cell 1
          replace Y1 := Lib.hid (Y1.out.below b1 Y1.out.lt)
          replace BL := Lib.hid (BL.out.trans (b1.mono BL.out.size))
          replace S1 := Lib.hid (S1.out.below b1)
          replace SV := Lib.hid (SV.out.below b1)
          clear b1
          have q := Lib.hid (qv.out v1 SV.out)
          go_wp2_with fail
          with_reducible refine q.out.mono ?_
          rintro e u1 ⟨rfl, rfl⟩
          clear q
          have q := Lib.hid (qv.out v1 SV.out)
          go_wp2_with fail
          with_reducible refine q.out.mono ?_
          rintro e u1 ⟨rfl, rfl⟩
          clear q
          go_wp2
          go_roundw
          case rel => exact ⟨k + 1, by omega, by go_num, by rw [hln1.out, hn1.out], BL, Y1, S1, SV⟩
          case measure => simp [intOf]; omega
        · have hn1 : Hid (ln = lk) := Lib.hid (by rw [hnx.out, if_neg (fun q => hl q.2)])
          clear hnx
          have q := Lib.hid (qb.out)
          go_wp2_with fail
          with_reducible refine q.out.mono ?_
          rintro e v1 ⟨rfl, b1⟩
          clear k301 k302
          clear q qb
          have k701 : v1.cell? ⟨w.heap.size, 0, none⟩ = some (.int .i64 mv) := (Y1.out.below b1 Y1.out.lt).cell 0
          have k702 : v1.cell? ⟨w.heap.size, 1, none⟩ = some (.slice a1 m1 c1) := (Y1.out.below b1 Y1.out.lt).cell 1
          replace Y1 := Lib.hid (Y1.out.below b1 Y1.out.lt)
          replace BL := Lib.hid (BL.out.trans (b1.mono BL.out.size))
          replace S1 := Lib.hid (S1.out.below b1)
          replace SV := Lib.hid (SV.out.below b1)
          clear b1
          have q := Lib.hid (qv.out v1 SV.out)
          go_wp2_with fail
          with_reducible refine q.out.mono ?_
          rintro e u1 ⟨rfl, rfl⟩
          clear q
          go_wp2
          go_roundw
          case rel => exact ⟨k + 1, by omega, by go_num, by rw [hln1.out, hn1.out], BL, Y1, S1, SV⟩
          case measure => simp [intOf]; omega
    · have hke : k = mv + 1 := by omega
      subst hke
      generalize leastK mv l1 v i (mv + 1) = le at *
      go_wp2
      clear k301 k302
      have k801 : ∀ W, Below wr.heap.size wr W → W.cell? ⟨w.heap.size, 0, none⟩ = some (.int .i64 mv) := fun W hW => (Y1.out.below hW Y1.out.lt).cell 0
      have k802 : ∀ W, Below wr.heap.size wr W → W.cell? ⟨w.heap.size, 1, none⟩ = some (.slice a1 m1 c1) := fun W hW => (Y1.out.below hW Y1.out.lt).cell 1
      have qt := Lib.hid (fun W (hW : Below wr.heap.size wr W) => BL.out.trans (hW.mono BL.out.size))
      have qa := Lib.hid (fun W (hW : Below wr.heap.size wr W) => SV.out.below hW)
      have q1 := Lib.hid (fun W (hW : Below wr.heap.size wr W) => S1.out.below hW)
      refine wp_drawn_on (fun W => Below wr.heap.size wr W) (by kernel_rfl) (below_drew (Below.refl _ _)) (fun hHeld => ?_)
      refine wpAnyH_take (i := 0) (oi := { dst := some 161, op := Go.Op.load 24 (Go.Operand.tmp 5), type := 24, pos := "law.go:174", after := #[], guard := none }) (v := ?v71) rfl (by kernel_rfl) (by kernel_rfl) (by kernel_rfl) (fun _ _ _ h => h) (Or.inl ⟨by kernel_rfl, ?h71⟩) (by assumption) ?r71
      case h71 => (intro w hSw; (try dsimp only at hSw); go_simp; try with_reducible rfl)
      try simp only [Act.put, List.setIfInBounds_toArray, List.set_cons_zero, List.set_cons_succ]
      refine wpAnyH_take (i := 1) (oi := { dst := some 162, op := Go.Op.move (Go.Operand.tmp 1), type := 22, pos := "law.go:174", after := #[], guard := none }) (v := ?v72) rfl (by kernel_rfl) (by kernel_rfl) (by kernel_rfl) (fun _ _ _ h => h) (Or.inl ⟨by kernel_rfl, ?h72⟩) (by assumption) ?r72
      case h72 => (intro w hSw; (try dsimp only at hSw); go_simp; try with_reducible rfl)
      try simp only [Act.put, List.setIfInBounds_toArray, List.set_cons_zero, List.set_cons_succ]
      refine wpAnyH_take (i := 2) (oi := { dst := some 163, op := Go.Op.move (Go.Operand.tmp 2), type := 3, pos := "law.go:174", after := #[], guard := none }) (v := ?v73) rfl (by kernel_rfl) (by kernel_rfl) (by kernel_rfl) (fun _ _ _ h => h) (Or.inl ⟨by kernel_rfl, ?h73⟩) (by assumption) ?r73
      case h73 => (intro w hSw; (try dsimp only at hSw); go_simp; try with_reducible rfl)
      try simp only [Act.put, List.setIfInBounds_toArray, List.set_cons_zero, List.set_cons_succ]
      refine wpAnyH_take (i := 3) (oi := { dst := some 164, op := Go.Op.move (Go.Operand.tmp 16), type := 3, pos := "law.go:174", after := #[], guard := none }) (v := ?v74) rfl (by kernel_rfl) (by kernel_rfl) (by kernel_rfl) (fun _ _ _ h => h) (Or.inl ⟨by kernel_rfl, ?h74⟩) (by assumption) ?r74
      case h74 => (intro w hSw; (try dsimp only at hSw); go_simp; try with_reducible rfl)
      try simp only [Act.put, List.setIfInBounds_toArray, List.set_cons_zero, List.set_cons_succ]
      refine wpAnyH_ready (rs := [4]) (by kernel_rfl) (by simp) ?_
      refine AllReadyH.cons (o := { dst := some 165, op := Go.Op.call { callee := Go.Callee.value (Go.Operand.func 42), args := #[Go.Operand.tmp 162, Go.Operand.tmp 163, Go.Operand.tmp 164], argTypes := #[22, 3, 3] }, type := 22, pos := "law.go:174", after := #[{ on := 1, ground := Go.Ground.data }, { on := 2, ground := Go.Ground.data }, { on := 3, ground := Go.Ground.data }], guard := none }) rfl (fun K hK => ?_) AllReadyH.nil
      go_simp
      with_reducible refine (QWl.out _ (qa.out _ hHeld)).mono ?_
      rintro e t4 ⟨bF, eF, rfl, sf, b4⟩
      go_simp
      refine hK.out _ _ (hHeld.trans (b4.mono hHeld.size)) (fun hHeld => ?_)
      clear hK K
      try simp only [Act.put, List.setIfInBounds_toArray, List.set_cons_zero, List.set_cons_succ]
      refine wpAnyH_ready (rs := [5]) (by kernel_rfl) (by simp) ?_
      refine AllReadyH.cons (o := { dst := some 166, op := Go.Op.call { callee := Go.Callee.value (Go.Operand.func 35), args := #[Go.Operand.tmp 161, Go.Operand.tmp 165], argTypes := #[24, 22] }, type := 4, pos := "law.go:174", after := #[{ on := 0, ground := Go.Ground.data }, { on := 4, ground := Go.Ground.data }, { on := 4, ground := Go.Ground.chain }], guard := none }) rfl (fun K hK => ?_) AllReadyH.nil
      go_simp
      with_reducible refine (QHz.out _ bF eF (q1.out _ hHeld) sf).mono ?_
      rintro e t5 ⟨rfl, b5⟩
      go_simp
      refine hK.out _ _ (hHeld.trans (b5.mono hHeld.size)) (fun hHeld => ?_)
      clear hK K
      try simp only [Act.put, List.setIfInBounds_toArray, List.set_cons_zero, List.set_cons_succ]
      refine wpAnyH_take (i := 6) (oi := { dst := some 10, op := Go.Op.assign (Go.Operand.tmp 166), type := 4, pos := "law.go:174", after := #[{ on := 5, ground := Go.Ground.data }, { on := 5, ground := Go.Ground.chain }, { on := 0, ground := Go.Ground.phase }, { on := 1, ground := Go.Ground.phase }, { on := 2, ground := Go.Ground.phase }, { on := 3, ground := Go.Ground.phase }, { on := 4, ground := Go.Ground.phase }, { on := 5, ground := Go.Ground.phase }], guard := none }) (v := ?v75) rfl (by kernel_rfl) (by kernel_rfl) (by kernel_rfl) (fun _ _ _ h => h) (Or.inl ⟨by kernel_rfl, ?h75⟩) (by assumption) ?r75
      case h75 => (intro w hSw; (try dsimp only at hSw); go_simp; try with_reducible rfl)
      try simp only [Act.put, List.setIfInBounds_toArray, List.set_cons_zero, List.set_cons_succ]
      refine wpAnyH_done (by kernel_rfl) ?_ _
      have bw := Lib.hid (qt.out _ hHeld)
      clear k801 k802
      go_wp2
      go_ret
      exact ⟨rfl, bw.out⟩
set_option maxRecDepth 100000 in
set_option maxHeartbeats 8000000 in
theorem steps_ettf (i : Nat) (c : Int) (a1 av : Option Addr) (m1 mv c1 cv : Nat) (l1 v : List Int) (w : World) (h1 : SL w a1 m1 c1 l1) (hv : SL w av mv cv v) (g1 : ¬ 200 < m1) (g2 : ¬ 8 < mv) (z1 : IsZ mv l1) (hi0 : 1 ≤ i) (hi : i ≤ mv) (hc : farB c = false) (hhf : hasB mv (forgetL mv l1 i) v = false) (hsv : farB (valF v i) = false) (hsb : farB (IntKind.i64.wrap (valF v i - c)) = false) : Calls Try.prog 7 #[.agg #[.int .i64 mv, .slice a1 m1 c1], .slice av mv cv, .int .i64 i, .int .i64 i, .int .i64 c] w (Gives (.bool true) w) := by
  have hvl : v.length = mv := hv.len.symm
  have g2i : ¬ (8 : Int) < (mv : Int) := by omega
  have hck := Lib.hid z1.check
  have his : Hid ((!farB c) = true) := Lib.hid (by rw [hc]; rfl)
  have hvar : Hid ((decide (1 ≤ (i : Int)) && decide ((i : Int) ≤ (mv : Int))) = true) := Lib.hid (by simp; omega)
  have hor : Hid ((decide (0 ≤ (i : Int)) && decide ((i : Int) ≤ (mv : Int))) = true) := Lib.hid (by simp; omega)
  have H1 := Lib.hid h1
  have HV := Lib.hid hv
  have bc : -1099511627776 ≤ c ∧ c ≤ 1099511627776 := by unfold farB at hc; simp at hc; omega
  have zF : IsZ mv (forgetL mv l1 i) := forgetL_isz z1.1 _ _
  obtain ⟨mF, hmF⟩ : ∃ x, x = (forgetL mv l1 i).length := ⟨_, rfl⟩
  have rF : mF ≤ 81 := by rw [hmF]; exact zF.small
  have QF := Lib.hid (fun W (hW : Below w.heap.size w W) => (zforget_ok mv l1 z1 i hi0 hi a1 m1 c1 W (H1.out.below hW)).mono (fun e w' h => ends_of (m := mF) hmF.symm (by omega) h))
  have zL : IsZ mv (letL mv l1 i i c) := letL_isz z1.1 _ _ _ _
  obtain ⟨mL, hmL⟩ : ∃ x, x = (letL mv l1 i i c).length := ⟨_, rfl⟩
  have rL : mL ≤ 81 := by rw [hmL]; exact zL.small
  have QL := Lib.hid (fun W (hW : Below w.heap.size w W) => (zlet_ok mv l1 z1 i i hi0 hi hi c a1 m1 c1 W (H1.out.below hW)).mono (fun e w' h => ends_of (m := mL) hmL.symm (by omega) h))
  have fm := fact_mov z1 hvl hi0 hi c
  have bv : -1099511627776 ≤ valF v i ∧ valF v i ≤ 1099511627776 := by unfold farB at hsv; simp at hsv; omega
  have hwr : IntKind.i64.wrap (valF v i - c) = valF v i - c := IntWalk.i64_in _ (by omega)
  rw [hwr] at hsb
  rw [hsb, hsv] at fm
  simp only [Bool.not_false, Bool.not_true, Bool.true_and, Bool.false_and] at fm
  have QHL : Hid (∀ W a cz, SL W a mL cz (letL mv l1 i i c) → SL W av mv cv v → Calls Try.prog 35 #[.agg #[.int .i64 mv, .slice a mL cz], .slice av mv cv] W (Gives (.bool (hasB mv l1 (withL v i (valF v i - c)))) W)) := Lib.hid (fun W a cz hS hV => by have := has_any mv a mL cz _ av mv cv v W hS hV; rwa [fm] at this)
  have QB := Lib.hid (fun W => by have := is_any (valF v i - c) W; rwa [hsb] at this)
  have QS := Lib.hid (fun W => by have := is_any (valF v i) W; rwa [hsv] at this)
  have QWb := Lib.hid (fun W (hV : SL W av mv cv v) => lwith_any av v mv cv (by omega) i hi0 hi (valF v i - c) W hV)
  have QHb := Lib.hid (fun W b d (hS : SL W a1 m1 c1 l1) (hV : SL W b mv d (withL v i (valF v i - c))) => has_any mv a1 m1 c1 l1 b mv d _ W hS hV)
  have QHF : Hid (∀ W a cz, SL W a mF cz (forgetL mv l1 i) → SL W av mv cv v → Calls Try.prog 35 #[.agg #[.int .i64 mv, .slice a mF cz], .slice av mv cv] W (Gives (.bool (false)) W)) := Lib.hid (fun W a cz hS hV => by have := has_any mv a mF cz _ av mv cv v W hS hV; rwa [hhf] at this)
  have QVk := Lib.hid (fun k (hk : k ≤ mv) W (hV : SL W av mv cv v) => lval_any av v mv cv hvl.symm (by omega) k hk W.heap.size W hV.sees)
  have QVi := Lib.hid (fun W (hV : SL W av mv cv v) => QVk.out i hi W hV)
  clear hc hhf hwr fm hsv hsb zF hmF zL hmL
  clear z1 hi0 hi hvl
  generalize hasB mv l1 (withL v i (valF v i - c)) = hb at *
  generalize withL v i (valF v i - c) = vb at *
  generalize forgetL mv l1 i = LF at *
  generalize letL mv l1 i i c = LL at *
  obtain ⟨x, hx⟩ : ∃ x, x = valF v i := ⟨_, rfl⟩
  rw [← hx] at QVi QS bv QB QWb
  clear hx
  obtain ⟨W1, hW1⟩ : ∃ W1, W1 = w.alloc (.cells #[.int .i64 mv, .slice a1 m1 c1] 24) := ⟨_, rfl⟩
  have Z1 : Hid (Holds W1 (w.heap.size) 24 #[.int .i64 mv, .slice a1 m1 c1]) := Lib.hid (by rw [hW1]; exact Holds.new w _ _)
  have BL := Lib.hid (show Below w.heap.size w W1 by rw [hW1]; exact box_below _ _ _)
  have S1 := Lib.hid (h1.below BL.out)
  have SV := Lib.hid (hv.below BL.out)
  have hW1' := Lib.hid hW1
  clear hW1
  clear h1 hv
  go_enter Try.func7, Try.ntmps7
  have k1 := Z1.out.cell 0
  have k2 := Z1.out.cell 1
  have q := Lib.hid (by have := large_any a1 m1 c1 S1.out.max W1; rwa [decide_eq_false (show ¬ (200 : Int) < (m1 : Int) by omega)] at this)
  go_wp2_with fail
  rw [← hW1'.out]
  with_reducible refine q.out.mono ?_
  rintro e u1 ⟨rfl, rfl⟩
  clear hW1'
  clear q
  have q := Lib.hid (by have := rcheck_any mv a1 m1 c1 l1 W1 S1.out; rwa [hck.out] at this)
  go_wp2_with fail
  with_reducible refine q.out.mono ?_
  rintro e u2 ⟨rfl, b2⟩
  clear k1 k2
  clear q
  have k3 : u2.cell? ⟨w.heap.size, 0, none⟩ = some (.int .i64 mv) := (Z1.out.below b2 Z1.out.lt).cell 0
  have k4 : u2.cell? ⟨w.heap.size, 1, none⟩ = some (.slice a1 m1 c1) := (Z1.out.below b2 Z1.out.lt).cell 1
  replace Z1 := Lib.hid (Z1.out.below b2 Z1.out.lt)
  replace BL := Lib.hid (BL.out.trans (b2.mono BL.out.size))
  replace S1 := Lib.hid (S1.out.below b2)
  replace SV := Lib.hid (SV.out.below b2)
  clear b2
  have q := Lib.hid (by have := rvar_any mv i a1 m1 c1 u2; rwa [hvar.out] at this)
  go_wp2_with fail
  with_reducible refine q.out.mono ?_
  rintro e u3 ⟨rfl, b3⟩
  clear k3 k4
  clear q
  have k5 : u3.cell? ⟨w.heap.size, 0, none⟩ = some (.int .i64 mv) := (Z1.out.below b3 Z1.out.lt).cell 0
  have k6 : u3.cell? ⟨w.heap.size, 1, none⟩ = some (.slice a1 m1 c1) := (Z1.out.below b3 Z1.out.lt).cell 1
  replace Z1 := Lib.hid (Z1.out.below b3 Z1.out.lt)
  replace BL := Lib.hid (BL.out.trans (b3.mono BL.out.size))
  replace S1 := Lib.hid (S1.out.below b3)
  replace SV := Lib.hid (SV.out.below b3)
  clear b3
  have q := Lib.hid (by have := ror0_any mv i a1 m1 c1 u3; rwa [hor.out] at this)
  go_wp2_with fail
  with_reducible refine q.out.mono ?_
  rintro e u4 ⟨rfl, b4⟩
  clear k5 k6
  clear q
  have k7 : u4.cell? ⟨w.heap.size, 0, none⟩ = some (.int .i64 mv) := (Z1.out.below b4 Z1.out.lt).cell 0
  have k8 : u4.cell? ⟨w.heap.size, 1, none⟩ = some (.slice a1 m1 c1) := (Z1.out.below b4 Z1.out.lt).cell 1
  replace Z1 := Lib.hid (Z1.out.below b4 Z1.out.lt)
  replace BL := Lib.hid (BL.out.trans (b4.mono BL.out.size))
  replace S1 := Lib.hid (S1.out.below b4)
  replace SV := Lib.hid (SV.out.below b4)
  clear b4
  have q := Lib.hid (by have := is_any c u4; rwa [his.out] at this)
  go_wp2_with fail
  with_reducible refine q.out.mono ?_
  rintro e u1 ⟨rfl, rfl⟩
  clear q
  clear k7 k8
  have k9 := Z1.out.cell 0
  have k10 := Z1.out.cell 1
  have q := Lib.hid (QF.out _ BL.out)
  go_wp2_with fail
  with_reducible refine q.out.mono ?_
  rintro e v1 ⟨aF, dF, rfl, sF, bF⟩
  clear k9 k10
  clear q QF
  have k11 : v1.cell? ⟨w.heap.size, 0, none⟩ = some (.int .i64 mv) := (Z1.out.below bF Z1.out.lt).cell 0
  have k12 : v1.cell? ⟨w.heap.size, 1, none⟩ = some (.slice a1 m1 c1) := (Z1.out.below bF Z1.out.lt).cell 1
  have k13 : w.heap.size < v1.heap.size := (Z1.out.below bF Z1.out.lt).lt
  have B0 := box_below v1 #[.int .i64 mv, .slice aF mF dF] 24
  have B := bF.trans (B0.mono bF.size)
  replace Z1 := Lib.hid (Z1.out.below B Z1.out.lt)
  replace BL := Lib.hid (BL.out.trans (B.mono BL.out.size))
  replace S1 := Lib.hid (S1.out.below B)
  replace SV := Lib.hid (SV.out.below B)
  have ZF := Lib.hid (Holds.new v1 24 #[.int .i64 mv, .slice aF mF dF])
  have TF := Lib.hid (sF.below B0)
  clear bF B B0 sF
  have q := Lib.hid (QL.out _ BL.out)
  go_wp2_with fail
  with_reducible refine q.out.mono ?_
  rintro e v2 ⟨aL, dL, rfl, sL, bL⟩
  clear k11 k12 k13
  clear q QL
  have B0 := box_below v2 #[.int .i64 mv, .slice aL mL dL] 24
  have B := bL.trans (B0.mono bL.size)
  replace Z1 := Lib.hid (Z1.out.below B Z1.out.lt)
  replace ZF := Lib.hid (ZF.out.below B ZF.out.lt)
  replace BL := Lib.hid (BL.out.trans (B.mono BL.out.size))
  replace S1 := Lib.hid (S1.out.below B)
  replace SV := Lib.hid (SV.out.below B)
  replace TF := Lib.hid (TF.out.below B)
  have ZL := Lib.hid (Holds.new v2 24 #[.int .i64 mv, .slice aL mL dL])
  have TL := Lib.hid (sL.below B0)
  clear bL B B0 sL
  have q := Lib.hid (zlivesAt w _ BL.out)
  go_wp2_with fail
  with_reducible refine q.out.mono ?_
  rintro e v3 ⟨rfl, b3, -⟩
  clear q
  replace Z1 := Lib.hid (Z1.out.below b3 Z1.out.lt)
  replace ZF := Lib.hid (ZF.out.below b3 ZF.out.lt)
  replace ZL := Lib.hid (ZL.out.below b3 ZL.out.lt)
  replace BL := Lib.hid (BL.out.trans (b3.mono BL.out.size))
  replace S1 := Lib.hid (S1.out.below b3)
  replace SV := Lib.hid (SV.out.below b3)
  replace TF := Lib.hid (TF.out.below b3)
  replace TL := Lib.hid (TL.out.below b3)
  clear b3
  have q := Lib.hid (QVi.out _ SV.out)
  go_wp2_with fail
  with_reducible refine q.out.mono ?_
  rintro e u1 ⟨rfl, rfl⟩
  clear q
  go_wp2
  have k14 : ∀ W, Below v3.heap.size v3 W → W.cell? ⟨w.heap.size, 0, none⟩ = some (.int .i64 mv) := fun W hW => (Z1.out.below hW Z1.out.lt).cell 0
  have k15 : ∀ W, Below v3.heap.size v3 W → W.cell? ⟨w.heap.size, 1, none⟩ = some (.slice a1 m1 c1) := fun W hW => (Z1.out.below hW Z1.out.lt).cell 1
  have k16 : ∀ W, Below v3.heap.size v3 W → W.cell? ⟨v2.heap.size, 0, none⟩ = some (.int .i64 mv) := fun W hW => (ZL.out.below hW ZL.out.lt).cell 0
  have k17 : ∀ W, Below v3.heap.size v3 W → W.cell? ⟨v2.heap.size, 1, none⟩ = some (.slice aL mL dL) := fun W hW => (ZL.out.below hW ZL.out.lt).cell 1
  have qa := Lib.hid (fun W (hW : Below v3.heap.size v3 W) => SV.out.below hW)
  have ql := Lib.hid (fun W (hW : Below v3.heap.size v3 W) => TL.out.below hW)
  have q1 := Lib.hid (fun W (hW : Below v3.heap.size v3 W) => S1.out.below hW)
  refine wp_drawn_on (fun W => Below v3.heap.size v3 W) (by kernel_rfl) (below_drew (Below.refl _ _)) (fun hHeld => ?_)
  refine wpAnyH_take (i := 0) (oi := { dst := some 82, op := Go.Op.load 24 (Go.Operand.tmp 13), type := 24, pos := "law.go:158", after := #[], guard := none }) (v := ?v76) rfl (by kernel_rfl) (by kernel_rfl) (by kernel_rfl) (fun _ _ _ h => h) (Or.inl ⟨by kernel_rfl, ?h76⟩) (by assumption) ?r76
  case h76 => (intro w hSw; (try dsimp only at hSw); go_simp; try with_reducible rfl)
  try simp only [Act.put, List.setIfInBounds_toArray, List.set_cons_zero, List.set_cons_succ]
  refine wpAnyH_take (i := 1) (oi := { dst := some 83, op := Go.Op.move (Go.Operand.tmp 1), type := 22, pos := "law.go:158", after := #[], guard := none }) (v := ?v77) rfl (by kernel_rfl) (by kernel_rfl) (by kernel_rfl) (fun _ _ _ h => h) (Or.inl ⟨by kernel_rfl, ?h77⟩) (by assumption) ?r77
  case h77 => (intro w hSw; (try dsimp only at hSw); go_simp; try with_reducible rfl)
  try simp only [Act.put, List.setIfInBounds_toArray, List.set_cons_zero, List.set_cons_succ]
  refine wpAnyH_take (i := 3) (oi := { dst := some 85, op := Go.Op.move (Go.Operand.tmp 15), type := 3, pos := "law.go:158", after := #[], guard := none }) (v := ?v78) rfl (by kernel_rfl) (by kernel_rfl) (by kernel_rfl) (fun _ _ _ h => h) (Or.inl ⟨by kernel_rfl, ?h78⟩) (by assumption) ?r78
  case h78 => (intro w hSw; (try dsimp only at hSw); go_simp; try with_reducible rfl)
  try simp only [Act.put, List.setIfInBounds_toArray, List.set_cons_zero, List.set_cons_succ]
  refine wpAnyH_ready (rs := [2]) (by kernel_rfl) (by simp) ?_
  refine AllReadyH.cons (o := { dst := some 84, op := Go.Op.call { callee := Go.Callee.value (Go.Operand.func 35), args := #[Go.Operand.tmp 82, Go.Operand.tmp 83], argTypes := #[24, 22] }, type := 4, pos := "law.go:158", after := #[{ on := 0, ground := Go.Ground.data }, { on := 1, ground := Go.Ground.data }], guard := none }) rfl (fun K hK => ?_) AllReadyH.nil
  go_simp
  with_reducible refine (QHL.out _ aL dL (ql.out _ hHeld) (qa.out _ hHeld)).mono ?_
  rintro e t2 ⟨rfl, b2⟩
  go_simp
  refine hK.out _ _ (hHeld.trans (b2.mono hHeld.size)) (fun hHeld => ?_)
  clear hK K
  try simp only [Act.put, List.setIfInBounds_toArray, List.set_cons_zero, List.set_cons_succ]
  refine wpAnyH_ready (rs := [4]) (by kernel_rfl) (by simp) ?_
  refine AllReadyH.cons (o := { dst := some 86, op := Go.Op.call { callee := Go.Callee.value (Go.Operand.func 43), args := #[Go.Operand.tmp 85], argTypes := #[3] }, type := 4, pos := "law.go:158", after := #[{ on := 3, ground := Go.Ground.data }, { on := 2, ground := Go.Ground.chain }], guard := none }) rfl (fun K hK => ?_) AllReadyH.nil
  go_simp
  with_reducible refine (QB.out _).mono ?_
  rintro e t4 ⟨rfl, b4⟩
  have b4 := below_of_eq b4
  go_simp
  refine hK.out _ _ (hHeld.trans (b4.mono hHeld.size)) (fun hHeld => ?_)
  clear hK K
  try simp only [Act.put, List.setIfInBounds_toArray, List.set_cons_zero, List.set_cons_succ]
  refine wpAnyH_take (i := 5) (oi := { dst := some 87, op := Go.Op.move (Go.Operand.tmp 86), type := 4, pos := "law.go:158", after := #[{ on := 4, ground := Go.Ground.data }, { on := 4, ground := Go.Ground.chain }], guard := none }) (v := ?v79) rfl (by kernel_rfl) (by kernel_rfl) (by kernel_rfl) (fun _ _ _ h => h) (Or.inl ⟨by kernel_rfl, ?h79⟩) (by assumption) ?r79
  case h79 => (intro w hSw; (try dsimp only at hSw); go_simp; try with_reducible rfl)
  try simp only [Act.put, List.setIfInBounds_toArray, List.set_cons_zero, List.set_cons_succ]
  refine wpAnyH_take (i := 6) (oi := { dst := some 88, op := Go.Op.move (Go.Operand.tmp 1), type := 22, pos := "law.go:158", after := #[{ on := 5, ground := Go.Ground.guard }], guard := some (5, true) }) (v := ?v80) rfl (by kernel_rfl) (by kernel_rfl) (by kernel_rfl) (fun _ _ _ h => h) (Or.inl ⟨by kernel_rfl, ?h80⟩) (by assumption) ?r80
  case h80 => (intro w hSw; (try dsimp only at hSw); go_simp; try with_reducible rfl)
  try simp only [Act.put, List.setIfInBounds_toArray, List.set_cons_zero, List.set_cons_succ]
  refine wpAnyH_take (i := 7) (oi := { dst := some 89, op := Go.Op.move (Go.Operand.tmp 2), type := 3, pos := "law.go:158", after := #[{ on := 5, ground := Go.Ground.guard }], guard := some (5, true) }) (v := ?v81) rfl (by kernel_rfl) (by kernel_rfl) (by kernel_rfl) (fun _ _ _ h => h) (Or.inl ⟨by kernel_rfl, ?h81⟩) (by assumption) ?r81
  case h81 => (intro w hSw; (try dsimp only at hSw); go_simp; try with_reducible rfl)
  try simp only [Act.put, List.setIfInBounds_toArray, List.set_cons_zero, List.set_cons_succ]
  refine wpAnyH_ready (rs := [8]) (by kernel_rfl) (by simp) ?_
  refine AllReadyH.cons (o := { dst := some 90, op := Go.Op.call { callee := Go.Callee.value (Go.Operand.func 39), args := #[Go.Operand.tmp 88, Go.Operand.tmp 89], argTypes := #[22, 3] }, type := 3, pos := "law.go:158", after := #[{ on := 6, ground := Go.Ground.data }, { on := 7, ground := Go.Ground.data }, { on := 5, ground := Go.Ground.chain }, { on := 5, ground := Go.Ground.guard }], guard := some (5, true) }) rfl (fun K hK => ?_) AllReadyH.nil
  go_simp
  with_reducible refine (QVi.out _ (qa.out _ hHeld)).mono ?_
  rintro e t8 ⟨rfl, b8⟩
  have b8 := below_of_eq b8
  go_simp
  refine hK.out _ _ (hHeld.trans (b8.mono hHeld.size)) (fun hHeld => ?_)
  clear hK K
  try simp only [Act.put, List.setIfInBounds_toArray, List.set_cons_zero, List.set_cons_succ]
  refine wpAnyH_ready (rs := [9]) (by kernel_rfl) (by simp) ?_
  refine AllReadyH.cons (o := { dst := some 91, op := Go.Op.call { callee := Go.Callee.value (Go.Operand.func 43), args := #[Go.Operand.tmp 90], argTypes := #[3] }, type := 4, pos := "law.go:158", after := #[{ on := 8, ground := Go.Ground.data }, { on := 8, ground := Go.Ground.chain }, { on := 5, ground := Go.Ground.guard }], guard := some (5, true) }) rfl (fun K hK => ?_) AllReadyH.nil
  go_simp
  with_reducible refine (QS.out _).mono ?_
  rintro e t9 ⟨rfl, b9⟩
  have b9 := below_of_eq b9
  go_simp
  refine hK.out _ _ (hHeld.trans (b9.mono hHeld.size)) (fun hHeld => ?_)
  clear hK K
  try simp only [Act.put, List.setIfInBounds_toArray, List.set_cons_zero, List.set_cons_succ]
  refine wpAnyH_take (i := 10) (oi := { dst := some 92, op := Go.Op.pick (Go.Operand.tmp 87) (Go.Operand.tmp 91) (Go.Operand.const (Go.Value.bool false)), type := 4, pos := "law.go:158", after := #[{ on := 5, ground := Go.Ground.data }, { on := 9, ground := Go.Ground.data }], guard := none }) (v := ?v82) rfl (by kernel_rfl) (by kernel_rfl) (by kernel_rfl) (fun _ _ _ h => h) (Or.inl ⟨by kernel_rfl, ?h82⟩) (by assumption) ?r82
  case h82 => (intro w hSw; (try dsimp only at hSw); go_simp; try with_reducible rfl)
  try simp only [Act.put, List.setIfInBounds_toArray, List.set_cons_zero, List.set_cons_succ]
  refine wpAnyH_take (i := 11) (oi := { dst := some 93, op := Go.Op.move (Go.Operand.tmp 92), type := 4, pos := "law.go:158", after := #[{ on := 10, ground := Go.Ground.data }, { on := 9, ground := Go.Ground.chain }], guard := none }) (v := ?v83) rfl (by kernel_rfl) (by kernel_rfl) (by kernel_rfl) (fun _ _ _ h => h) (Or.inl ⟨by kernel_rfl, ?h83⟩) (by assumption) ?r83
  case h83 => (intro w hSw; (try dsimp only at hSw); go_simp; try with_reducible rfl)
  try simp only [Act.put, List.setIfInBounds_toArray, List.set_cons_zero, List.set_cons_succ]
  refine wpAnyH_take (i := 12) (oi := { dst := some 94, op := Go.Op.load 24 (Go.Operand.tmp 5), type := 24, pos := "law.go:158", after := #[{ on := 11, ground := Go.Ground.guard }], guard := some (11, true) }) (v := ?v84) rfl (by kernel_rfl) (by kernel_rfl) (by kernel_rfl) (fun _ _ _ h => h) (Or.inl ⟨by kernel_rfl, ?h84⟩) (by assumption) ?r84
  case h84 => (intro w hSw; (try dsimp only at hSw); go_simp; try with_reducible rfl)
  try simp only [Act.put, List.setIfInBounds_toArray, List.set_cons_zero, List.set_cons_succ]
  refine wpAnyH_take (i := 13) (oi := { dst := some 95, op := Go.Op.move (Go.Operand.tmp 1), type := 22, pos := "law.go:158", after := #[{ on := 11, ground := Go.Ground.guard }], guard := some (11, true) }) (v := ?v85) rfl (by kernel_rfl) (by kernel_rfl) (by kernel_rfl) (fun _ _ _ h => h) (Or.inl ⟨by kernel_rfl, ?h85⟩) (by assumption) ?r85
  case h85 => (intro w hSw; (try dsimp only at hSw); go_simp; try with_reducible rfl)
  try simp only [Act.put, List.setIfInBounds_toArray, List.set_cons_zero, List.set_cons_succ]
  refine wpAnyH_take (i := 14) (oi := { dst := some 96, op := Go.Op.move (Go.Operand.tmp 2), type := 3, pos := "law.go:158", after := #[{ on := 11, ground := Go.Ground.guard }], guard := some (11, true) }) (v := ?v86) rfl (by kernel_rfl) (by kernel_rfl) (by kernel_rfl) (fun _ _ _ h => h) (Or.inl ⟨by kernel_rfl, ?h86⟩) (by assumption) ?r86
  case h86 => (intro w hSw; (try dsimp only at hSw); go_simp; try with_reducible rfl)
  try simp only [Act.put, List.setIfInBounds_toArray, List.set_cons_zero, List.set_cons_succ]
  refine wpAnyH_take (i := 15) (oi := { dst := some 97, op := Go.Op.move (Go.Operand.tmp 15), type := 3, pos := "law.go:158", after := #[{ on := 11, ground := Go.Ground.guard }], guard := some (11, true) }) (v := ?v87) rfl (by kernel_rfl) (by kernel_rfl) (by kernel_rfl) (fun _ _ _ h => h) (Or.inl ⟨by kernel_rfl, ?h87⟩) (by assumption) ?r87
  case h87 => (intro w hSw; (try dsimp only at hSw); go_simp; try with_reducible rfl)
  try simp only [Act.put, List.setIfInBounds_toArray, List.set_cons_zero, List.set_cons_succ]
  refine wpAnyH_ready (rs := [16]) (by kernel_rfl) (by simp) ?_
  refine AllReadyH.cons (o := { dst := some 98, op := Go.Op.call { callee := Go.Callee.value (Go.Operand.func 42), args := #[Go.Operand.tmp 95, Go.Operand.tmp 96, Go.Operand.tmp 97], argTypes := #[22, 3, 3] }, type := 22, pos := "law.go:158", after := #[{ on := 13, ground := Go.Ground.data }, { on := 14, ground := Go.Ground.data }, { on := 15, ground := Go.Ground.data }, { on := 11, ground := Go.Ground.chain }, { on := 11, ground := Go.Ground.guard }], guard := some (11, true) }) rfl (fun K hK => ?_) AllReadyH.nil
  go_simp
  with_reducible refine (QWb.out _ (qa.out _ hHeld)).mono ?_
  rintro e t16 ⟨bF, eF, rfl, sf, b16⟩
  go_simp
  refine hK.out _ _ (hHeld.trans (b16.mono hHeld.size)) (fun hHeld => ?_)
  clear hK K
  try simp only [Act.put, List.setIfInBounds_toArray, List.set_cons_zero, List.set_cons_succ]
  refine wpAnyH_ready (rs := [17]) (by kernel_rfl) (by simp) ?_
  refine AllReadyH.cons (o := { dst := some 99, op := Go.Op.call { callee := Go.Callee.value (Go.Operand.func 35), args := #[Go.Operand.tmp 94, Go.Operand.tmp 98], argTypes := #[24, 22] }, type := 4, pos := "law.go:158", after := #[{ on := 12, ground := Go.Ground.data }, { on := 16, ground := Go.Ground.data }, { on := 16, ground := Go.Ground.chain }, { on := 11, ground := Go.Ground.guard }], guard := some (11, true) }) rfl (fun K hK => ?_) AllReadyH.nil
  go_simp
  with_reducible refine (QHb.out _ bF eF (q1.out _ hHeld) sf).mono ?_
  rintro e t17 ⟨rfl, b17⟩
  go_simp
  refine hK.out _ _ (hHeld.trans (b17.mono hHeld.size)) (fun hHeld => ?_)
  clear hK K
  try simp only [Act.put, List.setIfInBounds_toArray, List.set_cons_zero, List.set_cons_succ]
  refine wpAnyH_take (i := 18) (oi := { dst := some 100, op := Go.Op.pick (Go.Operand.tmp 93) (Go.Operand.tmp 99) (Go.Operand.const (Go.Value.bool false)), type := 4, pos := "law.go:158", after := #[{ on := 11, ground := Go.Ground.data }, { on := 17, ground := Go.Ground.data }], guard := none }) (v := ?v88) rfl (by kernel_rfl) (by kernel_rfl) (by kernel_rfl) (fun _ _ _ h => h) (Or.inl ⟨by kernel_rfl, ?h88⟩) (by assumption) ?r88
  case h88 => (intro w hSw; (try dsimp only at hSw); go_simp; try with_reducible rfl)
  try simp only [Act.put, List.setIfInBounds_toArray, List.set_cons_zero, List.set_cons_succ]
  refine wpAnyH_take (i := 19) (oi := { dst := some 101, op := Go.Op.binOp Go.BinOp.neq 4 (Go.Operand.tmp 84) (Go.Operand.tmp 100) 4, type := 4, pos := "law.go:158", after := #[{ on := 2, ground := Go.Ground.data }, { on := 18, ground := Go.Ground.data }], guard := none }) (v := ?v89) rfl (by kernel_rfl) (by kernel_rfl) (by kernel_rfl) (fun _ _ _ h => h) (Or.inl ⟨by kernel_rfl, ?h89⟩) (by assumption) ?r89
  case h89 => (intro w hSw; (try dsimp only at hSw); go_simp; try with_reducible rfl)
  try simp only [Act.put, List.setIfInBounds_toArray, List.set_cons_zero, List.set_cons_succ]
  refine wpAnyH_done (by kernel_rfl) ?_ _
  clear k14 k15 k16 k17
  replace Z1 := Lib.hid (Z1.out.below hHeld Z1.out.lt)
  replace ZF := Lib.hid (ZF.out.below hHeld ZF.out.lt)
  replace ZL := Lib.hid (ZL.out.below hHeld ZL.out.lt)
  replace BL := Lib.hid (BL.out.trans (hHeld.mono BL.out.size))
  replace S1 := Lib.hid (S1.out.below hHeld)
  replace SV := Lib.hid (SV.out.below hHeld)
  replace TF := Lib.hid (TF.out.below hHeld)
  replace TL := Lib.hid (TL.out.below hHeld)
  clear hHeld qa ql q1 QHL QB QS
  have k18 := ZF.out.cell 0
  have k19 := ZF.out.cell 1
  have q := Lib.hid (QHF.out _ aF dF TF.out SV.out)
  go_wp2_with fail
  with_reducible refine q.out.mono ?_
  rintro e v5 ⟨rfl, b5⟩
  clear k18 k19
  clear q QHF
  replace Z1 := Lib.hid (Z1.out.below b5 Z1.out.lt)
  replace ZF := Lib.hid (ZF.out.below b5 ZF.out.lt)
  replace ZL := Lib.hid (ZL.out.below b5 ZL.out.lt)
  replace BL := Lib.hid (BL.out.trans (b5.mono BL.out.size))
  replace S1 := Lib.hid (S1.out.below b5)
  replace SV := Lib.hid (SV.out.below b5)
  replace TF := Lib.hid (TF.out.below b5)
  replace TL := Lib.hid (TL.out.below b5)
  clear b5
  go_wp2
  go_ret
  exact ⟨rfl, BL.out⟩
set_option maxRecDepth 100000 in
set_option maxHeartbeats 8000000 in
theorem steps_ettt (i : Nat) (c : Int) (a1 av : Option Addr) (m1 mv c1 cv : Nat) (l1 v : List Int) (w : World) (h1 : SL w a1 m1 c1 l1) (hv : SL w av mv cv v) (g1 : ¬ 200 < m1) (g2 : ¬ 8 < mv) (z1 : IsZ mv l1) (hi0 : 1 ≤ i) (hi : i ≤ mv) (hc : farB c = false) (hhf : hasB mv (forgetL mv l1 i) v = true) (hsv : farB (valF v i) = false) (hsb : farB (IntKind.i64.wrap (valF v i - c)) = false) : Calls Try.prog 7 #[.agg #[.int .i64 mv, .slice a1 m1 c1], .slice av mv cv, .int .i64 i, .int .i64 i, .int .i64 c] w (Gives (.bool true) w) := by
  have hvl : v.length = mv := hv.len.symm
  have g2i : ¬ (8 : Int) < (mv : Int) := by omega
  have hck := Lib.hid z1.check
  have his : Hid ((!farB c) = true) := Lib.hid (by rw [hc]; rfl)
  have hvar : Hid ((decide (1 ≤ (i : Int)) && decide ((i : Int) ≤ (mv : Int))) = true) := Lib.hid (by simp; omega)
  have hor : Hid ((decide (0 ≤ (i : Int)) && decide ((i : Int) ≤ (mv : Int))) = true) := Lib.hid (by simp; omega)
  have H1 := Lib.hid h1
  have HV := Lib.hid hv
  have bc : -1099511627776 ≤ c ∧ c ≤ 1099511627776 := by unfold farB at hc; simp at hc; omega
  have zF : IsZ mv (forgetL mv l1 i) := forgetL_isz z1.1 _ _
  obtain ⟨mF, hmF⟩ : ∃ x, x = (forgetL mv l1 i).length := ⟨_, rfl⟩
  have rF : mF ≤ 81 := by rw [hmF]; exact zF.small
  have QF := Lib.hid (fun W (hW : Below w.heap.size w W) => (zforget_ok mv l1 z1 i hi0 hi a1 m1 c1 W (H1.out.below hW)).mono (fun e w' h => ends_of (m := mF) hmF.symm (by omega) h))
  have zL : IsZ mv (letL mv l1 i i c) := letL_isz z1.1 _ _ _ _
  obtain ⟨mL, hmL⟩ : ∃ x, x = (letL mv l1 i i c).length := ⟨_, rfl⟩
  have rL : mL ≤ 81 := by rw [hmL]; exact zL.small
  have QL := Lib.hid (fun W (hW : Below w.heap.size w W) => (zlet_ok mv l1 z1 i i hi0 hi hi c a1 m1 c1 W (H1.out.below hW)).mono (fun e w' h => ends_of (m := mL) hmL.symm (by omega) h))
  have fm := fact_mov z1 hvl hi0 hi c
  have bv : -1099511627776 ≤ valF v i ∧ valF v i ≤ 1099511627776 := by unfold farB at hsv; simp at hsv; omega
  have hwr : IntKind.i64.wrap (valF v i - c) = valF v i - c := IntWalk.i64_in _ (by omega)
  rw [hwr] at hsb
  rw [hsb, hsv] at fm
  simp only [Bool.not_false, Bool.not_true, Bool.true_and, Bool.false_and] at fm
  have QHL : Hid (∀ W a cz, SL W a mL cz (letL mv l1 i i c) → SL W av mv cv v → Calls Try.prog 35 #[.agg #[.int .i64 mv, .slice a mL cz], .slice av mv cv] W (Gives (.bool (hasB mv l1 (withL v i (valF v i - c)))) W)) := Lib.hid (fun W a cz hS hV => by have := has_any mv a mL cz _ av mv cv v W hS hV; rwa [fm] at this)
  have QB := Lib.hid (fun W => by have := is_any (valF v i - c) W; rwa [hsb] at this)
  have QS := Lib.hid (fun W => by have := is_any (valF v i) W; rwa [hsv] at this)
  have QWb := Lib.hid (fun W (hV : SL W av mv cv v) => lwith_any av v mv cv (by omega) i hi0 hi (valF v i - c) W hV)
  have QHb := Lib.hid (fun W b d (hS : SL W a1 m1 c1 l1) (hV : SL W b mv d (withL v i (valF v i - c))) => has_any mv a1 m1 c1 l1 b mv d _ W hS hV)
  have QHF : Hid (∀ W a cz, SL W a mF cz (forgetL mv l1 i) → SL W av mv cv v → Calls Try.prog 35 #[.agg #[.int .i64 mv, .slice a mF cz], .slice av mv cv] W (Gives (.bool (true)) W)) := Lib.hid (fun W a cz hS hV => by have := has_any mv a mF cz _ av mv cv v W hS hV; rwa [hhf] at this)
  have QVk := Lib.hid (fun k (hk : k ≤ mv) W (hV : SL W av mv cv v) => lval_any av v mv cv hvl.symm (by omega) k hk W.heap.size W hV.sees)
  have QVi := Lib.hid (fun W (hV : SL W av mv cv v) => QVk.out i hi W hV)
  have hhas := (has_iff (forgetL_isz z1.1 l1 i) hvl).1 hhf
  have hfo := (has_forget z1 hi).1 hhas
  have hF := z1.2.resolve_left hfo.1
  have hval : Hid (∀ k, -1099511627776 ≤ valF v k ∧ valF v k ≤ 1099511627776) := Lib.hid (fun k => val_in hfo.2.1 k)
  have hmat : Hid (∀ k, k ≤ mv → -2199023255552 ≤ mat mv l1 k i ∧ mat mv l1 k i ≤ 2199023255552) := Lib.hid (fun k hk => full_near hF (place_lt hk hi))
  have QBd := Lib.hid (fun k (hk : k ≤ mv) W (hS : SL W a1 m1 c1 l1) => bound_full hF hk hi a1 m1 c1 W hS)
  have flst := fact_least z1 hvl hi0 hi hhf
  have QWl := Lib.hid (fun W (hV : SL W av mv cv v) => lwith_any av v mv cv (by omega) i hi0 hi (leastK mv l1 v i (mv + 1)) W hV)
  have QHz : Hid (∀ W b d, SL W a1 m1 c1 l1 → SL W b mv d (withL v i (leastK mv l1 v i (mv + 1))) → Calls Try.prog 35 #[.agg #[.int .i64 mv, .slice a1 m1 c1], .slice b mv d] W (Gives (.bool (true)) W)) := Lib.hid (fun W b d hS hV => by have := has_any mv a1 m1 c1 l1 b mv d _ W hS hV; rwa [flst] at this)
  clear hc hhf hwr fm hsv hsb hhas hfo hF flst zF hmF zL hmL
  clear z1 hi0 hi hvl
  generalize withL v i (leastK mv l1 v i (mv + 1)) = vl at *
  generalize hasB mv l1 (withL v i (valF v i - c)) = hb at *
  generalize withL v i (valF v i - c) = vb at *
  generalize forgetL mv l1 i = LF at *
  generalize letL mv l1 i i c = LL at *
  obtain ⟨x, hx⟩ : ∃ x, x = valF v i := ⟨_, rfl⟩
  rw [← hx] at QVi QS bv QB QWb
  clear hx
  obtain ⟨W1, hW1⟩ : ∃ W1, W1 = w.alloc (.cells #[.int .i64 mv, .slice a1 m1 c1] 24) := ⟨_, rfl⟩
  have Z1 : Hid (Holds W1 (w.heap.size) 24 #[.int .i64 mv, .slice a1 m1 c1]) := Lib.hid (by rw [hW1]; exact Holds.new w _ _)
  have BL := Lib.hid (show Below w.heap.size w W1 by rw [hW1]; exact box_below _ _ _)
  have S1 := Lib.hid (h1.below BL.out)
  have SV := Lib.hid (hv.below BL.out)
  have hW1' := Lib.hid hW1
  clear hW1
  clear h1 hv
  go_enter Try.func7, Try.ntmps7
  have k1 := Z1.out.cell 0
  have k2 := Z1.out.cell 1
  have q := Lib.hid (by have := large_any a1 m1 c1 S1.out.max W1; rwa [decide_eq_false (show ¬ (200 : Int) < (m1 : Int) by omega)] at this)
  go_wp2_with fail
  rw [← hW1'.out]
  with_reducible refine q.out.mono ?_
  rintro e u1 ⟨rfl, rfl⟩
  clear hW1'
  clear q
  have q := Lib.hid (by have := rcheck_any mv a1 m1 c1 l1 W1 S1.out; rwa [hck.out] at this)
  go_wp2_with fail
  with_reducible refine q.out.mono ?_
  rintro e u2 ⟨rfl, b2⟩
  clear k1 k2
  clear q
  have k3 : u2.cell? ⟨w.heap.size, 0, none⟩ = some (.int .i64 mv) := (Z1.out.below b2 Z1.out.lt).cell 0
  have k4 : u2.cell? ⟨w.heap.size, 1, none⟩ = some (.slice a1 m1 c1) := (Z1.out.below b2 Z1.out.lt).cell 1
  replace Z1 := Lib.hid (Z1.out.below b2 Z1.out.lt)
  replace BL := Lib.hid (BL.out.trans (b2.mono BL.out.size))
  replace S1 := Lib.hid (S1.out.below b2)
  replace SV := Lib.hid (SV.out.below b2)
  clear b2
  have q := Lib.hid (by have := rvar_any mv i a1 m1 c1 u2; rwa [hvar.out] at this)
  go_wp2_with fail
  with_reducible refine q.out.mono ?_
  rintro e u3 ⟨rfl, b3⟩
  clear k3 k4
  clear q
  have k5 : u3.cell? ⟨w.heap.size, 0, none⟩ = some (.int .i64 mv) := (Z1.out.below b3 Z1.out.lt).cell 0
  have k6 : u3.cell? ⟨w.heap.size, 1, none⟩ = some (.slice a1 m1 c1) := (Z1.out.below b3 Z1.out.lt).cell 1
  replace Z1 := Lib.hid (Z1.out.below b3 Z1.out.lt)
  replace BL := Lib.hid (BL.out.trans (b3.mono BL.out.size))
  replace S1 := Lib.hid (S1.out.below b3)
  replace SV := Lib.hid (SV.out.below b3)
  clear b3
  have q := Lib.hid (by have := ror0_any mv i a1 m1 c1 u3; rwa [hor.out] at this)
  go_wp2_with fail
  with_reducible refine q.out.mono ?_
  rintro e u4 ⟨rfl, b4⟩
  clear k5 k6
  clear q
  have k7 : u4.cell? ⟨w.heap.size, 0, none⟩ = some (.int .i64 mv) := (Z1.out.below b4 Z1.out.lt).cell 0
  have k8 : u4.cell? ⟨w.heap.size, 1, none⟩ = some (.slice a1 m1 c1) := (Z1.out.below b4 Z1.out.lt).cell 1
  replace Z1 := Lib.hid (Z1.out.below b4 Z1.out.lt)
  replace BL := Lib.hid (BL.out.trans (b4.mono BL.out.size))
  replace S1 := Lib.hid (S1.out.below b4)
  replace SV := Lib.hid (SV.out.below b4)
  clear b4
  have q := Lib.hid (by have := is_any c u4; rwa [his.out] at this)
  go_wp2_with fail
  with_reducible refine q.out.mono ?_
  rintro e u1 ⟨rfl, rfl⟩
  clear q
  clear k7 k8
  have k9 := Z1.out.cell 0
  have k10 := Z1.out.cell 1
  have q := Lib.hid (QF.out _ BL.out)
  go_wp2_with fail
  with_reducible refine q.out.mono ?_
  rintro e v1 ⟨aF, dF, rfl, sF, bF⟩
  clear k9 k10
  clear q QF
  have k11 : v1.cell? ⟨w.heap.size, 0, none⟩ = some (.int .i64 mv) := (Z1.out.below bF Z1.out.lt).cell 0
  have k12 : v1.cell? ⟨w.heap.size, 1, none⟩ = some (.slice a1 m1 c1) := (Z1.out.below bF Z1.out.lt).cell 1
  have k13 : w.heap.size < v1.heap.size := (Z1.out.below bF Z1.out.lt).lt
  have B0 := box_below v1 #[.int .i64 mv, .slice aF mF dF] 24
  have B := bF.trans (B0.mono bF.size)
  replace Z1 := Lib.hid (Z1.out.below B Z1.out.lt)
  replace BL := Lib.hid (BL.out.trans (B.mono BL.out.size))
  replace S1 := Lib.hid (S1.out.below B)
  replace SV := Lib.hid (SV.out.below B)
  have ZF := Lib.hid (Holds.new v1 24 #[.int .i64 mv, .slice aF mF dF])
  have TF := Lib.hid (sF.below B0)
  clear bF B B0 sF
  have q := Lib.hid (QL.out _ BL.out)
  go_wp2_with fail
  with_reducible refine q.out.mono ?_
  rintro e v2 ⟨aL, dL, rfl, sL, bL⟩
  clear k11 k12 k13
  clear q QL
  have B0 := box_below v2 #[.int .i64 mv, .slice aL mL dL] 24
  have B := bL.trans (B0.mono bL.size)
  replace Z1 := Lib.hid (Z1.out.below B Z1.out.lt)
  replace ZF := Lib.hid (ZF.out.below B ZF.out.lt)
  replace BL := Lib.hid (BL.out.trans (B.mono BL.out.size))
  replace S1 := Lib.hid (S1.out.below B)
  replace SV := Lib.hid (SV.out.below B)
  replace TF := Lib.hid (TF.out.below B)
  have ZL := Lib.hid (Holds.new v2 24 #[.int .i64 mv, .slice aL mL dL])
  have TL := Lib.hid (sL.below B0)
  clear bL B B0 sL
  have q := Lib.hid (zlivesAt w _ BL.out)
  go_wp2_with fail
  with_reducible refine q.out.mono ?_
  rintro e v3 ⟨rfl, b3, -⟩
  clear q
  replace Z1 := Lib.hid (Z1.out.below b3 Z1.out.lt)
  replace ZF := Lib.hid (ZF.out.below b3 ZF.out.lt)
  replace ZL := Lib.hid (ZL.out.below b3 ZL.out.lt)
  replace BL := Lib.hid (BL.out.trans (b3.mono BL.out.size))
  replace S1 := Lib.hid (S1.out.below b3)
  replace SV := Lib.hid (SV.out.below b3)
  replace TF := Lib.hid (TF.out.below b3)
  replace TL := Lib.hid (TL.out.below b3)
  clear b3
  have q := Lib.hid (QVi.out _ SV.out)
  go_wp2_with fail
  with_reducible refine q.out.mono ?_
  rintro e u1 ⟨rfl, rfl⟩
  clear q
  go_wp2
  have k14 : ∀ W, Below v3.heap.size v3 W → W.cell? ⟨w.heap.size, 0, none⟩ = some (.int .i64 mv) := fun W hW => (Z1.out.below hW Z1.out.lt).cell 0
  have k15 : ∀ W, Below v3.heap.size v3 W → W.cell? ⟨w.heap.size, 1, none⟩ = some (.slice a1 m1 c1) := fun W hW => (Z1.out.below hW Z1.out.lt).cell 1
  have k16 : ∀ W, Below v3.heap.size v3 W → W.cell? ⟨v2.heap.size, 0, none⟩ = some (.int .i64 mv) := fun W hW => (ZL.out.below hW ZL.out.lt).cell 0
  have k17 : ∀ W, Below v3.heap.size v3 W → W.cell? ⟨v2.heap.size, 1, none⟩ = some (.slice aL mL dL) := fun W hW => (ZL.out.below hW ZL.out.lt).cell 1
  have qa := Lib.hid (fun W (hW : Below v3.heap.size v3 W) => SV.out.below hW)
  have ql := Lib.hid (fun W (hW : Below v3.heap.size v3 W) => TL.out.below hW)
  have q1 := Lib.hid (fun W (hW : Below v3.heap.size v3 W) => S1.out.below hW)
  refine wp_drawn_on (fun W => Below v3.heap.size v3 W) (by kernel_rfl) (below_drew (Below.refl _ _)) (fun hHeld => ?_)
  refine wpAnyH_take (i := 0) (oi := { dst := some 82, op := Go.Op.load 24 (Go.Operand.tmp 13), type := 24, pos := "law.go:158", after := #[], guard := none }) (v := ?v90) rfl (by kernel_rfl) (by kernel_rfl) (by kernel_rfl) (fun _ _ _ h => h) (Or.inl ⟨by kernel_rfl, ?h90⟩) (by assumption) ?r90
  case h90 => (intro w hSw; (try dsimp only at hSw); go_simp; try with_reducible rfl)
  try simp only [Act.put, List.setIfInBounds_toArray, List.set_cons_zero, List.set_cons_succ]
  refine wpAnyH_take (i := 1) (oi := { dst := some 83, op := Go.Op.move (Go.Operand.tmp 1), type := 22, pos := "law.go:158", after := #[], guard := none }) (v := ?v91) rfl (by kernel_rfl) (by kernel_rfl) (by kernel_rfl) (fun _ _ _ h => h) (Or.inl ⟨by kernel_rfl, ?h91⟩) (by assumption) ?r91
  case h91 => (intro w hSw; (try dsimp only at hSw); go_simp; try with_reducible rfl)
  try simp only [Act.put, List.setIfInBounds_toArray, List.set_cons_zero, List.set_cons_succ]
  refine wpAnyH_take (i := 3) (oi := { dst := some 85, op := Go.Op.move (Go.Operand.tmp 15), type := 3, pos := "law.go:158", after := #[], guard := none }) (v := ?v92) rfl (by kernel_rfl) (by kernel_rfl) (by kernel_rfl) (fun _ _ _ h => h) (Or.inl ⟨by kernel_rfl, ?h92⟩) (by assumption) ?r92
  case h92 => (intro w hSw; (try dsimp only at hSw); go_simp; try with_reducible rfl)
  try simp only [Act.put, List.setIfInBounds_toArray, List.set_cons_zero, List.set_cons_succ]
  refine wpAnyH_ready (rs := [2]) (by kernel_rfl) (by simp) ?_
  refine AllReadyH.cons (o := { dst := some 84, op := Go.Op.call { callee := Go.Callee.value (Go.Operand.func 35), args := #[Go.Operand.tmp 82, Go.Operand.tmp 83], argTypes := #[24, 22] }, type := 4, pos := "law.go:158", after := #[{ on := 0, ground := Go.Ground.data }, { on := 1, ground := Go.Ground.data }], guard := none }) rfl (fun K hK => ?_) AllReadyH.nil
  go_simp
  with_reducible refine (QHL.out _ aL dL (ql.out _ hHeld) (qa.out _ hHeld)).mono ?_
  rintro e t2 ⟨rfl, b2⟩
  go_simp
  refine hK.out _ _ (hHeld.trans (b2.mono hHeld.size)) (fun hHeld => ?_)
  clear hK K
  try simp only [Act.put, List.setIfInBounds_toArray, List.set_cons_zero, List.set_cons_succ]
  refine wpAnyH_ready (rs := [4]) (by kernel_rfl) (by simp) ?_
  refine AllReadyH.cons (o := { dst := some 86, op := Go.Op.call { callee := Go.Callee.value (Go.Operand.func 43), args := #[Go.Operand.tmp 85], argTypes := #[3] }, type := 4, pos := "law.go:158", after := #[{ on := 3, ground := Go.Ground.data }, { on := 2, ground := Go.Ground.chain }], guard := none }) rfl (fun K hK => ?_) AllReadyH.nil
  go_simp
  with_reducible refine (QB.out _).mono ?_
  rintro e t4 ⟨rfl, b4⟩
  have b4 := below_of_eq b4
  go_simp
  refine hK.out _ _ (hHeld.trans (b4.mono hHeld.size)) (fun hHeld => ?_)
  clear hK K
  try simp only [Act.put, List.setIfInBounds_toArray, List.set_cons_zero, List.set_cons_succ]
  refine wpAnyH_take (i := 5) (oi := { dst := some 87, op := Go.Op.move (Go.Operand.tmp 86), type := 4, pos := "law.go:158", after := #[{ on := 4, ground := Go.Ground.data }, { on := 4, ground := Go.Ground.chain }], guard := none }) (v := ?v93) rfl (by kernel_rfl) (by kernel_rfl) (by kernel_rfl) (fun _ _ _ h => h) (Or.inl ⟨by kernel_rfl, ?h93⟩) (by assumption) ?r93
  case h93 => (intro w hSw; (try dsimp only at hSw); go_simp; try with_reducible rfl)
  try simp only [Act.put, List.setIfInBounds_toArray, List.set_cons_zero, List.set_cons_succ]
  refine wpAnyH_take (i := 6) (oi := { dst := some 88, op := Go.Op.move (Go.Operand.tmp 1), type := 22, pos := "law.go:158", after := #[{ on := 5, ground := Go.Ground.guard }], guard := some (5, true) }) (v := ?v94) rfl (by kernel_rfl) (by kernel_rfl) (by kernel_rfl) (fun _ _ _ h => h) (Or.inl ⟨by kernel_rfl, ?h94⟩) (by assumption) ?r94
  case h94 => (intro w hSw; (try dsimp only at hSw); go_simp; try with_reducible rfl)
  try simp only [Act.put, List.setIfInBounds_toArray, List.set_cons_zero, List.set_cons_succ]
  refine wpAnyH_take (i := 7) (oi := { dst := some 89, op := Go.Op.move (Go.Operand.tmp 2), type := 3, pos := "law.go:158", after := #[{ on := 5, ground := Go.Ground.guard }], guard := some (5, true) }) (v := ?v95) rfl (by kernel_rfl) (by kernel_rfl) (by kernel_rfl) (fun _ _ _ h => h) (Or.inl ⟨by kernel_rfl, ?h95⟩) (by assumption) ?r95
  case h95 => (intro w hSw; (try dsimp only at hSw); go_simp; try with_reducible rfl)
  try simp only [Act.put, List.setIfInBounds_toArray, List.set_cons_zero, List.set_cons_succ]
  refine wpAnyH_ready (rs := [8]) (by kernel_rfl) (by simp) ?_
  refine AllReadyH.cons (o := { dst := some 90, op := Go.Op.call { callee := Go.Callee.value (Go.Operand.func 39), args := #[Go.Operand.tmp 88, Go.Operand.tmp 89], argTypes := #[22, 3] }, type := 3, pos := "law.go:158", after := #[{ on := 6, ground := Go.Ground.data }, { on := 7, ground := Go.Ground.data }, { on := 5, ground := Go.Ground.chain }, { on := 5, ground := Go.Ground.guard }], guard := some (5, true) }) rfl (fun K hK => ?_) AllReadyH.nil
  go_simp
  with_reducible refine (QVi.out _ (qa.out _ hHeld)).mono ?_
  rintro e t8 ⟨rfl, b8⟩
  have b8 := below_of_eq b8
  go_simp
  refine hK.out _ _ (hHeld.trans (b8.mono hHeld.size)) (fun hHeld => ?_)
  clear hK K
  try simp only [Act.put, List.setIfInBounds_toArray, List.set_cons_zero, List.set_cons_succ]
  refine wpAnyH_ready (rs := [9]) (by kernel_rfl) (by simp) ?_
  refine AllReadyH.cons (o := { dst := some 91, op := Go.Op.call { callee := Go.Callee.value (Go.Operand.func 43), args := #[Go.Operand.tmp 90], argTypes := #[3] }, type := 4, pos := "law.go:158", after := #[{ on := 8, ground := Go.Ground.data }, { on := 8, ground := Go.Ground.chain }, { on := 5, ground := Go.Ground.guard }], guard := some (5, true) }) rfl (fun K hK => ?_) AllReadyH.nil
  go_simp
  with_reducible refine (QS.out _).mono ?_
  rintro e t9 ⟨rfl, b9⟩
  have b9 := below_of_eq b9
  go_simp
  refine hK.out _ _ (hHeld.trans (b9.mono hHeld.size)) (fun hHeld => ?_)
  clear hK K
  try simp only [Act.put, List.setIfInBounds_toArray, List.set_cons_zero, List.set_cons_succ]
  refine wpAnyH_take (i := 10) (oi := { dst := some 92, op := Go.Op.pick (Go.Operand.tmp 87) (Go.Operand.tmp 91) (Go.Operand.const (Go.Value.bool false)), type := 4, pos := "law.go:158", after := #[{ on := 5, ground := Go.Ground.data }, { on := 9, ground := Go.Ground.data }], guard := none }) (v := ?v96) rfl (by kernel_rfl) (by kernel_rfl) (by kernel_rfl) (fun _ _ _ h => h) (Or.inl ⟨by kernel_rfl, ?h96⟩) (by assumption) ?r96
  case h96 => (intro w hSw; (try dsimp only at hSw); go_simp; try with_reducible rfl)
  try simp only [Act.put, List.setIfInBounds_toArray, List.set_cons_zero, List.set_cons_succ]
  refine wpAnyH_take (i := 11) (oi := { dst := some 93, op := Go.Op.move (Go.Operand.tmp 92), type := 4, pos := "law.go:158", after := #[{ on := 10, ground := Go.Ground.data }, { on := 9, ground := Go.Ground.chain }], guard := none }) (v := ?v97) rfl (by kernel_rfl) (by kernel_rfl) (by kernel_rfl) (fun _ _ _ h => h) (Or.inl ⟨by kernel_rfl, ?h97⟩) (by assumption) ?r97
  case h97 => (intro w hSw; (try dsimp only at hSw); go_simp; try with_reducible rfl)
  try simp only [Act.put, List.setIfInBounds_toArray, List.set_cons_zero, List.set_cons_succ]
  refine wpAnyH_take (i := 12) (oi := { dst := some 94, op := Go.Op.load 24 (Go.Operand.tmp 5), type := 24, pos := "law.go:158", after := #[{ on := 11, ground := Go.Ground.guard }], guard := some (11, true) }) (v := ?v98) rfl (by kernel_rfl) (by kernel_rfl) (by kernel_rfl) (fun _ _ _ h => h) (Or.inl ⟨by kernel_rfl, ?h98⟩) (by assumption) ?r98
  case h98 => (intro w hSw; (try dsimp only at hSw); go_simp; try with_reducible rfl)
  try simp only [Act.put, List.setIfInBounds_toArray, List.set_cons_zero, List.set_cons_succ]
  refine wpAnyH_take (i := 13) (oi := { dst := some 95, op := Go.Op.move (Go.Operand.tmp 1), type := 22, pos := "law.go:158", after := #[{ on := 11, ground := Go.Ground.guard }], guard := some (11, true) }) (v := ?v99) rfl (by kernel_rfl) (by kernel_rfl) (by kernel_rfl) (fun _ _ _ h => h) (Or.inl ⟨by kernel_rfl, ?h99⟩) (by assumption) ?r99
  case h99 => (intro w hSw; (try dsimp only at hSw); go_simp; try with_reducible rfl)
  try simp only [Act.put, List.setIfInBounds_toArray, List.set_cons_zero, List.set_cons_succ]
  refine wpAnyH_take (i := 14) (oi := { dst := some 96, op := Go.Op.move (Go.Operand.tmp 2), type := 3, pos := "law.go:158", after := #[{ on := 11, ground := Go.Ground.guard }], guard := some (11, true) }) (v := ?v100) rfl (by kernel_rfl) (by kernel_rfl) (by kernel_rfl) (fun _ _ _ h => h) (Or.inl ⟨by kernel_rfl, ?h100⟩) (by assumption) ?r100
  case h100 => (intro w hSw; (try dsimp only at hSw); go_simp; try with_reducible rfl)
  try simp only [Act.put, List.setIfInBounds_toArray, List.set_cons_zero, List.set_cons_succ]
  refine wpAnyH_take (i := 15) (oi := { dst := some 97, op := Go.Op.move (Go.Operand.tmp 15), type := 3, pos := "law.go:158", after := #[{ on := 11, ground := Go.Ground.guard }], guard := some (11, true) }) (v := ?v101) rfl (by kernel_rfl) (by kernel_rfl) (by kernel_rfl) (fun _ _ _ h => h) (Or.inl ⟨by kernel_rfl, ?h101⟩) (by assumption) ?r101
  case h101 => (intro w hSw; (try dsimp only at hSw); go_simp; try with_reducible rfl)
  try simp only [Act.put, List.setIfInBounds_toArray, List.set_cons_zero, List.set_cons_succ]
  refine wpAnyH_ready (rs := [16]) (by kernel_rfl) (by simp) ?_
  refine AllReadyH.cons (o := { dst := some 98, op := Go.Op.call { callee := Go.Callee.value (Go.Operand.func 42), args := #[Go.Operand.tmp 95, Go.Operand.tmp 96, Go.Operand.tmp 97], argTypes := #[22, 3, 3] }, type := 22, pos := "law.go:158", after := #[{ on := 13, ground := Go.Ground.data }, { on := 14, ground := Go.Ground.data }, { on := 15, ground := Go.Ground.data }, { on := 11, ground := Go.Ground.chain }, { on := 11, ground := Go.Ground.guard }], guard := some (11, true) }) rfl (fun K hK => ?_) AllReadyH.nil
  go_simp
  with_reducible refine (QWb.out _ (qa.out _ hHeld)).mono ?_
  rintro e t16 ⟨bF, eF, rfl, sf, b16⟩
  go_simp
  refine hK.out _ _ (hHeld.trans (b16.mono hHeld.size)) (fun hHeld => ?_)
  clear hK K
  try simp only [Act.put, List.setIfInBounds_toArray, List.set_cons_zero, List.set_cons_succ]
  refine wpAnyH_ready (rs := [17]) (by kernel_rfl) (by simp) ?_
  refine AllReadyH.cons (o := { dst := some 99, op := Go.Op.call { callee := Go.Callee.value (Go.Operand.func 35), args := #[Go.Operand.tmp 94, Go.Operand.tmp 98], argTypes := #[24, 22] }, type := 4, pos := "law.go:158", after := #[{ on := 12, ground := Go.Ground.data }, { on := 16, ground := Go.Ground.data }, { on := 16, ground := Go.Ground.chain }, { on := 11, ground := Go.Ground.guard }], guard := some (11, true) }) rfl (fun K hK => ?_) AllReadyH.nil
  go_simp
  with_reducible refine (QHb.out _ bF eF (q1.out _ hHeld) sf).mono ?_
  rintro e t17 ⟨rfl, b17⟩
  go_simp
  refine hK.out _ _ (hHeld.trans (b17.mono hHeld.size)) (fun hHeld => ?_)
  clear hK K
  try simp only [Act.put, List.setIfInBounds_toArray, List.set_cons_zero, List.set_cons_succ]
  refine wpAnyH_take (i := 18) (oi := { dst := some 100, op := Go.Op.pick (Go.Operand.tmp 93) (Go.Operand.tmp 99) (Go.Operand.const (Go.Value.bool false)), type := 4, pos := "law.go:158", after := #[{ on := 11, ground := Go.Ground.data }, { on := 17, ground := Go.Ground.data }], guard := none }) (v := ?v102) rfl (by kernel_rfl) (by kernel_rfl) (by kernel_rfl) (fun _ _ _ h => h) (Or.inl ⟨by kernel_rfl, ?h102⟩) (by assumption) ?r102
  case h102 => (intro w hSw; (try dsimp only at hSw); go_simp; try with_reducible rfl)
  try simp only [Act.put, List.setIfInBounds_toArray, List.set_cons_zero, List.set_cons_succ]
  refine wpAnyH_take (i := 19) (oi := { dst := some 101, op := Go.Op.binOp Go.BinOp.neq 4 (Go.Operand.tmp 84) (Go.Operand.tmp 100) 4, type := 4, pos := "law.go:158", after := #[{ on := 2, ground := Go.Ground.data }, { on := 18, ground := Go.Ground.data }], guard := none }) (v := ?v103) rfl (by kernel_rfl) (by kernel_rfl) (by kernel_rfl) (fun _ _ _ h => h) (Or.inl ⟨by kernel_rfl, ?h103⟩) (by assumption) ?r103
  case h103 => (intro w hSw; (try dsimp only at hSw); go_simp; try with_reducible rfl)
  try simp only [Act.put, List.setIfInBounds_toArray, List.set_cons_zero, List.set_cons_succ]
  refine wpAnyH_done (by kernel_rfl) ?_ _
  clear k14 k15 k16 k17
  replace Z1 := Lib.hid (Z1.out.below hHeld Z1.out.lt)
  replace ZF := Lib.hid (ZF.out.below hHeld ZF.out.lt)
  replace ZL := Lib.hid (ZL.out.below hHeld ZL.out.lt)
  replace BL := Lib.hid (BL.out.trans (hHeld.mono BL.out.size))
  replace S1 := Lib.hid (S1.out.below hHeld)
  replace SV := Lib.hid (SV.out.below hHeld)
  replace TF := Lib.hid (TF.out.below hHeld)
  replace TL := Lib.hid (TL.out.below hHeld)
  clear hHeld qa ql q1 QHL QB QS
  have k18 := ZF.out.cell 0
  have k19 := ZF.out.cell 1
  have q := Lib.hid (QHF.out _ aF dF TF.out SV.out)
  go_wp2_with fail
  with_reducible refine q.out.mono ?_
  rintro e v5 ⟨rfl, b5⟩
  clear k18 k19
  clear q QHF
  replace Z1 := Lib.hid (Z1.out.below b5 Z1.out.lt)
  replace ZF := Lib.hid (ZF.out.below b5 ZF.out.lt)
  replace ZL := Lib.hid (ZL.out.below b5 ZL.out.lt)
  replace BL := Lib.hid (BL.out.trans (b5.mono BL.out.size))
  replace S1 := Lib.hid (S1.out.below b5)
  replace SV := Lib.hid (SV.out.below b5)
  replace TF := Lib.hid (TF.out.below b5)
  replace TL := Lib.hid (TL.out.below b5)
  clear b5
  clear TF
  clear TL
  clear ZF
  clear ZL
  have k20 := Z1.out.cell 0
  have k21 := Z1.out.cell 1
  go_wp2
  go_loopw [16, 17] (fun y x wr => ∃ k : Nat, k ≤ mv + 1 ∧ x = .int .i64 k ∧ y = .int .i64 (leastK mv l1 v i k) ∧ Hid (Below w.heap.size w wr) ∧ Hid (Holds wr w.heap.size 24 #[.int .i64 mv, .slice a1 m1 c1]) ∧ Hid (SL wr a1 m1 c1 l1) ∧ Hid (SL wr av mv cv v)) (fun _ x _ => mv + 1 - (intOf x).toNat)
  case atStart => exact ⟨0, by omega, rfl, rfl, BL, Z1, S1, SV⟩
  case round =>
    clear k20 k21 BL S1 SV Z1
    obtain ⟨k, hk, rfl, rfl, BL, Y1, S1, SV⟩ := hrel
    have k301 := Y1.out.cell 0
    have k302 := Y1.out.cell 1
    by_cases hlt : k < mv + 1
    · have hki : (k : Int) ≤ (mv : Int) := by omega
      have bk := hval.out k
      have bm := hmat.out k (by omega)
      have qv := Lib.hid (fun W hS => QVk.out k (by omega) W hS)
      have hnx : Hid (leastK mv l1 v i (k + 1) = if k ≠ i ∧ leastK mv l1 v i k < valF v k - mat mv l1 k i then valF v k - mat mv l1 k i else leastK mv l1 v i k) := Lib.hid rfl
      have qb := Lib.hid (QBd.out k (by omega) wr S1.out)
      obtain ⟨ln, hln⟩ : ∃ x, x = leastK mv l1 v i (k + 1) := ⟨_, rfl⟩
      have hln1 := Lib.hid hln.symm
      rw [← hln] at hnx
      clear hln
      generalize leastK mv l1 v i k = lk at *
      generalize valF v k = xk at *
      generalize mat mv l1 k i = mk at *
      by_cases e : k = i
      · have hn1 : Hid (ln = lk) := Lib.hid (by rw [hnx.out, if_neg (fun q => q.1 e)])
        have e1 : (k == i) = true := by simpa using e
        clear hnx e
        have q := Lib.hid (qb.out)
        go_wp2_with fail
        with_reducible refine q.out.mono ?_
        rintro e v1 ⟨rfl, b1⟩
        clear k301 k302
        clear q qb
        have k501 : v1.cell? ⟨w.heap.size, 0, none⟩ = some (.int .i64 mv) := (Y1.out.below b1 Y1.out.lt).cell 0
        have k502 : v1.cell? ⟨w.heap.size, 1, none⟩ = some (.slice a1 m1 c1) := (Y1.out.below b1 Y1.out.lt).cell 1
        replace Y1 := Lib.hid (Y1.out.below b1 Y1.out.lt)
        replace BL := Lib.hid (BL.out.trans (b1.mono BL.out.size))
        replace S1 := Lib.hid (S1.out.below b1)
        replace SV := Lib.hid (SV.out.below b1)
        clear b1
        go_wp2
        go_roundw
        case rel => exact ⟨k + 1, by omega, by go_num, by rw [hln1.out, hn1.out], BL, Y1, S1, SV⟩
        case measure => simp [intOf]; omega
      · have e1 : (k == i) = false := by simpa using e
        by_cases hl : lk < xk - mk
        · have hn1 : Hid (ln = xk - mk) := Lib.hid (by rw [hnx.out, if_pos ⟨e, hl⟩])
          clear hnx
          have q := Lib.hid (qb.out)
          go_wp2_with fail
          with_reducible refine q.out.mono ?_
          rintro e v1 ⟨rfl, b1⟩
          clear k301 k302
          clear q qb
          have k701 : v1.cell? ⟨w.heap.size, 0, none⟩ = some (.int .i64 mv) := (Y1.out.below b1 Y1.out.lt).cell 0
          have k702 : v1.cell? ⟨w.heap.size, 1, none⟩ = some (.slice a1 m1 c1) := (Y1.out.below b1 Y1.out.lt).cell 1
          replace Y1 := Lib.hid (Y1.out.below b1 Y1.out.lt)
          replace BL := Lib.hid (BL.out.trans (b1.mono BL.out.size))
          replace S1 := Lib.hid (S1.out.below b1)
          replace SV := Lib.hid (SV.out.below b1)
          clear b1
          have q := Lib.hid (qv.out v1 SV.out)
          go_wp2_with fail
          with_reducible refine q.out.mono ?_
          rintro e u1 ⟨rfl, rfl⟩
          clear q
          have q := Lib.hid (qv.out v1 SV.out)
          go_wp2_with fail
          with_reducible refine q.out.mono ?_
          rintro e u1 ⟨rfl, rfl⟩
          clear q
          go_wp2
          go_roundw
          case rel => exact ⟨k + 1, by omega, by go_num, by rw [hln1.out, hn1.out], BL, Y1, S1, SV⟩
          case measure => simp [intOf]; omega
        · have hn1 : Hid (ln = lk) := Lib.hid (by rw [hnx.out, if_neg (fun q => hl q.2)])
          clear hnx
          have q := Lib.hid (qb.out)
          go_wp2_with fail
          with_reducible refine q.out.mono ?_
          rintro e v1 ⟨rfl, b1⟩
          clear k301 k302
          clear q qb
          have k701 : v1.cell? ⟨w.heap.size, 0, none⟩ = some (.int .i64 mv) := (Y1.out.below b1 Y1.out.lt).cell 0
          have k702 : v1.cell? ⟨w.heap.size, 1, none⟩ = some (.slice a1 m1 c1) := (Y1.out.below b1 Y1.out.lt).cell 1
          replace Y1 := Lib.hid (Y1.out.below b1 Y1.out.lt)
          replace BL := Lib.hid (BL.out.trans (b1.mono BL.out.size))
          replace S1 := Lib.hid (S1.out.below b1)
          replace SV := Lib.hid (SV.out.below b1)
          clear b1
          have q := Lib.hid (qv.out v1 SV.out)
          go_wp2_with fail
          with_reducible refine q.out.mono ?_
          rintro e u1 ⟨rfl, rfl⟩
          clear q
          go_wp2
          go_roundw
          case rel => exact ⟨k + 1, by omega, by go_num, by rw [hln1.out, hn1.out], BL, Y1, S1, SV⟩
          case measure => simp [intOf]; omega
    · have hke : k = mv + 1 := by omega
      subst hke
      generalize leastK mv l1 v i (mv + 1) = le at *
      go_wp2
      clear k301 k302
      have k801 : ∀ W, Below wr.heap.size wr W → W.cell? ⟨w.heap.size, 0, none⟩ = some (.int .i64 mv) := fun W hW => (Y1.out.below hW Y1.out.lt).cell 0
      have k802 : ∀ W, Below wr.heap.size wr W → W.cell? ⟨w.heap.size, 1, none⟩ = some (.slice a1 m1 c1) := fun W hW => (Y1.out.below hW Y1.out.lt).cell 1
      have qt := Lib.hid (fun W (hW : Below wr.heap.size wr W) => BL.out.trans (hW.mono BL.out.size))
      have qa := Lib.hid (fun W (hW : Below wr.heap.size wr W) => SV.out.below hW)
      have q1 := Lib.hid (fun W (hW : Below wr.heap.size wr W) => S1.out.below hW)
      refine wp_drawn_on (fun W => Below wr.heap.size wr W) (by kernel_rfl) (below_drew (Below.refl _ _)) (fun hHeld => ?_)
      refine wpAnyH_take (i := 0) (oi := { dst := some 161, op := Go.Op.load 24 (Go.Operand.tmp 5), type := 24, pos := "law.go:174", after := #[], guard := none }) (v := ?v104) rfl (by kernel_rfl) (by kernel_rfl) (by kernel_rfl) (fun _ _ _ h => h) (Or.inl ⟨by kernel_rfl, ?h104⟩) (by assumption) ?r104
      case h104 => (intro w hSw; (try dsimp only at hSw); go_simp; try with_reducible rfl)
      try simp only [Act.put, List.setIfInBounds_toArray, List.set_cons_zero, List.set_cons_succ]
      refine wpAnyH_take (i := 1) (oi := { dst := some 162, op := Go.Op.move (Go.Operand.tmp 1), type := 22, pos := "law.go:174", after := #[], guard := none }) (v := ?v105) rfl (by kernel_rfl) (by kernel_rfl) (by kernel_rfl) (fun _ _ _ h => h) (Or.inl ⟨by kernel_rfl, ?h105⟩) (by assumption) ?r105
      case h105 => (intro w hSw; (try dsimp only at hSw); go_simp; try with_reducible rfl)
      try simp only [Act.put, List.setIfInBounds_toArray, List.set_cons_zero, List.set_cons_succ]
      refine wpAnyH_take (i := 2) (oi := { dst := some 163, op := Go.Op.move (Go.Operand.tmp 2), type := 3, pos := "law.go:174", after := #[], guard := none }) (v := ?v106) rfl (by kernel_rfl) (by kernel_rfl) (by kernel_rfl) (fun _ _ _ h => h) (Or.inl ⟨by kernel_rfl, ?h106⟩) (by assumption) ?r106
      case h106 => (intro w hSw; (try dsimp only at hSw); go_simp; try with_reducible rfl)
      try simp only [Act.put, List.setIfInBounds_toArray, List.set_cons_zero, List.set_cons_succ]
      refine wpAnyH_take (i := 3) (oi := { dst := some 164, op := Go.Op.move (Go.Operand.tmp 16), type := 3, pos := "law.go:174", after := #[], guard := none }) (v := ?v107) rfl (by kernel_rfl) (by kernel_rfl) (by kernel_rfl) (fun _ _ _ h => h) (Or.inl ⟨by kernel_rfl, ?h107⟩) (by assumption) ?r107
      case h107 => (intro w hSw; (try dsimp only at hSw); go_simp; try with_reducible rfl)
      try simp only [Act.put, List.setIfInBounds_toArray, List.set_cons_zero, List.set_cons_succ]
      refine wpAnyH_ready (rs := [4]) (by kernel_rfl) (by simp) ?_
      refine AllReadyH.cons (o := { dst := some 165, op := Go.Op.call { callee := Go.Callee.value (Go.Operand.func 42), args := #[Go.Operand.tmp 162, Go.Operand.tmp 163, Go.Operand.tmp 164], argTypes := #[22, 3, 3] }, type := 22, pos := "law.go:174", after := #[{ on := 1, ground := Go.Ground.data }, { on := 2, ground := Go.Ground.data }, { on := 3, ground := Go.Ground.data }], guard := none }) rfl (fun K hK => ?_) AllReadyH.nil
      go_simp
      with_reducible refine (QWl.out _ (qa.out _ hHeld)).mono ?_
      rintro e t4 ⟨bF, eF, rfl, sf, b4⟩
      go_simp
      refine hK.out _ _ (hHeld.trans (b4.mono hHeld.size)) (fun hHeld => ?_)
      clear hK K
      try simp only [Act.put, List.setIfInBounds_toArray, List.set_cons_zero, List.set_cons_succ]
      refine wpAnyH_ready (rs := [5]) (by kernel_rfl) (by simp) ?_
      refine AllReadyH.cons (o := { dst := some 166, op := Go.Op.call { callee := Go.Callee.value (Go.Operand.func 35), args := #[Go.Operand.tmp 161, Go.Operand.tmp 165], argTypes := #[24, 22] }, type := 4, pos := "law.go:174", after := #[{ on := 0, ground := Go.Ground.data }, { on := 4, ground := Go.Ground.data }, { on := 4, ground := Go.Ground.chain }], guard := none }) rfl (fun K hK => ?_) AllReadyH.nil
      go_simp
      with_reducible refine (QHz.out _ bF eF (q1.out _ hHeld) sf).mono ?_
      rintro e t5 ⟨rfl, b5⟩
      go_simp
      refine hK.out _ _ (hHeld.trans (b5.mono hHeld.size)) (fun hHeld => ?_)
      clear hK K
      try simp only [Act.put, List.setIfInBounds_toArray, List.set_cons_zero, List.set_cons_succ]
      refine wpAnyH_take (i := 6) (oi := { dst := some 10, op := Go.Op.assign (Go.Operand.tmp 166), type := 4, pos := "law.go:174", after := #[{ on := 5, ground := Go.Ground.data }, { on := 5, ground := Go.Ground.chain }, { on := 0, ground := Go.Ground.phase }, { on := 1, ground := Go.Ground.phase }, { on := 2, ground := Go.Ground.phase }, { on := 3, ground := Go.Ground.phase }, { on := 4, ground := Go.Ground.phase }, { on := 5, ground := Go.Ground.phase }], guard := none }) (v := ?v108) rfl (by kernel_rfl) (by kernel_rfl) (by kernel_rfl) (fun _ _ _ h => h) (Or.inl ⟨by kernel_rfl, ?h108⟩) (by assumption) ?r108
      case h108 => (intro w hSw; (try dsimp only at hSw); go_simp; try with_reducible rfl)
      try simp only [Act.put, List.setIfInBounds_toArray, List.set_cons_zero, List.set_cons_succ]
      refine wpAnyH_done (by kernel_rfl) ?_ _
      have bw := Lib.hid (qt.out _ hHeld)
      clear k801 k802
      go_wp2
      go_ret
      exact ⟨rfl, bw.out⟩
end Go.Proofs.Ytacbkddkjlnklaa
