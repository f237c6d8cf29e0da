import Derived.Lib.Hide
import Derived.Sort.OwnSorted
import Derived.Sort.Grow
import Derived.Lib.OwnBridge
import Derived.Test.YtgeliikfgnkppaaGreatDoorQ02
import Derived.Test.YtgeliikfgnkppaaGreatDoorQ07
/- Two programs, the same: the document's. (Written by gen-prog-same.py.) -/
namespace Go.Proofs.YtgeliikfgnkppaaGreatDoor
open Go.RowKit
set_option linter.unusedVariables false
set_option linter.unusedSimpArgs false

set_option maxRecDepth 100000 in
set_option maxHeartbeats 16000000 in
theorem psameRef_any (p q : PV) (A B : PD) (w : World) (h1 : PrA w p A) (h2 : PrA w q B) : Calls Tryz.prog 11 #[.agg #[.string p.nm, .slice p.a1 p.n1 p.c1, .slice p.a2 p.n2 p.c2, .slice p.a3 p.n3 p.c3], .agg #[.string q.nm, .slice q.a1 q.n1 q.c1, .slice q.a2 q.n2 q.c2, .slice q.a3 q.n3 q.c3]] w (Gives (.bool (sameP A B)) w) := by
  have hR : Hid (sameP A B = (decide (p.nm = q.nm) && (decide (A.vars = B.vars) && (listEq spotEq spot0 A.spots B.spots && listEq edgeEq edge0 A.edges B.edges)))) := Lib.hid (by unfold sameP; rw [h1.nm, h2.nm])
  obtain ⟨pnm, pa1, pn1, pc1, pa2, pn2, pc2, pa3, pn3, pc3⟩ := p
  obtain ⟨qnm, qa1, qn1, qc1, qa2, qn2, qc2, qa3, qn3, qc3⟩ := q
  have hv1 := h1.vars
  have hs1 := h1.spots
  have he1 := h1.edges
  have hv2 := h2.vars
  have hs2 := h2.spots
  have he2 := h2.edges
  clear h1 h2
  dsimp only at hR hv1 hs1 he1 hv2 hs2 he2 ⊢
  obtain ⟨W1, hW1⟩ : ∃ W1, W1 = (w.alloc (.cells #[.string pnm, .slice pa1 pn1 pc1, .slice pa2 pn2 pc2, .slice pa3 pn3 pc3] 26)).alloc (.cells #[.string qnm, .slice qa1 qn1 qc1, .slice qa2 qn2 qc2, .slice qa3 qn3 qc3] 26) := ⟨_, rfl⟩
  have Z : Hid (Holds W1 w.heap.size 26 #[.string pnm, .slice pa1 pn1 pc1, .slice pa2 pn2 pc2, .slice pa3 pn3 pc3]) := Lib.hid (by rw [hW1]; exact (Holds.new w _ _).alloc _)
  have V : Hid (Holds W1 (w.heap.size + 1) 26 #[.string qnm, .slice qa1 qn1 qc1, .slice qa2 qn2 qc2, .slice qa3 qn3 qc3]) := Lib.hid (by
    rw [hW1]
    have := Holds.new (w.alloc (.cells #[.string pnm, .slice pa1 pn1 pc1, .slice pa2 pn2 pc2, .slice pa3 pn3 pc3] 26)) 26 #[.string qnm, .slice qa1 qn1 qc1, .slice qa2 qn2 qc2, .slice qa3 qn3 qc3]
    simpa using this)
  have BL := Lib.hid (show Below w.heap.size w W1 by rw [hW1]; exact box2_below _ _ _ _ _)
  have V1 := Lib.hid (hv1.below BL.out)
  have V2 := Lib.hid (hv2.below BL.out)
  have S1 := Lib.hid (hs1.below BL.out)
  have S2 := Lib.hid (hs2.below BL.out)
  have E1 := Lib.hid (he1.below BL.out)
  have E2 := Lib.hid (he2.below BL.out)
  have hW1' := Lib.hid hW1
  have lv1 := Lib.hid hv1.len
  have lv2 := Lib.hid hv2.len
  have ls1 := Lib.hid hs1.len
  have ls2 := Lib.hid hs2.len
  have le1 := Lib.hid he1.len
  have le2 := Lib.hid he2.len
  have bv1 : (pn1 : Int) ≤ 9223372036854775807 := by have := hv1.cap; have := hv1.max; unfold maxLen at this; omega
  have bs1 : (pn2 : Int) ≤ 9223372036854775807 := by have := hs1.max'; omega
  have be1 : (pn3 : Int) ≤ 9223372036854775807 := by have := he1.max'; omega
  clear hv1 hs1 he1 hv2 hs2 he2 hW1
  have k0 := Z.out.cell 0
  have k1 := Z.out.cell 1
  have k2 := Z.out.cell 2
  have k3 := Z.out.cell 3
  have j0 := V.out.cell 0
  have j1 := V.out.cell 1
  have j2 := V.out.cell 2
  have j3 := V.out.cell 3
  by_cases hn : pnm = qnm
  rotate_left
  · have e1 : (pnm.toList == qnm.toList) = false := by rw [ptxt_eq]; exact decide_eq_false hn
    have e2 : (pnm.toList != qnm.toList) = true := by simp [bne, e1]
    have hf : Hid (sameP A B = false) := Lib.hid (by rw [hR.out, decide_eq_false hn]; simp)
    generalize sameP A B = R at *
    go_enter Tryz.func11, Tryz.ntmps11
    go_wp2
    go_ret
    rw [← hW1'.out]
    exact ⟨ret_bool hf.out.symm, BL.out⟩
  have e1 : (pnm.toList == qnm.toList) = true := by rw [ptxt_eq]; exact decide_eq_true hn
  have hn' := Lib.hid hn
  clear hn
  have e2 : (pnm.toList != qnm.toList) = false := by simp [bne, e1]
  by_cases g1 : pn1 = qn1
  rotate_left
  · have i0 : ((pn1 : Int) != (qn1 : Int)) = true := by simp; omega
    have i0n : (pn1 != qn1) = true := by simpa using g1
    have hf : Hid (sameP A B = false) := Lib.hid (by rw [hR.out, decide_eq_false (show ¬ A.vars = B.vars from fun e => g1 (by rw [lv1.out, lv2.out, e]))]; simp)
    generalize sameP A B = R at *
    go_enter Tryz.func11, Tryz.ntmps11
    go_wp2
    go_ret
    rw [← hW1'.out]
    exact ⟨ret_bool hf.out.symm, BL.out⟩
  have i0 : ((pn1 : Int) != (qn1 : Int)) = false := by simp; omega
  have i0n : (pn1 != qn1) = false := by simpa using g1
  have g1' := Lib.hid g1
  clear g1
  by_cases g2 : pn2 = qn2
  rotate_left
  · have i1 : ((pn2 : Int) != (qn2 : Int)) = true := by simp; omega
    have i1n : (pn2 != qn2) = true := by simpa using g2
    have hf : Hid (sameP A B = false) := Lib.hid (by rw [hR.out, listEq_len (show A.spots.length ≠ B.spots.length by rw [← ls1.out, ← ls2.out]; exact g2)]; simp)
    generalize sameP A B = R at *
    go_enter Tryz.func11, Tryz.ntmps11
    go_wp2
    go_ret
    rw [← hW1'.out]
    exact ⟨ret_bool hf.out.symm, BL.out⟩
  have i1 : ((pn2 : Int) != (qn2 : Int)) = false := by simp; omega
  have i1n : (pn2 != qn2) = false := by simpa using g2
  have g2' := Lib.hid g2
  clear g2
  by_cases g3 : pn3 = qn3
  rotate_left
  · have i2 : ((pn3 : Int) != (qn3 : Int)) = true := by simp; omega
    have i2n : (pn3 != qn3) = true := by simpa using g3
    have hf : Hid (sameP A B = false) := Lib.hid (by rw [hR.out, listEq_len (show A.edges.length ≠ B.edges.length by rw [← le1.out, ← le2.out]; exact g3)]; simp)
    generalize sameP A B = R at *
    go_enter Tryz.func11, Tryz.ntmps11
    go_wp2
    go_ret
    rw [← hW1'.out]
    exact ⟨ret_bool hf.out.symm, BL.out⟩
  have i2 : ((pn3 : Int) != (qn3 : Int)) = false := by simp; omega
  have i2n : (pn3 != qn3) = false := by simpa using g3
  have g3' := Lib.hid g3
  clear g3
  have hR2 : Hid (sameP A B = (decide (A.vars = B.vars) && (listEq spotEq spot0 A.spots B.spots && listEq edgeEq edge0 A.edges B.edges))) := Lib.hid (by rw [hR.out, decide_eq_true hn'.out, Bool.true_and])
  have nv := Lib.hid (fun k h => same_no (l1 := A.vars) (l2 := B.vars) (k := k) h)
  have yv := Lib.hid (fun h => same_yes (l1 := A.vars) (l2 := B.vars) (by rw [← lv1.out, ← lv2.out]; exact g1'.out) h)
  have ns := Lib.hid (fun k hk h => listEq_no (q := spotEq) (d := spot0) (l := A.spots) (r := B.spots) (k := k) hk h)
  have ys := Lib.hid (fun h => listEq_yes (q := spotEq) (d := spot0) (l := A.spots) (r := B.spots) (by rw [← ls1.out, ← ls2.out]; exact g2'.out) h)
  have ne := Lib.hid (fun k hk h => listEq_no (q := edgeEq) (d := edge0) (l := A.edges) (r := B.edges) (k := k) hk h)
  have ye := Lib.hid (fun h => listEq_yes (q := edgeEq) (d := edge0) (l := A.edges) (r := B.edges) (by rw [← le1.out, ← le2.out]; exact g3'.out) h)
  clear hR hn'
  generalize sameP A B = R at *
  generalize decide (A.vars = B.vars) = bv at *
  generalize listEq spotEq spot0 A.spots B.spots = bs at *
  generalize listEq edgeEq edge0 A.edges B.edges = be at *
  go_enter Tryz.func11, Tryz.ntmps11
  go_wp2
  rw [← hW1'.out]
  clear hW1' e1 e2 i0 i0n i1 i1n i2 i2n
  go_loopw [5] (fun x wr => ∃ k m : Nat, k ≤ pn1 ∧ x = .int .i64 k ∧ Hid (∀ t, t < k → A.vars.getD t e0 = B.vars.getD t e0) ∧ wr = W1.drewN m) (fun x _ => pn1 - (intOf x).toNat)
  case atStart => exact ⟨0, 0, by omega, rfl, Lib.hid (fun t ht => by omega), rfl⟩
  case round =>
    obtain ⟨k, m, hk, rfl, hal, rfl⟩ := hrel
    by_cases hlt : k < pn1
    · have hki : (k : Int) < (pn1 : Int) := by omega
      have hk2 : k < qn1 := by have := g1'.out; omega
      have hki2 : (k : Int) < (qn1 : Int) := by omega
      obtain ⟨b1, o1, rfl, -, hc1⟩ := V1.out.at_ (k := k) (by rw [← lv1.out]; exact hlt)
      obtain ⟨b2, o2, rfl, -, hc2⟩ := V2.out.at_ (k := k) (by rw [← lv2.out]; exact hk2)
      have x0 := hc1 k (by rw [← lv1.out]; exact hlt)
      have y0 := hc2 k (by rw [← lv2.out]; exact hk2)
      have hN := Lib.hid (nv.out k)
      have hY : Hid (A.vars.getD k e0 = B.vars.getD k e0 → ∀ t, t < k + 1 → A.vars.getD t e0 = B.vars.getD t e0) := Lib.hid (fun h t ht => by
        by_cases e : t = k
        · rw [e]; exact h
        · exact hal.out t (by omega))
      clear hc1 hc2 hal nv
      generalize A.vars.getD k e0 = s1 at *
      generalize B.vars.getD k e0 = s2 at *
      have gk : ∀ W, (∃ j, W = W1.drewN j) → W.cell? ⟨w.heap.size, 1, none⟩ = some (.slice (some ⟨b1, o1, none⟩) pn1 pc1) := fun W hW => by obtain ⟨j, rfl⟩ := hW; exact k1
      have gj : ∀ W, (∃ j, W = W1.drewN j) → W.cell? ⟨w.heap.size + 1, 1, none⟩ = some (.slice (some ⟨b2, o2, none⟩) qn1 qc1) := fun W hW => by obtain ⟨j, rfl⟩ := hW; exact j1
      have g0 : ∀ W, (∃ j, W = W1.drewN j) → W.cell? ⟨b1, o1 + k, none⟩ = some (.string s1) := fun W hW => by obtain ⟨j, rfl⟩ := hW; exact x0
      have g9 : ∀ W, (∃ j, W = W1.drewN j) → W.cell? ⟨b2, o2 + k, none⟩ = some (.string s2) := fun W hW => by obtain ⟨j, rfl⟩ := hW; exact y0
      clear x0 y0
      by_cases hst : s1 = s2
      · have hS := Lib.hid (hY.out hst)
        have e1 : (s1.toList == s2.toList) = true := by rw [ptxt_eq]; exact decide_eq_true hst
        have e2 : (s1.toList != s2.toList) = false := by simp [bne, e1]
        clear hY hN hst
        go_wp2
        refine wp_drawn_on (fun W => ∃ j, W = W1.drewN j) (by kernel_rfl) (⟨m + 1, rfl⟩) (fun hHeld => ?_)
        refine wpAnyH_take (i := 0) (oi := { dst := some 47, op := Go.Op.fieldAddr 26 (Go.Operand.tmp 2) 1, type := 0, pos := "ref.go:251", after := #[], guard := none }) (v := ?v1) rfl (by kernel_rfl) (by kernel_rfl) (by kernel_rfl) (fun _ _ _ h => h) (Or.inl ⟨by kernel_rfl, ?h1⟩) (by assumption) ?r1
        case h1 => (intro w hSw; (try dsimp only at hSw); go_simp; try with_reducible rfl)
        try simp only [Act.put, List.setIfInBounds_toArray, List.set_cons_zero, List.set_cons_succ]
        refine wpAnyH_take (i := 1) (oi := { dst := some 48, op := Go.Op.load 22 (Go.Operand.tmp 47), type := 22, pos := "ref.go:251", after := #[{ on := 0, ground := Go.Ground.data }], guard := none }) (v := ?v2) rfl (by kernel_rfl) (by kernel_rfl) (by kernel_rfl) (fun _ _ _ h => h) (Or.inl ⟨by kernel_rfl, ?h2⟩) (by assumption) ?r2
        case h2 => (intro w hSw; (try dsimp only at hSw); go_simp; try with_reducible rfl)
        try simp only [Act.put, List.setIfInBounds_toArray, List.set_cons_zero, List.set_cons_succ]
        refine wpAnyH_take (i := 2) (oi := { dst := some 49, op := Go.Op.move (Go.Operand.tmp 5), type := 3, pos := "ref.go:251", after := #[], guard := none }) (v := ?v3) rfl (by kernel_rfl) (by kernel_rfl) (by kernel_rfl) (fun _ _ _ h => h) (Or.inl ⟨by kernel_rfl, ?h3⟩) (by assumption) ?r3
        case h3 => (intro w hSw; (try dsimp only at hSw); go_simp; try with_reducible rfl)
        try simp only [Act.put, List.setIfInBounds_toArray, List.set_cons_zero, List.set_cons_succ]
        refine wpAnyH_take (i := 3) (oi := { dst := some 50, op := Go.Op.indexAddr 22 (Go.Operand.tmp 48) (Go.Operand.tmp 49), type := 0, pos := "ref.go:251", after := #[{ on := 1, ground := Go.Ground.data }, { on := 2, ground := Go.Ground.data }], guard := none }) (v := ?v4) rfl (by kernel_rfl) (by kernel_rfl) (by kernel_rfl) (fun _ _ _ h => h) (Or.inl ⟨by kernel_rfl, ?h4⟩) (by assumption) ?r4
        case h4 => (intro w hSw; (try dsimp only at hSw); go_simp; try with_reducible rfl)
        try simp only [Act.put, List.setIfInBounds_toArray, List.set_cons_zero, List.set_cons_succ]
        refine wpAnyH_take (i := 4) (oi := { dst := some 51, op := Go.Op.load 9 (Go.Operand.tmp 50), type := 9, pos := "ref.go:251", after := #[{ on := 3, ground := Go.Ground.data }], guard := none }) (v := ?v5) rfl (by kernel_rfl) (by kernel_rfl) (by kernel_rfl) (fun _ _ _ h => h) (Or.inl ⟨by kernel_rfl, ?h5⟩) (by assumption) ?r5
        case h5 => (intro w hSw; (try dsimp only at hSw); go_simp; try with_reducible rfl)
        try simp only [Act.put, List.setIfInBounds_toArray, List.set_cons_zero, List.set_cons_succ]
        refine wpAnyH_take (i := 5) (oi := { dst := some 52, op := Go.Op.fieldAddr 26 (Go.Operand.tmp 3) 1, type := 0, pos := "ref.go:251", after := #[], guard := none }) (v := ?v6) rfl (by kernel_rfl) (by kernel_rfl) (by kernel_rfl) (fun _ _ _ h => h) (Or.inl ⟨by kernel_rfl, ?h6⟩) (by assumption) ?r6
        case h6 => (intro w hSw; (try dsimp only at hSw); go_simp; try with_reducible rfl)
        try simp only [Act.put, List.setIfInBounds_toArray, List.set_cons_zero, List.set_cons_succ]
        refine wpAnyH_take (i := 6) (oi := { dst := some 53, op := Go.Op.load 22 (Go.Operand.tmp 52), type := 22, pos := "ref.go:251", after := #[{ on := 5, ground := Go.Ground.data }], guard := none }) (v := ?v7) rfl (by kernel_rfl) (by kernel_rfl) (by kernel_rfl) (fun _ _ _ h => h) (Or.inl ⟨by kernel_rfl, ?h7⟩) (by assumption) ?r7
        case h7 => (intro w hSw; (try dsimp only at hSw); go_simp; try with_reducible rfl)
        try simp only [Act.put, List.setIfInBounds_toArray, List.set_cons_zero, List.set_cons_succ]
        refine wpAnyH_take (i := 7) (oi := { dst := some 54, op := Go.Op.move (Go.Operand.tmp 5), type := 3, pos := "ref.go:251", after := #[], guard := none }) (v := ?v8) rfl (by kernel_rfl) (by kernel_rfl) (by kernel_rfl) (fun _ _ _ h => h) (Or.inl ⟨by kernel_rfl, ?h8⟩) (by assumption) ?r8
        case h8 => (intro w hSw; (try dsimp only at hSw); go_simp; try with_reducible rfl)
        try simp only [Act.put, List.setIfInBounds_toArray, List.set_cons_zero, List.set_cons_succ]
        refine wpAnyH_take (i := 8) (oi := { dst := some 55, op := Go.Op.indexAddr 22 (Go.Operand.tmp 53) (Go.Operand.tmp 54), type := 0, pos := "ref.go:251", after := #[{ on := 6, ground := Go.Ground.data }, { on := 7, ground := Go.Ground.data }], guard := none }) (v := ?v9) rfl (by kernel_rfl) (by kernel_rfl) (by kernel_rfl) (fun _ _ _ h => h) (Or.inl ⟨by kernel_rfl, ?h9⟩) (by assumption) ?r9
        case h9 => (intro w hSw; (try dsimp only at hSw); go_simp; try with_reducible rfl)
        try simp only [Act.put, List.setIfInBounds_toArray, List.set_cons_zero, List.set_cons_succ]
        refine wpAnyH_take (i := 9) (oi := { dst := some 56, op := Go.Op.load 9 (Go.Operand.tmp 55), type := 9, pos := "ref.go:251", after := #[{ on := 8, ground := Go.Ground.data }], guard := none }) (v := ?v10) rfl (by kernel_rfl) (by kernel_rfl) (by kernel_rfl) (fun _ _ _ h => h) (Or.inl ⟨by kernel_rfl, ?h10⟩) (by assumption) ?r10
        case h10 => (intro w hSw; (try dsimp only at hSw); go_simp; try with_reducible rfl)
        try simp only [Act.put, List.setIfInBounds_toArray, List.set_cons_zero, List.set_cons_succ]
        refine wpAnyH_take (i := 10) (oi := { dst := some 57, op := Go.Op.binOp Go.BinOp.neq 9 (Go.Operand.tmp 51) (Go.Operand.tmp 56) 9, type := 4, pos := "ref.go:251", after := #[{ on := 4, ground := Go.Ground.data }, { on := 9, ground := Go.Ground.data }], guard := none }) (v := ?v11) rfl (by kernel_rfl) (by kernel_rfl) (by kernel_rfl) (fun _ _ _ h => h) (Or.inl ⟨by kernel_rfl, ?h11⟩) (by assumption) ?r11
        case h11 => (intro w hSw; (try dsimp only at hSw); go_simp; try with_reducible rfl)
        try simp only [Act.put, List.setIfInBounds_toArray, List.set_cons_zero, List.set_cons_succ]
        refine wpAnyH_done (by kernel_rfl) ?_ _
        clear g0 g9 gk gj
        go_wp2
        go_roundw
        case rel => exact ⟨k + 1, m + 1, by omega, by go_num, hS, rfl⟩
        case measure => simp [intOf]; omega
      · have hRf : Hid (R = false) := Lib.hid (by rw [hR2.out, hN.out hst]; rfl)
        have e1 : (s1.toList == s2.toList) = false := by rw [ptxt_eq]; exact decide_eq_false hst
        have e2 : (s1.toList != s2.toList) = true := by simp [bne, e1]
        clear hY hN hst
        go_wp2
        refine wp_drawn_on (fun W => ∃ j, W = W1.drewN j) (by kernel_rfl) (⟨m + 1, rfl⟩) (fun hHeld => ?_)
        refine wpAnyH_take (i := 0) (oi := { dst := some 47, op := Go.Op.fieldAddr 26 (Go.Operand.tmp 2) 1, type := 0, pos := "ref.go:251", after := #[], guard := none }) (v := ?v12) rfl (by kernel_rfl) (by kernel_rfl) (by kernel_rfl) (fun _ _ _ h => h) (Or.inl ⟨by kernel_rfl, ?h12⟩) (by assumption) ?r12
        case h12 => (intro w hSw; (try dsimp only at hSw); go_simp; try with_reducible rfl)
        try simp only [Act.put, List.setIfInBounds_toArray, List.set_cons_zero, List.set_cons_succ]
        refine wpAnyH_take (i := 1) (oi := { dst := some 48, op := Go.Op.load 22 (Go.Operand.tmp 47), type := 22, pos := "ref.go:251", after := #[{ on := 0, ground := Go.Ground.data }], guard := none }) (v := ?v13) rfl (by kernel_rfl) (by kernel_rfl) (by kernel_rfl) (fun _ _ _ h => h) (Or.inl ⟨by kernel_rfl, ?h13⟩) (by assumption) ?r13
        case h13 => (intro w hSw; (try dsimp only at hSw); go_simp; try with_reducible rfl)
        try simp only [Act.put, List.setIfInBounds_toArray, List.set_cons_zero, List.set_cons_succ]
        refine wpAnyH_take (i := 2) (oi := { dst := some 49, op := Go.Op.move (Go.Operand.tmp 5), type := 3, pos := "ref.go:251", after := #[], guard := none }) (v := ?v14) rfl (by kernel_rfl) (by kernel_rfl) (by kernel_rfl) (fun _ _ _ h => h) (Or.inl ⟨by kernel_rfl, ?h14⟩) (by assumption) ?r14
        case h14 => (intro w hSw; (try dsimp only at hSw); go_simp; try with_reducible rfl)
        try simp only [Act.put, List.setIfInBounds_toArray, List.set_cons_zero, List.set_cons_succ]
        refine wpAnyH_take (i := 3) (oi := { dst := some 50, op := Go.Op.indexAddr 22 (Go.Operand.tmp 48) (Go.Operand.tmp 49), type := 0, pos := "ref.go:251", after := #[{ on := 1, ground := Go.Ground.data }, { on := 2, ground := Go.Ground.data }], guard := none }) (v := ?v15) rfl (by kernel_rfl) (by kernel_rfl) (by kernel_rfl) (fun _ _ _ h => h) (Or.inl ⟨by kernel_rfl, ?h15⟩) (by assumption) ?r15
        case h15 => (intro w hSw; (try dsimp only at hSw); go_simp; try with_reducible rfl)
        try simp only [Act.put, List.setIfInBounds_toArray, List.set_cons_zero, List.set_cons_succ]
        refine wpAnyH_take (i := 4) (oi := { dst := some 51, op := Go.Op.load 9 (Go.Operand.tmp 50), type := 9, pos := "ref.go:251", after := #[{ on := 3, ground := Go.Ground.data }], guard := none }) (v := ?v16) rfl (by kernel_rfl) (by kernel_rfl) (by kernel_rfl) (fun _ _ _ h => h) (Or.inl ⟨by kernel_rfl, ?h16⟩) (by assumption) ?r16
        case h16 => (intro w hSw; (try dsimp only at hSw); go_simp; try with_reducible rfl)
        try simp only [Act.put, List.setIfInBounds_toArray, List.set_cons_zero, List.set_cons_succ]
        refine wpAnyH_take (i := 5) (oi := { dst := some 52, op := Go.Op.fieldAddr 26 (Go.Operand.tmp 3) 1, type := 0, pos := "ref.go:251", after := #[], guard := none }) (v := ?v17) rfl (by kernel_rfl) (by kernel_rfl) (by kernel_rfl) (fun _ _ _ h => h) (Or.inl ⟨by kernel_rfl, ?h17⟩) (by assumption) ?r17
        case h17 => (intro w hSw; (try dsimp only at hSw); go_simp; try with_reducible rfl)
        try simp only [Act.put, List.setIfInBounds_toArray, List.set_cons_zero, List.set_cons_succ]
        refine wpAnyH_take (i := 6) (oi := { dst := some 53, op := Go.Op.load 22 (Go.Operand.tmp 52), type := 22, pos := "ref.go:251", after := #[{ on := 5, ground := Go.Ground.data }], guard := none }) (v := ?v18) rfl (by kernel_rfl) (by kernel_rfl) (by kernel_rfl) (fun _ _ _ h => h) (Or.inl ⟨by kernel_rfl, ?h18⟩) (by assumption) ?r18
        case h18 => (intro w hSw; (try dsimp only at hSw); go_simp; try with_reducible rfl)
        try simp only [Act.put, List.setIfInBounds_toArray, List.set_cons_zero, List.set_cons_succ]
        refine wpAnyH_take (i := 7) (oi := { dst := some 54, op := Go.Op.move (Go.Operand.tmp 5), type := 3, pos := "ref.go:251", after := #[], guard := none }) (v := ?v19) rfl (by kernel_rfl) (by kernel_rfl) (by kernel_rfl) (fun _ _ _ h => h) (Or.inl ⟨by kernel_rfl, ?h19⟩) (by assumption) ?r19
        case h19 => (intro w hSw; (try dsimp only at hSw); go_simp; try with_reducible rfl)
        try simp only [Act.put, List.setIfInBounds_toArray, List.set_cons_zero, List.set_cons_succ]
        refine wpAnyH_take (i := 8) (oi := { dst := some 55, op := Go.Op.indexAddr 22 (Go.Operand.tmp 53) (Go.Operand.tmp 54), type := 0, pos := "ref.go:251", after := #[{ on := 6, ground := Go.Ground.data }, { on := 7, ground := Go.Ground.data }], guard := none }) (v := ?v20) rfl (by kernel_rfl) (by kernel_rfl) (by kernel_rfl) (fun _ _ _ h => h) (Or.inl ⟨by kernel_rfl, ?h20⟩) (by assumption) ?r20
        case h20 => (intro w hSw; (try dsimp only at hSw); go_simp; try with_reducible rfl)
        try simp only [Act.put, List.setIfInBounds_toArray, List.set_cons_zero, List.set_cons_succ]
        refine wpAnyH_take (i := 9) (oi := { dst := some 56, op := Go.Op.load 9 (Go.Operand.tmp 55), type := 9, pos := "ref.go:251", after := #[{ on := 8, ground := Go.Ground.data }], guard := none }) (v := ?v21) rfl (by kernel_rfl) (by kernel_rfl) (by kernel_rfl) (fun _ _ _ h => h) (Or.inl ⟨by kernel_rfl, ?h21⟩) (by assumption) ?r21
        case h21 => (intro w hSw; (try dsimp only at hSw); go_simp; try with_reducible rfl)
        try simp only [Act.put, List.setIfInBounds_toArray, List.set_cons_zero, List.set_cons_succ]
        refine wpAnyH_take (i := 10) (oi := { dst := some 57, op := Go.Op.binOp Go.BinOp.neq 9 (Go.Operand.tmp 51) (Go.Operand.tmp 56) 9, type := 4, pos := "ref.go:251", after := #[{ on := 4, ground := Go.Ground.data }, { on := 9, ground := Go.Ground.data }], guard := none }) (v := ?v22) rfl (by kernel_rfl) (by kernel_rfl) (by kernel_rfl) (fun _ _ _ h => h) (Or.inl ⟨by kernel_rfl, ?h22⟩) (by assumption) ?r22
        case h22 => (intro w hSw; (try dsimp only at hSw); go_simp; try with_reducible rfl)
        try simp only [Act.put, List.setIfInBounds_toArray, List.set_cons_zero, List.set_cons_succ]
        refine wpAnyH_done (by kernel_rfl) ?_ _
        clear g0 g9 gk gj
        go_wp2
        go_ret
        exact ⟨ret_bool hRf.out.symm, Below.drewN BL.out (m + 1)⟩
    · have hki : ¬ (k : Int) < (pn1 : Int) := by omega
      have hb := Lib.hid (yv.out (fun t ht => hal.out t (by rw [← lv1.out] at ht; omega)))
      have hR3 : Hid (R = (bs && be)) := Lib.hid (by rw [hR2.out, hb.out]; rfl)
      clear hb hR2 nv yv
      go_wp2
      clear hki hlt hk
      go_loopw [6] (fun x wr => ∃ k m : Nat, k ≤ pn2 ∧ x = .int .i64 k ∧ Hid (∀ t, t < k → spotEq (A.spots.getD t spot0) (B.spots.getD t spot0) = true) ∧ wr = W1.drewN m) (fun x _ => pn2 - (intOf x).toNat)
      case atStart => exact ⟨0, m, by omega, rfl, Lib.hid (fun t ht => by omega), rfl⟩
      case round =>
        clear hal
        obtain ⟨k, m, hk, rfl, hal, rfl⟩ := hrel
        by_cases hlt : k < pn2
        · have hki : (k : Int) < (pn2 : Int) := by omega
          have hk2 : k < qn2 := by have := g2'.out; omega
          have hki2 : (k : Int) < (qn2 : Int) := by omega
          obtain ⟨b1, o1, rfl, -, x0, x1, x2⟩ := spots_at S1.out hlt
          obtain ⟨b2, o2, rfl, -, y0, y1, y2⟩ := spots_at S2.out hk2
          have hno' := Lib.hid (ns.out k (by rw [← ls1.out]; exact hlt))
          have hyes' : Hid (spotEq (A.spots.getD k spot0) (B.spots.getD k spot0) = true → ∀ t, t < k + 1 → spotEq (A.spots.getD t spot0) (B.spots.getD t spot0) = true) := Lib.hid (fun h t ht => by
            by_cases e : t = k
            · rw [e]; exact h
            · exact hal.out t (by omega))
          obtain ⟨f01, f11, l21, ha1⟩ : ∃ f01 f11 l21, A.spots.getD k spot0 = (⟨f01, f11, l21⟩ : SpotD) := ⟨_, _, _, rfl⟩
          obtain ⟨f02, f12, l22, ha2⟩ : ∃ f02 f12 l22, B.spots.getD k spot0 = (⟨f02, f12, l22⟩ : SpotD) := ⟨_, _, _, rfl⟩
          rw [ha1] at x0 x1 x2 hno' hyes'
          rw [ha2] at y0 y1 y2 hno' hyes'
          dsimp only at x0 x1 x2 y0 y1 y2
          clear ha1 ha2 hal ns
          have gk : ∀ W, (∃ j, W = W1.drewN j) → W.cell? ⟨w.heap.size, 2, none⟩ = some (.slice (some ⟨b1, o1, none⟩) pn2 pc2) := fun W hW => by obtain ⟨j, rfl⟩ := hW; exact k2
          have gj : ∀ W, (∃ j, W = W1.drewN j) → W.cell? ⟨w.heap.size + 1, 2, none⟩ = some (.slice (some ⟨b2, o2, none⟩) qn2 qc2) := fun W hW => by obtain ⟨j, rfl⟩ := hW; exact j2
          have g0 : ∀ W, (∃ j, W = W1.drewN j) → W.cell? ⟨b1, o1 + k * 3, none⟩ = some (.string f01) := fun W hW => by obtain ⟨j, rfl⟩ := hW; exact x0
          have e0 : ∀ W, (∃ j, W = W1.drewN j) → W.cell? ⟨b2, o2 + k * 3, none⟩ = some (.string f02) := fun W hW => by obtain ⟨j, rfl⟩ := hW; exact y0
          have g1 : ∀ W, (∃ j, W = W1.drewN j) → W.cell? ⟨b1, o1 + k * 3 + 1, none⟩ = some (.string f11) := fun W hW => by obtain ⟨j, rfl⟩ := hW; exact x1
          have e1 : ∀ W, (∃ j, W = W1.drewN j) → W.cell? ⟨b2, o2 + k * 3 + 1, none⟩ = some (.string f12) := fun W hW => by obtain ⟨j, rfl⟩ := hW; exact y1
          have g2 : ∀ W, (∃ j, W = W1.drewN j) → W.cell? ⟨b1, o1 + k * 3 + 2, none⟩ = some (.int .i64 l21) := fun W hW => by obtain ⟨j, rfl⟩ := hW; exact x2
          have e2 : ∀ W, (∃ j, W = W1.drewN j) → W.cell? ⟨b2, o2 + k * 3 + 2, none⟩ = some (.int .i64 l22) := fun W hW => by obtain ⟨j, rfl⟩ := hW; exact y2
          clear x0 x1 x2 y0 y1 y2
          by_cases hq : f01 = f02 ∧ f11 = f12 ∧ l21 = l22
          · have hg := Lib.hid (hyes'.out (by simp [hq, spotEq]))
            obtain ⟨rfl, rfl, rfl⟩ := hq
            clear hyes' hno'
            go_wp2
            refine wp_drawn_on (fun W => ∃ j, W = W1.drewN j) (by kernel_rfl) (⟨m + 1, rfl⟩) (fun hHeld => ?_)
            refine wpAnyH_take (i := 0) (oi := { dst := some 65, op := Go.Op.fieldAddr 26 (Go.Operand.tmp 2) 2, type := 0, pos := "ref.go:256", after := #[], guard := none }) (v := ?v23) rfl (by kernel_rfl) (by kernel_rfl) (by kernel_rfl) (fun _ _ _ h => h) (Or.inl ⟨by kernel_rfl, ?h23⟩) (by assumption) ?r23
            case h23 => (intro w hSw; (try dsimp only at hSw); go_simp; try with_reducible rfl)
            try simp only [Act.put, List.setIfInBounds_toArray, List.set_cons_zero, List.set_cons_succ]
            refine wpAnyH_take (i := 1) (oi := { dst := some 66, op := Go.Op.load 23 (Go.Operand.tmp 65), type := 23, pos := "ref.go:256", after := #[{ on := 0, ground := Go.Ground.data }], guard := none }) (v := ?v24) rfl (by kernel_rfl) (by kernel_rfl) (by kernel_rfl) (fun _ _ _ h => h) (Or.inl ⟨by kernel_rfl, ?h24⟩) (by assumption) ?r24
            case h24 => (intro w hSw; (try dsimp only at hSw); go_simp; try with_reducible rfl)
            try simp only [Act.put, List.setIfInBounds_toArray, List.set_cons_zero, List.set_cons_succ]
            refine wpAnyH_take (i := 2) (oi := { dst := some 67, op := Go.Op.move (Go.Operand.tmp 6), type := 3, pos := "ref.go:256", after := #[], guard := none }) (v := ?v25) rfl (by kernel_rfl) (by kernel_rfl) (by kernel_rfl) (fun _ _ _ h => h) (Or.inl ⟨by kernel_rfl, ?h25⟩) (by assumption) ?r25
            case h25 => (intro w hSw; (try dsimp only at hSw); go_simp; try with_reducible rfl)
            try simp only [Act.put, List.setIfInBounds_toArray, List.set_cons_zero, List.set_cons_succ]
            refine wpAnyH_take (i := 3) (oi := { dst := some 68, op := Go.Op.indexAddr 23 (Go.Operand.tmp 66) (Go.Operand.tmp 67), type := 0, pos := "ref.go:256", after := #[{ on := 1, ground := Go.Ground.data }, { on := 2, ground := Go.Ground.data }], guard := none }) (v := ?v26) rfl (by kernel_rfl) (by kernel_rfl) (by kernel_rfl) (fun _ _ _ h => h) (Or.inl ⟨by kernel_rfl, ?h26⟩) (by assumption) ?r26
            case h26 => (intro w hSw; (try dsimp only at hSw); go_simp; try with_reducible rfl)
            try simp only [Act.put, List.setIfInBounds_toArray, List.set_cons_zero, List.set_cons_succ]
            refine wpAnyH_take (i := 4) (oi := { dst := some 69, op := Go.Op.load 54 (Go.Operand.tmp 68), type := 54, pos := "ref.go:256", after := #[{ on := 3, ground := Go.Ground.data }], guard := none }) (v := ?v27) rfl (by kernel_rfl) (by kernel_rfl) (by kernel_rfl) (fun _ _ _ h => h) (Or.inl ⟨by kernel_rfl, ?h27⟩) (by assumption) ?r27
            case h27 => (intro w hSw; (try dsimp only at hSw); go_simp; try with_reducible rfl)
            try simp only [Act.put, List.setIfInBounds_toArray, List.set_cons_zero, List.set_cons_succ]
            refine wpAnyH_take (i := 5) (oi := { dst := some 70, op := Go.Op.fieldAddr 26 (Go.Operand.tmp 3) 2, type := 0, pos := "ref.go:256", after := #[], guard := none }) (v := ?v28) rfl (by kernel_rfl) (by kernel_rfl) (by kernel_rfl) (fun _ _ _ h => h) (Or.inl ⟨by kernel_rfl, ?h28⟩) (by assumption) ?r28
            case h28 => (intro w hSw; (try dsimp only at hSw); go_simp; try with_reducible rfl)
            try simp only [Act.put, List.setIfInBounds_toArray, List.set_cons_zero, List.set_cons_succ]
            refine wpAnyH_take (i := 6) (oi := { dst := some 71, op := Go.Op.load 23 (Go.Operand.tmp 70), type := 23, pos := "ref.go:256", after := #[{ on := 5, ground := Go.Ground.data }], guard := none }) (v := ?v29) rfl (by kernel_rfl) (by kernel_rfl) (by kernel_rfl) (fun _ _ _ h => h) (Or.inl ⟨by kernel_rfl, ?h29⟩) (by assumption) ?r29
            case h29 => (intro w hSw; (try dsimp only at hSw); go_simp; try with_reducible rfl)
            try simp only [Act.put, List.setIfInBounds_toArray, List.set_cons_zero, List.set_cons_succ]
            refine wpAnyH_take (i := 7) (oi := { dst := some 72, op := Go.Op.move (Go.Operand.tmp 6), type := 3, pos := "ref.go:256", after := #[], guard := none }) (v := ?v30) rfl (by kernel_rfl) (by kernel_rfl) (by kernel_rfl) (fun _ _ _ h => h) (Or.inl ⟨by kernel_rfl, ?h30⟩) (by assumption) ?r30
            case h30 => (intro w hSw; (try dsimp only at hSw); go_simp; try with_reducible rfl)
            try simp only [Act.put, List.setIfInBounds_toArray, List.set_cons_zero, List.set_cons_succ]
            refine wpAnyH_take (i := 8) (oi := { dst := some 73, op := Go.Op.indexAddr 23 (Go.Operand.tmp 71) (Go.Operand.tmp 72), type := 0, pos := "ref.go:256", after := #[{ on := 6, ground := Go.Ground.data }, { on := 7, ground := Go.Ground.data }], guard := none }) (v := ?v31) rfl (by kernel_rfl) (by kernel_rfl) (by kernel_rfl) (fun _ _ _ h => h) (Or.inl ⟨by kernel_rfl, ?h31⟩) (by assumption) ?r31
            case h31 => (intro w hSw; (try dsimp only at hSw); go_simp; try with_reducible rfl)
            try simp only [Act.put, List.setIfInBounds_toArray, List.set_cons_zero, List.set_cons_succ]
            refine wpAnyH_take (i := 9) (oi := { dst := some 74, op := Go.Op.load 54 (Go.Operand.tmp 73), type := 54, pos := "ref.go:256", after := #[{ on := 8, ground := Go.Ground.data }], guard := none }) (v := ?v32) rfl (by kernel_rfl) (by kernel_rfl) (by kernel_rfl) (fun _ _ _ h => h) (Or.inl ⟨by kernel_rfl, ?h32⟩) (by assumption) ?r32
            case h32 => (intro w hSw; (try dsimp only at hSw); go_simp; try with_reducible rfl)
            try simp only [Act.put, List.setIfInBounds_toArray, List.set_cons_zero, List.set_cons_succ]
            refine wpAnyH_take (i := 10) (oi := { dst := some 75, op := Go.Op.binOp Go.BinOp.neq 54 (Go.Operand.tmp 69) (Go.Operand.tmp 74) 54, type := 4, pos := "ref.go:256", after := #[{ on := 4, ground := Go.Ground.data }, { on := 9, ground := Go.Ground.data }], guard := none }) (v := ?v33) rfl (by kernel_rfl) (by kernel_rfl) (by kernel_rfl) (fun _ _ _ h => h) (Or.inl ⟨by kernel_rfl, ?h33⟩) (by assumption) ?r33
            case h33 => (intro w hSw; (try dsimp only at hSw); refine Eq.trans (b := Result.ok (Next.value (.bool false)) w) (by go_simp; try simp [ptxt_eq]) ?_; with_reducible rfl)
            try simp only [Act.put, List.setIfInBounds_toArray, List.set_cons_zero, List.set_cons_succ]
            refine wpAnyH_done (by kernel_rfl) ?_ _
            clear gk gj g0 e0 g1 e1 g2 e2
            go_wp2
            go_roundw
            case rel => exact ⟨k + 1, m + 1, by omega, by go_num, hg, rfl⟩
            case measure => simp [intOf]; omega
          · have hf := Lib.hid (hno'.out (by cases hx : spotEq (⟨f01, f11, l21⟩ : SpotD) ⟨f02, f12, l22⟩ with | false => rfl | true => exact absurd (by simpa [spotEq] using hx) hq))
            clear hyes' hno'
            have hRf : Hid (R = false) := Lib.hid (by rw [hR3.out, hf.out]; rfl)
            go_wp2
            refine wp_drawn_on (fun W => ∃ j, W = W1.drewN j) (by kernel_rfl) (⟨m + 1, rfl⟩) (fun hHeld => ?_)
            refine wpAnyH_take (i := 0) (oi := { dst := some 65, op := Go.Op.fieldAddr 26 (Go.Operand.tmp 2) 2, type := 0, pos := "ref.go:256", after := #[], guard := none }) (v := ?v34) rfl (by kernel_rfl) (by kernel_rfl) (by kernel_rfl) (fun _ _ _ h => h) (Or.inl ⟨by kernel_rfl, ?h34⟩) (by assumption) ?r34
            case h34 => (intro w hSw; (try dsimp only at hSw); go_simp; try with_reducible rfl)
            try simp only [Act.put, List.setIfInBounds_toArray, List.set_cons_zero, List.set_cons_succ]
            refine wpAnyH_take (i := 1) (oi := { dst := some 66, op := Go.Op.load 23 (Go.Operand.tmp 65), type := 23, pos := "ref.go:256", after := #[{ on := 0, ground := Go.Ground.data }], guard := none }) (v := ?v35) rfl (by kernel_rfl) (by kernel_rfl) (by kernel_rfl) (fun _ _ _ h => h) (Or.inl ⟨by kernel_rfl, ?h35⟩) (by assumption) ?r35
            case h35 => (intro w hSw; (try dsimp only at hSw); go_simp; try with_reducible rfl)
            try simp only [Act.put, List.setIfInBounds_toArray, List.set_cons_zero, List.set_cons_succ]
            refine wpAnyH_take (i := 2) (oi := { dst := some 67, op := Go.Op.move (Go.Operand.tmp 6), type := 3, pos := "ref.go:256", after := #[], guard := none }) (v := ?v36) rfl (by kernel_rfl) (by kernel_rfl) (by kernel_rfl) (fun _ _ _ h => h) (Or.inl ⟨by kernel_rfl, ?h36⟩) (by assumption) ?r36
            case h36 => (intro w hSw; (try dsimp only at hSw); go_simp; try with_reducible rfl)
            try simp only [Act.put, List.setIfInBounds_toArray, List.set_cons_zero, List.set_cons_succ]
            refine wpAnyH_take (i := 3) (oi := { dst := some 68, op := Go.Op.indexAddr 23 (Go.Operand.tmp 66) (Go.Operand.tmp 67), type := 0, pos := "ref.go:256", after := #[{ on := 1, ground := Go.Ground.data }, { on := 2, ground := Go.Ground.data }], guard := none }) (v := ?v37) rfl (by kernel_rfl) (by kernel_rfl) (by kernel_rfl) (fun _ _ _ h => h) (Or.inl ⟨by kernel_rfl, ?h37⟩) (by assumption) ?r37
            case h37 => (intro w hSw; (try dsimp only at hSw); go_simp; try with_reducible rfl)
            try simp only [Act.put, List.setIfInBounds_toArray, List.set_cons_zero, List.set_cons_succ]
            refine wpAnyH_take (i := 4) (oi := { dst := some 69, op := Go.Op.load 54 (Go.Operand.tmp 68), type := 54, pos := "ref.go:256", after := #[{ on := 3, ground := Go.Ground.data }], guard := none }) (v := ?v38) rfl (by kernel_rfl) (by kernel_rfl) (by kernel_rfl) (fun _ _ _ h => h) (Or.inl ⟨by kernel_rfl, ?h38⟩) (by assumption) ?r38
            case h38 => (intro w hSw; (try dsimp only at hSw); go_simp; try with_reducible rfl)
            try simp only [Act.put, List.setIfInBounds_toArray, List.set_cons_zero, List.set_cons_succ]
            refine wpAnyH_take (i := 5) (oi := { dst := some 70, op := Go.Op.fieldAddr 26 (Go.Operand.tmp 3) 2, type := 0, pos := "ref.go:256", after := #[], guard := none }) (v := ?v39) rfl (by kernel_rfl) (by kernel_rfl) (by kernel_rfl) (fun _ _ _ h => h) (Or.inl ⟨by kernel_rfl, ?h39⟩) (by assumption) ?r39
            case h39 => (intro w hSw; (try dsimp only at hSw); go_simp; try with_reducible rfl)
            try simp only [Act.put, List.setIfInBounds_toArray, List.set_cons_zero, List.set_cons_succ]
            refine wpAnyH_take (i := 6) (oi := { dst := some 71, op := Go.Op.load 23 (Go.Operand.tmp 70), type := 23, pos := "ref.go:256", after := #[{ on := 5, ground := Go.Ground.data }], guard := none }) (v := ?v40) rfl (by kernel_rfl) (by kernel_rfl) (by kernel_rfl) (fun _ _ _ h => h) (Or.inl ⟨by kernel_rfl, ?h40⟩) (by assumption) ?r40
            case h40 => (intro w hSw; (try dsimp only at hSw); go_simp; try with_reducible rfl)
            try simp only [Act.put, List.setIfInBounds_toArray, List.set_cons_zero, List.set_cons_succ]
            refine wpAnyH_take (i := 7) (oi := { dst := some 72, op := Go.Op.move (Go.Operand.tmp 6), type := 3, pos := "ref.go:256", after := #[], guard := none }) (v := ?v41) rfl (by kernel_rfl) (by kernel_rfl) (by kernel_rfl) (fun _ _ _ h => h) (Or.inl ⟨by kernel_rfl, ?h41⟩) (by assumption) ?r41
            case h41 => (intro w hSw; (try dsimp only at hSw); go_simp; try with_reducible rfl)
            try simp only [Act.put, List.setIfInBounds_toArray, List.set_cons_zero, List.set_cons_succ]
            refine wpAnyH_take (i := 8) (oi := { dst := some 73, op := Go.Op.indexAddr 23 (Go.Operand.tmp 71) (Go.Operand.tmp 72), type := 0, pos := "ref.go:256", after := #[{ on := 6, ground := Go.Ground.data }, { on := 7, ground := Go.Ground.data }], guard := none }) (v := ?v42) rfl (by kernel_rfl) (by kernel_rfl) (by kernel_rfl) (fun _ _ _ h => h) (Or.inl ⟨by kernel_rfl, ?h42⟩) (by assumption) ?r42
            case h42 => (intro w hSw; (try dsimp only at hSw); go_simp; try with_reducible rfl)
            try simp only [Act.put, List.setIfInBounds_toArray, List.set_cons_zero, List.set_cons_succ]
            refine wpAnyH_take (i := 9) (oi := { dst := some 74, op := Go.Op.load 54 (Go.Operand.tmp 73), type := 54, pos := "ref.go:256", after := #[{ on := 8, ground := Go.Ground.data }], guard := none }) (v := ?v43) rfl (by kernel_rfl) (by kernel_rfl) (by kernel_rfl) (fun _ _ _ h => h) (Or.inl ⟨by kernel_rfl, ?h43⟩) (by assumption) ?r43
            case h43 => (intro w hSw; (try dsimp only at hSw); go_simp; try with_reducible rfl)
            try simp only [Act.put, List.setIfInBounds_toArray, List.set_cons_zero, List.set_cons_succ]
            refine wpAnyH_take (i := 10) (oi := { dst := some 75, op := Go.Op.binOp Go.BinOp.neq 54 (Go.Operand.tmp 69) (Go.Operand.tmp 74) 54, type := 4, pos := "ref.go:256", after := #[{ on := 4, ground := Go.Ground.data }, { on := 9, ground := Go.Ground.data }], guard := none }) (v := ?v44) rfl (by kernel_rfl) (by kernel_rfl) (by kernel_rfl) (fun _ _ _ h => h) (Or.inl ⟨by kernel_rfl, ?h44⟩) (by assumption) ?r44
            case h44 => (intro w hSw; (try dsimp only at hSw); refine Eq.trans (b := Result.ok (Next.value (.bool true)) w) (by go_simp; by_cases h0 : f01 = f02 <;> by_cases h1 : f11 = f12 <;> by_cases h2 : l21 = l22 <;> simp_all [ptxt_eq, ptl_iff]) ?_; with_reducible rfl)
            try simp only [Act.put, List.setIfInBounds_toArray, List.set_cons_zero, List.set_cons_succ]
            refine wpAnyH_done (by kernel_rfl) ?_ _
            clear gk gj g0 e0 g1 e1 g2 e2
            go_wp2
            go_ret
            exact ⟨ret_bool hRf.out.symm, Below.drewN BL.out (m + 1)⟩
        · have hki : ¬ (k : Int) < (pn2 : Int) := by omega
          have hb := Lib.hid (ys.out (fun t ht => hal.out t (by rw [← ls1.out] at ht; omega)))
          have hR4 : Hid (R = be) := Lib.hid (by rw [hR3.out, hb.out]; rfl)
          clear hb hR3 ns ys
          go_wp2
          clear hki hlt hk
          go_loopw [7] (fun x wr => ∃ k m : Nat, k ≤ pn3 ∧ x = .int .i64 k ∧ Hid (∀ t, t < k → edgeEq (A.edges.getD t edge0) (B.edges.getD t edge0) = true) ∧ wr = W1.drewN m) (fun x _ => pn3 - (intOf x).toNat)
          case atStart => exact ⟨0, m, by omega, rfl, Lib.hid (fun t ht => by omega), rfl⟩
          case round =>
            clear hal
            obtain ⟨k, m, hk, rfl, hal, rfl⟩ := hrel
            by_cases hlt : k < pn3
            · have hki : (k : Int) < (pn3 : Int) := by omega
              have hk2 : k < qn3 := by have := g3'.out; omega
              have hki2 : (k : Int) < (qn3 : Int) := by omega
              obtain ⟨b1, o1, rfl, -, x0, x1, x2, x3, x4, x5, x6⟩ := edges_at E1.out hlt
              obtain ⟨b2, o2, rfl, -, y0, y1, y2, y3, y4, y5, y6⟩ := edges_at E2.out hk2
              have hno' := Lib.hid (ne.out k (by rw [← le1.out]; exact hlt))
              have hyes' : Hid (edgeEq (A.edges.getD k edge0) (B.edges.getD k edge0) = true → ∀ t, t < k + 1 → edgeEq (A.edges.getD t edge0) (B.edges.getD t edge0) = true) := Lib.hid (fun h t ht => by
                by_cases e : t = k
                · rw [e]; exact h
                · exact hal.out t (by omega))
              obtain ⟨f01, d11, k21, x31, y41, c51, d61, ha1⟩ : ∃ f01 d11 k21 x31 y41 c51 d61, A.edges.getD k edge0 = (⟨f01, d11, k21, x31, y41, c51, d61⟩ : EdgeD) := ⟨_, _, _, _, _, _, _, rfl⟩
              obtain ⟨f02, d12, k22, x32, y42, c52, d62, ha2⟩ : ∃ f02 d12 k22 x32 y42 c52 d62, B.edges.getD k edge0 = (⟨f02, d12, k22, x32, y42, c52, d62⟩ : EdgeD) := ⟨_, _, _, _, _, _, _, rfl⟩
              rw [ha1] at x0 x1 x2 x3 x4 x5 x6 hno' hyes'
              rw [ha2] at y0 y1 y2 y3 y4 y5 y6 hno' hyes'
              dsimp only at x0 x1 x2 x3 x4 x5 x6 y0 y1 y2 y3 y4 y5 y6
              clear ha1 ha2 hal ne
              have gk : ∀ W, (∃ j, W = W1.drewN j) → W.cell? ⟨w.heap.size, 3, none⟩ = some (.slice (some ⟨b1, o1, none⟩) pn3 pc3) := fun W hW => by obtain ⟨j, rfl⟩ := hW; exact k3
              have gj : ∀ W, (∃ j, W = W1.drewN j) → W.cell? ⟨w.heap.size + 1, 3, none⟩ = some (.slice (some ⟨b2, o2, none⟩) qn3 qc3) := fun W hW => by obtain ⟨j, rfl⟩ := hW; exact j3
              have g0 : ∀ W, (∃ j, W = W1.drewN j) → W.cell? ⟨b1, o1 + k * 7, none⟩ = some (.int .i64 f01) := fun W hW => by obtain ⟨j, rfl⟩ := hW; exact x0
              have e0 : ∀ W, (∃ j, W = W1.drewN j) → W.cell? ⟨b2, o2 + k * 7, none⟩ = some (.int .i64 f02) := fun W hW => by obtain ⟨j, rfl⟩ := hW; exact y0
              have g1 : ∀ W, (∃ j, W = W1.drewN j) → W.cell? ⟨b1, o1 + k * 7 + 1, none⟩ = some (.int .i64 d11) := fun W hW => by obtain ⟨j, rfl⟩ := hW; exact x1
              have e1 : ∀ W, (∃ j, W = W1.drewN j) → W.cell? ⟨b2, o2 + k * 7 + 1, none⟩ = some (.int .i64 d12) := fun W hW => by obtain ⟨j, rfl⟩ := hW; exact y1
              have g2 : ∀ W, (∃ j, W = W1.drewN j) → W.cell? ⟨b1, o1 + k * 7 + 2, none⟩ = some (.int .i64 k21) := fun W hW => by obtain ⟨j, rfl⟩ := hW; exact x2
              have e2 : ∀ W, (∃ j, W = W1.drewN j) → W.cell? ⟨b2, o2 + k * 7 + 2, none⟩ = some (.int .i64 k22) := fun W hW => by obtain ⟨j, rfl⟩ := hW; exact y2
              have g3 : ∀ W, (∃ j, W = W1.drewN j) → W.cell? ⟨b1, o1 + k * 7 + 3, none⟩ = some (.int .i64 x31) := fun W hW => by obtain ⟨j, rfl⟩ := hW; exact x3
              have e3 : ∀ W, (∃ j, W = W1.drewN j) → W.cell? ⟨b2, o2 + k * 7 + 3, none⟩ = some (.int .i64 x32) := fun W hW => by obtain ⟨j, rfl⟩ := hW; exact y3
              have g4 : ∀ W, (∃ j, W = W1.drewN j) → W.cell? ⟨b1, o1 + k * 7 + 4, none⟩ = some (.int .i64 y41) := fun W hW => by obtain ⟨j, rfl⟩ := hW; exact x4
              have e4 : ∀ W, (∃ j, W = W1.drewN j) → W.cell? ⟨b2, o2 + k * 7 + 4, none⟩ = some (.int .i64 y42) := fun W hW => by obtain ⟨j, rfl⟩ := hW; exact y4
              have g5 : ∀ W, (∃ j, W = W1.drewN j) → W.cell? ⟨b1, o1 + k * 7 + 5, none⟩ = some (.int .i64 c51) := fun W hW => by obtain ⟨j, rfl⟩ := hW; exact x5
              have e5 : ∀ W, (∃ j, W = W1.drewN j) → W.cell? ⟨b2, o2 + k * 7 + 5, none⟩ = some (.int .i64 c52) := fun W hW => by obtain ⟨j, rfl⟩ := hW; exact y5
              have g6 : ∀ W, (∃ j, W = W1.drewN j) → W.cell? ⟨b1, o1 + k * 7 + 6, none⟩ = some (.int .i64 d61) := fun W hW => by obtain ⟨j, rfl⟩ := hW; exact x6
              have e6 : ∀ W, (∃ j, W = W1.drewN j) → W.cell? ⟨b2, o2 + k * 7 + 6, none⟩ = some (.int .i64 d62) := fun W hW => by obtain ⟨j, rfl⟩ := hW; exact y6
              clear x0 x1 x2 x3 x4 x5 x6 y0 y1 y2 y3 y4 y5 y6
              by_cases hq : f01 = f02 ∧ d11 = d12 ∧ k21 = k22 ∧ x31 = x32 ∧ y41 = y42 ∧ c51 = c52 ∧ d61 = d62
              · have hg := Lib.hid (hyes'.out (by simp [hq, edgeEq]))
                obtain ⟨rfl, rfl, rfl, rfl, rfl, rfl, rfl⟩ := hq
                clear hyes' hno'
                go_wp2
                refine wp_drawn_on (fun W => ∃ j, W = W1.drewN j) (by kernel_rfl) (⟨m + 1, rfl⟩) (fun hHeld => ?_)
                refine wpAnyH_take (i := 0) (oi := { dst := some 83, op := Go.Op.fieldAddr 26 (Go.Operand.tmp 2) 3, type := 0, pos := "ref.go:261", after := #[], guard := none }) (v := ?v45) rfl (by kernel_rfl) (by kernel_rfl) (by kernel_rfl) (fun _ _ _ h => h) (Or.inl ⟨by kernel_rfl, ?h45⟩) (by assumption) ?r45
                case h45 => (intro w hSw; (try dsimp only at hSw); go_simp; try with_reducible rfl)
                try simp only [Act.put, List.setIfInBounds_toArray, List.set_cons_zero, List.set_cons_succ]
                refine wpAnyH_take (i := 1) (oi := { dst := some 84, op := Go.Op.load 24 (Go.Operand.tmp 83), type := 24, pos := "ref.go:261", after := #[{ on := 0, ground := Go.Ground.data }], guard := none }) (v := ?v46) rfl (by kernel_rfl) (by kernel_rfl) (by kernel_rfl) (fun _ _ _ h => h) (Or.inl ⟨by kernel_rfl, ?h46⟩) (by assumption) ?r46
                case h46 => (intro w hSw; (try dsimp only at hSw); go_simp; try with_reducible rfl)
                try simp only [Act.put, List.setIfInBounds_toArray, List.set_cons_zero, List.set_cons_succ]
                refine wpAnyH_take (i := 2) (oi := { dst := some 85, op := Go.Op.move (Go.Operand.tmp 7), type := 3, pos := "ref.go:261", after := #[], guard := none }) (v := ?v47) rfl (by kernel_rfl) (by kernel_rfl) (by kernel_rfl) (fun _ _ _ h => h) (Or.inl ⟨by kernel_rfl, ?h47⟩) (by assumption) ?r47
                case h47 => (intro w hSw; (try dsimp only at hSw); go_simp; try with_reducible rfl)
                try simp only [Act.put, List.setIfInBounds_toArray, List.set_cons_zero, List.set_cons_succ]
                refine wpAnyH_take (i := 3) (oi := { dst := some 86, op := Go.Op.indexAddr 24 (Go.Operand.tmp 84) (Go.Operand.tmp 85), type := 0, pos := "ref.go:261", after := #[{ on := 1, ground := Go.Ground.data }, { on := 2, ground := Go.Ground.data }], guard := none }) (v := ?v48) rfl (by kernel_rfl) (by kernel_rfl) (by kernel_rfl) (fun _ _ _ h => h) (Or.inl ⟨by kernel_rfl, ?h48⟩) (by assumption) ?r48
                case h48 => (intro w hSw; (try dsimp only at hSw); go_simp; try with_reducible rfl)
                try simp only [Act.put, List.setIfInBounds_toArray, List.set_cons_zero, List.set_cons_succ]
                refine wpAnyH_take (i := 4) (oi := { dst := some 87, op := Go.Op.load 52 (Go.Operand.tmp 86), type := 52, pos := "ref.go:261", after := #[{ on := 3, ground := Go.Ground.data }], guard := none }) (v := ?v49) rfl (by kernel_rfl) (by kernel_rfl) (by kernel_rfl) (fun _ _ _ h => h) (Or.inl ⟨by kernel_rfl, ?h49⟩) (by assumption) ?r49
                case h49 => (intro w hSw; (try dsimp only at hSw); go_simp; try with_reducible rfl)
                try simp only [Act.put, List.setIfInBounds_toArray, List.set_cons_zero, List.set_cons_succ]
                refine wpAnyH_take (i := 5) (oi := { dst := some 88, op := Go.Op.fieldAddr 26 (Go.Operand.tmp 3) 3, type := 0, pos := "ref.go:261", after := #[], guard := none }) (v := ?v50) rfl (by kernel_rfl) (by kernel_rfl) (by kernel_rfl) (fun _ _ _ h => h) (Or.inl ⟨by kernel_rfl, ?h50⟩) (by assumption) ?r50
                case h50 => (intro w hSw; (try dsimp only at hSw); go_simp; try with_reducible rfl)
                try simp only [Act.put, List.setIfInBounds_toArray, List.set_cons_zero, List.set_cons_succ]
                refine wpAnyH_take (i := 6) (oi := { dst := some 89, op := Go.Op.load 24 (Go.Operand.tmp 88), type := 24, pos := "ref.go:261", after := #[{ on := 5, ground := Go.Ground.data }], guard := none }) (v := ?v51) rfl (by kernel_rfl) (by kernel_rfl) (by kernel_rfl) (fun _ _ _ h => h) (Or.inl ⟨by kernel_rfl, ?h51⟩) (by assumption) ?r51
                case h51 => (intro w hSw; (try dsimp only at hSw); go_simp; try with_reducible rfl)
                try simp only [Act.put, List.setIfInBounds_toArray, List.set_cons_zero, List.set_cons_succ]
                refine wpAnyH_take (i := 7) (oi := { dst := some 90, op := Go.Op.move (Go.Operand.tmp 7), type := 3, pos := "ref.go:261", after := #[], guard := none }) (v := ?v52) rfl (by kernel_rfl) (by kernel_rfl) (by kernel_rfl) (fun _ _ _ h => h) (Or.inl ⟨by kernel_rfl, ?h52⟩) (by assumption) ?r52
                case h52 => (intro w hSw; (try dsimp only at hSw); go_simp; try with_reducible rfl)
                try simp only [Act.put, List.setIfInBounds_toArray, List.set_cons_zero, List.set_cons_succ]
                refine wpAnyH_take (i := 8) (oi := { dst := some 91, op := Go.Op.indexAddr 24 (Go.Operand.tmp 89) (Go.Operand.tmp 90), type := 0, pos := "ref.go:261", after := #[{ on := 6, ground := Go.Ground.data }, { on := 7, ground := Go.Ground.data }], guard := none }) (v := ?v53) rfl (by kernel_rfl) (by kernel_rfl) (by kernel_rfl) (fun _ _ _ h => h) (Or.inl ⟨by kernel_rfl, ?h53⟩) (by assumption) ?r53
                case h53 => (intro w hSw; (try dsimp only at hSw); go_simp; try with_reducible rfl)
                try simp only [Act.put, List.setIfInBounds_toArray, List.set_cons_zero, List.set_cons_succ]
                refine wpAnyH_take (i := 9) (oi := { dst := some 92, op := Go.Op.load 52 (Go.Operand.tmp 91), type := 52, pos := "ref.go:261", after := #[{ on := 8, ground := Go.Ground.data }], guard := none }) (v := ?v54) rfl (by kernel_rfl) (by kernel_rfl) (by kernel_rfl) (fun _ _ _ h => h) (Or.inl ⟨by kernel_rfl, ?h54⟩) (by assumption) ?r54
                case h54 => (intro w hSw; (try dsimp only at hSw); go_simp; try with_reducible rfl)
                try simp only [Act.put, List.setIfInBounds_toArray, List.set_cons_zero, List.set_cons_succ]
                refine wpAnyH_take (i := 10) (oi := { dst := some 93, op := Go.Op.binOp Go.BinOp.neq 52 (Go.Operand.tmp 87) (Go.Operand.tmp 92) 52, type := 4, pos := "ref.go:261", after := #[{ on := 4, ground := Go.Ground.data }, { on := 9, ground := Go.Ground.data }], guard := none }) (v := ?v55) rfl (by kernel_rfl) (by kernel_rfl) (by kernel_rfl) (fun _ _ _ h => h) (Or.inl ⟨by kernel_rfl, ?h55⟩) (by assumption) ?r55
                case h55 => (intro w hSw; (try dsimp only at hSw); refine Eq.trans (b := Result.ok (Next.value (.bool false)) w) (by go_simp; try simp [ptxt_eq]) ?_; with_reducible rfl)
                try simp only [Act.put, List.setIfInBounds_toArray, List.set_cons_zero, List.set_cons_succ]
                refine wpAnyH_done (by kernel_rfl) ?_ _
                clear gk gj g0 e0 g1 e1 g2 e2 g3 e3 g4 e4 g5 e5 g6 e6
                go_wp2
                go_roundw
                case rel => exact ⟨k + 1, m + 1, by omega, by go_num, hg, rfl⟩
                case measure => simp [intOf]; omega
              · have hf := Lib.hid (hno'.out (by cases hx : edgeEq (⟨f01, d11, k21, x31, y41, c51, d61⟩ : EdgeD) ⟨f02, d12, k22, x32, y42, c52, d62⟩ with | false => rfl | true => exact absurd (by simpa [edgeEq] using hx) hq))
                clear hyes' hno'
                have hRf : Hid (R = false) := Lib.hid (by rw [hR4.out, hf.out])
                go_wp2
                refine wp_drawn_on (fun W => ∃ j, W = W1.drewN j) (by kernel_rfl) (⟨m + 1, rfl⟩) (fun hHeld => ?_)
                refine wpAnyH_take (i := 0) (oi := { dst := some 83, op := Go.Op.fieldAddr 26 (Go.Operand.tmp 2) 3, type := 0, pos := "ref.go:261", after := #[], guard := none }) (v := ?v56) rfl (by kernel_rfl) (by kernel_rfl) (by kernel_rfl) (fun _ _ _ h => h) (Or.inl ⟨by kernel_rfl, ?h56⟩) (by assumption) ?r56
                case h56 => (intro w hSw; (try dsimp only at hSw); go_simp; try with_reducible rfl)
                try simp only [Act.put, List.setIfInBounds_toArray, List.set_cons_zero, List.set_cons_succ]
                refine wpAnyH_take (i := 1) (oi := { dst := some 84, op := Go.Op.load 24 (Go.Operand.tmp 83), type := 24, pos := "ref.go:261", after := #[{ on := 0, ground := Go.Ground.data }], guard := none }) (v := ?v57) rfl (by kernel_rfl) (by kernel_rfl) (by kernel_rfl) (fun _ _ _ h => h) (Or.inl ⟨by kernel_rfl, ?h57⟩) (by assumption) ?r57
                case h57 => (intro w hSw; (try dsimp only at hSw); go_simp; try with_reducible rfl)
                try simp only [Act.put, List.setIfInBounds_toArray, List.set_cons_zero, List.set_cons_succ]
                refine wpAnyH_take (i := 2) (oi := { dst := some 85, op := Go.Op.move (Go.Operand.tmp 7), type := 3, pos := "ref.go:261", after := #[], guard := none }) (v := ?v58) rfl (by kernel_rfl) (by kernel_rfl) (by kernel_rfl) (fun _ _ _ h => h) (Or.inl ⟨by kernel_rfl, ?h58⟩) (by assumption) ?r58
                case h58 => (intro w hSw; (try dsimp only at hSw); go_simp; try with_reducible rfl)
                try simp only [Act.put, List.setIfInBounds_toArray, List.set_cons_zero, List.set_cons_succ]
                refine wpAnyH_take (i := 3) (oi := { dst := some 86, op := Go.Op.indexAddr 24 (Go.Operand.tmp 84) (Go.Operand.tmp 85), type := 0, pos := "ref.go:261", after := #[{ on := 1, ground := Go.Ground.data }, { on := 2, ground := Go.Ground.data }], guard := none }) (v := ?v59) rfl (by kernel_rfl) (by kernel_rfl) (by kernel_rfl) (fun _ _ _ h => h) (Or.inl ⟨by kernel_rfl, ?h59⟩) (by assumption) ?r59
                case h59 => (intro w hSw; (try dsimp only at hSw); go_simp; try with_reducible rfl)
                try simp only [Act.put, List.setIfInBounds_toArray, List.set_cons_zero, List.set_cons_succ]
                refine wpAnyH_take (i := 4) (oi := { dst := some 87, op := Go.Op.load 52 (Go.Operand.tmp 86), type := 52, pos := "ref.go:261", after := #[{ on := 3, ground := Go.Ground.data }], guard := none }) (v := ?v60) rfl (by kernel_rfl) (by kernel_rfl) (by kernel_rfl) (fun _ _ _ h => h) (Or.inl ⟨by kernel_rfl, ?h60⟩) (by assumption) ?r60
                case h60 => (intro w hSw; (try dsimp only at hSw); go_simp; try with_reducible rfl)
                try simp only [Act.put, List.setIfInBounds_toArray, List.set_cons_zero, List.set_cons_succ]
                refine wpAnyH_take (i := 5) (oi := { dst := some 88, op := Go.Op.fieldAddr 26 (Go.Operand.tmp 3) 3, type := 0, pos := "ref.go:261", after := #[], guard := none }) (v := ?v61) rfl (by kernel_rfl) (by kernel_rfl) (by kernel_rfl) (fun _ _ _ h => h) (Or.inl ⟨by kernel_rfl, ?h61⟩) (by assumption) ?r61
                case h61 => (intro w hSw; (try dsimp only at hSw); go_simp; try with_reducible rfl)
                try simp only [Act.put, List.setIfInBounds_toArray, List.set_cons_zero, List.set_cons_succ]
                refine wpAnyH_take (i := 6) (oi := { dst := some 89, op := Go.Op.load 24 (Go.Operand.tmp 88), type := 24, pos := "ref.go:261", after := #[{ on := 5, ground := Go.Ground.data }], guard := none }) (v := ?v62) rfl (by kernel_rfl) (by kernel_rfl) (by kernel_rfl) (fun _ _ _ h => h) (Or.inl ⟨by kernel_rfl, ?h62⟩) (by assumption) ?r62
                case h62 => (intro w hSw; (try dsimp only at hSw); go_simp; try with_reducible rfl)
                try simp only [Act.put, List.setIfInBounds_toArray, List.set_cons_zero, List.set_cons_succ]
                refine wpAnyH_take (i := 7) (oi := { dst := some 90, op := Go.Op.move (Go.Operand.tmp 7), type := 3, pos := "ref.go:261", after := #[], guard := none }) (v := ?v63) rfl (by kernel_rfl) (by kernel_rfl) (by kernel_rfl) (fun _ _ _ h => h) (Or.inl ⟨by kernel_rfl, ?h63⟩) (by assumption) ?r63
                case h63 => (intro w hSw; (try dsimp only at hSw); go_simp; try with_reducible rfl)
                try simp only [Act.put, List.setIfInBounds_toArray, List.set_cons_zero, List.set_cons_succ]
                refine wpAnyH_take (i := 8) (oi := { dst := some 91, op := Go.Op.indexAddr 24 (Go.Operand.tmp 89) (Go.Operand.tmp 90), type := 0, pos := "ref.go:261", after := #[{ on := 6, ground := Go.Ground.data }, { on := 7, ground := Go.Ground.data }], guard := none }) (v := ?v64) rfl (by kernel_rfl) (by kernel_rfl) (by kernel_rfl) (fun _ _ _ h => h) (Or.inl ⟨by kernel_rfl, ?h64⟩) (by assumption) ?r64
                case h64 => (intro w hSw; (try dsimp only at hSw); go_simp; try with_reducible rfl)
                try simp only [Act.put, List.setIfInBounds_toArray, List.set_cons_zero, List.set_cons_succ]
                refine wpAnyH_take (i := 9) (oi := { dst := some 92, op := Go.Op.load 52 (Go.Operand.tmp 91), type := 52, pos := "ref.go:261", after := #[{ on := 8, ground := Go.Ground.data }], guard := none }) (v := ?v65) rfl (by kernel_rfl) (by kernel_rfl) (by kernel_rfl) (fun _ _ _ h => h) (Or.inl ⟨by kernel_rfl, ?h65⟩) (by assumption) ?r65
                case h65 => (intro w hSw; (try dsimp only at hSw); go_simp; try with_reducible rfl)
                try simp only [Act.put, List.setIfInBounds_toArray, List.set_cons_zero, List.set_cons_succ]
                refine wpAnyH_take (i := 10) (oi := { dst := some 93, op := Go.Op.binOp Go.BinOp.neq 52 (Go.Operand.tmp 87) (Go.Operand.tmp 92) 52, type := 4, pos := "ref.go:261", after := #[{ on := 4, ground := Go.Ground.data }, { on := 9, ground := Go.Ground.data }], guard := none }) (v := ?v66) rfl (by kernel_rfl) (by kernel_rfl) (by kernel_rfl) (fun _ _ _ h => h) (Or.inl ⟨by kernel_rfl, ?h66⟩) (by assumption) ?r66
                case h66 => (intro w hSw; (try dsimp only at hSw); refine Eq.trans (b := Result.ok (Next.value (.bool true)) w) (by go_simp; by_cases h0 : f01 = f02 <;> by_cases h1 : d11 = d12 <;> by_cases h2 : k21 = k22 <;> by_cases h3 : x31 = x32 <;> by_cases h4 : y41 = y42 <;> by_cases h5 : c51 = c52 <;> by_cases h6 : d61 = d62 <;> simp_all [ptxt_eq, ptl_iff]) ?_; with_reducible rfl)
                try simp only [Act.put, List.setIfInBounds_toArray, List.set_cons_zero, List.set_cons_succ]
                refine wpAnyH_done (by kernel_rfl) ?_ _
                clear gk gj g0 e0 g1 e1 g2 e2 g3 e3 g4 e4 g5 e5 g6 e6
                go_wp2
                go_ret
                exact ⟨ret_bool hRf.out.symm, Below.drewN BL.out (m + 1)⟩
            · have hki : ¬ (k : Int) < (pn3 : Int) := by omega
              have hb := Lib.hid (ye.out (fun t ht => hal.out t (by rw [← le1.out] at ht; omega)))
              have hR5 : Hid (R = true) := Lib.hid (by rw [hR4.out, hb.out])
              clear hb hR4 ne ye
              go_wp2
              go_ret
              exact ⟨ret_bool hR5.out.symm, Below.drewN BL.out m⟩
end Go.Proofs.YtgeliikfgnkppaaGreatDoor
/- Which programs may be: the document's. (Written by gen-prog-refcheck.py.) -/
namespace Go.Proofs.YtgeliikfgnkppaaGreatDoor
open Go.RowKit
set_option linter.unusedVariables false
set_option linter.unusedSimpArgs false

set_option maxRecDepth 100000 in
set_option maxHeartbeats 8000000 in
theorem rcheckP_any (p : PV) (D : PD) (hw : PW D) (w : World) (h : PrA w p D) : Calls Tryz.prog 12 #[.agg #[.string p.nm, .slice p.a1 p.n1 p.c1, .slice p.a2 p.n2 p.c2, .slice p.a3 p.n3 p.c3]] w (Gives (.bool (progB D)) w) := by
  have hR : Hid (progB D = ((decide (1 ≤ p.n2) && (decide (p.n2 ≤ 128) && decide (p.n3 ≤ 256))) && (nameB p.nm && (varsB D.vars && (D.spots.all spotB && D.edges.all (edgeB p.n2 p.n1)))))) := Lib.hid (by unfold progB; rw [h.nm, h.vars.len, h.spots.len, h.edges.len])
  have q1 := Lib.hid (fun W => rname_any p.nm (by rw [h.nm]; have := hw.nm; omega) W)
  have q2 := Lib.hid (fun W (hW : TT W p.a1 p.n1 p.c1 D.vars) => rvars_any p.a1 p.n1 p.c1 D.vars (fun s hs => by have := hw.vars s hs; omega) W hW)
  have hsw : Hid (∀ k, k < D.spots.length → spotW (D.spots.getD k spot0)) := Lib.hid (fun k hk => hw.spots _ (by simp [List.getD, hk]))
  obtain ⟨pnm, pa1, pn1, pc1, pa2, pn2, pc2, pa3, pn3, pc3⟩ := p
  have hv := h.vars
  have hs := h.spots
  have he := h.edges
  clear h hw
  dsimp only at hR q1 q2 hv hs he ⊢
  obtain ⟨W1, hW1⟩ : ∃ W1, W1 = w.alloc (.cells #[.string pnm, .slice pa1 pn1 pc1, .slice pa2 pn2 pc2, .slice pa3 pn3 pc3] 26) := ⟨_, rfl⟩
  have Z : Hid (Holds W1 w.heap.size 26 #[.string pnm, .slice pa1 pn1 pc1, .slice pa2 pn2 pc2, .slice pa3 pn3 pc3]) := Lib.hid (by rw [hW1]; exact Holds.new w _ _)
  have BL := Lib.hid (show Below w.heap.size w W1 by rw [hW1]; exact box_below _ _ _)
  have V := Lib.hid (hv.below BL.out)
  have S := Lib.hid (hs.below BL.out)
  have E := Lib.hid (he.below BL.out)
  have ls := Lib.hid hs.len
  have le := Lib.hid he.len
  have hm1 : (pn1 : Int) ≤ 9223372036854775807 := by have := hv.cap; have := hv.max; unfold maxLen at this; omega
  have hm2 : (pn2 : Int) ≤ 9223372036854775807 := by have := hs.max'; omega
  have hm3 : (pn3 : Int) ≤ 9223372036854775807 := by have := he.max'; omega
  have hW1' := Lib.hid hW1
  have k0 := Z.out.cell 0
  have k1 := Z.out.cell 1
  have k2 := Z.out.cell 2
  have k3 := Z.out.cell 3
  have ns := Lib.hid (fun k hk h => all_no (q := spotB) (l := D.spots) (d := spot0) (k := k) hk h)
  have ys := Lib.hid (fun h => all_yes (q := spotB) (l := D.spots) spot0 h)
  have ne := Lib.hid (fun k hk h => all_no (q := edgeB pn2 pn1) (l := D.edges) (d := edge0) (k := k) hk h)
  have ye := Lib.hid (fun h => all_yes (q := edgeB pn2 pn1) (l := D.edges) edge0 h)
  clear hv hs he hW1
  generalize progB D = R at *
  generalize D.spots.all spotB = bs at *
  generalize D.edges.all (edgeB pn2 pn1) = be at *
  generalize varsB D.vars = bv at *
  generalize nameB pnm = bn at *
  cases bn
  · have hf : Hid (R = false) := Lib.hid (by rw [hR.out]; simp)
    go_enter Tryz.func12, Tryz.ntmps12
    go_wp2_with fail
    refine (q1.out _).mono ?_
    rintro e w1 ⟨rfl, rfl⟩
    go_wp2
    go_ret
    rw [← hW1'.out]
    exact ⟨ret_bool hf.out.symm, BL.out⟩
  have enter_ := True.intro
  go_enter Tryz.func12, Tryz.ntmps12
  go_wp2_with fail
  refine (q1.out _).mono ?_
  rintro e w1 ⟨rfl, rfl⟩
  go_wp2_with fail
  rw [← hW1'.out]
  with_reducible refine (q2.out W1 V.out).mono ?_
  rintro e u ⟨rfl, m, hm⟩
  have hb1 : Below W1.heap.size W1 u := by rw [hm]; exact Below.drewN (Below.refl _ _) m
  replace Z := Lib.hid (Z.out.below hb1 Z.out.lt)
  replace S := Lib.hid (S.out.below hb1)
  replace E := Lib.hid (E.out.below hb1)
  replace BL := Lib.hid (BL.out.trans (hb1.mono BL.out.size))
  clear hb1 hm q2 V hW1' k0 k1 k2 k3 q1 enter_
  have k2 := Z.out.cell 2
  have k3 := Z.out.cell 3
  cases bv
  · have hf : Hid (R = false) := Lib.hid (by rw [hR.out]; simp)
    go_wp2
    go_ret
    exact ⟨ret_bool hf.out.symm, BL.out⟩
  by_cases g1 : 1 ≤ pn2
  rotate_left
  · have i1 : (pn2 : Int) < 1 := by omega
    have hf : Hid (R = false) := Lib.hid (by rw [hR.out, decide_eq_false g1]; simp)
    go_wp2
    go_ret
    exact ⟨ret_bool hf.out.symm, BL.out⟩
  have i1 : ¬ (pn2 : Int) < 1 := by omega
  by_cases g2 : pn2 ≤ 128
  rotate_left
  · have i2 : (128 : Int) < (pn2 : Int) := by omega
    have hf : Hid (R = false) := Lib.hid (by rw [hR.out, decide_eq_false g2]; simp)
    go_wp2
    go_ret
    exact ⟨ret_bool hf.out.symm, BL.out⟩
  have i2 : ¬ (128 : Int) < (pn2 : Int) := by omega
  by_cases g3 : pn3 ≤ 256
  rotate_left
  · have i3 : (256 : Int) < (pn3 : Int) := by omega
    have hf : Hid (R = false) := Lib.hid (by rw [hR.out, decide_eq_false g3]; simp)
    go_wp2
    go_ret
    exact ⟨ret_bool hf.out.symm, BL.out⟩
  have i3 : ¬ (256 : Int) < (pn3 : Int) := by omega
  go_wp2
  clear k2 k3 i1 i2 i3
  go_loopw [4] (fun y wr => ∃ k : Nat, k ≤ pn2 ∧ y = .int .i64 k ∧ Hid (∀ t, t < k → spotB (D.spots.getD t spot0) = true) ∧ wr = u) (fun y _ => pn2 - (intOf y).toNat)
  case atStart => exact ⟨0, Nat.zero_le _, rfl, Lib.hid (fun t ht => by omega), rfl⟩
  case round =>
    obtain ⟨k, hk, rfl, hal, rfl⟩ := hrel
    by_cases hlt : k < pn2
    · have hki : (k : Int) < (pn2 : Int) := by omega
      have k2 := Z.out.cell 2
      obtain ⟨b, off, rfl, -, x0, x1, x2⟩ := spots_at S.out hlt
      have hno' := Lib.hid (ns.out k (by rw [← ls.out]; exact hlt))
      have hyes' : Hid (spotB (D.spots.getD k spot0) = true → ∀ t, t < k + 1 → spotB (D.spots.getD t spot0) = true) := Lib.hid (fun h t ht => by
        by_cases e : t = k
        · rw [e]; exact h
        · exact hal.out t (by omega))
      have hz := hsw.out k (by rw [← ls.out]; exact hlt)
      obtain ⟨s, f, x, hd⟩ : ∃ s f x, D.spots.getD k spot0 = (⟨s, f, x⟩ : SpotD) := ⟨_, _, _, rfl⟩
      rw [hd] at x0 x1 x2 hno' hyes' hz
      dsimp only at x0 x1 x2
      have q1 := Lib.hid (fun W => rname_any s (by have := hz.1; dsimp only at this; omega) W)
      have q2 := Lib.hid (fun W => rfile_any f (by have := hz.2.1; dsimp only at this; omega) W)
      have hsb : Hid (spotB ⟨s, f, x⟩ = (nameB s && (fileB f && (decide (1 ≤ x) && decide (x ≤ 1048576))))) := Lib.hid rfl
      clear hd hal ns hz
      generalize spotB ⟨s, f, x⟩ = B at *
      cases e1 : nameB s
      · rw [e1] at q1 hsb
        have hf : Hid (R = false) := Lib.hid (by rw [hR.out, hno'.out (by rw [hsb.out]; simp)]; simp)
        clear hno' hyes' hsb
        go_wp2_with fail
        refine (q1.out _).mono ?_
        rintro e w1 ⟨rfl, rfl⟩
        go_wp2
        go_ret
        exact ⟨ret_bool hf.out.symm, BL.out⟩
      rw [e1] at q1 hsb
      cases e2 : fileB f
      · rw [e2] at q2 hsb
        have hf : Hid (R = false) := Lib.hid (by rw [hR.out, hno'.out (by rw [hsb.out]; simp)]; simp)
        clear hno' hyes' hsb
        go_wp2_with fail
        refine (q1.out _).mono ?_
        rintro e w1 ⟨rfl, rfl⟩
        go_wp2_with fail
        refine (q2.out _).mono ?_
        rintro e w1 ⟨rfl, rfl⟩
        go_wp2
        go_ret
        exact ⟨ret_bool hf.out.symm, BL.out⟩
      rw [e2] at q2 hsb
      by_cases h1 : 1 ≤ x
      rotate_left
      · have h1n : x < 1 := by omega
        have hf : Hid (R = false) := Lib.hid (by rw [hR.out, hno'.out (by rw [hsb.out, decide_eq_false h1]; simp)]; simp)
        clear hno' hyes' hsb
        go_wp2_with fail
        refine (q1.out _).mono ?_
        rintro e w1 ⟨rfl, rfl⟩
        go_wp2_with fail
        refine (q2.out _).mono ?_
        rintro e w1 ⟨rfl, rfl⟩
        go_wp2
        go_ret
        exact ⟨ret_bool hf.out.symm, BL.out⟩
      have h1n : ¬ x < 1 := by omega
      by_cases h2 : x ≤ 1048576
      rotate_left
      · have h2n : 1048576 < x := by omega
        have hf : Hid (R = false) := Lib.hid (by rw [hR.out, hno'.out (by rw [hsb.out, decide_eq_false h2]; simp)]; simp)
        clear hno' hyes' hsb
        go_wp2_with fail
        refine (q1.out _).mono ?_
        rintro e w1 ⟨rfl, rfl⟩
        go_wp2_with fail
        refine (q2.out _).mono ?_
        rintro e w1 ⟨rfl, rfl⟩
        go_wp2
        go_ret
        exact ⟨ret_bool hf.out.symm, BL.out⟩
      have h2n : ¬ 1048576 < x := by omega
      have hg := Lib.hid (hyes'.out (by rw [hsb.out, decide_eq_true h1, decide_eq_true h2]; rfl))
      clear hno' hyes' hsb
      go_wp2_with fail
      refine (q1.out _).mono ?_
      rintro e w1 ⟨rfl, rfl⟩
      go_wp2_with fail
      refine (q2.out _).mono ?_
      rintro e w1 ⟨rfl, rfl⟩
      go_wp2
      go_roundw
      case rel => exact ⟨k + 1, by omega, by go_num, hg, trivial⟩
      case measure => simp [intOf]; omega
    · have hki : ¬ (k : Int) < (pn2 : Int) := by omega
      have hb := Lib.hid (ys.out (fun t ht => hal.out t (by rw [← ls.out] at ht; omega)))
      have hR2 : Hid (R = be) := Lib.hid (by rw [hR.out, hb.out, decide_eq_true g1, decide_eq_true g2, decide_eq_true g3]; rfl)
      clear hb hR ns ys hal hsw
      go_wp2
      clear hki hlt hk
      generalize wr = u at *
      go_loopw [5] (fun y wr => ∃ k : Nat, k ≤ pn3 ∧ y = .int .i64 k ∧ Hid (∀ t, t < k → edgeB pn2 pn1 (D.edges.getD t edge0) = true) ∧ Hid (Below u.heap.size u wr)) (fun y _ => pn3 - (intOf y).toNat)
      case atStart => exact ⟨0, Nat.zero_le _, rfl, Lib.hid (fun t ht => by omega), Lib.hid (Below.refl _ _)⟩
      case round =>
        obtain ⟨k, hk, rfl, hal, hB⟩ := hrel
        have k1 := (Z.out.below hB.out Z.out.lt).cell 1
        have k3 := (Z.out.below hB.out Z.out.lt).cell 3
        have hzl : w.heap.size < wr.heap.size := Nat.lt_of_lt_of_le Z.out.lt hB.out.size
        by_cases hlt : k < pn3
        · have hki : (k : Int) < (pn3 : Int) := by omega
          obtain ⟨b, off, rfl, -, x0, x1, x2, x3, x4, x5, x6⟩ := edges_at (E.out.below hB.out) hlt
          have hno' := Lib.hid (ne.out k (by rw [← le.out]; exact hlt))
          have hyes' : Hid (edgeB pn2 pn1 (D.edges.getD k edge0) = true → ∀ t, t < k + 1 → edgeB pn2 pn1 (D.edges.getD t edge0) = true) := Lib.hid (fun h t ht => by
            by_cases e : t = k
            · rw [e]; exact h
            · exact hal.out t (by omega))
          obtain ⟨fr, ds, ek, ex, ey, ec, ed, hd⟩ : ∃ fr ds ek ex ey ec ed, D.edges.getD k edge0 = (⟨fr, ds, ek, ex, ey, ec, ed⟩ : EdgeD) := ⟨_, _, _, _, _, _, _, rfl⟩
          rw [hd] at x0 x1 x2 x3 x4 x5 x6 hno' hyes'
          dsimp only at x0 x1 x2 x3 x4 x5 x6
          have heb : Hid (edgeB pn2 pn1 ⟨fr, ds, ek, ex, ey, ec, ed⟩ = ((decide (0 ≤ fr) && decide (fr < (pn2 : Int))) && ((decide (0 ≤ ds) && decide (ds < (pn2 : Int))) && rightB ek ex ey ec ed (pn1 : Int)))) := Lib.hid rfl
          have q3 := Lib.hid (fun W => rright_any ek ex ey ec ed (pn1 : Int) W)
          have hB1 := Lib.hid (hB.out.trans ((box_below wr #[.int .i64 fr, .int .i64 ds, .int .i64 ek, .int .i64 ex, .int .i64 ey, .int .i64 ec, .int .i64 ed] 52).mono hB.out.size))
          clear hd hal ne
          generalize edgeB pn2 pn1 ⟨fr, ds, ek, ex, ey, ec, ed⟩ = B at *
          generalize rightB ek ex ey ec ed (pn1 : Int) = br at *
          by_cases p1 : 0 ≤ fr
          rotate_left
          · have j1 : fr < 0 := by omega
            have hf : Hid (R = false) := Lib.hid (by rw [hR2.out, hno'.out (by rw [heb.out, decide_eq_false p1]; simp)])
            clear hno' hyes' heb
            go_wp2
            go_ret
            exact ⟨ret_bool hf.out.symm, BL.out.trans (hB1.out.mono BL.out.size)⟩
          have j1 : ¬ fr < 0 := by omega
          by_cases p2 : fr < (pn2 : Int)
          rotate_left
          · have j2 : (pn2 : Int) ≤ fr := by omega
            have hf : Hid (R = false) := Lib.hid (by rw [hR2.out, hno'.out (by rw [heb.out, decide_eq_false p2]; simp)])
            clear hno' hyes' heb
            go_wp2
            go_ret
            exact ⟨ret_bool hf.out.symm, BL.out.trans (hB1.out.mono BL.out.size)⟩
          have j2 : ¬ (pn2 : Int) ≤ fr := by omega
          by_cases p3 : 0 ≤ ds
          rotate_left
          · have j3 : ds < 0 := by omega
            have hf : Hid (R = false) := Lib.hid (by rw [hR2.out, hno'.out (by rw [heb.out, decide_eq_false p3]; simp)])
            clear hno' hyes' heb
            go_wp2
            go_ret
            exact ⟨ret_bool hf.out.symm, BL.out.trans (hB1.out.mono BL.out.size)⟩
          have j3 : ¬ ds < 0 := by omega
          by_cases p4 : ds < (pn2 : Int)
          rotate_left
          · have j4 : (pn2 : Int) ≤ ds := by omega
            have hf : Hid (R = false) := Lib.hid (by rw [hR2.out, hno'.out (by rw [heb.out, decide_eq_false p4]; simp)])
            clear hno' hyes' heb
            go_wp2
            go_ret
            exact ⟨ret_bool hf.out.symm, BL.out.trans (hB1.out.mono BL.out.size)⟩
          have j4 : ¬ (pn2 : Int) ≤ ds := by omega
          cases br
          · have hf : Hid (R = false) := Lib.hid (by rw [hR2.out, hno'.out (by rw [heb.out]; simp)])
            clear hno' hyes' heb
            go_wp2_with fail
            refine (q3.out _).mono ?_
            rintro e w1 ⟨rfl, b1⟩
            have hB2 := Lib.hid (hB1.out.trans (b1.mono hB1.out.size))
            clear b1
            go_wp2
            go_ret
            exact ⟨ret_bool hf.out.symm, BL.out.trans (hB2.out.mono BL.out.size)⟩
          have hg := Lib.hid (hyes'.out (by rw [heb.out, decide_eq_true p1, decide_eq_true p2, decide_eq_true p3, decide_eq_true p4]; rfl))
          clear hno' hyes' heb
          go_wp2_with fail
          refine (q3.out _).mono ?_
          rintro e w1 ⟨rfl, b1⟩
          have hB2 := Lib.hid (hB1.out.trans (b1.mono hB1.out.size))
          clear b1
          go_wp2
          go_roundw
          case rel => exact ⟨k + 1, by omega, by go_num, hg, hB2⟩
          case measure => simp [intOf]; omega
        · have hki : ¬ (k : Int) < (pn3 : Int) := by omega
          have hb := Lib.hid (ye.out (fun t ht => hal.out t (by rw [← le.out] at ht; omega)))
          have hf : Hid (R = true) := Lib.hid (by rw [hR2.out, hb.out])
          clear hb ye ne hR2
          go_wp2
          go_ret
          exact ⟨ret_bool hf.out.symm, BL.out.trans (hB.out.mono BL.out.size)⟩
end Go.Proofs.YtgeliikfgnkppaaGreatDoor
/- Which points are come to: marks that are set along edges, pass by pass, until nothing new comes. -/
namespace Go.Proofs.YtgeliikfgnkppaaGreatDoor
set_option linter.unusedVariables false
set_option linter.unusedSimpArgs false

/-- A point is come to: the point 0, and where an edge leads from one that is. -/
inductive ComesTo (E : List (Nat × Nat)) : Nat → Prop
  | start : ComesTo E 0
  | step {a b : Nat} : ComesTo E a → (a, b) ∈ E → ComesTo E b
/-- An edge's mark. -/
def markE (l : List Bool) (e : Nat × Nat) : List Bool := if l.getD e.1 false then l.set e.2 true else l
def passE (E : List (Nat × Nat)) (l : List Bool) : List Bool := E.foldl markE l
def passes (E : List (Nat × Nat)) : Nat → List Bool → List Bool
  | 0, l => l
  | n + 1, l => passes E n (passE E l)
def startB (n : Nat) : List Bool := (List.replicate n false).set 0 true
def OnlyC (E : List (Nat × Nat)) (l : List Bool) : Prop := ∀ v, l.getD v false = true → ComesTo E v
def ClosedE (E : List (Nat × Nat)) (l : List Bool) : Prop := ∀ a b, (a, b) ∈ E → l.getD a false = true → l.getD b false = true

theorem mark_len (l : List Bool) (e : Nat × Nat) : (markE l e).length = l.length := by unfold markE; split <;> simp
theorem pass_len : ∀ (E : List (Nat × Nat)) (l : List Bool), (passE E l).length = l.length
  | [], l => rfl
  | e :: E, l => (pass_len E (markE l e)).trans (mark_len l e)
theorem passes_len (E : List (Nat × Nat)) : ∀ (n : Nat) (l : List Bool), (passes E n l).length = l.length
  | 0, l => rfl
  | n + 1, l => (passes_len E n _).trans (pass_len E l)
theorem getD_set_true (l : List Bool) (i v : Nat) : (l.set i true).getD v false = true ↔ (v = i ∧ i < l.length) ∨ l.getD v false = true := by
  simp only [List.getD, List.getElem?_set]
  by_cases h : i = v
  · subst h
    by_cases h2 : i < l.length
    · simp [h2]
    · simp [h2]
  · simp [h]; omega
theorem only_mark {E : List (Nat × Nat)} {l : List Bool} {e : Nat × Nat} (h : OnlyC E l) (he : e ∈ E) : OnlyC E (markE l e) := by
  unfold markE
  split
  · next hs =>
    intro v hv
    rcases (getD_set_true l e.2 v).1 hv with ⟨rfl, _⟩ | hv
    · exact .step (h e.1 hs) he
    · exact h v hv
  · exact h
theorem only_pass {F : List (Nat × Nat)} : ∀ {E : List (Nat × Nat)} {l : List Bool}, OnlyC F l → (∀ e ∈ E, e ∈ F) → OnlyC F (passE E l)
  | [], l, h, _ => h
  | e :: E, l, h, hs => only_pass (E := E) (only_mark h (hs e (by simp))) (fun x hx => hs x (by simp [hx]))
theorem only_passes {E : List (Nat × Nat)} : ∀ {n : Nat} {l : List Bool}, OnlyC E l → OnlyC E (passes E n l)
  | 0, _, h => h
  | n + 1, _, h => only_passes (n := n) (only_pass h (fun _ hx => hx))
/-- What is marked stays so. -/
theorem mark_mono {l : List Bool} {e : Nat × Nat} {v : Nat} (h : l.getD v false = true) : (markE l e).getD v false = true := by
  unfold markE
  split
  · exact (getD_set_true l e.2 v).2 (.inr h)
  · exact h
theorem pass_mono : ∀ {E : List (Nat × Nat)} {l : List Bool} {v : Nat}, l.getD v false = true → (passE E l).getD v false = true
  | [], _, _, h => h
  | e :: E, _, _, h => pass_mono (E := E) (mark_mono h)
theorem passes_mono {E : List (Nat × Nat)} : ∀ {n : Nat} {l : List Bool} {v : Nat}, l.getD v false = true → (passes E n l).getD v false = true
  | 0, _, _, h => h
  | n + 1, _, _, h => passes_mono (n := n) (pass_mono h)
/-- A mark changes nothing, or there is one more. -/
theorem mark_more (l : List Bool) (e : Nat × Nat) (he : e.2 < l.length) : (markE l e = l ∧ (l.getD e.1 false = true → l.getD e.2 false = true)) ∨ l.count true < (markE l e).count true := by
  unfold markE
  by_cases h : l.getD e.1 false = true
  · rw [if_pos h]
    by_cases h2 : l.getD e.2 false = true
    · left
      refine ⟨?_, fun _ => h2⟩
      have e2 : l[e.2] = true := by simpa [List.getD, he] using h2
      exact List.ext_getElem (by simp) (fun i h3 h4 => by
        rw [List.getElem_set]
        split
        · next hi => subst hi; exact e2.symm
        · rfl)
    · right
      have e2 : l[e.2] = false := by simpa [List.getD, he] using h2
      rw [List.count_set he, e2]
      simp
  · left; rw [if_neg h]; exact ⟨rfl, fun h2 => absurd h2 h⟩
theorem pass_more : ∀ (E : List (Nat × Nat)) (l : List Bool), (∀ e ∈ E, e.2 < l.length) → (passE E l = l ∧ ClosedE E l) ∨ l.count true < (passE E l).count true
  | [], l, _ => .inl ⟨rfl, fun a b h => by cases h⟩
  | e :: E, l, hE => by
    have hl := mark_len l e
    rcases mark_more l e (hE e (by simp)) with ⟨h1, h2⟩ | h1
    · have hp : passE (e :: E) l = passE E l := by show passE E (markE l e) = _; rw [h1]
      rw [hp]
      rcases pass_more E l (fun x hx => hE x (by simp [hx])) with ⟨h3, h4⟩ | h3
      · left
        refine ⟨h3, fun a b hab ha => ?_⟩
        rcases List.mem_cons.1 hab with rfl | hab
        · exact h2 ha
        · exact h4 a b hab ha
      · exact .inr h3
    · right
      show _ < (passE E (markE l e)).count true
      rcases pass_more E (markE l e) (fun x hx => by rw [hl]; exact hE x (by simp [hx])) with ⟨h3, _⟩ | h3
      · rw [h3]; exact h1
      · omega
theorem passes_closed {E : List (Nat × Nat)} : ∀ (n : Nat) (l : List Bool), (∀ e ∈ E, e.2 < l.length) → (∀ m, (passes E n l).count true ≤ m → l.count true + n ≤ m) ∨ ClosedE E (passes E n l)
  | 0, l, _ => .inl fun m h => h
  | n + 1, l, hE => by
    have hl := pass_len E l
    rcases pass_more E l hE with ⟨h1, h2⟩ | h1
    · right
      have : ∀ k, passes E k l = l := fun k => by
        induction k with
        | zero => rfl
        | succ k ih => show passes E k (passE E l) = l; rw [h1, ih]
      rw [this (n + 1)]
      exact h2
    · rcases passes_closed n (passE E l) (fun e he => by rw [hl]; exact hE e he) with h2 | h2
      · left
        intro m hm
        have := h2 m hm
        omega
      · exact .inr h2
/-- The document's marks: after as many passes as there are points, just the points that are come to. -/
theorem passes_all {E : List (Nat × Nat)} {n : Nat} (h0 : 0 < n) (hE : ∀ e ∈ E, e.2 < n) (v : Nat) : (passes E n (startB n)).getD v false = true ↔ ComesTo E v := by
  have hl : (startB n).length = n := by simp [startB]
  have h00 : (startB n).getD 0 false = true := (getD_set_true _ 0 0).2 (.inl ⟨rfl, by simpa using h0⟩)
  constructor
  · refine only_passes (fun x hx => ?_) v
    rcases (getD_set_true _ 0 x).1 hx with ⟨rfl, _⟩ | hx
    · exact .start
    · simp [List.getD, List.getElem?_replicate] at hx
      split at hx <;> simp at hx
  · have hc : ClosedE E (passes E n (startB n)) := by
      rcases passes_closed (E := E) n (startB n) (fun e he => by rw [hl]; exact hE e he) with h | h
      · have h1 := h n (by have := List.count_le_length (a := true) (l := passes E n (startB n)); rw [passes_len, hl] at this; exact this)
        have h2 : 0 < (startB n).count true := List.count_pos_iff.2 (by
          have : (startB n)[0]'(by rw [hl]; exact h0) = true := by simp [startB]
          exact this ▸ List.getElem_mem _)
        omega
      · exact h
    intro hv
    induction hv with
    | start => exact passes_mono h00
    | step _ hab ih => exact hc _ _ hab ih
end Go.Proofs.YtgeliikfgnkppaaGreatDoor
/- The points that are come to, found one after another: each time the edges from the next one are gone through. -/
namespace Go.Proofs.YtgeliikfgnkppaaGreatDoor
set_option linter.unusedVariables false
set_option linter.unusedSimpArgs false

/-- One more edge, from the point a. -/
def findE (a : Nat) (l : List Nat) (e : Nat × Nat) : List Nat := if e.1 = a ∧ e.2 ∉ l then l ++ [e.2] else l
/-- What holds while the edges of the point at place k are gone through: m of them are done. -/
structure FindI (E : List (Nat × Nat)) (n k m : Nat) (l : List Nat) : Prop where
  nodup : l.Nodup
  lt : ∀ v ∈ l, v < n
  come : ∀ v ∈ l, ComesTo E v
  zero : 0 ∈ l
  before : ∀ j, j < k → j < l.length → ∀ b, (l.getD j 0, b) ∈ E → b ∈ l
  now : ∀ e ∈ E.take m, e.1 = l.getD k 0 → e.2 ∈ l
theorem find_start {E : List (Nat × Nat)} {n : Nat} (h : 0 < n) : FindI E n 0 0 [0] :=
  ⟨by simp, by simpa using h, by simpa using ComesTo.start, by simp, fun j hj => absurd hj (by omega), by simp⟩
theorem short_nodup : ∀ (n : Nat) (l : List Nat), l.Nodup → (∀ v ∈ l, v < n) → l.length ≤ n
  | 0, [], _, _ => Nat.le_refl _
  | 0, x :: l, _, h => absurd (h x (by simp)) (by omega)
  | n + 1, l, nd, h => by
    by_cases c : n ∈ l
    · have h2 := short_nodup n (l.erase n) (nd.erase n) (fun v hv => by
        have h1 := h v (List.mem_of_mem_erase hv)
        have h3 : v ≠ n := fun e => by subst e; exact List.Nodup.not_mem_erase nd hv
        omega)
      rw [List.length_erase_of_mem c] at h2
      omega
    · have h2 := short_nodup n l nd (fun v hv => by
        have h1 := h v hv
        have h3 : v ≠ n := fun e => c (e ▸ hv)
        omega)
      omega
theorem find_len {E : List (Nat × Nat)} {n k m : Nat} {l : List Nat} (h : FindI E n k m l) : l.length ≤ n := short_nodup n l h.nodup h.lt
theorem find_step {E : List (Nat × Nat)} {n k m : Nat} {l : List Nat} {e : Nat × Nat} (h : FindI E n k m l) (hk : k < l.length) (hm : E[m]? = some e) (hn : e.2 < n) : FindI E n k (m + 1) (findE (l.getD k 0) l e) := by
  have heE : e ∈ E := List.mem_of_getElem? hm
  have ht : E.take (m + 1) = E.take m ++ [e] := by rw [List.take_add_one, hm]; rfl
  unfold findE
  by_cases c : e.1 = l.getD k 0 ∧ e.2 ∉ l
  · rw [if_pos c]
    have hat : ∀ j, j < l.length → (l ++ [e.2]).getD j 0 = l.getD j 0 := fun j hj => by simp [List.getD, List.getElem?_append_left hj]
    refine ⟨?_, ?_, ?_, by simp [h.zero], ?_, ?_⟩
    · rw [List.nodup_append]
      exact ⟨h.nodup, by simp, fun a ha b hb => by simp at hb; subst hb; intro hab; exact c.2 (hab ▸ ha)⟩
    · intro v hv
      rcases List.mem_append.1 hv with hv | hv
      · exact h.lt v hv
      · simp at hv; omega
    · intro v hv
      rcases List.mem_append.1 hv with hv | hv
      · exact h.come v hv
      · obtain rfl : v = e.2 := by simpa using hv
        have hc : ComesTo E e.1 := by rw [c.1]; exact h.come _ (by simp [List.getD, hk])
        exact hc.step heE
    · intro j hj hjl b hb
      rw [hat j (by omega)] at hb
      simp [h.before j hj (by omega) b hb]
    · intro x hx hxa
      rw [hat k hk] at hxa
      rw [ht] at hx
      rcases List.mem_append.1 hx with hx | hx
      · simp [h.now x hx hxa]
      · obtain rfl : x = e := by simpa using hx
        simp
  · rw [if_neg c]
    refine ⟨h.nodup, h.lt, h.come, h.zero, h.before, ?_⟩
    intro x hx hxa
    rw [ht] at hx
    rcases List.mem_append.1 hx with hx | hx
    · exact h.now x hx hxa
    · obtain rfl : x = e := by simpa using hx
      exact Classical.byContradiction fun hb => c ⟨hxa, hb⟩
theorem find_next {E : List (Nat × Nat)} {n k : Nat} {l : List Nat} (h : FindI E n k E.length l) : FindI E n (k + 1) 0 l :=
  ⟨h.nodup, h.lt, h.come, h.zero, fun j hj hjl b hb => by
    by_cases c : j = k
    · subst c; exact h.now (l.getD j 0, b) (by rwa [List.take_length]) rfl
    · exact h.before j (by omega) hjl b hb, by simp⟩
/-- All were gone through: just the points that are come to were found. -/
theorem find_end {E : List (Nat × Nat)} {n k : Nat} {l : List Nat} (h : FindI E n k 0 l) (hk : l.length ≤ k) (v : Nat) : v ∈ l ↔ ComesTo E v := by
  constructor
  · exact h.come v
  · intro hv
    induction hv with
    | start => exact h.zero
    | step _ hab ih =>
      obtain ⟨j, hj, e⟩ := List.getElem_of_mem ih
      exact h.before j (by omega) hj _ (by simpa [List.getD, hj, e] using hab)
/-- In order, they are those that are marked. -/
theorem sorted_filter {n : Nat} {l : List Nat} {p : Nat → Bool} (hs : l.Pairwise (· < ·)) (hp : ∀ v, v ∈ l ↔ v < n ∧ p v = true) : l = (List.range n).filter p := by
  have h2 : ((List.range n).filter p).Pairwise (· < ·) := List.Pairwise.filter _ List.pairwise_lt_range
  have hm : ∀ v, v ∈ l ↔ v ∈ (List.range n).filter p := fun v => by rw [hp, List.mem_filter, List.mem_range]
  generalize (List.range n).filter p = r at h2 hm
  clear hp
  induction l generalizing r with
  | nil =>
    cases r with
    | nil => rfl
    | cons x r => exact absurd ((hm x).2 (by simp)) (by simp)
  | cons x l ih =>
    cases r with
    | nil => exact absurd ((hm x).1 (by simp)) (by simp)
    | cons y r =>
      obtain ⟨a1, a2⟩ := List.pairwise_cons.1 hs
      obtain ⟨b1, b2⟩ := List.pairwise_cons.1 h2
      have hxy : x = y := by
        rcases List.mem_cons.1 ((hm x).1 (by simp)) with h | h
        · exact h
        · rcases List.mem_cons.1 ((hm y).2 (by simp)) with h' | h'
          · exact h'.symm
          · have := b1 x h; have := a1 y h'; omega
      subst hxy
      congr 1
      refine ih a2 r b2 fun v => ?_
      constructor
      · intro hv
        rcases List.mem_cons.1 ((hm v).1 (by simp [hv])) with h | h
        · have := a1 v hv; omega
        · exact h
      · intro hv
        rcases List.mem_cons.1 ((hm v).2 (by simp [hv])) with h | h
        · have := b1 v hv; omega
        · exact h
end Go.Proofs.YtgeliikfgnkppaaGreatDoor
/- The edges that are asked for, by their numbers; how many they are in all. -/
namespace Go.Proofs.YtgeliikfgnkppaaGreatDoor
set_option linter.unusedVariables false
set_option linter.unusedSimpArgs false

/-- The numbers of the first m edges that are asked for. -/
def askedL (E : List (Nat × Nat)) (q : Nat × Nat → Bool) (m : Nat) : List Nat := (List.range m).filter fun k => q (E.getD k (0, 0))
theorem asked_zero (E : List (Nat × Nat)) (q : Nat × Nat → Bool) : askedL E q 0 = [] := rfl
theorem asked_succ (E : List (Nat × Nat)) (q : Nat × Nat → Bool) (m : Nat) : askedL E q (m + 1) = askedL E q m ++ (if q (E.getD m (0, 0)) = true then [m] else []) := by
  unfold askedL
  rw [List.range_succ, List.filter_append]
  congr 1
  by_cases h : q (E.getD m (0, 0)) = true
  · rw [if_pos h]; exact List.filter_cons_of_pos h
  · rw [if_neg h]; exact List.filter_cons_of_neg h
theorem mem_asked {E : List (Nat × Nat)} {q : Nat × Nat → Bool} {m k : Nat} : k ∈ askedL E q m ↔ k < m ∧ q (E.getD k (0, 0)) = true := by simp [askedL]
theorem asked_le (E : List (Nat × Nat)) (q : Nat × Nat → Bool) (m : Nat) : (askedL E q m).length ≤ m := by
  unfold askedL
  exact Nat.le_trans (List.length_filter_le _ _) (by simp)
theorem asked_count (E : List (Nat × Nat)) (q : Nat × Nat → Bool) : ∀ m, m ≤ E.length → (askedL E q m).length = (E.take m).countP q
  | 0, _ => by simp [askedL]
  | m + 1, h => by
    have e : E.getD m (0, 0) = E[m] := by simp [List.getD, show m < E.length by omega]
    rw [asked_succ, List.length_append, asked_count E q m (by omega), List.take_succ_eq_append_getElem (by omega), List.countP_append, e]
    congr 1
    by_cases c : q E[m] = true
    · simp [c]
    · simp [c]
/-- All edges into the first i points. -/
def intoSum (E : List (Nat × Nat)) : Nat → Nat
  | 0 => 0
  | i + 1 => intoSum E i + (askedL E (fun e => e.2 == i) E.length).length
theorem into_count (E : List (Nat × Nat)) : ∀ i, intoSum E i = E.countP fun e => decide (e.2 < i)
  | 0 => by simp [intoSum]
  | i + 1 => by
    rw [intoSum, into_count E i, asked_count E _ _ (Nat.le_refl _), List.take_length]
    clear into_count
    induction E with
    | nil => rfl
    | cons e E ih =>
      simp only [List.countP_cons]
      by_cases h1 : e.2 < i
      · simp [h1, show e.2 < i + 1 by omega, show e.2 ≠ i by omega]; omega
      · by_cases h2 : e.2 = i
        · simp [h2]; omega
        · simp [h1, h2, show ¬ e.2 < i + 1 by omega]; omega
/-- Each edge leads into one point. -/
theorem into_all {E : List (Nat × Nat)} {n : Nat} (h : ∀ e ∈ E, e.2 < n) : intoSum E n = E.length := by
  rw [into_count]
  exact List.countP_eq_length.2 fun e he => decide_eq_true (h e he)
theorem into_le {E : List (Nat × Nat)} (i : Nat) : intoSum E i ≤ E.length := by rw [into_count]; exact List.countP_le_length
end Go.Proofs.YtgeliikfgnkppaaGreatDoor
/- Points that are found, in memory: a row of marks, and a row of points; what is sorted. (Written by gen-prog-find.py.) -/
namespace Go.Proofs.YtgeliikfgnkppaaGreatDoor
open Go.RowKit Go.Sort
set_option linter.unusedVariables false
set_option linter.unusedSimpArgs false

def intsP (l : List Nat) : List Int := l.map fun k : Nat => (k : Int)
theorem intsP_len (l : List Nat) : (intsP l).length = l.length := by simp [intsP]
theorem intsP_at (l : List Nat) {i : Nat} (hi : i < l.length) : (intsP l).getD i 0 = ((l.getD i 0 : Nat) : Int) := by simp [intsP, List.getD, hi]
theorem intsP_snoc (l : List Nat) (d : Nat) : intsP (l ++ [d]) = intsP l ++ [(d : Int)] := by simp [intsP]
/-- The edges as pairs of points. -/
def pairsE (D : PD) : List (Nat × Nat) := D.edges.map fun e => (e.frm.toNat, e.dst.toNat)
theorem pairs_len (D : PD) : (pairsE D).length = D.edges.length := by simp [pairsE]
theorem pairs_at (D : PD) {i : Nat} (hi : i < D.edges.length) : (pairsE D)[i]? = some ((D.edges.getD i edge0).frm.toNat, (D.edges.getD i edge0).dst.toNat) := by simp [pairsE, List.getD, hi]
theorem pairs_lt {D : PD} (h : progB D = true) : ∀ e ∈ pairsE D, e.1 < D.spots.length ∧ e.2 < D.spots.length := by
  intro e he
  obtain ⟨x, hx, rfl⟩ := List.mem_map.1 he
  obtain ⟨i, hi, rfl⟩ := List.getElem_of_mem hx
  have h1 := edge_ends (prog_edge h hi)
  have e1 : D.edges.getD i edge0 = D.edges[i] := by simp [List.getD, hi]
  rw [e1] at h1
  exact ⟨by show (D.edges[i]).frm.toNat < _; omega, by show (D.edges[i]).dst.toNat < _; omega⟩
/-- The points that are come to, in order. -/
def reachN (D : PD) : List Nat := (List.range D.spots.length).filter fun v => (passes (pairsE D) D.spots.length (startB D.spots.length)).getD v false
def reachP (D : PD) : List Int := if progB D = true then intsP (reachN D) else []
theorem reachN_len (D : PD) : (reachN D).length ≤ D.spots.length := by
  unfold reachN
  exact Nat.le_trans (List.length_filter_le _ _) (by simp)
theorem comes_lt {D : PD} (h : progB D = true) {v : Nat} (hv : ComesTo (pairsE D) v) : v < D.spots.length := by
  cases hv with
  | start => exact (prog_sizes h).1
  | step _ hab => exact (pairs_lt h _ hab).2
theorem mem_reach {D : PD} (h : progB D = true) (v : Nat) : v ∈ reachN D ↔ ComesTo (pairsE D) v := by
  unfold reachN
  rw [List.mem_filter, List.mem_range, passes_all (prog_sizes h).1 (fun e he => (pairs_lt h e he).2)]
  exact ⟨fun h => h.2, fun hv => ⟨comes_lt h hv, hv⟩⟩
/-- What is found, sorted, are they. -/
theorem sorted_reach {D : PD} (h : progB D = true) {l : List Nat} (nd : l.Nodup) (hm : ∀ v, v ∈ l ↔ ComesTo (pairsE D) v) : (intsP l).mergeSort (fun x y => decide (x ≤ y)) = intsP (reachN D) := by
  have hperm : ((intsP l).mergeSort (fun x y => decide (x ≤ y))).Perm (intsP l) := List.mergeSort_perm _ _
  have hpw := List.pairwise_mergeSort (le := fun x y : Int => decide (x ≤ y)) (by intro a b c h1 h2; simp at h1 h2 ⊢; omega) (by intro a b; simp; omega) (intsP l)
  generalize (intsP l).mergeSort (fun x y => decide (x ≤ y)) = M at *
  have hmap : M = intsP (M.map Int.toNat) := by
    unfold intsP
    rw [List.map_map]
    conv => lhs; rw [← List.map_id M]
    apply List.map_congr_left
    intro x hx
    have hx2 := hperm.mem_iff.1 hx
    obtain ⟨k, _, rfl⟩ := List.mem_map.1 hx2
    simp
  have hndM : M.Nodup := by
    refine hperm.nodup_iff.2 ?_
    unfold intsP
    exact List.Pairwise.map _ (fun a b hab => by omega) nd
  have hlt : (M.map Int.toNat).Pairwise (· < ·) := by
    rw [List.pairwise_map]
    have h2 : M.Pairwise (fun a b => decide (a ≤ b) = true ∧ a ≠ b) := hpw.and hndM
    refine h2.imp_of_mem ?_
    intro a b ha hb hab
    have ha2 := hperm.mem_iff.1 ha
    have hb2 := hperm.mem_iff.1 hb
    obtain ⟨ka, _, rfl⟩ := List.mem_map.1 ha2
    obtain ⟨kb, _, rfl⟩ := List.mem_map.1 hb2
    simp at hab ⊢
    omega
  rw [hmap]
  congr 1
  unfold reachN
  refine sorted_filter hlt fun v => ?_
  rw [passes_all (prog_sizes h).1 (fun e he => (pairs_lt h e he).2)]
  have : v ∈ M.map Int.toNat ↔ v ∈ l := by
    rw [List.mem_map]
    constructor
    · rintro ⟨x, hx, rfl⟩
      obtain ⟨k, hk, rfl⟩ := List.mem_map.1 (hperm.mem_iff.1 hx)
      simpa using hk
    · intro hv
      exact ⟨(v : Int), hperm.mem_iff.2 (List.mem_map.2 ⟨v, hv, rfl⟩), by simp⟩
  rw [this, hm]
  exact ⟨fun hv => ⟨comes_lt h hv, hv⟩, fun h => h.2⟩
/-- The marks of the points found. -/
def marksP (l : List Nat) : Array Value := ((List.range 128).map fun x => Value.bool (l.contains x)).toArray
theorem marks_size (l : List Nat) : (marksP l).size = 128 := by simp [marksP]
theorem marks_at (l : List Nat) {x : Nat} (hx : x < 128) : (marksP l)[x]? = some (.bool (l.contains x)) := by unfold marksP; simp [hx]
theorem marks_set (l : List Nat) {d : Nat} (hd : d < 128) : (marksP l).setIfInBounds d (.bool true) = marksP (l ++ [d]) := by
  apply Array.ext_getElem?
  intro i
  by_cases hi : i < 128
  · rw [marks_at _ hi, Array.getElem?_setIfInBounds, marks_size]
    by_cases hdi : d = i
    · subst hdi; simp [hd]
    · rw [if_neg hdi, marks_at l hi]
      congr 2
      rw [Bool.eq_iff_iff]
      simp
      intro h; exact absurd h.symm hdi
  · rw [Array.getElem?_eq_none (by simp [marks_size]; omega), Array.getElem?_eq_none (by rw [marks_size]; omega)]
set_option maxRecDepth 100000 in
theorem marks_lit : (Tryz.zeroCells66).setIfInBounds 0 (.bool true) = marksP [0] := by kernel_rfl
/-- What is found so far. -/
structure RchI (u : World) (gs : Nat) (l : List Nat) (v : Value) (w : World) : Prop where
  low : u.heap.size ≤ gs
  bel : Below u.heap.size u w
  seen : Holds w gs 66 (marksP l)
  row : w.ownsRow u.heap.size 3 1 v l.length (nums .i64 (intsP l))
  apart : ∀ b, v.ownBlock = some b → b ≠ gs
theorem RchI.made {u : World} {gs : Nat} {l : List Nat} {v : Value} {w w' : World} (h : RchI u gs l v w) (hb : Below w.heap.size w w') : RchI u gs l v w' :=
  ⟨h.low, h.bel.trans (hb.mono h.bel.size), h.seen.below hb h.seen.lt, own_below h.row hb, h.apart⟩
/-- The mark's store, and the literal of what is appended. -/
theorem RchI.marked {u : World} {gs : Nat} {l : List Nat} {v : Value} {w : World} (h : RchI u gs l v w) {d : Nat} (hd : d < 128) : Below u.heap.size u (w.setCell ⟨gs, d, none⟩ (.bool true)) ∧ Holds (w.setCell ⟨gs, d, none⟩ (.bool true)) gs 66 (marksP (l ++ [d])) ∧ (w.setCell ⟨gs, d, none⟩ (.bool true)).ownsRow u.heap.size 3 1 v l.length (nums .i64 (intsP l)) := by
  have hb : BelowE [gs] w.heap.size w (w.setCell ⟨gs, d, none⟩ (.bool true)) := (BelowE.refl _ _ _).setIn (p := ⟨gs, d, none⟩) (by simp) _
  refine ⟨h.bel.setCell (p := ⟨gs, d, none⟩) h.low _, ?_, own_belowE h.row hb (fun k hk hx => h.apart k hk (by simpa using hx))⟩
  have := h.seen.set d (.bool true)
  rwa [marks_set l hd] at this
theorem RchI.grow {u : World} {gs : Nat} {l : List Nat} {v v' : Value} {w X w' : World} (h : RchI u gs l v w) {d : Nat} (hd : d < 128) (hX : X = (w.setCell ⟨gs, d, none⟩ (.bool true)).alloc (.cells #[.int .i64 (d : Int)] 3))
    (own : w'.ownsRow 0 3 1 v' (intsP l ++ [(d : Int)]).length (nums .i64 (intsP l ++ [(d : Int)]))) (gr : X.grownBy w' v.ownBlock) (blk : v'.ownBlock = v.ownBlock ∨ v'.ownBlock = some X.heap.size) : RchI u gs (l ++ [d]) v' w' := by
  obtain ⟨m1, m2, m3⟩ := h.marked hd
  have hb1 : Below (w.setCell ⟨gs, d, none⟩ (.bool true)).heap.size (w.setCell ⟨gs, d, none⟩ (.bool true)) X := by rw [hX]; exact box_below _ _ _
  have g1 := m2.below hb1 m2.lt
  have o1 := own_below m3 hb1
  have bX := m1.trans (hb1.mono m1.size)
  have hlt := o1.lt
  have hv : ∀ b, v'.ownBlock = some b → u.heap.size ≤ b ∧ b ≠ gs := fun b hb => by
    rcases blk with e | e
    · rw [e] at hb; exact ⟨(hlt b hb).1, h.apart b hb⟩
    · rw [e] at hb
      obtain rfl := Option.some.inj hb
      have := g1.lt
      exact ⟨bX.size, by omega⟩
  refine ⟨h.low, bX.grown gr bX.size (fun j hj => (hlt j hj).1), (gr.block gs g1.lt (fun e => h.apart gs e.symm rfl)).trans g1, ?_, fun b hb => (hv b hb).2⟩
  rw [intsP_snoc]
  have := own_from own (fun b hb => (hv b hb).1)
  rw [List.length_append, intsP_len] at this
  rw [List.length_append]
  exact this
theorem grow_below (w : World) (os : Array Obj) : Below w.heap.size w (grow w os) :=
  ⟨rfl, rfl, rfl, by show w.heap.size ≤ (w.heap ++ os).size; rw [Array.size_append]; omega, fun _ hj => Sort.heap_grow_old w os hj⟩
/-- A row that is sorted. -/
theorem ints_sorted {w : World} {base g cap n q : Nat} {os : Array Obj} {zs : List Int} (h : w.ownsRow base 3 1 (.slice (some ⟨g, 0, none⟩) n cap) n (nums .i64 zs)) :
    (grow (putRow (Value.int .i64) (Sort.ahead w q) g 0 (zs.mergeSort fun x y => decide (x ≤ y)).toArray) os).ownsRow base 3 1 (.slice (some ⟨g, 0, none⟩) n cap) n (nums .i64 (zs.mergeSort fun x y => decide (x ≤ y))) := by
  have hl : zs.length = n := by have := h.1; simpa [nums] using this
  have hc := Lib.ownsRow_putRow (enc := Value.int .i64) (q := q) (k := n) (ys := zs.mergeSort fun x y => decide (x ≤ y)) h (by rw [List.length_mergeSort]; exact hl) (Nat.le_refl _)
  rw [List.take_of_length_le (by rw [List.length_mergeSort]; omega)] at hc
  exact own_below hc (grow_below _ _)
end Go.Proofs.YtgeliikfgnkppaaGreatDoor
