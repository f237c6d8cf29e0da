/- 'lives' of the statements on itv. -/
import Derived.Test.YthjpkbhgpjefpaaDoorItvParse
import Derived.Test.YthjpkbhgpjefpaaDoorItvPlus
namespace Go.Proofs.YthjpkbhgpjefpaaDoor
open Go.RowKit
set_option linter.unusedVariables false
set_option linter.unusedSimpArgs false

theorem on2 {w a b : World} (h : Below w.heap.size w a) (k : Below a.heap.size a b) : Below w.heap.size w b := h.trans (k.mono h.size)
/-- What the statements want of a world. -/
def Env (w : World) : Prop := Tab w ∧ Mx w
theorem Env.on {w w' : World} (h : Env w) (hb : Below w.heap.size w w') : Env w' := ⟨h.1.on hb, h.2.on hb⟩
set_option maxRecDepth 100000 in
set_option maxHeartbeats 8000000 in
theorem lives_any (w : World) (hE : Env w) : Calls Tryd.prog 8 #[] w (Gives (.bool true) w) := by
  have c1 := fun w => of_any 5 1125899906842624 w
  rw [show ofL 5 1125899906842624 = 5 by decide +kernel, show ofH 5 1125899906842624 = 1099511627776 by decide +kernel] at c1
  have c2 := fun w ht hx => parse_itv ⟨#[91, 45, 105, 110, 102, 44, 32, 51, 93]⟩ (by decide) w ht hx
  rw [show (⟨#[91, 45, 105, 110, 102, 44, 32, 51, 93]⟩ : ByteArray).data.toList = [91, 45, 105, 110, 102, 44, 32, 51, 93] by rfl, show pIL [91, 45, 105, 110, 102, 44, 32, 51, 93] = -1099511627776 by decide +kernel, show pIH [91, 45, 105, 110, 102, 44, 32, 51, 93] = 3 by decide +kernel, show pIE [91, 45, 105, 110, 102, 44, 32, 51, 93] = 0 by decide +kernel] at c2
  have c3 := fun w ht hx => parse_itv ⟨#[91, 51, 44, 32, 45, 105, 110, 102, 93]⟩ (by decide) w ht hx
  rw [show (⟨#[91, 51, 44, 32, 45, 105, 110, 102, 93]⟩ : ByteArray).data.toList = [91, 51, 44, 32, 45, 105, 110, 102, 93] by rfl, show pIL [91, 51, 44, 32, 45, 105, 110, 102, 93] = 0 by decide +kernel, show pIH [91, 51, 44, 32, 45, 105, 110, 102, 93] = 0 by decide +kernel, show pIE [91, 51, 44, 32, 45, 105, 110, 102, 93] = 70 by decide +kernel] at c3
  have c4 := fun w => move_any 5 1099511627776 2 w
  rw [show mvL (ofL 5 1099511627776) (ofH 5 1099511627776) 2 = 7 by decide +kernel, show mvH (ofL 5 1099511627776) (ofH 5 1099511627776) 2 = 1099511627776 by decide +kernel] at c4
  have c5 := fun w ht => show_itv 7 1099511627776 w ht
  rw [show strB (showI (ofL 7 1099511627776) (ofH 7 1099511627776)) = ⟨#[91, 55, 44, 32, 105, 110, 102, 93]⟩ by decide +kernel] at c5
  have c6 := fun w => of_any 0 3 w
  rw [show ofL 0 3 = 0 by decide +kernel, show ofH 0 3 = 3 by decide +kernel] at c6
  have c7 := fun w => of_any 0 4 w
  rw [show ofL 0 4 = 0 by decide +kernel, show ofH 0 4 = 4 by decide +kernel] at c7
  have c8 := fun w => widen_any 0 3 0 4 w
  rw [show wdL (ofL 0 3) (ofH 0 3) (ofL 0 4) (ofH 0 4) = 0 by decide +kernel, show wdH (ofL 0 3) (ofH 0 3) (ofL 0 4) (ofH 0 4) = 1099511627776 by decide +kernel] at c8
  have c9 := fun w => none_any w
  have c10 := fun w => of_any 2 4 w
  rw [show ofL 2 4 = 2 by decide +kernel, show ofH 2 4 = 4 by decide +kernel] at c10
  have c11 := fun w => size_itv 2 4 w
  rw [show ofH 2 4 - ofL 2 4 + 1 = 3 by decide +kernel] at c11
  have c12 := fun w => has_any 5 1099511627776 5 w
  rw [show (isV 5 && decide ((5 : Int) ≤ 5) && decide ((5 : Int) ≤ 1099511627776)) = true by decide +kernel] at c12
  have c13 := fun w => all_any w
  have c14 := fun w => leq_any 5 1099511627776 (-1099511627776) 1099511627776 w
  rw [show (ofL (max 5 (-1099511627776)) (min 1099511627776 1099511627776) == ofL 5 1099511627776 && ofH (max 5 (-1099511627776)) (min 1099511627776 1099511627776) == ofH 5 1099511627776) = true by decide +kernel] at c14
  have c15 := fun w => meet_any 5 1099511627776 (-1099511627776) 3 w
  rw [show ofL (max 5 (-1099511627776)) (min 1099511627776 3) = 1 by decide +kernel, show ofH (max 5 (-1099511627776)) (min 1099511627776 3) = 0 by decide +kernel] at c15
  have c17 := fun w => same_any 1 0 1 0 w
  rw [show (ofL 1 0 == ofL 1 0 && ofH 1 0 == ofH 1 0) = true by decide +kernel] at c17
  have c18 := fun w => join_any 5 1099511627776 (-1099511627776) 3 w
  rw [show jnL (ofL 5 1099511627776) (ofH 5 1099511627776) (ofL (-1099511627776) 3) (ofH (-1099511627776) 3) = -1099511627776 by decide +kernel, show jnH (ofL 5 1099511627776) (ofH 5 1099511627776) (ofL (-1099511627776) 3) (ofH (-1099511627776) 3) = 1099511627776 by decide +kernel] at c18
  have c20 := fun w => of_any 1 2 w
  rw [show ofL 1 2 = 1 by decide +kernel, show ofH 1 2 = 2 by decide +kernel] at c20
  have c21 := fun w => neg_itv 1 2 w
  rw [show ngL (ofL 1 2) (ofH 1 2) = -2 by decide +kernel, show ngH (ofL 1 2) (ofH 1 2) = -1 by decide +kernel] at c21
  have c23 := fun w => of_any 3 5 w
  rw [show ofL 3 5 = 3 by decide +kernel, show ofH 3 5 = 5 by decide +kernel] at c23
  have c24 := fun w => plus_any 1 2 3 5 w
  rw [show psL (ofL 1 2) (ofH 1 2) (ofL 3 5) (ofH 3 5) = 4 by decide +kernel, show psH (ofL 1 2) (ofH 1 2) (ofL 3 5) (ofH 3 5) = 7 by decide +kernel] at c24
  have c25 := fun w => is_itv 5 1099511627776 w
  rw [show ((5 : Int) == ofL 5 1099511627776 && (1099511627776 : Int) == ofH 5 1099511627776) = true by decide +kernel] at c25
  have c26 := fun w => is_itv 3 0 w
  rw [show ((3 : Int) == ofL 3 0 && (0 : Int) == ofH 3 0) = false by decide +kernel] at c26
  have c1' := Lib.hid c1
  have c2' := Lib.hid c2
  have c3' := Lib.hid c3
  have c4' := Lib.hid c4
  have c5' := Lib.hid c5
  have c6' := Lib.hid c6
  have c7' := Lib.hid c7
  have c8' := Lib.hid c8
  have c9' := Lib.hid c9
  have c10' := Lib.hid c10
  have c11' := Lib.hid c11
  have c12' := Lib.hid c12
  have c13' := Lib.hid c13
  have c14' := Lib.hid c14
  have c15' := Lib.hid c15
  have c17' := Lib.hid c17
  have c18' := Lib.hid c18
  have c20' := Lib.hid c20
  have c21' := Lib.hid c21
  have c23' := Lib.hid c23
  have c24' := Lib.hid c24
  have c25' := Lib.hid c25
  have c26' := Lib.hid c26
  clear c1 c2 c3 c4 c5 c6 c7 c8 c9 c10 c11 c12 c13 c14 c15 c17 c18 c20 c21 c23 c24 c25 c26
  have hb := Below.refl w.heap.size w
  go_enter Tryd.func8, Tryd.ntmps8
  go_wp2_with fail
  refine (c1'.out _).mono ?_
  rintro e v1 ⟨rfl, h⟩
  have hb := on2 hb h
  have kx := Held.new v1 5 1099511627776
  have bx : v1.heap.size < (v1.alloc (.cells #[.int .i64 (5), .int .i64 (1099511627776)] 23)).heap.size := by simp
  have hb := hb.alloc hb.size (.cells #[.int .i64 (5), .int .i64 (1099511627776)] 23)
  clear h
  go_wp2_with fail
  refine (c2'.out _ (hE.on hb).1 (hE.on hb).2).mono ?_
  rintro e v2 ⟨rfl, h⟩
  generalize hgx : v1.heap.size = gx at kx bx ⊢
  have hb := on2 hb h
  have kx := kx.on h bx
  have bx := Nat.lt_of_lt_of_le bx h.size
  have ky := Held.new v2 (-1099511627776) 3
  have kx := kx.alloc bx (.cells #[.int .i64 (-1099511627776), .int .i64 (3)] 23)
  have by' : v2.heap.size < (v2.alloc (.cells #[.int .i64 (-1099511627776), .int .i64 (3)] 23)).heap.size := by simp
  have bx : gx < (v2.alloc (.cells #[.int .i64 (-1099511627776), .int .i64 (3)] 23)).heap.size := by simp; omega
  have hb := hb.alloc hb.size (.cells #[.int .i64 (-1099511627776), .int .i64 (3)] 23)
  clear h
  go_wp2_with fail
  refine (c3'.out _ (hE.on hb).1 (hE.on hb).2).mono ?_
  rintro e v3 ⟨rfl, h⟩
  generalize hgy : v2.heap.size = gy at ky by' ⊢
  have hb := on2 hb h
  have kx := kx.on h bx
  have ky := ky.on h by'
  have bx := Nat.lt_of_lt_of_le bx h.size
  have by' := Nat.lt_of_lt_of_le by' h.size
  have kx := kx.alloc bx (.cells #[.int .i64 (0), .int .i64 (0)] 23)
  have ky := ky.alloc by' (.cells #[.int .i64 (0), .int .i64 (0)] 23)
  have bx : gx < (v3.alloc (.cells #[.int .i64 (0), .int .i64 (0)] 23)).heap.size := by simp; omega
  have by' : gy < (v3.alloc (.cells #[.int .i64 (0), .int .i64 (0)] 23)).heap.size := by simp; omega
  have hb := hb.alloc hb.size (.cells #[.int .i64 (0), .int .i64 (0)] 23)
  have x0 := kx.c0
  have x1 := kx.c1
  have y0 := ky.c0
  have y1 := ky.c1
  clear h
  have hE3 := hE.on hb
  have hx0 : ∀ W, Below (v3.alloc (.cells #[.int .i64 0, .int .i64 0] 23)).heap.size (v3.alloc (.cells #[.int .i64 0, .int .i64 0] 23)) W → W.cell? ⟨gx, 0, none⟩ = some (.int .i64 5) := fun W hW => (kx.on hW bx).c0
  have hx1 : ∀ W, Below (v3.alloc (.cells #[.int .i64 0, .int .i64 0] 23)).heap.size (v3.alloc (.cells #[.int .i64 0, .int .i64 0] 23)) W → W.cell? ⟨gx, 1, none⟩ = some (.int .i64 1099511627776) := fun W hW => (kx.on hW bx).c1
  have hy0 : ∀ W, Below (v3.alloc (.cells #[.int .i64 0, .int .i64 0] 23)).heap.size (v3.alloc (.cells #[.int .i64 0, .int .i64 0] 23)) W → W.cell? ⟨gy, 0, none⟩ = some (.int .i64 (-1099511627776)) := fun W hW => (ky.on hW by').c0
  have hy1 : ∀ W, Below (v3.alloc (.cells #[.int .i64 0, .int .i64 0] 23)).heap.size (v3.alloc (.cells #[.int .i64 0, .int .i64 0] 23)) W → W.cell? ⟨gy, 1, none⟩ = some (.int .i64 3) := fun W hW => (ky.on hW by').c1
  clear x0 x1 y0 y1 kx ky bx by'
  go_wp2
  generalize v3.alloc (.cells #[.int .i64 0, .int .i64 0] 23) = u0 at *
  have hF0 := hE3
  refine wp_drawn (by kernel_rfl) (fun hHeld => ?_)
  refine wpAnyH_take (i := 0) (oi := { dst := some 15, op := Go.Op.load 23 (Go.Operand.tmp 1), type := 23, pos := "law.go:16", after := #[], guard := none }) (v := ?v1) rfl (by kernel_rfl) (by kernel_rfl) (by kernel_rfl) (fun _ _ _ h => h) (Or.inl ⟨by kernel_rfl, ?h1⟩) (by assumption) ?r1
  case h1 => (intro w hSw; (try dsimp only at hSw); go_simp; try with_reducible rfl)
  try simp only [Act.put, List.setIfInBounds_toArray, List.set_cons_zero, List.set_cons_succ]
  refine wpAnyH_take (i := 1) (oi := { dst := some 16, op := Go.Op.build 23 #[(0, Go.Operand.const (Go.Value.int Go.IntKind.i64 5)), (1, Go.Operand.const (Go.Value.int Go.IntKind.i64 1099511627776))], type := 23, pos := "law.go:16", after := #[], guard := none }) (v := ?v2) rfl (by kernel_rfl) (by kernel_rfl) (by kernel_rfl) (fun _ _ _ h => h) (Or.inl ⟨by kernel_rfl, ?h2⟩) (by assumption) ?r2
  case h2 => (intro w hSw; (try dsimp only at hSw); go_simp; try with_reducible rfl)
  try simp only [Act.put, List.setIfInBounds_toArray, List.set_cons_zero, List.set_cons_succ]
  refine wpAnyH_take (i := 2) (oi := { dst := some 17, op := Go.Op.binOp Go.BinOp.eql 23 (Go.Operand.tmp 15) (Go.Operand.tmp 16) 23, type := 4, pos := "law.go:16", after := #[{ on := 0, ground := Go.Ground.data }, { on := 1, ground := Go.Ground.data }], guard := none }) (v := ?v3) rfl (by kernel_rfl) (by kernel_rfl) (by kernel_rfl) (fun _ _ _ h => h) (Or.inl ⟨by kernel_rfl, ?h3⟩) (by assumption) ?r3
  case h3 => (intro w hSw; (try dsimp only at hSw); go_simp; try with_reducible rfl)
  try simp only [Act.put, List.setIfInBounds_toArray, List.set_cons_zero, List.set_cons_succ]
  refine wpAnyH_take (i := 3) (oi := { dst := some 18, op := Go.Op.move (Go.Operand.tmp 17), type := 4, pos := "law.go:16", after := #[{ on := 2, ground := Go.Ground.data }], guard := none }) (v := ?v4) rfl (by kernel_rfl) (by kernel_rfl) (by kernel_rfl) (fun _ _ _ h => h) (Or.inl ⟨by kernel_rfl, ?h4⟩) (by assumption) ?r4
  case h4 => (intro w hSw; (try dsimp only at hSw); go_simp; try with_reducible rfl)
  try simp only [Act.put, List.setIfInBounds_toArray, List.set_cons_zero, List.set_cons_succ]
  refine wpAnyH_take (i := 4) (oi := { dst := some 19, op := Go.Op.load 23 (Go.Operand.tmp 1), type := 23, pos := "law.go:16", after := #[{ on := 3, ground := Go.Ground.guard }], guard := some (3, true) }) (v := ?v5) rfl (by kernel_rfl) (by kernel_rfl) (by kernel_rfl) (fun _ _ _ h => h) (Or.inl ⟨by kernel_rfl, ?h5⟩) (by assumption) ?r5
  case h5 => (intro w hSw; (try dsimp only at hSw); go_simp; try with_reducible rfl)
  try simp only [Act.put, List.setIfInBounds_toArray, List.set_cons_zero, List.set_cons_succ]
  refine wpAnyH_ready (rs := [5]) (by kernel_rfl) (by simp) ?_
  refine AllReadyH.cons (o := { dst := some 20, op := Go.Op.call { callee := Go.Callee.value (Go.Operand.func 23), args := #[Go.Operand.tmp 19, Go.Operand.const (Go.Value.int Go.IntKind.i64 2)], argTypes := #[23, 3] }, type := 23, pos := "law.go:16", after := #[{ on := 4, ground := Go.Ground.data }, { on := 3, ground := Go.Ground.chain }, { on := 3, ground := Go.Ground.guard }], guard := some (3, true) }) rfl (fun K hK => ?_) AllReadyH.nil
  go_simp
  refine (c4'.out _).mono ?_
  rintro e u1 ⟨rfl, h1⟩
  have hw1 : Below u0.heap.size u0 u1 := hHeld.trans (h1.mono (Nat.le_refl _))
  have hF1 := hF0.on hw1
  go_simp
  refine hK.out _ _ (hw1) (fun hHeld => ?_)
  clear hK K
  try simp only [Act.put, List.setIfInBounds_toArray, List.set_cons_zero, List.set_cons_succ]
  refine wpAnyH_now hHeld (fun hHeld => ?_)
  replace hx0 := rebase hx0 (hw1)
  replace hx1 := rebase hx1 (hw1)
  replace hy0 := rebase hy0 (hw1)
  replace hy1 := rebase hy1 (hw1)
  refine wpAnyH_ready (rs := [6]) (by kernel_rfl) (by simp) ?_
  refine AllReadyH.cons (o := { dst := some 21, op := Go.Op.call { callee := Go.Callee.value (Go.Operand.func 34), args := #[Go.Operand.tmp 20], argTypes := #[23] }, type := 9, pos := "law.go:16", after := #[{ on := 5, ground := Go.Ground.data }, { on := 5, ground := Go.Ground.chain }, { on := 3, ground := Go.Ground.guard }], guard := some (3, true) }) rfl (fun K hK => ?_) AllReadyH.nil
  go_simp
  refine (c5'.out _ (hF1.on hHeld).1).mono ?_
  rintro e u2 ⟨rfl, h2⟩
  have hw2 : Below u1.heap.size u1 u2 := hHeld.trans (h2.mono (Nat.le_refl _))
  go_simp
  refine hK.out _ _ (hw2) (fun hHeld => ?_)
  clear hK K
  try simp only [Act.put, List.setIfInBounds_toArray, List.set_cons_zero, List.set_cons_succ]
  refine wpAnyH_now hHeld (fun hHeld => ?_)
  replace hx0 := rebase hx0 (hw2)
  replace hx1 := rebase hx1 (hw2)
  replace hy0 := rebase hy0 (hw2)
  replace hy1 := rebase hy1 (hw2)
  refine wpAnyH_take (i := 7) (oi := { dst := some 22, op := Go.Op.binOp Go.BinOp.eql 9 (Go.Operand.tmp 21) (Go.Operand.const (Go.Value.string { data := #[91, 55, 44, 32, 105, 110, 102, 93] })) 9, type := 4, pos := "law.go:16", after := #[{ on := 6, ground := Go.Ground.data }, { on := 3, ground := Go.Ground.guard }], guard := some (3, true) }) (v := ?v6) rfl (by kernel_rfl) (by kernel_rfl) (by kernel_rfl) (fun _ _ _ h => h) (Or.inl ⟨by kernel_rfl, ?h6⟩) (by assumption) ?r6
  case h6 => (intro w hSw; (try dsimp only at hSw); go_simp; try with_reducible rfl)
  try simp only [Act.put, List.setIfInBounds_toArray, List.set_cons_zero, List.set_cons_succ]
  refine wpAnyH_take (i := 8) (oi := { dst := some 23, op := Go.Op.pick (Go.Operand.tmp 18) (Go.Operand.tmp 22) (Go.Operand.const (Go.Value.bool false)), type := 4, pos := "law.go:16", after := #[{ on := 3, ground := Go.Ground.data }, { on := 7, ground := Go.Ground.data }], guard := none }) (v := ?v7) rfl (by kernel_rfl) (by kernel_rfl) (by kernel_rfl) (fun _ _ _ h => h) (Or.inl ⟨by kernel_rfl, ?h7⟩) (by assumption) ?r7
  case h7 => (intro w hSw; (try dsimp only at hSw); go_simp; try with_reducible rfl)
  try simp only [Act.put, List.setIfInBounds_toArray, List.set_cons_zero, List.set_cons_succ]
  refine wpAnyH_take (i := 9) (oi := { dst := some 24, op := Go.Op.move (Go.Operand.tmp 23), type := 4, pos := "law.go:16", after := #[{ on := 8, ground := Go.Ground.data }, { on := 6, ground := Go.Ground.chain }], guard := none }) (v := ?v8) rfl (by kernel_rfl) (by kernel_rfl) (by kernel_rfl) (fun _ _ _ h => h) (Or.inl ⟨by kernel_rfl, ?h8⟩) (by assumption) ?r8
  case h8 => (intro w hSw; (try dsimp only at hSw); go_simp; try with_reducible rfl)
  try simp only [Act.put, List.setIfInBounds_toArray, List.set_cons_zero, List.set_cons_succ]
  refine wpAnyH_take (i := 13) (oi := { dst := some 28, op := Go.Op.build 23 #[(1, Go.Operand.const (Go.Value.int Go.IntKind.i64 1099511627776))], type := 23, pos := "law.go:16", after := #[{ on := 9, ground := Go.Ground.guard }], guard := some (9, true) }) (v := ?v9) rfl (by kernel_rfl) (by kernel_rfl) (by kernel_rfl) (fun _ _ _ h => h) (Or.inl ⟨by kernel_rfl, ?h9⟩) (by assumption) ?r9
  case h9 => (intro w hSw; (try dsimp only at hSw); go_simp; try with_reducible rfl)
  try simp only [Act.put, List.setIfInBounds_toArray, List.set_cons_zero, List.set_cons_succ]
  refine wpAnyH_ready (rs := [10]) (by kernel_rfl) (by simp) ?_
  refine AllReadyH.cons (o := { dst := some 25, op := Go.Op.call { callee := Go.Callee.value (Go.Operand.func 9), args := #[Go.Operand.const (Go.Value.int Go.IntKind.i64 0), Go.Operand.const (Go.Value.int Go.IntKind.i64 3)], argTypes := #[3, 3] }, type := 23, pos := "law.go:16", after := #[{ on := 9, ground := Go.Ground.chain }, { on := 9, ground := Go.Ground.guard }], guard := some (9, true) }) rfl (fun K hK => ?_) AllReadyH.nil
  go_simp
  refine (c6'.out _).mono ?_
  rintro e u3 ⟨rfl, h3⟩
  have hw3 : Below u2.heap.size u2 u3 := hHeld.trans (h3.mono (Nat.le_refl _))
  go_simp
  refine hK.out _ _ (hw3) (fun hHeld => ?_)
  clear hK K
  try simp only [Act.put, List.setIfInBounds_toArray, List.set_cons_zero, List.set_cons_succ]
  refine wpAnyH_now hHeld (fun hHeld => ?_)
  replace hx0 := rebase hx0 (hw3)
  replace hx1 := rebase hx1 (hw3)
  replace hy0 := rebase hy0 (hw3)
  replace hy1 := rebase hy1 (hw3)
  refine wpAnyH_ready (rs := [11]) (by kernel_rfl) (by simp) ?_
  refine AllReadyH.cons (o := { dst := some 26, op := Go.Op.call { callee := Go.Callee.value (Go.Operand.func 9), args := #[Go.Operand.const (Go.Value.int Go.IntKind.i64 0), Go.Operand.const (Go.Value.int Go.IntKind.i64 4)], argTypes := #[3, 3] }, type := 23, pos := "law.go:16", after := #[{ on := 10, ground := Go.Ground.chain }, { on := 9, ground := Go.Ground.guard }], guard := some (9, true) }) rfl (fun K hK => ?_) AllReadyH.nil
  go_simp
  refine (c7'.out _).mono ?_
  rintro e u4 ⟨rfl, h4⟩
  have hw4 : Below u3.heap.size u3 u4 := hHeld.trans (h4.mono (Nat.le_refl _))
  go_simp
  refine hK.out _ _ (hw4) (fun hHeld => ?_)
  clear hK K
  try simp only [Act.put, List.setIfInBounds_toArray, List.set_cons_zero, List.set_cons_succ]
  refine wpAnyH_now hHeld (fun hHeld => ?_)
  replace hx0 := rebase hx0 (hw4)
  replace hx1 := rebase hx1 (hw4)
  replace hy0 := rebase hy0 (hw4)
  replace hy1 := rebase hy1 (hw4)
  refine wpAnyH_ready (rs := [12]) (by kernel_rfl) (by simp) ?_
  refine AllReadyH.cons (o := { dst := some 27, op := Go.Op.call { callee := Go.Callee.value (Go.Operand.func 29), args := #[Go.Operand.tmp 25, Go.Operand.tmp 26], argTypes := #[23, 23] }, type := 23, pos := "law.go:16", after := #[{ on := 10, ground := Go.Ground.data }, { on := 11, ground := Go.Ground.data }, { on := 11, ground := Go.Ground.chain }, { on := 9, ground := Go.Ground.guard }], guard := some (9, true) }) rfl (fun K hK => ?_) AllReadyH.nil
  go_simp
  refine (c8'.out _).mono ?_
  rintro e u5 ⟨rfl, h5⟩
  have hw5 : Below u4.heap.size u4 u5 := hHeld.trans (h5.mono (Nat.le_refl _))
  go_simp
  refine hK.out _ _ (hw5) (fun hHeld => ?_)
  clear hK K
  try simp only [Act.put, List.setIfInBounds_toArray, List.set_cons_zero, List.set_cons_succ]
  refine wpAnyH_now hHeld (fun hHeld => ?_)
  replace hx0 := rebase hx0 (hw5)
  replace hx1 := rebase hx1 (hw5)
  replace hy0 := rebase hy0 (hw5)
  replace hy1 := rebase hy1 (hw5)
  refine wpAnyH_take (i := 14) (oi := { dst := some 29, op := Go.Op.binOp Go.BinOp.eql 23 (Go.Operand.tmp 27) (Go.Operand.tmp 28) 23, type := 4, pos := "law.go:16", after := #[{ on := 12, ground := Go.Ground.data }, { on := 13, ground := Go.Ground.data }, { on := 9, ground := Go.Ground.guard }], guard := some (9, true) }) (v := ?v10) rfl (by kernel_rfl) (by kernel_rfl) (by kernel_rfl) (fun _ _ _ h => h) (Or.inl ⟨by kernel_rfl, ?h10⟩) (by assumption) ?r10
  case h10 => (intro w hSw; (try dsimp only at hSw); go_simp; try with_reducible rfl)
  try simp only [Act.put, List.setIfInBounds_toArray, List.set_cons_zero, List.set_cons_succ]
  refine wpAnyH_take (i := 15) (oi := { dst := some 30, op := Go.Op.pick (Go.Operand.tmp 24) (Go.Operand.tmp 29) (Go.Operand.const (Go.Value.bool false)), type := 4, pos := "law.go:16", after := #[{ on := 9, ground := Go.Ground.data }, { on := 14, ground := Go.Ground.data }], guard := none }) (v := ?v11) rfl (by kernel_rfl) (by kernel_rfl) (by kernel_rfl) (fun _ _ _ h => h) (Or.inl ⟨by kernel_rfl, ?h11⟩) (by assumption) ?r11
  case h11 => (intro w hSw; (try dsimp only at hSw); go_simp; try with_reducible rfl)
  try simp only [Act.put, List.setIfInBounds_toArray, List.set_cons_zero, List.set_cons_succ]
  refine wpAnyH_take (i := 16) (oi := { dst := some 31, op := Go.Op.move (Go.Operand.tmp 30), type := 4, pos := "law.go:16", after := #[{ on := 15, ground := Go.Ground.data }, { on := 12, ground := Go.Ground.chain }], guard := none }) (v := ?v12) rfl (by kernel_rfl) (by kernel_rfl) (by kernel_rfl) (fun _ _ _ h => h) (Or.inl ⟨by kernel_rfl, ?h12⟩) (by assumption) ?r12
  case h12 => (intro w hSw; (try dsimp only at hSw); go_simp; try with_reducible rfl)
  try simp only [Act.put, List.setIfInBounds_toArray, List.set_cons_zero, List.set_cons_succ]
  refine wpAnyH_take (i := 17) (oi := { dst := some 32, op := Go.Op.move (Go.Operand.tmp 3), type := 41, pos := "law.go:16", after := #[{ on := 16, ground := Go.Ground.guard }], guard := some (16, true) }) (v := ?v13) rfl (by kernel_rfl) (by kernel_rfl) (by kernel_rfl) (fun _ _ _ h => h) (Or.inl ⟨by kernel_rfl, ?h13⟩) (by assumption) ?r13
  case h13 => (intro w hSw; (try dsimp only at hSw); go_simp; try with_reducible rfl)
  try simp only [Act.put, List.setIfInBounds_toArray, List.set_cons_zero, List.set_cons_succ]
  refine wpAnyH_take (i := 18) (oi := { dst := some 33, op := Go.Op.binOp Go.BinOp.eql 41 (Go.Operand.tmp 32) (Go.Operand.const (Go.Value.int Go.IntKind.i64 0)) 41, type := 4, pos := "law.go:16", after := #[{ on := 17, ground := Go.Ground.data }, { on := 16, ground := Go.Ground.guard }], guard := some (16, true) }) (v := ?v14) rfl (by kernel_rfl) (by kernel_rfl) (by kernel_rfl) (fun _ _ _ h => h) (Or.inl ⟨by kernel_rfl, ?h14⟩) (by assumption) ?r14
  case h14 => (intro w hSw; (try dsimp only at hSw); go_simp; try with_reducible rfl)
  try simp only [Act.put, List.setIfInBounds_toArray, List.set_cons_zero, List.set_cons_succ]
  refine wpAnyH_take (i := 19) (oi := { dst := some 34, op := Go.Op.pick (Go.Operand.tmp 31) (Go.Operand.tmp 33) (Go.Operand.const (Go.Value.bool false)), type := 4, pos := "law.go:16", after := #[{ on := 16, ground := Go.Ground.data }, { on := 18, ground := Go.Ground.data }], guard := none }) (v := ?v15) rfl (by kernel_rfl) (by kernel_rfl) (by kernel_rfl) (fun _ _ _ h => h) (Or.inl ⟨by kernel_rfl, ?h15⟩) (by assumption) ?r15
  case h15 => (intro w hSw; (try dsimp only at hSw); go_simp; try with_reducible rfl)
  try simp only [Act.put, List.setIfInBounds_toArray, List.set_cons_zero, List.set_cons_succ]
  refine wpAnyH_take (i := 20) (oi := { dst := some 35, op := Go.Op.move (Go.Operand.tmp 34), type := 4, pos := "law.go:16", after := #[{ on := 19, ground := Go.Ground.data }, { on := 16, ground := Go.Ground.chain }], guard := none }) (v := ?v16) rfl (by kernel_rfl) (by kernel_rfl) (by kernel_rfl) (fun _ _ _ h => h) (Or.inl ⟨by kernel_rfl, ?h16⟩) (by assumption) ?r16
  case h16 => (intro w hSw; (try dsimp only at hSw); go_simp; try with_reducible rfl)
  try simp only [Act.put, List.setIfInBounds_toArray, List.set_cons_zero, List.set_cons_succ]
  refine wpAnyH_take (i := 21) (oi := { dst := some 36, op := Go.Op.load 23 (Go.Operand.tmp 2), type := 23, pos := "law.go:16", after := #[{ on := 20, ground := Go.Ground.guard }], guard := some (20, true) }) (v := ?v17) rfl (by kernel_rfl) (by kernel_rfl) (by kernel_rfl) (fun _ _ _ h => h) (Or.inl ⟨by kernel_rfl, ?h17⟩) (by assumption) ?r17
  case h17 => (intro w hSw; (try dsimp only at hSw); go_simp; try with_reducible rfl)
  try simp only [Act.put, List.setIfInBounds_toArray, List.set_cons_zero, List.set_cons_succ]
  refine wpAnyH_take (i := 22) (oi := { dst := some 37, op := Go.Op.build 23 #[(0, Go.Operand.const (Go.Value.int Go.IntKind.i64 (-1099511627776))), (1, Go.Operand.const (Go.Value.int Go.IntKind.i64 3))], type := 23, pos := "law.go:16", after := #[{ on := 20, ground := Go.Ground.guard }], guard := some (20, true) }) (v := ?v18) rfl (by kernel_rfl) (by kernel_rfl) (by kernel_rfl) (fun _ _ _ h => h) (Or.inl ⟨by kernel_rfl, ?h18⟩) (by assumption) ?r18
  case h18 => (intro w hSw; (try dsimp only at hSw); go_simp; try with_reducible rfl)
  try simp only [Act.put, List.setIfInBounds_toArray, List.set_cons_zero, List.set_cons_succ]
  refine wpAnyH_take (i := 23) (oi := { dst := some 38, op := Go.Op.binOp Go.BinOp.eql 23 (Go.Operand.tmp 36) (Go.Operand.tmp 37) 23, type := 4, pos := "law.go:16", after := #[{ on := 21, ground := Go.Ground.data }, { on := 22, ground := Go.Ground.data }, { on := 20, ground := Go.Ground.guard }], guard := some (20, true) }) (v := ?v19) rfl (by kernel_rfl) (by kernel_rfl) (by kernel_rfl) (fun _ _ _ h => h) (Or.inl ⟨by kernel_rfl, ?h19⟩) (by assumption) ?r19
  case h19 => (intro w hSw; (try dsimp only at hSw); go_simp; try with_reducible rfl)
  try simp only [Act.put, List.setIfInBounds_toArray, List.set_cons_zero, List.set_cons_succ]
  refine wpAnyH_take (i := 24) (oi := { dst := some 39, op := Go.Op.pick (Go.Operand.tmp 35) (Go.Operand.tmp 38) (Go.Operand.const (Go.Value.bool false)), type := 4, pos := "law.go:16", after := #[{ on := 20, ground := Go.Ground.data }, { on := 23, ground := Go.Ground.data }], guard := none }) (v := ?v20) rfl (by kernel_rfl) (by kernel_rfl) (by kernel_rfl) (fun _ _ _ h => h) (Or.inl ⟨by kernel_rfl, ?h20⟩) (by assumption) ?r20
  case h20 => (intro w hSw; (try dsimp only at hSw); go_simp; try with_reducible rfl)
  try simp only [Act.put, List.setIfInBounds_toArray, List.set_cons_zero, List.set_cons_succ]
  refine wpAnyH_take (i := 25) (oi := { dst := some 40, op := Go.Op.move (Go.Operand.tmp 39), type := 4, pos := "law.go:16", after := #[{ on := 24, ground := Go.Ground.data }, { on := 20, ground := Go.Ground.chain }], guard := none }) (v := ?v21) rfl (by kernel_rfl) (by kernel_rfl) (by kernel_rfl) (fun _ _ _ h => h) (Or.inl ⟨by kernel_rfl, ?h21⟩) (by assumption) ?r21
  case h21 => (intro w hSw; (try dsimp only at hSw); go_simp; try with_reducible rfl)
  try simp only [Act.put, List.setIfInBounds_toArray, List.set_cons_zero, List.set_cons_succ]
  refine wpAnyH_take (i := 26) (oi := { dst := some 41, op := Go.Op.move (Go.Operand.tmp 5), type := 41, pos := "law.go:16", after := #[{ on := 25, ground := Go.Ground.guard }], guard := some (25, true) }) (v := ?v22) rfl (by kernel_rfl) (by kernel_rfl) (by kernel_rfl) (fun _ _ _ h => h) (Or.inl ⟨by kernel_rfl, ?h22⟩) (by assumption) ?r22
  case h22 => (intro w hSw; (try dsimp only at hSw); go_simp; try with_reducible rfl)
  try simp only [Act.put, List.setIfInBounds_toArray, List.set_cons_zero, List.set_cons_succ]
  refine wpAnyH_take (i := 27) (oi := { dst := some 42, op := Go.Op.binOp Go.BinOp.eql 41 (Go.Operand.tmp 41) (Go.Operand.const (Go.Value.int Go.IntKind.i64 70)) 41, type := 4, pos := "law.go:16", after := #[{ on := 26, ground := Go.Ground.data }, { on := 25, ground := Go.Ground.guard }], guard := some (25, true) }) (v := ?v23) rfl (by kernel_rfl) (by kernel_rfl) (by kernel_rfl) (fun _ _ _ h => h) (Or.inl ⟨by kernel_rfl, ?h23⟩) (by assumption) ?r23
  case h23 => (intro w hSw; (try dsimp only at hSw); go_simp; try with_reducible rfl)
  try simp only [Act.put, List.setIfInBounds_toArray, List.set_cons_zero, List.set_cons_succ]
  refine wpAnyH_take (i := 28) (oi := { dst := some 43, op := Go.Op.pick (Go.Operand.tmp 40) (Go.Operand.tmp 42) (Go.Operand.const (Go.Value.bool false)), type := 4, pos := "law.go:16", after := #[{ on := 25, ground := Go.Ground.data }, { on := 27, ground := Go.Ground.data }], guard := none }) (v := ?v24) rfl (by kernel_rfl) (by kernel_rfl) (by kernel_rfl) (fun _ _ _ h => h) (Or.inl ⟨by kernel_rfl, ?h24⟩) (by assumption) ?r24
  case h24 => (intro w hSw; (try dsimp only at hSw); go_simp; try with_reducible rfl)
  try simp only [Act.put, List.setIfInBounds_toArray, List.set_cons_zero, List.set_cons_succ]
  refine wpAnyH_take (i := 29) (oi := { dst := some 44, op := Go.Op.move (Go.Operand.tmp 43), type := 4, pos := "law.go:16", after := #[{ on := 28, ground := Go.Ground.data }, { on := 25, ground := Go.Ground.chain }], guard := none }) (v := ?v25) rfl (by kernel_rfl) (by kernel_rfl) (by kernel_rfl) (fun _ _ _ h => h) (Or.inl ⟨by kernel_rfl, ?h25⟩) (by assumption) ?r25
  case h25 => (intro w hSw; (try dsimp only at hSw); go_simp; try with_reducible rfl)
  try simp only [Act.put, List.setIfInBounds_toArray, List.set_cons_zero, List.set_cons_succ]
  refine wpAnyH_take (i := 31) (oi := { dst := some 46, op := Go.Op.build 23 #[(0, Go.Operand.const (Go.Value.int Go.IntKind.i64 1))], type := 23, pos := "law.go:16", after := #[{ on := 29, ground := Go.Ground.guard }], guard := some (29, true) }) (v := ?v26) rfl (by kernel_rfl) (by kernel_rfl) (by kernel_rfl) (fun _ _ _ h => h) (Or.inl ⟨by kernel_rfl, ?h26⟩) (by assumption) ?r26
  case h26 => (intro w hSw; (try dsimp only at hSw); go_simp; try with_reducible rfl)
  try simp only [Act.put, List.setIfInBounds_toArray, List.set_cons_zero, List.set_cons_succ]
  refine wpAnyH_ready (rs := [30]) (by kernel_rfl) (by simp) ?_
  refine AllReadyH.cons (o := { dst := some 45, op := Go.Op.call { callee := Go.Callee.value (Go.Operand.func 33), args := #[], argTypes := #[] }, type := 23, pos := "law.go:16", after := #[{ on := 29, ground := Go.Ground.chain }, { on := 29, ground := Go.Ground.guard }], guard := some (29, true) }) rfl (fun K hK => ?_) AllReadyH.nil
  go_simp
  refine (c9'.out _).mono ?_
  rintro e u6 ⟨rfl, h6⟩
  have hw6 : Below u5.heap.size u5 u6 := hHeld.trans (h6.mono (Nat.le_refl _))
  go_simp
  refine hK.out _ _ (hw6) (fun hHeld => ?_)
  clear hK K
  try simp only [Act.put, List.setIfInBounds_toArray, List.set_cons_zero, List.set_cons_succ]
  refine wpAnyH_now hHeld (fun hHeld => ?_)
  replace hx0 := rebase hx0 (hw6)
  replace hx1 := rebase hx1 (hw6)
  replace hy0 := rebase hy0 (hw6)
  replace hy1 := rebase hy1 (hw6)
  refine wpAnyH_take (i := 32) (oi := { dst := some 47, op := Go.Op.binOp Go.BinOp.eql 23 (Go.Operand.tmp 45) (Go.Operand.tmp 46) 23, type := 4, pos := "law.go:16", after := #[{ on := 30, ground := Go.Ground.data }, { on := 31, ground := Go.Ground.data }, { on := 29, ground := Go.Ground.guard }], guard := some (29, true) }) (v := ?v27) rfl (by kernel_rfl) (by kernel_rfl) (by kernel_rfl) (fun _ _ _ h => h) (Or.inl ⟨by kernel_rfl, ?h27⟩) (by assumption) ?r27
  case h27 => (intro w hSw; (try dsimp only at hSw); go_simp; try with_reducible rfl)
  try simp only [Act.put, List.setIfInBounds_toArray, List.set_cons_zero, List.set_cons_succ]
  refine wpAnyH_take (i := 33) (oi := { dst := some 48, op := Go.Op.pick (Go.Operand.tmp 44) (Go.Operand.tmp 47) (Go.Operand.const (Go.Value.bool false)), type := 4, pos := "law.go:16", after := #[{ on := 29, ground := Go.Ground.data }, { on := 32, ground := Go.Ground.data }], guard := none }) (v := ?v28) rfl (by kernel_rfl) (by kernel_rfl) (by kernel_rfl) (fun _ _ _ h => h) (Or.inl ⟨by kernel_rfl, ?h28⟩) (by assumption) ?r28
  case h28 => (intro w hSw; (try dsimp only at hSw); go_simp; try with_reducible rfl)
  try simp only [Act.put, List.setIfInBounds_toArray, List.set_cons_zero, List.set_cons_succ]
  refine wpAnyH_take (i := 34) (oi := { dst := some 49, op := Go.Op.move (Go.Operand.tmp 48), type := 4, pos := "law.go:16", after := #[{ on := 33, ground := Go.Ground.data }, { on := 30, ground := Go.Ground.chain }], guard := none }) (v := ?v29) rfl (by kernel_rfl) (by kernel_rfl) (by kernel_rfl) (fun _ _ _ h => h) (Or.inl ⟨by kernel_rfl, ?h29⟩) (by assumption) ?r29
  case h29 => (intro w hSw; (try dsimp only at hSw); go_simp; try with_reducible rfl)
  try simp only [Act.put, List.setIfInBounds_toArray, List.set_cons_zero, List.set_cons_succ]
  refine wpAnyH_ready (rs := [35]) (by kernel_rfl) (by simp) ?_
  refine AllReadyH.cons (o := { dst := some 50, op := Go.Op.call { callee := Go.Callee.value (Go.Operand.func 9), args := #[Go.Operand.const (Go.Value.int Go.IntKind.i64 2), Go.Operand.const (Go.Value.int Go.IntKind.i64 4)], argTypes := #[3, 3] }, type := 23, pos := "law.go:16", after := #[{ on := 34, ground := Go.Ground.chain }, { on := 34, ground := Go.Ground.guard }], guard := some (34, true) }) rfl (fun K hK => ?_) AllReadyH.nil
  go_simp
  refine (c10'.out _).mono ?_
  rintro e u7 ⟨rfl, h7⟩
  have hw7 : Below u6.heap.size u6 u7 := hHeld.trans (h7.mono (Nat.le_refl _))
  go_simp
  refine hK.out _ _ (hw7) (fun hHeld => ?_)
  clear hK K
  try simp only [Act.put, List.setIfInBounds_toArray, List.set_cons_zero, List.set_cons_succ]
  refine wpAnyH_now hHeld (fun hHeld => ?_)
  replace hx0 := rebase hx0 (hw7)
  replace hx1 := rebase hx1 (hw7)
  replace hy0 := rebase hy0 (hw7)
  replace hy1 := rebase hy1 (hw7)
  refine wpAnyH_ready (rs := [36]) (by kernel_rfl) (by simp) ?_
  refine AllReadyH.cons (o := { dst := some 51, op := Go.Op.call { callee := Go.Callee.value (Go.Operand.func 12), args := #[Go.Operand.tmp 50], argTypes := #[23] }, type := 3, pos := "law.go:16", after := #[{ on := 35, ground := Go.Ground.data }, { on := 35, ground := Go.Ground.chain }, { on := 34, ground := Go.Ground.guard }], guard := some (34, true) }) rfl (fun K hK => ?_) AllReadyH.nil
  go_simp
  refine (c11'.out _).mono ?_
  rintro e u8 ⟨rfl, h8⟩
  have hw8 : Below u7.heap.size u7 u8 := hHeld.trans (h8.mono (Nat.le_refl _))
  go_simp
  refine hK.out _ _ (hw8) (fun hHeld => ?_)
  clear hK K
  try simp only [Act.put, List.setIfInBounds_toArray, List.set_cons_zero, List.set_cons_succ]
  refine wpAnyH_now hHeld (fun hHeld => ?_)
  replace hx0 := rebase hx0 (hw8)
  replace hx1 := rebase hx1 (hw8)
  replace hy0 := rebase hy0 (hw8)
  replace hy1 := rebase hy1 (hw8)
  refine wpAnyH_take (i := 37) (oi := { dst := some 52, op := Go.Op.binOp Go.BinOp.eql 3 (Go.Operand.tmp 51) (Go.Operand.const (Go.Value.int Go.IntKind.i64 3)) 3, type := 4, pos := "law.go:16", after := #[{ on := 36, ground := Go.Ground.data }, { on := 34, ground := Go.Ground.guard }], guard := some (34, true) }) (v := ?v30) rfl (by kernel_rfl) (by kernel_rfl) (by kernel_rfl) (fun _ _ _ h => h) (Or.inl ⟨by kernel_rfl, ?h30⟩) (by assumption) ?r30
  case h30 => (intro w hSw; (try dsimp only at hSw); go_simp; try with_reducible rfl)
  try simp only [Act.put, List.setIfInBounds_toArray, List.set_cons_zero, List.set_cons_succ]
  refine wpAnyH_take (i := 38) (oi := { dst := some 53, op := Go.Op.pick (Go.Operand.tmp 49) (Go.Operand.tmp 52) (Go.Operand.const (Go.Value.bool false)), type := 4, pos := "law.go:16", after := #[{ on := 34, ground := Go.Ground.data }, { on := 37, ground := Go.Ground.data }], guard := none }) (v := ?v31) rfl (by kernel_rfl) (by kernel_rfl) (by kernel_rfl) (fun _ _ _ h => h) (Or.inl ⟨by kernel_rfl, ?h31⟩) (by assumption) ?r31
  case h31 => (intro w hSw; (try dsimp only at hSw); go_simp; try with_reducible rfl)
  try simp only [Act.put, List.setIfInBounds_toArray, List.set_cons_zero, List.set_cons_succ]
  refine wpAnyH_take (i := 39) (oi := { dst := some 54, op := Go.Op.move (Go.Operand.tmp 53), type := 4, pos := "law.go:16", after := #[{ on := 38, ground := Go.Ground.data }, { on := 36, ground := Go.Ground.chain }], guard := none }) (v := ?v32) rfl (by kernel_rfl) (by kernel_rfl) (by kernel_rfl) (fun _ _ _ h => h) (Or.inl ⟨by kernel_rfl, ?h32⟩) (by assumption) ?r32
  case h32 => (intro w hSw; (try dsimp only at hSw); go_simp; try with_reducible rfl)
  try simp only [Act.put, List.setIfInBounds_toArray, List.set_cons_zero, List.set_cons_succ]
  refine wpAnyH_take (i := 40) (oi := { dst := some 55, op := Go.Op.load 23 (Go.Operand.tmp 1), type := 23, pos := "law.go:16", after := #[{ on := 39, ground := Go.Ground.guard }], guard := some (39, true) }) (v := ?v33) rfl (by kernel_rfl) (by kernel_rfl) (by kernel_rfl) (fun _ _ _ h => h) (Or.inl ⟨by kernel_rfl, ?h33⟩) (by assumption) ?r33
  case h33 => (intro w hSw; (try dsimp only at hSw); go_simp; try with_reducible rfl)
  try simp only [Act.put, List.setIfInBounds_toArray, List.set_cons_zero, List.set_cons_succ]
  refine wpAnyH_ready (rs := [41]) (by kernel_rfl) (by simp) ?_
  refine AllReadyH.cons (o := { dst := some 56, op := Go.Op.call { callee := Go.Callee.value (Go.Operand.func 14), args := #[Go.Operand.tmp 55, Go.Operand.const (Go.Value.int Go.IntKind.i64 5)], argTypes := #[23, 3] }, type := 4, pos := "law.go:16", after := #[{ on := 40, ground := Go.Ground.data }, { on := 39, ground := Go.Ground.chain }, { on := 39, ground := Go.Ground.guard }], guard := some (39, true) }) rfl (fun K hK => ?_) AllReadyH.nil
  go_simp
  refine (c12'.out _).mono ?_
  rintro e u9 ⟨rfl, h9⟩
  have hw9 : Below u8.heap.size u8 u9 := hHeld.trans (h9.mono (Nat.le_refl _))
  go_simp
  refine hK.out _ _ (hw9) (fun hHeld => ?_)
  clear hK K
  try simp only [Act.put, List.setIfInBounds_toArray, List.set_cons_zero, List.set_cons_succ]
  refine wpAnyH_now hHeld (fun hHeld => ?_)
  replace hx0 := rebase hx0 (hw9)
  replace hx1 := rebase hx1 (hw9)
  replace hy0 := rebase hy0 (hw9)
  replace hy1 := rebase hy1 (hw9)
  refine wpAnyH_take (i := 42) (oi := { dst := some 57, op := Go.Op.pick (Go.Operand.tmp 54) (Go.Operand.tmp 56) (Go.Operand.const (Go.Value.bool false)), type := 4, pos := "law.go:16", after := #[{ on := 39, ground := Go.Ground.data }, { on := 41, ground := Go.Ground.data }], guard := none }) (v := ?v34) rfl (by kernel_rfl) (by kernel_rfl) (by kernel_rfl) (fun _ _ _ h => h) (Or.inl ⟨by kernel_rfl, ?h34⟩) (by assumption) ?r34
  case h34 => (intro w hSw; (try dsimp only at hSw); go_simp; try with_reducible rfl)
  try simp only [Act.put, List.setIfInBounds_toArray, List.set_cons_zero, List.set_cons_succ]
  refine wpAnyH_take (i := 43) (oi := { dst := some 58, op := Go.Op.move (Go.Operand.tmp 57), type := 4, pos := "law.go:16", after := #[{ on := 42, ground := Go.Ground.data }, { on := 41, ground := Go.Ground.chain }], guard := none }) (v := ?v35) rfl (by kernel_rfl) (by kernel_rfl) (by kernel_rfl) (fun _ _ _ h => h) (Or.inl ⟨by kernel_rfl, ?h35⟩) (by assumption) ?r35
  case h35 => (intro w hSw; (try dsimp only at hSw); go_simp; try with_reducible rfl)
  try simp only [Act.put, List.setIfInBounds_toArray, List.set_cons_zero, List.set_cons_succ]
  refine wpAnyH_take (i := 44) (oi := { dst := some 59, op := Go.Op.load 23 (Go.Operand.tmp 1), type := 23, pos := "law.go:16", after := #[{ on := 43, ground := Go.Ground.guard }], guard := some (43, true) }) (v := ?v36) rfl (by kernel_rfl) (by kernel_rfl) (by kernel_rfl) (fun _ _ _ h => h) (Or.inl ⟨by kernel_rfl, ?h36⟩) (by assumption) ?r36
  case h36 => (intro w hSw; (try dsimp only at hSw); go_simp; try with_reducible rfl)
  try simp only [Act.put, List.setIfInBounds_toArray, List.set_cons_zero, List.set_cons_succ]
  refine wpAnyH_ready (rs := [45]) (by kernel_rfl) (by simp) ?_
  refine AllReadyH.cons (o := { dst := some 60, op := Go.Op.call { callee := Go.Callee.value (Go.Operand.func 31), args := #[], argTypes := #[] }, type := 23, pos := "law.go:16", after := #[{ on := 43, ground := Go.Ground.chain }, { on := 43, ground := Go.Ground.guard }], guard := some (43, true) }) rfl (fun K hK => ?_) AllReadyH.nil
  go_simp
  refine (c13'.out _).mono ?_
  rintro e u10 ⟨rfl, h10⟩
  have hw10 : Below u9.heap.size u9 u10 := hHeld.trans (h10.mono (Nat.le_refl _))
  go_simp
  refine hK.out _ _ (hw10) (fun hHeld => ?_)
  clear hK K
  try simp only [Act.put, List.setIfInBounds_toArray, List.set_cons_zero, List.set_cons_succ]
  refine wpAnyH_now hHeld (fun hHeld => ?_)
  replace hx0 := rebase hx0 (hw10)
  replace hx1 := rebase hx1 (hw10)
  replace hy0 := rebase hy0 (hw10)
  replace hy1 := rebase hy1 (hw10)
  refine wpAnyH_ready (rs := [46]) (by kernel_rfl) (by simp) ?_
  refine AllReadyH.cons (o := { dst := some 61, op := Go.Op.call { callee := Go.Callee.value (Go.Operand.func 16), args := #[Go.Operand.tmp 59, Go.Operand.tmp 60], argTypes := #[23, 23] }, type := 4, pos := "law.go:16", after := #[{ on := 44, ground := Go.Ground.data }, { on := 45, ground := Go.Ground.data }, { on := 45, ground := Go.Ground.chain }, { on := 43, ground := Go.Ground.guard }], guard := some (43, true) }) rfl (fun K hK => ?_) AllReadyH.nil
  go_simp
  refine (c14'.out _).mono ?_
  rintro e u11 ⟨rfl, h11⟩
  have hw11 : Below u10.heap.size u10 u11 := hHeld.trans (h11.mono (Nat.le_refl _))
  go_simp
  refine hK.out _ _ (hw11) (fun hHeld => ?_)
  clear hK K
  try simp only [Act.put, List.setIfInBounds_toArray, List.set_cons_zero, List.set_cons_succ]
  refine wpAnyH_now hHeld (fun hHeld => ?_)
  replace hx0 := rebase hx0 (hw11)
  replace hx1 := rebase hx1 (hw11)
  replace hy0 := rebase hy0 (hw11)
  replace hy1 := rebase hy1 (hw11)
  refine wpAnyH_take (i := 47) (oi := { dst := some 62, op := Go.Op.pick (Go.Operand.tmp 58) (Go.Operand.tmp 61) (Go.Operand.const (Go.Value.bool false)), type := 4, pos := "law.go:16", after := #[{ on := 43, ground := Go.Ground.data }, { on := 46, ground := Go.Ground.data }], guard := none }) (v := ?v37) rfl (by kernel_rfl) (by kernel_rfl) (by kernel_rfl) (fun _ _ _ h => h) (Or.inl ⟨by kernel_rfl, ?h37⟩) (by assumption) ?r37
  case h37 => (intro w hSw; (try dsimp only at hSw); go_simp; try with_reducible rfl)
  try simp only [Act.put, List.setIfInBounds_toArray, List.set_cons_zero, List.set_cons_succ]
  refine wpAnyH_take (i := 48) (oi := { dst := some 63, op := Go.Op.move (Go.Operand.tmp 62), type := 4, pos := "law.go:16", after := #[{ on := 47, ground := Go.Ground.data }, { on := 46, ground := Go.Ground.chain }], guard := none }) (v := ?v38) rfl (by kernel_rfl) (by kernel_rfl) (by kernel_rfl) (fun _ _ _ h => h) (Or.inl ⟨by kernel_rfl, ?h38⟩) (by assumption) ?r38
  case h38 => (intro w hSw; (try dsimp only at hSw); go_simp; try with_reducible rfl)
  try simp only [Act.put, List.setIfInBounds_toArray, List.set_cons_zero, List.set_cons_succ]
  refine wpAnyH_take (i := 49) (oi := { dst := some 64, op := Go.Op.load 23 (Go.Operand.tmp 1), type := 23, pos := "law.go:16", after := #[{ on := 48, ground := Go.Ground.guard }], guard := some (48, true) }) (v := ?v39) rfl (by kernel_rfl) (by kernel_rfl) (by kernel_rfl) (fun _ _ _ h => h) (Or.inl ⟨by kernel_rfl, ?h39⟩) (by assumption) ?r39
  case h39 => (intro w hSw; (try dsimp only at hSw); go_simp; try with_reducible rfl)
  try simp only [Act.put, List.setIfInBounds_toArray, List.set_cons_zero, List.set_cons_succ]
  refine wpAnyH_take (i := 50) (oi := { dst := some 65, op := Go.Op.load 23 (Go.Operand.tmp 2), type := 23, pos := "law.go:16", after := #[{ on := 48, ground := Go.Ground.guard }], guard := some (48, true) }) (v := ?v40) rfl (by kernel_rfl) (by kernel_rfl) (by kernel_rfl) (fun _ _ _ h => h) (Or.inl ⟨by kernel_rfl, ?h40⟩) (by assumption) ?r40
  case h40 => (intro w hSw; (try dsimp only at hSw); go_simp; try with_reducible rfl)
  try simp only [Act.put, List.setIfInBounds_toArray, List.set_cons_zero, List.set_cons_succ]
  refine wpAnyH_ready (rs := [51]) (by kernel_rfl) (by simp) ?_
  refine AllReadyH.cons (o := { dst := some 66, op := Go.Op.call { callee := Go.Callee.value (Go.Operand.func 21), args := #[Go.Operand.tmp 64, Go.Operand.tmp 65], argTypes := #[23, 23] }, type := 23, pos := "law.go:16", after := #[{ on := 49, ground := Go.Ground.data }, { on := 50, ground := Go.Ground.data }, { on := 48, ground := Go.Ground.chain }, { on := 48, ground := Go.Ground.guard }], guard := some (48, true) }) rfl (fun K hK => ?_) AllReadyH.nil
  go_simp
  refine (c15'.out _).mono ?_
  rintro e u12 ⟨rfl, h12⟩
  have hw12 : Below u11.heap.size u11 u12 := hHeld.trans (h12.mono (Nat.le_refl _))
  go_simp
  refine hK.out _ _ (hw12) (fun hHeld => ?_)
  clear hK K
  try simp only [Act.put, List.setIfInBounds_toArray, List.set_cons_zero, List.set_cons_succ]
  refine wpAnyH_now hHeld (fun hHeld => ?_)
  replace hx0 := rebase hx0 (hw12)
  replace hx1 := rebase hx1 (hw12)
  replace hy0 := rebase hy0 (hw12)
  replace hy1 := rebase hy1 (hw12)
  refine wpAnyH_ready (rs := [52]) (by kernel_rfl) (by simp) ?_
  refine AllReadyH.cons (o := { dst := some 67, op := Go.Op.call { callee := Go.Callee.value (Go.Operand.func 33), args := #[], argTypes := #[] }, type := 23, pos := "law.go:16", after := #[{ on := 51, ground := Go.Ground.chain }, { on := 48, ground := Go.Ground.guard }], guard := some (48, true) }) rfl (fun K hK => ?_) AllReadyH.nil
  go_simp
  refine (c9'.out _).mono ?_
  rintro e u13 ⟨rfl, h13⟩
  have hw13 : Below u12.heap.size u12 u13 := hHeld.trans (h13.mono (Nat.le_refl _))
  go_simp
  refine hK.out _ _ (hw13) (fun hHeld => ?_)
  clear hK K
  try simp only [Act.put, List.setIfInBounds_toArray, List.set_cons_zero, List.set_cons_succ]
  refine wpAnyH_now hHeld (fun hHeld => ?_)
  replace hx0 := rebase hx0 (hw13)
  replace hx1 := rebase hx1 (hw13)
  replace hy0 := rebase hy0 (hw13)
  replace hy1 := rebase hy1 (hw13)
  refine wpAnyH_ready (rs := [53]) (by kernel_rfl) (by simp) ?_
  refine AllReadyH.cons (o := { dst := some 68, op := Go.Op.call { callee := Go.Callee.value (Go.Operand.func 18), args := #[Go.Operand.tmp 66, Go.Operand.tmp 67], argTypes := #[23, 23] }, type := 4, pos := "law.go:16", after := #[{ on := 51, ground := Go.Ground.data }, { on := 52, ground := Go.Ground.data }, { on := 52, ground := Go.Ground.chain }, { on := 48, ground := Go.Ground.guard }], guard := some (48, true) }) rfl (fun K hK => ?_) AllReadyH.nil
  go_simp
  refine (c17'.out _).mono ?_
  rintro e u14 ⟨rfl, h14⟩
  have hw14 : Below u13.heap.size u13 u14 := hHeld.trans (h14.mono (Nat.le_refl _))
  go_simp
  refine hK.out _ _ (hw14) (fun hHeld => ?_)
  clear hK K
  try simp only [Act.put, List.setIfInBounds_toArray, List.set_cons_zero, List.set_cons_succ]
  refine wpAnyH_now hHeld (fun hHeld => ?_)
  replace hx0 := rebase hx0 (hw14)
  replace hx1 := rebase hx1 (hw14)
  replace hy0 := rebase hy0 (hw14)
  replace hy1 := rebase hy1 (hw14)
  refine wpAnyH_take (i := 54) (oi := { dst := some 69, op := Go.Op.pick (Go.Operand.tmp 63) (Go.Operand.tmp 68) (Go.Operand.const (Go.Value.bool false)), type := 4, pos := "law.go:16", after := #[{ on := 48, ground := Go.Ground.data }, { on := 53, ground := Go.Ground.data }], guard := none }) (v := ?v41) rfl (by kernel_rfl) (by kernel_rfl) (by kernel_rfl) (fun _ _ _ h => h) (Or.inl ⟨by kernel_rfl, ?h41⟩) (by assumption) ?r41
  case h41 => (intro w hSw; (try dsimp only at hSw); go_simp; try with_reducible rfl)
  try simp only [Act.put, List.setIfInBounds_toArray, List.set_cons_zero, List.set_cons_succ]
  refine wpAnyH_take (i := 55) (oi := { dst := some 70, op := Go.Op.move (Go.Operand.tmp 69), type := 4, pos := "law.go:16", after := #[{ on := 54, ground := Go.Ground.data }, { on := 53, ground := Go.Ground.chain }], guard := none }) (v := ?v42) rfl (by kernel_rfl) (by kernel_rfl) (by kernel_rfl) (fun _ _ _ h => h) (Or.inl ⟨by kernel_rfl, ?h42⟩) (by assumption) ?r42
  case h42 => (intro w hSw; (try dsimp only at hSw); go_simp; try with_reducible rfl)
  try simp only [Act.put, List.setIfInBounds_toArray, List.set_cons_zero, List.set_cons_succ]
  refine wpAnyH_take (i := 56) (oi := { dst := some 71, op := Go.Op.load 23 (Go.Operand.tmp 1), type := 23, pos := "law.go:16", after := #[{ on := 55, ground := Go.Ground.guard }], guard := some (55, true) }) (v := ?v43) rfl (by kernel_rfl) (by kernel_rfl) (by kernel_rfl) (fun _ _ _ h => h) (Or.inl ⟨by kernel_rfl, ?h43⟩) (by assumption) ?r43
  case h43 => (intro w hSw; (try dsimp only at hSw); go_simp; try with_reducible rfl)
  try simp only [Act.put, List.setIfInBounds_toArray, List.set_cons_zero, List.set_cons_succ]
  refine wpAnyH_take (i := 57) (oi := { dst := some 72, op := Go.Op.load 23 (Go.Operand.tmp 2), type := 23, pos := "law.go:16", after := #[{ on := 55, ground := Go.Ground.guard }], guard := some (55, true) }) (v := ?v44) rfl (by kernel_rfl) (by kernel_rfl) (by kernel_rfl) (fun _ _ _ h => h) (Or.inl ⟨by kernel_rfl, ?h44⟩) (by assumption) ?r44
  case h44 => (intro w hSw; (try dsimp only at hSw); go_simp; try with_reducible rfl)
  try simp only [Act.put, List.setIfInBounds_toArray, List.set_cons_zero, List.set_cons_succ]
  refine wpAnyH_ready (rs := [58]) (by kernel_rfl) (by simp) ?_
  refine AllReadyH.cons (o := { dst := some 73, op := Go.Op.call { callee := Go.Callee.value (Go.Operand.func 19), args := #[Go.Operand.tmp 71, Go.Operand.tmp 72], argTypes := #[23, 23] }, type := 23, pos := "law.go:16", after := #[{ on := 56, ground := Go.Ground.data }, { on := 57, ground := Go.Ground.data }, { on := 55, ground := Go.Ground.chain }, { on := 55, ground := Go.Ground.guard }], guard := some (55, true) }) rfl (fun K hK => ?_) AllReadyH.nil
  go_simp
  refine (c18'.out _).mono ?_
  rintro e u15 ⟨rfl, h15⟩
  have hw15 : Below u14.heap.size u14 u15 := hHeld.trans (h15.mono (Nat.le_refl _))
  go_simp
  refine hK.out _ _ (hw15) (fun hHeld => ?_)
  clear hK K
  try simp only [Act.put, List.setIfInBounds_toArray, List.set_cons_zero, List.set_cons_succ]
  refine wpAnyH_now hHeld (fun hHeld => ?_)
  replace hx0 := rebase hx0 (hw15)
  replace hx1 := rebase hx1 (hw15)
  replace hy0 := rebase hy0 (hw15)
  replace hy1 := rebase hy1 (hw15)
  refine wpAnyH_ready (rs := [59]) (by kernel_rfl) (by simp) ?_
  refine AllReadyH.cons (o := { dst := some 74, op := Go.Op.call { callee := Go.Callee.value (Go.Operand.func 31), args := #[], argTypes := #[] }, type := 23, pos := "law.go:16", after := #[{ on := 58, ground := Go.Ground.chain }, { on := 55, ground := Go.Ground.guard }], guard := some (55, true) }) rfl (fun K hK => ?_) AllReadyH.nil
  go_simp
  refine (c13'.out _).mono ?_
  rintro e u16 ⟨rfl, h16⟩
  have hw16 : Below u15.heap.size u15 u16 := hHeld.trans (h16.mono (Nat.le_refl _))
  go_simp
  refine hK.out _ _ (hw16) (fun hHeld => ?_)
  clear hK K
  try simp only [Act.put, List.setIfInBounds_toArray, List.set_cons_zero, List.set_cons_succ]
  refine wpAnyH_now hHeld (fun hHeld => ?_)
  replace hx0 := rebase hx0 (hw16)
  replace hx1 := rebase hx1 (hw16)
  replace hy0 := rebase hy0 (hw16)
  replace hy1 := rebase hy1 (hw16)
  refine wpAnyH_take (i := 60) (oi := { dst := some 75, op := Go.Op.binOp Go.BinOp.eql 23 (Go.Operand.tmp 73) (Go.Operand.tmp 74) 23, type := 4, pos := "law.go:16", after := #[{ on := 58, ground := Go.Ground.data }, { on := 59, ground := Go.Ground.data }, { on := 55, ground := Go.Ground.guard }], guard := some (55, true) }) (v := ?v45) rfl (by kernel_rfl) (by kernel_rfl) (by kernel_rfl) (fun _ _ _ h => h) (Or.inl ⟨by kernel_rfl, ?h45⟩) (by assumption) ?r45
  case h45 => (intro w hSw; (try dsimp only at hSw); go_simp; try with_reducible rfl)
  try simp only [Act.put, List.setIfInBounds_toArray, List.set_cons_zero, List.set_cons_succ]
  refine wpAnyH_take (i := 61) (oi := { dst := some 76, op := Go.Op.pick (Go.Operand.tmp 70) (Go.Operand.tmp 75) (Go.Operand.const (Go.Value.bool false)), type := 4, pos := "law.go:16", after := #[{ on := 55, ground := Go.Ground.data }, { on := 60, ground := Go.Ground.data }], guard := none }) (v := ?v46) rfl (by kernel_rfl) (by kernel_rfl) (by kernel_rfl) (fun _ _ _ h => h) (Or.inl ⟨by kernel_rfl, ?h46⟩) (by assumption) ?r46
  case h46 => (intro w hSw; (try dsimp only at hSw); go_simp; try with_reducible rfl)
  try simp only [Act.put, List.setIfInBounds_toArray, List.set_cons_zero, List.set_cons_succ]
  refine wpAnyH_take (i := 62) (oi := { dst := some 77, op := Go.Op.move (Go.Operand.tmp 76), type := 4, pos := "law.go:16", after := #[{ on := 61, ground := Go.Ground.data }, { on := 59, ground := Go.Ground.chain }], guard := none }) (v := ?v47) rfl (by kernel_rfl) (by kernel_rfl) (by kernel_rfl) (fun _ _ _ h => h) (Or.inl ⟨by kernel_rfl, ?h47⟩) (by assumption) ?r47
  case h47 => (intro w hSw; (try dsimp only at hSw); go_simp; try with_reducible rfl)
  try simp only [Act.put, List.setIfInBounds_toArray, List.set_cons_zero, List.set_cons_succ]
  refine wpAnyH_take (i := 65) (oi := { dst := some 80, op := Go.Op.build 23 #[(0, Go.Operand.const (Go.Value.int Go.IntKind.i64 (-2))), (1, Go.Operand.const (Go.Value.int Go.IntKind.i64 (-1)))], type := 23, pos := "law.go:16", after := #[{ on := 62, ground := Go.Ground.guard }], guard := some (62, true) }) (v := ?v48) rfl (by kernel_rfl) (by kernel_rfl) (by kernel_rfl) (fun _ _ _ h => h) (Or.inl ⟨by kernel_rfl, ?h48⟩) (by assumption) ?r48
  case h48 => (intro w hSw; (try dsimp only at hSw); go_simp; try with_reducible rfl)
  try simp only [Act.put, List.setIfInBounds_toArray, List.set_cons_zero, List.set_cons_succ]
  refine wpAnyH_ready (rs := [63]) (by kernel_rfl) (by simp) ?_
  refine AllReadyH.cons (o := { dst := some 78, op := Go.Op.call { callee := Go.Callee.value (Go.Operand.func 9), args := #[Go.Operand.const (Go.Value.int Go.IntKind.i64 1), Go.Operand.const (Go.Value.int Go.IntKind.i64 2)], argTypes := #[3, 3] }, type := 23, pos := "law.go:16", after := #[{ on := 62, ground := Go.Ground.chain }, { on := 62, ground := Go.Ground.guard }], guard := some (62, true) }) rfl (fun K hK => ?_) AllReadyH.nil
  go_simp
  refine (c20'.out _).mono ?_
  rintro e u17 ⟨rfl, h17⟩
  have hw17 : Below u16.heap.size u16 u17 := hHeld.trans (h17.mono (Nat.le_refl _))
  go_simp
  refine hK.out _ _ (hw17) (fun hHeld => ?_)
  clear hK K
  try simp only [Act.put, List.setIfInBounds_toArray, List.set_cons_zero, List.set_cons_succ]
  refine wpAnyH_now hHeld (fun hHeld => ?_)
  replace hx0 := rebase hx0 (hw17)
  replace hx1 := rebase hx1 (hw17)
  replace hy0 := rebase hy0 (hw17)
  replace hy1 := rebase hy1 (hw17)
  refine wpAnyH_ready (rs := [64]) (by kernel_rfl) (by simp) ?_
  refine AllReadyH.cons (o := { dst := some 79, op := Go.Op.call { callee := Go.Callee.value (Go.Operand.func 27), args := #[Go.Operand.tmp 78], argTypes := #[23] }, type := 23, pos := "law.go:16", after := #[{ on := 63, ground := Go.Ground.data }, { on := 63, ground := Go.Ground.chain }, { on := 62, ground := Go.Ground.guard }], guard := some (62, true) }) rfl (fun K hK => ?_) AllReadyH.nil
  go_simp
  refine (c21'.out _).mono ?_
  rintro e u18 ⟨rfl, h18⟩
  have hw18 : Below u17.heap.size u17 u18 := hHeld.trans (h18.mono (Nat.le_refl _))
  go_simp
  refine hK.out _ _ (hw18) (fun hHeld => ?_)
  clear hK K
  try simp only [Act.put, List.setIfInBounds_toArray, List.set_cons_zero, List.set_cons_succ]
  refine wpAnyH_now hHeld (fun hHeld => ?_)
  replace hx0 := rebase hx0 (hw18)
  replace hx1 := rebase hx1 (hw18)
  replace hy0 := rebase hy0 (hw18)
  replace hy1 := rebase hy1 (hw18)
  refine wpAnyH_take (i := 66) (oi := { dst := some 81, op := Go.Op.binOp Go.BinOp.eql 23 (Go.Operand.tmp 79) (Go.Operand.tmp 80) 23, type := 4, pos := "law.go:16", after := #[{ on := 64, ground := Go.Ground.data }, { on := 65, ground := Go.Ground.data }, { on := 62, ground := Go.Ground.guard }], guard := some (62, true) }) (v := ?v49) rfl (by kernel_rfl) (by kernel_rfl) (by kernel_rfl) (fun _ _ _ h => h) (Or.inl ⟨by kernel_rfl, ?h49⟩) (by assumption) ?r49
  case h49 => (intro w hSw; (try dsimp only at hSw); go_simp; try with_reducible rfl)
  try simp only [Act.put, List.setIfInBounds_toArray, List.set_cons_zero, List.set_cons_succ]
  refine wpAnyH_take (i := 67) (oi := { dst := some 82, op := Go.Op.pick (Go.Operand.tmp 77) (Go.Operand.tmp 81) (Go.Operand.const (Go.Value.bool false)), type := 4, pos := "law.go:16", after := #[{ on := 62, ground := Go.Ground.data }, { on := 66, ground := Go.Ground.data }], guard := none }) (v := ?v50) rfl (by kernel_rfl) (by kernel_rfl) (by kernel_rfl) (fun _ _ _ h => h) (Or.inl ⟨by kernel_rfl, ?h50⟩) (by assumption) ?r50
  case h50 => (intro w hSw; (try dsimp only at hSw); go_simp; try with_reducible rfl)
  try simp only [Act.put, List.setIfInBounds_toArray, List.set_cons_zero, List.set_cons_succ]
  refine wpAnyH_take (i := 68) (oi := { dst := some 83, op := Go.Op.move (Go.Operand.tmp 82), type := 4, pos := "law.go:16", after := #[{ on := 67, ground := Go.Ground.data }, { on := 64, ground := Go.Ground.chain }], guard := none }) (v := ?v51) rfl (by kernel_rfl) (by kernel_rfl) (by kernel_rfl) (fun _ _ _ h => h) (Or.inl ⟨by kernel_rfl, ?h51⟩) (by assumption) ?r51
  case h51 => (intro w hSw; (try dsimp only at hSw); go_simp; try with_reducible rfl)
  try simp only [Act.put, List.setIfInBounds_toArray, List.set_cons_zero, List.set_cons_succ]
  refine wpAnyH_take (i := 72) (oi := { dst := some 87, op := Go.Op.build 23 #[(0, Go.Operand.const (Go.Value.int Go.IntKind.i64 4)), (1, Go.Operand.const (Go.Value.int Go.IntKind.i64 7))], type := 23, pos := "law.go:16", after := #[{ on := 68, ground := Go.Ground.guard }], guard := some (68, true) }) (v := ?v52) rfl (by kernel_rfl) (by kernel_rfl) (by kernel_rfl) (fun _ _ _ h => h) (Or.inl ⟨by kernel_rfl, ?h52⟩) (by assumption) ?r52
  case h52 => (intro w hSw; (try dsimp only at hSw); go_simp; try with_reducible rfl)
  try simp only [Act.put, List.setIfInBounds_toArray, List.set_cons_zero, List.set_cons_succ]
  refine wpAnyH_ready (rs := [69]) (by kernel_rfl) (by simp) ?_
  refine AllReadyH.cons (o := { dst := some 84, op := Go.Op.call { callee := Go.Callee.value (Go.Operand.func 9), args := #[Go.Operand.const (Go.Value.int Go.IntKind.i64 1), Go.Operand.const (Go.Value.int Go.IntKind.i64 2)], argTypes := #[3, 3] }, type := 23, pos := "law.go:16", after := #[{ on := 68, ground := Go.Ground.chain }, { on := 68, ground := Go.Ground.guard }], guard := some (68, true) }) rfl (fun K hK => ?_) AllReadyH.nil
  go_simp
  refine (c20'.out _).mono ?_
  rintro e u19 ⟨rfl, h19⟩
  have hw19 : Below u18.heap.size u18 u19 := hHeld.trans (h19.mono (Nat.le_refl _))
  go_simp
  refine hK.out _ _ (hw19) (fun hHeld => ?_)
  clear hK K
  try simp only [Act.put, List.setIfInBounds_toArray, List.set_cons_zero, List.set_cons_succ]
  refine wpAnyH_now hHeld (fun hHeld => ?_)
  replace hx0 := rebase hx0 (hw19)
  replace hx1 := rebase hx1 (hw19)
  replace hy0 := rebase hy0 (hw19)
  replace hy1 := rebase hy1 (hw19)
  refine wpAnyH_ready (rs := [70]) (by kernel_rfl) (by simp) ?_
  refine AllReadyH.cons (o := { dst := some 85, op := Go.Op.call { callee := Go.Callee.value (Go.Operand.func 9), args := #[Go.Operand.const (Go.Value.int Go.IntKind.i64 3), Go.Operand.const (Go.Value.int Go.IntKind.i64 5)], argTypes := #[3, 3] }, type := 23, pos := "law.go:16", after := #[{ on := 69, ground := Go.Ground.chain }, { on := 68, ground := Go.Ground.guard }], guard := some (68, true) }) rfl (fun K hK => ?_) AllReadyH.nil
  go_simp
  refine (c23'.out _).mono ?_
  rintro e u20 ⟨rfl, h20⟩
  have hw20 : Below u19.heap.size u19 u20 := hHeld.trans (h20.mono (Nat.le_refl _))
  go_simp
  refine hK.out _ _ (hw20) (fun hHeld => ?_)
  clear hK K
  try simp only [Act.put, List.setIfInBounds_toArray, List.set_cons_zero, List.set_cons_succ]
  refine wpAnyH_now hHeld (fun hHeld => ?_)
  replace hx0 := rebase hx0 (hw20)
  replace hx1 := rebase hx1 (hw20)
  replace hy0 := rebase hy0 (hw20)
  replace hy1 := rebase hy1 (hw20)
  refine wpAnyH_ready (rs := [71]) (by kernel_rfl) (by simp) ?_
  refine AllReadyH.cons (o := { dst := some 86, op := Go.Op.call { callee := Go.Callee.value (Go.Operand.func 25), args := #[Go.Operand.tmp 84, Go.Operand.tmp 85], argTypes := #[23, 23] }, type := 23, pos := "law.go:16", after := #[{ on := 69, ground := Go.Ground.data }, { on := 70, ground := Go.Ground.data }, { on := 70, ground := Go.Ground.chain }, { on := 68, ground := Go.Ground.guard }], guard := some (68, true) }) rfl (fun K hK => ?_) AllReadyH.nil
  go_simp
  refine (c24'.out _).mono ?_
  rintro e u21 ⟨rfl, h21⟩
  have hw21 : Below u20.heap.size u20 u21 := hHeld.trans (h21.mono (Nat.le_refl _))
  go_simp
  refine hK.out _ _ (hw21) (fun hHeld => ?_)
  clear hK K
  try simp only [Act.put, List.setIfInBounds_toArray, List.set_cons_zero, List.set_cons_succ]
  refine wpAnyH_now hHeld (fun hHeld => ?_)
  replace hx0 := rebase hx0 (hw21)
  replace hx1 := rebase hx1 (hw21)
  replace hy0 := rebase hy0 (hw21)
  replace hy1 := rebase hy1 (hw21)
  refine wpAnyH_take (i := 73) (oi := { dst := some 88, op := Go.Op.binOp Go.BinOp.eql 23 (Go.Operand.tmp 86) (Go.Operand.tmp 87) 23, type := 4, pos := "law.go:16", after := #[{ on := 71, ground := Go.Ground.data }, { on := 72, ground := Go.Ground.data }, { on := 68, ground := Go.Ground.guard }], guard := some (68, true) }) (v := ?v53) rfl (by kernel_rfl) (by kernel_rfl) (by kernel_rfl) (fun _ _ _ h => h) (Or.inl ⟨by kernel_rfl, ?h53⟩) (by assumption) ?r53
  case h53 => (intro w hSw; (try dsimp only at hSw); go_simp; try with_reducible rfl)
  try simp only [Act.put, List.setIfInBounds_toArray, List.set_cons_zero, List.set_cons_succ]
  refine wpAnyH_take (i := 74) (oi := { dst := some 89, op := Go.Op.pick (Go.Operand.tmp 83) (Go.Operand.tmp 88) (Go.Operand.const (Go.Value.bool false)), type := 4, pos := "law.go:16", after := #[{ on := 68, ground := Go.Ground.data }, { on := 73, ground := Go.Ground.data }], guard := none }) (v := ?v54) rfl (by kernel_rfl) (by kernel_rfl) (by kernel_rfl) (fun _ _ _ h => h) (Or.inl ⟨by kernel_rfl, ?h54⟩) (by assumption) ?r54
  case h54 => (intro w hSw; (try dsimp only at hSw); go_simp; try with_reducible rfl)
  try simp only [Act.put, List.setIfInBounds_toArray, List.set_cons_zero, List.set_cons_succ]
  refine wpAnyH_take (i := 75) (oi := { dst := some 90, op := Go.Op.move (Go.Operand.tmp 89), type := 4, pos := "law.go:16", after := #[{ on := 74, ground := Go.Ground.data }, { on := 71, ground := Go.Ground.chain }], guard := none }) (v := ?v55) rfl (by kernel_rfl) (by kernel_rfl) (by kernel_rfl) (fun _ _ _ h => h) (Or.inl ⟨by kernel_rfl, ?h55⟩) (by assumption) ?r55
  case h55 => (intro w hSw; (try dsimp only at hSw); go_simp; try with_reducible rfl)
  try simp only [Act.put, List.setIfInBounds_toArray, List.set_cons_zero, List.set_cons_succ]
  refine wpAnyH_take (i := 76) (oi := { dst := some 91, op := Go.Op.load 23 (Go.Operand.tmp 1), type := 23, pos := "law.go:16", after := #[{ on := 75, ground := Go.Ground.guard }], guard := some (75, true) }) (v := ?v56) rfl (by kernel_rfl) (by kernel_rfl) (by kernel_rfl) (fun _ _ _ h => h) (Or.inl ⟨by kernel_rfl, ?h56⟩) (by assumption) ?r56
  case h56 => (intro w hSw; (try dsimp only at hSw); go_simp; try with_reducible rfl)
  try simp only [Act.put, List.setIfInBounds_toArray, List.set_cons_zero, List.set_cons_succ]
  refine wpAnyH_ready (rs := [77]) (by kernel_rfl) (by simp) ?_
  refine AllReadyH.cons (o := { dst := some 92, op := Go.Op.call { callee := Go.Callee.value (Go.Operand.func 11), args := #[Go.Operand.tmp 91], argTypes := #[23] }, type := 4, pos := "law.go:16", after := #[{ on := 76, ground := Go.Ground.data }, { on := 75, ground := Go.Ground.chain }, { on := 75, ground := Go.Ground.guard }], guard := some (75, true) }) rfl (fun K hK => ?_) AllReadyH.nil
  go_simp
  refine (c25'.out _).mono ?_
  rintro e u22 ⟨rfl, h22⟩
  have hw22 : Below u21.heap.size u21 u22 := hHeld.trans (h22.mono (Nat.le_refl _))
  go_simp
  refine hK.out _ _ (hw22) (fun hHeld => ?_)
  clear hK K
  try simp only [Act.put, List.setIfInBounds_toArray, List.set_cons_zero, List.set_cons_succ]
  refine wpAnyH_now hHeld (fun hHeld => ?_)
  replace hx0 := rebase hx0 (hw22)
  replace hx1 := rebase hx1 (hw22)
  replace hy0 := rebase hy0 (hw22)
  replace hy1 := rebase hy1 (hw22)
  refine wpAnyH_take (i := 78) (oi := { dst := some 93, op := Go.Op.pick (Go.Operand.tmp 90) (Go.Operand.tmp 92) (Go.Operand.const (Go.Value.bool false)), type := 4, pos := "law.go:16", after := #[{ on := 75, ground := Go.Ground.data }, { on := 77, ground := Go.Ground.data }], guard := none }) (v := ?v57) rfl (by kernel_rfl) (by kernel_rfl) (by kernel_rfl) (fun _ _ _ h => h) (Or.inl ⟨by kernel_rfl, ?h57⟩) (by assumption) ?r57
  case h57 => (intro w hSw; (try dsimp only at hSw); go_simp; try with_reducible rfl)
  try simp only [Act.put, List.setIfInBounds_toArray, List.set_cons_zero, List.set_cons_succ]
  refine wpAnyH_take (i := 79) (oi := { dst := some 94, op := Go.Op.move (Go.Operand.tmp 93), type := 4, pos := "law.go:16", after := #[{ on := 78, ground := Go.Ground.data }, { on := 77, ground := Go.Ground.chain }], guard := none }) (v := ?v58) rfl (by kernel_rfl) (by kernel_rfl) (by kernel_rfl) (fun _ _ _ h => h) (Or.inl ⟨by kernel_rfl, ?h58⟩) (by assumption) ?r58
  case h58 => (intro w hSw; (try dsimp only at hSw); go_simp; try with_reducible rfl)
  try simp only [Act.put, List.setIfInBounds_toArray, List.set_cons_zero, List.set_cons_succ]
  refine wpAnyH_take (i := 80) (oi := { dst := some 95, op := Go.Op.build 23 #[(0, Go.Operand.const (Go.Value.int Go.IntKind.i64 3))], type := 23, pos := "law.go:16", after := #[{ on := 79, ground := Go.Ground.guard }], guard := some (79, true) }) (v := ?v59) rfl (by kernel_rfl) (by kernel_rfl) (by kernel_rfl) (fun _ _ _ h => h) (Or.inl ⟨by kernel_rfl, ?h59⟩) (by assumption) ?r59
  case h59 => (intro w hSw; (try dsimp only at hSw); go_simp; try with_reducible rfl)
  try simp only [Act.put, List.setIfInBounds_toArray, List.set_cons_zero, List.set_cons_succ]
  refine wpAnyH_ready (rs := [81]) (by kernel_rfl) (by simp) ?_
  refine AllReadyH.cons (o := { dst := some 96, op := Go.Op.call { callee := Go.Callee.value (Go.Operand.func 11), args := #[Go.Operand.tmp 95], argTypes := #[23] }, type := 4, pos := "law.go:16", after := #[{ on := 80, ground := Go.Ground.data }, { on := 79, ground := Go.Ground.chain }, { on := 79, ground := Go.Ground.guard }], guard := some (79, true) }) rfl (fun K hK => ?_) AllReadyH.nil
  go_simp
  refine (c26'.out _).mono ?_
  rintro e u23 ⟨rfl, h23⟩
  have hw23 : Below u22.heap.size u22 u23 := hHeld.trans (h23.mono (Nat.le_refl _))
  go_simp
  refine hK.out _ _ (hw23) (fun hHeld => ?_)
  clear hK K
  try simp only [Act.put, List.setIfInBounds_toArray, List.set_cons_zero, List.set_cons_succ]
  refine wpAnyH_now hHeld (fun hHeld => ?_)
  replace hx0 := rebase hx0 (hw23)
  replace hx1 := rebase hx1 (hw23)
  replace hy0 := rebase hy0 (hw23)
  replace hy1 := rebase hy1 (hw23)
  refine wpAnyH_take (i := 82) (oi := { dst := some 97, op := Go.Op.unOp Go.UnOp.not 4 (Go.Operand.tmp 96), type := 4, pos := "law.go:16", after := #[{ on := 81, ground := Go.Ground.data }, { on := 79, ground := Go.Ground.guard }], guard := some (79, true) }) (v := ?v60) rfl (by kernel_rfl) (by kernel_rfl) (by kernel_rfl) (fun _ _ _ h => h) (Or.inl ⟨by kernel_rfl, ?h60⟩) (by assumption) ?r60
  case h60 => (intro w hSw; (try dsimp only at hSw); go_simp; try with_reducible rfl)
  try simp only [Act.put, List.setIfInBounds_toArray, List.set_cons_zero, List.set_cons_succ]
  refine wpAnyH_take (i := 83) (oi := { dst := some 98, op := Go.Op.pick (Go.Operand.tmp 94) (Go.Operand.tmp 97) (Go.Operand.const (Go.Value.bool false)), type := 4, pos := "law.go:16", after := #[{ on := 79, ground := Go.Ground.data }, { on := 82, ground := Go.Ground.data }], guard := none }) (v := ?v61) rfl (by kernel_rfl) (by kernel_rfl) (by kernel_rfl) (fun _ _ _ h => h) (Or.inl ⟨by kernel_rfl, ?h61⟩) (by assumption) ?r61
  case h61 => (intro w hSw; (try dsimp only at hSw); go_simp; try with_reducible rfl)
  try simp only [Act.put, List.setIfInBounds_toArray, List.set_cons_zero, List.set_cons_succ]
  refine wpAnyH_take (i := 84) (oi := { dst := some 0, op := Go.Op.assign (Go.Operand.tmp 98), type := 4, pos := "law.go:16", after := ([{ on := 83, ground := Go.Ground.data }, { on := 81, ground := Go.Ground.chain }, { on := 0, ground := Go.Ground.phase }, { on := 1, ground := Go.Ground.phase }, { on := 2, ground := Go.Ground.phase }, { on := 3, ground := Go.Ground.phase }, { on := 4, ground := Go.Ground.phase }, { on := 5, ground := Go.Ground.phase }, { on := 6, ground := Go.Ground.phase }, { on := 7, ground := Go.Ground.phase }, { on := 8, ground := Go.Ground.phase }, { on := 9, ground := Go.Ground.phase }, { on := 10, ground := Go.Ground.phase }, { on := 11, ground := Go.Ground.phase }, { on := 12, ground := Go.Ground.phase }, { on := 13, ground := Go.Ground.phase }, { on := 14, ground := Go.Ground.phase }, { on := 15, ground := Go.Ground.phase }, { on := 16, ground := Go.Ground.phase }, { on := 17, ground := Go.Ground.phase }, { on := 18, ground := Go.Ground.phase }, { on := 19, ground := Go.Ground.phase }, { on := 20, ground := Go.Ground.phase }, { on := 21, ground := Go.Ground.phase }, { on := 22, ground := Go.Ground.phase }, { on := 23, ground := Go.Ground.phase }, { on := 24, ground := Go.Ground.phase }, { on := 25, ground := Go.Ground.phase }, { on := 26, ground := Go.Ground.phase }, { on := 27, ground := Go.Ground.phase }, { on := 28, ground := Go.Ground.phase }, { on := 29, ground := Go.Ground.phase }, { on := 30, ground := Go.Ground.phase }, { on := 31, ground := Go.Ground.phase }, { on := 32, ground := Go.Ground.phase }, { on := 33, ground := Go.Ground.phase }, { on := 34, ground := Go.Ground.phase }, { on := 35, ground := Go.Ground.phase }, { on := 36, ground := Go.Ground.phase }, { on := 37, ground := Go.Ground.phase }, { on := 38, ground := Go.Ground.phase }, { on := 39, ground := Go.Ground.phase }, { on := 40, ground := Go.Ground.phase }].append [{ on := 41, ground := Go.Ground.phase }, { on := 42, ground := Go.Ground.phase }, { on := 43, ground := Go.Ground.phase }, { on := 44, ground := Go.Ground.phase }, { on := 45, ground := Go.Ground.phase }, { on := 46, ground := Go.Ground.phase }, { on := 47, ground := Go.Ground.phase }, { on := 48, ground := Go.Ground.phase }, { on := 49, ground := Go.Ground.phase }, { on := 50, ground := Go.Ground.phase }, { on := 51, ground := Go.Ground.phase }, { on := 52, ground := Go.Ground.phase }, { on := 53, ground := Go.Ground.phase }, { on := 54, ground := Go.Ground.phase }, { on := 55, ground := Go.Ground.phase }, { on := 56, ground := Go.Ground.phase }, { on := 57, ground := Go.Ground.phase }, { on := 58, ground := Go.Ground.phase }, { on := 59, ground := Go.Ground.phase }, { on := 60, ground := Go.Ground.phase }, { on := 61, ground := Go.Ground.phase }, { on := 62, ground := Go.Ground.phase }, { on := 63, ground := Go.Ground.phase }, { on := 64, ground := Go.Ground.phase }, { on := 65, ground := Go.Ground.phase }, { on := 66, ground := Go.Ground.phase }, { on := 67, ground := Go.Ground.phase }, { on := 68, ground := Go.Ground.phase }, { on := 69, ground := Go.Ground.phase }, { on := 70, ground := Go.Ground.phase }, { on := 71, ground := Go.Ground.phase }, { on := 72, ground := Go.Ground.phase }, { on := 73, ground := Go.Ground.phase }, { on := 74, ground := Go.Ground.phase }, { on := 75, ground := Go.Ground.phase }, { on := 76, ground := Go.Ground.phase }, { on := 77, ground := Go.Ground.phase }, { on := 78, ground := Go.Ground.phase }, { on := 79, ground := Go.Ground.phase }, { on := 80, ground := Go.Ground.phase }, { on := 81, ground := Go.Ground.phase }, { on := 82, ground := Go.Ground.phase }, { on := 83, ground := Go.Ground.phase }]).toArray, guard := none }) (v := ?v62) rfl (by kernel_rfl) (by kernel_rfl) (by kernel_rfl) (fun _ _ _ h => h) (Or.inl ⟨by kernel_rfl, ?h62⟩) (by assumption) ?r62
  case h62 => (intro w hSw; (try dsimp only at hSw); go_simp; try with_reducible rfl)
  try simp only [Act.put, List.setIfInBounds_toArray, List.set_cons_zero, List.set_cons_succ]
  refine wpAnyH_done (by kernel_rfl) ?_ _
  have hb := on2 hb hw1
  have hb := on2 hb hw2
  have hb := on2 hb hw3
  have hb := on2 hb hw4
  have hb := on2 hb hw5
  have hb := on2 hb hw6
  have hb := on2 hb hw7
  have hb := on2 hb hw8
  have hb := on2 hb hw9
  have hb := on2 hb hw10
  have hb := on2 hb hw11
  have hb := on2 hb hw12
  have hb := on2 hb hw13
  have hb := on2 hb hw14
  have hb := on2 hb hw15
  have hb := on2 hb hw16
  have hb := on2 hb hw17
  have hb := on2 hb hw18
  have hb := on2 hb hw19
  have hb := on2 hb hw20
  have hb := on2 hb hw21
  have hb := on2 hb hw22
  have hb := on2 hb hw23
  go_wp2
  go_ret
  exact ⟨rfl, hb⟩
end Go.Proofs.YthjpkbhgpjefpaaDoor
