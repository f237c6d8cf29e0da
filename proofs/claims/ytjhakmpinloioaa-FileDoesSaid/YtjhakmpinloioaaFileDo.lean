/- One call of a disk, and of the document's: kinds 2 to 6. (Written by gen-filedo.py.) -/
import Derived.Test.YtjhakmpinloioaaFilePair
namespace Go.Proofs.Ytjhakmpinloioaa
open Go.RowKit
set_option linter.unusedVariables false
set_option linter.unusedSimpArgs false
set_option maxRecDepth 100000 in
theorem do_2 (d : Nat) (F : List Nat) (x : Nat) (s : St) (n k : Int) (hk : k ≤ 9223372036854775807) (A : Option Addr) (m c : Nat) (w : World) (h : Pr w d F x s) :
    Calls Try.prog 11 #[.pointer (some ⟨d, 0, none⟩), .pointer (some ⟨x, 0, none⟩), .agg #[.int .i64 2, .int .i64 n, .int .i64 k, .slice A m c]] w (Does w d F x) := by
  obtain ⟨W0, hW0, hB, hH, hS⟩ := one_box w #[.int .i64 2, .int .i64 n, .int .i64 k, .slice A m c] 32
  have k0 := hH.cell 0
  have k1 := hH.cell 1
  have k2 := hH.cell 2
  have k3 := hH.cell 3
  simp at k0 k1 k2 k3
  have hP := h.below hB
  have hall := h.dk.all
  have gw : w.heap.size ∉ x :: F := by
    intro hm
    rcases List.mem_cons.1 hm with h1 | h1
    · have := h.rk.lt; omega
    · have := hall _ h1; omega
  have l0 : w.heap.size < W0.heap.size := by omega
  have f1 : ∀ W', BelowE (x :: F) W0.heap.size W0 W' → W'.cell? ⟨w.heap.size, 1, none⟩ = some (.int .i64 n) := fun W' h => (h.cell (p := ⟨w.heap.size, 1, none⟩) l0 gw).trans k1
  have f2 : ∀ W', BelowE (x :: F) W0.heap.size W0 W' → W'.cell? ⟨w.heap.size, 2, none⟩ = some (.int .i64 k) := fun W' h => (h.cell (p := ⟨w.heap.size, 2, none⟩) l0 gw).trans k2
  have hB' := Lib.hid hB
  have hP' := Lib.hid hP
  have hW0' := Lib.hid hW0
  have c1 := clear_any d F s n W0.drew (hP.dk.below ((Below.refl _ _).drew)) hP.fine
  have c2 := fun w1 F1 (t : Turns F F1 W0 w1) => rclear_any x s n w1 (hP.mid t) hP.fine
  have hfin := fine_cut hP.fine n 0
  generalize cutO s n 0 = r at *
  obtain ⟨rv, rs⟩ := r
  have c1' := Lib.hid c1
  have c2' := Lib.hid c2
  have hfin' := Lib.hid hfin
  clear hW0 hB hP hH hS h hall gw l0 c1 c2 hfin k2 k3 hk f2
  go_enter Try.func11, Try.ntmps11
  go_wp2
  rw [← hW0'.out]
  refine wp_drawn_on (fun W' => BelowE (x :: F) W0.heap.size W0 W') (by kernel_rfl) ((BelowE.refl _ _ _).drew) (fun hHeld => ?_)
  refine wpAnyH_take (i := 0) (oi := { dst := some 33, op := Go.Op.move (Go.Operand.tmp 0), type := 25, pos := "law.go:34", after := #[], guard := none }) (v := ?v1) rfl (by kernel_rfl) (by kernel_rfl) (by kernel_rfl) (fun _ _ _ h => h) (Or.inl ⟨by kernel_rfl, ?h1⟩) (by assumption) ?r1
  case h1 => (intro w hSw; (try dsimp only at hSw); go_simp; try with_reducible rfl)
  try simp only [Act.put, List.setIfInBounds_toArray, List.set_cons_zero, List.set_cons_succ]
  refine wpAnyH_take (i := 1) (oi := { dst := some 34, op := Go.Op.fieldAddr 32 (Go.Operand.tmp 5) 1, type := 0, pos := "law.go:34", after := #[], guard := none }) (v := ?v2) rfl (by kernel_rfl) (by kernel_rfl) (by kernel_rfl) (fun _ _ _ h => h) (Or.inl ⟨by kernel_rfl, ?h2⟩) (by assumption) ?r2
  case h2 => (intro w hSw; (try dsimp only at hSw); go_simp; try with_reducible rfl)
  try simp only [Act.put, List.setIfInBounds_toArray, List.set_cons_zero, List.set_cons_succ]
  refine wpAnyH_take (i := 2) (oi := { dst := some 35, op := Go.Op.load 3 (Go.Operand.tmp 34), type := 3, pos := "law.go:34", after := #[{ on := 1, ground := Go.Ground.data }], guard := none }) (v := ?v3) rfl (by kernel_rfl) (by kernel_rfl) (by kernel_rfl) (fun _ _ _ h => h) (Or.inl ⟨by kernel_rfl, ?h3⟩) (by assumption) ?r3
  case h3 => (intro w hSw; (try dsimp only at hSw); go_simp; try with_reducible rfl)
  try simp only [Act.put, List.setIfInBounds_toArray, List.set_cons_zero, List.set_cons_succ]
  refine wpAnyH_take (i := 4) (oi := { dst := some 37, op := Go.Op.move (Go.Operand.tmp 1), type := 27, pos := "law.go:34", after := #[], guard := none }) (v := ?v4) rfl (by kernel_rfl) (by kernel_rfl) (by kernel_rfl) (fun _ _ _ h => h) (Or.inl ⟨by kernel_rfl, ?h4⟩) (by assumption) ?r4
  case h4 => (intro w hSw; (try dsimp only at hSw); go_simp; try with_reducible rfl)
  try simp only [Act.put, List.setIfInBounds_toArray, List.set_cons_zero, List.set_cons_succ]
  refine wpAnyH_take (i := 5) (oi := { dst := some 38, op := Go.Op.fieldAddr 32 (Go.Operand.tmp 5) 1, type := 0, pos := "law.go:34", after := #[], guard := none }) (v := ?v5) rfl (by kernel_rfl) (by kernel_rfl) (by kernel_rfl) (fun _ _ _ h => h) (Or.inl ⟨by kernel_rfl, ?h5⟩) (by assumption) ?r5
  case h5 => (intro w hSw; (try dsimp only at hSw); go_simp; try with_reducible rfl)
  try simp only [Act.put, List.setIfInBounds_toArray, List.set_cons_zero, List.set_cons_succ]
  refine wpAnyH_take (i := 6) (oi := { dst := some 39, op := Go.Op.load 3 (Go.Operand.tmp 38), type := 3, pos := "law.go:34", after := #[{ on := 5, ground := Go.Ground.data }], guard := none }) (v := ?v6) rfl (by kernel_rfl) (by kernel_rfl) (by kernel_rfl) (fun _ _ _ h => h) (Or.inl ⟨by kernel_rfl, ?h6⟩) (by assumption) ?r6
  case h6 => (intro w hSw; (try dsimp only at hSw); go_simp; try with_reducible rfl)
  try simp only [Act.put, List.setIfInBounds_toArray, List.set_cons_zero, List.set_cons_succ]
  refine wpAnyH_ready (rs := [3]) (by kernel_rfl) (by simp) ?_
  refine AllReadyH.cons (o := { dst := some 36, op := Go.Op.call { callee := Go.Callee.value (Go.Operand.func 18), args := #[Go.Operand.tmp 33, Go.Operand.tmp 35], argTypes := #[25, 3] }, type := 36, pos := "law.go:34", after := #[{ on := 0, ground := Go.Ground.data }, { on := 2, ground := Go.Ground.data }], guard := none }) rfl (fun K hK => ?_) AllReadyH.nil
  go_simp
  refine c1'.out.mono ?_
  rintro e w1 ⟨rfl, F1, D1, t1⟩
  have t2 : Turns F F1 W0 w1 := ⟨t1.1.fromDrew, t1.2⟩
  have hx1 : BelowE (x :: F) W0.heap.size W0 w1 := t2.1.wider (by intro y hy; simp [hy])
  have D1' := Lib.hid D1
  have t2' := Lib.hid t2
  clear D1 t1 t2
  go_simp
  refine hK.out _ _ (hx1) (fun hHeld => ?_)
  clear hK K
  try simp only [Act.put, List.setIfInBounds_toArray, List.set_cons_zero, List.set_cons_succ]
  refine wpAnyH_ready (rs := [7]) (by kernel_rfl) (by simp) ?_
  refine AllReadyH.cons (o := { dst := some 40, op := Go.Op.call { callee := Go.Callee.value (Go.Operand.func 22), args := #[Go.Operand.tmp 37, Go.Operand.tmp 39], argTypes := #[27, 3] }, type := 36, pos := "law.go:34", after := #[{ on := 4, ground := Go.Ground.data }, { on := 6, ground := Go.Ground.data }, { on := 3, ground := Go.Ground.chain }], guard := none }) rfl (fun K hK => ?_) AllReadyH.nil
  go_simp
  refine (c2'.out w1 F1 t2'.out).mono ?_
  rintro e w2 ⟨rfl, R2, b2⟩
  have hx2 : BelowE (x :: F) W0.heap.size W0 w2 := hx1.trans ((b2.mono hx1.size).wider (by simp))
  go_simp
  refine hK.out _ _ (hx2) (fun hHeld => ?_)
  clear hK K
  try simp only [Act.put, List.setIfInBounds_toArray, List.set_cons_zero, List.set_cons_succ]
  refine wpAnyH_take (i := 8) (oi := { dst := some 41, op := Go.Op.binOp Go.BinOp.eql 36 (Go.Operand.tmp 36) (Go.Operand.tmp 40) 36, type := 4, pos := "law.go:34", after := #[{ on := 3, ground := Go.Ground.data }, { on := 7, ground := Go.Ground.data }], guard := none }) (v := ?v7) rfl (by kernel_rfl) (by kernel_rfl) (by kernel_rfl) (fun _ _ _ h => h) (Or.inl ⟨by kernel_rfl, ?h7⟩) (by assumption) ?r7
  case h7 => (intro w hSw; (try dsimp only at hSw); go_simp; try with_reducible rfl)
  try simp only [Act.put, List.setIfInBounds_toArray, List.set_cons_zero, List.set_cons_succ]
  refine wpAnyH_take (i := 9) (oi := { dst := some 6, op := Go.Op.assign (Go.Operand.tmp 41), type := 4, pos := "law.go:34", after := #[{ on := 8, ground := Go.Ground.data }, { on := 7, ground := Go.Ground.chain }, { on := 0, ground := Go.Ground.phase }, { on := 1, ground := Go.Ground.phase }, { on := 2, ground := Go.Ground.phase }, { on := 3, ground := Go.Ground.phase }, { on := 4, ground := Go.Ground.phase }, { on := 5, ground := Go.Ground.phase }, { on := 6, ground := Go.Ground.phase }, { on := 7, ground := Go.Ground.phase }, { on := 8, ground := Go.Ground.phase }], guard := none }) (v := ?v8) rfl (by kernel_rfl) (by kernel_rfl) (by kernel_rfl) (fun _ _ _ h => h) (Or.inl ⟨by kernel_rfl, ?h8⟩) (by assumption) ?r8
  case h8 => (intro w hSw; (try dsimp only at hSw); go_simp; try with_reducible rfl)
  try simp only [Act.put, List.setIfInBounds_toArray, List.set_cons_zero, List.set_cons_succ]
  refine wpAnyH_done (by kernel_rfl) ?_ _
  go_wp2
  go_ret
  exact ⟨by simp, Goes.before hB'.out (hP'.out.step D1'.out t2'.out R2 b2 hfin'.out)⟩
set_option maxRecDepth 100000 in
theorem do_3 (d : Nat) (F : List Nat) (x : Nat) (s : St) (n k : Int) (hk : k ≤ 9223372036854775807) (A : Option Addr) (m c : Nat) (w : World) (h : Pr w d F x s) :
    Calls Try.prog 11 #[.pointer (some ⟨d, 0, none⟩), .pointer (some ⟨x, 0, none⟩), .agg #[.int .i64 3, .int .i64 n, .int .i64 k, .slice A m c]] w (Does w d F x) := by
  obtain ⟨W0, hW0, hB, hH, hS⟩ := one_box w #[.int .i64 3, .int .i64 n, .int .i64 k, .slice A m c] 32
  have k0 := hH.cell 0
  have k1 := hH.cell 1
  have k2 := hH.cell 2
  have k3 := hH.cell 3
  simp at k0 k1 k2 k3
  have hP := h.below hB
  have hall := h.dk.all
  have gw : w.heap.size ∉ x :: F := by
    intro hm
    rcases List.mem_cons.1 hm with h1 | h1
    · have := h.rk.lt; omega
    · have := hall _ h1; omega
  have l0 : w.heap.size < W0.heap.size := by omega
  have f1 : ∀ W', BelowE (x :: F) W0.heap.size W0 W' → W'.cell? ⟨w.heap.size, 1, none⟩ = some (.int .i64 n) := fun W' h => (h.cell (p := ⟨w.heap.size, 1, none⟩) l0 gw).trans k1
  have f2 : ∀ W', BelowE (x :: F) W0.heap.size W0 W' → W'.cell? ⟨w.heap.size, 2, none⟩ = some (.int .i64 k) := fun W' h => (h.cell (p := ⟨w.heap.size, 2, none⟩) l0 gw).trans k2
  have hB' := Lib.hid hB
  have hP' := Lib.hid hP
  have hW0' := Lib.hid hW0
  have c1 := cut_any d F s n k W0.drew (hP.dk.below ((Below.refl _ _).drew)) hP.fine
  have c2 := fun w1 F1 (t : Turns F F1 W0 w1) => rcut_any x s n k w1 (hP.mid t) hP.fine
  have hfin := fine_cut hP.fine n k
  generalize cutO s n k = r at *
  obtain ⟨rv, rs⟩ := r
  have c1' := Lib.hid c1
  have c2' := Lib.hid c2
  have hfin' := Lib.hid hfin
  clear hW0 hB hP hH hS h hall gw l0 c1 c2 hfin k3 hk
  go_enter Try.func11, Try.ntmps11
  go_wp2
  rw [← hW0'.out]
  refine wp_drawn_on (fun W' => BelowE (x :: F) W0.heap.size W0 W') (by kernel_rfl) ((BelowE.refl _ _ _).drew) (fun hHeld => ?_)
  refine wpAnyH_take (i := 0) (oi := { dst := some 44, op := Go.Op.move (Go.Operand.tmp 0), type := 25, pos := "law.go:36", after := #[], guard := none }) (v := ?v9) rfl (by kernel_rfl) (by kernel_rfl) (by kernel_rfl) (fun _ _ _ h => h) (Or.inl ⟨by kernel_rfl, ?h9⟩) (by assumption) ?r9
  case h9 => (intro w hSw; (try dsimp only at hSw); go_simp; try with_reducible rfl)
  try simp only [Act.put, List.setIfInBounds_toArray, List.set_cons_zero, List.set_cons_succ]
  refine wpAnyH_take (i := 1) (oi := { dst := some 45, op := Go.Op.fieldAddr 32 (Go.Operand.tmp 5) 1, type := 0, pos := "law.go:36", after := #[], guard := none }) (v := ?v10) rfl (by kernel_rfl) (by kernel_rfl) (by kernel_rfl) (fun _ _ _ h => h) (Or.inl ⟨by kernel_rfl, ?h10⟩) (by assumption) ?r10
  case h10 => (intro w hSw; (try dsimp only at hSw); go_simp; try with_reducible rfl)
  try simp only [Act.put, List.setIfInBounds_toArray, List.set_cons_zero, List.set_cons_succ]
  refine wpAnyH_take (i := 2) (oi := { dst := some 46, op := Go.Op.load 3 (Go.Operand.tmp 45), type := 3, pos := "law.go:36", after := #[{ on := 1, ground := Go.Ground.data }], guard := none }) (v := ?v11) rfl (by kernel_rfl) (by kernel_rfl) (by kernel_rfl) (fun _ _ _ h => h) (Or.inl ⟨by kernel_rfl, ?h11⟩) (by assumption) ?r11
  case h11 => (intro w hSw; (try dsimp only at hSw); go_simp; try with_reducible rfl)
  try simp only [Act.put, List.setIfInBounds_toArray, List.set_cons_zero, List.set_cons_succ]
  refine wpAnyH_take (i := 3) (oi := { dst := some 47, op := Go.Op.fieldAddr 32 (Go.Operand.tmp 5) 2, type := 0, pos := "law.go:36", after := #[], guard := none }) (v := ?v12) rfl (by kernel_rfl) (by kernel_rfl) (by kernel_rfl) (fun _ _ _ h => h) (Or.inl ⟨by kernel_rfl, ?h12⟩) (by assumption) ?r12
  case h12 => (intro w hSw; (try dsimp only at hSw); go_simp; try with_reducible rfl)
  try simp only [Act.put, List.setIfInBounds_toArray, List.set_cons_zero, List.set_cons_succ]
  refine wpAnyH_take (i := 4) (oi := { dst := some 48, op := Go.Op.load 3 (Go.Operand.tmp 47), type := 3, pos := "law.go:36", after := #[{ on := 3, ground := Go.Ground.data }], guard := none }) (v := ?v13) rfl (by kernel_rfl) (by kernel_rfl) (by kernel_rfl) (fun _ _ _ h => h) (Or.inl ⟨by kernel_rfl, ?h13⟩) (by assumption) ?r13
  case h13 => (intro w hSw; (try dsimp only at hSw); go_simp; try with_reducible rfl)
  try simp only [Act.put, List.setIfInBounds_toArray, List.set_cons_zero, List.set_cons_succ]
  refine wpAnyH_take (i := 6) (oi := { dst := some 50, op := Go.Op.move (Go.Operand.tmp 1), type := 27, pos := "law.go:36", after := #[], guard := none }) (v := ?v14) rfl (by kernel_rfl) (by kernel_rfl) (by kernel_rfl) (fun _ _ _ h => h) (Or.inl ⟨by kernel_rfl, ?h14⟩) (by assumption) ?r14
  case h14 => (intro w hSw; (try dsimp only at hSw); go_simp; try with_reducible rfl)
  try simp only [Act.put, List.setIfInBounds_toArray, List.set_cons_zero, List.set_cons_succ]
  refine wpAnyH_take (i := 7) (oi := { dst := some 51, op := Go.Op.fieldAddr 32 (Go.Operand.tmp 5) 1, type := 0, pos := "law.go:36", after := #[], guard := none }) (v := ?v15) rfl (by kernel_rfl) (by kernel_rfl) (by kernel_rfl) (fun _ _ _ h => h) (Or.inl ⟨by kernel_rfl, ?h15⟩) (by assumption) ?r15
  case h15 => (intro w hSw; (try dsimp only at hSw); go_simp; try with_reducible rfl)
  try simp only [Act.put, List.setIfInBounds_toArray, List.set_cons_zero, List.set_cons_succ]
  refine wpAnyH_take (i := 8) (oi := { dst := some 52, op := Go.Op.load 3 (Go.Operand.tmp 51), type := 3, pos := "law.go:36", after := #[{ on := 7, ground := Go.Ground.data }], guard := none }) (v := ?v16) rfl (by kernel_rfl) (by kernel_rfl) (by kernel_rfl) (fun _ _ _ h => h) (Or.inl ⟨by kernel_rfl, ?h16⟩) (by assumption) ?r16
  case h16 => (intro w hSw; (try dsimp only at hSw); go_simp; try with_reducible rfl)
  try simp only [Act.put, List.setIfInBounds_toArray, List.set_cons_zero, List.set_cons_succ]
  refine wpAnyH_take (i := 9) (oi := { dst := some 53, op := Go.Op.fieldAddr 32 (Go.Operand.tmp 5) 2, type := 0, pos := "law.go:36", after := #[], guard := none }) (v := ?v17) rfl (by kernel_rfl) (by kernel_rfl) (by kernel_rfl) (fun _ _ _ h => h) (Or.inl ⟨by kernel_rfl, ?h17⟩) (by assumption) ?r17
  case h17 => (intro w hSw; (try dsimp only at hSw); go_simp; try with_reducible rfl)
  try simp only [Act.put, List.setIfInBounds_toArray, List.set_cons_zero, List.set_cons_succ]
  refine wpAnyH_take (i := 10) (oi := { dst := some 54, op := Go.Op.load 3 (Go.Operand.tmp 53), type := 3, pos := "law.go:36", after := #[{ on := 9, ground := Go.Ground.data }], guard := none }) (v := ?v18) rfl (by kernel_rfl) (by kernel_rfl) (by kernel_rfl) (fun _ _ _ h => h) (Or.inl ⟨by kernel_rfl, ?h18⟩) (by assumption) ?r18
  case h18 => (intro w hSw; (try dsimp only at hSw); go_simp; try with_reducible rfl)
  try simp only [Act.put, List.setIfInBounds_toArray, List.set_cons_zero, List.set_cons_succ]
  refine wpAnyH_ready (rs := [5]) (by kernel_rfl) (by simp) ?_
  refine AllReadyH.cons (o := { dst := some 49, op := Go.Op.call { callee := Go.Callee.value (Go.Operand.func 19), args := #[Go.Operand.tmp 44, Go.Operand.tmp 46, Go.Operand.tmp 48], argTypes := #[25, 3, 3] }, type := 36, pos := "law.go:36", after := #[{ on := 0, ground := Go.Ground.data }, { on := 2, ground := Go.Ground.data }, { on := 4, ground := Go.Ground.data }], guard := none }) rfl (fun K hK => ?_) AllReadyH.nil
  go_simp
  refine c1'.out.mono ?_
  rintro e w1 ⟨rfl, F1, D1, t1⟩
  have t2 : Turns F F1 W0 w1 := ⟨t1.1.fromDrew, t1.2⟩
  have hx1 : BelowE (x :: F) W0.heap.size W0 w1 := t2.1.wider (by intro y hy; simp [hy])
  have D1' := Lib.hid D1
  have t2' := Lib.hid t2
  clear D1 t1 t2
  go_simp
  refine hK.out _ _ (hx1) (fun hHeld => ?_)
  clear hK K
  try simp only [Act.put, List.setIfInBounds_toArray, List.set_cons_zero, List.set_cons_succ]
  refine wpAnyH_ready (rs := [11]) (by kernel_rfl) (by simp) ?_
  refine AllReadyH.cons (o := { dst := some 55, op := Go.Op.call { callee := Go.Callee.value (Go.Operand.func 23), args := #[Go.Operand.tmp 50, Go.Operand.tmp 52, Go.Operand.tmp 54], argTypes := #[27, 3, 3] }, type := 36, pos := "law.go:36", after := #[{ on := 6, ground := Go.Ground.data }, { on := 8, ground := Go.Ground.data }, { on := 10, ground := Go.Ground.data }, { on := 5, ground := Go.Ground.chain }], guard := none }) rfl (fun K hK => ?_) AllReadyH.nil
  go_simp
  refine (c2'.out w1 F1 t2'.out).mono ?_
  rintro e w2 ⟨rfl, R2, b2⟩
  have hx2 : BelowE (x :: F) W0.heap.size W0 w2 := hx1.trans ((b2.mono hx1.size).wider (by simp))
  go_simp
  refine hK.out _ _ (hx2) (fun hHeld => ?_)
  clear hK K
  try simp only [Act.put, List.setIfInBounds_toArray, List.set_cons_zero, List.set_cons_succ]
  refine wpAnyH_take (i := 12) (oi := { dst := some 56, op := Go.Op.binOp Go.BinOp.eql 36 (Go.Operand.tmp 49) (Go.Operand.tmp 55) 36, type := 4, pos := "law.go:36", after := #[{ on := 5, ground := Go.Ground.data }, { on := 11, ground := Go.Ground.data }], guard := none }) (v := ?v19) rfl (by kernel_rfl) (by kernel_rfl) (by kernel_rfl) (fun _ _ _ h => h) (Or.inl ⟨by kernel_rfl, ?h19⟩) (by assumption) ?r19
  case h19 => (intro w hSw; (try dsimp only at hSw); go_simp; try with_reducible rfl)
  try simp only [Act.put, List.setIfInBounds_toArray, List.set_cons_zero, List.set_cons_succ]
  refine wpAnyH_take (i := 13) (oi := { dst := some 6, op := Go.Op.assign (Go.Operand.tmp 56), type := 4, pos := "law.go:36", after := #[{ on := 12, ground := Go.Ground.data }, { on := 11, ground := Go.Ground.chain }, { on := 0, ground := Go.Ground.phase }, { on := 1, ground := Go.Ground.phase }, { on := 2, ground := Go.Ground.phase }, { on := 3, ground := Go.Ground.phase }, { on := 4, ground := Go.Ground.phase }, { on := 5, ground := Go.Ground.phase }, { on := 6, ground := Go.Ground.phase }, { on := 7, ground := Go.Ground.phase }, { on := 8, ground := Go.Ground.phase }, { on := 9, ground := Go.Ground.phase }, { on := 10, ground := Go.Ground.phase }, { on := 11, ground := Go.Ground.phase }, { on := 12, ground := Go.Ground.phase }], guard := none }) (v := ?v20) rfl (by kernel_rfl) (by kernel_rfl) (by kernel_rfl) (fun _ _ _ h => h) (Or.inl ⟨by kernel_rfl, ?h20⟩) (by assumption) ?r20
  case h20 => (intro w hSw; (try dsimp only at hSw); go_simp; try with_reducible rfl)
  try simp only [Act.put, List.setIfInBounds_toArray, List.set_cons_zero, List.set_cons_succ]
  refine wpAnyH_done (by kernel_rfl) ?_ _
  go_wp2
  go_ret
  exact ⟨by simp, Goes.before hB'.out (hP'.out.step D1'.out t2'.out R2 b2 hfin'.out)⟩
set_option maxRecDepth 100000 in
theorem do_4 (d : Nat) (F : List Nat) (x : Nat) (s : St) (n k : Int) (hk : k ≤ 9223372036854775807) (A : Option Addr) (m c : Nat) (w : World) (h : Pr w d F x s) :
    Calls Try.prog 11 #[.pointer (some ⟨d, 0, none⟩), .pointer (some ⟨x, 0, none⟩), .agg #[.int .i64 4, .int .i64 n, .int .i64 k, .slice A m c]] w (Does w d F x) := by
  obtain ⟨W0, hW0, hB, hH, hS⟩ := one_box w #[.int .i64 4, .int .i64 n, .int .i64 k, .slice A m c] 32
  have k0 := hH.cell 0
  have k1 := hH.cell 1
  have k2 := hH.cell 2
  have k3 := hH.cell 3
  simp at k0 k1 k2 k3
  have hP := h.below hB
  have hall := h.dk.all
  have gw : w.heap.size ∉ x :: F := by
    intro hm
    rcases List.mem_cons.1 hm with h1 | h1
    · have := h.rk.lt; omega
    · have := hall _ h1; omega
  have l0 : w.heap.size < W0.heap.size := by omega
  have f1 : ∀ W', BelowE (x :: F) W0.heap.size W0 W' → W'.cell? ⟨w.heap.size, 1, none⟩ = some (.int .i64 n) := fun W' h => (h.cell (p := ⟨w.heap.size, 1, none⟩) l0 gw).trans k1
  have f2 : ∀ W', BelowE (x :: F) W0.heap.size W0 W' → W'.cell? ⟨w.heap.size, 2, none⟩ = some (.int .i64 k) := fun W' h => (h.cell (p := ⟨w.heap.size, 2, none⟩) l0 gw).trans k2
  have hB' := Lib.hid hB
  have hP' := Lib.hid hP
  have hW0' := Lib.hid hW0
  have h0' := Lib.hid h
  have c1 := read_any d F s n W0 hP.dk hP.fine
  have c2 := fun w1 (b : Below W0.heap.size W0 w1) => rread_any x s n w1 (hP.rk.below b)
  generalize readO s n = r at *
  obtain ⟨rb, rv⟩ := r
  have c1' := Lib.hid c1
  have c2' := Lib.hid c2
  clear hW0 hB hP hH hS h hall gw l0 c1 c2 k2 k3 hk f2 f1
  go_enter Try.func11, Try.ntmps11
  go_wp2_with fail
  rw [← hW0'.out]
  refine c1'.out.mono ?_
  rintro e w1 ⟨v, rfl, o1, b1⟩
  obtain ⟨a1, q1, rfl, -, s1⟩ := sees_own o1
  have g1 : w1.cell? ⟨w.heap.size, 1, none⟩ = some (.int .i64 n) := (b1.cell (p := ⟨w.heap.size, 1, none⟩) (World.block_lt_of_cell? _ _ k1)).trans k1
  have hcv : (convert 30 9 (.slice a1 rb.length q1)).run Try.prog w1 = .ok (.string (strOfNums rb)) w1 := conv_sees _ 9 5 Try.underlying30 Try.underlying5 Try.underlying9 s1 rb.length q1 rfl
  have c3 := Lib.hid (c2'.out w1 b1)
  have b1' := Lib.hid b1
  clear b1 o1 s1
  simp only
  generalize strOfNums rb = sb at *
  generalize rb.length = lb at *
  go_wp2_with fail
  refine c3.out.mono ?_
  rintro e w2 ⟨rfl, rfl⟩
  go_wp2
  go_ret
  exact ⟨by simp, Goes.same h0'.out (hB'.out.trans (b1'.out.mono hB'.out.size))⟩
set_option maxRecDepth 100000 in
theorem do_5 (d : Nat) (F : List Nat) (x : Nat) (s : St) (n k : Int) (hk : k ≤ 9223372036854775807) (A : Option Addr) (m c : Nat) (w : World) (h : Pr w d F x s) :
    Calls Try.prog 11 #[.pointer (some ⟨d, 0, none⟩), .pointer (some ⟨x, 0, none⟩), .agg #[.int .i64 5, .int .i64 n, .int .i64 k, .slice A m c]] w (Does w d F x) := by
  obtain ⟨W0, hW0, hB, hH, hS⟩ := one_box w #[.int .i64 5, .int .i64 n, .int .i64 k, .slice A m c] 32
  have k0 := hH.cell 0
  have k1 := hH.cell 1
  have k2 := hH.cell 2
  have k3 := hH.cell 3
  simp at k0 k1 k2 k3
  have hP := h.below hB
  have hall := h.dk.all
  have gw : w.heap.size ∉ x :: F := by
    intro hm
    rcases List.mem_cons.1 hm with h1 | h1
    · have := h.rk.lt; omega
    · have := hall _ h1; omega
  have l0 : w.heap.size < W0.heap.size := by omega
  have f1 : ∀ W', BelowE (x :: F) W0.heap.size W0 W' → W'.cell? ⟨w.heap.size, 1, none⟩ = some (.int .i64 n) := fun W' h => (h.cell (p := ⟨w.heap.size, 1, none⟩) l0 gw).trans k1
  have f2 : ∀ W', BelowE (x :: F) W0.heap.size W0 W' → W'.cell? ⟨w.heap.size, 2, none⟩ = some (.int .i64 k) := fun W' h => (h.cell (p := ⟨w.heap.size, 2, none⟩) l0 gw).trans k2
  have hB' := Lib.hid hB
  have hP' := Lib.hid hP
  have hW0' := Lib.hid hW0
  have c1 := arm_any d F s k hk W0 hP.dk
  have c2 := fun w1 F1 (t : Turns F F1 W0 w1) => rarms_any x s k w1 (hP.mid t)
  have hfin := fine_arm hP.fine hk
  have c1' := Lib.hid c1
  have c2' := Lib.hid c2
  have hfin' := Lib.hid hfin
  clear hW0 hB hP hH hS h hall gw l0 c1 c2 hfin k3 f1
  go_enter Try.func11, Try.ntmps11
  go_wp2_with fail
  rw [← hW0'.out]
  refine c1'.out.mono ?_
  intro e w1 hs
  have t2' := Lib.hid hs.turns
  have hs' := Lib.hid hs
  obtain ⟨rfl, -, -⟩ := hs
  have g2 := f2 w1 (t2'.out.1.wider (by intro y hy; simp [hy]))
  clear f2
  go_wp2_with fail
  refine (c2'.out w1 F t2'.out).mono ?_
  rintro e w2 ⟨rfl, R2, b2⟩
  have R2' := Lib.hid R2
  have b2' := Lib.hid b2
  clear R2 b2
  go_wp2
  go_ret
  exact ⟨rfl, Goes.before hB'.out (hP'.out.step hs'.out.2.1 t2'.out R2'.out b2'.out hfin'.out)⟩
set_option maxRecDepth 100000 in
theorem do_6 (d : Nat) (F : List Nat) (x : Nat) (s : St) (n k : Int) (hk : k ≤ 9223372036854775807) (A : Option Addr) (m c : Nat) (w : World) (h : Pr w d F x s) :
    Calls Try.prog 11 #[.pointer (some ⟨d, 0, none⟩), .pointer (some ⟨x, 0, none⟩), .agg #[.int .i64 6, .int .i64 n, .int .i64 k, .slice A m c]] w (Does w d F x) := by
  obtain ⟨W0, hW0, hB, hH, hS⟩ := one_box w #[.int .i64 6, .int .i64 n, .int .i64 k, .slice A m c] 32
  have k0 := hH.cell 0
  have k1 := hH.cell 1
  have k2 := hH.cell 2
  have k3 := hH.cell 3
  simp at k0 k1 k2 k3
  have hP := h.below hB
  have hall := h.dk.all
  have gw : w.heap.size ∉ x :: F := by
    intro hm
    rcases List.mem_cons.1 hm with h1 | h1
    · have := h.rk.lt; omega
    · have := hall _ h1; omega
  have l0 : w.heap.size < W0.heap.size := by omega
  have f1 : ∀ W', BelowE (x :: F) W0.heap.size W0 W' → W'.cell? ⟨w.heap.size, 1, none⟩ = some (.int .i64 n) := fun W' h => (h.cell (p := ⟨w.heap.size, 1, none⟩) l0 gw).trans k1
  have f2 : ∀ W', BelowE (x :: F) W0.heap.size W0 W' → W'.cell? ⟨w.heap.size, 2, none⟩ = some (.int .i64 k) := fun W' h => (h.cell (p := ⟨w.heap.size, 2, none⟩) l0 gw).trans k2
  have hB' := Lib.hid hB
  have hP' := Lib.hid hP
  have hW0' := Lib.hid hW0
  have c1 := wake_any d F s W0 hP.dk
  have c2 := fun w1 F1 (t : Turns F F1 W0 w1) => rwake_any x s w1 (hP.mid t)
  have hfin := fine_wake hP.fine
  have c1' := Lib.hid c1
  have c2' := Lib.hid c2
  have hfin' := Lib.hid hfin
  clear hW0 hB hP hH hS h hall gw l0 c1 c2 hfin k2 k3 hk f1 f2
  go_enter Try.func11, Try.ntmps11
  go_wp2_with fail
  rw [← hW0'.out]
  refine c1'.out.mono ?_
  intro e w1 hs
  have t2' := Lib.hid hs.turns
  have hs' := Lib.hid hs
  obtain ⟨rfl, -, -⟩ := hs
  go_wp2_with fail
  refine (c2'.out w1 F t2'.out).mono ?_
  rintro e w2 ⟨rfl, R2, b2⟩
  have R2' := Lib.hid R2
  have b2' := Lib.hid b2
  clear R2 b2
  go_wp2
  go_ret
  exact ⟨rfl, Goes.before hB'.out (hP'.out.step hs'.out.2.1 t2'.out R2'.out b2'.out hfin'.out)⟩
set_option maxRecDepth 100000 in
theorem do_no (d : Nat) (F : List Nat) (x : Nat) (s : St) (kd : Int) (hkd : kd ≠ 1 ∧ kd ≠ 2 ∧ kd ≠ 3 ∧ kd ≠ 4 ∧ kd ≠ 5 ∧ kd ≠ 6 ∧ kd ≠ 7) (n k : Int) (hk : k ≤ 9223372036854775807) (A : Option Addr) (m c : Nat) (w : World) (h : Pr w d F x s) :
    Calls Try.prog 11 #[.pointer (some ⟨d, 0, none⟩), .pointer (some ⟨x, 0, none⟩), .agg #[.int .i64 kd, .int .i64 n, .int .i64 k, .slice A m c]] w (Does w d F x) := by
  obtain ⟨W0, hW0, hB, hH, hS⟩ := one_box w #[.int .i64 kd, .int .i64 n, .int .i64 k, .slice A m c] 32
  have k0 := hH.cell 0
  have k1 := hH.cell 1
  have k2 := hH.cell 2
  have k3 := hH.cell 3
  simp at k0 k1 k2 k3
  have hP := h.below hB
  have hall := h.dk.all
  have gw : w.heap.size ∉ x :: F := by
    intro hm
    rcases List.mem_cons.1 hm with h1 | h1
    · have := h.rk.lt; omega
    · have := hall _ h1; omega
  have l0 : w.heap.size < W0.heap.size := by omega
  have f1 : ∀ W', BelowE (x :: F) W0.heap.size W0 W' → W'.cell? ⟨w.heap.size, 1, none⟩ = some (.int .i64 n) := fun W' h => (h.cell (p := ⟨w.heap.size, 1, none⟩) l0 gw).trans k1
  have f2 : ∀ W', BelowE (x :: F) W0.heap.size W0 W' → W'.cell? ⟨w.heap.size, 2, none⟩ = some (.int .i64 k) := fun W' h => (h.cell (p := ⟨w.heap.size, 2, none⟩) l0 gw).trans k2
  have hB' := Lib.hid hB
  have hP' := Lib.hid hP
  have hW0' := Lib.hid hW0
  obtain ⟨n1, n2, n3, n4, n5, n6, n7⟩ := hkd
  have h' := Lib.hid h
  clear hW0 hB hP hH hS h hall gw l0 k1 k2 k3 f1 f2 hk hP'
  go_enter Try.func11, Try.ntmps11
  go_wp2
  go_ret
  rw [← hW0'.out]
  exact ⟨rfl, Goes.same h'.out hB'.out⟩
end Go.Proofs.Ytjhakmpinloioaa
