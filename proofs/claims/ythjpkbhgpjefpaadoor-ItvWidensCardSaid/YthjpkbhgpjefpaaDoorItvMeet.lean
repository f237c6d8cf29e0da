/- itv.Meet, Leq, Same, Join, Widen, Size, All. -/
import Derived.Test.YthjpkbhgpjefpaaDoorItvPair
namespace Go.Proofs.YthjpkbhgpjefpaaDoor
open Go.RowKit
set_option linter.unusedVariables false
set_option linter.unusedSimpArgs false

theorem all_any (w : World) : Calls Tryd.prog 31 #[] w (Gives (.agg #[.int .i64 (-1099511627776), .int .i64 1099511627776]) w) := by
  go_enter Tryd.func31, Tryd.ntmps31
  go_wp2
  exact held_ret (Held.new w _ _) rfl rfl ((Below.refl _ w).alloc (Nat.le_refl _) _) _ _ 0 rfl rfl rfl
set_option maxRecDepth 100000 in
set_option maxHeartbeats 1000000 in
theorem meet_any (a b c d : Int) (w : World) : Calls Tryd.prog 21 #[.agg #[.int .i64 a, .int .i64 b], .agg #[.int .i64 c, .int .i64 d]] w (Gives (.agg #[.int .i64 (ofL (max a c) (min b d)), .int .i64 (ofH (max a c) (min b d))]) w) := by
  have hof := Lib.hid (fun a b w => of_any a b w)
  obtain ⟨kx, ky, kr, hB, hS⟩ := box3 w a b c d 0 0
  go_enter Tryd.func21, Tryd.ntmps21
  go_wp2_with fail
  all_goals (
    refine (hof.out _ _ _).mono ?_
    rintro e w1 ⟨rfl, h1⟩
    have jr := kr.on h1 (by omega)
    have jB := hB.trans (h1.mono (by omega))
    have r0 := jr.c0
    have r1 := jr.c1
    have r2 := jr.f0
    have r3 := jr.f1
    have kk := Lib.hid (fun P Q => jr.set P Q)
    have kb := Lib.hid (fun P Q => below_two (h := w.heap.size + 1 + 1) jB (by omega) P Q)
    clear kx ky kr hB hS jr jB h1
    go_wp2
    exact held_ret (kk.out _ _) (by congr 1 <;> grind) (by congr 1 <;> grind) (kb.out _ _) _ _ 4 rfl rfl rfl)
theorem size_itv (a b : Int) (w : World) : Calls Tryd.prog 12 #[.agg #[.int .i64 a, .int .i64 b]] w (Gives (.int .i64 (ofH a b - ofL a b + 1)) w) := by
  have hp := Lib.hid (fun w => plain_any a b w)
  have hr : -1099511627776 ≤ ofL a b ∧ ofL a b ≤ 1099511627776 ∧ -1099511627776 ≤ ofH a b ∧ ofH a b ≤ 1099511627776 := by
    have h1 := clip_in a
    have h2 := clip_in b
    unfold ofL ofH; split <;> omega
  generalize ofL a b = x at *
  generalize ofH a b = y at *
  obtain ⟨kx, hB, hS⟩ := box1 w a b
  go_enter Tryd.func12, Tryd.ntmps12
  go_wp2_with fail
  refine (hp.out _).mono ?_
  rintro e w1 ⟨rfl, h1⟩
  have jx := kx.on h1 (by omega)
  have jB := hB.trans (h1.mono (by omega))
  have r0 := jx.c0
  have r1 := jx.c1
  have r2 := jx.f0
  have r3 := jx.f1
  have j2 := jx.set x y
  have x0 := j2.c0
  have x1 := j2.c1
  have kb := Lib.hid (below_two (h := w.heap.size) jB (by omega) x y)
  clear kx hB hS jx j2 jB h1
  go_wp2
  go_ret
  exact ⟨rfl, kb.out⟩
theorem same_any (a b c d : Int) (w : World) : Calls Tryd.prog 18 #[.agg #[.int .i64 a, .int .i64 b], .agg #[.int .i64 c, .int .i64 d]] w (Gives (.bool (ofL a b == ofL c d && ofH a b == ofH c d)) w) := by
  have px := Lib.hid (fun w => plain_any a b w)
  have py := Lib.hid (fun w => plain_any c d w)
  generalize ofL a b = a1 at *
  generalize ofH a b = b1 at *
  generalize ofL c d = c1 at *
  generalize ofH c d = d1 at *
  go_enter Tryd.func18, Tryd.ntmps18
  go_wp2
  obtain ⟨kx, ky, hB, hS⟩ := box2 w a b c d
  generalize (w.alloc (.cells #[.int .i64 a, .int .i64 b] 23)).alloc (.cells #[.int .i64 c, .int .i64 d] 23) = w0 at *
  generalize hg : w.heap.size = g at kx ky hB hS ⊢
  have hx0 : ∀ W, Below w0.heap.size w0 W → W.cell? ⟨g, 0, none⟩ = some (.int .i64 a) := fun W hW => (kx.on hW (by omega)).c0
  have hx1 : ∀ W, Below w0.heap.size w0 W → W.cell? ⟨g, 1, none⟩ = some (.int .i64 b) := fun W hW => (kx.on hW (by omega)).c1
  have hy0 : ∀ W, Below w0.heap.size w0 W → W.cell? ⟨g + 1, 0, none⟩ = some (.int .i64 c) := fun W hW => (ky.on hW (by omega)).c0
  have hy1 : ∀ W, Below w0.heap.size w0 W → W.cell? ⟨g + 1, 1, none⟩ = some (.int .i64 d) := fun W hW => (ky.on hW (by omega)).c1
  have hG : g ≤ w0.heap.size := by omega
  clear hS
  refine wp_drawn (by kernel_rfl) (fun hHeld => ?_)
  refine wpAnyH_take (i := 0) (oi := { dst := some 5, op := Go.Op.load 23 (Go.Operand.tmp 2), type := 23, pos := "itv.go:52", after := #[], guard := none }) (v := ?v1) rfl (by kernel_rfl) (by kernel_rfl) (by kernel_rfl) (fun _ _ _ h => h) (Or.inl ⟨by kernel_rfl, ?h1⟩) (by assumption) ?r1
  case h1 => (intro w hSw; (try dsimp only at hSw); go_simp; try with_reducible rfl)
  try simp only [Act.put, List.setIfInBounds_toArray, List.set_cons_zero, List.set_cons_succ]
  refine wpAnyH_take (i := 2) (oi := { dst := some 7, op := Go.Op.load 23 (Go.Operand.tmp 3), type := 23, pos := "itv.go:52", after := #[], guard := none }) (v := ?v2) rfl (by kernel_rfl) (by kernel_rfl) (by kernel_rfl) (fun _ _ _ h => h) (Or.inl ⟨by kernel_rfl, ?h2⟩) (by assumption) ?r2
  case h2 => (intro w hSw; (try dsimp only at hSw); go_simp; try with_reducible rfl)
  try simp only [Act.put, List.setIfInBounds_toArray, List.set_cons_zero, List.set_cons_succ]
  refine wpAnyH_ready (rs := [1]) (by kernel_rfl) (by simp) ?_
  refine AllReadyH.cons (o := { dst := some 6, op := Go.Op.call { callee := Go.Callee.value (Go.Operand.func 40), args := #[Go.Operand.tmp 5], argTypes := #[23] }, type := 23, pos := "itv.go:52", after := #[{ on := 0, ground := Go.Ground.data }], guard := none }) rfl (fun K hK => ?_) AllReadyH.nil
  go_simp
  refine (px.out _).mono ?_
  rintro e w1 ⟨rfl, h1⟩
  have hw1 : Below w0.heap.size w0 w1 := hHeld.trans (h1.mono (Nat.le_refl _))
  go_simp
  refine hK.out _ _ (hw1) (fun hHeld => ?_)
  clear hK K
  try simp only [Act.put, List.setIfInBounds_toArray, List.set_cons_zero, List.set_cons_succ]
  refine wpAnyH_now hHeld (fun hHeld => ?_)
  replace hx0 := rebase hx0 (hw1)
  replace hx1 := rebase hx1 (hw1)
  replace hy0 := rebase hy0 (hw1)
  replace hy1 := rebase hy1 (hw1)
  refine wpAnyH_ready (rs := [3]) (by kernel_rfl) (by simp) ?_
  refine AllReadyH.cons (o := { dst := some 8, op := Go.Op.call { callee := Go.Callee.value (Go.Operand.func 40), args := #[Go.Operand.tmp 7], argTypes := #[23] }, type := 23, pos := "itv.go:52", after := #[{ on := 2, ground := Go.Ground.data }, { on := 1, ground := Go.Ground.chain }], guard := none }) rfl (fun K hK => ?_) AllReadyH.nil
  go_simp
  refine (py.out _).mono ?_
  rintro e w2 ⟨rfl, h2⟩
  have hw2 : Below w1.heap.size w1 w2 := hHeld.trans (h2.mono (Nat.le_refl _))
  go_simp
  refine hK.out _ _ (hw2) (fun hHeld => ?_)
  clear hK K
  try simp only [Act.put, List.setIfInBounds_toArray, List.set_cons_zero, List.set_cons_succ]
  refine wpAnyH_now hHeld (fun hHeld => ?_)
  replace hx0 := rebase hx0 (hw2)
  replace hx1 := rebase hx1 (hw2)
  replace hy0 := rebase hy0 (hw2)
  replace hy1 := rebase hy1 (hw2)
  refine wpAnyH_take (i := 4) (oi := { dst := some 9, op := Go.Op.binOp Go.BinOp.eql 23 (Go.Operand.tmp 6) (Go.Operand.tmp 8) 23, type := 4, pos := "itv.go:52", after := #[{ on := 1, ground := Go.Ground.data }, { on := 3, ground := Go.Ground.data }], guard := none }) (v := ?v3) rfl (by kernel_rfl) (by kernel_rfl) (by kernel_rfl) (fun _ _ _ h => h) (Or.inl ⟨by kernel_rfl, ?h3⟩) (by assumption) ?r3
  case h3 => (intro w hSw; (try dsimp only at hSw); refine Eq.trans (b := Result.ok (Next.value (.bool (a1 == c1 && b1 == d1))) w) (by go_simp; by_cases h1 : a1 = c1 <;> by_cases h2 : b1 = d1 <;> simp [h1, h2]) ?_; with_reducible rfl)
  try simp only [Act.put, List.setIfInBounds_toArray, List.set_cons_zero, List.set_cons_succ]
  refine wpAnyH_take (i := 5) (oi := { dst := some 4, op := Go.Op.assign (Go.Operand.tmp 9), type := 4, pos := "itv.go:52", after := #[{ on := 4, ground := Go.Ground.data }, { on := 3, ground := Go.Ground.chain }, { on := 0, ground := Go.Ground.phase }, { on := 1, ground := Go.Ground.phase }, { on := 2, ground := Go.Ground.phase }, { on := 3, ground := Go.Ground.phase }, { on := 4, ground := Go.Ground.phase }], guard := none }) (v := ?v4) rfl (by kernel_rfl) (by kernel_rfl) (by kernel_rfl) (fun _ _ _ h => h) (Or.inl ⟨by kernel_rfl, ?h4⟩) (by assumption) ?r4
  case h4 => (intro w hSw; (try dsimp only at hSw); go_simp; try with_reducible rfl)
  try simp only [Act.put, List.setIfInBounds_toArray, List.set_cons_zero, List.set_cons_succ]
  refine wpAnyH_done (by kernel_rfl) ?_ _
  go_wp2
  go_ret
  exact ⟨rfl, by rw [hg]; exact (hB.trans (hw1.mono (by omega))).trans (hw2.mono (by have := hw1.size; omega))⟩
theorem leq_any (a b c d : Int) (w : World) : Calls Tryd.prog 16 #[.agg #[.int .i64 a, .int .i64 b], .agg #[.int .i64 c, .int .i64 d]] w (Gives (.bool (ofL (max a c) (min b d) == ofL a b && ofH (max a c) (min b d) == ofH a b)) w) := by
  have px := Lib.hid (fun w => plain_any a b w)
  have pm := Lib.hid (fun w => meet_any a b c d w)
  generalize ofL a b = a1 at *
  generalize ofH a b = b1 at *
  generalize ofL (max a c) (min b d) = c1 at *
  generalize ofH (max a c) (min b d) = d1 at *
  go_enter Tryd.func16, Tryd.ntmps16
  go_wp2
  obtain ⟨kx, ky, hB, hS⟩ := box2 w a b c d
  generalize (w.alloc (.cells #[.int .i64 a, .int .i64 b] 23)).alloc (.cells #[.int .i64 c, .int .i64 d] 23) = w0 at *
  generalize hg : w.heap.size = g at kx ky hB hS ⊢
  have hx0 : ∀ W, Below w0.heap.size w0 W → W.cell? ⟨g, 0, none⟩ = some (.int .i64 a) := fun W hW => (kx.on hW (by omega)).c0
  have hx1 : ∀ W, Below w0.heap.size w0 W → W.cell? ⟨g, 1, none⟩ = some (.int .i64 b) := fun W hW => (kx.on hW (by omega)).c1
  have hy0 : ∀ W, Below w0.heap.size w0 W → W.cell? ⟨g + 1, 0, none⟩ = some (.int .i64 c) := fun W hW => (ky.on hW (by omega)).c0
  have hy1 : ∀ W, Below w0.heap.size w0 W → W.cell? ⟨g + 1, 1, none⟩ = some (.int .i64 d) := fun W hW => (ky.on hW (by omega)).c1
  have hG : g ≤ w0.heap.size := by omega
  clear hS
  refine wp_drawn (by kernel_rfl) (fun hHeld => ?_)
  refine wpAnyH_take (i := 0) (oi := { dst := some 5, op := Go.Op.load 23 (Go.Operand.tmp 2), type := 23, pos := "itv.go:49", after := #[], guard := none }) (v := ?v5) rfl (by kernel_rfl) (by kernel_rfl) (by kernel_rfl) (fun _ _ _ h => h) (Or.inl ⟨by kernel_rfl, ?h5⟩) (by assumption) ?r5
  case h5 => (intro w hSw; (try dsimp only at hSw); go_simp; try with_reducible rfl)
  try simp only [Act.put, List.setIfInBounds_toArray, List.set_cons_zero, List.set_cons_succ]
  refine wpAnyH_take (i := 1) (oi := { dst := some 6, op := Go.Op.load 23 (Go.Operand.tmp 3), type := 23, pos := "itv.go:49", after := #[], guard := none }) (v := ?v6) rfl (by kernel_rfl) (by kernel_rfl) (by kernel_rfl) (fun _ _ _ h => h) (Or.inl ⟨by kernel_rfl, ?h6⟩) (by assumption) ?r6
  case h6 => (intro w hSw; (try dsimp only at hSw); go_simp; try with_reducible rfl)
  try simp only [Act.put, List.setIfInBounds_toArray, List.set_cons_zero, List.set_cons_succ]
  refine wpAnyH_take (i := 3) (oi := { dst := some 8, op := Go.Op.load 23 (Go.Operand.tmp 2), type := 23, pos := "itv.go:49", after := #[], guard := none }) (v := ?v7) rfl (by kernel_rfl) (by kernel_rfl) (by kernel_rfl) (fun _ _ _ h => h) (Or.inl ⟨by kernel_rfl, ?h7⟩) (by assumption) ?r7
  case h7 => (intro w hSw; (try dsimp only at hSw); go_simp; try with_reducible rfl)
  try simp only [Act.put, List.setIfInBounds_toArray, List.set_cons_zero, List.set_cons_succ]
  refine wpAnyH_ready (rs := [2]) (by kernel_rfl) (by simp) ?_
  refine AllReadyH.cons (o := { dst := some 7, op := Go.Op.call { callee := Go.Callee.value (Go.Operand.func 21), args := #[Go.Operand.tmp 5, Go.Operand.tmp 6], argTypes := #[23, 23] }, type := 23, pos := "itv.go:49", after := #[{ on := 0, ground := Go.Ground.data }, { on := 1, ground := Go.Ground.data }], guard := none }) rfl (fun K hK => ?_) AllReadyH.nil
  go_simp
  refine (pm.out _).mono ?_
  rintro e w1 ⟨rfl, h1⟩
  have hw1 : Below w0.heap.size w0 w1 := hHeld.trans (h1.mono (Nat.le_refl _))
  go_simp
  refine hK.out _ _ (hw1) (fun hHeld => ?_)
  clear hK K
  try simp only [Act.put, List.setIfInBounds_toArray, List.set_cons_zero, List.set_cons_succ]
  refine wpAnyH_now hHeld (fun hHeld => ?_)
  replace hx0 := rebase hx0 (hw1)
  replace hx1 := rebase hx1 (hw1)
  replace hy0 := rebase hy0 (hw1)
  replace hy1 := rebase hy1 (hw1)
  refine wpAnyH_ready (rs := [4]) (by kernel_rfl) (by simp) ?_
  refine AllReadyH.cons (o := { dst := some 9, op := Go.Op.call { callee := Go.Callee.value (Go.Operand.func 40), args := #[Go.Operand.tmp 8], argTypes := #[23] }, type := 23, pos := "itv.go:49", after := #[{ on := 3, ground := Go.Ground.data }, { on := 2, ground := Go.Ground.chain }], guard := none }) rfl (fun K hK => ?_) AllReadyH.nil
  go_simp
  refine (px.out _).mono ?_
  rintro e w2 ⟨rfl, h2⟩
  have hw2 : Below w1.heap.size w1 w2 := hHeld.trans (h2.mono (Nat.le_refl _))
  go_simp
  refine hK.out _ _ (hw2) (fun hHeld => ?_)
  clear hK K
  try simp only [Act.put, List.setIfInBounds_toArray, List.set_cons_zero, List.set_cons_succ]
  refine wpAnyH_now hHeld (fun hHeld => ?_)
  replace hx0 := rebase hx0 (hw2)
  replace hx1 := rebase hx1 (hw2)
  replace hy0 := rebase hy0 (hw2)
  replace hy1 := rebase hy1 (hw2)
  refine wpAnyH_take (i := 5) (oi := { dst := some 10, op := Go.Op.binOp Go.BinOp.eql 23 (Go.Operand.tmp 7) (Go.Operand.tmp 9) 23, type := 4, pos := "itv.go:49", after := #[{ on := 2, ground := Go.Ground.data }, { on := 4, ground := Go.Ground.data }], guard := none }) (v := ?v8) rfl (by kernel_rfl) (by kernel_rfl) (by kernel_rfl) (fun _ _ _ h => h) (Or.inl ⟨by kernel_rfl, ?h8⟩) (by assumption) ?r8
  case h8 => (intro w hSw; (try dsimp only at hSw); refine Eq.trans (b := Result.ok (Next.value (.bool (c1 == a1 && d1 == b1))) w) (by go_simp; by_cases h1 : c1 = a1 <;> by_cases h2 : d1 = b1 <;> simp [h1, h2]) ?_; with_reducible rfl)
  try simp only [Act.put, List.setIfInBounds_toArray, List.set_cons_zero, List.set_cons_succ]
  refine wpAnyH_take (i := 6) (oi := { dst := some 4, op := Go.Op.assign (Go.Operand.tmp 10), type := 4, pos := "itv.go:49", after := #[{ on := 5, ground := Go.Ground.data }, { on := 4, ground := Go.Ground.chain }, { on := 0, ground := Go.Ground.phase }, { on := 1, ground := Go.Ground.phase }, { on := 2, ground := Go.Ground.phase }, { on := 3, ground := Go.Ground.phase }, { on := 4, ground := Go.Ground.phase }, { on := 5, ground := Go.Ground.phase }], guard := none }) (v := ?v9) rfl (by kernel_rfl) (by kernel_rfl) (by kernel_rfl) (fun _ _ _ h => h) (Or.inl ⟨by kernel_rfl, ?h9⟩) (by assumption) ?r9
  case h9 => (intro w hSw; (try dsimp only at hSw); go_simp; try with_reducible rfl)
  try simp only [Act.put, List.setIfInBounds_toArray, List.set_cons_zero, List.set_cons_succ]
  refine wpAnyH_done (by kernel_rfl) ?_ _
  go_wp2
  go_ret
  exact ⟨rfl, by rw [hg]; exact (hB.trans (hw1.mono (by omega))).trans (hw2.mono (by have := hw1.size; omega))⟩
theorem join1_any (a b c d : Int) (w : World) : Calls Tryd.prog 44 #[.agg #[.int .i64 a, .int .i64 b], .agg #[.int .i64 c, .int .i64 d]] w (Gives (.agg #[.int .i64 (min a c), .int .i64 (max b d)]) w) := by
  have hB := fun P Q => (box3 w a b c d P Q).2.2.2.1
  have hr := fun P Q => (box3 w a b c d P Q).2.2.1
  go_enter Tryd.func44, Tryd.ntmps44
  go_wp2
  all_goals exact held_ret (hr _ _) (by grind) (by grind) (hB _ _) _ _ 4 rfl rfl rfl
theorem widen1_any (a b c d : Int) (w : World) : Calls Tryd.prog 46 #[.agg #[.int .i64 a, .int .i64 b], .agg #[.int .i64 c, .int .i64 d]] w (Gives (.agg #[.int .i64 (if c < a then -1099511627776 else a), .int .i64 (if b < d then 1099511627776 else b)]) w) := by
  have hB := fun A B P Q => (box3 w A B c d P Q).2.2.2.1
  have hr := fun A B P Q => (box3 w A B c d P Q).2.2.1
  go_enter Tryd.func46, Tryd.ntmps46
  go_wp2
  all_goals exact held_ret (hr _ _ _ _) (by grind) (by grind) (hB _ _ _ _) _ _ 4 rfl rfl rfl
end Go.Proofs.YthjpkbhgpjefpaaDoor
