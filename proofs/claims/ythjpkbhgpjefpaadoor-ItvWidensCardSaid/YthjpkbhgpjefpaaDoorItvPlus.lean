/- itv.Plus. -/
import Derived.Test.YthjpkbhgpjefpaaDoorItvMove
namespace Go.Proofs.YthjpkbhgpjefpaaDoor
open Go.RowKit
set_option linter.unusedVariables false
set_option linter.unusedSimpArgs false

/-- The sum's ends, of plain ones'. -/
def psL (a b c d : Int) : Int := if (a == 1 && b == 0) || (c == 1 && d == 0) then 1 else ofL (a + c) (b + d)
def psH (a b c d : Int) : Int := if (a == 1 && b == 0) || (c == 1 && d == 0) then 0 else ofH (a + c) (b + d)
set_option maxRecDepth 100000 in
set_option maxHeartbeats 4000000 in
theorem plus_any (a b c d : Int) (w : World) : Calls Tryd.prog 25 #[.agg #[.int .i64 a, .int .i64 b], .agg #[.int .i64 c, .int .i64 d]] w (Gives (.agg #[.int .i64 (psL (ofL a b) (ofH a b) (ofL c d) (ofH c d)), .int .i64 (psH (ofL a b) (ofH a b) (ofL c d) (ofH c d))]) w) := by
  have px := Lib.hid (fun w => plain_any a b w)
  have py := Lib.hid (fun w => plain_any c d w)
  have hn := Lib.hid (fun w => none_any w)
  have hof := Lib.hid (fun a b w => of_any a b w)
  have hi := of_in a b
  have hj := of_in c d
  have hL : Hid (psL (ofL a b) (ofH a b) (ofL c d) (ofH c d) = if (ofL a b == 1 && ofH a b == 0) || (ofL c d == 1 && ofH c d == 0) then 1 else ofL (ofL a b + ofL c d) (ofH a b + ofH c d)) := Lib.hid rfl
  have hH : Hid (psH (ofL a b) (ofH a b) (ofL c d) (ofH c d) = if (ofL a b == 1 && ofH a b == 0) || (ofL c d == 1 && ofH c d == 0) then 0 else ofH (ofL a b + ofL c d) (ofH a b + ofH c d)) := Lib.hid rfl
  generalize psL (ofL a b) (ofH a b) (ofL c d) (ofH c d) = P at *
  generalize psH (ofL a b) (ofH a b) (ofL c d) (ofH c d) = Q at *
  generalize ofL a b = a1 at *
  generalize ofH a b = b1 at *
  generalize ofL c d = c1 at *
  generalize ofH c d = d1 at *
  go_enter Tryd.func25, Tryd.ntmps25
  go_wp2
  obtain ⟨kx, ky, kr, hB, hS⟩ := box3 w a b c d 0 0
  generalize ((w.alloc (.cells #[.int .i64 a, .int .i64 b] 23)).alloc (.cells #[.int .i64 c, .int .i64 d] 23)).alloc (.cells #[.int .i64 0, .int .i64 0] 23) = w0 at *
  generalize hg : w.heap.size = g at kx ky kr hB hS ⊢
  have x0 := kx.c0
  have x1 := kx.c1
  have y0 := ky.c0
  have y1 := ky.c1
  refine Code.wp_mono (Q := fun ex a' w' => ex = Exit.normal ∧ a' = Act.mk #[.agg #[.int .i64 a, .int .i64 b], .agg #[.int .i64 c, .int .i64 d], .pointer (some ⟨g, 0, none⟩), .pointer (some ⟨g + 1, 0, none⟩), .pointer (some ⟨g + 1 + 1, 0, none⟩), .agg #[.int .i64 a, .int .i64 b], .agg #[.int .i64 a1, .int .i64 b1], .agg #[.int .i64 c, .int .i64 d], .agg #[.int .i64 c1, .int .i64 d1], undef, undef, undef, undef, undef, undef, undef, undef, undef, undef, undef, undef, undef, undef, undef, undef, undef, undef, undef, undef] [] ∧ (Held w' g a1 b1 ∧ Held w' (g + 1) c1 d1 ∧ Held w' (g + 1 + 1) 0 0 ∧ Below g w w' ∧ g + 3 ≤ w'.heap.size)) ?hq ?hr
  case hr =>
    go_region_with (first
      | (go_at_call 40; refine (px.out _).mono ?_; rintro e w1 ⟨rfl, h1⟩
         have kx1 := kx.go h1 rfl rfl (by omega)
         have ky1 := ky.go h1 rfl rfl (by omega)
         have kr1 := kr.go h1 rfl rfl (by omega)
         have hB1 := below_go hB h1 rfl rfl rfl rfl rfl (by omega)
         have hS1 := size_go (w := w0) h1 rfl
         have x0 := kx1.c0
         have x1 := kx1.c1
         have y0 := ky1.c0
         have y1 := ky1.c1)
      | (go_at_call 40; refine (py.out _).mono ?_; rintro e w2 ⟨rfl, h2⟩
         have kx2 := kx1.go h2 rfl rfl (by omega)
         have ky2 := ky1.go h2 rfl rfl (by omega)
         have kr2 := kr1.go h2 rfl rfl (by omega)
         have hB2 := below_go hB1 h2 rfl rfl rfl rfl rfl (by omega)
         have hS2 := size_go (w := w1) h2 rfl
         have x0 := kx2.c0
         have x1 := kx2.c1
         have y0 := ky2.c0
         have y1 := ky2.c1
         have x2 := kx2.f0
         have x3 := kx2.f1
         have y2 := ky2.f0
         have y3 := ky2.f1))
    all_goals exact ⟨rfl, rfl, ((kx2.set a1 b1).other (g := g + 1) (by omega) 0 (.int .i64 c1)).other (g := g + 1) (by omega) 1 (.int .i64 d1),
      ((ky2.other (g := g) (by omega) 0 (.int .i64 a1)).other (g := g) (by omega) 1 (.int .i64 b1)).set c1 d1,
      (((kr2.other (g := g) (by omega) 0 (.int .i64 a1)).other (g := g) (by omega) 1 (.int .i64 b1)).other (g := g + 1) (by omega) 0 (.int .i64 c1)).other (g := g + 1) (by omega) 1 (.int .i64 d1),
      below_two (h := g + 1) (below_two (h := g) hB2 (by omega) a1 b1) (by omega) c1 d1, by rw [size_two, size_two]; omega⟩
  case hq =>
    clear x0 x1 y0 y1 kx ky kr hB hS
    rintro ex a' w3 ⟨rfl, rfl, jx, jy, jr, jB, jS⟩
    have hx0 : ∀ W, Below w3.heap.size w3 W → W.cell? ⟨g, 0, none⟩ = some (.int .i64 a1) := fun W hW => (jx.on hW (by omega)).c0
    have hx1 : ∀ W, Below w3.heap.size w3 W → W.cell? ⟨g, 1, none⟩ = some (.int .i64 b1) := fun W hW => (jx.on hW (by omega)).c1
    have hy0 : ∀ W, Below w3.heap.size w3 W → W.cell? ⟨g + 1, 0, none⟩ = some (.int .i64 c1) := fun W hW => (jy.on hW (by omega)).c0
    have hy1 : ∀ W, Below w3.heap.size w3 W → W.cell? ⟨g + 1, 1, none⟩ = some (.int .i64 d1) := fun W hW => (jy.on hW (by omega)).c1
    go_wp2
    by_cases e1 : (a1 == 1 && b1 == 0) = true
    · have hL := Lib.hid (hL.out.trans (if_pos (by rw [e1]; rfl)))
      have hH := Lib.hid (hH.out.trans (if_pos (by rw [e1]; rfl)))
      have e1' := Lib.hid e1
      clear e1
      refine wp_drawn (by kernel_rfl) (fun hHeld => ?_)
      refine wpAnyH_take (i := 0) (oi := { dst := some 9, op := Go.Op.load 23 (Go.Operand.tmp 2), type := 23, pos := "itv.go:88", after := #[], guard := none }) (v := ?v1) rfl (by kernel_rfl) (by kernel_rfl) (by kernel_rfl) (fun _ _ _ h => h) (Or.inl ⟨by kernel_rfl, ?h1⟩) (by assumption) ?r1
      case h1 => (intro w hSw; (try dsimp only at hSw); go_simp; try with_reducible rfl)
      try simp only [Act.put, List.setIfInBounds_toArray, List.set_cons_zero, List.set_cons_succ]
      refine wpAnyH_ready (rs := [1]) (by kernel_rfl) (by simp) ?_
      refine AllReadyH.cons (o := { dst := some 10, op := Go.Op.call { callee := Go.Callee.value (Go.Operand.func 33), args := #[], argTypes := #[] }, type := 23, pos := "itv.go:88", after := #[], guard := none }) rfl (fun K hK => ?_) AllReadyH.nil
      go_simp
      refine (hn.out _).mono ?_
      rintro e w4 ⟨rfl, h4⟩
      have hw4 : Below w3.heap.size w3 w4 := hHeld.trans (h4.mono (Nat.le_refl _))
      go_simp
      refine hK.out _ _ (hw4) (fun hHeld => ?_)
      clear hK K
      try simp only [Act.put, List.setIfInBounds_toArray, List.set_cons_zero, List.set_cons_succ]
      refine wpAnyH_now hHeld (fun hHeld => ?_)
      replace hx0 := rebase hx0 (hw4)
      replace hx1 := rebase hx1 (hw4)
      replace hy0 := rebase hy0 (hw4)
      replace hy1 := rebase hy1 (hw4)
      refine wpAnyH_take (i := 2) (oi := { dst := some 11, op := Go.Op.binOp Go.BinOp.eql 23 (Go.Operand.tmp 9) (Go.Operand.tmp 10) 23, type := 4, pos := "itv.go:88", after := #[{ on := 0, ground := Go.Ground.data }, { on := 1, ground := Go.Ground.data }], guard := none }) (v := ?v2) rfl (by kernel_rfl) (by kernel_rfl) (by kernel_rfl) (fun _ _ _ h => h) (Or.inl ⟨by kernel_rfl, ?h2⟩) (by assumption) ?r2
      case h2 => (intro w hSw; (try dsimp only at hSw); refine Eq.trans (b := Result.ok (Next.value (.bool true)) w) (by go_simp; have e1 := e1'.out; by_cases h1 : a1 = 1 <;> by_cases h2 : b1 = 0 <;> simp_all) ?_; with_reducible rfl)
      try simp only [Act.put, List.setIfInBounds_toArray, List.set_cons_zero, List.set_cons_succ]
      refine wpAnyH_take (i := 3) (oi := { dst := some 12, op := Go.Op.move (Go.Operand.tmp 11), type := 4, pos := "itv.go:88", after := #[{ on := 2, ground := Go.Ground.data }, { on := 1, ground := Go.Ground.chain }], guard := none }) (v := ?v3) rfl (by kernel_rfl) (by kernel_rfl) (by kernel_rfl) (fun _ _ _ h => h) (Or.inl ⟨by kernel_rfl, ?h3⟩) (by assumption) ?r3
      case h3 => (intro w hSw; (try dsimp only at hSw); go_simp; try with_reducible rfl)
      try simp only [Act.put, List.setIfInBounds_toArray, List.set_cons_zero, List.set_cons_succ]
      refine wpAnyH_take (i := 4) (oi := { dst := some 13, op := Go.Op.load 23 (Go.Operand.tmp 3), type := 23, pos := "itv.go:88", after := #[{ on := 3, ground := Go.Ground.guard }], guard := some (3, false) }) (v := undef) rfl (by kernel_rfl) (by kernel_rfl) (by kernel_rfl) (fun _ _ _ h => h) (Or.inr ⟨by kernel_rfl, rfl⟩) (by assumption) ?_
      try simp only [Act.put, List.setIfInBounds_toArray, List.set_cons_zero, List.set_cons_succ]
      refine wpAnyH_take (i := 5) (oi := { dst := some 14, op := Go.Op.call { callee := Go.Callee.value (Go.Operand.func 33), args := #[], argTypes := #[] }, type := 23, pos := "itv.go:88", after := #[{ on := 3, ground := Go.Ground.chain }, { on := 3, ground := Go.Ground.guard }], guard := some (3, false) }) (v := undef) rfl (by kernel_rfl) (by kernel_rfl) (by kernel_rfl) (fun _ _ _ h => h) (Or.inr ⟨by kernel_rfl, rfl⟩) (by assumption) ?_
      try simp only [Act.put, List.setIfInBounds_toArray, List.set_cons_zero, List.set_cons_succ]
      refine wpAnyH_take (i := 6) (oi := { dst := some 15, op := Go.Op.binOp Go.BinOp.eql 23 (Go.Operand.tmp 13) (Go.Operand.tmp 14) 23, type := 4, pos := "itv.go:88", after := #[{ on := 4, ground := Go.Ground.data }, { on := 5, ground := Go.Ground.data }, { on := 3, ground := Go.Ground.guard }], guard := some (3, false) }) (v := undef) rfl (by kernel_rfl) (by kernel_rfl) (by kernel_rfl) (fun _ _ _ h => h) (Or.inr ⟨by kernel_rfl, rfl⟩) (by assumption) ?_
      try simp only [Act.put, List.setIfInBounds_toArray, List.set_cons_zero, List.set_cons_succ]
      refine wpAnyH_take (i := 7) (oi := { dst := some 16, op := Go.Op.pick (Go.Operand.tmp 12) (Go.Operand.const (Go.Value.bool true)) (Go.Operand.tmp 15), type := 4, pos := "itv.go:88", after := #[{ on := 3, ground := Go.Ground.data }, { on := 6, ground := Go.Ground.data }], guard := none }) (v := ?v7) rfl (by kernel_rfl) (by kernel_rfl) (by kernel_rfl) (fun _ _ _ h => h) (Or.inl ⟨by kernel_rfl, ?h7⟩) (by assumption) ?r7
      case h7 => (intro w hSw; (try dsimp only at hSw); go_simp; try with_reducible rfl)
      try simp only [Act.put, List.setIfInBounds_toArray, List.set_cons_zero, List.set_cons_succ]
      refine wpAnyH_done (by kernel_rfl) ?_ _
      have jr6 := jr.on hw4 (by omega)
      have jx6 := jx.on hw4 (by omega)
      have jy6 := jy.on hw4 (by omega)
      have jB6 := jB.trans (hw4.mono (by omega))
      have jS6 := hw4.size
      have x0 := jx6.c0
      have x1 := jx6.c1
      have y0 := jy6.c0
      have y1 := jy6.c1
      clear hx0 hx1 hy0 hy1
      go_wp2_with fail
      refine (hn.out _).mono ?_
      rintro e w7 ⟨rfl, h7⟩
      have jr7 := jr6.on h7 (by omega)
      have r0 := jr7.c0
      have r1 := jr7.c1
      have r2 := jr7.f0
      have r3 := jr7.f1
      have kk := Lib.hid (fun P Q => jr7.set P Q)
      have kb := Lib.hid (fun P Q => below_two (h := g + 1 + 1) (jB6.trans (h7.mono (by omega))) (by omega) P Q)
      clear jr7 jr6 jx6 jy6 jB6 jS6 h7 x0 x1 y0 y1
      go_wp2
      exact held_ret (kk.out _ _) hL.out.symm hH.out.symm (by rw [hg]; exact kb.out _ _) _ _ 4 rfl rfl rfl
    · have e1 : (a1 == 1 && b1 == 0) = false := by simpa using e1
      rw [e1] at hL hH
      have e1' := Lib.hid e1
      clear e1
      refine wp_drawn (by kernel_rfl) (fun hHeld => ?_)
      refine wpAnyH_take (i := 0) (oi := { dst := some 9, op := Go.Op.load 23 (Go.Operand.tmp 2), type := 23, pos := "itv.go:88", after := #[], guard := none }) (v := ?v8) rfl (by kernel_rfl) (by kernel_rfl) (by kernel_rfl) (fun _ _ _ h => h) (Or.inl ⟨by kernel_rfl, ?h8⟩) (by assumption) ?r8
      case h8 => (intro w hSw; (try dsimp only at hSw); go_simp; try with_reducible rfl)
      try simp only [Act.put, List.setIfInBounds_toArray, List.set_cons_zero, List.set_cons_succ]
      refine wpAnyH_ready (rs := [1]) (by kernel_rfl) (by simp) ?_
      refine AllReadyH.cons (o := { dst := some 10, op := Go.Op.call { callee := Go.Callee.value (Go.Operand.func 33), args := #[], argTypes := #[] }, type := 23, pos := "itv.go:88", after := #[], guard := none }) rfl (fun K hK => ?_) AllReadyH.nil
      go_simp
      refine (hn.out _).mono ?_
      rintro e w4 ⟨rfl, h4⟩
      have hw4 : Below w3.heap.size w3 w4 := hHeld.trans (h4.mono (Nat.le_refl _))
      go_simp
      refine hK.out _ _ (hw4) (fun hHeld => ?_)
      clear hK K
      try simp only [Act.put, List.setIfInBounds_toArray, List.set_cons_zero, List.set_cons_succ]
      refine wpAnyH_now hHeld (fun hHeld => ?_)
      replace hx0 := rebase hx0 (hw4)
      replace hx1 := rebase hx1 (hw4)
      replace hy0 := rebase hy0 (hw4)
      replace hy1 := rebase hy1 (hw4)
      refine wpAnyH_take (i := 2) (oi := { dst := some 11, op := Go.Op.binOp Go.BinOp.eql 23 (Go.Operand.tmp 9) (Go.Operand.tmp 10) 23, type := 4, pos := "itv.go:88", after := #[{ on := 0, ground := Go.Ground.data }, { on := 1, ground := Go.Ground.data }], guard := none }) (v := ?v9) rfl (by kernel_rfl) (by kernel_rfl) (by kernel_rfl) (fun _ _ _ h => h) (Or.inl ⟨by kernel_rfl, ?h9⟩) (by assumption) ?r9
      case h9 => (intro w hSw; (try dsimp only at hSw); refine Eq.trans (b := Result.ok (Next.value (.bool false)) w) (by go_simp; have e1 := e1'.out; by_cases h1 : a1 = 1 <;> by_cases h2 : b1 = 0 <;> simp_all) ?_; with_reducible rfl)
      try simp only [Act.put, List.setIfInBounds_toArray, List.set_cons_zero, List.set_cons_succ]
      refine wpAnyH_take (i := 3) (oi := { dst := some 12, op := Go.Op.move (Go.Operand.tmp 11), type := 4, pos := "itv.go:88", after := #[{ on := 2, ground := Go.Ground.data }, { on := 1, ground := Go.Ground.chain }], guard := none }) (v := ?v10) rfl (by kernel_rfl) (by kernel_rfl) (by kernel_rfl) (fun _ _ _ h => h) (Or.inl ⟨by kernel_rfl, ?h10⟩) (by assumption) ?r10
      case h10 => (intro w hSw; (try dsimp only at hSw); go_simp; try with_reducible rfl)
      try simp only [Act.put, List.setIfInBounds_toArray, List.set_cons_zero, List.set_cons_succ]
      refine wpAnyH_take (i := 4) (oi := { dst := some 13, op := Go.Op.load 23 (Go.Operand.tmp 3), type := 23, pos := "itv.go:88", after := #[{ on := 3, ground := Go.Ground.guard }], guard := some (3, false) }) (v := ?v11) rfl (by kernel_rfl) (by kernel_rfl) (by kernel_rfl) (fun _ _ _ h => h) (Or.inl ⟨by kernel_rfl, ?h11⟩) (by assumption) ?r11
      case h11 => (intro w hSw; (try dsimp only at hSw); go_simp; try with_reducible rfl)
      try simp only [Act.put, List.setIfInBounds_toArray, List.set_cons_zero, List.set_cons_succ]
      refine wpAnyH_ready (rs := [5]) (by kernel_rfl) (by simp) ?_
      refine AllReadyH.cons (o := { dst := some 14, op := Go.Op.call { callee := Go.Callee.value (Go.Operand.func 33), args := #[], argTypes := #[] }, type := 23, pos := "itv.go:88", after := #[{ on := 3, ground := Go.Ground.chain }, { on := 3, ground := Go.Ground.guard }], guard := some (3, false) }) rfl (fun K hK => ?_) AllReadyH.nil
      go_simp
      refine (hn.out _).mono ?_
      rintro e w5 ⟨rfl, h5⟩
      have hw5 : Below w4.heap.size w4 w5 := hHeld.trans (h5.mono (Nat.le_refl _))
      go_simp
      refine hK.out _ _ (hw5) (fun hHeld => ?_)
      clear hK K
      try simp only [Act.put, List.setIfInBounds_toArray, List.set_cons_zero, List.set_cons_succ]
      refine wpAnyH_now hHeld (fun hHeld => ?_)
      replace hx0 := rebase hx0 (hw5)
      replace hx1 := rebase hx1 (hw5)
      replace hy0 := rebase hy0 (hw5)
      replace hy1 := rebase hy1 (hw5)
      refine wpAnyH_take (i := 6) (oi := { dst := some 15, op := Go.Op.binOp Go.BinOp.eql 23 (Go.Operand.tmp 13) (Go.Operand.tmp 14) 23, type := 4, pos := "itv.go:88", after := #[{ on := 4, ground := Go.Ground.data }, { on := 5, ground := Go.Ground.data }, { on := 3, ground := Go.Ground.guard }], guard := some (3, false) }) (v := ?v12) rfl (by kernel_rfl) (by kernel_rfl) (by kernel_rfl) (fun _ _ _ h => h) (Or.inl ⟨by kernel_rfl, ?h12⟩) (by assumption) ?r12
      case h12 => (intro w hSw; (try dsimp only at hSw); refine Eq.trans (b := Result.ok (Next.value (.bool (c1 == 1 && d1 == 0))) w) (by go_simp; by_cases h1 : c1 = 1 <;> by_cases h2 : d1 = 0 <;> simp [h1, h2]) ?_; with_reducible rfl)
      try simp only [Act.put, List.setIfInBounds_toArray, List.set_cons_zero, List.set_cons_succ]
      refine wpAnyH_take (i := 7) (oi := { dst := some 16, op := Go.Op.pick (Go.Operand.tmp 12) (Go.Operand.const (Go.Value.bool true)) (Go.Operand.tmp 15), type := 4, pos := "itv.go:88", after := #[{ on := 3, ground := Go.Ground.data }, { on := 6, ground := Go.Ground.data }], guard := none }) (v := ?v13) rfl (by kernel_rfl) (by kernel_rfl) (by kernel_rfl) (fun _ _ _ h => h) (Or.inl ⟨by kernel_rfl, ?h13⟩) (by assumption) ?r13
      case h13 => (intro w hSw; (try dsimp only at hSw); go_simp; try with_reducible rfl)
      try simp only [Act.put, List.setIfInBounds_toArray, List.set_cons_zero, List.set_cons_succ]
      refine wpAnyH_done (by kernel_rfl) ?_ _
      have hw5 : Below w3.heap.size w3 w5 := hw4.trans (hw5.mono hw4.size)
      have jr6 := jr.on hw5 (by omega)
      have jx6 := jx.on hw5 (by omega)
      have jy6 := jy.on hw5 (by omega)
      have jB6 := jB.trans (hw5.mono (by omega))
      have jS6 := hw5.size
      have x0 := jx6.c0
      have x1 := jx6.c1
      have y0 := jy6.c0
      have y1 := jy6.c1
      clear hx0 hx1 hy0 hy1
      by_cases e2 : (c1 == 1 && d1 == 0) = true
      · have hL := Lib.hid (hL.out.trans (if_pos (by rw [e2]; rfl)))
        have hH := Lib.hid (hH.out.trans (if_pos (by rw [e2]; rfl)))
        rw [e2]
        clear e2
        go_wp2_with fail
        refine (hn.out _).mono ?_
        rintro e w7 ⟨rfl, h7⟩
        have jr7 := jr6.on h7 (by omega)
        have r0 := jr7.c0
        have r1 := jr7.c1
        have r2 := jr7.f0
        have r3 := jr7.f1
        have kk := Lib.hid (fun P Q => jr7.set P Q)
        have kb := Lib.hid (fun P Q => below_two (h := g + 1 + 1) (jB6.trans (h7.mono (by omega))) (by omega) P Q)
        clear jr7 jr6 jx6 jy6 jB6 jS6 h7 x0 x1 y0 y1
        go_wp2
        exact held_ret (kk.out _ _) hL.out.symm hH.out.symm (by rw [hg]; exact kb.out _ _) _ _ 4 rfl rfl rfl
      · have e2 : (c1 == 1 && d1 == 0) = false := by simpa using e2
        have hL := Lib.hid (hL.out.trans (if_neg (by rw [e2]; decide)))
        have hH := Lib.hid (hH.out.trans (if_neg (by rw [e2]; decide)))
        rw [e2]
        clear e2
        go_wp2_with fail
        refine (hof.out _ _ _).mono ?_
        rintro e w7 ⟨rfl, h7⟩
        have jr7 := jr6.on h7 (by omega)
        have r0 := jr7.c0
        have r1 := jr7.c1
        have r2 := jr7.f0
        have r3 := jr7.f1
        have kk := Lib.hid (fun P Q => jr7.set P Q)
        have kb := Lib.hid (fun P Q => below_two (h := g + 1 + 1) (jB6.trans (h7.mono (by omega))) (by omega) P Q)
        clear jr7 jr6 jx6 jy6 jB6 jS6 h7 x0 x1 y0 y1
        go_wp2
        exact held_ret (kk.out _ _) hL.out.symm hH.out.symm (by rw [hg]; exact kb.out _ _) _ _ 4 rfl rfl rfl
end Go.Proofs.YthjpkbhgpjefpaaDoor
