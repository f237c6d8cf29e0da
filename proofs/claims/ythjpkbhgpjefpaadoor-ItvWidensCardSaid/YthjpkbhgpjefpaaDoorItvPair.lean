/- Boxes of intervals; what both come to, if both have values. -/
import Derived.Test.YthjpkbhgpjefpaaDoorItvOf
namespace Go.Proofs.YthjpkbhgpjefpaaDoor
open Go.RowKit
set_option linter.unusedVariables false
set_option linter.unusedSimpArgs false

theorem box1 (w : World) (a b : Int) : Held (w.alloc (.cells #[.int .i64 a, .int .i64 b] 23)) w.heap.size a b ∧ Below w.heap.size w (w.alloc (.cells #[.int .i64 a, .int .i64 b] 23)) ∧ (w.alloc (.cells #[.int .i64 a, .int .i64 b] 23)).heap.size = w.heap.size + 1 :=
  ⟨Held.new w a b, (Below.refl _ w).alloc (Nat.le_refl _) _, by simp⟩
theorem box2 (w : World) (a b c d : Int) : Held ((w.alloc (.cells #[.int .i64 a, .int .i64 b] 23)).alloc (.cells #[.int .i64 c, .int .i64 d] 23)) w.heap.size a b ∧
    Held ((w.alloc (.cells #[.int .i64 a, .int .i64 b] 23)).alloc (.cells #[.int .i64 c, .int .i64 d] 23)) (w.heap.size + 1) c d ∧
    Below w.heap.size w ((w.alloc (.cells #[.int .i64 a, .int .i64 b] 23)).alloc (.cells #[.int .i64 c, .int .i64 d] 23)) ∧
    ((w.alloc (.cells #[.int .i64 a, .int .i64 b] 23)).alloc (.cells #[.int .i64 c, .int .i64 d] 23)).heap.size = w.heap.size + 2 := by
  have h := Held.new (w.alloc (.cells #[.int .i64 a, .int .i64 b] 23)) c d
  rw [size_alloc1] at h
  exact ⟨(Held.new w a b).alloc (by simp) _, h, two_below w _ _, by simp⟩
theorem box3 (w : World) (a b c d x y : Int) : Held (((w.alloc (.cells #[.int .i64 a, .int .i64 b] 23)).alloc (.cells #[.int .i64 c, .int .i64 d] 23)).alloc (.cells #[.int .i64 x, .int .i64 y] 23)) w.heap.size a b ∧
    Held (((w.alloc (.cells #[.int .i64 a, .int .i64 b] 23)).alloc (.cells #[.int .i64 c, .int .i64 d] 23)).alloc (.cells #[.int .i64 x, .int .i64 y] 23)) (w.heap.size + 1) c d ∧
    Held (((w.alloc (.cells #[.int .i64 a, .int .i64 b] 23)).alloc (.cells #[.int .i64 c, .int .i64 d] 23)).alloc (.cells #[.int .i64 x, .int .i64 y] 23)) (w.heap.size + 1 + 1) x y ∧
    Below w.heap.size w (((w.alloc (.cells #[.int .i64 a, .int .i64 b] 23)).alloc (.cells #[.int .i64 c, .int .i64 d] 23)).alloc (.cells #[.int .i64 x, .int .i64 y] 23)) ∧
    (((w.alloc (.cells #[.int .i64 a, .int .i64 b] 23)).alloc (.cells #[.int .i64 c, .int .i64 d] 23)).alloc (.cells #[.int .i64 x, .int .i64 y] 23)).heap.size = w.heap.size + 3 := by
  obtain ⟨k1, k2, kb, ks⟩ := box2 w a b c d
  have h := Held.new ((w.alloc (.cells #[.int .i64 a, .int .i64 b] 23)).alloc (.cells #[.int .i64 c, .int .i64 d] 23)) x y
  rw [size_alloc1, size_alloc1] at h
  exact ⟨k1.alloc (by simp; omega) _, k2.alloc (by simp) _, h, three_below w _ _ _, by simp⟩

theorem Held.go {w W w' : World} {g B : Nat} {a b : Int} (h : Held w g a b) (hb : Below B W w') (hh : W.heap = w.heap) (hB : B = W.heap.size) (hg : g < w.heap.size) : Held w' g a b := by
  unfold Held at *
  rw [hb.block g (by rw [hB, hh]; exact hg), hh]; exact h
theorem below_go {w W w' w0 : World} {g B : Nat} (h : Below g w0 w) (hb : Below B W w') (hh : W.heap = w.heap) (ho : W.os = w.os) (ht : W.tape = w.tape) (hu : W.output = w.output) (hB : B = W.heap.size) (hg : g ≤ w.heap.size) : Below g w0 w' :=
  ⟨hb.os.trans (ho.trans h.os), hb.tape.trans (ht.trans h.tape), hb.output.trans (hu.trans h.output), by have h1 := hb.size; rw [hh] at h1; exact Nat.le_trans h.size h1, fun i hi => by rw [hb.block i (by rw [hB, hh]; omega), hh]; exact h.block i hi⟩
theorem size_go {W w w' : World} {B : Nat} (hb : Below B W w') (hh : W.heap = w.heap) : w.heap.size ≤ w'.heap.size := by have h1 := hb.size; rw [hh] at h1; exact h1
/-- What both come to: what is to be shown of it. -/
def Comes (f : Nat) (a b c d P Q : Int) : Prop :=
  if a == 1 && b == 0 then P = c ∧ Q = d else if c == 1 && d == 0 then P = a ∧ Q = b else ∀ w, Calls Tryd.prog f #[.agg #[.int .i64 a, .int .i64 b], .agg #[.int .i64 c, .int .i64 d]] w (Gives (.agg #[.int .i64 P, .int .i64 Q]) w)
theorem below_two {g h : Nat} {w0 w : World} (hb : Below g w0 w) (hg : g ≤ h) (x y : Int) : Below g w0 ((w.setCell ⟨h, 0, none⟩ (.int .i64 x)).setCell ⟨h, 1, none⟩ (.int .i64 y)) :=
  (hb.setCell (p := ⟨h, 0, none⟩) hg _).setCell (p := ⟨h, 1, none⟩) hg _
theorem size_two (h : Nat) (w : World) (x y : Int) : ((w.setCell ⟨h, 0, none⟩ (.int .i64 x)).setCell ⟨h, 1, none⟩ (.int .i64 y)).heap.size = w.heap.size := by simp

set_option maxRecDepth 100000 in
set_option maxHeartbeats 4000000 in
theorem unless_any (a b c d : Int) (f : Nat) (hen : ∀ args w, (callFunc f args).run Tryd.prog w = .ok (.enter f args) w) (P Q : Int) (w : World) (hcm : Comes f (ofL a b) (ofH a b) (ofL c d) (ofH c d) P Q) : Calls Tryd.prog 43 #[.agg #[.int .i64 a, .int .i64 b], .agg #[.int .i64 c, .int .i64 d], .func (.func f) #[] #[]] w (Gives (.agg #[.int .i64 P, .int .i64 Q]) w) := by
  have px := Lib.hid (fun w => plain_any a b w)
  have py := Lib.hid (fun w => plain_any c d w)
  have hn := Lib.hid (fun w => none_any w)
  unfold Comes at hcm
  generalize ofL a b = a1 at *
  generalize ofH a b = b1 at *
  generalize ofL c d = c1 at *
  generalize ofH c d = d1 at *
  have hcm' := Lib.hid hcm
  clear hcm
  go_enter Tryd.func43, Tryd.ntmps43
  go_wp2
  obtain ⟨kx, ky, kr, hB, hS⟩ := box3 w a b c d 0 0
  generalize ((w.alloc (.cells #[.int .i64 a, .int .i64 b] 23)).alloc (.cells #[.int .i64 c, .int .i64 d] 23)).alloc (.cells #[.int .i64 0, .int .i64 0] 23) = w0 at *
  generalize hg : w.heap.size = g at kx ky kr hB hS ⊢
  have x0 := kx.c0
  have x1 := kx.c1
  have y0 := ky.c0
  have y1 := ky.c1
  refine Code.wp_mono (Q := fun ex a' w' => ex = Exit.normal ∧ a' = Act.mk #[.agg #[.int .i64 a, .int .i64 b], .agg #[.int .i64 c, .int .i64 d], .func (.func f) #[] #[], .pointer (some ⟨g, 0, none⟩), .pointer (some ⟨g + 1, 0, none⟩), undef, .pointer (some ⟨g + 1 + 1, 0, none⟩), .agg #[.int .i64 a, .int .i64 b], .agg #[.int .i64 a1, .int .i64 b1], .agg #[.int .i64 c, .int .i64 d], .agg #[.int .i64 c1, .int .i64 d1], undef, undef, undef, undef, undef, undef, undef, undef, undef, undef, undef, undef] [] ∧ (Held w' g a1 b1 ∧ Held w' (g + 1) c1 d1 ∧ Held w' (g + 1 + 1) 0 0 ∧ Below g w w' ∧ g + 3 ≤ w'.heap.size)) ?hq ?hr
  case hr =>
    go_region_with (first
      | (go_at_call 40; refine (px.out _).mono ?_; rintro e w1 ⟨rfl, h1⟩
         have kx1 := kx.go h1 rfl rfl (by omega)
         have ky1 := ky.go h1 rfl rfl (by omega)
         have kr1 := kr.go h1 rfl rfl (by omega)
         have hB1 := below_go hB h1 rfl rfl rfl rfl rfl (by omega)
         have hS1 := size_go (w := w0) h1 rfl
         have x0 := kx1.c0
         have x1 := kx1.c1
         have y0 := ky1.c0
         have y1 := ky1.c1)
      | (go_at_call 40; refine (py.out _).mono ?_; rintro e w2 ⟨rfl, h2⟩
         have kx2 := kx1.go h2 rfl rfl (by omega)
         have ky2 := ky1.go h2 rfl rfl (by omega)
         have kr2 := kr1.go h2 rfl rfl (by omega)
         have hB2 := below_go hB1 h2 rfl rfl rfl rfl rfl (by omega)
         have hS2 := size_go (w := w1) h2 rfl
         have x0 := kx2.c0
         have x1 := kx2.c1
         have y0 := ky2.c0
         have y1 := ky2.c1
         have x2 := kx2.f0
         have x3 := kx2.f1
         have y2 := ky2.f0
         have y3 := ky2.f1))
    all_goals exact ⟨rfl, rfl, ((kx2.set a1 b1).other (g := g + 1) (by omega) 0 (.int .i64 c1)).other (g := g + 1) (by omega) 1 (.int .i64 d1),
      ((ky2.other (g := g) (by omega) 0 (.int .i64 a1)).other (g := g) (by omega) 1 (.int .i64 b1)).set c1 d1,
      (((kr2.other (g := g) (by omega) 0 (.int .i64 a1)).other (g := g) (by omega) 1 (.int .i64 b1)).other (g := g + 1) (by omega) 0 (.int .i64 c1)).other (g := g + 1) (by omega) 1 (.int .i64 d1),
      below_two (h := g + 1) (below_two (h := g) hB2 (by omega) a1 b1) (by omega) c1 d1, by rw [size_two, size_two]; omega⟩
  case hq =>
    clear x0 x1 y0 y1 kx ky kr hB hS
    rintro ex a' w3 ⟨rfl, rfl, jx, jy, jr, jB, jS⟩
    have jx := Lib.hid jx
    have jy := Lib.hid jy
    have jr := Lib.hid jr
    have jB := Lib.hid jB
    have hx0 : ∀ W, Below w3.heap.size w3 W → W.cell? ⟨g, 0, none⟩ = some (.int .i64 a1) := fun W hW => (jx.out.on hW (by omega)).c0
    have hx1 : ∀ W, Below w3.heap.size w3 W → W.cell? ⟨g, 1, none⟩ = some (.int .i64 b1) := fun W hW => (jx.out.on hW (by omega)).c1
    have hy0 : ∀ W, Below w3.heap.size w3 W → W.cell? ⟨g + 1, 0, none⟩ = some (.int .i64 c1) := fun W hW => (jy.out.on hW (by omega)).c0
    have hy1 : ∀ W, Below w3.heap.size w3 W → W.cell? ⟨g + 1, 1, none⟩ = some (.int .i64 d1) := fun W hW => (jy.out.on hW (by omega)).c1
    go_wp2
    refine wp_drawn (by kernel_rfl) (fun hHeld => ?_)
    refine wpAnyH_take (i := 0) (oi := { dst := some 11, op := Go.Op.load 23 (Go.Operand.tmp 3), type := 23, pos := "itv.go:64", after := #[], guard := none }) (v := ?v1) rfl (by kernel_rfl) (by kernel_rfl) (by kernel_rfl) (fun _ _ _ h => h) (Or.inl ⟨by kernel_rfl, ?h1⟩) (by assumption) ?r1
    case h1 => (intro w hSw; (try dsimp only at hSw); go_simp; try with_reducible rfl)
    try simp only [Act.put, List.setIfInBounds_toArray, List.set_cons_zero, List.set_cons_succ]
    refine wpAnyH_ready (rs := [1]) (by kernel_rfl) (by simp) ?_
    refine AllReadyH.cons (o := { dst := some 12, op := Go.Op.call { callee := Go.Callee.value (Go.Operand.func 33), args := #[], argTypes := #[] }, type := 23, pos := "itv.go:64", after := #[], guard := none }) rfl (fun K hK => ?_) AllReadyH.nil
    go_simp
    refine (hn.out _).mono ?_
    rintro e w4 ⟨rfl, h4⟩
    have hw4 : Below w3.heap.size w3 w4 := hHeld.trans (h4.mono (Nat.le_refl _))
    go_simp
    refine hK.out _ _ (hw4) (fun hHeld => ?_)
    clear hK K
    try simp only [Act.put, List.setIfInBounds_toArray, List.set_cons_zero, List.set_cons_succ]
    refine wpAnyH_now hHeld (fun hHeld => ?_)
    replace hx0 := rebase hx0 (hw4)
    replace hx1 := rebase hx1 (hw4)
    replace hy0 := rebase hy0 (hw4)
    replace hy1 := rebase hy1 (hw4)
    refine wpAnyH_take (i := 2) (oi := { dst := some 13, op := Go.Op.binOp Go.BinOp.eql 23 (Go.Operand.tmp 11) (Go.Operand.tmp 12) 23, type := 4, pos := "itv.go:64", after := #[{ on := 0, ground := Go.Ground.data }, { on := 1, ground := Go.Ground.data }], guard := none }) (v := ?v2) rfl (by kernel_rfl) (by kernel_rfl) (by kernel_rfl) (fun _ _ _ h => h) (Or.inl ⟨by kernel_rfl, ?h2⟩) (by assumption) ?r2
    case h2 => (intro w hSw; (try dsimp only at hSw); refine Eq.trans (b := Result.ok (Next.value (.bool (a1 == 1 && b1 == 0))) w) (by go_simp; by_cases h1 : a1 = 1 <;> by_cases h2 : b1 = 0 <;> simp [h1, h2]) ?_; with_reducible rfl)
    try simp only [Act.put, List.setIfInBounds_toArray, List.set_cons_zero, List.set_cons_succ]
    refine wpAnyH_done (by kernel_rfl) ?_ _
    have jr4 := jr.out.on hw4 (by omega)
    have jy4 := jy.out.on hw4 (by omega)
    have jx4 := jx.out.on hw4 (by omega)
    have jB4 := jB.out.trans (hw4.mono (by omega))
    have jS4 := hw4.size
    have y0 := jy4.c0
    have y1 := jy4.c1
    have r0 := jr4.c0
    have r1 := jr4.c1
    have r2 := jr4.f0
    have r3 := jr4.f1
    have hcm := hcm'.out
    by_cases e1 : (a1 == 1 && b1 == 0) = true
    · rw [if_pos e1] at hcm
      obtain ⟨rfl, rfl⟩ := hcm
      have kk := Lib.hid (jr4.set P Q)
      have kb := Lib.hid (below_two (h := g + 1 + 1) jB4 (by omega) P Q)
      rw [e1]
      clear e1 hcm' jr4 jy4 jx4 jB4 hx0 hx1 hy0 hy1
      go_wp2
      exact held_ret kk.out rfl rfl (by rw [hg]; exact kb.out) _ _ 6 rfl rfl rfl
    · have e1 : (a1 == 1 && b1 == 0) = false := by simpa using e1
      rw [e1, if_neg (by decide)] at hcm
      rw [e1]
      clear y0 y1 r0 r1 r2 r3
      have hcm'' := Lib.hid hcm
      clear hcm hcm' e1
      go_wp2
      refine wp_drawn (by kernel_rfl) (fun hHeld => ?_)
      refine wpAnyH_take (i := 0) (oi := { dst := some 15, op := Go.Op.load 23 (Go.Operand.tmp 4), type := 23, pos := "itv.go:67", after := #[], guard := none }) (v := ?v3) rfl (by kernel_rfl) (by kernel_rfl) (by kernel_rfl) (fun _ _ _ h => h) (Or.inl ⟨by kernel_rfl, ?h3⟩) (by assumption) ?r3
      case h3 => (intro w hSw; (try dsimp only at hSw); go_simp; try with_reducible rfl)
      try simp only [Act.put, List.setIfInBounds_toArray, List.set_cons_zero, List.set_cons_succ]
      refine wpAnyH_ready (rs := [1]) (by kernel_rfl) (by simp) ?_
      refine AllReadyH.cons (o := { dst := some 16, op := Go.Op.call { callee := Go.Callee.value (Go.Operand.func 33), args := #[], argTypes := #[] }, type := 23, pos := "itv.go:67", after := #[], guard := none }) rfl (fun K hK => ?_) AllReadyH.nil
      go_simp
      refine (hn.out _).mono ?_
      rintro e w5 ⟨rfl, h5⟩
      have hw5 : Below w4.heap.size w4 w5 := hHeld.trans (h5.mono (Nat.le_refl _))
      go_simp
      refine hK.out _ _ (hw5) (fun hHeld => ?_)
      clear hK K
      try simp only [Act.put, List.setIfInBounds_toArray, List.set_cons_zero, List.set_cons_succ]
      refine wpAnyH_now hHeld (fun hHeld => ?_)
      replace hx0 := rebase hx0 (hw5)
      replace hx1 := rebase hx1 (hw5)
      replace hy0 := rebase hy0 (hw5)
      replace hy1 := rebase hy1 (hw5)
      refine wpAnyH_take (i := 2) (oi := { dst := some 17, op := Go.Op.binOp Go.BinOp.eql 23 (Go.Operand.tmp 15) (Go.Operand.tmp 16) 23, type := 4, pos := "itv.go:67", after := #[{ on := 0, ground := Go.Ground.data }, { on := 1, ground := Go.Ground.data }], guard := none }) (v := ?v4) rfl (by kernel_rfl) (by kernel_rfl) (by kernel_rfl) (fun _ _ _ h => h) (Or.inl ⟨by kernel_rfl, ?h4⟩) (by assumption) ?r4
      case h4 => (intro w hSw; (try dsimp only at hSw); refine Eq.trans (b := Result.ok (Next.value (.bool (c1 == 1 && d1 == 0))) w) (by go_simp; by_cases h1 : c1 = 1 <;> by_cases h2 : d1 = 0 <;> simp [h1, h2]) ?_; with_reducible rfl)
      try simp only [Act.put, List.setIfInBounds_toArray, List.set_cons_zero, List.set_cons_succ]
      refine wpAnyH_done (by kernel_rfl) ?_ _
      have jr5 := jr4.on hw5 (by omega)
      have jy5 := jy4.on hw5 (by omega)
      have jx5 := jx4.on hw5 (by omega)
      have jB5 := jB4.trans (hw5.mono (by omega))
      have jS5 := hw5.size
      have x0 := jx5.c0
      have x1 := jx5.c1
      have y0 := jy5.c0
      have y1 := jy5.c1
      have hcm := hcm''.out
      by_cases e2 : (c1 == 1 && d1 == 0) = true
      · rw [if_pos e2] at hcm
        obtain ⟨rfl, rfl⟩ := hcm
        have r0 := jr5.c0
        have r1 := jr5.c1
        have r2 := jr5.f0
        have r3 := jr5.f1
        have kk := Lib.hid (jr5.set P Q)
        have kb := Lib.hid (below_two (h := g + 1 + 1) jB5 (by omega) P Q)
        rw [e2]
        clear e2 hcm'' jr4 jy4 jx4 jB4 jr5 jy5 jx5 jB5 hx0 hx1 hy0 hy1
        go_wp2
        exact held_ret kk.out rfl rfl (by rw [hg]; exact kb.out) _ _ 6 rfl rfl rfl
      · have e2 : (c1 == 1 && d1 == 0) = false := by simpa using e2
        rw [e2, if_neg (by decide)] at hcm
        rw [e2]
        have hcall := Lib.hid hcm
        clear hcm hcm'' e2 hx0 hx1 hy0 hy1
        go_wp2_with fail
        refine (hcall.out _).mono ?_
        rintro e w6 ⟨rfl, h6⟩
        have jr6 := jr5.on h6 (by omega)
        have jB6 := jB5.trans (h6.mono (by omega))
        have r0 := jr6.c0
        have r1 := jr6.c1
        have r2 := jr6.f0
        have r3 := jr6.f1
        have kk := Lib.hid (jr6.set P Q)
        have kb := Lib.hid (below_two (h := g + 1 + 1) jB6 (by omega) P Q)
        clear jr6 jB6 jr5 jx5 jy5 jB5 jr4 jy4 jx4 jB4 x0 x1 y0 y1
        go_wp2
        exact held_ret kk.out rfl rfl (by rw [hg]; exact kb.out) _ _ 6 rfl rfl rfl
end Go.Proofs.YthjpkbhgpjefpaaDoor
