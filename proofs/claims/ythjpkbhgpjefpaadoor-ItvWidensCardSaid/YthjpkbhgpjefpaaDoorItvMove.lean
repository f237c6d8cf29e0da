/- itv.Join, Widen, Move, Neg, Plus. -/
import Derived.Test.YthjpkbhgpjefpaaDoorItvMeet
import Derived.Shelf.Abstract
namespace Go.Proofs.YthjpkbhgpjefpaaDoor
open Go.RowKit
set_option linter.unusedVariables false
set_option linter.unusedSimpArgs false

/-- The join's ends, of plain ones'. -/
def jnL (a b c d : Int) : Int := if a == 1 && b == 0 then c else if c == 1 && d == 0 then a else min a c
def jnH (a b c d : Int) : Int := if a == 1 && b == 0 then d else if c == 1 && d == 0 then b else max b d
/-- The widened one's ends, of plain ones'. -/
def wdL (a b c d : Int) : Int := if a == 1 && b == 0 then c else if c == 1 && d == 0 then a else if c < a then -1099511627776 else a
def wdH (a b c d : Int) : Int := if a == 1 && b == 0 then d else if c == 1 && d == 0 then b else if b < d then 1099511627776 else b
theorem comes_join (a b c d : Int) : Comes 44 a b c d (jnL a b c d) (jnH a b c d) := by
  unfold Comes jnL jnH
  split
  · exact ⟨rfl, rfl⟩
  · split
    · exact ⟨rfl, rfl⟩
    · intro w; exact join1_any a b c d w
theorem comes_widen (a b c d : Int) : Comes 46 a b c d (wdL a b c d) (wdH a b c d) := by
  unfold Comes wdL wdH
  split
  · exact ⟨rfl, rfl⟩
  · split
    · exact ⟨rfl, rfl⟩
    · intro w; exact widen1_any a b c d w
theorem enters_join : ∀ args w, (callFunc 44 args).run Tryd.prog w = .ok (.enter 44 args) w := fun args w => Proofs.enters_of Tryd.func44 (by kernel_rfl) rfl args w
theorem enters_widen : ∀ args w, (callFunc 46 args).run Tryd.prog w = .ok (.enter 46 args) w := fun args w => Proofs.enters_of Tryd.func46 (by kernel_rfl) rfl args w
theorem join_any (a b c d : Int) (w : World) : Calls Tryd.prog 19 #[.agg #[.int .i64 a, .int .i64 b], .agg #[.int .i64 c, .int .i64 d]] w (Gives (.agg #[.int .i64 (jnL (ofL a b) (ofH a b) (ofL c d) (ofH c d)), .int .i64 (jnH (ofL a b) (ofH a b) (ofL c d) (ofH c d))]) w) := by
  have hu := Lib.hid (fun w => unless_any a b c d 44 enters_join _ _ w (comes_join _ _ _ _))
  generalize jnL (ofL a b) (ofH a b) (ofL c d) (ofH c d) = P at *
  generalize jnH (ofL a b) (ofH a b) (ofL c d) (ofH c d) = Q at *
  obtain ⟨kx, ky, kr, hB, hS⟩ := box3 w a b c d 0 0
  go_enter Tryd.func19, Tryd.ntmps19
  go_wp2_with fail
  refine (hu.out _).mono ?_
  rintro e w1 ⟨rfl, h1⟩
  have jr := kr.on h1 (by omega)
  have jB := hB.trans (h1.mono (by omega))
  have r0 := jr.c0
  have r1 := jr.c1
  have r2 := jr.f0
  have r3 := jr.f1
  have kk := Lib.hid (jr.set P Q)
  have kb := Lib.hid (below_two (h := w.heap.size + 1 + 1) jB (by omega) P Q)
  clear kx ky kr hB hS jr jB h1
  go_wp2
  exact held_ret kk.out rfl rfl kb.out _ _ 4 rfl rfl rfl
theorem widen_any (a b c d : Int) (w : World) : Calls Tryd.prog 29 #[.agg #[.int .i64 a, .int .i64 b], .agg #[.int .i64 c, .int .i64 d]] w (Gives (.agg #[.int .i64 (wdL (ofL a b) (ofH a b) (ofL c d) (ofH c d)), .int .i64 (wdH (ofL a b) (ofH a b) (ofL c d) (ofH c d))]) w) := by
  have hu := Lib.hid (fun w => unless_any a b c d 46 enters_widen _ _ w (comes_widen _ _ _ _))
  generalize wdL (ofL a b) (ofH a b) (ofL c d) (ofH c d) = P at *
  generalize wdH (ofL a b) (ofH a b) (ofL c d) (ofH c d) = Q at *
  obtain ⟨kx, ky, kr, hB, hS⟩ := box3 w a b c d 0 0
  go_enter Tryd.func29, Tryd.ntmps29
  go_wp2_with fail
  refine (hu.out _).mono ?_
  rintro e w1 ⟨rfl, h1⟩
  have jr := kr.on h1 (by omega)
  have jB := hB.trans (h1.mono (by omega))
  have r0 := jr.c0
  have r1 := jr.c1
  have r2 := jr.f0
  have r3 := jr.f1
  have kk := Lib.hid (jr.set P Q)
  have kb := Lib.hid (below_two (h := w.heap.size + 1 + 1) jB (by omega) P Q)
  clear kx ky kr hB hS jr jB h1
  go_wp2
  exact held_ret kk.out rfl rfl kb.out _ _ 4 rfl rfl rfl
theorem of_in (a b : Int) : -1099511627776 ≤ ofL a b ∧ ofL a b ≤ 1099511627776 ∧ -1099511627776 ≤ ofH a b ∧ ofH a b ≤ 1099511627776 := by
  have h1 := clip_in a
  have h2 := clip_in b
  unfold ofL ofH; split <;> omega
/-- The moved one's ends, of a plain one's. -/
def mvL (a b c : Int) : Int := if 2199023255552 < c ∨ c < -2199023255552 then 1 else ofL (a + c) (b + c)
def mvH (a b c : Int) : Int := if 2199023255552 < c ∨ c < -2199023255552 then 0 else ofH (a + c) (b + c)
theorem move_any (a b c : Int) (w : World) : Calls Tryd.prog 23 #[.agg #[.int .i64 a, .int .i64 b], .int .i64 c] w (Gives (.agg #[.int .i64 (mvL (ofL a b) (ofH a b) c), .int .i64 (mvH (ofL a b) (ofH a b) c)]) w) := by
  have hp := Lib.hid (fun w => plain_any a b w)
  have hn := Lib.hid (fun w => none_any w)
  have hof := Lib.hid (fun a b w => of_any a b w)
  have hi := of_in a b
  have hL : Hid (mvL (ofL a b) (ofH a b) c = if 2199023255552 < c ∨ c < -2199023255552 then 1 else ofL (ofL a b + c) (ofH a b + c)) := Lib.hid rfl
  have hH : Hid (mvH (ofL a b) (ofH a b) c = if 2199023255552 < c ∨ c < -2199023255552 then 0 else ofH (ofL a b + c) (ofH a b + c)) := Lib.hid rfl
  generalize mvL (ofL a b) (ofH a b) c = P at *
  generalize mvH (ofL a b) (ofH a b) c = Q at *
  generalize ofL a b = x at *
  generalize ofH a b = y at *
  obtain ⟨kx, kr, hB, hS⟩ := box2 w a b 0 0
  go_enter Tryd.func23, Tryd.ntmps23
  go_wp2_with fail
  refine (hp.out _).mono ?_
  rintro e w1 ⟨rfl, h1⟩
  have jx := kx.on h1 (by omega)
  have jr := kr.on h1 (by omega)
  have jB := hB.trans (h1.mono (by omega))
  have jS := h1.size
  have r0 := jx.c0
  have r1 := jx.c1
  have r2 := jx.f0
  have r3 := jx.f1
  have j2 := jx.set x y
  have x0 := j2.c0
  have x1 := j2.c1
  have kr := (jr.other (g := w.heap.size) (by omega) 0 (.int .i64 x)).other (g := w.heap.size) (by omega) 1 (.int .i64 y)
  have hB := below_two (h := w.heap.size) jB (by omega) x y
  have hS : w.heap.size + 1 < ((w1.setCell ⟨w.heap.size, 0, none⟩ (.int .i64 x)).setCell ⟨w.heap.size, 1, none⟩ (.int .i64 y)).heap.size := by rw [size_two]; omega
  have kr' := Lib.hid kr
  have hB' := Lib.hid hB
  have hS' := Lib.hid hS
  clear kx kr hB hS jx j2 jB h1 jr jS
  by_cases hc : 2199023255552 < c ∨ c < -2199023255552
  · have hL := Lib.hid (hL.out.trans (if_pos hc))
    have hH := Lib.hid (hH.out.trans (if_pos hc))
    rcases hc with hc | hc
    · have d1 : decide (2199023255552 < c) = true := by simpa using hc
      clear hc
      go_wp2_with fail
      refine (hn.out _).mono ?_
      rintro e w2 ⟨rfl, h2⟩
      have jr := kr'.out.on h2 hS'.out
      have r0 := jr.c0
      have r1 := jr.c1
      have r2 := jr.f0
      have r3 := jr.f1
      have kk := Lib.hid (jr.set 1 0)
      have kb := Lib.hid (below_two (h := w.heap.size + 1) (hB'.out.trans (h2.mono (by have := hS'.out; omega))) (by omega) 1 0)
      clear jr h2
      go_wp2
      exact held_ret kk.out hL.out.symm hH.out.symm kb.out _ _ 4 rfl rfl rfl
    · have d1 : decide (2199023255552 < c) = false := by simp; omega
      have d2 : decide (c < -2199023255552) = true := by simpa using hc
      clear hc
      go_wp2_with fail
      refine (hn.out _).mono ?_
      rintro e w2 ⟨rfl, h2⟩
      have jr := kr'.out.on h2 hS'.out
      have r0 := jr.c0
      have r1 := jr.c1
      have r2 := jr.f0
      have r3 := jr.f1
      have kk := Lib.hid (jr.set 1 0)
      have kb := Lib.hid (below_two (h := w.heap.size + 1) (hB'.out.trans (h2.mono (by have := hS'.out; omega))) (by omega) 1 0)
      clear jr h2
      go_wp2
      exact held_ret kk.out hL.out.symm hH.out.symm kb.out _ _ 4 rfl rfl rfl
  · have hL := Lib.hid (hL.out.trans (if_neg hc))
    have hH := Lib.hid (hH.out.trans (if_neg hc))
    have d1 : decide (2199023255552 < c) = false := by simp; omega
    have d2 : decide (c < -2199023255552) = false := by simp; omega
    go_wp2_with fail
    refine (hof.out _ _ _).mono ?_
    rintro e w2 ⟨rfl, h2⟩
    have jr := kr'.out.on h2 hS'.out
    have r0 := jr.c0
    have r1 := jr.c1
    have r2 := jr.f0
    have r3 := jr.f1
    have kk := Lib.hid (fun P Q => jr.set P Q)
    have kb := Lib.hid (fun P Q => below_two (h := w.heap.size + 1) (hB'.out.trans (h2.mono (by have := hS'.out; omega))) (by omega) P Q)
    clear jr h2
    go_wp2
    exact held_ret (kk.out _ _) hL.out.symm hH.out.symm (kb.out _ _) _ _ 4 rfl rfl rfl
/-- The other sign's ends, of a plain one's. -/
def ngL (a b : Int) : Int := if a == 1 && b == 0 then a else -b
def ngH (a b : Int) : Int := if a == 1 && b == 0 then b else -a
theorem neg_itv (a b : Int) (w : World) : Calls Tryd.prog 27 #[.agg #[.int .i64 a, .int .i64 b]] w (Gives (.agg #[.int .i64 (ngL (ofL a b) (ofH a b)), .int .i64 (ngH (ofL a b) (ofH a b))]) w) := by
  have hp := Lib.hid (fun w => plain_any a b w)
  have hn := Lib.hid (fun w => none_any w)
  have hi := of_in a b
  have hL : Hid (ngL (ofL a b) (ofH a b) = if ofL a b == 1 && ofH a b == 0 then ofL a b else -ofH a b) := Lib.hid rfl
  have hH : Hid (ngH (ofL a b) (ofH a b) = if ofL a b == 1 && ofH a b == 0 then ofH a b else -ofL a b) := Lib.hid rfl
  generalize ngL (ofL a b) (ofH a b) = P at *
  generalize ngH (ofL a b) (ofH a b) = Q at *
  generalize ofL a b = a1 at *
  generalize ofH a b = b1 at *
  obtain ⟨kx, kr, hB, hS⟩ := box2 w a b 0 0
  go_enter Tryd.func27, Tryd.ntmps27
  go_wp2_with fail
  refine (hp.out _).mono ?_
  rintro e w1 ⟨rfl, h1⟩
  have jx := kx.on h1 (by omega)
  have jr := kr.on h1 (by omega)
  have jB := hB.trans (h1.mono (by omega))
  have jS := h1.size
  have r0 := jx.c0
  have r1 := jx.c1
  have r2 := jx.f0
  have r3 := jx.f1
  have jx := jx.set a1 b1
  have jr := (jr.other (g := w.heap.size) (by omega) 0 (.int .i64 a1)).other (g := w.heap.size) (by omega) 1 (.int .i64 b1)
  have jB := below_two (h := w.heap.size) jB (by omega) a1 b1
  have jS : w.heap.size + 1 < ((w1.setCell ⟨w.heap.size, 0, none⟩ (.int .i64 a1)).setCell ⟨w.heap.size, 1, none⟩ (.int .i64 b1)).heap.size := by rw [size_two]; omega
  go_wp2
  generalize (w1.setCell ⟨w.heap.size, 0, none⟩ (.int .i64 a1)).setCell ⟨w.heap.size, 1, none⟩ (.int .i64 b1) = w3 at *
  clear kx kr hB hS h1 r0 r1 r2 r3
  generalize hg : w.heap.size = g at jx jr jB jS ⊢
  have hx0 : ∀ W, Below w3.heap.size w3 W → W.cell? ⟨g, 0, none⟩ = some (.int .i64 a1) := fun W hW => (jx.on hW (by omega)).c0
  have hx1 : ∀ W, Below w3.heap.size w3 W → W.cell? ⟨g, 1, none⟩ = some (.int .i64 b1) := fun W hW => (jx.on hW (by omega)).c1
  refine wp_drawn (by kernel_rfl) (fun hHeld => ?_)
  refine wpAnyH_take (i := 0) (oi := { dst := some 5, op := Go.Op.load 23 (Go.Operand.tmp 1), type := 23, pos := "itv.go:97", after := #[], guard := none }) (v := ?v1) rfl (by kernel_rfl) (by kernel_rfl) (by kernel_rfl) (fun _ _ _ h => h) (Or.inl ⟨by kernel_rfl, ?h1⟩) (by assumption) ?r1
  case h1 => (intro w hSw; (try dsimp only at hSw); go_simp; try with_reducible rfl)
  try simp only [Act.put, List.setIfInBounds_toArray, List.set_cons_zero, List.set_cons_succ]
  refine wpAnyH_ready (rs := [1]) (by kernel_rfl) (by simp) ?_
  refine AllReadyH.cons (o := { dst := some 6, op := Go.Op.call { callee := Go.Callee.value (Go.Operand.func 33), args := #[], argTypes := #[] }, type := 23, pos := "itv.go:97", after := #[], guard := none }) rfl (fun K hK => ?_) AllReadyH.nil
  go_simp
  refine (hn.out _).mono ?_
  rintro e w4 ⟨rfl, h4⟩
  have hw4 : Below w3.heap.size w3 w4 := hHeld.trans (h4.mono (Nat.le_refl _))
  go_simp
  refine hK.out _ _ (hw4) (fun hHeld => ?_)
  clear hK K
  try simp only [Act.put, List.setIfInBounds_toArray, List.set_cons_zero, List.set_cons_succ]
  refine wpAnyH_now hHeld (fun hHeld => ?_)
  replace hx0 := rebase hx0 (hw4)
  replace hx1 := rebase hx1 (hw4)
  refine wpAnyH_take (i := 2) (oi := { dst := some 7, op := Go.Op.binOp Go.BinOp.eql 23 (Go.Operand.tmp 5) (Go.Operand.tmp 6) 23, type := 4, pos := "itv.go:97", after := #[{ on := 0, ground := Go.Ground.data }, { on := 1, ground := Go.Ground.data }], guard := none }) (v := ?v2) rfl (by kernel_rfl) (by kernel_rfl) (by kernel_rfl) (fun _ _ _ h => h) (Or.inl ⟨by kernel_rfl, ?h2⟩) (by assumption) ?r2
  case h2 => (intro w hSw; (try dsimp only at hSw); refine Eq.trans (b := Result.ok (Next.value (.bool (a1 == 1 && b1 == 0))) w) (by go_simp; by_cases h1 : a1 = 1 <;> by_cases h2 : b1 = 0 <;> simp [h1, h2]) ?_; with_reducible rfl)
  try simp only [Act.put, List.setIfInBounds_toArray, List.set_cons_zero, List.set_cons_succ]
  refine wpAnyH_done (by kernel_rfl) ?_ _
  have jr4 := jr.on hw4 (by omega)
  have jx4 := jx.on hw4 (by omega)
  have jB4 := jB.trans (hw4.mono (by omega))
  have x0 := jx4.c0
  have x1 := jx4.c1
  have r0 := jr4.c0
  have r1 := jr4.c1
  have r2 := jr4.f0
  have r3 := jr4.f1
  have kk := Lib.hid (fun P Q => jr4.set P Q)
  have kb := Lib.hid (fun P Q => below_two (h := g + 1) jB4 (by omega) P Q)
  by_cases e1 : (a1 == 1 && b1 == 0) = true
  · have hL := Lib.hid (hL.out.trans (if_pos e1))
    have hH := Lib.hid (hH.out.trans (if_pos e1))
    rw [e1]
    clear e1 jr4 jx4 jB4 hx0 hx1 jx jr jB jS
    go_wp2
    exact held_ret (kk.out _ _) hL.out.symm hH.out.symm (by rw [hg]; exact kb.out _ _) _ _ 2 rfl rfl rfl
  · have hL := Lib.hid (hL.out.trans (if_neg e1))
    have hH := Lib.hid (hH.out.trans (if_neg e1))
    have e1 : (a1 == 1 && b1 == 0) = false := by simpa using e1
    rw [e1]
    clear e1 jr4 jx4 jB4 hx0 hx1 jx jr jB jS
    go_wp2
    exact held_ret (kk.out _ _) hL.out.symm hH.out.symm (by rw [hg]; exact kb.out _ _) _ _ 2 rfl rfl rfl
end Go.Proofs.YthjpkbhgpjefpaaDoor
