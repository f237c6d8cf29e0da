/- The document's Widen. -/
import Derived.Test.YthjpkbhgpjefpaaDoorItvRef
import Derived.Test.YthjpkbhgpjefpaaDoorItvHas
namespace Go.Proofs.YthjpkbhgpjefpaaDoor
open Go.RowKit
set_option linter.unusedVariables false
set_option linter.unusedSimpArgs false

set_option maxRecDepth 100000 in
set_option maxHeartbeats 4000000 in
theorem rwiden_any (a b c d : Int) (w : World) : Calls Tryd.prog 30 #[.agg #[.int .i64 a, .int .i64 b], .agg #[.int .i64 c, .int .i64 d]] w (Gives (.agg #[.int .i64 (wdL (ofL a b) (ofH a b) (ofL c d) (ofH c d)), .int .i64 (wdH (ofL a b) (ofH a b) (ofL c d) (ofH c d))]) w) := by
  have px := Lib.hid (fun w => rplain_any a b w)
  have py := Lib.hid (fun w => rplain_any c d w)
  have hex := Lib.hid (fun w => rempty_plain a b w)
  have hey := Lib.hid (fun w => rempty_plain c d w)
  have hn := Lib.hid (fun w => rnone_any w)
  have hof := Lib.hid (fun a b w => rof_any a b w)
  have hpl := Lib.hid (fun a b w => rplain_any a b w)
  have hi := of_in a b
  have hj := of_in c d
  have hL : Hid (wdL (ofL a b) (ofH a b) (ofL c d) (ofH c d) = if ofL a b == 1 && ofH a b == 0 then ofL c d else if ofL c d == 1 && ofH c d == 0 then ofL a b else if ofL c d < ofL a b then -1099511627776 else ofL a b) := Lib.hid (rfl)
  have hH : Hid (wdH (ofL a b) (ofH a b) (ofL c d) (ofH c d) = if ofL a b == 1 && ofH a b == 0 then ofH c d else if ofL c d == 1 && ofH c d == 0 then ofH a b else if ofH a b < ofH c d then 1099511627776 else ofH a b) := Lib.hid (rfl)
  generalize wdL (ofL a b) (ofH a b) (ofL c d) (ofH c d) = P at *
  generalize wdH (ofL a b) (ofH a b) (ofL c d) (ofH c d) = Q at *
  generalize ofL a b = a1 at *
  generalize ofH a b = b1 at *
  generalize ofL c d = c1 at *
  generalize ofH c d = d1 at *
  go_enter Tryd.func30, Tryd.ntmps30
  go_wp2
  obtain ⟨kx, ky, kr, hB, hS⟩ := box3 w a b c d 0 0
  generalize ((w.alloc (.cells #[.int .i64 a, .int .i64 b] 23)).alloc (.cells #[.int .i64 c, .int .i64 d] 23)).alloc (.cells #[.int .i64 0, .int .i64 0] 23) = w0 at *
  generalize hg : w.heap.size = g at kx ky kr hB hS ⊢
  have x0 := kx.c0
  have x1 := kx.c1
  have y0 := ky.c0
  have y1 := ky.c1
  refine Code.wp_mono (Q := fun ex a' w' => ex = Exit.normal ∧ a' = Act.mk #[.agg #[.int .i64 a, .int .i64 b], .agg #[.int .i64 c, .int .i64 d], .pointer (some ⟨g, 0, none⟩), .pointer (some ⟨g + 1, 0, none⟩), .pointer (some ⟨g + 1 + 1, 0, none⟩), .agg #[.int .i64 a, .int .i64 b], .agg #[.int .i64 a1, .int .i64 b1], .agg #[.int .i64 c, .int .i64 d], .agg #[.int .i64 c1, .int .i64 d1], undef, undef, undef, undef, undef, undef, undef, undef, undef, undef, undef, undef, undef, undef, undef, undef, undef, undef, undef, undef, undef] [] ∧ (Held w' g a1 b1 ∧ Held w' (g + 1) c1 d1 ∧ Held w' (g + 1 + 1) 0 0 ∧ Below g w w' ∧ g + 3 ≤ w'.heap.size)) ?hq ?hr
  case hr =>
    go_region_with (first
      | (go_at_call 10; refine (px.out _).mono ?_; rintro e w1 ⟨rfl, h1⟩
         have kx1 := kx.go h1 rfl rfl (by omega)
         have ky1 := ky.go h1 rfl rfl (by omega)
         have kr1 := kr.go h1 rfl rfl (by omega)
         have hB1 := below_go hB h1 rfl rfl rfl rfl rfl (by omega)
         have hS1 := size_go (w := w0) h1 rfl
         have x0 := kx1.c0
         have x1 := kx1.c1
         have y0 := ky1.c0
         have y1 := ky1.c1)
      | (go_at_call 10; refine (py.out _).mono ?_; rintro e w2 ⟨rfl, h2⟩
         have kx2 := kx1.go h2 rfl rfl (by omega)
         have ky2 := ky1.go h2 rfl rfl (by omega)
         have kr2 := kr1.go h2 rfl rfl (by omega)
         have hB2 := below_go hB1 h2 rfl rfl rfl rfl rfl (by omega)
         have hS2 := size_go (w := w1) h2 rfl
         have x0 := kx2.c0
         have x1 := kx2.c1
         have y0 := ky2.c0
         have y1 := ky2.c1
         have x2 := kx2.f0
         have x3 := kx2.f1
         have y2 := ky2.f0
         have y3 := ky2.f1))
    all_goals exact ⟨rfl, rfl, ((kx2.set a1 b1).other (g := g + 1) (by omega) 0 (.int .i64 c1)).other (g := g + 1) (by omega) 1 (.int .i64 d1),
      ((ky2.other (g := g) (by omega) 0 (.int .i64 a1)).other (g := g) (by omega) 1 (.int .i64 b1)).set c1 d1,
      (((kr2.other (g := g) (by omega) 0 (.int .i64 a1)).other (g := g) (by omega) 1 (.int .i64 b1)).other (g := g + 1) (by omega) 0 (.int .i64 c1)).other (g := g + 1) (by omega) 1 (.int .i64 d1),
      below_two (h := g + 1) (below_two (h := g) hB2 (by omega) a1 b1) (by omega) c1 d1, by rw [size_two, size_two]; omega⟩
  case hq =>
    clear x0 x1 y0 y1 kx ky kr hB hS
    rintro ex a' w3 ⟨rfl, rfl, jx, jy, jr, jB, jS⟩
    have x0 := jx.c0
    have x1 := jx.c1
    have y0 := jy.c0
    have y1 := jy.c1
    go_wp2_with fail
    refine (hex.out _).mono ?_
    rintro e w4 ⟨rfl, h4⟩
    replace jx := jx.on h4 (by omega)
    replace jy := jy.on h4 (by omega)
    replace jr := jr.on h4 (by omega)
    replace jB := jB.trans (h4.mono (by omega))
    have jS4 := h4.size
    clear h4 x0 x1 y0 y1
    have x0 := jx.c0
    have x1 := jx.c1
    have y0 := jy.c0
    have y1 := jy.c1
    cases e1 : (a1 == 1 && b1 == 0) with
    | true =>
      have hL := Lib.hid (hL.out.trans (if_pos e1))
      have hH := Lib.hid (hH.out.trans (if_pos e1))
      clear e1
      have r0 := jr.c0
      have r1 := jr.c1
      have r2 := jr.f0
      have r3 := jr.f1
      have kk := Lib.hid (fun P Q => jr.set P Q)
      have kb := Lib.hid (fun P Q => below_two (h := g + 1 + 1) jB (by omega) P Q)
      clear jx jy jr jB
      go_wp2
      exact held_ret (kk.out _ _) hL.out.symm hH.out.symm (by rw [hg]; exact kb.out _ _) _ _ 4 rfl rfl rfl
    | false =>
      have hL := Lib.hid (hL.out.trans (if_neg (by rw [e1]; decide)))
      have hH := Lib.hid (hH.out.trans (if_neg (by rw [e1]; decide)))
      clear e1
      go_wp2_with fail
      refine (hey.out _).mono ?_
      rintro e w5 ⟨rfl, h5⟩
      replace jx := jx.on h5 (by omega)
      replace jy := jy.on h5 (by omega)
      replace jr := jr.on h5 (by omega)
      replace jB := jB.trans (h5.mono (by omega))
      have jS5 := h5.size
      clear h5 x0 x1 y0 y1
      have x0 := jx.c0
      have x1 := jx.c1
      have y0 := jy.c0
      have y1 := jy.c1
      cases e2 : (c1 == 1 && d1 == 0) with
      | true =>
        have hL := Lib.hid (hL.out.trans (if_pos e2))
        have hH := Lib.hid (hH.out.trans (if_pos e2))
        clear e2
        have r0 := jr.c0
        have r1 := jr.c1
        have r2 := jr.f0
        have r3 := jr.f1
        have kk := Lib.hid (fun P Q => jr.set P Q)
        have kb := Lib.hid (fun P Q => below_two (h := g + 1 + 1) jB (by omega) P Q)
        clear jx jy jr jB
        go_wp2
        exact held_ret (kk.out _ _) hL.out.symm hH.out.symm (by rw [hg]; exact kb.out _ _) _ _ 4 rfl rfl rfl
      | false =>
        have hL := Lib.hid (hL.out.trans (if_neg (by rw [e2]; decide)))
        have hH := Lib.hid (hH.out.trans (if_neg (by rw [e2]; decide)))
        clear e2
        have xf0 := jx.f0
        have xf1 := jx.f1
        by_cases hl : c1 < a1
        · have hL := Lib.hid (hL.out.trans (if_pos hl))
          have dl : decide (c1 < a1) = true := by simpa using hl
          clear hl
          by_cases hh : b1 < d1
          · have hH := Lib.hid (hH.out.trans (if_pos hh))
            have dh : decide (b1 < d1) = true := by simpa using hh
            clear hh
            have kr' := ((jr.other (g := g) (by omega) 0 (.int .i64 (-1099511627776))).other (g := g) (by omega) 1 (.int .i64 (1099511627776)))
            have kb' := ((jB.setCell (p := ⟨g, 0, none⟩) (Nat.le_refl g) (.int .i64 (-1099511627776))).setCell (p := ⟨g, 1, none⟩) (Nat.le_refl g) (.int .i64 (1099511627776)))
            have r0 := kr'.c0
            have r1 := kr'.c1
            have r2 := kr'.f0
            have r3 := kr'.f1
            have q0 := jr.c0
            have q1 := jr.c1
            have q2 := jr.f0
            have q3 := jr.f1
            have kk := Lib.hid (fun P Q => kr'.set P Q)
            have kb := Lib.hid (fun P Q => below_two (h := g + 1 + 1) kb' (by omega) P Q)
            clear jx jy jr jB kr' kb'
            go_wp2
            exact held_ret (kk.out _ _) hL.out.symm hH.out.symm (by rw [hg]; exact kb.out _ _) _ _ 4 rfl rfl rfl
          · have hH := Lib.hid (hH.out.trans (if_neg hh))
            have dh : decide (b1 < d1) = false := by simpa using hh
            clear hh
            have kr' := (jr.other (g := g) (by omega) 0 (.int .i64 (-1099511627776)))
            have kb' := (jB.setCell (p := ⟨g, 0, none⟩) (Nat.le_refl g) (.int .i64 (-1099511627776)))
            have r0 := kr'.c0
            have r1 := kr'.c1
            have r2 := kr'.f0
            have r3 := kr'.f1
            have q0 := jr.c0
            have q1 := jr.c1
            have q2 := jr.f0
            have q3 := jr.f1
            have kk := Lib.hid (fun P Q => kr'.set P Q)
            have kb := Lib.hid (fun P Q => below_two (h := g + 1 + 1) kb' (by omega) P Q)
            clear jx jy jr jB kr' kb'
            go_wp2
            exact held_ret (kk.out _ _) hL.out.symm hH.out.symm (by rw [hg]; exact kb.out _ _) _ _ 4 rfl rfl rfl
        · have hL := Lib.hid (hL.out.trans (if_neg hl))
          have dl : decide (c1 < a1) = false := by simpa using hl
          clear hl
          by_cases hh : b1 < d1
          · have hH := Lib.hid (hH.out.trans (if_pos hh))
            have dh : decide (b1 < d1) = true := by simpa using hh
            clear hh
            have kr' := (jr.other (g := g) (by omega) 1 (.int .i64 (1099511627776)))
            have kb' := (jB.setCell (p := ⟨g, 1, none⟩) (Nat.le_refl g) (.int .i64 (1099511627776)))
            have r0 := kr'.c0
            have r1 := kr'.c1
            have r2 := kr'.f0
            have r3 := kr'.f1
            have q0 := jr.c0
            have q1 := jr.c1
            have q2 := jr.f0
            have q3 := jr.f1
            have kk := Lib.hid (fun P Q => kr'.set P Q)
            have kb := Lib.hid (fun P Q => below_two (h := g + 1 + 1) kb' (by omega) P Q)
            clear jx jy jr jB kr' kb'
            go_wp2
            exact held_ret (kk.out _ _) hL.out.symm hH.out.symm (by rw [hg]; exact kb.out _ _) _ _ 4 rfl rfl rfl
          · have hH := Lib.hid (hH.out.trans (if_neg hh))
            have dh : decide (b1 < d1) = false := by simpa using hh
            clear hh
            have kr' := jr
            have kb' := jB
            have r0 := kr'.c0
            have r1 := kr'.c1
            have r2 := kr'.f0
            have r3 := kr'.f1
            have q0 := jr.c0
            have q1 := jr.c1
            have q2 := jr.f0
            have q3 := jr.f1
            have kk := Lib.hid (fun P Q => kr'.set P Q)
            have kb := Lib.hid (fun P Q => below_two (h := g + 1 + 1) kb' (by omega) P Q)
            clear jx jy jr jB kr' kb'
            go_wp2
            exact held_ret (kk.out _ _) hL.out.symm hH.out.symm (by rw [hg]; exact kb.out _ _) _ _ 4 rfl rfl rfl
end Go.Proofs.YthjpkbhgpjefpaaDoor
