/- The document's Leq, Meet. -/
import Derived.Test.YthjpkbhgpjefpaaDoorItvRef
import Derived.Test.YthjpkbhgpjefpaaDoorItvHas
namespace Go.Proofs.YthjpkbhgpjefpaaDoor
open Go.RowKit
set_option linter.unusedVariables false
set_option linter.unusedSimpArgs false

theorem rleq_eq (a b c d : Int) : ((ofL a b == 1 && ofH a b == 0) || (decide (ofL c d ≤ ofL a b) && decide (ofH a b ≤ ofH c d))) = leqB a b c d := by
  rw [Bool.eq_iff_iff, leq_iff, Bool.or_eq_true, none_iff, Bool.and_eq_true, decide_eq_true_iff, decide_eq_true_iff]
  by_cases h : emp a b
  · exact ⟨fun _ => .inl h, fun _ => .inl h⟩
  · have hab := clip_le (a := a) (b := b) (by unfold emp at h; omega)
    rw [(ofL_in h).1, (ofL_in h).2]
    rcases of_cases c d with ⟨h1, e1, e2⟩ | ⟨h1, e1, e2⟩ <;> rw [e1, e2]
    · constructor
      · rintro (h2 | h2)
        · exact absurd h2 h
        · omega
      · rintro (h2 | ⟨_, h2, _⟩)
        · exact absurd h2 h
        · exact absurd h1 h2
    · constructor
      · rintro (h2 | h2)
        · exact absurd h2 h
        · exact .inr ⟨h, h1, h2.1, h2.2⟩
      · rintro (h2 | ⟨_, _, h3, h4⟩)
        · exact absurd h2 h
        · exact .inr ⟨h3, h4⟩
theorem of_same {a b c d : Int} (h : emp a b ↔ emp c d) (h1 : ¬ emp a b → clip a = clip c ∧ clip b = clip d) : ofL a b = ofL c d ∧ ofH a b = ofH c d := by
  rcases of_cases a b with ⟨k, e1, e2⟩ | ⟨k, e1, e2⟩ <;> rcases of_cases c d with ⟨k2, e3, e4⟩ | ⟨k2, e3, e4⟩ <;> rw [e1, e2, e3, e4]
  · exact ⟨rfl, rfl⟩
  · exact absurd (h.1 k) k2
  · exact absurd (h.2 k2) k
  · exact h1 k
theorem meet_plain (a b c d : Int) : ofL (max (ofL a b) (ofL c d)) (min (ofH a b) (ofH c d)) = ofL (max a c) (min b d) ∧ ofH (max (ofL a b) (ofL c d)) (min (ofH a b) (ofH c d)) = ofH (max a c) (min b d) := by
  have k1 := clip_cases a
  have k2 := clip_cases b
  have k3 := clip_cases c
  have k4 := clip_cases d
  apply of_same
  · rcases of_cases a b with ⟨h1, e1, e2⟩ | ⟨h1, e1, e2⟩ <;> rcases of_cases c d with ⟨h2, e3, e4⟩ | ⟨h2, e3, e4⟩ <;> rw [e1, e2, e3, e4] <;> unfold emp at * <;> omega
  · rw [clip_max, clip_min, clip_max, clip_min]
    rcases of_cases a b with ⟨h1, e1, e2⟩ | ⟨h1, e1, e2⟩ <;> rcases of_cases c d with ⟨h2, e3, e4⟩ | ⟨h2, e3, e4⟩ <;> rw [e1, e2, e3, e4] <;> intro h
    · unfold emp at h; omega
    · exfalso; have hc := clip_in c; have hd := clip_in d; unfold emp at h; omega
    · exfalso; have hc := clip_in a; have hd := clip_in b; unfold emp at h; omega
    · have ha := clip_in a; have hb := clip_in b; have hc := clip_in c; have hd := clip_in d
      rw [clip_id ha.1 ha.2, clip_id hb.1 hb.2, clip_id hc.1 hc.2, clip_id hd.1 hd.2]; exact ⟨rfl, rfl⟩
set_option maxRecDepth 100000 in
set_option maxHeartbeats 4000000 in
theorem rleq_any (a b c d : Int) (w : World) : Calls Tryd.prog 17 #[.agg #[.int .i64 a, .int .i64 b], .agg #[.int .i64 c, .int .i64 d]] w (Gives (.bool (leqB a b c d)) w) := by
  have px := Lib.hid (fun w => rplain_any a b w)
  have py := Lib.hid (fun w => rplain_any c d w)
  have hex := Lib.hid (fun w => rempty_plain a b w)
  have hey := Lib.hid (fun w => rempty_plain c d w)
  have hn := Lib.hid (fun w => rnone_any w)
  have hof := Lib.hid (fun a b w => rof_any a b w)
  have hpl := Lib.hid (fun a b w => rplain_any a b w)
  have hi := of_in a b
  have hj := of_in c d
  have hR : Hid (((ofL a b == 1 && ofH a b == 0) || (decide (ofL c d ≤ ofL a b) && decide (ofH a b ≤ ofH c d))) = leqB a b c d) := Lib.hid (rleq_eq a b c d)
  generalize leqB a b c d = Z at *
  generalize ofL a b = a1 at *
  generalize ofH a b = b1 at *
  generalize ofL c d = c1 at *
  generalize ofH c d = d1 at *
  go_enter Tryd.func17, Tryd.ntmps17
  go_wp2
  obtain ⟨kx, ky, hB, hS⟩ := box2 w a b c d
  generalize (w.alloc (.cells #[.int .i64 a, .int .i64 b] 23)).alloc (.cells #[.int .i64 c, .int .i64 d] 23) = w0 at *
  generalize hg : w.heap.size = g at kx ky hB hS ⊢
  have x0 := kx.c0
  have x1 := kx.c1
  have y0 := ky.c0
  have y1 := ky.c1
  refine Code.wp_mono (Q := fun ex a' w' => ex = Exit.normal ∧ a' = Act.mk #[.agg #[.int .i64 a, .int .i64 b], .agg #[.int .i64 c, .int .i64 d], .pointer (some ⟨g, 0, none⟩), .pointer (some ⟨g + 1, 0, none⟩), .bool false, .agg #[.int .i64 a, .int .i64 b], .agg #[.int .i64 a1, .int .i64 b1], .agg #[.int .i64 c, .int .i64 d], .agg #[.int .i64 c1, .int .i64 d1], undef, undef, undef, undef, undef, undef, undef, undef, undef, undef, undef, undef, undef, undef, undef, undef] [] ∧ (Held w' g a1 b1 ∧ Held w' (g + 1) c1 d1 ∧ Below g w w' ∧ g + 2 ≤ w'.heap.size)) ?hq ?hr
  case hr =>
    go_region_with (first
      | (go_at_call 10; refine (px.out _).mono ?_; rintro e w1 ⟨rfl, h1⟩
         have kx1 := kx.go h1 rfl rfl (by omega)
         have ky1 := ky.go h1 rfl rfl (by omega)
         have hB1 := below_go hB h1 rfl rfl rfl rfl rfl (by omega)
         have hS1 := size_go (w := w0) h1 rfl
         have x0 := kx1.c0
         have x1 := kx1.c1
         have y0 := ky1.c0
         have y1 := ky1.c1)
      | (go_at_call 10; refine (py.out _).mono ?_; rintro e w2 ⟨rfl, h2⟩
         have kx2 := kx1.go h2 rfl rfl (by omega)
         have ky2 := ky1.go h2 rfl rfl (by omega)
         have hB2 := below_go hB1 h2 rfl rfl rfl rfl rfl (by omega)
         have hS2 := size_go (w := w1) h2 rfl
         have x0 := kx2.c0
         have x1 := kx2.c1
         have y0 := ky2.c0
         have y1 := ky2.c1
         have x2 := kx2.f0
         have x3 := kx2.f1
         have y2 := ky2.f0
         have y3 := ky2.f1))
    all_goals exact ⟨rfl, rfl, ((kx2.set a1 b1).other (g := g + 1) (by omega) 0 (.int .i64 c1)).other (g := g + 1) (by omega) 1 (.int .i64 d1),
      ((ky2.other (g := g) (by omega) 0 (.int .i64 a1)).other (g := g) (by omega) 1 (.int .i64 b1)).set c1 d1,
      below_two (h := g + 1) (below_two (h := g) hB2 (by omega) a1 b1) (by omega) c1 d1, by rw [size_two, size_two]; omega⟩
  case hq =>
    clear x0 x1 y0 y1 kx ky hB hS
    rintro ex a' w3 ⟨rfl, rfl, jx, jy, jB, jS⟩
    have x0 := jx.c0
    have x1 := jx.c1
    have y0 := jy.c0
    have y1 := jy.c1
    go_wp2_with fail
    refine (hex.out _).mono ?_
    rintro e w4 ⟨rfl, h4⟩
    replace jx := jx.on h4 (by omega)
    replace jy := jy.on h4 (by omega)
    replace jB := jB.trans (h4.mono (by omega))
    have jS4 := h4.size
    clear h4 x0 x1 y0 y1
    have x0 := jx.c0
    have x1 := jx.c1
    have y0 := jy.c0
    have y1 := jy.c1
    have jB' := Lib.hid jB
    clear jx jy jB
    go_wp2
    all_goals (go_ret; exact ⟨ret_bool (by rw [← hR.out]; simp_all <;> omega), by rw [hg]; exact jB'.out⟩)
set_option maxRecDepth 100000 in
set_option maxHeartbeats 4000000 in
theorem rmeet_any (a b c d : Int) (w : World) : Calls Tryd.prog 22 #[.agg #[.int .i64 a, .int .i64 b], .agg #[.int .i64 c, .int .i64 d]] w (Gives (.agg #[.int .i64 (ofL (max a c) (min b d)), .int .i64 (ofH (max a c) (min b d))]) w) := by
  have px := Lib.hid (fun w => rplain_any a b w)
  have py := Lib.hid (fun w => rplain_any c d w)
  have hex := Lib.hid (fun w => rempty_plain a b w)
  have hey := Lib.hid (fun w => rempty_plain c d w)
  have hn := Lib.hid (fun w => rnone_any w)
  have hof := Lib.hid (fun a b w => rof_any a b w)
  have hpl := Lib.hid (fun a b w => rplain_any a b w)
  have hi := of_in a b
  have hj := of_in c d
  have hL := Lib.hid (meet_plain a b c d).1
  have hH := Lib.hid (meet_plain a b c d).2
  generalize ofL (max a c) (min b d) = P at *
  generalize ofH (max a c) (min b d) = Q at *
  generalize ofL a b = a1 at *
  generalize ofH a b = b1 at *
  generalize ofL c d = c1 at *
  generalize ofH c d = d1 at *
  go_enter Tryd.func22, Tryd.ntmps22
  go_wp2
  obtain ⟨kx, ky, kr, hB, hS⟩ := box3 w a b c d 0 0
  generalize ((w.alloc (.cells #[.int .i64 a, .int .i64 b] 23)).alloc (.cells #[.int .i64 c, .int .i64 d] 23)).alloc (.cells #[.int .i64 0, .int .i64 0] 23) = w0 at *
  generalize hg : w.heap.size = g at kx ky kr hB hS ⊢
  have x0 := kx.c0
  have x1 := kx.c1
  have y0 := ky.c0
  have y1 := ky.c1
  refine Code.wp_mono (Q := fun ex a' w' => ex = Exit.normal ∧ a' = Act.mk #[.agg #[.int .i64 a, .int .i64 b], .agg #[.int .i64 c, .int .i64 d], .pointer (some ⟨g, 0, none⟩), .pointer (some ⟨g + 1, 0, none⟩), .pointer (some ⟨g + 1 + 1, 0, none⟩), .agg #[.int .i64 a, .int .i64 b], .agg #[.int .i64 a1, .int .i64 b1], .agg #[.int .i64 c, .int .i64 d], .agg #[.int .i64 c1, .int .i64 d1], undef, undef, undef, undef, undef, undef, undef, undef, undef, undef, undef, undef, undef, undef, undef, undef, undef, undef] [] ∧ (Held w' g a1 b1 ∧ Held w' (g + 1) c1 d1 ∧ Held w' (g + 1 + 1) 0 0 ∧ Below g w w' ∧ g + 3 ≤ w'.heap.size)) ?hq ?hr
  case hr =>
    go_region_with (first
      | (go_at_call 10; refine (px.out _).mono ?_; rintro e w1 ⟨rfl, h1⟩
         have kx1 := kx.go h1 rfl rfl (by omega)
         have ky1 := ky.go h1 rfl rfl (by omega)
         have kr1 := kr.go h1 rfl rfl (by omega)
         have hB1 := below_go hB h1 rfl rfl rfl rfl rfl (by omega)
         have hS1 := size_go (w := w0) h1 rfl
         have x0 := kx1.c0
         have x1 := kx1.c1
         have y0 := ky1.c0
         have y1 := ky1.c1)
      | (go_at_call 10; refine (py.out _).mono ?_; rintro e w2 ⟨rfl, h2⟩
         have kx2 := kx1.go h2 rfl rfl (by omega)
         have ky2 := ky1.go h2 rfl rfl (by omega)
         have kr2 := kr1.go h2 rfl rfl (by omega)
         have hB2 := below_go hB1 h2 rfl rfl rfl rfl rfl (by omega)
         have hS2 := size_go (w := w1) h2 rfl
         have x0 := kx2.c0
         have x1 := kx2.c1
         have y0 := ky2.c0
         have y1 := ky2.c1
         have x2 := kx2.f0
         have x3 := kx2.f1
         have y2 := ky2.f0
         have y3 := ky2.f1))
    all_goals exact ⟨rfl, rfl, ((kx2.set a1 b1).other (g := g + 1) (by omega) 0 (.int .i64 c1)).other (g := g + 1) (by omega) 1 (.int .i64 d1),
      ((ky2.other (g := g) (by omega) 0 (.int .i64 a1)).other (g := g) (by omega) 1 (.int .i64 b1)).set c1 d1,
      (((kr2.other (g := g) (by omega) 0 (.int .i64 a1)).other (g := g) (by omega) 1 (.int .i64 b1)).other (g := g + 1) (by omega) 0 (.int .i64 c1)).other (g := g + 1) (by omega) 1 (.int .i64 d1),
      below_two (h := g + 1) (below_two (h := g) hB2 (by omega) a1 b1) (by omega) c1 d1, by rw [size_two, size_two]; omega⟩
  case hq =>
    clear x0 x1 y0 y1 kx ky kr hB hS
    rintro ex a' w3 ⟨rfl, rfl, jx, jy, jr, jB, jS⟩
    have x0 := jx.c0
    have x1 := jx.c1
    have y0 := jy.c0
    have y1 := jy.c1
    have xf0 := jx.f0
    have xf1 := jx.f1
    by_cases hl : a1 < c1
    · have dl : decide (a1 < c1) = true := by simpa using hl
      by_cases hh : d1 < b1
      · have dh : decide (d1 < b1) = true := by simpa using hh
        have kr' := ((jr.other (g := g) (by omega) 0 (.int .i64 (c1))).other (g := g) (by omega) 1 (.int .i64 (d1)))
        have kb' := ((jB.setCell (p := ⟨g, 0, none⟩) (Nat.le_refl g) (.int .i64 (c1))).setCell (p := ⟨g, 1, none⟩) (Nat.le_refl g) (.int .i64 (d1)))
        have ks' : g + 3 ≤ ((w3.setCell ⟨g, 0, none⟩ (.int .i64 (c1))).setCell ⟨g, 1, none⟩ (.int .i64 (d1))).heap.size := (by simp; omega)
        clear hl hh
        go_wp2_with fail
        refine (hpl.out _ _ _).mono ?_
        rintro e w4 ⟨rfl, h4⟩
        have kr' := kr'.on h4 (by omega)
        have kb' := kb'.trans (h4.mono (by omega))
        have r0 := kr'.c0
        have r1 := kr'.c1
        have r2 := kr'.f0
        have r3 := kr'.f1
        have kk := Lib.hid (fun P Q => kr'.set P Q)
        have kb := Lib.hid (fun P Q => below_two (h := g + 1 + 1) kb' (by omega) P Q)
        have dl' := Lib.hid dl
        have dh' := Lib.hid dh
        clear jx jy jr jB kr' kb' h4 x0 x1 y0 y1 xf0 xf1 dl dh
        go_wp2
        exact held_ret (kk.out _ _) (by rw [← hL.out, ← (show c1 = max a1 c1 by have := dl'.out; simp at this; omega), ← (show d1 = min b1 d1 by have := dh'.out; simp at this; omega)]) (by rw [← hH.out, ← (show c1 = max a1 c1 by have := dl'.out; simp at this; omega), ← (show d1 = min b1 d1 by have := dh'.out; simp at this; omega)]) (by rw [hg]; exact kb.out _ _) _ _ 4 rfl rfl rfl
      · have dh : decide (d1 < b1) = false := by simpa using hh
        have kr' := (jr.other (g := g) (by omega) 0 (.int .i64 (c1)))
        have kb' := (jB.setCell (p := ⟨g, 0, none⟩) (Nat.le_refl g) (.int .i64 (c1)))
        have ks' : g + 3 ≤ (w3.setCell ⟨g, 0, none⟩ (.int .i64 (c1))).heap.size := (by simp; omega)
        clear hl hh
        go_wp2_with fail
        refine (hpl.out _ _ _).mono ?_
        rintro e w4 ⟨rfl, h4⟩
        have kr' := kr'.on h4 (by omega)
        have kb' := kb'.trans (h4.mono (by omega))
        have r0 := kr'.c0
        have r1 := kr'.c1
        have r2 := kr'.f0
        have r3 := kr'.f1
        have kk := Lib.hid (fun P Q => kr'.set P Q)
        have kb := Lib.hid (fun P Q => below_two (h := g + 1 + 1) kb' (by omega) P Q)
        have dl' := Lib.hid dl
        have dh' := Lib.hid dh
        clear jx jy jr jB kr' kb' h4 x0 x1 y0 y1 xf0 xf1 dl dh
        go_wp2
        exact held_ret (kk.out _ _) (by rw [← hL.out, ← (show c1 = max a1 c1 by have := dl'.out; simp at this; omega), ← (show b1 = min b1 d1 by have := dh'.out; simp at this; omega)]) (by rw [← hH.out, ← (show c1 = max a1 c1 by have := dl'.out; simp at this; omega), ← (show b1 = min b1 d1 by have := dh'.out; simp at this; omega)]) (by rw [hg]; exact kb.out _ _) _ _ 4 rfl rfl rfl
    · have dl : decide (a1 < c1) = false := by simpa using hl
      by_cases hh : d1 < b1
      · have dh : decide (d1 < b1) = true := by simpa using hh
        have kr' := (jr.other (g := g) (by omega) 1 (.int .i64 (d1)))
        have kb' := (jB.setCell (p := ⟨g, 1, none⟩) (Nat.le_refl g) (.int .i64 (d1)))
        have ks' : g + 3 ≤ (w3.setCell ⟨g, 1, none⟩ (.int .i64 (d1))).heap.size := (by simp; omega)
        clear hl hh
        go_wp2_with fail
        refine (hpl.out _ _ _).mono ?_
        rintro e w4 ⟨rfl, h4⟩
        have kr' := kr'.on h4 (by omega)
        have kb' := kb'.trans (h4.mono (by omega))
        have r0 := kr'.c0
        have r1 := kr'.c1
        have r2 := kr'.f0
        have r3 := kr'.f1
        have kk := Lib.hid (fun P Q => kr'.set P Q)
        have kb := Lib.hid (fun P Q => below_two (h := g + 1 + 1) kb' (by omega) P Q)
        have dl' := Lib.hid dl
        have dh' := Lib.hid dh
        clear jx jy jr jB kr' kb' h4 x0 x1 y0 y1 xf0 xf1 dl dh
        go_wp2
        exact held_ret (kk.out _ _) (by rw [← hL.out, ← (show a1 = max a1 c1 by have := dl'.out; simp at this; omega), ← (show d1 = min b1 d1 by have := dh'.out; simp at this; omega)]) (by rw [← hH.out, ← (show a1 = max a1 c1 by have := dl'.out; simp at this; omega), ← (show d1 = min b1 d1 by have := dh'.out; simp at this; omega)]) (by rw [hg]; exact kb.out _ _) _ _ 4 rfl rfl rfl
      · have dh : decide (d1 < b1) = false := by simpa using hh
        have kr' := jr
        have kb' := jB
        have ks' : g + 3 ≤ w3.heap.size := jS
        clear hl hh
        go_wp2_with fail
        refine (hpl.out _ _ _).mono ?_
        rintro e w4 ⟨rfl, h4⟩
        have kr' := kr'.on h4 (by omega)
        have kb' := kb'.trans (h4.mono (by omega))
        have r0 := kr'.c0
        have r1 := kr'.c1
        have r2 := kr'.f0
        have r3 := kr'.f1
        have kk := Lib.hid (fun P Q => kr'.set P Q)
        have kb := Lib.hid (fun P Q => below_two (h := g + 1 + 1) kb' (by omega) P Q)
        have dl' := Lib.hid dl
        have dh' := Lib.hid dh
        clear jx jy jr jB kr' kb' h4 x0 x1 y0 y1 xf0 xf1 dl dh
        go_wp2
        exact held_ret (kk.out _ _) (by rw [← hL.out, ← (show a1 = max a1 c1 by have := dl'.out; simp at this; omega), ← (show b1 = min b1 d1 by have := dh'.out; simp at this; omega)]) (by rw [← hH.out, ← (show a1 = max a1 c1 by have := dl'.out; simp at this; omega), ← (show b1 = min b1 d1 by have := dh'.out; simp at this; omega)]) (by rw [hg]; exact kb.out _ _) _ _ 4 rfl rfl rfl
end Go.Proofs.YthjpkbhgpjefpaaDoor
