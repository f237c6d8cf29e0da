/- The document's Move, Neg. -/
import Derived.Test.YthjpkbhgpjefpaaDoorItvRef
import Derived.Test.YthjpkbhgpjefpaaDoorItvHas
namespace Go.Proofs.YthjpkbhgpjefpaaDoor
open Go.RowKit
set_option linter.unusedVariables false
set_option linter.unusedSimpArgs false

theorem move_none (a b c : Int) (h : (ofL a b == 1 && ofH a b == 0) = true) : mvL (ofL a b) (ofH a b) c = 1 ∧ mvH (ofL a b) (ofH a b) c = 0 := by
  rw [Bool.and_eq_true, beq_iff_eq, beq_iff_eq] at h
  rw [h.1, h.2]
  unfold mvL mvH
  split
  · exact ⟨rfl, rfl⟩
  · exact ofL_out (.inl (by omega))
theorem neg_some (a b : Int) (h : (ofL a b == 1 && ofH a b == 0) = false) : ofL (-ofH a b) (-ofL a b) = -ofH a b ∧ ofH (-ofH a b) (-ofL a b) = -ofL a b := by
  have h1 : ¬ emp a b := fun e => by rw [(none_iff a b).2 e] at h; cases h
  have hab := clip_le (a := a) (b := b) (by unfold emp at h1; omega)
  have ha := clip_in a
  have hb := clip_in b
  rw [(ofL_in h1).1, (ofL_in h1).2]
  have e := ofL_in (a := -clip b) (b := -clip a) (by omega)
  rw [e.1, e.2, clip_id (n := -clip b) (by omega) (by omega), clip_id (n := -clip a) (by omega) (by omega)]
  exact ⟨rfl, rfl⟩
theorem rmove_any (a b c : Int) (w : World) : Calls Tryd.prog 24 #[.agg #[.int .i64 a, .int .i64 b], .int .i64 c] w (Gives (.agg #[.int .i64 (mvL (ofL a b) (ofH a b) c), .int .i64 (mvH (ofL a b) (ofH a b) c)]) w) := by
  have hp := Lib.hid (fun w => rplain_any a b w)
  have hex := Lib.hid (fun w => rempty_plain a b w)
  have hn := Lib.hid (fun w => rnone_any w)
  have hof := Lib.hid (fun a b w => rof_any a b w)
  have hi := of_in a b
  have hnone := Lib.hid (move_none a b c)
  have hL : Hid (mvL (ofL a b) (ofH a b) c = if 2199023255552 < c ∨ c < -2199023255552 then 1 else ofL (ofL a b + c) (ofH a b + c)) := Lib.hid rfl
  have hH : Hid (mvH (ofL a b) (ofH a b) c = if 2199023255552 < c ∨ c < -2199023255552 then 0 else ofH (ofL a b + c) (ofH a b + c)) := Lib.hid rfl
  generalize mvL (ofL a b) (ofH a b) c = P at *
  generalize mvH (ofL a b) (ofH a b) c = Q at *
  generalize ofL a b = a1 at *
  generalize ofH a b = b1 at *
  obtain ⟨kx, kr, hB, hS⟩ := box2 w a b 0 0
  go_enter Tryd.func24, Tryd.ntmps24
  go_wp2_with fail
  refine (hp.out _).mono ?_
  rintro e w1 ⟨rfl, h1⟩
  have jx := kx.on h1 (by omega)
  have jr := kr.on h1 (by omega)
  have jB := hB.trans (h1.mono (by omega))
  have jS := h1.size
  have r0 := jx.c0
  have r1 := jx.c1
  have r2 := jx.f0
  have r3 := jx.f1
  have jx := jx.set a1 b1
  have x0 := jx.c0
  have x1 := jx.c1
  have jr := (jr.other (g := w.heap.size) (by omega) 0 (.int .i64 a1)).other (g := w.heap.size) (by omega) 1 (.int .i64 b1)
  have jB := below_two (h := w.heap.size) jB (by omega) a1 b1
  have jS : w.heap.size + 2 ≤ ((w1.setCell ⟨w.heap.size, 0, none⟩ (.int .i64 a1)).setCell ⟨w.heap.size, 1, none⟩ (.int .i64 b1)).heap.size := by rw [size_two]; omega
  have kx' := Lib.hid jx
  have kr' := Lib.hid jr
  have kB' := Lib.hid jB
  have kS' := Lib.hid jS
  clear kx kr hB hS jx jr jB jS h1
  go_wp2_with fail
  refine (hex.out _).mono ?_
  rintro e w2 ⟨rfl, h2⟩
  have jx := kx'.out.on h2 (by have := kS'.out; omega)
  have jr := kr'.out.on h2 (by have := kS'.out; omega)
  have jB := kB'.out.trans (h2.mono (by have := kS'.out; omega))
  have jS : w.heap.size + 2 ≤ w2.heap.size := by have := kS'.out; have := h2.size; omega
  clear r0 r1 r2 r3 x0 x1 kx' kr' kB' kS' h2
  have x0 := jx.c0
  have x1 := jx.c1
  cases e1 : (a1 == 1 && b1 == 0) with
  | true =>
    have hL := Lib.hid (hnone.out e1).1
    have hH := Lib.hid (hnone.out e1).2
    clear e1
    go_wp2_with fail
    refine (hn.out _).mono ?_
    rintro e w3 ⟨rfl, h3⟩
    have kr' := jr.on h3 (by omega)
    have kb' := jB.trans (h3.mono (by omega))
    have r0 := kr'.c0
    have r1 := kr'.c1
    have r2 := kr'.f0
    have r3 := kr'.f1
    have kk := Lib.hid (fun P Q => kr'.set P Q)
    have kb := Lib.hid (fun P Q => below_two (h := w.heap.size + 1) kb' (by omega) P Q)
    clear jx jr jB kr' kb' h3 x0 x1
    go_wp2
    exact held_ret (kk.out _ _) hL.out.symm hH.out.symm (kb.out _ _) _ _ 4 rfl rfl rfl
  | false =>
    clear e1
    by_cases hc : 2199023255552 < c ∨ c < -2199023255552
    · have hL := Lib.hid (hL.out.trans (if_pos hc))
      have hH := Lib.hid (hH.out.trans (if_pos hc))
      rcases hc with hc | hc
      · have d1 : decide (2199023255552 < c) = true := by simpa using hc
        clear hc
        go_wp2_with fail
        refine (hn.out _).mono ?_
        rintro e w3 ⟨rfl, h3⟩
        have kr' := jr.on h3 (by omega)
        have kb' := jB.trans (h3.mono (by omega))
        have r0 := kr'.c0
        have r1 := kr'.c1
        have r2 := kr'.f0
        have r3 := kr'.f1
        have kk := Lib.hid (fun P Q => kr'.set P Q)
        have kb := Lib.hid (fun P Q => below_two (h := w.heap.size + 1) kb' (by omega) P Q)
        clear jx jr jB kr' kb' h3 x0 x1
        go_wp2
        exact held_ret (kk.out _ _) hL.out.symm hH.out.symm (kb.out _ _) _ _ 4 rfl rfl rfl
      · have d1 : decide (2199023255552 < c) = false := by simp; omega
        have d2 : decide (c < -2199023255552) = true := by simpa using hc
        clear hc
        go_wp2_with fail
        refine (hn.out _).mono ?_
        rintro e w3 ⟨rfl, h3⟩
        have kr' := jr.on h3 (by omega)
        have kb' := jB.trans (h3.mono (by omega))
        have r0 := kr'.c0
        have r1 := kr'.c1
        have r2 := kr'.f0
        have r3 := kr'.f1
        have kk := Lib.hid (fun P Q => kr'.set P Q)
        have kb := Lib.hid (fun P Q => below_two (h := w.heap.size + 1) kb' (by omega) P Q)
        clear jx jr jB kr' kb' h3 x0 x1
        go_wp2
        exact held_ret (kk.out _ _) hL.out.symm hH.out.symm (kb.out _ _) _ _ 4 rfl rfl rfl
    · have hL := Lib.hid (hL.out.trans (if_neg hc))
      have hH := Lib.hid (hH.out.trans (if_neg hc))
      have d1 : decide (2199023255552 < c) = false := by simp; omega
      have d2 : decide (c < -2199023255552) = false := by simp; omega
      go_wp2_with fail
      refine (hof.out _ _ _).mono ?_
      rintro e w3 ⟨rfl, h3⟩
      have kr' := jr.on h3 (by omega)
      have kb' := jB.trans (h3.mono (by omega))
      have r0 := kr'.c0
      have r1 := kr'.c1
      have r2 := kr'.f0
      have r3 := kr'.f1
      have kk := Lib.hid (fun P Q => kr'.set P Q)
      have kb := Lib.hid (fun P Q => below_two (h := w.heap.size + 1) kb' (by omega) P Q)
      clear jx jr jB kr' kb' h3 x0 x1
      go_wp2
      exact held_ret (kk.out _ _) hL.out.symm hH.out.symm (kb.out _ _) _ _ 4 rfl rfl rfl
theorem rneg_any (a b : Int) (w : World) : Calls Tryd.prog 28 #[.agg #[.int .i64 a, .int .i64 b]] w (Gives (.agg #[.int .i64 (ngL (ofL a b) (ofH a b)), .int .i64 (ngH (ofL a b) (ofH a b))]) w) := by
  have hp := Lib.hid (fun w => rplain_any a b w)
  have hex := Lib.hid (fun w => rempty_plain a b w)
  have hn := Lib.hid (fun w => rnone_any w)
  have hof := Lib.hid (fun a b w => rof_any a b w)
  have hi := of_in a b
  have hsome := Lib.hid (neg_some a b)
  have hL : Hid (ngL (ofL a b) (ofH a b) = if ofL a b == 1 && ofH a b == 0 then ofL a b else -ofH a b) := Lib.hid rfl
  have hH : Hid (ngH (ofL a b) (ofH a b) = if ofL a b == 1 && ofH a b == 0 then ofH a b else -ofL a b) := Lib.hid rfl
  generalize ngL (ofL a b) (ofH a b) = P at *
  generalize ngH (ofL a b) (ofH a b) = Q at *
  generalize ofL a b = a1 at *
  generalize ofH a b = b1 at *
  obtain ⟨kx, kr, hB, hS⟩ := box2 w a b 0 0
  go_enter Tryd.func28, Tryd.ntmps28
  go_wp2_with fail
  refine (hp.out _).mono ?_
  rintro e w1 ⟨rfl, h1⟩
  have jx := kx.on h1 (by omega)
  have jr := kr.on h1 (by omega)
  have jB := hB.trans (h1.mono (by omega))
  have jS := h1.size
  have r0 := jx.c0
  have r1 := jx.c1
  have r2 := jx.f0
  have r3 := jx.f1
  have jx := jx.set a1 b1
  have x0 := jx.c0
  have x1 := jx.c1
  have jr := (jr.other (g := w.heap.size) (by omega) 0 (.int .i64 a1)).other (g := w.heap.size) (by omega) 1 (.int .i64 b1)
  have jB := below_two (h := w.heap.size) jB (by omega) a1 b1
  have jS : w.heap.size + 2 ≤ ((w1.setCell ⟨w.heap.size, 0, none⟩ (.int .i64 a1)).setCell ⟨w.heap.size, 1, none⟩ (.int .i64 b1)).heap.size := by rw [size_two]; omega
  have kx' := Lib.hid jx
  have kr' := Lib.hid jr
  have kB' := Lib.hid jB
  have kS' := Lib.hid jS
  clear kx kr hB hS jx jr jB jS h1
  go_wp2_with fail
  refine (hex.out _).mono ?_
  rintro e w2 ⟨rfl, h2⟩
  have jx := kx'.out.on h2 (by have := kS'.out; omega)
  have jr := kr'.out.on h2 (by have := kS'.out; omega)
  have jB := kB'.out.trans (h2.mono (by have := kS'.out; omega))
  have jS : w.heap.size + 2 ≤ w2.heap.size := by have := kS'.out; have := h2.size; omega
  clear r0 r1 r2 r3 x0 x1 kx' kr' kB' kS' h2
  have x0 := jx.c0
  have x1 := jx.c1
  cases e1 : (a1 == 1 && b1 == 0) with
  | true =>
    have hL := Lib.hid (hL.out.trans (if_pos e1))
    have hH := Lib.hid (hH.out.trans (if_pos e1))
    clear e1
    have r0 := jr.c0
    have r1 := jr.c1
    have r2 := jr.f0
    have r3 := jr.f1
    have kk := Lib.hid (fun P Q => jr.set P Q)
    have kb := Lib.hid (fun P Q => below_two (h := w.heap.size + 1) jB (by omega) P Q)
    clear jx jr jB
    go_wp2
    exact held_ret (kk.out _ _) hL.out.symm hH.out.symm (kb.out _ _) _ _ 2 rfl rfl rfl
  | false =>
    have hL := Lib.hid (hL.out.trans (if_neg (by rw [e1]; decide)))
    have hH := Lib.hid (hH.out.trans (if_neg (by rw [e1]; decide)))
    have hsome := Lib.hid (hsome.out e1)
    clear e1
    go_wp2_with fail
    refine (hof.out _ _ _).mono ?_
    rintro e w3 ⟨rfl, h3⟩
    have kr' := jr.on h3 (by omega)
    have kb' := jB.trans (h3.mono (by omega))
    have r0 := kr'.c0
    have r1 := kr'.c1
    have r2 := kr'.f0
    have r3 := kr'.f1
    have kk := Lib.hid (fun P Q => kr'.set P Q)
    have kb := Lib.hid (fun P Q => below_two (h := w.heap.size + 1) kb' (by omega) P Q)
    clear jx jr jB kr' kb' h3 x0 x1
    go_wp2
    exact held_ret (kk.out _ _) (hsome.out.1.trans hL.out.symm) (hsome.out.2.trans hH.out.symm) (kb.out _ _) _ _ 2 rfl rfl rfl
end Go.Proofs.YthjpkbhgpjefpaaDoor
