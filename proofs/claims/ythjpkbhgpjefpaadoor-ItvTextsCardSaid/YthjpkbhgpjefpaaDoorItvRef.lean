/- The document's Of, None, Plain, Has, Size, empty. -/
import Derived.Test.YthjpkbhgpjefpaaDoorItvMath
namespace Go.Proofs.YthjpkbhgpjefpaaDoor
open Go.RowKit
set_option linter.unusedVariables false
set_option linter.unusedSimpArgs false

theorem rnone_any (w : World) : Calls Tryd.prog 45 #[] w (Gives (.agg #[.int .i64 1, .int .i64 0]) w) := by
  go_enter Tryd.func45, Tryd.ntmps45
  go_wp2
  exact held_ret (Held.new w 1 0) rfl rfl ((Below.refl _ w).alloc (Nat.le_refl _) _) _ _ 0 rfl rfl rfl
theorem rof_any (a b : Int) (w : World) : Calls Tryd.prog 39 #[.int .i64 a, .int .i64 b] w (Gives (.agg #[.int .i64 (ofL a b), .int .i64 (ofH a b)]) w) := by
  have hn := Lib.hid (fun w => rnone_any w)
  have c1 := Lib.hid (fun w => refclip_any a w)
  have c2 := Lib.hid (fun w => refclip_any b w)
  have hr := Held.new w 0 0
  have hB : Below w.heap.size w (w.alloc (.cells #[.int .i64 0, .int .i64 0] 23)) := (Below.refl _ w).alloc (Nat.le_refl _) _
  by_cases h : b < a ∨ 1099511627776 < a ∨ b < -1099511627776
  · obtain ⟨e1, e2⟩ := ofL_out h
    rw [e1, e2]
    have hd : (decide (b < a) || decide (1099511627776 < a) || decide (b < -1099511627776)) = true := by simp; omega
    clear e1 e2 h
    go_enter Tryd.func39, Tryd.ntmps39
    go_wp2_with fail
    all_goals (
      refine (hn.out _).mono ?_
      rintro e w1 ⟨rfl, h1⟩
      have k := hr.on h1 (by simp)
      have c0 := k.c0
      have c1 := k.c1
      have f0 := k.f0
      have f1 := k.f1
      have kk := Lib.hid (k.set 1 0)
      have kb := Lib.hid (((hB.trans (h1.mono (by simp))).setCell (p := ⟨w.heap.size, 0, none⟩) (Nat.le_refl _) (.int .i64 1)).setCell (p := ⟨w.heap.size, 1, none⟩) (Nat.le_refl _) (.int .i64 0))
      clear k hr h1 hB hd
      go_wp2
      exact held_ret kk.out rfl rfl kb.out _ _ 4 rfl rfl rfl)
  · obtain ⟨e1, e2⟩ := ofL_in h
    rw [e1, e2]
    have d1 : decide (b < a) = false := by simp; omega
    have d2 : decide (1099511627776 < a) = false := by simp; omega
    have d3 : decide (b < -1099511627776) = false := by simp; omega
    generalize clip a = x at *
    generalize clip b = y at *
    clear e1 e2 h
    go_enter Tryd.func39, Tryd.ntmps39
    go_wp2_with fail
    refine (c1.out _).mono ?_
    rintro e w' ⟨rfl, rfl⟩
    go_wp2_with fail
    refine (c2.out _).mono ?_
    rintro e w' ⟨rfl, rfl⟩
    go_wp2
    exact held_ret (Held.new w x y) rfl rfl ((Below.refl _ w).alloc (Nat.le_refl _) _) _ _ 4 rfl rfl rfl
theorem rplain_any (a b : Int) (w : World) : Calls Tryd.prog 10 #[.agg #[.int .i64 a, .int .i64 b]] w (Gives (.agg #[.int .i64 (ofL a b), .int .i64 (ofH a b)]) w) := by
  have hn := Lib.hid (fun w => rof_any a b w)
  generalize ofL a b = x at *
  generalize ofH a b = y at *
  go_enter Tryd.func10, Tryd.ntmps10
  go_wp2_with fail
  refine (hn.out _).mono ?_
  rintro e w1 ⟨rfl, h1⟩
  have hr := Held.new (w.alloc (.cells #[.int .i64 a, .int .i64 b] 23)) 0 0
  have k := hr.on h1 (by simp)
  rw [size_alloc1] at k
  have c0 := k.c0
  have c1 := k.c1
  have f0 := k.f0
  have f1 := k.f1
  have kk := Lib.hid (k.set x y)
  have kb := Lib.hid ((((two_below w _ _).trans (h1.mono (by simp; omega))).setCell (p := ⟨w.heap.size + 1, 0, none⟩) (by show _ ≤ _ + 1; omega) (.int .i64 x)).setCell (p := ⟨w.heap.size + 1, 1, none⟩) (by show _ ≤ _ + 1; omega) (.int .i64 y))
  clear k hr h1
  go_wp2
  exact held_ret kk.out rfl rfl kb.out _ _ 2 rfl rfl rfl
theorem rhas_any (a b v : Int) (w : World) : Calls Tryd.prog 15 #[.agg #[.int .i64 a, .int .i64 b], .int .i64 v] w (Gives (.bool (isV v && decide (a ≤ v) && decide (v ≤ b))) w) := by
  have hn := Lib.hid (fun w => refis_any v w)
  generalize isV v = I at *
  go_enter Tryd.func15, Tryd.ntmps15
  go_wp2_with fail
  refine (hn.out _).mono ?_
  rintro e w1 ⟨rfl, rfl⟩
  go_wp2
  all_goals (go_ret; exact ⟨ret_bool (by simp_all <;> try omega), (Below.refl _ w).alloc (Nat.le_refl _) _⟩)
theorem rsize_itv (a b : Int) (w : World) : Calls Tryd.prog 13 #[.agg #[.int .i64 a, .int .i64 b]] w (Gives (.int .i64 (ofH a b - ofL a b + 1)) w) := by
  have hp := Lib.hid (fun w => rplain_any a b w)
  have hr : -1099511627776 ≤ ofL a b ∧ ofL a b ≤ 1099511627776 ∧ -1099511627776 ≤ ofH a b ∧ ofH a b ≤ 1099511627776 := by
    have h1 := clip_in a
    have h2 := clip_in b
    unfold ofL ofH; split <;> omega
  generalize ofL a b = x at *
  generalize ofH a b = y at *
  obtain ⟨kx, hB, hS⟩ := box1 w a b
  go_enter Tryd.func13, Tryd.ntmps13
  go_wp2_with fail
  refine (hp.out _).mono ?_
  rintro e w1 ⟨rfl, h1⟩
  have jx := kx.on h1 (by omega)
  have jB := hB.trans (h1.mono (by omega))
  have r0 := jx.c0
  have r1 := jx.c1
  have r2 := jx.f0
  have r3 := jx.f1
  have j2 := jx.set x y
  have x0 := j2.c0
  have x1 := j2.c1
  have kb := Lib.hid (below_two (h := w.heap.size) jB (by omega) x y)
  clear kx hB hS jx j2 jB h1
  go_wp2
  go_ret
  exact ⟨rfl, kb.out⟩
theorem rempty_any (a b : Int) (w : World) : Calls Tryd.prog 42 #[.agg #[.int .i64 a, .int .i64 b]] w (Gives (.bool (ofL a b == 1 && ofH a b == 0)) w) := by
  have hp := Lib.hid (fun w => rplain_any a b w)
  have hn := Lib.hid (fun w => rnone_any w)
  generalize ofL a b = x at *
  generalize ofH a b = y at *
  obtain ⟨kx, hB, hS⟩ := box1 w a b
  go_enter Tryd.func42, Tryd.ntmps42
  go_wp2_with fail
  refine (hp.out _).mono ?_
  rintro e w1 ⟨rfl, h1⟩
  have jB := hB.trans (h1.mono (by omega))
  have jS := h1.size
  go_wp2_with fail
  refine (hn.out _).mono ?_
  rintro e w2 ⟨rfl, h2⟩
  have jB := Lib.hid (jB.trans (h2.mono (by omega)))
  clear kx hB hS h1 h2 jS
  go_wp2
  all_goals (go_ret; exact ⟨ret_bool (by simp_all), jB.out⟩)
theorem rempty_plain (a b : Int) (w : World) : Calls Tryd.prog 42 #[.agg #[.int .i64 (ofL a b), .int .i64 (ofH a b)]] w (Gives (.bool (ofL a b == 1 && ofH a b == 0)) w) := by
  have h := rempty_any (ofL a b) (ofH a b) w
  rw [(of_of a b).1, (of_of a b).2] at h
  exact h
end Go.Proofs.YthjpkbhgpjefpaaDoor
