/-
  Words and walks under the law's proof.
-/
import Derived.Deep.DeepCutAuto
import Derived.Lib.BufferMore
import Derived.OwnWalk
import Derived.Test.YtimgocfkogebmaaGreatDoorQF02
import Derived.Test.YtimgocfkogebmaaGreatDoorQF03
namespace Go.Proofs.YtimgocfkogebmaaGreatDoor
open Go.RowKit
set_option linter.unusedVariables false
set_option linter.unusedSimpArgs false
theorem right_b1 (k x y c d n : Int) (h1 : n < 0) (w : World) : Calls Tryz.prog 136 #[.agg #[.int .i64 k, .int .i64 x, .int .i64 y, .int .i64 c, .int .i64 d], .int .i64 n] w (Gives (.bool false) w) := by
  have hB := Lib.hid ((Below.refl w.heap.size w).alloc (Nat.le_refl _) (.cells #[.int .i64 k, .int .i64 x, .int .i64 y, .int .i64 c, .int .i64 d] 73))
  go_enter Tryz.func136, Tryz.ntmps136
  go_wp2
  go_ret
  exact ⟨rfl, hB.out⟩
theorem right_b2 (k x y c d n : Int) (h1 : ¬ n < 0) (h2 : 8 < n) (w : World) : Calls Tryz.prog 136 #[.agg #[.int .i64 k, .int .i64 x, .int .i64 y, .int .i64 c, .int .i64 d], .int .i64 n] w (Gives (.bool false) w) := by
  have hB := Lib.hid ((Below.refl w.heap.size w).alloc (Nat.le_refl _) (.cells #[.int .i64 k, .int .i64 x, .int .i64 y, .int .i64 c, .int .i64 d] 73))
  go_enter Tryz.func136, Tryz.ntmps136
  go_wp2
  go_ret
  exact ⟨rfl, hB.out⟩
theorem right_b3 (k x y c d n : Int) (h1 : ¬ n < 0) (h2 : ¬ 8 < n) (h3 : k < 1) (w : World) : Calls Tryz.prog 136 #[.agg #[.int .i64 k, .int .i64 x, .int .i64 y, .int .i64 c, .int .i64 d], .int .i64 n] w (Gives (.bool false) w) := by
  have hB := Lib.hid ((Below.refl w.heap.size w).alloc (Nat.le_refl _) (.cells #[.int .i64 k, .int .i64 x, .int .i64 y, .int .i64 c, .int .i64 d] 73))
  go_enter Tryz.func136, Tryz.ntmps136
  go_wp2
  go_ret
  exact ⟨rfl, hB.out⟩
theorem right_b4 (k x y c d n : Int) (h1 : ¬ n < 0) (h2 : ¬ 8 < n) (h3 : ¬ k < 1) (h4 : 5 < k) (w : World) : Calls Tryz.prog 136 #[.agg #[.int .i64 k, .int .i64 x, .int .i64 y, .int .i64 c, .int .i64 d], .int .i64 n] w (Gives (.bool false) w) := by
  have hB := Lib.hid ((Below.refl w.heap.size w).alloc (Nat.le_refl _) (.cells #[.int .i64 k, .int .i64 x, .int .i64 y, .int .i64 c, .int .i64 d] 73))
  go_enter Tryz.func136, Tryz.ntmps136
  go_wp2
  go_ret
  exact ⟨rfl, hB.out⟩
theorem rright_b1 (k x y c d n : Int) (h1 : n < 0) (w : World) : Calls Tryz.prog 91 #[.agg #[.int .i64 k, .int .i64 x, .int .i64 y, .int .i64 c, .int .i64 d], .int .i64 n] w (Gives (.bool false) w) := by
  have hB := Lib.hid ((Below.refl w.heap.size w).alloc (Nat.le_refl _) (.cells #[.int .i64 k, .int .i64 x, .int .i64 y, .int .i64 c, .int .i64 d] 73))
  go_enter Tryz.func91, Tryz.ntmps91
  go_wp2
  go_ret
  exact ⟨rfl, hB.out⟩
theorem rright_b2 (k x y c d n : Int) (h1 : ¬ n < 0) (h2 : 8 < n) (w : World) : Calls Tryz.prog 91 #[.agg #[.int .i64 k, .int .i64 x, .int .i64 y, .int .i64 c, .int .i64 d], .int .i64 n] w (Gives (.bool false) w) := by
  have hB := Lib.hid ((Below.refl w.heap.size w).alloc (Nat.le_refl _) (.cells #[.int .i64 k, .int .i64 x, .int .i64 y, .int .i64 c, .int .i64 d] 73))
  go_enter Tryz.func91, Tryz.ntmps91
  go_wp2
  go_ret
  exact ⟨rfl, hB.out⟩
theorem right_any (k x y c d n : Int) (w : World) : Calls Tryz.prog 136 #[.agg #[.int .i64 k, .int .i64 x, .int .i64 y, .int .i64 c, .int .i64 d], .int .i64 n] w (Gives (.bool (rightB k x y c d n)) w) := by
  by_cases h1 : n < 0
  · rw [show rightB k x y c d n = false by unfold rightB; rw [if_pos (.inl h1)]]; exact right_b1 k x y c d n h1 w
  by_cases h2 : 8 < n
  · rw [show rightB k x y c d n = false by unfold rightB; rw [if_pos (.inr (.inl h2))]]; exact right_b2 k x y c d n h1 h2 w
  by_cases h3 : k < 1
  · rw [show rightB k x y c d n = false by unfold rightB; rw [if_pos (.inr (.inr (.inl h3)))]]; exact right_b3 k x y c d n h1 h2 h3 w
  by_cases h4 : 5 < k
  · rw [show rightB k x y c d n = false by unfold rightB; rw [if_pos (.inr (.inr (.inr h4)))]]; exact right_b4 k x y c d n h1 h2 h3 h4 w
  have e : rightB k x y c d n = stmtB k x y c d n := by unfold rightB; rw [if_neg (by omega)]
  rw [e]
  obtain rfl | rfl | rfl | rfl | rfl : k = 1 ∨ k = 2 ∨ k = 3 ∨ k = 4 ∨ k = 5 := by omega
  · exact right_1 x y c d n _ (by omega) (by omega) (fun W => rightSkip_any 1 x y c d n W) w
  · exact right_2 x y c d n _ (by omega) (by omega) (fun W => rightLet_any 2 x y c d n W) w
  · exact right_3 x y c d n _ (by omega) (by omega) (fun W => rightAny_any 3 x y c d n W) w
  · exact right_4 x y c d n _ (by omega) (by omega) (fun W => rightDiff_any 4 x y c d n W) w
  · exact right_5 x y c d n _ (by omega) (by omega) (fun W => rightDiff_any 5 x y c d n W) w
theorem rval_any (c : Int) (w : World) : Calls Tryz.prog 52 #[.int .i64 c] w (SetTo (.bool (isValB c)) w) := by
  by_cases h1 : -1099511627776 ≤ c
  · have hR : Hid (decide (c ≤ 1099511627776) = isValB c) := Lib.hid (by unfold isValB; rw [decide_eq_true h1, Bool.true_and])
    go_enter Tryz.func52, Tryz.ntmps52
    go_wp2
    go_ret
    exact ⟨ret_bool hR.out, rfl⟩
  · have hR : Hid (false = isValB c) := Lib.hid (by unfold isValB; rw [decide_eq_false h1, Bool.false_and])
    go_enter Tryz.func52, Tryz.ntmps52
    go_wp2
    go_ret
    exact ⟨ret_bool hR.out, rfl⟩
theorem isTerm_or {x n : Int} (h : ¬ n < 0) : isTermB x n = (isVarB x n || (x == 0)) := by
  unfold isTermB isVarB
  rw [Bool.eq_iff_iff]
  simp only [Bool.and_eq_true, Bool.or_eq_true, decide_eq_true_eq, beq_iff_eq]
  omega
set_option maxRecDepth 100000 in
set_option maxHeartbeats 8000000 in
theorem rright_in (k x y c d n : Int) (h1 : ¬ n < 0) (h2 : ¬ 8 < n) (w : World) : Calls Tryz.prog 91 #[.agg #[.int .i64 k, .int .i64 x, .int .i64 y, .int .i64 c, .int .i64 d], .int .i64 n] w (Gives (.bool (if k < 1 ∨ 5 < k then false else stmtB k x y c d n)) w) := by
  obtain ⟨W1, hW1⟩ : ∃ W1, W1 = w.alloc (.cells #[.int .i64 k, .int .i64 x, .int .i64 y, .int .i64 c, .int .i64 d] 73) := ⟨_, rfl⟩
  have hB : Below w.heap.size w W1 := by rw [hW1]; exact (Below.refl _ _).alloc (Nat.le_refl _) _
  have hH : Holds W1 w.heap.size 73 #[.int .i64 k, .int .i64 x, .int .i64 y, .int .i64 c, .int .i64 d] := by rw [hW1]; exact Holds.new _ _ _
  have hW1' := Lib.hid hW1
  have hB' := Lib.hid hB
  have hH' := Lib.hid hH
  have hq := Lib.hid (fun W => rval_any c W)
  have hqd := Lib.hid (fun W => rval_any d W)
  have k1 := hH.cell 1
  have k2 := hH.cell 2
  have k3 := hH.cell 3
  obtain ⟨cv, hcv⟩ : ∃ cv, cv = isValB c := ⟨_, rfl⟩
  obtain ⟨dv, hdv⟩ : ∃ dv, dv = isValB d := ⟨_, rfl⟩
  rw [← hcv] at hq
  rw [← hdv] at hqd
  obtain ⟨bx, hbx⟩ : ∃ bx, bx = isVarB x n := ⟨_, rfl⟩
  obtain ⟨vy, hby⟩ : ∃ vy, vy = isVarB y n := ⟨_, rfl⟩
  have hcv' := Lib.hid hcv
  have hdv' := Lib.hid hdv
  have hbx' := Lib.hid hbx
  have hby' := Lib.hid hby
  have hh1 := Lib.hid h1
  have hh2 := Lib.hid h2
  clear hB hH hW1 hcv hdv hbx hby
  go_enter Tryz.func91, Tryz.ntmps91
  go_upto_region 3 with fail
  rw [← hW1'.out]
  go_cut [5, 6, 7] (fun e5 e6 e7 wx => e5 = .bool bx ∧ e6 = .bool vy ∧ e7 = .bool cv ∧ ∃ j, wx = W1.drewN j)
  case first =>
    have f1 : ∀ W, (∃ j, W = W1.drewN j) → W.cell? ⟨w.heap.size, 1, none⟩ = some (.int .i64 x) := fun W hW => by obtain ⟨j, rfl⟩ := hW; exact k1
    have f2 : ∀ W, (∃ j, W = W1.drewN j) → W.cell? ⟨w.heap.size, 2, none⟩ = some (.int .i64 y) := fun W hW => by obtain ⟨j, rfl⟩ := hW; exact k2
    have f3 : ∀ W, (∃ j, W = W1.drewN j) → W.cell? ⟨w.heap.size, 3, none⟩ = some (.int .i64 c) := fun W hW => by obtain ⟨j, rfl⟩ := hW; exact k3
    clear k1 k2 k3
    by_cases hX : 1 ≤ x
    · by_cases hxn : x ≤ n
      · by_cases hY : 1 ≤ y
        · by_cases hyn : y ≤ n
          · have h_ : True := trivial
            refine wp_drawn_on (fun W => ∃ j, W = W1.drewN j) (by kernel_rfl) (⟨1, rfl⟩) (fun hHeld => ?_)
            refine wT 0 (v := ?v1) rfl (by kernel_rfl) (fun _ _ _ h => h) ?h1 (by assumption) ?r1
            case h1 => (intro w hSw; (try dsimp only at hSw); go_simp; try with_reducible rfl)
            refine wT 1 (v := ?v2) rfl (by kernel_rfl) (fun _ _ _ h => h) ?h2 (by assumption) ?r2
            case h2 => (intro w hSw; (try dsimp only at hSw); go_simp; try with_reducible rfl)
            refine wT 2 (v := ?v3) rfl (by kernel_rfl) (fun _ _ _ h => h) ?h3 (by assumption) ?r3
            case h3 => (intro w hSw; (try dsimp only at hSw); go_simp; try with_reducible rfl)
            refine wT 3 (v := ?v4) rfl (by kernel_rfl) (fun _ _ _ h => h) ?h4 (by assumption) ?r4
            case h4 => (intro w hSw; (try dsimp only at hSw); go_simp; try with_reducible rfl)
            refine wT 4 (v := ?v5) rfl (by kernel_rfl) (fun _ _ _ h => h) ?h5 (by assumption) ?r5
            case h5 => (intro w hSw; (try dsimp only at hSw); go_simp; try with_reducible rfl)
            refine wT 5 (v := ?v6) rfl (by kernel_rfl) (fun _ _ _ h => h) ?h6 (by assumption) ?r6
            case h6 => (intro w hSw; (try dsimp only at hSw); go_simp; try with_reducible rfl)
            refine wT 6 (v := ?v7) rfl (by kernel_rfl) (fun _ _ _ h => h) ?h7 (by assumption) ?r7
            case h7 => (intro w hSw; (try dsimp only at hSw); go_simp; try with_reducible rfl)
            refine wT 7 (v := ?v8) rfl (by kernel_rfl) (fun _ _ _ h => h) ?h8 (by assumption) ?r8
            case h8 => (intro w hSw; (try dsimp only at hSw); go_simp; try with_reducible rfl)
            refine wT 8 (v := ?v9) rfl (by kernel_rfl) (fun _ _ _ h => h) ?h9 (by assumption) ?r9
            case h9 => (intro w hSw; (try dsimp only at hSw); go_simp; try with_reducible rfl)
            refine wT 9 (v := ?v10) rfl (by kernel_rfl) (fun _ _ _ h => h) ?h10 (by assumption) ?r10
            case h10 => (intro w hSw; (try dsimp only at hSw); go_simp; try with_reducible rfl)
            refine wT 10 (v := ?v11) rfl (by kernel_rfl) (fun _ _ _ h => h) ?h11 (by assumption) ?r11
            case h11 => (intro w hSw; (try dsimp only at hSw); go_simp; try with_reducible rfl)
            refine wT 11 (v := ?v12) rfl (by kernel_rfl) (fun _ _ _ h => h) ?h12 (by assumption) ?r12
            case h12 => (intro w hSw; (try dsimp only at hSw); go_simp; try with_reducible rfl)
            refine wT 12 (v := ?v13) rfl (by kernel_rfl) (fun _ _ _ h => h) ?h13 (by assumption) ?r13
            case h13 => (intro w hSw; (try dsimp only at hSw); go_simp; try with_reducible rfl)
            refine wT 13 (v := ?v14) rfl (by kernel_rfl) (fun _ _ _ h => h) ?h14 (by assumption) ?r14
            case h14 => (intro w hSw; (try dsimp only at hSw); go_simp; try with_reducible rfl)
            refine wT 14 (v := ?v15) rfl (by kernel_rfl) (fun _ _ _ h => h) ?h15 (by assumption) ?r15
            case h15 => (intro w hSw; (try dsimp only at hSw); go_simp; try with_reducible rfl)
            refine wT 15 (v := ?v16) rfl (by kernel_rfl) (fun _ _ _ h => h) ?h16 (by assumption) ?r16
            case h16 => (intro w hSw; (try dsimp only at hSw); go_simp; try with_reducible rfl)
            refine wT 16 (v := ?v17) rfl (by kernel_rfl) (fun _ _ _ h => h) ?h17 (by assumption) ?r17
            case h17 => (intro w hSw; (try dsimp only at hSw); go_simp; try with_reducible rfl)
            refine wT 17 (v := ?v18) rfl (by kernel_rfl) (fun _ _ _ h => h) ?h18 (by assumption) ?r18
            case h18 => (intro w hSw; (try dsimp only at hSw); go_simp; try with_reducible rfl)
            refine wT 18 (v := ?v19) rfl (by kernel_rfl) (fun _ _ _ h => h) ?h19 (by assumption) ?r19
            case h19 => (intro w hSw; (try dsimp only at hSw); go_simp; try with_reducible rfl)
            refine wT 19 (v := ?v20) rfl (by kernel_rfl) (fun _ _ _ h => h) ?h20 (by assumption) ?r20
            case h20 => (intro w hSw; (try dsimp only at hSw); go_simp; try with_reducible rfl)
            try simp only [Act.put, List.setIfInBounds_toArray, List.set_cons_zero, List.set_cons_succ]
            refine wpAnyH_ready (rs := [20]) (by kernel_rfl) (by simp) ?_
            refine AllReadyH.cons (o := ⟨_, _, _, _, _, _⟩) rfl (fun K hK => ?_) AllReadyH.nil
            go_simp
            refine (hq.out _).mono ?_
            rintro e u7 ⟨rfl, rfl⟩
            go_simp
            refine hK.out _ _ (hHeld) (fun hHeld => ?_)
            clear hK K
            refine wT 21 (v := ?v21) rfl (by kernel_rfl) (fun _ _ _ h => h) ?h21 (by assumption) ?r21
            case h21 => (intro w hSw; (try dsimp only at hSw); go_simp; try with_reducible rfl)
            refine wT 22 (v := ?v22) rfl (by kernel_rfl) (fun _ _ _ h => h) ?h22 (by assumption) ?r22
            case h22 => (intro w hSw; (try dsimp only at hSw); go_simp; try with_reducible rfl)
            refine wT 23 (v := ?v23) rfl (by kernel_rfl) (fun _ _ _ h => h) ?h23 (by assumption) ?r23
            case h23 => (intro w hSw; (try dsimp only at hSw); go_simp; try with_reducible rfl)
            try simp only [Act.put, List.setIfInBounds_toArray, List.set_cons_zero, List.set_cons_succ]
            refine wpAnyH_done (by kernel_rfl) ?_ _
            go_wp2
            go_meet
            case rel => exact ⟨by rw [hbx'.out]; unfold isVarB; (simp [hX, hxn]) <;> omega, by rw [hby'.out]; unfold isVarB; (simp [hY, hyn]) <;> omega, rfl, hHeld⟩
          · have h_ : True := trivial
            refine wp_drawn_on (fun W => ∃ j, W = W1.drewN j) (by kernel_rfl) (⟨1, rfl⟩) (fun hHeld => ?_)
            refine wT 0 (v := ?v24) rfl (by kernel_rfl) (fun _ _ _ h => h) ?h24 (by assumption) ?r24
            case h24 => (intro w hSw; (try dsimp only at hSw); go_simp; try with_reducible rfl)
            refine wT 1 (v := ?v25) rfl (by kernel_rfl) (fun _ _ _ h => h) ?h25 (by assumption) ?r25
            case h25 => (intro w hSw; (try dsimp only at hSw); go_simp; try with_reducible rfl)
            refine wT 2 (v := ?v26) rfl (by kernel_rfl) (fun _ _ _ h => h) ?h26 (by assumption) ?r26
            case h26 => (intro w hSw; (try dsimp only at hSw); go_simp; try with_reducible rfl)
            refine wT 3 (v := ?v27) rfl (by kernel_rfl) (fun _ _ _ h => h) ?h27 (by assumption) ?r27
            case h27 => (intro w hSw; (try dsimp only at hSw); go_simp; try with_reducible rfl)
            refine wT 4 (v := ?v28) rfl (by kernel_rfl) (fun _ _ _ h => h) ?h28 (by assumption) ?r28
            case h28 => (intro w hSw; (try dsimp only at hSw); go_simp; try with_reducible rfl)
            refine wT 5 (v := ?v29) rfl (by kernel_rfl) (fun _ _ _ h => h) ?h29 (by assumption) ?r29
            case h29 => (intro w hSw; (try dsimp only at hSw); go_simp; try with_reducible rfl)
            refine wT 6 (v := ?v30) rfl (by kernel_rfl) (fun _ _ _ h => h) ?h30 (by assumption) ?r30
            case h30 => (intro w hSw; (try dsimp only at hSw); go_simp; try with_reducible rfl)
            refine wT 7 (v := ?v31) rfl (by kernel_rfl) (fun _ _ _ h => h) ?h31 (by assumption) ?r31
            case h31 => (intro w hSw; (try dsimp only at hSw); go_simp; try with_reducible rfl)
            refine wT 8 (v := ?v32) rfl (by kernel_rfl) (fun _ _ _ h => h) ?h32 (by assumption) ?r32
            case h32 => (intro w hSw; (try dsimp only at hSw); go_simp; try with_reducible rfl)
            refine wT 9 (v := ?v33) rfl (by kernel_rfl) (fun _ _ _ h => h) ?h33 (by assumption) ?r33
            case h33 => (intro w hSw; (try dsimp only at hSw); go_simp; try with_reducible rfl)
            refine wT 10 (v := ?v34) rfl (by kernel_rfl) (fun _ _ _ h => h) ?h34 (by assumption) ?r34
            case h34 => (intro w hSw; (try dsimp only at hSw); go_simp; try with_reducible rfl)
            refine wT 11 (v := ?v35) rfl (by kernel_rfl) (fun _ _ _ h => h) ?h35 (by assumption) ?r35
            case h35 => (intro w hSw; (try dsimp only at hSw); go_simp; try with_reducible rfl)
            refine wT 12 (v := ?v36) rfl (by kernel_rfl) (fun _ _ _ h => h) ?h36 (by assumption) ?r36
            case h36 => (intro w hSw; (try dsimp only at hSw); go_simp; try with_reducible rfl)
            refine wT 13 (v := ?v37) rfl (by kernel_rfl) (fun _ _ _ h => h) ?h37 (by assumption) ?r37
            case h37 => (intro w hSw; (try dsimp only at hSw); go_simp; try with_reducible rfl)
            refine wT 14 (v := ?v38) rfl (by kernel_rfl) (fun _ _ _ h => h) ?h38 (by assumption) ?r38
            case h38 => (intro w hSw; (try dsimp only at hSw); go_simp; try with_reducible rfl)
            refine wT 15 (v := ?v39) rfl (by kernel_rfl) (fun _ _ _ h => h) ?h39 (by assumption) ?r39
            case h39 => (intro w hSw; (try dsimp only at hSw); go_simp; try with_reducible rfl)
            refine wT 16 (v := ?v40) rfl (by kernel_rfl) (fun _ _ _ h => h) ?h40 (by assumption) ?r40
            case h40 => (intro w hSw; (try dsimp only at hSw); go_simp; try with_reducible rfl)
            refine wT 17 (v := ?v41) rfl (by kernel_rfl) (fun _ _ _ h => h) ?h41 (by assumption) ?r41
            case h41 => (intro w hSw; (try dsimp only at hSw); go_simp; try with_reducible rfl)
            refine wT 18 (v := ?v42) rfl (by kernel_rfl) (fun _ _ _ h => h) ?h42 (by assumption) ?r42
            case h42 => (intro w hSw; (try dsimp only at hSw); go_simp; try with_reducible rfl)
            refine wT 19 (v := ?v43) rfl (by kernel_rfl) (fun _ _ _ h => h) ?h43 (by assumption) ?r43
            case h43 => (intro w hSw; (try dsimp only at hSw); go_simp; try with_reducible rfl)
            try simp only [Act.put, List.setIfInBounds_toArray, List.set_cons_zero, List.set_cons_succ]
            refine wpAnyH_ready (rs := [20]) (by kernel_rfl) (by simp) ?_
            refine AllReadyH.cons (o := ⟨_, _, _, _, _, _⟩) rfl (fun K hK => ?_) AllReadyH.nil
            go_simp
            refine (hq.out _).mono ?_
            rintro e u7 ⟨rfl, rfl⟩
            go_simp
            refine hK.out _ _ (hHeld) (fun hHeld => ?_)
            clear hK K
            refine wT 21 (v := ?v44) rfl (by kernel_rfl) (fun _ _ _ h => h) ?h44 (by assumption) ?r44
            case h44 => (intro w hSw; (try dsimp only at hSw); go_simp; try with_reducible rfl)
            refine wT 22 (v := ?v45) rfl (by kernel_rfl) (fun _ _ _ h => h) ?h45 (by assumption) ?r45
            case h45 => (intro w hSw; (try dsimp only at hSw); go_simp; try with_reducible rfl)
            refine wT 23 (v := ?v46) rfl (by kernel_rfl) (fun _ _ _ h => h) ?h46 (by assumption) ?r46
            case h46 => (intro w hSw; (try dsimp only at hSw); go_simp; try with_reducible rfl)
            try simp only [Act.put, List.setIfInBounds_toArray, List.set_cons_zero, List.set_cons_succ]
            refine wpAnyH_done (by kernel_rfl) ?_ _
            go_wp2
            go_meet
            case rel => exact ⟨by rw [hbx'.out]; unfold isVarB; (simp [hX, hxn]) <;> omega, by rw [hby'.out]; unfold isVarB; (simp [hY, hyn]) <;> omega, rfl, hHeld⟩
        · have hyn : True := trivial
          refine wp_drawn_on (fun W => ∃ j, W = W1.drewN j) (by kernel_rfl) (⟨1, rfl⟩) (fun hHeld => ?_)
          refine wT 0 (v := ?v47) rfl (by kernel_rfl) (fun _ _ _ h => h) ?h47 (by assumption) ?r47
          case h47 => (intro w hSw; (try dsimp only at hSw); go_simp; try with_reducible rfl)
          refine wT 1 (v := ?v48) rfl (by kernel_rfl) (fun _ _ _ h => h) ?h48 (by assumption) ?r48
          case h48 => (intro w hSw; (try dsimp only at hSw); go_simp; try with_reducible rfl)
          refine wT 2 (v := ?v49) rfl (by kernel_rfl) (fun _ _ _ h => h) ?h49 (by assumption) ?r49
          case h49 => (intro w hSw; (try dsimp only at hSw); go_simp; try with_reducible rfl)
          refine wT 3 (v := ?v50) rfl (by kernel_rfl) (fun _ _ _ h => h) ?h50 (by assumption) ?r50
          case h50 => (intro w hSw; (try dsimp only at hSw); go_simp; try with_reducible rfl)
          refine wT 4 (v := ?v51) rfl (by kernel_rfl) (fun _ _ _ h => h) ?h51 (by assumption) ?r51
          case h51 => (intro w hSw; (try dsimp only at hSw); go_simp; try with_reducible rfl)
          refine wT 5 (v := ?v52) rfl (by kernel_rfl) (fun _ _ _ h => h) ?h52 (by assumption) ?r52
          case h52 => (intro w hSw; (try dsimp only at hSw); go_simp; try with_reducible rfl)
          refine wT 6 (v := ?v53) rfl (by kernel_rfl) (fun _ _ _ h => h) ?h53 (by assumption) ?r53
          case h53 => (intro w hSw; (try dsimp only at hSw); go_simp; try with_reducible rfl)
          refine wT 7 (v := ?v54) rfl (by kernel_rfl) (fun _ _ _ h => h) ?h54 (by assumption) ?r54
          case h54 => (intro w hSw; (try dsimp only at hSw); go_simp; try with_reducible rfl)
          refine wT 8 (v := ?v55) rfl (by kernel_rfl) (fun _ _ _ h => h) ?h55 (by assumption) ?r55
          case h55 => (intro w hSw; (try dsimp only at hSw); go_simp; try with_reducible rfl)
          refine wT 9 (v := ?v56) rfl (by kernel_rfl) (fun _ _ _ h => h) ?h56 (by assumption) ?r56
          case h56 => (intro w hSw; (try dsimp only at hSw); go_simp; try with_reducible rfl)
          refine wT 10 (v := ?v57) rfl (by kernel_rfl) (fun _ _ _ h => h) ?h57 (by assumption) ?r57
          case h57 => (intro w hSw; (try dsimp only at hSw); go_simp; try with_reducible rfl)
          refine wT 11 (v := ?v58) rfl (by kernel_rfl) (fun _ _ _ h => h) ?h58 (by assumption) ?r58
          case h58 => (intro w hSw; (try dsimp only at hSw); go_simp; try with_reducible rfl)
          refine wT 12 (v := ?v59) rfl (by kernel_rfl) (fun _ _ _ h => h) ?h59 (by assumption) ?r59
          case h59 => (intro w hSw; (try dsimp only at hSw); go_simp; try with_reducible rfl)
          refine wS 13 rfl (by kernel_rfl) (fun _ _ _ h => h) (by assumption) ?_
          refine wS 14 rfl (by kernel_rfl) (fun _ _ _ h => h) (by assumption) ?_
          refine wS 15 rfl (by kernel_rfl) (fun _ _ _ h => h) (by assumption) ?_
          refine wS 16 rfl (by kernel_rfl) (fun _ _ _ h => h) (by assumption) ?_
          refine wT 17 (v := ?v64) rfl (by kernel_rfl) (fun _ _ _ h => h) ?h64 (by assumption) ?r64
          case h64 => (intro w hSw; (try dsimp only at hSw); go_simp; try with_reducible rfl)
          refine wT 18 (v := ?v65) rfl (by kernel_rfl) (fun _ _ _ h => h) ?h65 (by assumption) ?r65
          case h65 => (intro w hSw; (try dsimp only at hSw); go_simp; try with_reducible rfl)
          refine wT 19 (v := ?v66) rfl (by kernel_rfl) (fun _ _ _ h => h) ?h66 (by assumption) ?r66
          case h66 => (intro w hSw; (try dsimp only at hSw); go_simp; try with_reducible rfl)
          try simp only [Act.put, List.setIfInBounds_toArray, List.set_cons_zero, List.set_cons_succ]
          refine wpAnyH_ready (rs := [20]) (by kernel_rfl) (by simp) ?_
          refine AllReadyH.cons (o := ⟨_, _, _, _, _, _⟩) rfl (fun K hK => ?_) AllReadyH.nil
          go_simp
          refine (hq.out _).mono ?_
          rintro e u7 ⟨rfl, rfl⟩
          go_simp
          refine hK.out _ _ (hHeld) (fun hHeld => ?_)
          clear hK K
          refine wT 21 (v := ?v67) rfl (by kernel_rfl) (fun _ _ _ h => h) ?h67 (by assumption) ?r67
          case h67 => (intro w hSw; (try dsimp only at hSw); go_simp; try with_reducible rfl)
          refine wT 22 (v := ?v68) rfl (by kernel_rfl) (fun _ _ _ h => h) ?h68 (by assumption) ?r68
          case h68 => (intro w hSw; (try dsimp only at hSw); go_simp; try with_reducible rfl)
          refine wT 23 (v := ?v69) rfl (by kernel_rfl) (fun _ _ _ h => h) ?h69 (by assumption) ?r69
          case h69 => (intro w hSw; (try dsimp only at hSw); go_simp; try with_reducible rfl)
          try simp only [Act.put, List.setIfInBounds_toArray, List.set_cons_zero, List.set_cons_succ]
          refine wpAnyH_done (by kernel_rfl) ?_ _
          go_wp2
          go_meet
          case rel => exact ⟨by rw [hbx'.out]; unfold isVarB; (simp [hX, hxn]) <;> omega, by rw [hby'.out]; unfold isVarB; (simp [hY, hyn]) <;> omega, rfl, hHeld⟩
      · by_cases hY : 1 ≤ y
        · by_cases hyn : y ≤ n
          · have h_ : True := trivial
            refine wp_drawn_on (fun W => ∃ j, W = W1.drewN j) (by kernel_rfl) (⟨1, rfl⟩) (fun hHeld => ?_)
            refine wT 0 (v := ?v70) rfl (by kernel_rfl) (fun _ _ _ h => h) ?h70 (by assumption) ?r70
            case h70 => (intro w hSw; (try dsimp only at hSw); go_simp; try with_reducible rfl)
            refine wT 1 (v := ?v71) rfl (by kernel_rfl) (fun _ _ _ h => h) ?h71 (by assumption) ?r71
            case h71 => (intro w hSw; (try dsimp only at hSw); go_simp; try with_reducible rfl)
            refine wT 2 (v := ?v72) rfl (by kernel_rfl) (fun _ _ _ h => h) ?h72 (by assumption) ?r72
            case h72 => (intro w hSw; (try dsimp only at hSw); go_simp; try with_reducible rfl)
            refine wT 3 (v := ?v73) rfl (by kernel_rfl) (fun _ _ _ h => h) ?h73 (by assumption) ?r73
            case h73 => (intro w hSw; (try dsimp only at hSw); go_simp; try with_reducible rfl)
            refine wT 4 (v := ?v74) rfl (by kernel_rfl) (fun _ _ _ h => h) ?h74 (by assumption) ?r74
            case h74 => (intro w hSw; (try dsimp only at hSw); go_simp; try with_reducible rfl)
            refine wT 5 (v := ?v75) rfl (by kernel_rfl) (fun _ _ _ h => h) ?h75 (by assumption) ?r75
            case h75 => (intro w hSw; (try dsimp only at hSw); go_simp; try with_reducible rfl)
            refine wT 6 (v := ?v76) rfl (by kernel_rfl) (fun _ _ _ h => h) ?h76 (by assumption) ?r76
            case h76 => (intro w hSw; (try dsimp only at hSw); go_simp; try with_reducible rfl)
            refine wT 7 (v := ?v77) rfl (by kernel_rfl) (fun _ _ _ h => h) ?h77 (by assumption) ?r77
            case h77 => (intro w hSw; (try dsimp only at hSw); go_simp; try with_reducible rfl)
            refine wT 8 (v := ?v78) rfl (by kernel_rfl) (fun _ _ _ h => h) ?h78 (by assumption) ?r78
            case h78 => (intro w hSw; (try dsimp only at hSw); go_simp; try with_reducible rfl)
            refine wT 9 (v := ?v79) rfl (by kernel_rfl) (fun _ _ _ h => h) ?h79 (by assumption) ?r79
            case h79 => (intro w hSw; (try dsimp only at hSw); go_simp; try with_reducible rfl)
            refine wT 10 (v := ?v80) rfl (by kernel_rfl) (fun _ _ _ h => h) ?h80 (by assumption) ?r80
            case h80 => (intro w hSw; (try dsimp only at hSw); go_simp; try with_reducible rfl)
            refine wT 11 (v := ?v81) rfl (by kernel_rfl) (fun _ _ _ h => h) ?h81 (by assumption) ?r81
            case h81 => (intro w hSw; (try dsimp only at hSw); go_simp; try with_reducible rfl)
            refine wT 12 (v := ?v82) rfl (by kernel_rfl) (fun _ _ _ h => h) ?h82 (by assumption) ?r82
            case h82 => (intro w hSw; (try dsimp only at hSw); go_simp; try with_reducible rfl)
            refine wT 13 (v := ?v83) rfl (by kernel_rfl) (fun _ _ _ h => h) ?h83 (by assumption) ?r83
            case h83 => (intro w hSw; (try dsimp only at hSw); go_simp; try with_reducible rfl)
            refine wT 14 (v := ?v84) rfl (by kernel_rfl) (fun _ _ _ h => h) ?h84 (by assumption) ?r84
            case h84 => (intro w hSw; (try dsimp only at hSw); go_simp; try with_reducible rfl)
            refine wT 15 (v := ?v85) rfl (by kernel_rfl) (fun _ _ _ h => h) ?h85 (by assumption) ?r85
            case h85 => (intro w hSw; (try dsimp only at hSw); go_simp; try with_reducible rfl)
            refine wT 16 (v := ?v86) rfl (by kernel_rfl) (fun _ _ _ h => h) ?h86 (by assumption) ?r86
            case h86 => (intro w hSw; (try dsimp only at hSw); go_simp; try with_reducible rfl)
            refine wT 17 (v := ?v87) rfl (by kernel_rfl) (fun _ _ _ h => h) ?h87 (by assumption) ?r87
            case h87 => (intro w hSw; (try dsimp only at hSw); go_simp; try with_reducible rfl)
            refine wT 18 (v := ?v88) rfl (by kernel_rfl) (fun _ _ _ h => h) ?h88 (by assumption) ?r88
            case h88 => (intro w hSw; (try dsimp only at hSw); go_simp; try with_reducible rfl)
            refine wT 19 (v := ?v89) rfl (by kernel_rfl) (fun _ _ _ h => h) ?h89 (by assumption) ?r89
            case h89 => (intro w hSw; (try dsimp only at hSw); go_simp; try with_reducible rfl)
            try simp only [Act.put, List.setIfInBounds_toArray, List.set_cons_zero, List.set_cons_succ]
            refine wpAnyH_ready (rs := [20]) (by kernel_rfl) (by simp) ?_
            refine AllReadyH.cons (o := ⟨_, _, _, _, _, _⟩) rfl (fun K hK => ?_) AllReadyH.nil
            go_simp
            refine (hq.out _).mono ?_
            rintro e u7 ⟨rfl, rfl⟩
            go_simp
            refine hK.out _ _ (hHeld) (fun hHeld => ?_)
            clear hK K
            refine wT 21 (v := ?v90) rfl (by kernel_rfl) (fun _ _ _ h => h) ?h90 (by assumption) ?r90
            case h90 => (intro w hSw; (try dsimp only at hSw); go_simp; try with_reducible rfl)
            refine wT 22 (v := ?v91) rfl (by kernel_rfl) (fun _ _ _ h => h) ?h91 (by assumption) ?r91
            case h91 => (intro w hSw; (try dsimp only at hSw); go_simp; try with_reducible rfl)
            refine wT 23 (v := ?v92) rfl (by kernel_rfl) (fun _ _ _ h => h) ?h92 (by assumption) ?r92
            case h92 => (intro w hSw; (try dsimp only at hSw); go_simp; try with_reducible rfl)
            try simp only [Act.put, List.setIfInBounds_toArray, List.set_cons_zero, List.set_cons_succ]
            refine wpAnyH_done (by kernel_rfl) ?_ _
            go_wp2
            go_meet
            case rel => exact ⟨by rw [hbx'.out]; unfold isVarB; (simp [hX, hxn]) <;> omega, by rw [hby'.out]; unfold isVarB; (simp [hY, hyn]) <;> omega, rfl, hHeld⟩
          · have h_ : True := trivial
            refine wp_drawn_on (fun W => ∃ j, W = W1.drewN j) (by kernel_rfl) (⟨1, rfl⟩) (fun hHeld => ?_)
            refine wT 0 (v := ?v93) rfl (by kernel_rfl) (fun _ _ _ h => h) ?h93 (by assumption) ?r93
            case h93 => (intro w hSw; (try dsimp only at hSw); go_simp; try with_reducible rfl)
            refine wT 1 (v := ?v94) rfl (by kernel_rfl) (fun _ _ _ h => h) ?h94 (by assumption) ?r94
            case h94 => (intro w hSw; (try dsimp only at hSw); go_simp; try with_reducible rfl)
            refine wT 2 (v := ?v95) rfl (by kernel_rfl) (fun _ _ _ h => h) ?h95 (by assumption) ?r95
            case h95 => (intro w hSw; (try dsimp only at hSw); go_simp; try with_reducible rfl)
            refine wT 3 (v := ?v96) rfl (by kernel_rfl) (fun _ _ _ h => h) ?h96 (by assumption) ?r96
            case h96 => (intro w hSw; (try dsimp only at hSw); go_simp; try with_reducible rfl)
            refine wT 4 (v := ?v97) rfl (by kernel_rfl) (fun _ _ _ h => h) ?h97 (by assumption) ?r97
            case h97 => (intro w hSw; (try dsimp only at hSw); go_simp; try with_reducible rfl)
            refine wT 5 (v := ?v98) rfl (by kernel_rfl) (fun _ _ _ h => h) ?h98 (by assumption) ?r98
            case h98 => (intro w hSw; (try dsimp only at hSw); go_simp; try with_reducible rfl)
            refine wT 6 (v := ?v99) rfl (by kernel_rfl) (fun _ _ _ h => h) ?h99 (by assumption) ?r99
            case h99 => (intro w hSw; (try dsimp only at hSw); go_simp; try with_reducible rfl)
            refine wT 7 (v := ?v100) rfl (by kernel_rfl) (fun _ _ _ h => h) ?h100 (by assumption) ?r100
            case h100 => (intro w hSw; (try dsimp only at hSw); go_simp; try with_reducible rfl)
            refine wT 8 (v := ?v101) rfl (by kernel_rfl) (fun _ _ _ h => h) ?h101 (by assumption) ?r101
            case h101 => (intro w hSw; (try dsimp only at hSw); go_simp; try with_reducible rfl)
            refine wT 9 (v := ?v102) rfl (by kernel_rfl) (fun _ _ _ h => h) ?h102 (by assumption) ?r102
            case h102 => (intro w hSw; (try dsimp only at hSw); go_simp; try with_reducible rfl)
            refine wT 10 (v := ?v103) rfl (by kernel_rfl) (fun _ _ _ h => h) ?h103 (by assumption) ?r103
            case h103 => (intro w hSw; (try dsimp only at hSw); go_simp; try with_reducible rfl)
            refine wT 11 (v := ?v104) rfl (by kernel_rfl) (fun _ _ _ h => h) ?h104 (by assumption) ?r104
            case h104 => (intro w hSw; (try dsimp only at hSw); go_simp; try with_reducible rfl)
            refine wT 12 (v := ?v105) rfl (by kernel_rfl) (fun _ _ _ h => h) ?h105 (by assumption) ?r105
            case h105 => (intro w hSw; (try dsimp only at hSw); go_simp; try with_reducible rfl)
            refine wT 13 (v := ?v106) rfl (by kernel_rfl) (fun _ _ _ h => h) ?h106 (by assumption) ?r106
            case h106 => (intro w hSw; (try dsimp only at hSw); go_simp; try with_reducible rfl)
            refine wT 14 (v := ?v107) rfl (by kernel_rfl) (fun _ _ _ h => h) ?h107 (by assumption) ?r107
            case h107 => (intro w hSw; (try dsimp only at hSw); go_simp; try with_reducible rfl)
            refine wT 15 (v := ?v108) rfl (by kernel_rfl) (fun _ _ _ h => h) ?h108 (by assumption) ?r108
            case h108 => (intro w hSw; (try dsimp only at hSw); go_simp; try with_reducible rfl)
            refine wT 16 (v := ?v109) rfl (by kernel_rfl) (fun _ _ _ h => h) ?h109 (by assumption) ?r109
            case h109 => (intro w hSw; (try dsimp only at hSw); go_simp; try with_reducible rfl)
            refine wT 17 (v := ?v110) rfl (by kernel_rfl) (fun _ _ _ h => h) ?h110 (by assumption) ?r110
            case h110 => (intro w hSw; (try dsimp only at hSw); go_simp; try with_reducible rfl)
            refine wT 18 (v := ?v111) rfl (by kernel_rfl) (fun _ _ _ h => h) ?h111 (by assumption) ?r111
            case h111 => (intro w hSw; (try dsimp only at hSw); go_simp; try with_reducible rfl)
            refine wT 19 (v := ?v112) rfl (by kernel_rfl) (fun _ _ _ h => h) ?h112 (by assumption) ?r112
            case h112 => (intro w hSw; (try dsimp only at hSw); go_simp; try with_reducible rfl)
            try simp only [Act.put, List.setIfInBounds_toArray, List.set_cons_zero, List.set_cons_succ]
            refine wpAnyH_ready (rs := [20]) (by kernel_rfl) (by simp) ?_
            refine AllReadyH.cons (o := ⟨_, _, _, _, _, _⟩) rfl (fun K hK => ?_) AllReadyH.nil
            go_simp
            refine (hq.out _).mono ?_
            rintro e u7 ⟨rfl, rfl⟩
            go_simp
            refine hK.out _ _ (hHeld) (fun hHeld => ?_)
            clear hK K
            refine wT 21 (v := ?v113) rfl (by kernel_rfl) (fun _ _ _ h => h) ?h113 (by assumption) ?r113
            case h113 => (intro w hSw; (try dsimp only at hSw); go_simp; try with_reducible rfl)
            refine wT 22 (v := ?v114) rfl (by kernel_rfl) (fun _ _ _ h => h) ?h114 (by assumption) ?r114
            case h114 => (intro w hSw; (try dsimp only at hSw); go_simp; try with_reducible rfl)
            refine wT 23 (v := ?v115) rfl (by kernel_rfl) (fun _ _ _ h => h) ?h115 (by assumption) ?r115
            case h115 => (intro w hSw; (try dsimp only at hSw); go_simp; try with_reducible rfl)
            try simp only [Act.put, List.setIfInBounds_toArray, List.set_cons_zero, List.set_cons_succ]
            refine wpAnyH_done (by kernel_rfl) ?_ _
            go_wp2
            go_meet
            case rel => exact ⟨by rw [hbx'.out]; unfold isVarB; (simp [hX, hxn]) <;> omega, by rw [hby'.out]; unfold isVarB; (simp [hY, hyn]) <;> omega, rfl, hHeld⟩
        · have hyn : True := trivial
          refine wp_drawn_on (fun W => ∃ j, W = W1.drewN j) (by kernel_rfl) (⟨1, rfl⟩) (fun hHeld => ?_)
          refine wT 0 (v := ?v116) rfl (by kernel_rfl) (fun _ _ _ h => h) ?h116 (by assumption) ?r116
          case h116 => (intro w hSw; (try dsimp only at hSw); go_simp; try with_reducible rfl)
          refine wT 1 (v := ?v117) rfl (by kernel_rfl) (fun _ _ _ h => h) ?h117 (by assumption) ?r117
          case h117 => (intro w hSw; (try dsimp only at hSw); go_simp; try with_reducible rfl)
          refine wT 2 (v := ?v118) rfl (by kernel_rfl) (fun _ _ _ h => h) ?h118 (by assumption) ?r118
          case h118 => (intro w hSw; (try dsimp only at hSw); go_simp; try with_reducible rfl)
          refine wT 3 (v := ?v119) rfl (by kernel_rfl) (fun _ _ _ h => h) ?h119 (by assumption) ?r119
          case h119 => (intro w hSw; (try dsimp only at hSw); go_simp; try with_reducible rfl)
          refine wT 4 (v := ?v120) rfl (by kernel_rfl) (fun _ _ _ h => h) ?h120 (by assumption) ?r120
          case h120 => (intro w hSw; (try dsimp only at hSw); go_simp; try with_reducible rfl)
          refine wT 5 (v := ?v121) rfl (by kernel_rfl) (fun _ _ _ h => h) ?h121 (by assumption) ?r121
          case h121 => (intro w hSw; (try dsimp only at hSw); go_simp; try with_reducible rfl)
          refine wT 6 (v := ?v122) rfl (by kernel_rfl) (fun _ _ _ h => h) ?h122 (by assumption) ?r122
          case h122 => (intro w hSw; (try dsimp only at hSw); go_simp; try with_reducible rfl)
          refine wT 7 (v := ?v123) rfl (by kernel_rfl) (fun _ _ _ h => h) ?h123 (by assumption) ?r123
          case h123 => (intro w hSw; (try dsimp only at hSw); go_simp; try with_reducible rfl)
          refine wT 8 (v := ?v124) rfl (by kernel_rfl) (fun _ _ _ h => h) ?h124 (by assumption) ?r124
          case h124 => (intro w hSw; (try dsimp only at hSw); go_simp; try with_reducible rfl)
          refine wT 9 (v := ?v125) rfl (by kernel_rfl) (fun _ _ _ h => h) ?h125 (by assumption) ?r125
          case h125 => (intro w hSw; (try dsimp only at hSw); go_simp; try with_reducible rfl)
          refine wT 10 (v := ?v126) rfl (by kernel_rfl) (fun _ _ _ h => h) ?h126 (by assumption) ?r126
          case h126 => (intro w hSw; (try dsimp only at hSw); go_simp; try with_reducible rfl)
          refine wT 11 (v := ?v127) rfl (by kernel_rfl) (fun _ _ _ h => h) ?h127 (by assumption) ?r127
          case h127 => (intro w hSw; (try dsimp only at hSw); go_simp; try with_reducible rfl)
          refine wT 12 (v := ?v128) rfl (by kernel_rfl) (fun _ _ _ h => h) ?h128 (by assumption) ?r128
          case h128 => (intro w hSw; (try dsimp only at hSw); go_simp; try with_reducible rfl)
          refine wS 13 rfl (by kernel_rfl) (fun _ _ _ h => h) (by assumption) ?_
          refine wS 14 rfl (by kernel_rfl) (fun _ _ _ h => h) (by assumption) ?_
          refine wS 15 rfl (by kernel_rfl) (fun _ _ _ h => h) (by assumption) ?_
          refine wS 16 rfl (by kernel_rfl) (fun _ _ _ h => h) (by assumption) ?_
          refine wT 17 (v := ?v133) rfl (by kernel_rfl) (fun _ _ _ h => h) ?h133 (by assumption) ?r133
          case h133 => (intro w hSw; (try dsimp only at hSw); go_simp; try with_reducible rfl)
          refine wT 18 (v := ?v134) rfl (by kernel_rfl) (fun _ _ _ h => h) ?h134 (by assumption) ?r134
          case h134 => (intro w hSw; (try dsimp only at hSw); go_simp; try with_reducible rfl)
          refine wT 19 (v := ?v135) rfl (by kernel_rfl) (fun _ _ _ h => h) ?h135 (by assumption) ?r135
          case h135 => (intro w hSw; (try dsimp only at hSw); go_simp; try with_reducible rfl)
          try simp only [Act.put, List.setIfInBounds_toArray, List.set_cons_zero, List.set_cons_succ]
          refine wpAnyH_ready (rs := [20]) (by kernel_rfl) (by simp) ?_
          refine AllReadyH.cons (o := ⟨_, _, _, _, _, _⟩) rfl (fun K hK => ?_) AllReadyH.nil
          go_simp
          refine (hq.out _).mono ?_
          rintro e u7 ⟨rfl, rfl⟩
          go_simp
          refine hK.out _ _ (hHeld) (fun hHeld => ?_)
          clear hK K
          refine wT 21 (v := ?v136) rfl (by kernel_rfl) (fun _ _ _ h => h) ?h136 (by assumption) ?r136
          case h136 => (intro w hSw; (try dsimp only at hSw); go_simp; try with_reducible rfl)
          refine wT 22 (v := ?v137) rfl (by kernel_rfl) (fun _ _ _ h => h) ?h137 (by assumption) ?r137
          case h137 => (intro w hSw; (try dsimp only at hSw); go_simp; try with_reducible rfl)
          refine wT 23 (v := ?v138) rfl (by kernel_rfl) (fun _ _ _ h => h) ?h138 (by assumption) ?r138
          case h138 => (intro w hSw; (try dsimp only at hSw); go_simp; try with_reducible rfl)
          try simp only [Act.put, List.setIfInBounds_toArray, List.set_cons_zero, List.set_cons_succ]
          refine wpAnyH_done (by kernel_rfl) ?_ _
          go_wp2
          go_meet
          case rel => exact ⟨by rw [hbx'.out]; unfold isVarB; (simp [hX, hxn]) <;> omega, by rw [hby'.out]; unfold isVarB; (simp [hY, hyn]) <;> omega, rfl, hHeld⟩
    · have hxn : True := trivial
      by_cases hY : 1 ≤ y
      · by_cases hyn : y ≤ n
        · have h_ : True := trivial
          refine wp_drawn_on (fun W => ∃ j, W = W1.drewN j) (by kernel_rfl) (⟨1, rfl⟩) (fun hHeld => ?_)
          refine wT 0 (v := ?v139) rfl (by kernel_rfl) (fun _ _ _ h => h) ?h139 (by assumption) ?r139
          case h139 => (intro w hSw; (try dsimp only at hSw); go_simp; try with_reducible rfl)
          refine wT 1 (v := ?v140) rfl (by kernel_rfl) (fun _ _ _ h => h) ?h140 (by assumption) ?r140
          case h140 => (intro w hSw; (try dsimp only at hSw); go_simp; try with_reducible rfl)
          refine wT 2 (v := ?v141) rfl (by kernel_rfl) (fun _ _ _ h => h) ?h141 (by assumption) ?r141
          case h141 => (intro w hSw; (try dsimp only at hSw); go_simp; try with_reducible rfl)
          refine wT 3 (v := ?v142) rfl (by kernel_rfl) (fun _ _ _ h => h) ?h142 (by assumption) ?r142
          case h142 => (intro w hSw; (try dsimp only at hSw); go_simp; try with_reducible rfl)
          refine wS 4 rfl (by kernel_rfl) (fun _ _ _ h => h) (by assumption) ?_
          refine wS 5 rfl (by kernel_rfl) (fun _ _ _ h => h) (by assumption) ?_
          refine wS 6 rfl (by kernel_rfl) (fun _ _ _ h => h) (by assumption) ?_
          refine wS 7 rfl (by kernel_rfl) (fun _ _ _ h => h) (by assumption) ?_
          refine wT 8 (v := ?v147) rfl (by kernel_rfl) (fun _ _ _ h => h) ?h147 (by assumption) ?r147
          case h147 => (intro w hSw; (try dsimp only at hSw); go_simp; try with_reducible rfl)
          refine wT 9 (v := ?v148) rfl (by kernel_rfl) (fun _ _ _ h => h) ?h148 (by assumption) ?r148
          case h148 => (intro w hSw; (try dsimp only at hSw); go_simp; try with_reducible rfl)
          refine wT 10 (v := ?v149) rfl (by kernel_rfl) (fun _ _ _ h => h) ?h149 (by assumption) ?r149
          case h149 => (intro w hSw; (try dsimp only at hSw); go_simp; try with_reducible rfl)
          refine wT 11 (v := ?v150) rfl (by kernel_rfl) (fun _ _ _ h => h) ?h150 (by assumption) ?r150
          case h150 => (intro w hSw; (try dsimp only at hSw); go_simp; try with_reducible rfl)
          refine wT 12 (v := ?v151) rfl (by kernel_rfl) (fun _ _ _ h => h) ?h151 (by assumption) ?r151
          case h151 => (intro w hSw; (try dsimp only at hSw); go_simp; try with_reducible rfl)
          refine wT 13 (v := ?v152) rfl (by kernel_rfl) (fun _ _ _ h => h) ?h152 (by assumption) ?r152
          case h152 => (intro w hSw; (try dsimp only at hSw); go_simp; try with_reducible rfl)
          refine wT 14 (v := ?v153) rfl (by kernel_rfl) (fun _ _ _ h => h) ?h153 (by assumption) ?r153
          case h153 => (intro w hSw; (try dsimp only at hSw); go_simp; try with_reducible rfl)
          refine wT 15 (v := ?v154) rfl (by kernel_rfl) (fun _ _ _ h => h) ?h154 (by assumption) ?r154
          case h154 => (intro w hSw; (try dsimp only at hSw); go_simp; try with_reducible rfl)
          refine wT 16 (v := ?v155) rfl (by kernel_rfl) (fun _ _ _ h => h) ?h155 (by assumption) ?r155
          case h155 => (intro w hSw; (try dsimp only at hSw); go_simp; try with_reducible rfl)
          refine wT 17 (v := ?v156) rfl (by kernel_rfl) (fun _ _ _ h => h) ?h156 (by assumption) ?r156
          case h156 => (intro w hSw; (try dsimp only at hSw); go_simp; try with_reducible rfl)
          refine wT 18 (v := ?v157) rfl (by kernel_rfl) (fun _ _ _ h => h) ?h157 (by assumption) ?r157
          case h157 => (intro w hSw; (try dsimp only at hSw); go_simp; try with_reducible rfl)
          refine wT 19 (v := ?v158) rfl (by kernel_rfl) (fun _ _ _ h => h) ?h158 (by assumption) ?r158
          case h158 => (intro w hSw; (try dsimp only at hSw); go_simp; try with_reducible rfl)
          try simp only [Act.put, List.setIfInBounds_toArray, List.set_cons_zero, List.set_cons_succ]
          refine wpAnyH_ready (rs := [20]) (by kernel_rfl) (by simp) ?_
          refine AllReadyH.cons (o := ⟨_, _, _, _, _, _⟩) rfl (fun K hK => ?_) AllReadyH.nil
          go_simp
          refine (hq.out _).mono ?_
          rintro e u7 ⟨rfl, rfl⟩
          go_simp
          refine hK.out _ _ (hHeld) (fun hHeld => ?_)
          clear hK K
          refine wT 21 (v := ?v159) rfl (by kernel_rfl) (fun _ _ _ h => h) ?h159 (by assumption) ?r159
          case h159 => (intro w hSw; (try dsimp only at hSw); go_simp; try with_reducible rfl)
          refine wT 22 (v := ?v160) rfl (by kernel_rfl) (fun _ _ _ h => h) ?h160 (by assumption) ?r160
          case h160 => (intro w hSw; (try dsimp only at hSw); go_simp; try with_reducible rfl)
          refine wT 23 (v := ?v161) rfl (by kernel_rfl) (fun _ _ _ h => h) ?h161 (by assumption) ?r161
          case h161 => (intro w hSw; (try dsimp only at hSw); go_simp; try with_reducible rfl)
          try simp only [Act.put, List.setIfInBounds_toArray, List.set_cons_zero, List.set_cons_succ]
          refine wpAnyH_done (by kernel_rfl) ?_ _
          go_wp2
          go_meet
          case rel => exact ⟨by rw [hbx'.out]; unfold isVarB; (simp [hX, hxn]) <;> omega, by rw [hby'.out]; unfold isVarB; (simp [hY, hyn]) <;> omega, rfl, hHeld⟩
        · have h_ : True := trivial
          refine wp_drawn_on (fun W => ∃ j, W = W1.drewN j) (by kernel_rfl) (⟨1, rfl⟩) (fun hHeld => ?_)
          refine wT 0 (v := ?v162) rfl (by kernel_rfl) (fun _ _ _ h => h) ?h162 (by assumption) ?r162
          case h162 => (intro w hSw; (try dsimp only at hSw); go_simp; try with_reducible rfl)
          refine wT 1 (v := ?v163) rfl (by kernel_rfl) (fun _ _ _ h => h) ?h163 (by assumption) ?r163
          case h163 => (intro w hSw; (try dsimp only at hSw); go_simp; try with_reducible rfl)
          refine wT 2 (v := ?v164) rfl (by kernel_rfl) (fun _ _ _ h => h) ?h164 (by assumption) ?r164
          case h164 => (intro w hSw; (try dsimp only at hSw); go_simp; try with_reducible rfl)
          refine wT 3 (v := ?v165) rfl (by kernel_rfl) (fun _ _ _ h => h) ?h165 (by assumption) ?r165
          case h165 => (intro w hSw; (try dsimp only at hSw); go_simp; try with_reducible rfl)
          refine wS 4 rfl (by kernel_rfl) (fun _ _ _ h => h) (by assumption) ?_
          refine wS 5 rfl (by kernel_rfl) (fun _ _ _ h => h) (by assumption) ?_
          refine wS 6 rfl (by kernel_rfl) (fun _ _ _ h => h) (by assumption) ?_
          refine wS 7 rfl (by kernel_rfl) (fun _ _ _ h => h) (by assumption) ?_
          refine wT 8 (v := ?v170) rfl (by kernel_rfl) (fun _ _ _ h => h) ?h170 (by assumption) ?r170
          case h170 => (intro w hSw; (try dsimp only at hSw); go_simp; try with_reducible rfl)
          refine wT 9 (v := ?v171) rfl (by kernel_rfl) (fun _ _ _ h => h) ?h171 (by assumption) ?r171
          case h171 => (intro w hSw; (try dsimp only at hSw); go_simp; try with_reducible rfl)
          refine wT 10 (v := ?v172) rfl (by kernel_rfl) (fun _ _ _ h => h) ?h172 (by assumption) ?r172
          case h172 => (intro w hSw; (try dsimp only at hSw); go_simp; try with_reducible rfl)
          refine wT 11 (v := ?v173) rfl (by kernel_rfl) (fun _ _ _ h => h) ?h173 (by assumption) ?r173
          case h173 => (intro w hSw; (try dsimp only at hSw); go_simp; try with_reducible rfl)
          refine wT 12 (v := ?v174) rfl (by kernel_rfl) (fun _ _ _ h => h) ?h174 (by assumption) ?r174
          case h174 => (intro w hSw; (try dsimp only at hSw); go_simp; try with_reducible rfl)
          refine wT 13 (v := ?v175) rfl (by kernel_rfl) (fun _ _ _ h => h) ?h175 (by assumption) ?r175
          case h175 => (intro w hSw; (try dsimp only at hSw); go_simp; try with_reducible rfl)
          refine wT 14 (v := ?v176) rfl (by kernel_rfl) (fun _ _ _ h => h) ?h176 (by assumption) ?r176
          case h176 => (intro w hSw; (try dsimp only at hSw); go_simp; try with_reducible rfl)
          refine wT 15 (v := ?v177) rfl (by kernel_rfl) (fun _ _ _ h => h) ?h177 (by assumption) ?r177
          case h177 => (intro w hSw; (try dsimp only at hSw); go_simp; try with_reducible rfl)
          refine wT 16 (v := ?v178) rfl (by kernel_rfl) (fun _ _ _ h => h) ?h178 (by assumption) ?r178
          case h178 => (intro w hSw; (try dsimp only at hSw); go_simp; try with_reducible rfl)
          refine wT 17 (v := ?v179) rfl (by kernel_rfl) (fun _ _ _ h => h) ?h179 (by assumption) ?r179
          case h179 => (intro w hSw; (try dsimp only at hSw); go_simp; try with_reducible rfl)
          refine wT 18 (v := ?v180) rfl (by kernel_rfl) (fun _ _ _ h => h) ?h180 (by assumption) ?r180
          case h180 => (intro w hSw; (try dsimp only at hSw); go_simp; try with_reducible rfl)
          refine wT 19 (v := ?v181) rfl (by kernel_rfl) (fun _ _ _ h => h) ?h181 (by assumption) ?r181
          case h181 => (intro w hSw; (try dsimp only at hSw); go_simp; try with_reducible rfl)
          try simp only [Act.put, List.setIfInBounds_toArray, List.set_cons_zero, List.set_cons_succ]
          refine wpAnyH_ready (rs := [20]) (by kernel_rfl) (by simp) ?_
          refine AllReadyH.cons (o := ⟨_, _, _, _, _, _⟩) rfl (fun K hK => ?_) AllReadyH.nil
          go_simp
          refine (hq.out _).mono ?_
          rintro e u7 ⟨rfl, rfl⟩
          go_simp
          refine hK.out _ _ (hHeld) (fun hHeld => ?_)
          clear hK K
          refine wT 21 (v := ?v182) rfl (by kernel_rfl) (fun _ _ _ h => h) ?h182 (by assumption) ?r182
          case h182 => (intro w hSw; (try dsimp only at hSw); go_simp; try with_reducible rfl)
          refine wT 22 (v := ?v183) rfl (by kernel_rfl) (fun _ _ _ h => h) ?h183 (by assumption) ?r183
          case h183 => (intro w hSw; (try dsimp only at hSw); go_simp; try with_reducible rfl)
          refine wT 23 (v := ?v184) rfl (by kernel_rfl) (fun _ _ _ h => h) ?h184 (by assumption) ?r184
          case h184 => (intro w hSw; (try dsimp only at hSw); go_simp; try with_reducible rfl)
          try simp only [Act.put, List.setIfInBounds_toArray, List.set_cons_zero, List.set_cons_succ]
          refine wpAnyH_done (by kernel_rfl) ?_ _
          go_wp2
          go_meet
          case rel => exact ⟨by rw [hbx'.out]; unfold isVarB; (simp [hX, hxn]) <;> omega, by rw [hby'.out]; unfold isVarB; (simp [hY, hyn]) <;> omega, rfl, hHeld⟩
      · have hyn : True := trivial
        refine wp_drawn_on (fun W => ∃ j, W = W1.drewN j) (by kernel_rfl) (⟨1, rfl⟩) (fun hHeld => ?_)
        refine wT 0 (v := ?v185) rfl (by kernel_rfl) (fun _ _ _ h => h) ?h185 (by assumption) ?r185
        case h185 => (intro w hSw; (try dsimp only at hSw); go_simp; try with_reducible rfl)
        refine wT 1 (v := ?v186) rfl (by kernel_rfl) (fun _ _ _ h => h) ?h186 (by assumption) ?r186
        case h186 => (intro w hSw; (try dsimp only at hSw); go_simp; try with_reducible rfl)
        refine wT 2 (v := ?v187) rfl (by kernel_rfl) (fun _ _ _ h => h) ?h187 (by assumption) ?r187
        case h187 => (intro w hSw; (try dsimp only at hSw); go_simp; try with_reducible rfl)
        refine wT 3 (v := ?v188) rfl (by kernel_rfl) (fun _ _ _ h => h) ?h188 (by assumption) ?r188
        case h188 => (intro w hSw; (try dsimp only at hSw); go_simp; try with_reducible rfl)
        refine wS 4 rfl (by kernel_rfl) (fun _ _ _ h => h) (by assumption) ?_
        refine wS 5 rfl (by kernel_rfl) (fun _ _ _ h => h) (by assumption) ?_
        refine wS 6 rfl (by kernel_rfl) (fun _ _ _ h => h) (by assumption) ?_
        refine wS 7 rfl (by kernel_rfl) (fun _ _ _ h => h) (by assumption) ?_
        refine wT 8 (v := ?v193) rfl (by kernel_rfl) (fun _ _ _ h => h) ?h193 (by assumption) ?r193
        case h193 => (intro w hSw; (try dsimp only at hSw); go_simp; try with_reducible rfl)
        refine wT 9 (v := ?v194) rfl (by kernel_rfl) (fun _ _ _ h => h) ?h194 (by assumption) ?r194
        case h194 => (intro w hSw; (try dsimp only at hSw); go_simp; try with_reducible rfl)
        refine wT 10 (v := ?v195) rfl (by kernel_rfl) (fun _ _ _ h => h) ?h195 (by assumption) ?r195
        case h195 => (intro w hSw; (try dsimp only at hSw); go_simp; try with_reducible rfl)
        refine wT 11 (v := ?v196) rfl (by kernel_rfl) (fun _ _ _ h => h) ?h196 (by assumption) ?r196
        case h196 => (intro w hSw; (try dsimp only at hSw); go_simp; try with_reducible rfl)
        refine wT 12 (v := ?v197) rfl (by kernel_rfl) (fun _ _ _ h => h) ?h197 (by assumption) ?r197
        case h197 => (intro w hSw; (try dsimp only at hSw); go_simp; try with_reducible rfl)
        refine wS 13 rfl (by kernel_rfl) (fun _ _ _ h => h) (by assumption) ?_
        refine wS 14 rfl (by kernel_rfl) (fun _ _ _ h => h) (by assumption) ?_
        refine wS 15 rfl (by kernel_rfl) (fun _ _ _ h => h) (by assumption) ?_
        refine wS 16 rfl (by kernel_rfl) (fun _ _ _ h => h) (by assumption) ?_
        refine wT 17 (v := ?v202) rfl (by kernel_rfl) (fun _ _ _ h => h) ?h202 (by assumption) ?r202
        case h202 => (intro w hSw; (try dsimp only at hSw); go_simp; try with_reducible rfl)
        refine wT 18 (v := ?v203) rfl (by kernel_rfl) (fun _ _ _ h => h) ?h203 (by assumption) ?r203
        case h203 => (intro w hSw; (try dsimp only at hSw); go_simp; try with_reducible rfl)
        refine wT 19 (v := ?v204) rfl (by kernel_rfl) (fun _ _ _ h => h) ?h204 (by assumption) ?r204
        case h204 => (intro w hSw; (try dsimp only at hSw); go_simp; try with_reducible rfl)
        try simp only [Act.put, List.setIfInBounds_toArray, List.set_cons_zero, List.set_cons_succ]
        refine wpAnyH_ready (rs := [20]) (by kernel_rfl) (by simp) ?_
        refine AllReadyH.cons (o := ⟨_, _, _, _, _, _⟩) rfl (fun K hK => ?_) AllReadyH.nil
        go_simp
        refine (hq.out _).mono ?_
        rintro e u7 ⟨rfl, rfl⟩
        go_simp
        refine hK.out _ _ (hHeld) (fun hHeld => ?_)
        clear hK K
        refine wT 21 (v := ?v205) rfl (by kernel_rfl) (fun _ _ _ h => h) ?h205 (by assumption) ?r205
        case h205 => (intro w hSw; (try dsimp only at hSw); go_simp; try with_reducible rfl)
        refine wT 22 (v := ?v206) rfl (by kernel_rfl) (fun _ _ _ h => h) ?h206 (by assumption) ?r206
        case h206 => (intro w hSw; (try dsimp only at hSw); go_simp; try with_reducible rfl)
        refine wT 23 (v := ?v207) rfl (by kernel_rfl) (fun _ _ _ h => h) ?h207 (by assumption) ?r207
        case h207 => (intro w hSw; (try dsimp only at hSw); go_simp; try with_reducible rfl)
        try simp only [Act.put, List.setIfInBounds_toArray, List.set_cons_zero, List.set_cons_succ]
        refine wpAnyH_done (by kernel_rfl) ?_ _
        go_wp2
        go_meet
        case rel => exact ⟨by rw [hbx'.out]; unfold isVarB; (simp [hX, hxn]) <;> omega, by rw [hby'.out]; unfold isVarB; (simp [hY, hyn]) <;> omega, rfl, hHeld⟩
  case rest =>
    obtain ⟨rfl, rfl, rfl, j, rfl⟩ := hcut
    have hBw : Hid (Below w.heap.size w (W1.drewN j)) := Lib.hid (Go.Proofs.YtimgocfkogebmaaGreatDoor.Below.drewN hB'.out j)
    have hH2 := hH'.out.drewN j
    have g0 := hH2.cell 0
    have g1 := hH2.cell 1
    have g2 := hH2.cell 2
    have g3 := hH2.cell 3
    have g4 := hH2.cell 4
    have hHd := Lib.hid hH2
    clear hH2 k1 k2 k3
    obtain ⟨x0, hx0⟩ : ∃ x0, (x == 0) = x0 := ⟨_, rfl⟩
    obtain ⟨y0, hy0⟩ : ∃ y0, (y == 0) = y0 := ⟨_, rfl⟩
    obtain ⟨c0, hc0⟩ : ∃ c0, (c == 0) = c0 := ⟨_, rfl⟩
    obtain ⟨d0, hd0⟩ : ∃ d0, (d == 0) = d0 := ⟨_, rfl⟩
    obtain ⟨xy, hxy⟩ : ∃ xy, (x != y) = xy := ⟨_, rfl⟩
    obtain ⟨cd, hcd⟩ : ∃ cd, decide (c ≤ d) = cd := ⟨_, rfl⟩
    have E1 : Hid (skipB x y c d = (x0 && (y0 && (c0 && d0)))) := Lib.hid (by unfold skipB; rw [hx0, hy0, hc0, hd0])
    have E2 : Hid (letB x y c d n = (bx && ((vy || y0) && (cv && d0)))) := Lib.hid (by unfold letB; rw [isTerm_or hh1.out, ← hbx'.out, ← hby'.out, ← hcv'.out, hy0, hd0])
    have E3 : Hid (anyB x y c d n = (bx && (y0 && (cv && (dv && cd))))) := Lib.hid (by unfold anyB; rw [← hbx'.out, ← hcv'.out, ← hdv'.out, hy0, hcd])
    have E4 : Hid (diffB x y c d n = ((bx || x0) && ((vy || y0) && (xy && (cv && d0))))) := Lib.hid (by unfold diffB; rw [isTerm_or hh1.out, isTerm_or hh1.out, ← hbx'.out, ← hby'.out, ← hcv'.out, hx0, hy0, hd0, hxy])
    clear hbx' hby' hcv' hdv' hh1 hh2
    by_cases hk1 : k = 1
    · subst hk1
      have E : Hid ((if (1 : Int) < 1 ∨ (5 : Int) < 1 then false else stmtB 1 x y c d n) = (x0 && (y0 && (c0 && d0)))) := Lib.hid (by
        rw [if_neg (by omega), show stmtB 1 x y c d n = skipB x y c d from by unfold stmtB; simp]; exact E1.out)
      clear E1 E2 E3 E4
      cases x0
      · have hR' := E.out
        simp only [Bool.true_and, Bool.false_and, Bool.and_true, Bool.and_false, Bool.true_or, Bool.false_or, Bool.or_true, Bool.or_false, Bool.or_self, Bool.and_self] at hR'
        have hR := Lib.hid hR'
        clear E hR'
        go_wp2
        go_ret
        exact ⟨ret_bool hR.out.symm, hBw.out⟩
      cases y0
      · have hR' := E.out
        simp only [Bool.true_and, Bool.false_and, Bool.and_true, Bool.and_false, Bool.true_or, Bool.false_or, Bool.or_true, Bool.or_false, Bool.or_self, Bool.and_self] at hR'
        have hR := Lib.hid hR'
        clear E hR'
        go_wp2
        go_ret
        exact ⟨ret_bool hR.out.symm, hBw.out⟩
      cases c0
      · have hR' := E.out
        simp only [Bool.true_and, Bool.false_and, Bool.and_true, Bool.and_false, Bool.true_or, Bool.false_or, Bool.or_true, Bool.or_false, Bool.or_self, Bool.and_self] at hR'
        have hR := Lib.hid hR'
        clear E hR'
        go_wp2
        go_ret
        exact ⟨ret_bool hR.out.symm, hBw.out⟩
      cases d0
      · have hR' := E.out
        simp only [Bool.true_and, Bool.false_and, Bool.and_true, Bool.and_false, Bool.true_or, Bool.false_or, Bool.or_true, Bool.or_false, Bool.or_self, Bool.and_self] at hR'
        have hR := Lib.hid hR'
        clear E hR'
        go_wp2
        go_ret
        exact ⟨ret_bool hR.out.symm, hBw.out⟩
      have hR' := E.out
      simp only [Bool.true_and, Bool.false_and, Bool.and_true, Bool.and_false, Bool.true_or, Bool.false_or, Bool.or_true, Bool.or_false, Bool.or_self, Bool.and_self] at hR'
      have hR := Lib.hid hR'
      clear E hR'
      go_wp2
      go_ret
      exact ⟨ret_bool hR.out.symm, hBw.out⟩
    by_cases hk2 : k = 2
    · subst hk2
      have E : Hid ((if (2 : Int) < 1 ∨ (5 : Int) < 2 then false else stmtB 2 x y c d n) = (bx && ((vy || y0) && (cv && d0)))) := Lib.hid (by
        rw [if_neg (by omega), show stmtB 2 x y c d n = letB x y c d n from by unfold stmtB; simp]; exact E2.out)
      clear E1 E2 E3 E4
      cases bx
      · have hR' := E.out
        simp only [Bool.true_and, Bool.false_and, Bool.and_true, Bool.and_false, Bool.true_or, Bool.false_or, Bool.or_true, Bool.or_false, Bool.or_self, Bool.and_self] at hR'
        have hR := Lib.hid hR'
        clear E hR'
        go_wp2
        go_ret
        exact ⟨ret_bool hR.out.symm, hBw.out⟩
      cases vy
      · cases y0
        · have hR' := E.out
          simp only [Bool.true_and, Bool.false_and, Bool.and_true, Bool.and_false, Bool.true_or, Bool.false_or, Bool.or_true, Bool.or_false, Bool.or_self, Bool.and_self] at hR'
          have hR := Lib.hid hR'
          clear E hR'
          go_wp2
          go_ret
          exact ⟨ret_bool hR.out.symm, hBw.out⟩
        cases cv
        · have hR' := E.out
          simp only [Bool.true_and, Bool.false_and, Bool.and_true, Bool.and_false, Bool.true_or, Bool.false_or, Bool.or_true, Bool.or_false, Bool.or_self, Bool.and_self] at hR'
          have hR := Lib.hid hR'
          clear E hR'
          go_wp2
          go_ret
          exact ⟨ret_bool hR.out.symm, hBw.out⟩
        cases d0
        · have hR' := E.out
          simp only [Bool.true_and, Bool.false_and, Bool.and_true, Bool.and_false, Bool.true_or, Bool.false_or, Bool.or_true, Bool.or_false, Bool.or_self, Bool.and_self] at hR'
          have hR := Lib.hid hR'
          clear E hR'
          go_wp2
          go_ret
          exact ⟨ret_bool hR.out.symm, hBw.out⟩
        have hR' := E.out
        simp only [Bool.true_and, Bool.false_and, Bool.and_true, Bool.and_false, Bool.true_or, Bool.false_or, Bool.or_true, Bool.or_false, Bool.or_self, Bool.and_self] at hR'
        have hR := Lib.hid hR'
        clear E hR'
        go_wp2
        go_ret
        exact ⟨ret_bool hR.out.symm, hBw.out⟩
      cases cv
      · have hR' := E.out
        simp only [Bool.true_and, Bool.false_and, Bool.and_true, Bool.and_false, Bool.true_or, Bool.false_or, Bool.or_true, Bool.or_false, Bool.or_self, Bool.and_self] at hR'
        have hR := Lib.hid hR'
        clear E hR'
        go_wp2
        go_ret
        exact ⟨ret_bool hR.out.symm, hBw.out⟩
      cases d0
      · have hR' := E.out
        simp only [Bool.true_and, Bool.false_and, Bool.and_true, Bool.and_false, Bool.true_or, Bool.false_or, Bool.or_true, Bool.or_false, Bool.or_self, Bool.and_self] at hR'
        have hR := Lib.hid hR'
        clear E hR'
        go_wp2
        go_ret
        exact ⟨ret_bool hR.out.symm, hBw.out⟩
      have hR' := E.out
      simp only [Bool.true_and, Bool.false_and, Bool.and_true, Bool.and_false, Bool.true_or, Bool.false_or, Bool.or_true, Bool.or_false, Bool.or_self, Bool.and_self] at hR'
      have hR := Lib.hid hR'
      clear E hR'
      go_wp2
      go_ret
      exact ⟨ret_bool hR.out.symm, hBw.out⟩
    by_cases hk3 : k = 3
    · subst hk3
      have E : Hid ((if (3 : Int) < 1 ∨ (5 : Int) < 3 then false else stmtB 3 x y c d n) = (bx && (y0 && (cv && (dv && cd))))) := Lib.hid (by
        rw [if_neg (by omega), show stmtB 3 x y c d n = anyB x y c d n from by unfold stmtB; simp]; exact E3.out)
      clear E1 E2 E3 E4
      cases bx
      · have hR' := E.out
        simp only [Bool.true_and, Bool.false_and, Bool.and_true, Bool.and_false, Bool.true_or, Bool.false_or, Bool.or_true, Bool.or_false, Bool.or_self, Bool.and_self] at hR'
        have hR := Lib.hid hR'
        clear E hR'
        go_wp2
        go_ret
        exact ⟨ret_bool hR.out.symm, hBw.out⟩
      cases y0
      · have hR' := E.out
        simp only [Bool.true_and, Bool.false_and, Bool.and_true, Bool.and_false, Bool.true_or, Bool.false_or, Bool.or_true, Bool.or_false, Bool.or_self, Bool.and_self] at hR'
        have hR := Lib.hid hR'
        clear E hR'
        go_wp2
        go_ret
        exact ⟨ret_bool hR.out.symm, hBw.out⟩
      cases cv
      · have hR' := E.out
        simp only [Bool.true_and, Bool.false_and, Bool.and_true, Bool.and_false, Bool.true_or, Bool.false_or, Bool.or_true, Bool.or_false, Bool.or_self, Bool.and_self] at hR'
        have hR := Lib.hid hR'
        clear E hR'
        go_wp2
        go_ret
        exact ⟨ret_bool hR.out.symm, hBw.out⟩
      cases dv
      · have hR' := E.out
        simp only [Bool.true_and, Bool.false_and, Bool.and_true, Bool.and_false, Bool.true_or, Bool.false_or, Bool.or_true, Bool.or_false, Bool.or_self, Bool.and_self] at hR'
        have hR := Lib.hid hR'
        clear E hR'
        go_wp2_with fail
        refine (hqd.out _).mono ?_
        rintro e u8 ⟨rfl, rfl⟩
        go_wp2
        go_ret
        exact ⟨ret_bool hR.out.symm, hBw.out⟩
      cases cd
      · have hR' := E.out
        simp only [Bool.true_and, Bool.false_and, Bool.and_true, Bool.and_false, Bool.true_or, Bool.false_or, Bool.or_true, Bool.or_false, Bool.or_self, Bool.and_self] at hR'
        have hR := Lib.hid hR'
        clear E hR'
        go_wp2_with fail
        refine (hqd.out _).mono ?_
        rintro e u8 ⟨rfl, rfl⟩
        go_wp2
        go_ret
        exact ⟨ret_bool hR.out.symm, hBw.out⟩
      have hR' := E.out
      simp only [Bool.true_and, Bool.false_and, Bool.and_true, Bool.and_false, Bool.true_or, Bool.false_or, Bool.or_true, Bool.or_false, Bool.or_self, Bool.and_self] at hR'
      have hR := Lib.hid hR'
      clear E hR'
      go_wp2_with fail
      refine (hqd.out _).mono ?_
      rintro e u8 ⟨rfl, rfl⟩
      go_wp2
      go_ret
      exact ⟨ret_bool hR.out.symm, hBw.out⟩
    by_cases hk4 : k = 4
    · subst hk4
      have E : Hid ((if (4 : Int) < 1 ∨ (5 : Int) < 4 then false else stmtB 4 x y c d n) = ((bx || x0) && ((vy || y0) && (xy && (cv && d0))))) := Lib.hid (by
        rw [if_neg (by omega), show stmtB 4 x y c d n = diffB x y c d n from by unfold stmtB; simp]; exact E4.out)
      clear E1 E2 E3 E4
      cases bx
      · cases x0
        · have hR' := E.out
          simp only [Bool.true_and, Bool.false_and, Bool.and_true, Bool.and_false, Bool.true_or, Bool.false_or, Bool.or_true, Bool.or_false, Bool.or_self, Bool.and_self] at hR'
          have hR := Lib.hid hR'
          clear E hR'
          go_wp2
          go_ret
          exact ⟨ret_bool hR.out.symm, hBw.out⟩
        cases vy
        · cases y0
          · have hR' := E.out
            simp only [Bool.true_and, Bool.false_and, Bool.and_true, Bool.and_false, Bool.true_or, Bool.false_or, Bool.or_true, Bool.or_false, Bool.or_self, Bool.and_self] at hR'
            have hR := Lib.hid hR'
            clear E hR'
            go_wp2
            go_ret
            exact ⟨ret_bool hR.out.symm, hBw.out⟩
          cases xy
          · have hR' := E.out
            simp only [Bool.true_and, Bool.false_and, Bool.and_true, Bool.and_false, Bool.true_or, Bool.false_or, Bool.or_true, Bool.or_false, Bool.or_self, Bool.and_self] at hR'
            have hR := Lib.hid hR'
            clear E hR'
            go_wp2
            go_ret
            exact ⟨ret_bool hR.out.symm, hBw.out⟩
          cases cv
          · have hR' := E.out
            simp only [Bool.true_and, Bool.false_and, Bool.and_true, Bool.and_false, Bool.true_or, Bool.false_or, Bool.or_true, Bool.or_false, Bool.or_self, Bool.and_self] at hR'
            have hR := Lib.hid hR'
            clear E hR'
            go_wp2
            go_ret
            exact ⟨ret_bool hR.out.symm, hBw.out⟩
          cases d0
          · have hR' := E.out
            simp only [Bool.true_and, Bool.false_and, Bool.and_true, Bool.and_false, Bool.true_or, Bool.false_or, Bool.or_true, Bool.or_false, Bool.or_self, Bool.and_self] at hR'
            have hR := Lib.hid hR'
            clear E hR'
            go_wp2
            go_ret
            exact ⟨ret_bool hR.out.symm, hBw.out⟩
          have hR' := E.out
          simp only [Bool.true_and, Bool.false_and, Bool.and_true, Bool.and_false, Bool.true_or, Bool.false_or, Bool.or_true, Bool.or_false, Bool.or_self, Bool.and_self] at hR'
          have hR := Lib.hid hR'
          clear E hR'
          go_wp2
          go_ret
          exact ⟨ret_bool hR.out.symm, hBw.out⟩
        cases xy
        · have hR' := E.out
          simp only [Bool.true_and, Bool.false_and, Bool.and_true, Bool.and_false, Bool.true_or, Bool.false_or, Bool.or_true, Bool.or_false, Bool.or_self, Bool.and_self] at hR'
          have hR := Lib.hid hR'
          clear E hR'
          go_wp2
          go_ret
          exact ⟨ret_bool hR.out.symm, hBw.out⟩
        cases cv
        · have hR' := E.out
          simp only [Bool.true_and, Bool.false_and, Bool.and_true, Bool.and_false, Bool.true_or, Bool.false_or, Bool.or_true, Bool.or_false, Bool.or_self, Bool.and_self] at hR'
          have hR := Lib.hid hR'
          clear E hR'
          go_wp2
          go_ret
          exact ⟨ret_bool hR.out.symm, hBw.out⟩
        cases d0
        · have hR' := E.out
          simp only [Bool.true_and, Bool.false_and, Bool.and_true, Bool.and_false, Bool.true_or, Bool.false_or, Bool.or_true, Bool.or_false, Bool.or_self, Bool.and_self] at hR'
          have hR := Lib.hid hR'
          clear E hR'
          go_wp2
          go_ret
          exact ⟨ret_bool hR.out.symm, hBw.out⟩
        have hR' := E.out
        simp only [Bool.true_and, Bool.false_and, Bool.and_true, Bool.and_false, Bool.true_or, Bool.false_or, Bool.or_true, Bool.or_false, Bool.or_self, Bool.and_self] at hR'
        have hR := Lib.hid hR'
        clear E hR'
        go_wp2
        go_ret
        exact ⟨ret_bool hR.out.symm, hBw.out⟩
      cases vy
      · cases y0
        · have hR' := E.out
          simp only [Bool.true_and, Bool.false_and, Bool.and_true, Bool.and_false, Bool.true_or, Bool.false_or, Bool.or_true, Bool.or_false, Bool.or_self, Bool.and_self] at hR'
          have hR := Lib.hid hR'
          clear E hR'
          go_wp2
          go_ret
          exact ⟨ret_bool hR.out.symm, hBw.out⟩
        cases xy
        · have hR' := E.out
          simp only [Bool.true_and, Bool.false_and, Bool.and_true, Bool.and_false, Bool.true_or, Bool.false_or, Bool.or_true, Bool.or_false, Bool.or_self, Bool.and_self] at hR'
          have hR := Lib.hid hR'
          clear E hR'
          go_wp2
          go_ret
          exact ⟨ret_bool hR.out.symm, hBw.out⟩
        cases cv
        · have hR' := E.out
          simp only [Bool.true_and, Bool.false_and, Bool.and_true, Bool.and_false, Bool.true_or, Bool.false_or, Bool.or_true, Bool.or_false, Bool.or_self, Bool.and_self] at hR'
          have hR := Lib.hid hR'
          clear E hR'
          go_wp2
          go_ret
          exact ⟨ret_bool hR.out.symm, hBw.out⟩
        cases d0
        · have hR' := E.out
          simp only [Bool.true_and, Bool.false_and, Bool.and_true, Bool.and_false, Bool.true_or, Bool.false_or, Bool.or_true, Bool.or_false, Bool.or_self, Bool.and_self] at hR'
          have hR := Lib.hid hR'
          clear E hR'
          go_wp2
          go_ret
          exact ⟨ret_bool hR.out.symm, hBw.out⟩
        have hR' := E.out
        simp only [Bool.true_and, Bool.false_and, Bool.and_true, Bool.and_false, Bool.true_or, Bool.false_or, Bool.or_true, Bool.or_false, Bool.or_self, Bool.and_self] at hR'
        have hR := Lib.hid hR'
        clear E hR'
        go_wp2
        go_ret
        exact ⟨ret_bool hR.out.symm, hBw.out⟩
      cases xy
      · have hR' := E.out
        simp only [Bool.true_and, Bool.false_and, Bool.and_true, Bool.and_false, Bool.true_or, Bool.false_or, Bool.or_true, Bool.or_false, Bool.or_self, Bool.and_self] at hR'
        have hR := Lib.hid hR'
        clear E hR'
        go_wp2
        go_ret
        exact ⟨ret_bool hR.out.symm, hBw.out⟩
      cases cv
      · have hR' := E.out
        simp only [Bool.true_and, Bool.false_and, Bool.and_true, Bool.and_false, Bool.true_or, Bool.false_or, Bool.or_true, Bool.or_false, Bool.or_self, Bool.and_self] at hR'
        have hR := Lib.hid hR'
        clear E hR'
        go_wp2
        go_ret
        exact ⟨ret_bool hR.out.symm, hBw.out⟩
      cases d0
      · have hR' := E.out
        simp only [Bool.true_and, Bool.false_and, Bool.and_true, Bool.and_false, Bool.true_or, Bool.false_or, Bool.or_true, Bool.or_false, Bool.or_self, Bool.and_self] at hR'
        have hR := Lib.hid hR'
        clear E hR'
        go_wp2
        go_ret
        exact ⟨ret_bool hR.out.symm, hBw.out⟩
      have hR' := E.out
      simp only [Bool.true_and, Bool.false_and, Bool.and_true, Bool.and_false, Bool.true_or, Bool.false_or, Bool.or_true, Bool.or_false, Bool.or_self, Bool.and_self] at hR'
      have hR := Lib.hid hR'
      clear E hR'
      go_wp2
      go_ret
      exact ⟨ret_bool hR.out.symm, hBw.out⟩
    by_cases hk5 : k = 5
    · subst hk5
      have E : Hid ((if (5 : Int) < 1 ∨ (5 : Int) < 5 then false else stmtB 5 x y c d n) = ((bx || x0) && ((vy || y0) && (xy && (cv && d0))))) := Lib.hid (by
        rw [if_neg (by omega), show stmtB 5 x y c d n = diffB x y c d n from by unfold stmtB; simp]; exact E4.out)
      clear E1 E2 E3 E4
      cases bx
      · cases x0
        · have hR' := E.out
          simp only [Bool.true_and, Bool.false_and, Bool.and_true, Bool.and_false, Bool.true_or, Bool.false_or, Bool.or_true, Bool.or_false, Bool.or_self, Bool.and_self] at hR'
          have hR := Lib.hid hR'
          clear E hR'
          go_wp2
          go_ret
          exact ⟨ret_bool hR.out.symm, hBw.out⟩
        cases vy
        · cases y0
          · have hR' := E.out
            simp only [Bool.true_and, Bool.false_and, Bool.and_true, Bool.and_false, Bool.true_or, Bool.false_or, Bool.or_true, Bool.or_false, Bool.or_self, Bool.and_self] at hR'
            have hR := Lib.hid hR'
            clear E hR'
            go_wp2
            go_ret
            exact ⟨ret_bool hR.out.symm, hBw.out⟩
          cases xy
          · have hR' := E.out
            simp only [Bool.true_and, Bool.false_and, Bool.and_true, Bool.and_false, Bool.true_or, Bool.false_or, Bool.or_true, Bool.or_false, Bool.or_self, Bool.and_self] at hR'
            have hR := Lib.hid hR'
            clear E hR'
            go_wp2
            go_ret
            exact ⟨ret_bool hR.out.symm, hBw.out⟩
          cases cv
          · have hR' := E.out
            simp only [Bool.true_and, Bool.false_and, Bool.and_true, Bool.and_false, Bool.true_or, Bool.false_or, Bool.or_true, Bool.or_false, Bool.or_self, Bool.and_self] at hR'
            have hR := Lib.hid hR'
            clear E hR'
            go_wp2
            go_ret
            exact ⟨ret_bool hR.out.symm, hBw.out⟩
          cases d0
          · have hR' := E.out
            simp only [Bool.true_and, Bool.false_and, Bool.and_true, Bool.and_false, Bool.true_or, Bool.false_or, Bool.or_true, Bool.or_false, Bool.or_self, Bool.and_self] at hR'
            have hR := Lib.hid hR'
            clear E hR'
            go_wp2
            go_ret
            exact ⟨ret_bool hR.out.symm, hBw.out⟩
          have hR' := E.out
          simp only [Bool.true_and, Bool.false_and, Bool.and_true, Bool.and_false, Bool.true_or, Bool.false_or, Bool.or_true, Bool.or_false, Bool.or_self, Bool.and_self] at hR'
          have hR := Lib.hid hR'
          clear E hR'
          go_wp2
          go_ret
          exact ⟨ret_bool hR.out.symm, hBw.out⟩
        cases xy
        · have hR' := E.out
          simp only [Bool.true_and, Bool.false_and, Bool.and_true, Bool.and_false, Bool.true_or, Bool.false_or, Bool.or_true, Bool.or_false, Bool.or_self, Bool.and_self] at hR'
          have hR := Lib.hid hR'
          clear E hR'
          go_wp2
          go_ret
          exact ⟨ret_bool hR.out.symm, hBw.out⟩
        cases cv
        · have hR' := E.out
          simp only [Bool.true_and, Bool.false_and, Bool.and_true, Bool.and_false, Bool.true_or, Bool.false_or, Bool.or_true, Bool.or_false, Bool.or_self, Bool.and_self] at hR'
          have hR := Lib.hid hR'
          clear E hR'
          go_wp2
          go_ret
          exact ⟨ret_bool hR.out.symm, hBw.out⟩
        cases d0
        · have hR' := E.out
          simp only [Bool.true_and, Bool.false_and, Bool.and_true, Bool.and_false, Bool.true_or, Bool.false_or, Bool.or_true, Bool.or_false, Bool.or_self, Bool.and_self] at hR'
          have hR := Lib.hid hR'
          clear E hR'
          go_wp2
          go_ret
          exact ⟨ret_bool hR.out.symm, hBw.out⟩
        have hR' := E.out
        simp only [Bool.true_and, Bool.false_and, Bool.and_true, Bool.and_false, Bool.true_or, Bool.false_or, Bool.or_true, Bool.or_false, Bool.or_self, Bool.and_self] at hR'
        have hR := Lib.hid hR'
        clear E hR'
        go_wp2
        go_ret
        exact ⟨ret_bool hR.out.symm, hBw.out⟩
      cases vy
      · cases y0
        · have hR' := E.out
          simp only [Bool.true_and, Bool.false_and, Bool.and_true, Bool.and_false, Bool.true_or, Bool.false_or, Bool.or_true, Bool.or_false, Bool.or_self, Bool.and_self] at hR'
          have hR := Lib.hid hR'
          clear E hR'
          go_wp2
          go_ret
          exact ⟨ret_bool hR.out.symm, hBw.out⟩
        cases xy
        · have hR' := E.out
          simp only [Bool.true_and, Bool.false_and, Bool.and_true, Bool.and_false, Bool.true_or, Bool.false_or, Bool.or_true, Bool.or_false, Bool.or_self, Bool.and_self] at hR'
          have hR := Lib.hid hR'
          clear E hR'
          go_wp2
          go_ret
          exact ⟨ret_bool hR.out.symm, hBw.out⟩
        cases cv
        · have hR' := E.out
          simp only [Bool.true_and, Bool.false_and, Bool.and_true, Bool.and_false, Bool.true_or, Bool.false_or, Bool.or_true, Bool.or_false, Bool.or_self, Bool.and_self] at hR'
          have hR := Lib.hid hR'
          clear E hR'
          go_wp2
          go_ret
          exact ⟨ret_bool hR.out.symm, hBw.out⟩
        cases d0
        · have hR' := E.out
          simp only [Bool.true_and, Bool.false_and, Bool.and_true, Bool.and_false, Bool.true_or, Bool.false_or, Bool.or_true, Bool.or_false, Bool.or_self, Bool.and_self] at hR'
          have hR := Lib.hid hR'
          clear E hR'
          go_wp2
          go_ret
          exact ⟨ret_bool hR.out.symm, hBw.out⟩
        have hR' := E.out
        simp only [Bool.true_and, Bool.false_and, Bool.and_true, Bool.and_false, Bool.true_or, Bool.false_or, Bool.or_true, Bool.or_false, Bool.or_self, Bool.and_self] at hR'
        have hR := Lib.hid hR'
        clear E hR'
        go_wp2
        go_ret
        exact ⟨ret_bool hR.out.symm, hBw.out⟩
      cases xy
      · have hR' := E.out
        simp only [Bool.true_and, Bool.false_and, Bool.and_true, Bool.and_false, Bool.true_or, Bool.false_or, Bool.or_true, Bool.or_false, Bool.or_self, Bool.and_self] at hR'
        have hR := Lib.hid hR'
        clear E hR'
        go_wp2
        go_ret
        exact ⟨ret_bool hR.out.symm, hBw.out⟩
      cases cv
      · have hR' := E.out
        simp only [Bool.true_and, Bool.false_and, Bool.and_true, Bool.and_false, Bool.true_or, Bool.false_or, Bool.or_true, Bool.or_false, Bool.or_self, Bool.and_self] at hR'
        have hR := Lib.hid hR'
        clear E hR'
        go_wp2
        go_ret
        exact ⟨ret_bool hR.out.symm, hBw.out⟩
      cases d0
      · have hR' := E.out
        simp only [Bool.true_and, Bool.false_and, Bool.and_true, Bool.and_false, Bool.true_or, Bool.false_or, Bool.or_true, Bool.or_false, Bool.or_self, Bool.and_self] at hR'
        have hR := Lib.hid hR'
        clear E hR'
        go_wp2
        go_ret
        exact ⟨ret_bool hR.out.symm, hBw.out⟩
      have hR' := E.out
      simp only [Bool.true_and, Bool.false_and, Bool.and_true, Bool.and_false, Bool.true_or, Bool.false_or, Bool.or_true, Bool.or_false, Bool.or_self, Bool.and_self] at hR'
      have hR := Lib.hid hR'
      clear E hR'
      go_wp2
      go_ret
      exact ⟨ret_bool hR.out.symm, hBw.out⟩
    have e1 : (k == 1) = false := by simpa using hk1
    have e2 : (k == 2) = false := by simpa using hk2
    have e3 : (k == 3) = false := by simpa using hk3
    have e4 : (k == 4) = false := by simpa using hk4
    have e5 : (k == 5) = false := by simpa using hk5
    have hR : Hid (false = (if k < 1 ∨ 5 < k then false else stmtB k x y c d n)) := Lib.hid (by rw [if_pos (by omega)])
    clear E1 E2 E3 E4 hk1 hk2 hk3 hk4 hk5
    go_wp2
    go_ret
    exact ⟨ret_bool (by simpa using hR.out), hBw.out⟩
theorem rright_any (k x y c d n : Int) (w : World) : Calls Tryz.prog 91 #[.agg #[.int .i64 k, .int .i64 x, .int .i64 y, .int .i64 c, .int .i64 d], .int .i64 n] w (Gives (.bool (rightB k x y c d n)) w) := by
  by_cases h1 : n < 0
  · rw [show rightB k x y c d n = false by unfold rightB; rw [if_pos (.inl h1)]]; exact rright_b1 k x y c d n h1 w
  by_cases h2 : 8 < n
  · rw [show rightB k x y c d n = false by unfold rightB; rw [if_pos (.inr (.inl h2))]]; exact rright_b2 k x y c d n h1 h2 w
  have e : rightB k x y c d n = if k < 1 ∨ 5 < k then false else stmtB k x y c d n := by
    unfold rightB
    by_cases h3 : k < 1 ∨ 5 < k
    · rw [if_pos (.inr (.inr h3)), if_pos h3]
    · rw [if_neg (by omega), if_neg h3]
  rw [e]
  exact rright_in k x y c d n h1 h2 w
end Go.Proofs.YtimgocfkogebmaaGreatDoor
namespace Go.Proofs.YtimgocfkogebmaaGreatDoor
open Go.RowKit
set_option linter.unusedVariables false
set_option linter.unusedSimpArgs false
def emptyB (n : Int) (l : List Int) : Bool := decide (l = []) && checkB n l
theorem empty_any (n : Int) (a : Option Addr) (m c : Nat) (l : List Int) (w : World) (h : SL w a m c l) :
    Calls Tryz.prog 135 #[.agg #[.int .i64 n, .slice a m c]] w (Gives (.bool (emptyB n l)) w) := by
  have hB := box_below w #[.int .i64 n, .slice a m c] 51
  have hc := Lib.hid (dcheck_any n a m c l _ (h.below hB))
  have hB' := Lib.hid hB
  have hmx := h.max
  by_cases h0 : l = []
  · have hm : m = 0 := by rw [h.len, h0]; rfl
    subst hm
    have hr : Hid (emptyB n l = checkB n l) := Lib.hid (by unfold emptyB; simp [h0])
    have hk := Lib.hid (chk_or n l)
    clear hB h h0
    generalize emptyB n l = R at *
    generalize chk n l = E at *
    generalize checkB n l = y at *
    have hr2 := hr.out
    subst hr2
    go_enter Tryz.func135, Tryz.ntmps135
    go_wp2_with fail
    refine hc.out.mono ?_
    rintro e w1 ⟨rfl, b1⟩
    have hb1 := Lib.hid (hB'.out.trans (b1.mono hB'.out.size))
    rcases hk.out with ⟨rfl, rfl⟩ | ⟨rfl, rfl⟩
    · go_wp2
      go_ret
      exact ⟨rfl, hb1.out⟩
    · go_wp2
      go_ret
      exact ⟨rfl, hb1.out⟩
  · have hm := len_pos h0 h.len
    have e0 : ((m : Int) == 0) = false := by simp; omega
    have e2 : ¬ (m : Int) = 0 := by omega
    have e : emptyB n l = false := by unfold emptyB; rw [decide_eq_false h0, Bool.false_and]
    rw [e]
    clear hB h hm h0 hc e
    go_enter Tryz.func135, Tryz.ntmps135
    go_wp2
    go_ret
    exact ⟨rfl, hB'.out⟩
theorem large_any (a : Option Addr) (m c : Nat) (hm : m ≤ 9223372036854775807) (w : World) : Calls Tryz.prog 24 #[.slice a m c] w (Tells (.bool (decide (200 < (m : Int)))) w) := by
  go_enter Tryz.func24, Tryz.ntmps24
  go_wp2
  go_ret
  exact ⟨rfl, rfl⟩
structure Full (n : Nat) (l : List Int) : Prop where
  le : n ≤ 8
  len : l.length = sz n
  ne : l ≠ []
  fix : l = closedL n l
theorem Full.closed {n : Nat} {l : List Int} (h : Full n l) : Closed n (mat n l) := by
  have := (closedL_is (n := n) (M := l) (by rw [← h.fix]; exact h.ne)).2.1
  rwa [← h.fix] at this
theorem Full.up {n : Nat} {l : List Int} (h : Full n l) {i j : Nat} (hi : i ≤ n) (hj : j ≤ n) : mat n l i j ≤ widestF i j := by
  have := closedL_widest (n := n) (M := l) (by rw [← h.fix]; exact h.ne) hi hj
  rwa [← h.fix] at this
theorem Full.low {n : Nat} {l : List Int} (h : Full n l) {i j : Nat} (hi : i ≤ n) (hj : j ≤ n) : -(widestF j i) ≤ mat n l i j := by
  have h1 := h.closed.tri i i j hi hi hj
  rw [h.closed.zero i hi] at h1
  have := h.up hj hi
  omega
end Go.Proofs.YtimgocfkogebmaaGreatDoor
namespace Go.Proofs.YtimgocfkogebmaaGreatDoor
open Go.RowKit
set_option linter.unusedVariables false
set_option linter.unusedSimpArgs false
theorem val_in {v : List Int} (h : v.any farB = false) (i : Nat) : -1099511627776 ≤ valF v i ∧ valF v i ≤ 1099511627776 := by
  unfold valF
  split
  · omega
  · by_cases hi : i - 1 < v.length
    · have := List.any_eq_false.1 h (v[i - 1]) (List.getElem_mem hi)
      unfold farB at this
      simp at this
      simp [List.getD, hi]
      omega
    · simp [List.getD, show v.length ≤ i - 1 by omega]
end Go.Proofs.YtimgocfkogebmaaGreatDoor
namespace Go.Proofs.YtimgocfkogebmaaGreatDoor
open Go.RowKit
set_option linter.unusedVariables false
set_option linter.unusedSimpArgs false
def pointL (n : Nat) (l : List Int) (j : Nat) : List Int := (List.range n).map fun k => l.getD ((k + 1) * (n + 1) + j) 0 - l.getD j 0
end Go.Proofs.YtimgocfkogebmaaGreatDoor
namespace Go.Proofs.YtimgocfkogebmaaGreatDoor
open Go.RowKit
set_option linter.unusedVariables false
set_option linter.unusedSimpArgs false
def zD : List Int := [0, 1099511627776, 1099511627776, 7, 0, 3, 4, 1099511627780, 0]
def zA : List Int := [0, 1099511627776, 1099511627776, 0]
def EndsZ (n err : Int) (m : Nat) (l : List Int) (w : World) (e : Ending) (w' : World) : Prop :=
  ∃ a c, e = .returned (.tuple #[.agg #[.int .i64 n, .slice a m c], .int .i64 err]) ∧ SL w' a m c l ∧ Below w.heap.size w w'
theorem EndsZ.from {n err : Int} {m : Nat} {l : List Int} {w w1 : World} {e : Ending} {w' : World} (h : EndsZ n err m l w1 e w') (hb : Below w.heap.size w w1) : EndsZ n err m l w e w' := by
  obtain ⟨a, c, rfl, hs, hb2⟩ := h
  exact ⟨a, c, rfl, hs, hb.trans (hb2.mono hb.size)⟩
theorem Gives.from {v : Value} {w w1 : World} {e : Ending} {w' : World} (h : Gives v w1 e w') (hb : Below w.heap.size w w1) : Gives v w e w' := ⟨h.1, hb.trans (h.2.mono hb.size)⟩
structure ZLv (w W : World) (g1 g5 g11 : Nat) (a1 a5 ap a11 : Option Addr) (c1 c5 cp c11 : Nat) : Prop where
  bl : Below w.heap.size w W
  z1 : ZH W g1 (.int .i64 2) (.slice a1 9 c1)
  s1 : SL W a1 9 c1 zD
  z5 : ZH W g5 (.int .i64 2) (.slice a5 0 c5)
  s5 : SL W a5 0 c5 []
  sp : SL W ap 2 cp [7, 4]
  z11 : ZH W g11 (.int .i64 1) (.slice a11 4 c11)
  s11 : SL W a11 4 c11 zA
theorem ZLv.on {w W W' : World} {g1 g5 g11 : Nat} {a1 a5 ap a11 : Option Addr} {c1 c5 cp c11 : Nat} (h : ZLv w W g1 g5 g11 a1 a5 ap a11 c1 c5 cp c11) (hb : Below W.heap.size W W') : ZLv w W' g1 g5 g11 a1 a5 ap a11 c1 c5 cp c11 :=
  ⟨h.bl.trans (hb.mono h.bl.size), h.z1.below hb h.z1.lt, h.s1.below hb, h.z5.below hb h.z5.lt, h.s5.below hb, h.sp.below hb, h.z11.below hb h.z11.lt, h.s11.below hb⟩
end Go.Proofs.YtimgocfkogebmaaGreatDoor
namespace Go.Proofs.YtimgocfkogebmaaGreatDoor
open Go.RowKit
set_option linter.unusedVariables false
set_option linter.unusedSimpArgs false
def difF (v : List Int) (i j : Nat) : Int := valF v i - valF v j
theorem dif_closed (n : Nat) (v : List Int) : Closed n (difF v) := ⟨fun i _ => by unfold difF; omega, fun i j k _ _ _ => by unfold difF; omega⟩
theorem dif_widest {v : List Int} (h : v.any farB = false) (i j : Nat) : difF v i j ≤ widestF i j ∧ -2199023255552 ≤ difF v i j := by
  have h1 := val_in h i
  have h2 := val_in h j
  have h0 : valF v 0 = 0 := by unfold valF; rw [if_pos rfl]
  unfold difF widestF
  split
  · rename_i e; subst e; omega
  · split
    · rename_i e
      rcases e with rfl | rfl <;> omega
    · omega
theorem dif_clip {n : Nat} {m v : List Int} (h : v.any farB = false) : Leq n (difF v) (mat n (clipL n m)) ↔ Leq n (difF v) (mat n m) := by
  constructor
  · intro hh i j hi hj
    have := hh i j hi hj
    unfold clipL at this
    rw [mat_matL _ hi hj] at this
    have := dif_widest h i j
    unfold clipF at *
    omega
  · intro hh i j hi hj
    have := hh i j hi hj
    unfold clipL
    rw [mat_matL _ hi hj]
    have := dif_widest h i j
    unfold clipF
    omega
theorem closed_full {n : Nat} (hn : n ≤ 8) {m : List Int} (h : closedL n m ≠ []) : Full n (closedL n m) := ⟨hn, (closedL_is h).1, h, (closedL_again h).symm⟩
end Go.Proofs.YtimgocfkogebmaaGreatDoor
namespace Go.Proofs.YtimgocfkogebmaaGreatDoor
open Go.RowKit
set_option linter.unusedVariables false
set_option linter.unusedSimpArgs false
theorem closed_small {n : Nat} (hn : n ≤ 8) (m : List Int) : (closedL n m).length ≤ 81 := by
  have := sz_le hn
  by_cases h : closedL n m = []
  · rw [h]; simp
  · have : (closedL n m).length = sz n := (closedL_is h).1
    omega
end Go.Proofs.YtimgocfkogebmaaGreatDoor
namespace Go.Proofs.YtimgocfkogebmaaGreatDoor
open Go.RowKit
set_option linter.unusedVariables false
set_option linter.unusedSimpArgs false
theorem point_at {n : Nat} {l : List Int} (hF : Full n l) {i j : Nat} (hi : i ≤ n) (hj : j ≤ n) : valF (pointL n l j) i = mat n l i j - mat n l 0 j := by
  unfold valF mat
  split
  · rename_i e; subst e; simp
  · have h : i - 1 < n := by omega
    unfold pointL
    simp [List.getD, h]
    rw [show i - 1 + 1 = i by omega]
theorem point_len (n : Nat) (l : List Int) (j : Nat) : (pointL n l j).length = n := by simp [pointL]
theorem point_near {n : Nat} {l : List Int} (hF : Full n l) {j : Nat} (hj : j ≤ n) : (pointL n l j).any farB = false := by
  rw [List.any_eq_false]
  intro x hx
  obtain ⟨k, hk, rfl⟩ := List.getElem_of_mem hx
  rw [point_len] at hk
  have h1 := point_at hF (i := k + 1) (by omega) hj
  unfold valF at h1
  rw [if_neg (by omega)] at h1
  have h2 : (pointL n l j)[k]'(by rw [point_len]; exact hk) = mat n l (k + 1) j - mat n l 0 j := by
    simpa [List.getD, point_len, hk] using h1
  rw [h2]
  have t1 := hF.closed.tri (k + 1) j 0 (by omega) hj (by omega)
  have t2 := hF.closed.tri 0 j (k + 1) (by omega) hj (by omega)
  have u1 := hF.up (i := k + 1) (j := 0) (by omega) (by omega)
  have u2 := hF.up (i := 0) (j := k + 1) (by omega) (by omega)
  have e1 : widestF (k + 1) 0 = 1099511627776 := by unfold widestF; rw [if_neg (by omega), if_pos (.inr rfl)]
  have e2 : widestF 0 (k + 1) = 1099511627776 := by unfold widestF; rw [if_neg (by omega), if_pos (.inl rfl)]
  unfold farB
  simp
  omega
structure Tg (w W : World) (g : Nat) (n : Nat) (a : Option Addr) (m c : Nat) (R : List Int) (aq : Option Addr) (nq cq : Nat) (Q : List Int) : Prop where
  bl : Below w.heap.size w W
  z : ZH W g (.int .i64 n) (.slice a m c)
  s : SL W a m c R
  q : SL W aq nq cq Q
theorem Tg.on {w W W' : World} {g n : Nat} {a : Option Addr} {m c : Nat} {R : List Int} {aq : Option Addr} {nq cq : Nat} {Q : List Int} (h : Tg w W g n a m c R aq nq cq Q) (hb : Below W.heap.size W W') : Tg w W' g n a m c R aq nq cq Q :=
  ⟨h.bl.trans (hb.mono h.bl.size), h.z.below hb h.z.lt, h.s.below hb, h.q.below hb⟩
end Go.Proofs.YtimgocfkogebmaaGreatDoor
namespace Go.Proofs.YtimgocfkogebmaaGreatDoor
open Go.RowKit
set_option linter.unusedVariables false
set_option linter.unusedSimpArgs false
theorem zempty_any (n : Int) (a : Option Addr) (m c : Nat) (l : List Int) (w : World) (h : SL w a m c l) :
    Calls Tryz.prog 143 #[.agg #[.int .i64 n, .slice a m c]] w (Gives (.bool (decide (l = []))) w) := by
  have hB := box_below w #[.int .i64 n, .slice a m c] 51
  have hmx := h.max
  by_cases h0 : l = []
  · rw [decide_eq_true h0]
    have hm : m = 0 := by rw [h.len, h0]; rfl
    subst hm
    clear h h0
    go_enter Tryz.func143, Tryz.ntmps143
    go_wp2
    go_ret
    exact ⟨rfl, hB⟩
  · rw [decide_eq_false h0]
    have hm := len_pos h0 h.len
    have e1 : ((m : Int) == 0) = false := by simp; omega
    clear h h0 hm
    go_enter Tryz.func143, Tryz.ntmps143
    go_wp2
    go_ret
    exact ⟨rfl, hB⟩
theorem iclone_any (A : Option Addr) (l : List Int) (n c : Nat) (hn : n = l.length) (hl : l.length ≤ 1000000) (w : World) (hs : Sees .i64 w.heap.size w A l) :
    Calls Tryz.prog 63 #[.slice A n c] w (Made 3 .i64 w l) := by
  obtain ⟨i0, hi, hz0, hz1, hz2⟩ := info_parts zinfoInt
  subst hn
  cases A with
  | none =>
    have hl0 : l = [] := by
      rcases hs with h | ⟨b, off, h, _⟩
      · exact h
      · cases h
    subst hl0
    have hq := fun W => Lib.run_eql_slice_nil_nil (P := Tryz.prog) W (t := 49) (e := 3) 0 c Tryz.underlying49
    go_enter Tryz.func63, Tryz.ntmps63
    go_wp2
    go_ret
    exact ⟨_, rfl, ⟨rfl, .inl ⟨rfl, rfl⟩⟩, Below.refl _ _⟩
  | some ad =>
    have hq := fun W => Lib.run_eql_slice_some_nil (P := Tryz.prog) W (t := 49) (e := 3) ad l.length c Tryz.underlying49
    have hB : Below w.heap.size w (w.alloc (.cells #[] 3)) := (Below.refl _ _).alloc (Nat.le_refl _) _
    have hs' : Sees .i64 w.heap.size (w.alloc (.cells #[] 3)) (some ad) l := hs.below hB
    have hl' := Lib.hid hl
    go_enter Tryz.func63, Tryz.ntmps63
    go_wp2_with (at_builtin; refine wpList_append_sees _ rfl (.tmp 5) (.tmp 6) 49 rfl w 3 i0 (.int .i64 0) 8 Tryz.underlying49 hi hz0 hz1 hz2 rfl .i64 _ [] (by exact own_empty 3 .i64 (Below.refl _ w)) (by exact hB) w.heap.size (some ad) l (by exact hs') l.length c rfl rfl rfl (by have := hl'.out; simp; omega) (by omega) ?_; intro v2 w2 hown2 hw2; simp only [List.nil_append] at hown2)
    go_ret
    exact ⟨v2, rfl, hown2, hw2⟩
end Go.Proofs.YtimgocfkogebmaaGreatDoor
namespace Go.Proofs.YtimgocfkogebmaaGreatDoor
open Go.RowKit
set_option linter.unusedVariables false
set_option linter.unusedSimpArgs false
theorem zone_put {n : Int} {R : List Int} {err : Int} {w W1 w3 : World} {g a c : _} {z0 z1 : Value} (hB : Below w.heap.size w W1) (hg : w.heap.size ≤ g) (hz : ZH W1 g z0 z1) (hc : R.length ≤ c) (hs : Sees .i64 w3.heap.size w3 a R) (hb : Below W1.heap.size W1 w3) (hnw : New W1 a) :
    ZH ((w3.setCell ⟨g, 0, none⟩ (.int .i64 n)).setCell ⟨g, 1, none⟩ (.slice a R.length c)) g (.int .i64 n) (.slice a R.length c) ∧
      ZoneE n R err w (.returned (.tuple #[.agg #[.int .i64 n, .slice a R.length c], .int .i64 err])) ((w3.setCell ⟨g, 0, none⟩ (.int .i64 n)).setCell ⟨g, 1, none⟩ (.slice a R.length c)) ∧
      ZoneS n R w (.returned (.agg #[.int .i64 n, .slice a R.length c])) ((w3.setCell ⟨g, 0, none⟩ (.int .i64 n)).setCell ⟨g, 1, none⟩ (.slice a R.length c)) := by
  have hlt := hz.lt
  have hne : ∀ p, a = some p → g ≠ p.block := fun p hp => by have := hnw p hp; omega
  have hs2 : Sees .i64 ((w3.setCell ⟨g, 0, none⟩ (.int .i64 n)).setCell ⟨g, 1, none⟩ (.slice a R.length c)).heap.size ((w3.setCell ⟨g, 0, none⟩ (.int .i64 n)).setCell ⟨g, 1, none⟩ (.slice a R.length c)) a R := by
    have := sees_other (sees_other hs g hne 0 (.int .i64 n)) g hne 1 (.slice a R.length c)
    simpa using this
  have hbb : Below w.heap.size w ((w3.setCell ⟨g, 0, none⟩ (.int .i64 n)).setCell ⟨g, 1, none⟩ (.slice a R.length c)) := ((hB.trans (hb.mono hB.size)).setCell (p := ⟨g, 0, none⟩) hg _).setCell (p := ⟨g, 1, none⟩) hg _
  have hnew : New w a := fun p hp => Nat.le_trans hB.size (hnw p hp)
  exact ⟨zh_set (hz.below hb hlt) _ _, ⟨a, c, rfl, hc, hs2, hbb, hnew⟩, ⟨a, c, rfl, hc, hs2, hbb, hnew⟩⟩
end Go.Proofs.YtimgocfkogebmaaGreatDoor
namespace Go.Proofs.YtimgocfkogebmaaGreatDoor
open Go.RowKit
set_option linter.unusedVariables false
set_option linter.unusedSimpArgs false
structure B3 (w W : World) (x1 y1 x2 y2 : Value) : Prop where
  bl : Below w.heap.size w W
  z1 : ZH W w.heap.size x1 y1
  z2 : ZH W (w.heap.size + 1) x2 y2
  z3 : ZH W (w.heap.size + 1 + 1) (.int .i64 0) (.slice none 0 0)
theorem B3.on {w W W' : World} {x1 y1 x2 y2 : Value} (h : B3 w W x1 y1 x2 y2) (hb : Below W.heap.size W W') : B3 w W' x1 y1 x2 y2 := ⟨h.bl.trans (hb.mono h.bl.size), h.z1.below hb h.z1.lt, h.z2.below hb h.z2.lt, h.z3.below hb h.z3.lt⟩
def IsZ (n : Nat) (l : List Int) : Prop := n ≤ 8 ∧ (l = [] ∨ Full n l)
theorem isZ_of {n : Int} {l : List Int} (h : checkB n l = true) : ∃ k : Nat, n = k ∧ IsZ k l := by
  have hm : mayB n = true := by
    cases q : mayB n
    · rw [checkB_no q] at h; cases h
    · rfl
  obtain ⟨k, rfl, hk⟩ := mayB_of hm
  refine ⟨k, rfl, hk, ?_⟩
  by_cases h0 : l = []
  · exact .inl h0
  · right
    by_cases hl : l.length = sz k
    · rw [checkB_sz hk h0 hl] at h
      exact ⟨hk, hl, h0, of_decide_eq_true h⟩
    · rw [checkB_len h0 hl] at h; cases h
theorem IsZ.check {n : Nat} {l : List Int} (h : IsZ n l) : checkB n l = true := by
  rcases h.2 with e | hF
  · rw [e]; exact checkB_nil (mayB_nat h.1)
  · rw [checkB_sz hF.le hF.ne hF.len]; exact decide_eq_true hF.fix
theorem IsZ.small {n : Nat} {l : List Int} (h : IsZ n l) : l.length ≤ 81 := by
  rcases h.2 with e | hF
  · rw [e]; simp
  · have := sz_le h.1; rw [hF.len]; exact this
end Go.Proofs.YtimgocfkogebmaaGreatDoor
namespace Go.Proofs.YtimgocfkogebmaaGreatDoor
open Go.RowKit
set_option linter.unusedVariables false
set_option linter.unusedSimpArgs false
def ZoneN (n : Int) (l : List Int) (w : World) (e : Ending) (w' : World) : Prop := ∃ a m c, e = .returned (.agg #[.int .i64 n, .slice a m c]) ∧ SL w' a m c l ∧ Below w.heap.size w w' ∧ (l = [] ∨ New w a)
def ZoneR (n : Int) (l : List Int) (w : World) (e : Ending) (w' : World) : Prop := ∃ a m c, e = .returned (.agg #[.int .i64 n, .slice a m c]) ∧ SL w' a m c l ∧ Below w.heap.size w w'
theorem ZoneN.r {n : Int} {l : List Int} {w : World} {e : Ending} {w' : World} (h : ZoneN n l w e w') : ZoneR n l w e w' := by
  obtain ⟨a, m, c, h1, h2, h3, -⟩ := h
  exact ⟨a, m, c, h1, h2, h3⟩
theorem zoneN_of {n : Int} {l : List Int} {w : World} {e : Ending} {w' : World} (hl : l.length ≤ 1000) (h : ZoneS n l w e w') : ZoneN n l w e w' := by
  obtain ⟨a, c, h1, h2, h3, h4, h5⟩ := h
  exact ⟨a, l.length, c, h1, ⟨rfl, h2, by omega, h3⟩, h4, .inr h5⟩
theorem sl_set {w : World} {a : Option Addr} {m c : Nat} {l : List Int} (h : SL w a m c l) (g : Nat) (hg : l = [] ∨ ∀ p, a = some p → g ≠ p.block) (x y : Value) : SL ((w.setCell ⟨g, 0, none⟩ x).setCell ⟨g, 1, none⟩ y) a m c l := by
  refine ⟨h.len, h.cap, h.max, ?_⟩
  rcases hg with e | hg
  · exact .inl e
  · have := sees_other (sees_other h.sees g hg 0 x) g hg 1 y
    simpa using this
theorem zone_putN {n : Int} {R : List Int} {w W1 w3 : World} {g : Nat} {a : Option Addr} {m c : Nat} {z0 z1 : Value} (hB : Below w.heap.size w W1) (hg : w.heap.size ≤ g) (hz : ZH W1 g z0 z1) (hs : SL w3 a m c R) (hb : Below W1.heap.size W1 w3) (hnw : R = [] ∨ New W1 a) :
    ZH ((w3.setCell ⟨g, 0, none⟩ (.int .i64 n)).setCell ⟨g, 1, none⟩ (.slice a m c)) g (.int .i64 n) (.slice a m c) ∧
      ZoneN n R w (.returned (.agg #[.int .i64 n, .slice a m c])) ((w3.setCell ⟨g, 0, none⟩ (.int .i64 n)).setCell ⟨g, 1, none⟩ (.slice a m c)) := by
  have hlt := hz.lt
  have hs2 := sl_set hs g (hnw.imp id (fun h p hp => by have := h p hp; omega)) (.int .i64 n) (.slice a m c)
  have hbb : Below w.heap.size w ((w3.setCell ⟨g, 0, none⟩ (.int .i64 n)).setCell ⟨g, 1, none⟩ (.slice a m c)) := ((hB.trans (hb.mono hB.size)).setCell (p := ⟨g, 0, none⟩) hg _).setCell (p := ⟨g, 1, none⟩) hg _
  exact ⟨zh_set (hz.below hb hlt) _ _, a, m, c, rfl, hs2, hbb, hnw.imp id (fun h p hp => Nat.le_trans hB.size (h p hp))⟩
structure B2 (w W : World) (x1 y1 x2 y2 : Value) : Prop where
  bl : Below w.heap.size w W
  z1 : ZH W w.heap.size x1 y1
  z2 : ZH W (w.heap.size + 1) x2 y2
theorem B2.on {w W W' : World} {x1 y1 x2 y2 : Value} (h : B2 w W x1 y1 x2 y2) (hb : Below W.heap.size W W') : B2 w W' x1 y1 x2 y2 := ⟨h.bl.trans (hb.mono h.bl.size), h.z1.below hb h.z1.lt, h.z2.below hb h.z2.lt⟩
end Go.Proofs.YtimgocfkogebmaaGreatDoor
