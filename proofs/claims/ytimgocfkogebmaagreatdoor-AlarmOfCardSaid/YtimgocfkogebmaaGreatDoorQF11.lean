/-
  Words and walks under the law's proof.
-/
import Derived.Deep.WholeRow
import Derived.Laws.ResultCell
import Derived.Defers
import Derived.Recover
import Derived.RegionTactic
import Derived.Test.YtimgocfkogebmaaGreatDoorQF06
import Derived.Test.YtimgocfkogebmaaGreatDoorQF08
import Derived.Test.YtimgocfkogebmaaGreatDoorQF09
import Derived.Test.YtimgocfkogebmaaGreatDoorQF10
namespace Go.Proofs.YtimgocfkogebmaaGreatDoor
open Go.RowKit
set_option linter.unusedVariables false
set_option linter.unusedSimpArgs false
def skipT : ByteArray := ⟨#[115, 107, 105, 112]⟩
def stmtT (l : List ByteArray) (k x y c d : Int) : ByteArray := if k = 1 then skipT else if k = 2 then letT l x y c else if k = 3 then anyT l x c d else if k = 4 then limT ⟨#[108, 105, 109, 105, 116]⟩ l x y c else limT ⟨#[99, 104, 101, 99, 107]⟩ l x y c
def showE (l : List ByteArray) (k x y c d : Int) : Int := if varsB l = true then (if rightB k x y c d (l.length : Int) = true then 0 else 111) else 110
def showP (l : List ByteArray) (k x y c d : Int) : ByteArray := if showE l k x y c d = 0 then stmtT l k x y c d else ⟨#[]⟩
theorem vars_name {l : List ByteArray} (h : varsB l = true) {s : ByteArray} (hs : s ∈ l) : nameB s = true ∧ takB s = false := by
  unfold varsB at h
  rw [Bool.and_eq_true, List.all_eq_true] at h
  obtain ⟨t, ht, rfl⟩ := List.getElem_of_mem hs
  have := h.2 t (List.mem_range.2 ht)
  unfold varB at this
  simp only [Bool.and_eq_true, Bool.not_eq_true'] at this
  have e : l.getD t e0 = l[t] := by simp [List.getD, ht]
  rw [e] at this
  exact ⟨this.1, this.2.1⟩
theorem vars_sz {l : List ByteArray} (h : varsB l = true) : ∀ s ∈ l, s.size ≤ 32 := fun s hs => by
  have := (vars_name h hs).1
  unfold nameB at this
  rw [Bool.and_eq_true, decide_eq_true_eq] at this
  exact this.1
theorem right_kind {k x y c d n : Int} (h : rightB k x y c d n = true) : 1 ≤ k ∧ k ≤ 5 := by
  unfold rightB at h
  split at h
  · cases h
  · omega
theorem right_let {x y c d n : Int} (h : rightB 2 x y c d n = true) : 1 ≤ x ∧ x ≤ n ∧ 0 ≤ y ∧ y ≤ n ∧ (-1099511627776 ≤ c ∧ c ≤ 1099511627776) ∧ d = 0 := by
  unfold rightB at h
  split at h
  · cases h
  · simp only [stmtB, letB, isVarB, isTermB, isValB, show ¬ (2 : Int) = 1 by omega, if_false, if_true, Bool.and_eq_true, decide_eq_true_eq, beq_iff_eq] at h
    exact ⟨h.1.1, h.1.2, h.2.1.1, h.2.1.2, h.2.2.1, h.2.2.2⟩
theorem right_any' {x y c d n : Int} (h : rightB 3 x y c d n = true) : 1 ≤ x ∧ x ≤ n ∧ y = 0 ∧ (-1099511627776 ≤ c ∧ c ≤ 1099511627776) ∧ (-1099511627776 ≤ d ∧ d ≤ 1099511627776) ∧ c ≤ d := by
  unfold rightB at h
  split at h
  · cases h
  · simp only [stmtB, anyB, isVarB, isTermB, isValB, show ¬ (3 : Int) = 1 by omega, show ¬ (3 : Int) = 2 by omega, if_false, if_true, Bool.and_eq_true, decide_eq_true_eq, beq_iff_eq] at h
    exact ⟨h.1.1, h.1.2, h.2.1, h.2.2.1, h.2.2.2.1, h.2.2.2.2⟩
theorem right_diff {k x y c d n : Int} (hk : k = 4 ∨ k = 5) (h : rightB k x y c d n = true) : 0 ≤ x ∧ x ≤ n ∧ 0 ≤ y ∧ y ≤ n ∧ x ≠ y ∧ (-1099511627776 ≤ c ∧ c ≤ 1099511627776) ∧ d = 0 := by
  unfold rightB at h
  split at h
  · cases h
  · unfold stmtB at h
    rw [if_neg (by omega), if_neg (by omega), if_neg (by omega)] at h
    simp only [diffB, isVarB, isTermB, isValB, Bool.and_eq_true, decide_eq_true_eq, beq_iff_eq, bne_iff_ne] at h
    exact ⟨h.1.1, h.1.2, h.2.1.1, h.2.1.2, h.2.2.1, h.2.2.2.1, h.2.2.2.2⟩
set_option maxRecDepth 100000 in
set_option maxHeartbeats 2000000 in
theorem pshow_1 (a : Option Addr) (n cp : Nat) (l : List ByteArray) (x y c d : Int) (T : ByteArray) (hv : varsB l = true) (hr : rightB 1 x y c d (n : Int) = true)
    (hq : ∀ W, Tab W → TT W a n cp l → Calls Tryz.prog 175 #[.slice a n cp, .agg #[.int .i64 1, .int .i64 x, .int .i64 y, .int .i64 c, .int .i64 d]] W (Gives (.string T) W)) (w : World) (ht : Tab w) (h : TT w a n cp l) :
    Calls Tryz.prog 85 #[.slice a n cp, .agg #[.int .i64 1, .int .i64 x, .int .i64 y, .int .i64 c, .int .i64 d]] w (Gives (.tuple #[.string T, .int .i64 0]) w) := by
  have q1 := Lib.hid (fun W hW => rightVars_any a n cp l W hW)
  have q2 := Lib.hid (fun W => right_any 1 x y c d (n : Int) W)
  rw [hv] at q1
  rw [hr] at q2
  obtain ⟨W1, hW1⟩ : ∃ W1, W1 = w.alloc (.cells #[.int .i64 1, .int .i64 x, .int .i64 y, .int .i64 c, .int .i64 d] 73) := ⟨_, rfl⟩
  have BL := Lib.hid (show Below w.heap.size w W1 by rw [hW1]; exact box_below _ _ _)
  have HZ : Hid (Holds W1 w.heap.size 73 #[.int .i64 1, .int .i64 x, .int .i64 y, .int .i64 c, .int .i64 d]) := Lib.hid (by rw [hW1]; exact Holds.new w _ _)
  have T1 := Lib.hid (ht.on BL.out)
  have V := Lib.hid (h.below BL.out)
  have hW1' := Lib.hid hW1
  have hq' := Lib.hid hq
  have hn : (n : Int) ≤ 9223372036854775807 := by have := h.cap; have := h.max; unfold maxLen at this; omega
  have hix : ∀ W, (Instr.index 162 (.agg kindsA) (.int .i64 1)).run Tryz.prog W = .ok (.agg #[.func (.func 174) #[] #[], .func (.func 175) #[] #[]]) W := fun W => by kernel_rfl
  have hfd : ∀ W, (Instr.field 161 (.agg #[.func (.func 174) #[] #[], .func (.func 175) #[] #[]]) 1).run Tryz.prog W = .ok (.func (.func 175) #[] #[]) W := fun W => by kernel_rfl
  clear hW1 hq hv hr ht h
  go_enter Tryz.func85, Tryz.ntmps85
  go_wp2_with fail
  rw [← hW1'.out]
  with_reducible refine (q1.out W1 V.out).mono ?_
  rintro e u1 ⟨rfl, b1⟩
  replace HZ := Lib.hid (HZ.out.below b1 HZ.out.lt)
  replace V := Lib.hid (V.out.below b1)
  replace T1 := Lib.hid (T1.out.on b1)
  replace BL := Lib.hid (BL.out.trans (b1.mono BL.out.size))
  clear b1 hW1' q1
  have k0 := HZ.out.cell 0
  have k1 := HZ.out.cell 1
  have k2 := HZ.out.cell 2
  have k3 := HZ.out.cell 3
  have k4 := HZ.out.cell 4
  go_wp2_with fail
  refine (q2.out u1).mono ?_
  rintro e u2 ⟨rfl, b1⟩
  replace HZ := Lib.hid (HZ.out.below b1 HZ.out.lt)
  replace V := Lib.hid (V.out.below b1)
  replace T1 := Lib.hid (T1.out.on b1)
  replace BL := Lib.hid (BL.out.trans (b1.mono BL.out.size))
  clear b1 q2 k0 k1 k2 k3 k4
  go_wp2
  have g0 : ∀ W, Below u2.heap.size u2 W → W.cell? ⟨w.heap.size, 0, none⟩ = some (.int .i64 1) := fun W hW => (HZ.out.below hW HZ.out.lt).cell 0
  have g1 : ∀ W, Below u2.heap.size u2 W → W.cell? ⟨w.heap.size, 1, none⟩ = some (.int .i64 x) := fun W hW => (HZ.out.below hW HZ.out.lt).cell 1
  have g2 : ∀ W, Below u2.heap.size u2 W → W.cell? ⟨w.heap.size, 2, none⟩ = some (.int .i64 y) := fun W hW => (HZ.out.below hW HZ.out.lt).cell 2
  have g3 : ∀ W, Below u2.heap.size u2 W → W.cell? ⟨w.heap.size, 3, none⟩ = some (.int .i64 c) := fun W hW => (HZ.out.below hW HZ.out.lt).cell 3
  have g4 : ∀ W, Below u2.heap.size u2 W → W.cell? ⟨w.heap.size, 4, none⟩ = some (.int .i64 d) := fun W hW => (HZ.out.below hW HZ.out.lt).cell 4
  refine wp_drawn_on (fun W => Below u2.heap.size u2 W) (by kernel_rfl) ((Below.refl _ _).drew) (fun hHeld => ?_)
  refine wT 1 (v := ?v1) rfl (by kernel_rfl) (fun _ _ _ h => h) ?h1 (by assumption) ?r1
  case h1 => (intro w hSw; (try dsimp only at hSw); go_simp; try with_reducible rfl)
  refine wT 2 (v := ?v2) rfl (by kernel_rfl) (fun _ _ _ h => h) ?h2 (by assumption) ?r2
  case h2 => (intro w hSw; (try dsimp only at hSw); go_simp; try with_reducible rfl)
  refine wT 5 (v := ?v3) rfl (by kernel_rfl) (fun _ _ _ h => h) ?h3 (by assumption) ?r3
  case h3 => (intro w hSw; (try dsimp only at hSw); go_simp; try with_reducible rfl)
  refine wT 6 (v := ?v4) rfl (by kernel_rfl) (fun _ _ _ h => h) ?h4 (by assumption) ?r4
  case h4 => (intro w hSw; (try dsimp only at hSw); go_simp; try with_reducible rfl)
  try simp only [Act.put, List.setIfInBounds_toArray, List.set_cons_zero, List.set_cons_succ]
  refine wpAnyH_ready (rs := [0]) (by kernel_rfl) (by simp) ?_
  refine AllReadyH.cons (o := ⟨_, _, _, _, _, _⟩) rfl (fun K hK => ?_) AllReadyH.nil
  go_simp
  refine (kinds_any _).mono ?_
  rintro e t0 ⟨rfl, b0⟩
  go_simp
  refine hK.out _ _ (hHeld.trans (b0.mono hHeld.size)) (fun hHeld => ?_)
  clear hK K
  refine wT 3 (v := ?v5) rfl (by kernel_rfl) (fun _ _ _ h => h) ?h5 (by assumption) ?r5
  case h5 => (intro w hSw; (try dsimp only at hSw); go_simp; try with_reducible rfl)
  refine wT 4 (v := ?v6) rfl (by kernel_rfl) (fun _ _ _ h => h) ?h6 (by assumption) ?r6
  case h6 => (intro w hSw; (try dsimp only at hSw); go_simp; try with_reducible rfl)
  try simp only [Act.put, List.setIfInBounds_toArray, List.set_cons_zero, List.set_cons_succ]
  refine wpAnyH_ready (rs := [7]) (by kernel_rfl) (by simp) ?_
  refine AllReadyH.cons (o := ⟨_, _, _, _, _, _⟩) rfl (fun K hK => ?_) AllReadyH.nil
  go_simp
  refine (hq'.out _ (T1.out.on hHeld) (V.out.below hHeld)).mono ?_
  rintro e t7 ⟨rfl, b7⟩
  go_simp
  refine hK.out _ _ (hHeld.trans (b7.mono hHeld.size)) (fun hHeld => ?_)
  clear hK K
  refine wT 8 (v := ?v7) rfl (by kernel_rfl) (fun _ _ _ h => h) ?h7 (by assumption) ?r7
  case h7 => (intro w hSw; (try dsimp only at hSw); go_simp; try with_reducible rfl)
  refine wT 9 (v := ?v8) rfl (by kernel_rfl) (fun _ _ _ h => h) ?h8 (by assumption) ?r8
  case h8 => (intro w hSw; (try dsimp only at hSw); go_simp; try with_reducible rfl)
  try simp only [Act.put, List.setIfInBounds_toArray, List.set_cons_zero, List.set_cons_succ]
  refine wpAnyH_done (by kernel_rfl) ?_ _
  go_wp2
  go_ret2
  exact ⟨rfl, BL.out.trans (hHeld.mono BL.out.size)⟩
set_option maxRecDepth 100000 in
set_option maxHeartbeats 2000000 in
theorem pshow_2 (a : Option Addr) (n cp : Nat) (l : List ByteArray) (x y c d : Int) (T : ByteArray) (hv : varsB l = true) (hr : rightB 2 x y c d (n : Int) = true)
    (hq : ∀ W, Tab W → TT W a n cp l → Calls Tryz.prog 177 #[.slice a n cp, .agg #[.int .i64 2, .int .i64 x, .int .i64 y, .int .i64 c, .int .i64 d]] W (Gives (.string T) W)) (w : World) (ht : Tab w) (h : TT w a n cp l) :
    Calls Tryz.prog 85 #[.slice a n cp, .agg #[.int .i64 2, .int .i64 x, .int .i64 y, .int .i64 c, .int .i64 d]] w (Gives (.tuple #[.string T, .int .i64 0]) w) := by
  have q1 := Lib.hid (fun W hW => rightVars_any a n cp l W hW)
  have q2 := Lib.hid (fun W => right_any 2 x y c d (n : Int) W)
  rw [hv] at q1
  rw [hr] at q2
  obtain ⟨W1, hW1⟩ : ∃ W1, W1 = w.alloc (.cells #[.int .i64 2, .int .i64 x, .int .i64 y, .int .i64 c, .int .i64 d] 73) := ⟨_, rfl⟩
  have BL := Lib.hid (show Below w.heap.size w W1 by rw [hW1]; exact box_below _ _ _)
  have HZ : Hid (Holds W1 w.heap.size 73 #[.int .i64 2, .int .i64 x, .int .i64 y, .int .i64 c, .int .i64 d]) := Lib.hid (by rw [hW1]; exact Holds.new w _ _)
  have T1 := Lib.hid (ht.on BL.out)
  have V := Lib.hid (h.below BL.out)
  have hW1' := Lib.hid hW1
  have hq' := Lib.hid hq
  have hn : (n : Int) ≤ 9223372036854775807 := by have := h.cap; have := h.max; unfold maxLen at this; omega
  have hix : ∀ W, (Instr.index 162 (.agg kindsA) (.int .i64 2)).run Tryz.prog W = .ok (.agg #[.func (.func 176) #[] #[], .func (.func 177) #[] #[]]) W := fun W => by kernel_rfl
  have hfd : ∀ W, (Instr.field 161 (.agg #[.func (.func 176) #[] #[], .func (.func 177) #[] #[]]) 1).run Tryz.prog W = .ok (.func (.func 177) #[] #[]) W := fun W => by kernel_rfl
  clear hW1 hq hv hr ht h
  go_enter Tryz.func85, Tryz.ntmps85
  go_wp2_with fail
  rw [← hW1'.out]
  with_reducible refine (q1.out W1 V.out).mono ?_
  rintro e u1 ⟨rfl, b1⟩
  replace HZ := Lib.hid (HZ.out.below b1 HZ.out.lt)
  replace V := Lib.hid (V.out.below b1)
  replace T1 := Lib.hid (T1.out.on b1)
  replace BL := Lib.hid (BL.out.trans (b1.mono BL.out.size))
  clear b1 hW1' q1
  have k0 := HZ.out.cell 0
  have k1 := HZ.out.cell 1
  have k2 := HZ.out.cell 2
  have k3 := HZ.out.cell 3
  have k4 := HZ.out.cell 4
  go_wp2_with fail
  refine (q2.out u1).mono ?_
  rintro e u2 ⟨rfl, b1⟩
  replace HZ := Lib.hid (HZ.out.below b1 HZ.out.lt)
  replace V := Lib.hid (V.out.below b1)
  replace T1 := Lib.hid (T1.out.on b1)
  replace BL := Lib.hid (BL.out.trans (b1.mono BL.out.size))
  clear b1 q2 k0 k1 k2 k3 k4
  go_wp2
  have g0 : ∀ W, Below u2.heap.size u2 W → W.cell? ⟨w.heap.size, 0, none⟩ = some (.int .i64 2) := fun W hW => (HZ.out.below hW HZ.out.lt).cell 0
  have g1 : ∀ W, Below u2.heap.size u2 W → W.cell? ⟨w.heap.size, 1, none⟩ = some (.int .i64 x) := fun W hW => (HZ.out.below hW HZ.out.lt).cell 1
  have g2 : ∀ W, Below u2.heap.size u2 W → W.cell? ⟨w.heap.size, 2, none⟩ = some (.int .i64 y) := fun W hW => (HZ.out.below hW HZ.out.lt).cell 2
  have g3 : ∀ W, Below u2.heap.size u2 W → W.cell? ⟨w.heap.size, 3, none⟩ = some (.int .i64 c) := fun W hW => (HZ.out.below hW HZ.out.lt).cell 3
  have g4 : ∀ W, Below u2.heap.size u2 W → W.cell? ⟨w.heap.size, 4, none⟩ = some (.int .i64 d) := fun W hW => (HZ.out.below hW HZ.out.lt).cell 4
  refine wp_drawn_on (fun W => Below u2.heap.size u2 W) (by kernel_rfl) ((Below.refl _ _).drew) (fun hHeld => ?_)
  refine wT 1 (v := ?v9) rfl (by kernel_rfl) (fun _ _ _ h => h) ?h9 (by assumption) ?r9
  case h9 => (intro w hSw; (try dsimp only at hSw); go_simp; try with_reducible rfl)
  refine wT 2 (v := ?v10) rfl (by kernel_rfl) (fun _ _ _ h => h) ?h10 (by assumption) ?r10
  case h10 => (intro w hSw; (try dsimp only at hSw); go_simp; try with_reducible rfl)
  refine wT 5 (v := ?v11) rfl (by kernel_rfl) (fun _ _ _ h => h) ?h11 (by assumption) ?r11
  case h11 => (intro w hSw; (try dsimp only at hSw); go_simp; try with_reducible rfl)
  refine wT 6 (v := ?v12) rfl (by kernel_rfl) (fun _ _ _ h => h) ?h12 (by assumption) ?r12
  case h12 => (intro w hSw; (try dsimp only at hSw); go_simp; try with_reducible rfl)
  try simp only [Act.put, List.setIfInBounds_toArray, List.set_cons_zero, List.set_cons_succ]
  refine wpAnyH_ready (rs := [0]) (by kernel_rfl) (by simp) ?_
  refine AllReadyH.cons (o := ⟨_, _, _, _, _, _⟩) rfl (fun K hK => ?_) AllReadyH.nil
  go_simp
  refine (kinds_any _).mono ?_
  rintro e t0 ⟨rfl, b0⟩
  go_simp
  refine hK.out _ _ (hHeld.trans (b0.mono hHeld.size)) (fun hHeld => ?_)
  clear hK K
  refine wT 3 (v := ?v13) rfl (by kernel_rfl) (fun _ _ _ h => h) ?h13 (by assumption) ?r13
  case h13 => (intro w hSw; (try dsimp only at hSw); go_simp; try with_reducible rfl)
  refine wT 4 (v := ?v14) rfl (by kernel_rfl) (fun _ _ _ h => h) ?h14 (by assumption) ?r14
  case h14 => (intro w hSw; (try dsimp only at hSw); go_simp; try with_reducible rfl)
  try simp only [Act.put, List.setIfInBounds_toArray, List.set_cons_zero, List.set_cons_succ]
  refine wpAnyH_ready (rs := [7]) (by kernel_rfl) (by simp) ?_
  refine AllReadyH.cons (o := ⟨_, _, _, _, _, _⟩) rfl (fun K hK => ?_) AllReadyH.nil
  go_simp
  refine (hq'.out _ (T1.out.on hHeld) (V.out.below hHeld)).mono ?_
  rintro e t7 ⟨rfl, b7⟩
  go_simp
  refine hK.out _ _ (hHeld.trans (b7.mono hHeld.size)) (fun hHeld => ?_)
  clear hK K
  refine wT 8 (v := ?v15) rfl (by kernel_rfl) (fun _ _ _ h => h) ?h15 (by assumption) ?r15
  case h15 => (intro w hSw; (try dsimp only at hSw); go_simp; try with_reducible rfl)
  refine wT 9 (v := ?v16) rfl (by kernel_rfl) (fun _ _ _ h => h) ?h16 (by assumption) ?r16
  case h16 => (intro w hSw; (try dsimp only at hSw); go_simp; try with_reducible rfl)
  try simp only [Act.put, List.setIfInBounds_toArray, List.set_cons_zero, List.set_cons_succ]
  refine wpAnyH_done (by kernel_rfl) ?_ _
  go_wp2
  go_ret2
  exact ⟨rfl, BL.out.trans (hHeld.mono BL.out.size)⟩
set_option maxRecDepth 100000 in
set_option maxHeartbeats 2000000 in
theorem pshow_3 (a : Option Addr) (n cp : Nat) (l : List ByteArray) (x y c d : Int) (T : ByteArray) (hv : varsB l = true) (hr : rightB 3 x y c d (n : Int) = true)
    (hq : ∀ W, Tab W → TT W a n cp l → Calls Tryz.prog 179 #[.slice a n cp, .agg #[.int .i64 3, .int .i64 x, .int .i64 y, .int .i64 c, .int .i64 d]] W (Gives (.string T) W)) (w : World) (ht : Tab w) (h : TT w a n cp l) :
    Calls Tryz.prog 85 #[.slice a n cp, .agg #[.int .i64 3, .int .i64 x, .int .i64 y, .int .i64 c, .int .i64 d]] w (Gives (.tuple #[.string T, .int .i64 0]) w) := by
  have q1 := Lib.hid (fun W hW => rightVars_any a n cp l W hW)
  have q2 := Lib.hid (fun W => right_any 3 x y c d (n : Int) W)
  rw [hv] at q1
  rw [hr] at q2
  obtain ⟨W1, hW1⟩ : ∃ W1, W1 = w.alloc (.cells #[.int .i64 3, .int .i64 x, .int .i64 y, .int .i64 c, .int .i64 d] 73) := ⟨_, rfl⟩
  have BL := Lib.hid (show Below w.heap.size w W1 by rw [hW1]; exact box_below _ _ _)
  have HZ : Hid (Holds W1 w.heap.size 73 #[.int .i64 3, .int .i64 x, .int .i64 y, .int .i64 c, .int .i64 d]) := Lib.hid (by rw [hW1]; exact Holds.new w _ _)
  have T1 := Lib.hid (ht.on BL.out)
  have V := Lib.hid (h.below BL.out)
  have hW1' := Lib.hid hW1
  have hq' := Lib.hid hq
  have hn : (n : Int) ≤ 9223372036854775807 := by have := h.cap; have := h.max; unfold maxLen at this; omega
  have hix : ∀ W, (Instr.index 162 (.agg kindsA) (.int .i64 3)).run Tryz.prog W = .ok (.agg #[.func (.func 178) #[] #[], .func (.func 179) #[] #[]]) W := fun W => by kernel_rfl
  have hfd : ∀ W, (Instr.field 161 (.agg #[.func (.func 178) #[] #[], .func (.func 179) #[] #[]]) 1).run Tryz.prog W = .ok (.func (.func 179) #[] #[]) W := fun W => by kernel_rfl
  clear hW1 hq hv hr ht h
  go_enter Tryz.func85, Tryz.ntmps85
  go_wp2_with fail
  rw [← hW1'.out]
  with_reducible refine (q1.out W1 V.out).mono ?_
  rintro e u1 ⟨rfl, b1⟩
  replace HZ := Lib.hid (HZ.out.below b1 HZ.out.lt)
  replace V := Lib.hid (V.out.below b1)
  replace T1 := Lib.hid (T1.out.on b1)
  replace BL := Lib.hid (BL.out.trans (b1.mono BL.out.size))
  clear b1 hW1' q1
  have k0 := HZ.out.cell 0
  have k1 := HZ.out.cell 1
  have k2 := HZ.out.cell 2
  have k3 := HZ.out.cell 3
  have k4 := HZ.out.cell 4
  go_wp2_with fail
  refine (q2.out u1).mono ?_
  rintro e u2 ⟨rfl, b1⟩
  replace HZ := Lib.hid (HZ.out.below b1 HZ.out.lt)
  replace V := Lib.hid (V.out.below b1)
  replace T1 := Lib.hid (T1.out.on b1)
  replace BL := Lib.hid (BL.out.trans (b1.mono BL.out.size))
  clear b1 q2 k0 k1 k2 k3 k4
  go_wp2
  have g0 : ∀ W, Below u2.heap.size u2 W → W.cell? ⟨w.heap.size, 0, none⟩ = some (.int .i64 3) := fun W hW => (HZ.out.below hW HZ.out.lt).cell 0
  have g1 : ∀ W, Below u2.heap.size u2 W → W.cell? ⟨w.heap.size, 1, none⟩ = some (.int .i64 x) := fun W hW => (HZ.out.below hW HZ.out.lt).cell 1
  have g2 : ∀ W, Below u2.heap.size u2 W → W.cell? ⟨w.heap.size, 2, none⟩ = some (.int .i64 y) := fun W hW => (HZ.out.below hW HZ.out.lt).cell 2
  have g3 : ∀ W, Below u2.heap.size u2 W → W.cell? ⟨w.heap.size, 3, none⟩ = some (.int .i64 c) := fun W hW => (HZ.out.below hW HZ.out.lt).cell 3
  have g4 : ∀ W, Below u2.heap.size u2 W → W.cell? ⟨w.heap.size, 4, none⟩ = some (.int .i64 d) := fun W hW => (HZ.out.below hW HZ.out.lt).cell 4
  refine wp_drawn_on (fun W => Below u2.heap.size u2 W) (by kernel_rfl) ((Below.refl _ _).drew) (fun hHeld => ?_)
  refine wT 1 (v := ?v17) rfl (by kernel_rfl) (fun _ _ _ h => h) ?h17 (by assumption) ?r17
  case h17 => (intro w hSw; (try dsimp only at hSw); go_simp; try with_reducible rfl)
  refine wT 2 (v := ?v18) rfl (by kernel_rfl) (fun _ _ _ h => h) ?h18 (by assumption) ?r18
  case h18 => (intro w hSw; (try dsimp only at hSw); go_simp; try with_reducible rfl)
  refine wT 5 (v := ?v19) rfl (by kernel_rfl) (fun _ _ _ h => h) ?h19 (by assumption) ?r19
  case h19 => (intro w hSw; (try dsimp only at hSw); go_simp; try with_reducible rfl)
  refine wT 6 (v := ?v20) rfl (by kernel_rfl) (fun _ _ _ h => h) ?h20 (by assumption) ?r20
  case h20 => (intro w hSw; (try dsimp only at hSw); go_simp; try with_reducible rfl)
  try simp only [Act.put, List.setIfInBounds_toArray, List.set_cons_zero, List.set_cons_succ]
  refine wpAnyH_ready (rs := [0]) (by kernel_rfl) (by simp) ?_
  refine AllReadyH.cons (o := ⟨_, _, _, _, _, _⟩) rfl (fun K hK => ?_) AllReadyH.nil
  go_simp
  refine (kinds_any _).mono ?_
  rintro e t0 ⟨rfl, b0⟩
  go_simp
  refine hK.out _ _ (hHeld.trans (b0.mono hHeld.size)) (fun hHeld => ?_)
  clear hK K
  refine wT 3 (v := ?v21) rfl (by kernel_rfl) (fun _ _ _ h => h) ?h21 (by assumption) ?r21
  case h21 => (intro w hSw; (try dsimp only at hSw); go_simp; try with_reducible rfl)
  refine wT 4 (v := ?v22) rfl (by kernel_rfl) (fun _ _ _ h => h) ?h22 (by assumption) ?r22
  case h22 => (intro w hSw; (try dsimp only at hSw); go_simp; try with_reducible rfl)
  try simp only [Act.put, List.setIfInBounds_toArray, List.set_cons_zero, List.set_cons_succ]
  refine wpAnyH_ready (rs := [7]) (by kernel_rfl) (by simp) ?_
  refine AllReadyH.cons (o := ⟨_, _, _, _, _, _⟩) rfl (fun K hK => ?_) AllReadyH.nil
  go_simp
  refine (hq'.out _ (T1.out.on hHeld) (V.out.below hHeld)).mono ?_
  rintro e t7 ⟨rfl, b7⟩
  go_simp
  refine hK.out _ _ (hHeld.trans (b7.mono hHeld.size)) (fun hHeld => ?_)
  clear hK K
  refine wT 8 (v := ?v23) rfl (by kernel_rfl) (fun _ _ _ h => h) ?h23 (by assumption) ?r23
  case h23 => (intro w hSw; (try dsimp only at hSw); go_simp; try with_reducible rfl)
  refine wT 9 (v := ?v24) rfl (by kernel_rfl) (fun _ _ _ h => h) ?h24 (by assumption) ?r24
  case h24 => (intro w hSw; (try dsimp only at hSw); go_simp; try with_reducible rfl)
  try simp only [Act.put, List.setIfInBounds_toArray, List.set_cons_zero, List.set_cons_succ]
  refine wpAnyH_done (by kernel_rfl) ?_ _
  go_wp2
  go_ret2
  exact ⟨rfl, BL.out.trans (hHeld.mono BL.out.size)⟩
set_option maxRecDepth 100000 in
set_option maxHeartbeats 2000000 in
theorem pshow_4 (a : Option Addr) (n cp : Nat) (l : List ByteArray) (x y c d : Int) (T : ByteArray) (hv : varsB l = true) (hr : rightB 4 x y c d (n : Int) = true)
    (hq : ∀ W, Tab W → TT W a n cp l → Calls Tryz.prog 181 #[.slice a n cp, .agg #[.int .i64 4, .int .i64 x, .int .i64 y, .int .i64 c, .int .i64 d]] W (Gives (.string T) W)) (w : World) (ht : Tab w) (h : TT w a n cp l) :
    Calls Tryz.prog 85 #[.slice a n cp, .agg #[.int .i64 4, .int .i64 x, .int .i64 y, .int .i64 c, .int .i64 d]] w (Gives (.tuple #[.string T, .int .i64 0]) w) := by
  have q1 := Lib.hid (fun W hW => rightVars_any a n cp l W hW)
  have q2 := Lib.hid (fun W => right_any 4 x y c d (n : Int) W)
  rw [hv] at q1
  rw [hr] at q2
  obtain ⟨W1, hW1⟩ : ∃ W1, W1 = w.alloc (.cells #[.int .i64 4, .int .i64 x, .int .i64 y, .int .i64 c, .int .i64 d] 73) := ⟨_, rfl⟩
  have BL := Lib.hid (show Below w.heap.size w W1 by rw [hW1]; exact box_below _ _ _)
  have HZ : Hid (Holds W1 w.heap.size 73 #[.int .i64 4, .int .i64 x, .int .i64 y, .int .i64 c, .int .i64 d]) := Lib.hid (by rw [hW1]; exact Holds.new w _ _)
  have T1 := Lib.hid (ht.on BL.out)
  have V := Lib.hid (h.below BL.out)
  have hW1' := Lib.hid hW1
  have hq' := Lib.hid hq
  have hn : (n : Int) ≤ 9223372036854775807 := by have := h.cap; have := h.max; unfold maxLen at this; omega
  have hix : ∀ W, (Instr.index 162 (.agg kindsA) (.int .i64 4)).run Tryz.prog W = .ok (.agg #[.func (.func 180) #[] #[], .func (.func 181) #[] #[]]) W := fun W => by kernel_rfl
  have hfd : ∀ W, (Instr.field 161 (.agg #[.func (.func 180) #[] #[], .func (.func 181) #[] #[]]) 1).run Tryz.prog W = .ok (.func (.func 181) #[] #[]) W := fun W => by kernel_rfl
  clear hW1 hq hv hr ht h
  go_enter Tryz.func85, Tryz.ntmps85
  go_wp2_with fail
  rw [← hW1'.out]
  with_reducible refine (q1.out W1 V.out).mono ?_
  rintro e u1 ⟨rfl, b1⟩
  replace HZ := Lib.hid (HZ.out.below b1 HZ.out.lt)
  replace V := Lib.hid (V.out.below b1)
  replace T1 := Lib.hid (T1.out.on b1)
  replace BL := Lib.hid (BL.out.trans (b1.mono BL.out.size))
  clear b1 hW1' q1
  have k0 := HZ.out.cell 0
  have k1 := HZ.out.cell 1
  have k2 := HZ.out.cell 2
  have k3 := HZ.out.cell 3
  have k4 := HZ.out.cell 4
  go_wp2_with fail
  refine (q2.out u1).mono ?_
  rintro e u2 ⟨rfl, b1⟩
  replace HZ := Lib.hid (HZ.out.below b1 HZ.out.lt)
  replace V := Lib.hid (V.out.below b1)
  replace T1 := Lib.hid (T1.out.on b1)
  replace BL := Lib.hid (BL.out.trans (b1.mono BL.out.size))
  clear b1 q2 k0 k1 k2 k3 k4
  go_wp2
  have g0 : ∀ W, Below u2.heap.size u2 W → W.cell? ⟨w.heap.size, 0, none⟩ = some (.int .i64 4) := fun W hW => (HZ.out.below hW HZ.out.lt).cell 0
  have g1 : ∀ W, Below u2.heap.size u2 W → W.cell? ⟨w.heap.size, 1, none⟩ = some (.int .i64 x) := fun W hW => (HZ.out.below hW HZ.out.lt).cell 1
  have g2 : ∀ W, Below u2.heap.size u2 W → W.cell? ⟨w.heap.size, 2, none⟩ = some (.int .i64 y) := fun W hW => (HZ.out.below hW HZ.out.lt).cell 2
  have g3 : ∀ W, Below u2.heap.size u2 W → W.cell? ⟨w.heap.size, 3, none⟩ = some (.int .i64 c) := fun W hW => (HZ.out.below hW HZ.out.lt).cell 3
  have g4 : ∀ W, Below u2.heap.size u2 W → W.cell? ⟨w.heap.size, 4, none⟩ = some (.int .i64 d) := fun W hW => (HZ.out.below hW HZ.out.lt).cell 4
  refine wp_drawn_on (fun W => Below u2.heap.size u2 W) (by kernel_rfl) ((Below.refl _ _).drew) (fun hHeld => ?_)
  refine wT 1 (v := ?v25) rfl (by kernel_rfl) (fun _ _ _ h => h) ?h25 (by assumption) ?r25
  case h25 => (intro w hSw; (try dsimp only at hSw); go_simp; try with_reducible rfl)
  refine wT 2 (v := ?v26) rfl (by kernel_rfl) (fun _ _ _ h => h) ?h26 (by assumption) ?r26
  case h26 => (intro w hSw; (try dsimp only at hSw); go_simp; try with_reducible rfl)
  refine wT 5 (v := ?v27) rfl (by kernel_rfl) (fun _ _ _ h => h) ?h27 (by assumption) ?r27
  case h27 => (intro w hSw; (try dsimp only at hSw); go_simp; try with_reducible rfl)
  refine wT 6 (v := ?v28) rfl (by kernel_rfl) (fun _ _ _ h => h) ?h28 (by assumption) ?r28
  case h28 => (intro w hSw; (try dsimp only at hSw); go_simp; try with_reducible rfl)
  try simp only [Act.put, List.setIfInBounds_toArray, List.set_cons_zero, List.set_cons_succ]
  refine wpAnyH_ready (rs := [0]) (by kernel_rfl) (by simp) ?_
  refine AllReadyH.cons (o := ⟨_, _, _, _, _, _⟩) rfl (fun K hK => ?_) AllReadyH.nil
  go_simp
  refine (kinds_any _).mono ?_
  rintro e t0 ⟨rfl, b0⟩
  go_simp
  refine hK.out _ _ (hHeld.trans (b0.mono hHeld.size)) (fun hHeld => ?_)
  clear hK K
  refine wT 3 (v := ?v29) rfl (by kernel_rfl) (fun _ _ _ h => h) ?h29 (by assumption) ?r29
  case h29 => (intro w hSw; (try dsimp only at hSw); go_simp; try with_reducible rfl)
  refine wT 4 (v := ?v30) rfl (by kernel_rfl) (fun _ _ _ h => h) ?h30 (by assumption) ?r30
  case h30 => (intro w hSw; (try dsimp only at hSw); go_simp; try with_reducible rfl)
  try simp only [Act.put, List.setIfInBounds_toArray, List.set_cons_zero, List.set_cons_succ]
  refine wpAnyH_ready (rs := [7]) (by kernel_rfl) (by simp) ?_
  refine AllReadyH.cons (o := ⟨_, _, _, _, _, _⟩) rfl (fun K hK => ?_) AllReadyH.nil
  go_simp
  refine (hq'.out _ (T1.out.on hHeld) (V.out.below hHeld)).mono ?_
  rintro e t7 ⟨rfl, b7⟩
  go_simp
  refine hK.out _ _ (hHeld.trans (b7.mono hHeld.size)) (fun hHeld => ?_)
  clear hK K
  refine wT 8 (v := ?v31) rfl (by kernel_rfl) (fun _ _ _ h => h) ?h31 (by assumption) ?r31
  case h31 => (intro w hSw; (try dsimp only at hSw); go_simp; try with_reducible rfl)
  refine wT 9 (v := ?v32) rfl (by kernel_rfl) (fun _ _ _ h => h) ?h32 (by assumption) ?r32
  case h32 => (intro w hSw; (try dsimp only at hSw); go_simp; try with_reducible rfl)
  try simp only [Act.put, List.setIfInBounds_toArray, List.set_cons_zero, List.set_cons_succ]
  refine wpAnyH_done (by kernel_rfl) ?_ _
  go_wp2
  go_ret2
  exact ⟨rfl, BL.out.trans (hHeld.mono BL.out.size)⟩
set_option maxRecDepth 100000 in
set_option maxHeartbeats 2000000 in
theorem pshow_5 (a : Option Addr) (n cp : Nat) (l : List ByteArray) (x y c d : Int) (T : ByteArray) (hv : varsB l = true) (hr : rightB 5 x y c d (n : Int) = true)
    (hq : ∀ W, Tab W → TT W a n cp l → Calls Tryz.prog 182 #[.slice a n cp, .agg #[.int .i64 5, .int .i64 x, .int .i64 y, .int .i64 c, .int .i64 d]] W (Gives (.string T) W)) (w : World) (ht : Tab w) (h : TT w a n cp l) :
    Calls Tryz.prog 85 #[.slice a n cp, .agg #[.int .i64 5, .int .i64 x, .int .i64 y, .int .i64 c, .int .i64 d]] w (Gives (.tuple #[.string T, .int .i64 0]) w) := by
  have q1 := Lib.hid (fun W hW => rightVars_any a n cp l W hW)
  have q2 := Lib.hid (fun W => right_any 5 x y c d (n : Int) W)
  rw [hv] at q1
  rw [hr] at q2
  obtain ⟨W1, hW1⟩ : ∃ W1, W1 = w.alloc (.cells #[.int .i64 5, .int .i64 x, .int .i64 y, .int .i64 c, .int .i64 d] 73) := ⟨_, rfl⟩
  have BL := Lib.hid (show Below w.heap.size w W1 by rw [hW1]; exact box_below _ _ _)
  have HZ : Hid (Holds W1 w.heap.size 73 #[.int .i64 5, .int .i64 x, .int .i64 y, .int .i64 c, .int .i64 d]) := Lib.hid (by rw [hW1]; exact Holds.new w _ _)
  have T1 := Lib.hid (ht.on BL.out)
  have V := Lib.hid (h.below BL.out)
  have hW1' := Lib.hid hW1
  have hq' := Lib.hid hq
  have hn : (n : Int) ≤ 9223372036854775807 := by have := h.cap; have := h.max; unfold maxLen at this; omega
  have hix : ∀ W, (Instr.index 162 (.agg kindsA) (.int .i64 5)).run Tryz.prog W = .ok (.agg #[.func (.func 180) #[] #[], .func (.func 182) #[] #[]]) W := fun W => by kernel_rfl
  have hfd : ∀ W, (Instr.field 161 (.agg #[.func (.func 180) #[] #[], .func (.func 182) #[] #[]]) 1).run Tryz.prog W = .ok (.func (.func 182) #[] #[]) W := fun W => by kernel_rfl
  clear hW1 hq hv hr ht h
  go_enter Tryz.func85, Tryz.ntmps85
  go_wp2_with fail
  rw [← hW1'.out]
  with_reducible refine (q1.out W1 V.out).mono ?_
  rintro e u1 ⟨rfl, b1⟩
  replace HZ := Lib.hid (HZ.out.below b1 HZ.out.lt)
  replace V := Lib.hid (V.out.below b1)
  replace T1 := Lib.hid (T1.out.on b1)
  replace BL := Lib.hid (BL.out.trans (b1.mono BL.out.size))
  clear b1 hW1' q1
  have k0 := HZ.out.cell 0
  have k1 := HZ.out.cell 1
  have k2 := HZ.out.cell 2
  have k3 := HZ.out.cell 3
  have k4 := HZ.out.cell 4
  go_wp2_with fail
  refine (q2.out u1).mono ?_
  rintro e u2 ⟨rfl, b1⟩
  replace HZ := Lib.hid (HZ.out.below b1 HZ.out.lt)
  replace V := Lib.hid (V.out.below b1)
  replace T1 := Lib.hid (T1.out.on b1)
  replace BL := Lib.hid (BL.out.trans (b1.mono BL.out.size))
  clear b1 q2 k0 k1 k2 k3 k4
  go_wp2
  have g0 : ∀ W, Below u2.heap.size u2 W → W.cell? ⟨w.heap.size, 0, none⟩ = some (.int .i64 5) := fun W hW => (HZ.out.below hW HZ.out.lt).cell 0
  have g1 : ∀ W, Below u2.heap.size u2 W → W.cell? ⟨w.heap.size, 1, none⟩ = some (.int .i64 x) := fun W hW => (HZ.out.below hW HZ.out.lt).cell 1
  have g2 : ∀ W, Below u2.heap.size u2 W → W.cell? ⟨w.heap.size, 2, none⟩ = some (.int .i64 y) := fun W hW => (HZ.out.below hW HZ.out.lt).cell 2
  have g3 : ∀ W, Below u2.heap.size u2 W → W.cell? ⟨w.heap.size, 3, none⟩ = some (.int .i64 c) := fun W hW => (HZ.out.below hW HZ.out.lt).cell 3
  have g4 : ∀ W, Below u2.heap.size u2 W → W.cell? ⟨w.heap.size, 4, none⟩ = some (.int .i64 d) := fun W hW => (HZ.out.below hW HZ.out.lt).cell 4
  refine wp_drawn_on (fun W => Below u2.heap.size u2 W) (by kernel_rfl) ((Below.refl _ _).drew) (fun hHeld => ?_)
  refine wT 1 (v := ?v33) rfl (by kernel_rfl) (fun _ _ _ h => h) ?h33 (by assumption) ?r33
  case h33 => (intro w hSw; (try dsimp only at hSw); go_simp; try with_reducible rfl)
  refine wT 2 (v := ?v34) rfl (by kernel_rfl) (fun _ _ _ h => h) ?h34 (by assumption) ?r34
  case h34 => (intro w hSw; (try dsimp only at hSw); go_simp; try with_reducible rfl)
  refine wT 5 (v := ?v35) rfl (by kernel_rfl) (fun _ _ _ h => h) ?h35 (by assumption) ?r35
  case h35 => (intro w hSw; (try dsimp only at hSw); go_simp; try with_reducible rfl)
  refine wT 6 (v := ?v36) rfl (by kernel_rfl) (fun _ _ _ h => h) ?h36 (by assumption) ?r36
  case h36 => (intro w hSw; (try dsimp only at hSw); go_simp; try with_reducible rfl)
  try simp only [Act.put, List.setIfInBounds_toArray, List.set_cons_zero, List.set_cons_succ]
  refine wpAnyH_ready (rs := [0]) (by kernel_rfl) (by simp) ?_
  refine AllReadyH.cons (o := ⟨_, _, _, _, _, _⟩) rfl (fun K hK => ?_) AllReadyH.nil
  go_simp
  refine (kinds_any _).mono ?_
  rintro e t0 ⟨rfl, b0⟩
  go_simp
  refine hK.out _ _ (hHeld.trans (b0.mono hHeld.size)) (fun hHeld => ?_)
  clear hK K
  refine wT 3 (v := ?v37) rfl (by kernel_rfl) (fun _ _ _ h => h) ?h37 (by assumption) ?r37
  case h37 => (intro w hSw; (try dsimp only at hSw); go_simp; try with_reducible rfl)
  refine wT 4 (v := ?v38) rfl (by kernel_rfl) (fun _ _ _ h => h) ?h38 (by assumption) ?r38
  case h38 => (intro w hSw; (try dsimp only at hSw); go_simp; try with_reducible rfl)
  try simp only [Act.put, List.setIfInBounds_toArray, List.set_cons_zero, List.set_cons_succ]
  refine wpAnyH_ready (rs := [7]) (by kernel_rfl) (by simp) ?_
  refine AllReadyH.cons (o := ⟨_, _, _, _, _, _⟩) rfl (fun K hK => ?_) AllReadyH.nil
  go_simp
  refine (hq'.out _ (T1.out.on hHeld) (V.out.below hHeld)).mono ?_
  rintro e t7 ⟨rfl, b7⟩
  go_simp
  refine hK.out _ _ (hHeld.trans (b7.mono hHeld.size)) (fun hHeld => ?_)
  clear hK K
  refine wT 8 (v := ?v39) rfl (by kernel_rfl) (fun _ _ _ h => h) ?h39 (by assumption) ?r39
  case h39 => (intro w hSw; (try dsimp only at hSw); go_simp; try with_reducible rfl)
  refine wT 9 (v := ?v40) rfl (by kernel_rfl) (fun _ _ _ h => h) ?h40 (by assumption) ?r40
  case h40 => (intro w hSw; (try dsimp only at hSw); go_simp; try with_reducible rfl)
  try simp only [Act.put, List.setIfInBounds_toArray, List.set_cons_zero, List.set_cons_succ]
  refine wpAnyH_done (by kernel_rfl) ?_ _
  go_wp2
  go_ret2
  exact ⟨rfl, BL.out.trans (hHeld.mono BL.out.size)⟩
set_option maxRecDepth 100000 in
set_option maxHeartbeats 2000000 in
theorem pshow_any (a : Option Addr) (n cp : Nat) (l : List ByteArray) (k x y c d : Int) (w : World) (ht : Tab w) (h : TT w a n cp l) :
    Calls Tryz.prog 85 #[.slice a n cp, .agg #[.int .i64 k, .int .i64 x, .int .i64 y, .int .i64 c, .int .i64 d]] w (Gives (.tuple #[.string (showP l k x y c d), .int .i64 (showE l k x y c d)]) w) := by
  cases hv : varsB l
  · have hE : showE l k x y c d = 110 := by unfold showE; rw [hv]; rfl
    have hP : showP l k x y c d = ⟨#[]⟩ := by unfold showP; rw [hE]; rfl
    rw [hE, hP]
    have q1 := Lib.hid (fun W hW => rightVars_any a n cp l W hW)
    rw [hv] at q1
    obtain ⟨W1, hW1⟩ : ∃ W1, W1 = w.alloc (.cells #[.int .i64 k, .int .i64 x, .int .i64 y, .int .i64 c, .int .i64 d] 73) := ⟨_, rfl⟩
    have BL := Lib.hid (show Below w.heap.size w W1 by rw [hW1]; exact box_below _ _ _)
    have V := Lib.hid (h.below BL.out)
    have hW1' := Lib.hid hW1
    clear hE hP hv h ht hW1
    go_enter Tryz.func85, Tryz.ntmps85
    go_wp2_with fail
    rw [← hW1'.out]
    with_reducible refine (q1.out W1 V.out).mono ?_
    rintro e u1 ⟨rfl, b1⟩
    go_wp2
    go_ret2
    exact ⟨rfl, BL.out.trans (b1.mono BL.out.size)⟩
  cases hr : rightB k x y c d (n : Int)
  · have hE : showE l k x y c d = 111 := by unfold showE; rw [hv, if_pos rfl, ← h.len, hr]; rfl
    have hP : showP l k x y c d = ⟨#[]⟩ := by unfold showP; rw [hE]; rfl
    rw [hE, hP]
    have q1 := Lib.hid (fun W hW => rightVars_any a n cp l W hW)
    have q2 := Lib.hid (fun W => right_any k x y c d (n : Int) W)
    rw [hv] at q1
    rw [hr] at q2
    obtain ⟨W1, hW1⟩ : ∃ W1, W1 = w.alloc (.cells #[.int .i64 k, .int .i64 x, .int .i64 y, .int .i64 c, .int .i64 d] 73) := ⟨_, rfl⟩
    have BL := Lib.hid (show Below w.heap.size w W1 by rw [hW1]; exact box_below _ _ _)
    have HZ : Hid (Holds W1 w.heap.size 73 #[.int .i64 k, .int .i64 x, .int .i64 y, .int .i64 c, .int .i64 d]) := Lib.hid (by rw [hW1]; exact Holds.new w _ _)
    have V := Lib.hid (h.below BL.out)
    have hW1' := Lib.hid hW1
    clear hE hP hv hr h ht hW1
    go_enter Tryz.func85, Tryz.ntmps85
    go_wp2_with fail
    rw [← hW1'.out]
    with_reducible refine (q1.out W1 V.out).mono ?_
    rintro e u1 ⟨rfl, b1⟩
    replace HZ := Lib.hid (HZ.out.below b1 HZ.out.lt)
    replace BL := Lib.hid (BL.out.trans (b1.mono BL.out.size))
    clear b1 hW1' q1
    have k0 := HZ.out.cell 0
    have k1 := HZ.out.cell 1
    have k2 := HZ.out.cell 2
    have k3 := HZ.out.cell 3
    have k4 := HZ.out.cell 4
    go_wp2_with fail
    refine (q2.out u1).mono ?_
    rintro e u2 ⟨rfl, b1⟩
    clear k0 k1 k2 k3 k4
    go_wp2
    go_ret2
    exact ⟨rfl, BL.out.trans (b1.mono BL.out.size)⟩
  have hE : showE l k x y c d = 0 := by unfold showE; rw [hv, if_pos rfl, ← h.len, hr]; rfl
  have hP : showP l k x y c d = stmtT l k x y c d := by unfold showP; rw [if_pos hE]
  rw [hE, hP]
  have hl := vars_sz hv
  obtain rfl | rfl | rfl | rfl | rfl : k = 1 ∨ k = 2 ∨ k = 3 ∨ k = 4 ∨ k = 5 := by have := right_kind hr; omega
  · exact pshow_1 a n cp l x y c d _ hv hr (fun W _ _ => showSkip_any a n cp 1 x y c d W) w ht h
  · obtain ⟨r1, r2, r3, r4, r5, _⟩ := right_let hr
    exact pshow_2 a n cp l x y c d _ hv hr (fun W hT hW => showLet_any a n cp l hl 2 x y c d r1 r2 r3 r4 (by omega) W hT hW) w ht h
  · obtain ⟨r1, r2, _⟩ := right_any' hr
    exact pshow_3 a n cp l x y c d _ hv hr (fun W hT hW => showAny_any a n cp l hl 3 x y c d r1 r2 W hT hW) w ht h
  · obtain ⟨r1, r2, r3, r4, r5, _⟩ := right_diff (.inl rfl) hr
    exact pshow_4 a n cp l x y c d _ hv hr (fun W hT hW => showLimit_any a n cp l hl 4 x y c d r1 r2 r3 r4 r5 W hT hW) w ht h
  · obtain ⟨r1, r2, r3, r4, r5, _⟩ := right_diff (.inr rfl) hr
    exact pshow_5 a n cp l x y c d _ hv hr (fun W hT hW => showCheck_any a n cp l hl 5 x y c d r1 r2 r3 r4 r5 W hT hW) w ht h
end Go.Proofs.YtimgocfkogebmaaGreatDoor
namespace Go.Proofs.YtimgocfkogebmaaGreatDoor
open Go.RowKit
set_option linter.unusedVariables false
set_option linter.unusedSimpArgs false
def kindA (x y : Int) : Int := if y = 0 then 2 else if x = 0 then 3 else 1
def sevA (b : Bool) : Int := if b = true then 2 else 1
def trimT (s : ByteArray) : ByteArray := ⟨(Lib.trimPrefix s.data.toList (⟨#[99, 104, 101, 99, 107, 32]⟩ : ByteArray).data.toList).toArray⟩
def mayZ (n : Nat) (l : List Int) (e : EdgeD) : Bool := !decide (faultL n l e.k e.x e.y e.c = [])
def mustZ (n : Nat) (l : List Int) (e : EdgeD) : Bool := decide (postL n l e.k e.x e.y e.c e.d = []) && mayZ n l e
def alarmZ (D : PD) (l : List Int) (e : EdgeD) : AlD := ⟨kindA e.x e.y, sevA (mustZ D.vars.length l e), (D.spots.getD e.frm.toNat spot0).fn, (D.spots.getD e.frm.toNat spot0).file, (D.spots.getD e.frm.toNat spot0).line, trimT (showP D.vars e.k e.x e.y e.c e.d)⟩
set_option maxRecDepth 100000 in
theorem akind_any (k x y c d : Int) (w : World) : Calls Tryz.prog 86 #[.agg #[.int .i64 k, .int .i64 x, .int .i64 y, .int .i64 c, .int .i64 d]] w (Gives (.int .i64 (kindA x y)) w) := by
  have b0 := Lib.hid (box_below w #[.int .i64 k, .int .i64 x, .int .i64 y, .int .i64 c, .int .i64 d] 73)
  by_cases h1 : y = 0
  · have e : kindA x y = 2 := if_pos h1
    have e1 : (y == 0) = true := by simpa using h1
    rw [e]
    clear e h1
    go_enter Tryz.func86, Tryz.ntmps86
    go_wp2
    go_ret
    exact ⟨rfl, b0.out⟩
  have e1 : (y == 0) = false := by simpa using h1
  by_cases h2 : x = 0
  · have e : kindA x y = 3 := by unfold kindA; rw [if_neg h1, if_pos h2]
    have e2 : (x == 0) = true := by simpa using h2
    rw [e]
    clear e h1 h2
    go_enter Tryz.func86, Tryz.ntmps86
    go_wp2
    go_ret
    exact ⟨rfl, b0.out⟩
  have e2 : (x == 0) = false := by simpa using h2
  have e : kindA x y = 1 := by unfold kindA; rw [if_neg h1, if_neg h2]
  rw [e]
  clear e h1 h2
  go_enter Tryz.func86, Tryz.ntmps86
  go_wp2
  go_ret
  exact ⟨rfl, b0.out⟩
theorem asev_any (b : Bool) (w : World) : Calls Tryz.prog 87 #[.bool b] w (Tells (.int .i64 (sevA b)) w) := by
  cases b
  · go_enter Tryz.func87, Tryz.ntmps87
    go_wp2
    go_ret
    exact ⟨rfl, rfl⟩
  · go_enter Tryz.func87, Tryz.ntmps87
    go_wp2
    go_ret
    exact ⟨rfl, rfl⟩
theorem info_al : (Tryz.prog.info? 23).map (·.size) = some 6 := by kernel_rfl
theorem al_res2 {fn : Func} {p q : Tmp} (h : fn.results = #[.cell p 23, .tmp q]) (tmps : Array Value) (w : World) (g : Nat) (a1 a2 a3 a4 a5 a6 u : Value)
    (hp : tmps.getD p undef = .pointer (some ⟨g, 0, none⟩)) (hq : tmps.getD q undef = u) (hg : Holds w g 23 #[a1, a2, a3, a4, a5, a6]) : (results fn tmps).run Tryz.prog w = .ok (.tuple #[.agg #[a1, a2, a3, a4, a5, a6], u]) w := by
  rw [results_cell_tmp h, hp, hq]
  simp [asAddr, run_loadVar_row w g 23 23 #[a1, a2, a3, a4, a5, a6] (0, 0) _ hg Tryz.underlying23 rfl (by rw [info_al]; rfl), Result.andThen]
theorem al_ret2 {Q : Ending → World → Prop} {w : World} {g : Nat} {a1 a2 a3 a4 a5 a6 u : Value} (hg : Holds w g 23 #[a1, a2, a3, a4, a5, a6]) (hQ : Q (.returned (.tuple #[.agg #[a1, a2, a3, a4, a5, a6], u])) w) (act : Act) (f : Func) (n m : Nat) (hf : f.results = #[.cell n 23, .tmp m]) (ha : act.tmps.getD n undef = .pointer (some ⟨g, 0, none⟩)) (hm : act.tmps.getD m undef = u) (hd : act.defers = []) :
    bodyPost Tryz.prog f Q Exit.ret act w :=
  bodyPost_ret (al_res2 hf _ _ g a1 a2 a3 a4 a5 a6 u ha hm hg) hd hQ
theorem al_set {w : World} {g : Nat} {c1 c2 c3 c4 c5 c6 : Value} (h : Holds w g 23 #[c1, c2, c3, c4, c5, c6]) (a1 a2 a3 a4 a5 a6 : Value) :
    Holds ((((((w.setCell ⟨g, 0, none⟩ a1).setCell ⟨g, 1, none⟩ a2).setCell ⟨g, 2, none⟩ a3).setCell ⟨g, 3, none⟩ a4).setCell ⟨g, 4, none⟩ a5).setCell ⟨g, 5, none⟩ a6) g 23 #[a1, a2, a3, a4, a5, a6] ∧
    BelowE [g] w.heap.size w ((((((w.setCell ⟨g, 0, none⟩ a1).setCell ⟨g, 1, none⟩ a2).setCell ⟨g, 2, none⟩ a3).setCell ⟨g, 3, none⟩ a4).setCell ⟨g, 4, none⟩ a5).setCell ⟨g, 5, none⟩ a6) := by
  constructor
  · have := (((((h.set 0 a1).set 1 a2).set 2 a3).set 3 a4).set 4 a5).set 5 a6
    simp only [List.setIfInBounds_toArray, List.set_cons_zero, List.set_cons_succ] at this
    exact this
  · exact ((((((BelowE.refl _ _ _).setIn (p := ⟨g, 0, none⟩) (by simp) _).setIn (p := ⟨g, 1, none⟩) (by simp) _).setIn (p := ⟨g, 2, none⟩) (by simp) _).setIn (p := ⟨g, 3, none⟩) (by simp) _).setIn (p := ⟨g, 4, none⟩) (by simp) _).setIn (p := ⟨g, 5, none⟩) (by simp) _
def AskOK (n : Nat) (l : List Int) (k x y c d : Int) (mb ub : Bool) : Prop := ∀ W a m ca, SL W a m ca l →
  Calls Tryz.prog 84 #[.agg #[.int .i64 n, .slice a m ca], .agg #[.int .i64 k, .int .i64 x, .int .i64 y, .int .i64 c, .int .i64 d]] W (Gives (.bool mb) W) ∧
  Calls Tryz.prog 88 #[.agg #[.int .i64 n, .slice a m ca], .agg #[.int .i64 k, .int .i64 x, .int .i64 y, .int .i64 c, .int .i64 d]] W (Gives (.bool ub) W)
def OfE (A : AlD) (b : Bool) (w : World) (e : Ending) (w' : World) : Prop := e = .returned (.tuple #[.agg #[.int .i64 A.kind, .int .i64 A.sev, .string A.fn, .string A.file, .int .i64 A.line, .string A.expr], .bool b]) ∧ Below w.heap.size w w'
set_option maxRecDepth 100000 in
set_option maxHeartbeats 8000000 in
theorem aof_any (p : PV) (D : PD) (a : Option Addr) (n cc : Nat) (L : List (Int × List Int)) (f : Nat) (ds k x y c d : Int) (l : List Int) (w : World) (h : PrA w p D) (hl : ZRow w a n cc L) (ht : Tab w)
    (hf : f < n) (hf2 : f < p.n2) (hz : L.getD f zd0 = ((p.n1 : Int), l)) (hask : AskOK p.n1 l k x y c d (mayZ p.n1 l ⟨f, ds, k, x, y, c, d⟩) (mustZ p.n1 l ⟨f, ds, k, x, y, c, d⟩)) :
    Calls Tryz.prog 45 #[.agg #[.string p.nm, .slice p.a1 p.n1 p.c1, .slice p.a2 p.n2 p.c2, .slice p.a3 p.n3 p.c3], .slice a n cc, .agg #[.int .i64 f, .int .i64 ds, .int .i64 k, .int .i64 x, .int .i64 y, .int .i64 c, .int .i64 d]] w
      (OfE (if mayZ p.n1 l ⟨f, ds, k, x, y, c, d⟩ = true then alarmZ D l ⟨f, ds, k, x, y, c, d⟩ else al0) (mayZ p.n1 l ⟨f, ds, k, x, y, c, d⟩) w) := by
  have hff : (f : Int) < (n : Int) := by omega
  have hff2 : (f : Int) < (p.n2 : Int) := by omega
  have hm2 : (p.n2 : Int) ≤ 9223372036854775807 := by have := h.spots.max'; omega
  have hmn : (n : Int) ≤ 9223372036854775807 := by have := hl.max'; omega
  have hT := Lib.hid ht
  have hP := Lib.hid h
  have q1 := Lib.hid (fun W a m ca hW => (hask W a m ca hW).1)
  have q2 := Lib.hid (fun W a m ca hW => (hask W a m ca hW).2)
  clear hask
  have q3 := Lib.hid (fun W (hW : Tab W) (hv : TT W p.a1 p.n1 p.c1 D.vars) => pshow_any p.a1 p.n1 p.c1 D.vars k x y c d W hW hv)
  have q4 := Lib.hid (fun W => akind_any k x y c d W)
  have q5 := Lib.hid (fun b W => asev_any b W)
  have q6 : Hid (∀ W, Calls Tryz.prog 89 #[.string (showP D.vars k x y c d), .string ⟨#[99, 104, 101, 99, 107, 32]⟩] W (fun e w' => e = .returned (.string (trimT (showP D.vars k x y c d))) ∧ w' = W)) := Lib.hid (fun W => Tryz.strings_TrimPrefix _ _ W)
  have hA : Hid (alarmZ D l ⟨f, ds, k, x, y, c, d⟩ = ⟨kindA x y, sevA (mustZ p.n1 l ⟨f, ds, k, x, y, c, d⟩), (D.spots.getD f spot0).fn, (D.spots.getD f spot0).file, (D.spots.getD f spot0).line, trimT (showP D.vars k x y c d)⟩) := Lib.hid (by unfold alarmZ; rw [← h.vars.len]; rfl)
  generalize trimT (showP D.vars k x y c d) = TX at *
  generalize showP D.vars k x y c d = SP at *
  generalize showE D.vars k x y c d = SE at *
  generalize mayZ p.n1 l ⟨f, ds, k, x, y, c, d⟩ = mb at *
  generalize mustZ p.n1 l ⟨f, ds, k, x, y, c, d⟩ = ub at *
  generalize kindA x y = kd at *
  generalize hAe : alarmZ D l ⟨f, ds, k, x, y, c, d⟩ = AZ at *
  clear hAe
  obtain ⟨AR, hAR⟩ : ∃ AR, AR = (if mb = true then AZ else al0) := ⟨_, rfl⟩
  rw [← hAR]
  replace hAR := Lib.hid hAR
  obtain ⟨b, off, za, zm, zc, rfl, hbl, x0, x1, hs⟩ := hl.at_ hf
  rw [hz] at x0 hs
  dsimp only at x0 hs
  obtain ⟨b', off', he', hbl', y0, y1, y2⟩ := spots_at h.spots hf2
  have hsp := Lib.hid he'
  generalize D.spots.getD f spot0 = sp at *
  obtain ⟨sf, sfi, sl⟩ := sp
  dsimp only at y0 y1 y2 hA
  obtain ⟨pnm, pa1, pn1, pc1, pa2, pn2, pc2, pa3, pn3, pc3⟩ := p
  dsimp only at *
  subst he'
  obtain ⟨W1, hW1⟩ : ∃ W1, W1 = ((w.alloc (.cells #[.string pnm, .slice pa1 pn1 pc1, .slice (some ⟨b', off', none⟩) pn2 pc2, .slice pa3 pn3 pc3] 38)).alloc (.cells #[.int .i64 f, .int .i64 ds, .int .i64 k, .int .i64 x, .int .i64 y, .int .i64 c, .int .i64 d] 75)).alloc (.cells #[.int .i64 0, .int .i64 0, .string ⟨#[]⟩, .string ⟨#[]⟩, .int .i64 0, .string ⟨#[]⟩] 23) := ⟨_, rfl⟩
  have hW1z : W1.heap.size = w.heap.size + 1 + 1 + 1 := by rw [hW1]; simp
  have HP : Holds W1 w.heap.size 38 #[.string pnm, .slice pa1 pn1 pc1, .slice (some ⟨b', off', none⟩) pn2 pc2, .slice pa3 pn3 pc3] := by rw [hW1]; exact ((Holds.new w _ _).alloc _).alloc _
  have HE : Holds W1 (w.heap.size + 1) 75 #[.int .i64 f, .int .i64 ds, .int .i64 k, .int .i64 x, .int .i64 y, .int .i64 c, .int .i64 d] := by
    rw [hW1]
    have := (Holds.new (w.alloc (.cells #[.string pnm, .slice pa1 pn1 pc1, .slice (some ⟨b', off', none⟩) pn2 pc2, .slice pa3 pn3 pc3] 38)) 75 #[.int .i64 f, .int .i64 ds, .int .i64 k, .int .i64 x, .int .i64 y, .int .i64 c, .int .i64 d]).alloc (.cells #[.int .i64 0, .int .i64 0, .string ⟨#[]⟩, .string ⟨#[]⟩, .int .i64 0, .string ⟨#[]⟩] 23)
    simpa using this
  have HA : Holds W1 (w.heap.size + 1 + 1) 23 #[.int .i64 0, .int .i64 0, .string ⟨#[]⟩, .string ⟨#[]⟩, .int .i64 0, .string ⟨#[]⟩] := by
    rw [hW1]
    have := Holds.new ((w.alloc (.cells #[.string pnm, .slice pa1 pn1 pc1, .slice (some ⟨b', off', none⟩) pn2 pc2, .slice pa3 pn3 pc3] 38)).alloc (.cells #[.int .i64 f, .int .i64 ds, .int .i64 k, .int .i64 x, .int .i64 y, .int .i64 c, .int .i64 d] 75)) 23 #[.int .i64 0, .int .i64 0, .string ⟨#[]⟩, .string ⟨#[]⟩, .int .i64 0, .string ⟨#[]⟩]
    simpa using this
  have B1 : Below w.heap.size w W1 := by rw [hW1]; exact ((box_below w _ _).alloc (by simp) _).alloc (by simp; omega) _
  have x0' := (B1.cell (p := ⟨b, off + f * 2, none⟩) hbl).trans x0
  have x1' := (B1.cell (p := ⟨b, off + f * 2 + 1, none⟩) hbl).trans x1
  rw [hW1] at x0' x1'
  obtain ⟨W2, hW2⟩ : ∃ W2, W2 = W1.alloc (.cells #[.int .i64 pn1, .slice za zm zc] 51) := ⟨_, rfl⟩
  have b2 : Below W1.heap.size W1 W2 := by rw [hW2]; exact box_below _ _ _
  have HZ : Holds W2 (w.heap.size + 1 + 1 + 1) 51 #[.int .i64 pn1, .slice za zm zc] := by rw [hW2, ← hW1z]; exact Holds.new _ _ _
  replace HP := Lib.hid (HP.below b2 HP.lt)
  replace HE := Lib.hid (HE.below b2 HE.lt)
  replace HA := Lib.hid (HA.below b2 HA.lt)
  replace HZ := Lib.hid HZ
  have BL := Lib.hid (B1.trans (b2.mono B1.size))
  rw [hW1] at hW2
  have hW2' := Lib.hid hW2
  have SZ := Lib.hid (hs.below BL.out)
  have hs0 := Lib.hid hs
  have y0' := Lib.hid (fun W (hW : Below w.heap.size w W) => (hW.cell (p := ⟨b', off' + f * 3, none⟩) hbl').trans y0)
  have y1' := Lib.hid (fun W (hW : Below w.heap.size w W) => (hW.cell (p := ⟨b', off' + f * 3 + 1, none⟩) hbl').trans y1)
  have y2' := Lib.hid (fun W (hW : Below w.heap.size w W) => (hW.cell (p := ⟨b', off' + f * 3 + 2, none⟩) hbl').trans y2)
  clear hW1 hW1z hW2 b2 B1 x0 x1 y0 y1 y2 hs h ht hl hsp
  go_enter Tryz.func45, Tryz.ntmps45
  go_wp2_with fail
  rw [← hW2'.out]
  with_reducible refine (q1.out _ _ _ _ SZ.out).mono ?_
  rintro e w1 ⟨rfl, b1⟩
  have b1' := b1
  replace HP := Lib.hid (HP.out.below b1 HP.out.lt)
  replace HE := Lib.hid (HE.out.below b1 HE.out.lt)
  replace HA := Lib.hid (HA.out.below b1 HA.out.lt)
  replace HZ := Lib.hid (HZ.out.below b1 HZ.out.lt)
  replace BL := Lib.hid (BL.out.trans (b1.mono BL.out.size))
  clear b1 b1' q1 x0' x1' hW2' SZ
  have a0 := HA.out.cell 0
  have a1 := HA.out.cell 1
  have a2 := HA.out.cell 2
  have a3 := HA.out.cell 3
  have a4 := HA.out.cell 4
  have a5 := HA.out.cell 5
  have f0 := HA.out.free 0
  have f1 := HA.out.free 1
  have f2 := HA.out.free 2
  have f3 := HA.out.free 3
  have f4 := HA.out.free 4
  have f5 := HA.out.free 5
  simp at a0 a1 a2 a3 a4 a5
  have hgw : w.heap.size ≤ w.heap.size + 1 + 1 := by omega
  cases mb
  · have hr : AR = al0 := by rw [hAR.out]; rfl
    clear hAR
    subst hr
    have hfin := Lib.hid (al_set HA.out (.int .i64 0) (.int .i64 0) (.string ⟨#[]⟩) (.string ⟨#[]⟩) (.int .i64 0) (.string ⟨#[]⟩))
    go_wp2
    exact al_ret2 hfin.out.1 ⟨rfl, BL.out.trans (below_of (hfin.out.2.mono BL.out.size) (by intro x hx; simp at hx; omega))⟩ _ _ 6 7 rfl rfl rfl rfl
  · have hr : AR = ⟨kd, sevA ub, sf, sfi, sl, TX⟩ := by rw [hAR.out, ← hA.out]; rfl
    clear hAR hA a0 a1 a2 a3 a4 a5 f0 f1 f2 f3 f4 f5
    subst hr
    have p2 := HP.out.cell 2
    have e0 := HE.out.cell 0
    simp at p2 e0
    have y0 := y0'.out w1 BL.out
    have y1 := y1'.out w1 BL.out
    have y2 := y2'.out w1 BL.out
    have b3 := box_below w1 #[.string sf, .string sfi, .int .i64 sl] 80
    have p1 := (HP.out.below b3 HP.out.lt).cell 1
    have e2 := (HE.out.below b3 HE.out.lt).cell 2
    have e3 := (HE.out.below b3 HE.out.lt).cell 3
    have e4 := (HE.out.below b3 HE.out.lt).cell 4
    have e5 := (HE.out.below b3 HE.out.lt).cell 5
    have e6 := (HE.out.below b3 HE.out.lt).cell 6
    simp at p1 e2 e3 e4 e5 e6
    obtain ⟨W3, hW3⟩ : ∃ W3, W3 = w1.alloc (.cells #[.string sf, .string sfi, .int .i64 sl] 80) := ⟨_, rfl⟩
    have HS := Lib.hid (show Holds W3 w1.heap.size 80 #[.string sf, .string sfi, .int .i64 sl] by rw [hW3]; exact Holds.new _ _ _)
    rw [← hW3] at b3
    have HA3 := HA.out.below b3 HA.out.lt
    have HE3 := HE.out.below b3 HE.out.lt
    have HZ3 := HZ.out.below b3 HZ.out.lt
    have BL3 := BL.out.trans (b3.mono BL.out.size)
    have hlw := BL.out.size
    have hag := HA.out.lt
    have hW3' := Lib.hid hW3
    have qs := Lib.hid (q3.out W3 (hT.out.on BL3) (hP.out.below BL3).vars)
    have S3 := Lib.hid (hs0.out.below BL3)
    clear hW3 b3 q3 HP HE HA HZ y0' y1' y2'
    go_wp2_with fail
    rw [← hW3'.out]
    with_reducible refine qs.out.mono ?_
    rintro e w2 ⟨rfl, b4⟩
    have A2 := Lib.hid (HA3.below b4 HA3.lt)
    have E2 := Lib.hid (HE3.below b4 HE3.lt)
    have Z2 := Lib.hid (HZ3.below b4 HZ3.lt)
    have S2 := Lib.hid (HS.out.below b4 HS.out.lt)
    have SL2 := Lib.hid (S3.out.below b4)
    have BL2 := Lib.hid (BL3.trans (b4.mono BL3.size))
    clear b4 qs HA3 HE3 HZ3 BL3 HS S3 hW3' p1 p2 e0 e2 e3 e4 e5 e6 y0 y1 y2 BL
    have hld : ∀ g T (cs : Array Value) i, Holds w2 g T cs → g ≠ w.heap.size + 1 + 1 → ∀ W, BelowE [w.heap.size + 1 + 1] w2.heap.size w2 W → W.cell? ⟨g, i, none⟩ = cs[i]? := fun g T cs i h hne W hW => (hW.cell (p := ⟨g, i, none⟩) h.lt (by simpa using hne)).trans (h.cell i)
    have e2 := hld _ _ _ 2 E2.out (by omega)
    have e3 := hld _ _ _ 3 E2.out (by omega)
    have e4 := hld _ _ _ 4 E2.out (by omega)
    have e5 := hld _ _ _ 5 E2.out (by omega)
    have e6 := hld _ _ _ 6 E2.out (by omega)
    have z0 := hld _ _ _ 0 Z2.out (by omega)
    have z1 := hld _ _ _ 1 Z2.out (by omega)
    have s0 := hld _ _ _ 0 S2.out (by omega)
    have s1 := hld _ _ _ 1 S2.out (by omega)
    have s2 := hld _ _ _ 2 S2.out (by omega)
    simp at e2 e3 e4 e5 e6 z0 z1 s0 s1 s2
    clear hld
    have q5' := Lib.hid (q5.out ub)
    generalize sevA ub = sv at *
    go_wp2
    refine wp_drawn_on (fun W => BelowE [w.heap.size + 1 + 1] w2.heap.size w2 W) (by kernel_rfl) ((BelowE.refl _ _ _).drew) (fun hHeld => ?_)
    refine wT 0 (v := ?v1) rfl (by kernel_rfl) (fun _ _ _ h => h) ?h1 (by assumption) ?r1
    case h1 => (intro w hSw; (try dsimp only at hSw); go_simp; try with_reducible rfl)
    refine wT 1 (v := ?v2) rfl (by kernel_rfl) (fun _ _ _ h => h) ?h2 (by assumption) ?r2
    case h2 => (intro w hSw; (try dsimp only at hSw); go_simp; try with_reducible rfl)
    refine wT 3 (v := ?v3) rfl (by kernel_rfl) (fun _ _ _ h => h) ?h3 (by assumption) ?r3
    case h3 => (intro w hSw; (try dsimp only at hSw); go_simp; try with_reducible rfl)
    refine wT 4 (v := ?v4) rfl (by kernel_rfl) (fun _ _ _ h => h) ?h4 (by assumption) ?r4
    case h4 => (intro w hSw; (try dsimp only at hSw); go_simp; try with_reducible rfl)
    refine wT 5 (v := ?v5) rfl (by kernel_rfl) (fun _ _ _ h => h) ?h5 (by assumption) ?r5
    case h5 => (intro w hSw; (try dsimp only at hSw); go_simp; try with_reducible rfl)
    refine wT 8 (v := ?v6) rfl (by kernel_rfl) (fun _ _ _ h => h) ?h6 (by assumption) ?r6
    case h6 => (intro w hSw; (try dsimp only at hSw); go_simp; try with_reducible rfl)
    refine wT 9 (v := ?v7) rfl (by kernel_rfl) (fun _ _ _ h => h) ?h7 (by assumption) ?r7
    case h7 => (intro w hSw; (try dsimp only at hSw); go_simp; try with_reducible rfl)
    refine wT 10 (v := ?v8) rfl (by kernel_rfl) (fun _ _ _ h => h) ?h8 (by assumption) ?r8
    case h8 => (intro w hSw; (try dsimp only at hSw); go_simp; try with_reducible rfl)
    refine wT 11 (v := ?v9) rfl (by kernel_rfl) (fun _ _ _ h => h) ?h9 (by assumption) ?r9
    case h9 => (intro w hSw; (try dsimp only at hSw); go_simp; try with_reducible rfl)
    refine wT 12 (v := ?v10) rfl (by kernel_rfl) (fun _ _ _ h => h) ?h10 (by assumption) ?r10
    case h10 => (intro w hSw; (try dsimp only at hSw); go_simp; try with_reducible rfl)
    refine wT 13 (v := ?v11) rfl (by kernel_rfl) (fun _ _ _ h => h) ?h11 (by assumption) ?r11
    case h11 => (intro w hSw; (try dsimp only at hSw); go_simp; try with_reducible rfl)
    refine wT 14 (v := ?v12) rfl (by kernel_rfl) (fun _ _ _ h => h) ?h12 (by assumption) ?r12
    case h12 => (intro w hSw; (try dsimp only at hSw); go_simp; try with_reducible rfl)
    try simp only [Act.put, List.setIfInBounds_toArray, List.set_cons_zero, List.set_cons_succ]
    refine wpAnyH_ready (rs := [2]) (by kernel_rfl) (by simp) ?_
    refine AllReadyH.cons (o := ⟨_, _, _, _, _, _⟩) rfl (fun K hK => ?_) AllReadyH.nil
    go_simp
    with_reducible refine (q4.out _).mono ?_
    rintro e w3 ⟨rfl, b3⟩
    have A3 := Holds.below (w := w2.drew) A2.out b3 A2.out.lt
    have SL3 := SL.below (w := w2.drew) (SL2.out.drewN 1) b3
    go_simp
    refine hK.out _ _ (hHeld.trans (BelowE.of (b3.mono hHeld.size))) (fun hHeld => ?_)
    clear hK K
    try simp only [Act.put, List.setIfInBounds_toArray, List.set_cons_zero, List.set_cons_succ]
    refine wpAnyH_ready (rs := [6]) (by kernel_rfl) (by simp) ?_
    refine AllReadyH.cons (o := ⟨_, _, _, _, _, _⟩) rfl (fun K hK => ?_) AllReadyH.nil
    go_simp
    with_reducible refine (q2.out _ _ _ _ SL3).mono ?_
    rintro e w4 ⟨rfl, b4⟩
    have A4 := A3.below b4 A3.lt
    go_simp
    refine hK.out _ _ (hHeld.trans (BelowE.of (b4.mono hHeld.size))) (fun hHeld => ?_)
    clear hK K
    try simp only [Act.put, List.setIfInBounds_toArray, List.set_cons_zero, List.set_cons_succ]
    refine wpAnyH_ready (rs := [7]) (by kernel_rfl) (by simp) ?_
    refine AllReadyH.cons (o := ⟨_, _, _, _, _, _⟩) rfl (fun K hK => ?_) AllReadyH.nil
    go_simp
    with_reducible refine (q5'.out _).mono ?_
    rintro e w5 ⟨rfl, rfl⟩
    go_simp
    refine hK.out _ _ (hHeld) (fun hHeld => ?_)
    clear hK K
    try simp only [Act.put, List.setIfInBounds_toArray, List.set_cons_zero, List.set_cons_succ]
    refine wpAnyH_ready (rs := [15]) (by kernel_rfl) (by simp) ?_
    refine AllReadyH.cons (o := ⟨_, _, _, _, _, _⟩) rfl (fun K hK => ?_) AllReadyH.nil
    go_simp
    with_reducible refine (q6.out _).mono ?_
    rintro e w6 ⟨rfl, rfl⟩
    go_simp
    refine hK.out _ _ (hHeld) (fun hHeld => ?_)
    clear hK K
    refine wT 16 (v := ?v13) rfl (by kernel_rfl) (fun _ _ _ h => h) ?h13 (by assumption) ?r13
    case h13 => (intro w hSw; (try dsimp only at hSw); go_simp; try with_reducible rfl)
    try simp only [Act.put, List.setIfInBounds_toArray, List.set_cons_zero, List.set_cons_succ]
    refine wpAnyH_ready (rs := [17]) (by kernel_rfl) (by simp) ?_
    refine AllReadyH.cons (o := ⟨_, _, _, _, _, _⟩) rfl (fun K hK => ?_) AllReadyH.nil
    go_simp
    have hfin := al_set A4 (.int .i64 kd) (.int .i64 sv) (.string sf) (.string sfi) (.int .i64 sl) (.string TX)
    have a0 := A4.cell 0
    have a1 := A4.cell 1
    have a2 := A4.cell 2
    have a3 := A4.cell 3
    have a4 := A4.cell 4
    have a5 := A4.cell 5
    have f0 := A4.free 0
    have f1 := A4.free 1
    have f2 := A4.free 2
    have f3 := A4.free 3
    have f4 := A4.free 4
    have f5 := A4.free 5
    simp at a0 a1 a2 a3 a4 a5
    go_simp
    generalize ((((((w6.setCell ⟨w.heap.size + 1 + 1, 0, none⟩ (.int .i64 kd)).setCell ⟨w.heap.size + 1 + 1, 1, none⟩ (.int .i64 sv)).setCell ⟨w.heap.size + 1 + 1, 2, none⟩ (.string sf)).setCell ⟨w.heap.size + 1 + 1, 3, none⟩ (.string sfi)).setCell ⟨w.heap.size + 1 + 1, 4, none⟩ (.int .i64 sl)).setCell ⟨w.heap.size + 1 + 1, 5, none⟩ (.string TX)) = w7 at hfin ⊢
    refine hK.out _ _ (hHeld.trans (hfin.2.mono hHeld.size)) (fun hHeld => ?_)
    clear hK K
    refine wT 18 (v := ?v14) rfl (by kernel_rfl) (fun _ _ _ h => h) ?h14 (by assumption) ?r14
    case h14 => (intro w hSw; (try dsimp only at hSw); go_simp; try with_reducible rfl)
    try simp only [Act.put, List.setIfInBounds_toArray, List.set_cons_zero, List.set_cons_succ]
    refine wpAnyH_done (by kernel_rfl) ?_ _
    have hB7 := BL2.out.trans (below_of (hHeld.mono BL2.out.size) (by intro x hx; simp at hx; omega))
    go_wp2
    exact al_ret2 hfin.1 ⟨rfl, hB7⟩ _ _ 6 7 rfl rfl rfl rfl
end Go.Proofs.YtimgocfkogebmaaGreatDoor
namespace Go.Proofs.YtimgocfkogebmaaGreatDoor
open Go.RowKit
set_option linter.unusedVariables false
set_option linter.unusedSimpArgs false
def edgeL (L : List (Int × List Int)) (e : EdgeD) : List Int := (L.getD e.frm.toNat zd0).2
def alarmsA (D : PD) (L : List (Int × List Int)) (es : List EdgeD) : List AlD := (es.filter fun e => mayZ D.vars.length (edgeL L e) e).map fun e => alarmZ D (edgeL L e) e
theorem alarmsA_snoc (D : PD) (L : List (Int × List Int)) (es : List EdgeD) (e : EdgeD) : alarmsA D L (es ++ [e]) = alarmsA D L es ++ (if mayZ D.vars.length (edgeL L e) e = true then [alarmZ D (edgeL L e) e] else []) := by
  unfold alarmsA
  rw [List.filter_append, List.map_append]
  congr 1
  cases h : mayZ D.vars.length (edgeL L e) e <;> simp [h]
theorem alarmsA_len (D : PD) (L : List (Int × List Int)) (es : List EdgeD) : (alarmsA D L es).length ≤ es.length := by
  unfold alarmsA
  rw [List.length_map]
  exact List.length_filter_le _ _
theorem edge_facts {D : PD} {L : List (Int × List Int)} (h : chkZ D L = 0) {i : Nat} (hi : i < D.edges.length) :
    ∃ f : Nat, (D.edges.getD i edge0).frm = f ∧ f < D.spots.length ∧ f < L.length ∧ L.getD f zd0 = ((D.vars.length : Int), edgeL L (D.edges.getD i edge0)) ∧ IsZ D.vars.length (edgeL L (D.edges.getD i edge0)) ∧ rightB (D.edges.getD i edge0).k (D.edges.getD i edge0).x (D.edges.getD i edge0).y (D.edges.getD i edge0).c (D.edges.getD i edge0).d (D.vars.length : Int) = true := by
  unfold chkZ at h
  by_cases hp : progB D = true
  · rw [if_pos hp] at h
    by_cases hz : (decide (L.length = D.spots.length) && L.all (zoneB D.vars.length)) = true
    · rw [Bool.and_eq_true, decide_eq_true_eq] at hz
      unfold progB at hp
      simp only [Bool.and_eq_true] at hp
      obtain ⟨-, -, -, -, he⟩ := hp
      have he1 := List.all_eq_true.1 he (D.edges.getD i edge0) (by simp [List.getD, hi])
      unfold edgeB pointB at he1
      simp only [Bool.and_eq_true, decide_eq_true_eq] at he1
      obtain ⟨h1, -, h3⟩ := he1
      obtain ⟨h4, h5⟩ := h1
      have hf : (D.edges.getD i edge0).frm = ((D.edges.getD i edge0).frm.toNat : Int) := by omega
      have hfl : (D.edges.getD i edge0).frm.toNat < L.length := by omega
      have hz1 := List.all_eq_true.1 hz.2 (L.getD (D.edges.getD i edge0).frm.toNat zd0) (by rw [List.getD_eq_getElem?_getD, List.getElem?_eq_getElem hfl]; exact List.getElem_mem hfl)
      unfold zoneB at hz1
      rw [Bool.and_eq_true, decide_eq_true_eq] at hz1
      obtain ⟨k, hk, hk2⟩ := isZ_of hz1.2
      have hkn : k = D.vars.length := by omega
      subst hkn
      exact ⟨_, hf, by omega, hfl, Prod.ext hz1.1 rfl, hk2, h3⟩
    · rw [if_neg hz] at h
      cases h
  · rw [if_neg hp] at h
    cases h
set_option maxRecDepth 100000 in
set_option maxHeartbeats 4000000 in
theorem aedge_bad (p : PV) (D : PD) (a : Option Addr) (n cc : Nat) (L : List (Int × List Int)) (i : Int) (w : World) (h : PrA w p D) (hl : ZRow w a n cc L) (hb : chkZ D L ≠ 0 ∨ i < 0 ∨ (p.n3 : Int) ≤ i) :
    Calls Tryz.prog 20 #[.agg #[.string p.nm, .slice p.a1 p.n1 p.c1, .slice p.a2 p.n2 p.c2, .slice p.a3 p.n3 p.c3], .slice a n cc, .int .i64 i] w (OfE al0 false w) := by
  have q1 := Lib.hid (fun W hW hlW => amay_any p D a n cc L W hW hlW)
  have hm3 : (p.n3 : Int) ≤ 9223372036854775807 := by have := h.edges.max'; omega
  obtain ⟨W1, hW1⟩ : ∃ W1, W1 = (w.alloc (.cells #[.string p.nm, .slice p.a1 p.n1 p.c1, .slice p.a2 p.n2 p.c2, .slice p.a3 p.n3 p.c3] 38)).alloc (.cells #[.int .i64 0, .int .i64 0, .string ⟨#[]⟩, .string ⟨#[]⟩, .int .i64 0, .string ⟨#[]⟩] 23) := ⟨_, rfl⟩
  have HP : Holds W1 w.heap.size 38 #[.string p.nm, .slice p.a1 p.n1 p.c1, .slice p.a2 p.n2 p.c2, .slice p.a3 p.n3 p.c3] := by rw [hW1]; exact (Holds.new w _ _).alloc _
  have HA : Holds W1 (w.heap.size + 1) 23 #[.int .i64 0, .int .i64 0, .string ⟨#[]⟩, .string ⟨#[]⟩, .int .i64 0, .string ⟨#[]⟩] := by
    rw [hW1]
    have := Holds.new (w.alloc (.cells #[.string p.nm, .slice p.a1 p.n1 p.c1, .slice p.a2 p.n2 p.c2, .slice p.a3 p.n3 p.c3] 38)) 23 #[.int .i64 0, .int .i64 0, .string ⟨#[]⟩, .string ⟨#[]⟩, .int .i64 0, .string ⟨#[]⟩]
    simpa using this
  have BL := Lib.hid (show Below w.heap.size w W1 by rw [hW1]; exact (box_below w _ _).alloc (by simp) _)
  have P := Lib.hid (h.below BL.out)
  have Z := Lib.hid (hl.below BL.out)
  have hW1' := Lib.hid hW1
  clear hW1 h hl
  go_enter Tryz.func20, Tryz.ntmps20
  go_wp2_with fail
  rw [← hW1'.out]
  with_reducible refine (q1.out _ P.out Z.out).mono ?_
  rintro e w1 ⟨rfl, b1⟩
  have HP1 := HP.below b1 HP.lt
  have HA1 := HA.below b1 HA.lt
  replace BL := Lib.hid (BL.out.trans (b1.mono BL.out.size))
  have k3 := HP1.cell 3
  have a0 := HA1.cell 0
  have a1 := HA1.cell 1
  have a2 := HA1.cell 2
  have a3 := HA1.cell 3
  have a4 := HA1.cell 4
  have a5 := HA1.cell 5
  have f0 := HA1.free 0
  have f1 := HA1.free 1
  have f2 := HA1.free 2
  have f3 := HA1.free 3
  have f4 := HA1.free 4
  have f5 := HA1.free 5
  have hfin := Lib.hid (al_set HA1 (.int .i64 0) (.int .i64 0) (.string ⟨#[]⟩) (.string ⟨#[]⟩) (.int .i64 0) (.string ⟨#[]⟩))
  simp at k3 a0 a1 a2 a3 a4 a5
  clear b1 q1 P Z hW1' HP HA HP1 HA1
  generalize chkZ D L = E at *
  by_cases hE : E = 0
  · subst hE
    by_cases hi : i < 0
    · clear hb
      go_wp2
      exact al_ret2 hfin.out.1 ⟨rfl, BL.out.trans (below_of (hfin.out.2.mono BL.out.size) (by intro x hx; simp at hx; omega))⟩ _ _ 6 7 rfl rfl rfl rfl
    · have hi2 : (p.n3 : Int) ≤ i := by omega
      clear hb
      go_wp2
      exact al_ret2 hfin.out.1 ⟨rfl, BL.out.trans (below_of (hfin.out.2.mono BL.out.size) (by intro x hx; simp at hx; omega))⟩ _ _ 6 7 rfl rfl rfl rfl
  · have hEb : (E != 0) = true := by simpa using hE
    clear hb hE
    go_wp2
    exact al_ret2 hfin.out.1 ⟨rfl, BL.out.trans (below_of (hfin.out.2.mono BL.out.size) (by intro x hx; simp at hx; omega))⟩ _ _ 6 7 rfl rfl rfl rfl
def AsksOK (D : PD) (L : List (Int × List Int)) : Prop := ∀ i, i < D.edges.length → AskOK D.vars.length (edgeL L (D.edges.getD i edge0)) (D.edges.getD i edge0).k (D.edges.getD i edge0).x (D.edges.getD i edge0).y (D.edges.getD i edge0).c (D.edges.getD i edge0).d (mayZ D.vars.length (edgeL L (D.edges.getD i edge0)) (D.edges.getD i edge0)) (mustZ D.vars.length (edgeL L (D.edges.getD i edge0)) (D.edges.getD i edge0))
def edgeA (D : PD) (L : List (Int × List Int)) (e : EdgeD) : AlD := if mayZ D.vars.length (edgeL L e) e = true then alarmZ D (edgeL L e) e else al0
set_option maxRecDepth 100000 in
set_option maxHeartbeats 4000000 in
theorem aedge_ok (p : PV) (D : PD) (a : Option Addr) (n cc : Nat) (L : List (Int × List Int)) (i : Nat) (w : World) (h : PrA w p D) (hl : ZRow w a n cc L) (ht : Tab w) (hb : chkZ D L = 0) (hask : AsksOK D L) (hi : i < p.n3) :
    Calls Tryz.prog 20 #[.agg #[.string p.nm, .slice p.a1 p.n1 p.c1, .slice p.a2 p.n2 p.c2, .slice p.a3 p.n3 p.c3], .slice a n cc, .int .i64 i] w (OfE (edgeA D L (D.edges.getD i edge0)) (mayZ D.vars.length (edgeL L (D.edges.getD i edge0)) (D.edges.getD i edge0)) w) := by
  have q1 := Lib.hid (fun W hW hlW => amay_any p D a n cc L W hW hlW)
  have hm3 : (p.n3 : Int) ≤ 9223372036854775807 := by have := h.edges.max'; omega
  have hii : (i : Int) < (p.n3 : Int) := by omega
  obtain ⟨f, hf1, hf2, hf3, hf4, hf5, hf6⟩ := edge_facts hb (i := i) (by rw [← h.edges.len]; exact hi)
  obtain ⟨b, off, he', hbl, x0, x1, x2, x3, x4, x5, x6⟩ := edges_at h.edges hi
  have hEE : (⟨(f : Int), (D.edges.getD i edge0).dst, (D.edges.getD i edge0).k, (D.edges.getD i edge0).x, (D.edges.getD i edge0).y, (D.edges.getD i edge0).c, (D.edges.getD i edge0).d⟩ : EdgeD) = D.edges.getD i edge0 := by rw [← hf1]
  have q2 := Lib.hid (fun W hW hlW htW => aof_any p D a n cc L f (D.edges.getD i edge0).dst (D.edges.getD i edge0).k (D.edges.getD i edge0).x (D.edges.getD i edge0).y (D.edges.getD i edge0).c (D.edges.getD i edge0).d (edgeL L (D.edges.getD i edge0)) W hW hlW htW (by rw [hl.len]; exact hf3) (by rw [h.spots.len]; exact hf2) (by rw [h.vars.len]; exact hf4) (by rw [h.vars.len]; rw [hEE]; exact hask i (by rw [← h.edges.len]; exact hi)))
  rw [hf1] at x0
  have hE : (⟨(f : Int), (D.edges.getD i edge0).dst, (D.edges.getD i edge0).k, (D.edges.getD i edge0).x, (D.edges.getD i edge0).y, (D.edges.getD i edge0).c, (D.edges.getD i edge0).d⟩ : EdgeD) = D.edges.getD i edge0 := by rw [← hf1]
  rw [hE, h.vars.len] at q2
  have hA : Hid (edgeA D L (D.edges.getD i edge0) = if mayZ D.vars.length (edgeL L (D.edges.getD i edge0)) (D.edges.getD i edge0) = true then alarmZ D (edgeL L (D.edges.getD i edge0)) (D.edges.getD i edge0) else al0) := Lib.hid rfl
  rw [← hA.out] at q2
  clear hE hEE hask hf1 hf2 hf3 hf4 hf5 hf6 hA
  generalize edgeA D L (D.edges.getD i edge0) = AR at *
  generalize mayZ D.vars.length (edgeL L (D.edges.getD i edge0)) (D.edges.getD i edge0) = mb at *
  rw [← h.vars.len] at q2
  generalize D.edges.getD i edge0 = ed at *
  obtain ⟨efr, eds, ek, ex, ey, ec, edd⟩ := ed
  dsimp only at *
  obtain ⟨pnm, pa1, pn1, pc1, pa2, pn2, pc2, pa3, pn3, pc3⟩ := p
  dsimp only at *
  subst he'
  obtain ⟨W1, hW1⟩ : ∃ W1, W1 = (w.alloc (.cells #[.string pnm, .slice pa1 pn1 pc1, .slice pa2 pn2 pc2, .slice (some ⟨b, off, none⟩) pn3 pc3] 38)).alloc (.cells #[.int .i64 0, .int .i64 0, .string ⟨#[]⟩, .string ⟨#[]⟩, .int .i64 0, .string ⟨#[]⟩] 23) := ⟨_, rfl⟩
  have HP : Holds W1 w.heap.size 38 #[.string pnm, .slice pa1 pn1 pc1, .slice pa2 pn2 pc2, .slice (some ⟨b, off, none⟩) pn3 pc3] := by rw [hW1]; exact (Holds.new w _ _).alloc _
  have HA : Holds W1 (w.heap.size + 1) 23 #[.int .i64 0, .int .i64 0, .string ⟨#[]⟩, .string ⟨#[]⟩, .int .i64 0, .string ⟨#[]⟩] := by
    rw [hW1]
    have := Holds.new (w.alloc (.cells #[.string pnm, .slice pa1 pn1 pc1, .slice pa2 pn2 pc2, .slice (some ⟨b, off, none⟩) pn3 pc3] 38)) 23 #[.int .i64 0, .int .i64 0, .string ⟨#[]⟩, .string ⟨#[]⟩, .int .i64 0, .string ⟨#[]⟩]
    simpa using this
  have BL := Lib.hid (show Below w.heap.size w W1 by rw [hW1]; exact (box_below w _ _).alloc (by simp) _)
  have P0 := Lib.hid h
  have Z0 := Lib.hid hl
  have T0 := Lib.hid ht
  have P := Lib.hid (h.below BL.out)
  have Z := Lib.hid (hl.below BL.out)
  have hld := Lib.hid (fun j v (hv : w.cell? ⟨b, j, none⟩ = some v) W (hW : Below w.heap.size w W) => (hW.cell (p := ⟨b, j, none⟩) hbl).trans hv)
  have hW1' := Lib.hid hW1
  clear hW1 h hl ht
  go_enter Tryz.func20, Tryz.ntmps20
  go_wp2_with fail
  rw [← hW1'.out]
  with_reducible refine (q1.out _ P.out Z.out).mono ?_
  rintro e w1 ⟨rfl, b1⟩
  rw [hb]
  have HP1 := HP.below b1 HP.lt
  have HA1 := Lib.hid (HA.below b1 HA.lt)
  replace BL := Lib.hid (BL.out.trans (b1.mono BL.out.size))
  clear b1 q1 P Z hW1' HP HA hb
  have y0 := hld.out _ _ x0
  have y1 := hld.out _ _ x1
  have y2 := hld.out _ _ x2
  have y3 := hld.out _ _ x3
  have y4 := hld.out _ _ x4
  have y5 := hld.out _ _ x5
  have y6 := hld.out _ _ x6
  have k0 := HP1.cell 0
  have k1 := HP1.cell 1
  have k2 := HP1.cell 2
  have k3 := HP1.cell 3
  have HPl := HP1.lt
  simp at k0 k1 k2 k3
  have g0 : ∀ W, BelowE [w.heap.size + 1] w1.heap.size w1 W → W.cell? ⟨w.heap.size, 0, none⟩ = some (.string pnm) := fun W hW => (hW.cell (p := ⟨w.heap.size, 0, none⟩) HPl (by simp)).trans k0
  have g1 : ∀ W, BelowE [w.heap.size + 1] w1.heap.size w1 W → W.cell? ⟨w.heap.size, 1, none⟩ = some (.slice pa1 pn1 pc1) := fun W hW => (hW.cell (p := ⟨w.heap.size, 1, none⟩) HPl (by simp)).trans k1
  have g2 : ∀ W, BelowE [w.heap.size + 1] w1.heap.size w1 W → W.cell? ⟨w.heap.size, 2, none⟩ = some (.slice pa2 pn2 pc2) := fun W hW => (hW.cell (p := ⟨w.heap.size, 2, none⟩) HPl (by simp)).trans k2
  have g3 : ∀ W, BelowE [w.heap.size + 1] w1.heap.size w1 W → W.cell? ⟨w.heap.size, 3, none⟩ = some (.slice (some ⟨b, off, none⟩) pn3 pc3) := fun W hW => (hW.cell (p := ⟨w.heap.size, 3, none⟩) HPl (by simp)).trans k3
  have hbx : ∀ W, BelowE [w.heap.size + 1] w1.heap.size w1 W → Below w.heap.size w W := fun W hW => BL.out.trans (below_of (hW.mono BL.out.size) (by intro x hx; simp at hx; omega))
  have r0 : ∀ W, BelowE [w.heap.size + 1] w1.heap.size w1 W → W.cell? ⟨b, off + i * 7, none⟩ = some (.int .i64 f) := fun W hW => y0 W (hbx W hW)
  have r1 : ∀ W, BelowE [w.heap.size + 1] w1.heap.size w1 W → W.cell? ⟨b, off + i * 7 + 1, none⟩ = some (.int .i64 eds) := fun W hW => y1 W (hbx W hW)
  have r2 : ∀ W, BelowE [w.heap.size + 1] w1.heap.size w1 W → W.cell? ⟨b, off + i * 7 + 2, none⟩ = some (.int .i64 ek) := fun W hW => y2 W (hbx W hW)
  have r3 : ∀ W, BelowE [w.heap.size + 1] w1.heap.size w1 W → W.cell? ⟨b, off + i * 7 + 3, none⟩ = some (.int .i64 ex) := fun W hW => y3 W (hbx W hW)
  have r4 : ∀ W, BelowE [w.heap.size + 1] w1.heap.size w1 W → W.cell? ⟨b, off + i * 7 + 4, none⟩ = some (.int .i64 ey) := fun W hW => y4 W (hbx W hW)
  have r5 : ∀ W, BelowE [w.heap.size + 1] w1.heap.size w1 W → W.cell? ⟨b, off + i * 7 + 5, none⟩ = some (.int .i64 ec) := fun W hW => y5 W (hbx W hW)
  have r6 : ∀ W, BelowE [w.heap.size + 1] w1.heap.size w1 W → W.cell? ⟨b, off + i * 7 + 6, none⟩ = some (.int .i64 edd) := fun W hW => y6 W (hbx W hW)
  have hbx' := Lib.hid hbx
  clear y0 y1 y2 y3 y4 y5 y6 x0 x1 x2 x3 x4 x5 x6 hld HP1 hbx k0 k1 k2
  go_wp2
  refine wp_drawn_on (fun W => BelowE [w.heap.size + 1] w1.heap.size w1 W) (by kernel_rfl) ((BelowE.refl _ _ _).drew) (fun hHeld => ?_)
  refine wT 0 (v := ?v1) rfl (by kernel_rfl) (fun _ _ _ h => h) ?h1 (by assumption) ?r1
  case h1 => (intro w hSw; (try dsimp only at hSw); go_simp; try with_reducible rfl)
  refine wT 1 (v := ?v2) rfl (by kernel_rfl) (fun _ _ _ h => h) ?h2 (by assumption) ?r2
  case h2 => (intro w hSw; (try dsimp only at hSw); go_simp; try with_reducible rfl)
  refine wT 2 (v := ?v3) rfl (by kernel_rfl) (fun _ _ _ h => h) ?h3 (by assumption) ?r3
  case h3 => (intro w hSw; (try dsimp only at hSw); go_simp; try with_reducible rfl)
  refine wT 3 (v := ?v4) rfl (by kernel_rfl) (fun _ _ _ h => h) ?h4 (by assumption) ?r4
  case h4 => (intro w hSw; (try dsimp only at hSw); go_simp; try with_reducible rfl)
  refine wT 4 (v := ?v5) rfl (by kernel_rfl) (fun _ _ _ h => h) ?h5 (by assumption) ?r5
  case h5 => (intro w hSw; (try dsimp only at hSw); go_simp; try with_reducible rfl)
  refine wT 5 (v := ?v6) rfl (by kernel_rfl) (fun _ _ _ h => h) ?h6 (by assumption) ?r6
  case h6 => (intro w hSw; (try dsimp only at hSw); go_simp; try with_reducible rfl)
  refine wT 6 (v := ?v7) rfl (by kernel_rfl) (fun _ _ _ h => h) ?h7 (by assumption) ?r7
  case h7 => (intro w hSw; (try dsimp only at hSw); go_simp; try with_reducible rfl)
  try simp only [Act.put, List.setIfInBounds_toArray, List.set_cons_zero, List.set_cons_succ]
  refine wpAnyH_ready (rs := [7]) (by kernel_rfl) (by simp) ?_
  refine AllReadyH.cons (o := ⟨_, _, _, _, _, _⟩) rfl (fun K hK => ?_) AllReadyH.nil
  go_simp
  have hbb := hbx'.out _ hHeld
  with_reducible refine (q2.out _ (P0.out.below hbb) (Z0.out.below hbb) (T0.out.on hbb)).mono ?_
  rintro e w3 ⟨rfl, b3⟩
  have A3 := Holds.below (w := w1.drew) HA1.out b3 HA1.out.lt
  go_simp
  refine hK.out _ _ (hHeld.trans (BelowE.of (b3.mono hHeld.size))) (fun hHeld => ?_)
  clear hK K
  refine wT 8 (v := ?v8) rfl (by kernel_rfl) (fun _ _ _ h => h) ?h8 (by assumption) ?r8
  case h8 => (intro w hSw; (try dsimp only at hSw); go_simp; try with_reducible rfl)
  refine wT 9 (v := ?v9) rfl (by kernel_rfl) (fun _ _ _ h => h) ?h9 (by assumption) ?r9
  case h9 => (intro w hSw; (try dsimp only at hSw); go_simp; try with_reducible rfl)
  try simp only [Act.put, List.setIfInBounds_toArray, List.set_cons_zero, List.set_cons_succ]
  refine wpAnyH_ready (rs := [10]) (by kernel_rfl) (by simp) ?_
  refine AllReadyH.cons (o := ⟨_, _, _, _, _, _⟩) rfl (fun K hK => ?_) AllReadyH.nil
  go_simp
  have hfin := al_set A3 (.int .i64 AR.kind) (.int .i64 AR.sev) (.string AR.fn) (.string AR.file) (.int .i64 AR.line) (.string AR.expr)
  have a0 := A3.cell 0
  have a1 := A3.cell 1
  have a2 := A3.cell 2
  have a3 := A3.cell 3
  have a4 := A3.cell 4
  have a5 := A3.cell 5
  have f0 := A3.free 0
  have f1 := A3.free 1
  have f2 := A3.free 2
  have f3 := A3.free 3
  have f4 := A3.free 4
  have f5 := A3.free 5
  simp at a0 a1 a2 a3 a4 a5
  go_simp
  generalize ((((((w3.setCell ⟨w.heap.size + 1, 0, none⟩ (.int .i64 AR.kind)).setCell ⟨w.heap.size + 1, 1, none⟩ (.int .i64 AR.sev)).setCell ⟨w.heap.size + 1, 2, none⟩ (.string AR.fn)).setCell ⟨w.heap.size + 1, 3, none⟩ (.string AR.file)).setCell ⟨w.heap.size + 1, 4, none⟩ (.int .i64 AR.line)).setCell ⟨w.heap.size + 1, 5, none⟩ (.string AR.expr)) = w7 at hfin ⊢
  refine hK.out _ _ (hHeld.trans (hfin.2.mono hHeld.size)) (fun hHeld => ?_)
  clear hK K
  refine wT 11 (v := ?v10) rfl (by kernel_rfl) (fun _ _ _ h => h) ?h10 (by assumption) ?r10
  case h10 => (intro w hSw; (try dsimp only at hSw); go_simp; try with_reducible rfl)
  try simp only [Act.put, List.setIfInBounds_toArray, List.set_cons_zero, List.set_cons_succ]
  refine wpAnyH_done (by kernel_rfl) ?_ _
  have hB7 := hbx'.out _ hHeld
  go_wp2
  exact al_ret2 hfin.1 ⟨rfl, hB7⟩ _ _ 6 7 rfl rfl rfl rfl
def AlsE (l : List AlD) (E : Int) (w : World) (e : Ending) (w' : World) : Prop := ∃ a c, e = .returned (.tuple #[.slice a l.length c, .int .i64 E]) ∧ RO alC w' a l.length c l ∧ Below w.heap.size w w'
set_option maxRecDepth 100000 in
set_option maxHeartbeats 4000000 in
theorem aofs_bad (p : PV) (D : PD) (a : Option Addr) (n cc : Nat) (L : List (Int × List Int)) (w : World) (h : PrA w p D) (hl : ZRow w a n cc L) (hb : chkZ D L ≠ 0) :
    Calls Tryz.prog 19 #[.agg #[.string p.nm, .slice p.a1 p.n1 p.c1, .slice p.a2 p.n2 p.c2, .slice p.a3 p.n3 p.c3], .slice a n cc] w (AlsE [] (chkZ D L) w) := by
  have q1 := Lib.hid (fun W hW hlW => amay_any p D a n cc L W hW hlW)
  obtain ⟨W1, hW1⟩ : ∃ W1, W1 = w.alloc (.cells #[.string p.nm, .slice p.a1 p.n1 p.c1, .slice p.a2 p.n2 p.c2, .slice p.a3 p.n3 p.c3] 38) := ⟨_, rfl⟩
  have BL := Lib.hid (show Below w.heap.size w W1 by rw [hW1]; exact box_below w _ _)
  have P := Lib.hid (h.below BL.out)
  have Z := Lib.hid (hl.below BL.out)
  have hW1' := Lib.hid hW1
  clear hW1 h hl
  generalize chkZ D L = E at *
  have hEb : (E != 0) = true := by simpa using hb
  clear hb
  go_enter Tryz.func19, Tryz.ntmps19
  go_wp2_with fail
  rw [← hW1'.out]
  with_reducible refine (q1.out _ P.out Z.out).mono ?_
  rintro e w1 ⟨rfl, b1⟩
  replace BL := Lib.hid (BL.out.trans (b1.mono BL.out.size))
  clear b1 q1 P Z hW1'
  go_wp2
  go_ret2
  exact ⟨none, 0, rfl, RO.nil _, BL.out⟩
set_option maxRecDepth 100000 in
set_option maxHeartbeats 8000000 in
theorem aofs_ok (p : PV) (D : PD) (a : Option Addr) (n cc : Nat) (L : List (Int × List Int)) (w : World) (h : PrA w p D) (hl : ZRow w a n cc L) (ht : Tab w) (hb : chkZ D L = 0) (hask : AsksOK D L) (h3 : p.n3 ≤ 256) :
    Calls Tryz.prog 19 #[.agg #[.string p.nm, .slice p.a1 p.n1 p.c1, .slice p.a2 p.n2 p.c2, .slice p.a3 p.n3 p.c3], .slice a n cc] w (AlsE (sortC cmpA (alarmsA D L D.edges)) 0 w) := by
  have q1 := Lib.hid (fun W hW hlW => amay_any p D a n cc L W hW hlW)
  have hm3 : (p.n3 : Int) ≤ 256 := by omega
  have hel := h.edges.len
  have hfs : Hid (∀ i, i < p.n3 → ∃ f : Nat, (D.edges.getD i edge0).frm = f ∧ f < n ∧ f < p.n2 ∧ L.getD f zd0 = ((p.n1 : Int), edgeL L (D.edges.getD i edge0)) ∧ AskOK p.n1 (edgeL L (D.edges.getD i edge0)) (D.edges.getD i edge0).k (D.edges.getD i edge0).x (D.edges.getD i edge0).y (D.edges.getD i edge0).c (D.edges.getD i edge0).d (mayZ p.n1 (edgeL L (D.edges.getD i edge0)) (D.edges.getD i edge0)) (mustZ p.n1 (edgeL L (D.edges.getD i edge0)) (D.edges.getD i edge0))) := Lib.hid (fun i hi => by
    obtain ⟨f, e1, e2, e3, e4, e5, e6⟩ := edge_facts hb (i := i) (by omega)
    exact ⟨f, e1, by rw [hl.len]; exact e3, by rw [h.spots.len]; exact e2, by rw [h.vars.len]; exact e4, by rw [h.vars.len]; exact hask i (by omega)⟩)
  have hsn : Hid (∀ i, i < p.n3 → alarmsA D L (D.edges.take (i + 1)) = alarmsA D L (D.edges.take i) ++ (if mayZ p.n1 (edgeL L (D.edges.getD i edge0)) (D.edges.getD i edge0) = true then [alarmZ D (edgeL L (D.edges.getD i edge0)) (D.edges.getD i edge0)] else [])) := Lib.hid (fun i hi => by
    have e : D.edges.take (i + 1) = D.edges.take i ++ [D.edges.getD i edge0] := by rw [List.take_add_one]; simp [List.getD, show i < D.edges.length by omega]
    rw [e, alarmsA_snoc, h.vars.len])
  have hle : Hid (∀ i, i ≤ p.n3 → (alarmsA D L (D.edges.take i)).length ≤ i) := Lib.hid (fun i hi => Nat.le_trans (alarmsA_len D L _) (by rw [List.length_take]; omega))
  have hend : Hid (alarmsA D L (D.edges.take p.n3) = alarmsA D L D.edges) := Lib.hid (by rw [List.take_of_length_le (by omega)])
  have q2 := Lib.hid (fun f ds k x y c d l W hW hlW htW g1 g2 g3 g4 => aof_any p D a n cc L f ds k x y c d l W hW hlW htW g1 g2 g3 g4)
  have q3 := Lib.hid (fun a n c l W hW hn => asort_any a n c l W hW hn)
  have P0 := Lib.hid h
  have Z0 := Lib.hid hl
  have T0 := Lib.hid ht
  have E0 := Lib.hid h.edges
  obtain ⟨pnm, pa1, pn1, pc1, pa2, pn2, pc2, pa3, pn3, pc3⟩ := p
  dsimp only at *
  obtain ⟨W1, hW1⟩ : ∃ W1, W1 = w.alloc (.cells #[.string pnm, .slice pa1 pn1 pc1, .slice pa2 pn2 pc2, .slice pa3 pn3 pc3] 38) := ⟨_, rfl⟩
  have HP : Holds W1 w.heap.size 38 #[.string pnm, .slice pa1 pn1 pc1, .slice pa2 pn2 pc2, .slice pa3 pn3 pc3] := by rw [hW1]; exact Holds.new w _ _
  have BL := Lib.hid (show Below w.heap.size w W1 by rw [hW1]; exact box_below w _ _)
  have P := Lib.hid (h.below BL.out)
  have Z := Lib.hid (hl.below BL.out)
  have hW1' := Lib.hid hW1
  clear hW1 h hl ht hel hask
  go_enter Tryz.func19, Tryz.ntmps19
  go_wp2_with fail
  rw [← hW1'.out]
  with_reducible refine (q1.out _ P.out Z.out).mono ?_
  rintro e w1 ⟨rfl, b1⟩
  rw [hb]
  have HP1 := Lib.hid (HP.below b1 HP.lt)
  replace BL := Lib.hid (BL.out.trans (b1.mono BL.out.size))
  clear b1 q1 P Z hW1' HP hb
  have k3 := HP1.out.cell 3
  simp at k3
  go_wp2
  go_loopw [7, 21] (fun v x wr => ∃ i : Nat, i ≤ pn3 ∧ x = .int .i64 i ∧ Hid (wr.ownsRow w1.heap.size 23 6 v (alarmsA D L (D.edges.take i)).length (alcells (alarmsA D L (D.edges.take i)))) ∧ Hid (Below w1.heap.size w1 wr)) (fun _ x _ => pn3 - (intOf x).toNat)
  case atStart => exact ⟨0, Nat.zero_le _, rfl, Lib.hid (own_al_nil w1 _), Lib.hid (Below.refl _ _)⟩
  case round =>
    obtain ⟨i, hin, rfl, hown, hB⟩ := hrel
    generalize wr = g0 at *
    by_cases hlt : i < pn3
    · have hii : (i : Int) < (pn3 : Int) := by omega
      obtain ⟨f, hf1, hf2, hf3, hf4, hf5⟩ := hfs.out i hlt
      have hs1 := hsn.out i hlt
      have hl1 := hle.out i hin
      have BLg := BL.out.trans (hB.out.mono BL.out.size)
      obtain ⟨b, off, rfl, hbl, x0, x1, x2, x3, x4, x5, x6⟩ := edges_at (E0.out.below BLg) hlt
      rw [hf1] at x0
      have hE : (⟨(f : Int), (D.edges.getD i edge0).dst, (D.edges.getD i edge0).k, (D.edges.getD i edge0).x, (D.edges.getD i edge0).y, (D.edges.getD i edge0).c, (D.edges.getD i edge0).d⟩ : EdgeD) = D.edges.getD i edge0 := by rw [← hf1]
      have q4 := Lib.hid (fun W hW hlW htW => q2.out f (D.edges.getD i edge0).dst (D.edges.getD i edge0).k (D.edges.getD i edge0).x (D.edges.getD i edge0).y (D.edges.getD i edge0).c (D.edges.getD i edge0).d (edgeL L (D.edges.getD i edge0)) W hW hlW htW hf2 hf3 hf4 (by rw [hE]; exact hf5))
      rw [hE] at q4
      obtain ⟨AN, hAN⟩ : ∃ AN, AN = alarmsA D L (D.edges.take (i + 1)) := ⟨_, rfl⟩
      rw [← hAN] at hs1
      replace hAN := Lib.hid hAN
      generalize alarmsA D L (D.edges.take i) = AO at *
      generalize mayZ pn1 (edgeL L (D.edges.getD i edge0)) (D.edges.getD i edge0) = mb at *
      generalize alarmZ D (edgeL L (D.edges.getD i edge0)) (D.edges.getD i edge0) = AZ at *
      generalize D.edges.getD i edge0 = ed at *
      obtain ⟨efr, eds, ek, ex, ey, ec, edd⟩ := ed
      dsimp only at *
      clear hf1 hf2 hf3 hf4 hf5 hE
      have HPg := HP1.out.below hB.out HP1.out.lt
      obtain ⟨G1, hG1⟩ : ∃ G1, G1 = g0.alloc (.cells #[.int .i64 f, .int .i64 eds, .int .i64 ek, .int .i64 ex, .int .i64 ey, .int .i64 ec, .int .i64 edd] 75) := ⟨_, rfl⟩
      have bG : Below g0.heap.size g0 (g0.alloc (.cells #[.int .i64 f, .int .i64 eds, .int .i64 ek, .int .i64 ex, .int .i64 ey, .int .i64 ec, .int .i64 edd] 75)) := box_below _ _ _
      have hpl := HP1.out.lt
      have p0 := (HPg.below bG HPg.lt).cell 0
      have p1 := (HPg.below bG HPg.lt).cell 1
      have p2 := (HPg.below bG HPg.lt).cell 2
      have p3 := (HPg.below bG HPg.lt).cell 3
      simp at p0 p1 p2 p3
      rw [← hG1] at bG
      have BG := Lib.hid (BLg.trans (bG.mono BLg.size))
      have qq := Lib.hid (q4.out G1 (P0.out.below BG.out) (Z0.out.below BG.out) (T0.out.on BG.out))
      have own1 := Lib.hid (own_below hown.out bG)
      have B1 := Lib.hid (hB.out.trans (bG.mono hB.out.size))
      have hG1' := Lib.hid hG1
      clear hG1 bG HPg BLg q4 hown
      have hs1' := Lib.hid hs1
      have hl1' := Lib.hid hl1
      clear hs1 hl1 k3
      go_wp2_with fail
      rw [← hG1'.out]
      with_reducible refine qq.out.mono ?_
      rintro e g2 ⟨rfl, b2⟩
      have own2 := Lib.hid (own_below own1.out b2)
      have B2 := Lib.hid (B1.out.trans (b2.mono B1.out.size))
      clear own1 B1 b2 hG1' qq p0 p1 p2 p3 x0 x1 x2 x3 x4 x5 x6 BG
      cases mb
      · have hr : AN = AO := by rw [hs1'.out]; simp
        clear hs1'
        subst hr
        have B3 := Lib.hid (B2.out.trans ((box_below g2 #[.int .i64 al0.kind, .int .i64 al0.sev, .string al0.fn, .string al0.file, .int .i64 al0.line, .string al0.expr] 23).mono B2.out.size))
        have own3 := Lib.hid (own_below own2.out (box_below g2 #[.int .i64 al0.kind, .int .i64 al0.sev, .string al0.fn, .string al0.file, .int .i64 al0.line, .string al0.expr] 23))
        clear own2 B2
        generalize al0 = Z0a at *
        go_wp2
        go_roundw
        case rel => exact ⟨i + 1, by omega, by go_num, by rw [← hAN.out]; exact own3, B3⟩
        case measure => simp [intOf]; omega
      · have hr : AN = AO ++ [AZ] := by rw [hs1'.out]; simp
        clear hs1'
        have B3 := Lib.hid (B2.out.trans ((box_below g2 #[.int .i64 AZ.kind, .int .i64 AZ.sev, .string AZ.fn, .string AZ.file, .int .i64 AZ.line, .string AZ.expr] 23).mono B2.out.size))
        have own3 := Lib.hid (own_below own2.out (box_below g2 #[.int .i64 AZ.kind, .int .i64 AZ.sev, .string AZ.fn, .string AZ.file, .int .i64 AZ.line, .string AZ.expr] 23))
        have hn5 : AO.length ≤ 1000000 := by have := hl1'.out; omega
        clear own2 B2
        go_wp2_with (at_builtin; refine wpList_append_al _ rfl (.tmp 33) (.tmp 35) rfl w1 _ AO.length AO own3.out B3.out AZ rfl _ rfl (by simp) hn5 ?_; intro v' w' own' b')
        have ownF := Lib.hid own'
        have BF := Lib.hid b'
        clear own' b' own3 B3
        go_wp2
        go_roundw
        case rel => exact ⟨i + 1, by omega, by go_num, by rw [← hAN.out, hr, List.length_append]; exact ownF, BF⟩
        case measure => simp [intOf]; omega
    · have hii : ¬ (i : Int) < (pn3 : Int) := by omega
      have hi3 : i = pn3 := by omega
      have hlf := hle.out i hin
      have hown2 := hown.out
      rw [hi3, hend.out] at hown2
      rw [hi3, hend.out] at hlf
      obtain ⟨a', c', rfl, hro⟩ := ro_own hown2
      have qs := Lib.hid (q3.out a' _ c' _ g0 hro (by omega))
      have BLg := Lib.hid (BL.out.trans (hB.out.mono BL.out.size))
      clear hown hown2 hlf hi3 hro hsn hle hend
      generalize alarmsA D L D.edges = AE at *
      go_wp2_with fail
      with_reducible refine qs.out.mono ?_
      rintro e w5 ⟨a5, c5, rfl, hro5, b5⟩
      have hfin := Lib.hid (And.intro hro5 (BLg.out.trans (b5.mono BLg.out.size)))
      clear hro5 b5 qs
      go_wp2
      go_ret2
      exact ⟨a5, c5, rfl, hfin.out.1, hfin.out.2⟩
end Go.Proofs.YtimgocfkogebmaaGreatDoor
namespace Go.Proofs.YtimgocfkogebmaaGreatDoor
open Go.RowKit
set_option linter.unusedVariables false
end Go.Proofs.YtimgocfkogebmaaGreatDoor
namespace Go.Proofs.YtimgocfkogebmaaGreatDoor
open Go.RowKit
set_option linter.unusedVariables false
set_option linter.unusedSimpArgs false
def numR (l : List ByteArray) (x : ByteArray) : Option Int := if Lib.idxOfS l x < 0 then none else some (Lib.idxOfS l x + 1)
end Go.Proofs.YtimgocfkogebmaaGreatDoor
namespace Go.Proofs.YtimgocfkogebmaaGreatDoor
set_option linter.unusedVariables false
set_option linter.unusedSimpArgs false
def mo (c : UInt8) : Bool := moreI (c.toNat : Int)
def nameish (s : ByteArray) : Prop := ∀ c ∈ s.data.toList, mo c = true
theorem app_list (a b : ByteArray) : (a ++ b).data.toList = a.data.toList ++ b.data.toList := by rw [ByteArray.data_append, Array.toList_append]
theorem bytes_ext {a b : ByteArray} (h : a.data.toList = b.data.toList) : a = b := ByteArray.ext (Array.toList_inj.1 h)
theorem nsz_list (s : ByteArray) : nsz s = (s.data.toList.takeWhile mo).length := by
  unfold nsz codes
  rw [List.takeWhile_map, List.length_map]
  rfl
structure NF (l : List ByteArray) (x : Int) : Prop where
  word : nameish (nmV l x)
  beg : begB (nmV l x) = true
  free : takB (nmV l x) = false
  num : numR l (nmV l x) = some x
theorem name_facts {l : List ByteArray} (hv : varsB l = true) {x : Int} (h1 : 1 ≤ x) (h2 : x ≤ (l.length : Int)) : NF l x := by
  have hi : x.toNat - 1 < l.length := by omega
  have hm : nmV l x ∈ l := by unfold nmV; simp [List.getD, hi]
  obtain ⟨g1, g2⟩ := vars_name hv hm
  have g3 := g1
  unfold nameB at g3
  simp only [Bool.and_eq_true, decide_eq_true_eq] at g3
  refine ⟨?_, g3.2.1, g2, ?_⟩
  · have h3 := g3.2.2
    rw [nsz_list] at h3
    intro c hc
    have h4 : (nmV l x).data.toList.takeWhile mo = (nmV l x).data.toList := by
      apply List.IsPrefix.eq_of_length (List.takeWhile_prefix mo)
      rw [h3, Array.length_toList]; rfl
    have h5 := List.all_takeWhile (p := mo) (l := (nmV l x).data.toList)
    rw [h4] at h5
    exact List.all_eq_true.1 h5 c hc
  · unfold numR
    have h5 := hv
    unfold varsB at h5
    rw [Bool.and_eq_true, List.all_eq_true] at h5
    have h6 := h5.2 (x.toNat - 1) (List.mem_range.2 hi)
    unfold varB at h6
    simp only [Bool.and_eq_true, Bool.not_eq_true'] at h6
    have h7 := h6.2.2
    have hd : ∀ j, j < x.toNat - 1 → l.getD j ByteArray.empty ≠ nmV l x := by
      intro j hj e
      have : Lib.containsS (l.take (x.toNat - 1)) (l.getD (x.toNat - 1) e0) = true := by
        rw [Lib.containsS_iff]
        refine List.mem_of_getElem? (i := j) ?_
        rw [List.getElem?_take, if_pos hj]
        have e2 : l.getD j ByteArray.empty = l.getD (x.toNat - 1) e0 := e
        rw [← e2]
        simp [List.getD, show j < l.length by omega]
      rw [this] at h7
      cases h7
    have h8 : Lib.idxOfS l (nmV l x) = ((x.toNat - 1 : Nat) : Int) := by
      have := Lib.idxFromS_hit (nmV l x) l (x.toNat - 1) 0 hi rfl hd
      simpa [Lib.idxOfS] using this
    rw [h8, if_neg (by omega)]
    congr 1
    omega
theorem mo_dig {c : UInt8} (h : isDig c) : mo c = true := by
  unfold isDig at h
  unfold mo moreI
  rw [decide_eq_true (show (48 ≤ (c.toNat : Int) ∧ (c.toNat : Int) ≤ 57) by omega)]
  simp
theorem dig_facts (u : Nat) : (∀ b ∈ Lib.decDigits u, mo b = true) ∧ ∃ b, (Lib.decDigits u).head? = some b ∧ isDig b := by
  have h := (show_val u).2.1
  refine ⟨fun b hb => mo_dig (h.2.1 b hb), ?_⟩
  cases hl : Lib.decDigits u with
  | nil => exact absurd hl h.1
  | cons b l => exact ⟨b, rfl, h.2.1 b (by rw [hl]; simp)⟩
theorem show_neg {c : Int} (h0 : -1099511627776 ≤ c) (h1 : c < 0) : ∃ N, showV c = 45 :: N ∧ ∀ b ∈ N, mo b = true := by
  unfold showV
  rw [if_neg (by omega)]
  by_cases h2 : c = -1099511627776
  · rw [if_pos h2]
    exact ⟨infT, rfl, by decide⟩
  · rw [if_neg h2]
    unfold Lib.itoa
    rw [if_pos h1]
    exact ⟨_, rfl, (dig_facts _).1⟩
theorem show_pos {c : Int} (h0 : 0 ≤ c) : (∀ b ∈ showV c, mo b = true) ∧ (showV c = infT ∨ ∃ b, (showV c).head? = some b ∧ isDig b) := by
  unfold showV
  by_cases h1 : c = 1099511627776
  · rw [if_pos h1]
    exact ⟨by decide, .inl rfl⟩
  · rw [if_neg h1, if_neg (by omega)]
    unfold Lib.itoa
    rw [if_neg (by omega)]
    exact ⟨(dig_facts _).1, .inr (dig_facts _).2⟩
theorem vT_eq {c : Int} (h0 : -1099511627776 ≤ c) (h1 : c ≤ 1099511627776) : vT c = strB (showV c) := by unfold vT; rw [clip_id h0 h1]
theorem strB_list (l : List UInt8) : (strB l).data.toList = l := by simp [strB]
end Go.Proofs.YtimgocfkogebmaaGreatDoor
namespace Go.Proofs.YtimgocfkogebmaaGreatDoor
set_option linter.unusedVariables false
def exprB (s : ByteArray) : Bool := decide (1 ≤ s.size) && (decide (s.size ≤ 128) && (byt s).all fun c => decide (32 ≤ c.toNat) && decide (c.toNat ≤ 126))
def alB (a : AlD) : Bool := (decide (1 ≤ a.kind) && (decide (a.kind ≤ 3) && (decide (1 ≤ a.sev) && decide (a.sev ≤ 2)))) && (nameB a.fn && (fileB a.file && (decide (1 ≤ a.line) && decide (a.line ≤ 1048576))) && exprB a.expr)
def chkA (a : AlD) : Int := if alB a = true then 0 else 170
def placeD (a : AlD) : PD := ⟨a.fn, [], [⟨a.fn, a.file, a.line⟩], []⟩
theorem place_is (a : AlD) : progB (placeD a) = (nameB a.fn && (fileB a.file && (decide (1 ≤ a.line) && decide (a.line ≤ 1048576)))) := by
  unfold progB placeD
  simp only [List.length_cons, List.length_nil, List.all_cons, List.all_nil, Bool.and_true]
  have hv : varsB [] = true := by unfold varsB; simp
  rw [hv]
  unfold spotB
  cases nameB a.fn <;> simp
end Go.Proofs.YtimgocfkogebmaaGreatDoor
namespace Go.Proofs.YtimgocfkogebmaaGreatDoor
open Go.RowKit
set_option linter.unusedVariables false
set_option linter.unusedSimpArgs false
theorem exprB_of {s : ByteArray} (h0 : 1 ≤ s.data.toList.length) (h1 : s.data.toList.length ≤ 128) (h : ∀ c ∈ s.data.toList, 32 ≤ c.toNat ∧ c.toNat ≤ 126) : exprB s = true := by
  have e : s.size = s.data.toList.length := by rw [Array.length_toList]; rfl
  unfold exprB
  rw [decide_eq_true (by omega), decide_eq_true (by omega), Bool.true_and, Bool.true_and, List.all_eq_true]
  intro c hc
  have := h c hc
  simp; omega
theorem mo_print {c : UInt8} (h : mo c = true) : 32 ≤ c.toNat ∧ c.toNat ≤ 126 := by
  unfold mo moreI letterI at h
  simp at h
  omega
theorem vT_print (c : Int) : ∀ b ∈ (vT c).data.toList, 32 ≤ b.toNat ∧ b.toNat ≤ 126 := by
  intro b hb
  have hc := clip_in c
  unfold vT at hb
  rw [strB_list] at hb
  by_cases h0 : clip c < 0
  · obtain ⟨N, hN, hm⟩ := show_neg (by omega) h0
    rw [hN] at hb
    rcases List.mem_cons.1 hb with rfl | hb
    · decide
    · exact mo_print (hm b hb)
  · exact mo_print ((show_pos (by omega)).1 b hb)
theorem trimT_app {s : ByteArray} {R : List UInt8} (h : s.data.toList = [99, 104, 101, 99, 107, 32] ++ R) : (trimT s).data.toList = R := by
  unfold trimT Lib.trimPrefix Lib.hasPrefix
  rw [h]
  simp
theorem nm_size {l : List ByteArray} (hv : varsB l = true) {x : Int} (h1 : 1 ≤ x) (h2 : x ≤ (l.length : Int)) : (nmV l x).data.toList.length ≤ 32 := by
  have hi : x.toNat - 1 < l.length := by omega
  have hm : nmV l x ∈ l := by unfold nmV; simp [List.getD, hi]
  have := vars_sz hv _ hm
  rw [Array.length_toList]
  exact this
theorem alarm_expr {l : List ByteArray} (hv : varsB l = true) {x y c d : Int} (hr : rightB 5 x y c d (l.length : Int) = true) : exprB (trimT (showP l 5 x y c d)) = true := by
  have hE : showE l 5 x y c d = 0 := by unfold showE; rw [if_pos hv, if_pos hr]
  have hP : showP l 5 x y c d = limT ⟨#[99, 104, 101, 99, 107]⟩ l x y c := by unfold showP; rw [if_pos hE]; unfold stmtT; simp
  obtain ⟨r1, r2, r3, r4, r5, _⟩ := right_diff (.inr rfl) hr
  have hL : (showP l 5 x y c d).data.toList = [99, 104, 101, 99, 107, 32] ++ ((diffT l x y).data.toList ++ ([32, 60, 61, 32] ++ (vT c).data.toList)) := by
    rw [hP]
    unfold limT
    simp only [app_list, List.append_assoc]
    rfl
  have hT := trimT_app hL
  have hvs : (vT c).data.toList.length ≤ 14 := by have := vT_size c; rw [Array.length_toList]; exact this
  have hds : (diffT l x y).data.toList.length ≤ 67 ∧ ∀ b ∈ (diffT l x y).data.toList, 32 ≤ b.toNat ∧ b.toNat ≤ 126 := by
    unfold diffT
    by_cases hy : y = 0
    · rw [if_pos hy]
      have hx : 1 ≤ x := by omega
      have q := nm_size hv hx r2
      exact ⟨by omega, fun b hb => mo_print ((name_facts hv hx r2).word b hb)⟩
    rw [if_neg hy]
    have hy1 : 1 ≤ y := by omega
    have qy := nm_size hv hy1 r4
    by_cases hx : x = 0
    · rw [if_pos hx, app_list]
      refine ⟨by simp at qy ⊢; omega, fun b hb => ?_⟩
      rcases List.mem_append.1 hb with hb | hb
      · simp at hb; subst hb; decide
      · exact mo_print ((name_facts hv hy1 r4).word b hb)
    · rw [if_neg hx, app_list, app_list]
      have hx1 : 1 ≤ x := by omega
      have qx := nm_size hv hx1 r2
      refine ⟨by simp at qx qy ⊢; omega, fun b hb => ?_⟩
      rcases List.mem_append.1 hb with hb | hb
      · rcases List.mem_append.1 hb with hb | hb
        · exact mo_print ((name_facts hv hx1 r2).word b hb)
        · simp at hb
          rcases hb with rfl | rfl | rfl <;> decide
      · exact mo_print ((name_facts hv hy1 r4).word b hb)
  refine exprB_of ?_ ?_ ?_
  · rw [hT]; simp; omega
  · rw [hT, List.length_append, List.length_append]
    have : ([32, 60, 61, 32] : List UInt8).length = 4 := rfl
    omega
  · rw [hT]
    intro b hb
    rcases List.mem_append.1 hb with hb | hb
    · exact hds.2 b hb
    · rcases List.mem_append.1 hb with hb | hb
      · simp at hb
        rcases hb with rfl | rfl | rfl | rfl <;> decide
      · exact vT_print c b hb
end Go.Proofs.YtimgocfkogebmaaGreatDoor
namespace Go.Proofs.YtimgocfkogebmaaGreatDoor
open Go.RowKit
set_option linter.unusedVariables false
set_option linter.unusedSimpArgs false
theorem ask_ok (n : Nat) (k x y c d : Int) (l : List Int) (hz : IsZ n l) (hr : rightB k x y c d n = true) :
    AskOK n l k x y c d (!decide (faultL n l k x y c = [])) (decide (postL n l k x y c d = []) && !decide (faultL n l k x y c = [])) := by
  intro W a m ca hs
  have hm := fun V (hV : SL V a m ca l) => may_of n k x y c d _ (faultL_isz hz k x y c) a m ca V (fun V2 h2 => fault_ok n k x y c d l hz hr a m ca V2 (hV.below h2))
  exact ⟨hm W hs, must_of n k x y c d _ (postL_isz hz k x y c d) _ a m ca W (fun V hV => post_ok n k x y c d l hz hr a m ca V (hs.below hV)) (fun V hV => hm V (hs.below hV))⟩
theorem asks_ok {D : PD} {L : List (Int × List Int)} (h : chkZ D L = 0) : AsksOK D L := fun i hi => by
  obtain ⟨f, _, _, _, _, e5, e6⟩ := edge_facts h hi
  exact ask_ok _ _ _ _ _ _ _ e5 e6
theorem alarm_right {D : PD} {L : List (Int × List Int)} (h : chkZ D L = 0) {i : Nat} (hi : i < D.edges.length) (hm : mayZ D.vars.length (edgeL L (D.edges.getD i edge0)) (D.edges.getD i edge0) = true) :
    alB (alarmZ D (edgeL L (D.edges.getD i edge0)) (D.edges.getD i edge0)) = true := by
  obtain ⟨f, e1, e2, _, _, _, e6⟩ := edge_facts h hi
  have hp : progB D = true := by
    cases hq : progB D
    · unfold chkZ at h
      rw [hq] at h
      cases h
    · rfl
  unfold progB at hp
  simp only [Bool.and_eq_true] at hp
  obtain ⟨-, -, hv, hsp, -⟩ := hp
  have hs := List.all_eq_true.1 hsp (D.spots.getD f spot0) (by simp [List.getD, e2])
  unfold spotB at hs
  generalize hE : D.edges.getD i edge0 = e at *
  have hk : e.k = 5 := by
    unfold mayZ faultL at hm
    by_cases hk : e.k = 5
    · exact hk
    · rw [if_neg hk] at hm
      simp at hm
  rw [hk] at e6
  have hx := alarm_expr hv e6
  unfold alarmZ alB
  dsimp only
  rw [e1, hk, Int.toNat_natCast, hx, hs]
  have h1 : (1 ≤ kindA e.x e.y ∧ kindA e.x e.y ≤ 3) := by unfold kindA; split <;> (try split) <;> omega
  have h2 : ∀ b, 1 ≤ sevA b ∧ sevA b ≤ 2 := by intro b; cases b <;> decide
  rw [decide_eq_true h1.1, decide_eq_true h1.2, decide_eq_true (h2 _).1, decide_eq_true (h2 _).2]
  rfl
end Go.Proofs.YtimgocfkogebmaaGreatDoor
namespace Go.Proofs.YtimgocfkogebmaaGreatDoor
open Go.RowKit
set_option linter.unusedVariables false
set_option linter.unusedSimpArgs false
theorem rclipV_any (n : Int) (w : World) : Calls Tryz.prog 195 #[.int .i64 n] w (Tells (.int .i64 (clipV n)) w) := by
  unfold clipV
  go_enter Tryz.func195, Tryz.ntmps195
  by_cases h1 : 1099511627776 < n
  · rw [if_pos h1]
    go_wp2
    go_ret
    exact ⟨rfl, rfl⟩
  · rw [if_neg h1]
    by_cases h2 : n < -1099511627776
    · rw [if_pos h2]
      go_wp2
      go_ret
      exact ⟨rfl, rfl⟩
    · rw [if_neg h2]
      go_wp2
      go_ret
      exact ⟨rfl, rfl⟩
theorem new_far {w : World} {a : Option Addr} {l : List Int} {g : Nat} (h : New w a) (hg : g < w.heap.size) : l = [] ∨ ∀ p, a = some p → g ≠ p.block := by
  right
  intro p hp
  have := h p hp
  omega
end Go.Proofs.YtimgocfkogebmaaGreatDoor
namespace Go.Proofs.YtimgocfkogebmaaGreatDoor
open Go.RowKit
set_option linter.unusedVariables false
set_option linter.unusedSimpArgs false
theorem ofP_in (a b : Int) : (-1099511627776 ≤ (ofP a b).1 ∧ (ofP a b).1 ≤ 1099511627776) ∧ (-1099511627776 ≤ (ofP a b).2 ∧ (ofP a b).2 ≤ 1099511627776) := by
  unfold ofP
  split
  · exact ⟨⟨by decide, by decide⟩, by decide, by decide⟩
  · exact ⟨clipV_in a, clipV_in b⟩
theorem boxP_in (xs : List (Int × Int)) (k : Nat) : (-1099511627776 ≤ (boxP xs k).1 ∧ (boxP xs k).1 ≤ 1099511627776) ∧ (-1099511627776 ≤ (boxP xs k).2 ∧ (boxP xs k).2 ≤ 1099511627776) := ofP_in _ _
theorem boxK_leq {n : Nat} {D : Nat → Nat → Int} (xs : List (Int × Int)) : ∀ k, k ≤ n → (Leq n D (mat n (boxK n xs k)) ↔ Leq n D (mat n (allL n)) ∧ ∀ t, t < k → D (t + 1) 0 ≤ (boxP xs t).2 ∧ D 0 (t + 1) ≤ -(boxP xs t).1) := by
  intro k
  induction k with
  | zero =>
    intro _
    constructor
    · intro h; exact ⟨h, fun t ht => by omega⟩
    · intro h; exact h.1
  | succ k ih =>
    intro hk
    have h := ih (by omega)
    have hl := boxK_len n xs k
    have e : boxK n xs (k + 1) = limL n (limL n (boxK n xs k) (k + 1) 0 (boxP xs k).2) 0 (k + 1) (-(clipV (boxP xs k).1)) := rfl
    rw [e, lim_leqF (by rw [limL_len, hl]) (Nat.zero_le _) hk, lim_leqF hl hk (Nat.zero_le _), h, clipV_id (boxP_in xs k).1.1 (boxP_in xs k).1.2]
    constructor
    · rintro ⟨⟨⟨q1, q2⟩, q3⟩, q4⟩
      refine ⟨q1, fun t ht => ?_⟩
      by_cases e2 : t = k
      · subst e2; exact ⟨q3, q4⟩
      · exact q2 t (by omega)
    · rintro ⟨q1, q2⟩
      exact ⟨⟨⟨q1, fun t ht => q2 t (by omega)⟩, (q2 k (by omega)).1⟩, (q2 k (by omega)).2⟩
theorem allL_full {n : Nat} (hn : n ≤ 8) : Full n (allL n) := by
  have e : closedL n (allL n) = allL n := by
    refine closedL_fix (matL_len _ _) ⟨fun i hi => ?_, fun i j k hi hj hk => ?_⟩ (fun i j hi hj => ?_)
    · unfold allL; rw [mat_matL _ hi hi]; unfold widestF; rw [if_pos rfl]
    · unfold allL
      rw [mat_matL _ hi hj, mat_matL _ hi hk, mat_matL _ hk hj]
      unfold widestF
      (repeat' split) <;> omega
    · unfold allL; rw [mat_matL _ hi hj]; exact Int.le_refl _
  have hl : (allL n).length = sz n := matL_len _ _
  exact ⟨hn, hl, by intro q; rw [q] at hl; exact sz_pos n hl.symm, e.symm⟩
def rbxK (n : Nat) (xs : List (Int × Int)) : Nat → List Int
  | 0 => allL n
  | k + 1 => limitL n (limitL n (rbxK n xs k) (k + 1) 0 (boxP xs k).2) 0 (k + 1) (-(boxP xs k).1)
theorem rbxK_isz {n : Nat} (hn : n ≤ 8) (xs : List (Int × Int)) (k : Nat) : IsZ n (rbxK n xs k) := by
  cases k with
  | zero => exact ⟨hn, .inr (allL_full hn)⟩
  | succ k => exact limitL_isz hn _ _ _ _
theorem lies_rbx {n : Nat} (hn : n ≤ 8) (xs : List (Int × Int)) {D : List Int} (hD : Full n D) : ∀ k, k ≤ n → (Lies n D (rbxK n xs k) ↔ Lies n D (allL n) ∧ ∀ t, t < k → mat n D (t + 1) 0 ≤ (boxP xs t).2 ∧ mat n D 0 (t + 1) ≤ -(boxP xs t).1) := by
  intro k
  induction k with
  | zero =>
    intro _
    constructor
    · intro h; exact ⟨h, fun t ht => by omega⟩
    · intro h; exact h.1
  | succ k ih =>
    intro hk
    have h := ih (by omega)
    have e : rbxK n xs (k + 1) = limitL n (limitL n (rbxK n xs k) (k + 1) 0 (boxP xs k).2) 0 (k + 1) (-(boxP xs k).1) := rfl
    rw [e, lies_limit hD (limitL_isz hn _ _ _ _) (Nat.zero_le _) hk, lies_limit hD (rbxK_isz hn xs k) hk (Nat.zero_le _), h]
    constructor
    · rintro ⟨⟨⟨q1, q2⟩, q3⟩, q4⟩
      refine ⟨q1, fun t ht => ?_⟩
      by_cases e2 : t = k
      · subst e2; exact ⟨q3, q4⟩
      · exact q2 t (by omega)
    · rintro ⟨q1, q2⟩
      exact ⟨⟨⟨q1, fun t ht => q2 t (by omega)⟩, (q2 k (by omega)).1⟩, (q2 k (by omega)).2⟩
def boxL (n : Nat) (xs : List (Int × Int)) : List Int := closedL n (boxK n xs n)
theorem boxL_isz {n : Nat} (hn : n ≤ 8) (xs : List (Int × Int)) : IsZ n (boxL n xs) := by
  unfold boxL
  by_cases h : closedL n (boxK n xs n) = []
  · rw [h]; exact ⟨hn, .inl rfl⟩
  · exact ⟨hn, .inr (closed_full hn h)⟩
theorem box_both {n : Nat} (hn : n ≤ 8) (xs : List (Int × Int)) : boxL n xs = rbxK n xs n := by
  have hA := allL_full hn
  refine lies_ext (boxL_isz hn xs) (rbxK_isz hn xs n) (fun D hD => ?_)
  rw [lies_rbx hn xs hD n (Nat.le_refl _)]
  have e : boxL n xs = stepL n (fun _ => boxK n xs n) (allL n) := by unfold boxL stepL; rw [if_neg hA.ne]
  rw [e]
  exact lies_step hD ⟨hn, .inr hA⟩ _ _ (fun _ => boxK_leq xs n (Nat.le_refl _))
end Go.Proofs.YtimgocfkogebmaaGreatDoor
namespace Go.Proofs.YtimgocfkogebmaaGreatDoor
open Go.RowKit
set_option linter.unusedVariables false
set_option linter.unusedSimpArgs false
theorem rofZ_any (a b : Int) (w : World) : Calls Tryz.prog 159 #[.int .i64 a, .int .i64 b] w (Gives (.agg #[.int .i64 (ofP a b).1, .int .i64 (ofP a b).2]) w) := by
  have hn := Lib.hid (fun w => rnone_any w)
  have c1 := Lib.hid (fun w => rclipV_any a w)
  have c2 := Lib.hid (fun w => rclipV_any b w)
  have hB := Lib.hid (box_below w #[.int .i64 0, .int .i64 0] 101)
  have hr := Lib.hid (show HI _ w.heap.size 0 0 from Holds.new w 101 #[.int .i64 0, .int .i64 0])
  unfold ofP
  by_cases h : b < a ∨ 1099511627776 < a ∨ b < -1099511627776
  · rw [if_pos h]
    have hd : (decide (b < a) || decide (1099511627776 < a) || decide (b < -1099511627776)) = true := by simp; omega
    clear h
    go_enter Tryz.func159, Tryz.ntmps159
    go_wp2_with fail
    all_goals (
      refine (hn.out _).mono ?_
      rintro e w1 ⟨rfl, h1⟩
      have k := hr.out.below h1 hr.out.lt
      have c0 := k.cell 0
      have c1 := k.cell 1
      have f0 := k.free 0
      have f1 := k.free 1
      have hfin := Lib.hid (hi_set k 1 0)
      have kb := Lib.hid (((hB.out.trans (h1.mono hB.out.size)).setCell (p := ⟨w.heap.size, 0, none⟩) (Nat.le_refl _) (.int .i64 1)).setCell (p := ⟨w.heap.size, 1, none⟩) (Nat.le_refl _) (.int .i64 0))
      clear k h1
      go_wp2
      exact itv_ret hfin.out ⟨rfl, kb.out⟩ _ _ 4 rfl rfl rfl)
  · rw [if_neg h]
    have d1 : decide (b < a) = false := by simp; omega
    have d2 : decide (1099511627776 < a) = false := by simp; omega
    have d3 : decide (b < -1099511627776) = false := by simp; omega
    generalize clipV a = x at *
    generalize clipV b = y at *
    clear h
    go_enter Tryz.func159, Tryz.ntmps159
    go_wp2_with fail
    refine (c1.out _).mono ?_
    rintro e w' ⟨rfl, rfl⟩
    go_wp2_with fail
    refine (c2.out _).mono ?_
    rintro e w' ⟨rfl, rfl⟩
    go_wp2
    exact itv_ret (Holds.new w _ _) ⟨rfl, box_below _ _ _⟩ _ _ 4 rfl rfl rfl
theorem rplainZ_any (a b : Int) (w : World) : Calls Tryz.prog 115 #[.agg #[.int .i64 a, .int .i64 b]] w (Gives (.agg #[.int .i64 (ofP a b).1, .int .i64 (ofP a b).2]) w) := by
  have c1 := Lib.hid (fun w => rofZ_any a b w)
  generalize ofP a b = P at *
  obtain ⟨W1, hW1⟩ : ∃ W1, W1 = (w.alloc (.cells #[.int .i64 a, .int .i64 b] 101)).alloc (.cells #[.int .i64 0, .int .i64 0] 101) := ⟨_, rfl⟩
  have hB : Below w.heap.size w W1 := by rw [hW1]; exact box2_below _ _ _ _ _
  have Z2 : HI W1 (w.heap.size + 1) 0 0 := by
    rw [hW1]
    have := Holds.new (w.alloc (.cells #[.int .i64 a, .int .i64 b] 101)) 101 #[.int .i64 0, .int .i64 0]
    simpa using this
  have hW1' := Lib.hid hW1
  have hB' := Lib.hid hB
  have Z2' := Lib.hid Z2
  clear hW1 hB Z2
  go_enter Tryz.func115, Tryz.ntmps115
  go_wp2_with fail
  rw [← hW1'.out]
  refine (c1.out _).mono ?_
  rintro e w1 ⟨rfl, b1⟩
  have k := Z2'.out.below b1 Z2'.out.lt
  have c0 := k.cell 0
  have c1 := k.cell 1
  have f0 := k.free 0
  have f1 := k.free 1
  have hfin := Lib.hid (hi_set k P.1 P.2)
  have kb := Lib.hid (((hB'.out.trans (b1.mono hB'.out.size)).setCell (p := ⟨w.heap.size + 1, 0, none⟩) (by show _ ≤ _ + 1; omega) (.int .i64 P.1)).setCell (p := ⟨w.heap.size + 1, 1, none⟩) (by show _ ≤ _ + 1; omega) (.int .i64 P.2))
  clear k b1
  go_wp2
  exact itv_ret hfin.out ⟨rfl, kb.out⟩ _ _ 2 rfl rfl rfl
theorem new_far2 {w : World} {a : Option Addr} {l : List Int} {g : Nat} (h : l = [] ∨ New w a) (hg : g < w.heap.size) : l = [] ∨ ∀ p, a = some p → g ≠ p.block := by
  rcases h with e | h
  · exact .inl e
  · exact new_far h hg
end Go.Proofs.YtimgocfkogebmaaGreatDoor
