/-
  Words and walks under the law's proof.
-/
import Derived.Test.YtimgocfkogebmaaGreatDoorQR06
import Derived.Test.YtimgocfkogebmaaGreatDoorQR07
import Derived.Test.YtimgocfkogebmaaGreatDoorQR08
import Derived.Test.YtimgocfkogebmaaGreatDoorQR09
namespace Go.Proofs.YtimgocfkogebmaaGreatDoor
open Go.RowKit
set_option linter.unusedVariables false
set_option linter.unusedSimpArgs false
def skipT : ByteArray := ⟨#[115, 107, 105, 112]⟩
def stmtT (l : List ByteArray) (k x y c d : Int) : ByteArray := if k = 1 then skipT else if k = 2 then letT l x y c else if k = 3 then anyT l x c d else if k = 4 then limT ⟨#[108, 105, 109, 105, 116]⟩ l x y c else limT ⟨#[99, 104, 101, 99, 107]⟩ l x y c
def showE (l : List ByteArray) (k x y c d : Int) : Int := if varsB l = true then (if rightB k x y c d (l.length : Int) = true then 0 else 111) else 110
def showP (l : List ByteArray) (k x y c d : Int) : ByteArray := if showE l k x y c d = 0 then stmtT l k x y c d else ⟨#[]⟩
theorem vars_name {l : List ByteArray} (h : varsB l = true) {s : ByteArray} (hs : s ∈ l) : nameB s = true ∧ takB s = false := by
  unfold varsB at h
  rw [Bool.and_eq_true, List.all_eq_true] at h
  obtain ⟨t, ht, rfl⟩ := List.getElem_of_mem hs
  have := h.2 t (List.mem_range.2 ht)
  unfold varB at this
  simp only [Bool.and_eq_true, Bool.not_eq_true'] at this
  have e : l.getD t e0 = l[t] := by simp [List.getD, ht]
  rw [e] at this
  exact ⟨this.1, this.2.1⟩
theorem vars_sz {l : List ByteArray} (h : varsB l = true) : ∀ s ∈ l, s.size ≤ 32 := fun s hs => by
  have := (vars_name h hs).1
  unfold nameB at this
  rw [Bool.and_eq_true, decide_eq_true_eq] at this
  exact this.1
theorem right_kind {k x y c d n : Int} (h : rightB k x y c d n = true) : 1 ≤ k ∧ k ≤ 5 := by
  unfold rightB at h
  split at h
  · cases h
  · omega
theorem right_let {x y c d n : Int} (h : rightB 2 x y c d n = true) : 1 ≤ x ∧ x ≤ n ∧ 0 ≤ y ∧ y ≤ n ∧ (-1099511627776 ≤ c ∧ c ≤ 1099511627776) ∧ d = 0 := by
  unfold rightB at h
  split at h
  · cases h
  · simp only [stmtB, letB, isVarB, isTermB, isValB, show ¬ (2 : Int) = 1 by omega, if_false, if_true, Bool.and_eq_true, decide_eq_true_eq, beq_iff_eq] at h
    exact ⟨h.1.1, h.1.2, h.2.1.1, h.2.1.2, h.2.2.1, h.2.2.2⟩
theorem right_any' {x y c d n : Int} (h : rightB 3 x y c d n = true) : 1 ≤ x ∧ x ≤ n ∧ y = 0 ∧ (-1099511627776 ≤ c ∧ c ≤ 1099511627776) ∧ (-1099511627776 ≤ d ∧ d ≤ 1099511627776) ∧ c ≤ d := by
  unfold rightB at h
  split at h
  · cases h
  · simp only [stmtB, anyB, isVarB, isTermB, isValB, show ¬ (3 : Int) = 1 by omega, show ¬ (3 : Int) = 2 by omega, if_false, if_true, Bool.and_eq_true, decide_eq_true_eq, beq_iff_eq] at h
    exact ⟨h.1.1, h.1.2, h.2.1, h.2.2.1, h.2.2.2.1, h.2.2.2.2⟩
theorem right_diff {k x y c d n : Int} (hk : k = 4 ∨ k = 5) (h : rightB k x y c d n = true) : 0 ≤ x ∧ x ≤ n ∧ 0 ≤ y ∧ y ≤ n ∧ x ≠ y ∧ (-1099511627776 ≤ c ∧ c ≤ 1099511627776) ∧ d = 0 := by
  unfold rightB at h
  split at h
  · cases h
  · unfold stmtB at h
    rw [if_neg (by omega), if_neg (by omega), if_neg (by omega)] at h
    simp only [diffB, isVarB, isTermB, isValB, Bool.and_eq_true, decide_eq_true_eq, beq_iff_eq, bne_iff_ne] at h
    exact ⟨h.1.1, h.1.2, h.2.1.1, h.2.1.2, h.2.2.1, h.2.2.2.1, h.2.2.2.2⟩
set_option maxRecDepth 100000 in
set_option maxHeartbeats 2000000 in
theorem pshow_1 (a : Option Addr) (n cp : Nat) (l : List ByteArray) (x y c d : Int) (T : ByteArray) (hv : varsB l = true) (hr : rightB 1 x y c d (n : Int) = true)
    (hq : ∀ W, Tab W → TT W a n cp l → Calls Tryz.prog 175 #[.slice a n cp, .agg #[.int .i64 1, .int .i64 x, .int .i64 y, .int .i64 c, .int .i64 d]] W (Gives (.string T) W)) (w : World) (ht : Tab w) (h : TT w a n cp l) :
    Calls Tryz.prog 85 #[.slice a n cp, .agg #[.int .i64 1, .int .i64 x, .int .i64 y, .int .i64 c, .int .i64 d]] w (Gives (.tuple #[.string T, .int .i64 0]) w) := by
  have q1 := Lib.hid (fun W hW => rightVars_any a n cp l W hW)
  have q2 := Lib.hid (fun W => right_any 1 x y c d (n : Int) W)
  rw [hv] at q1
  rw [hr] at q2
  obtain ⟨W1, hW1⟩ : ∃ W1, W1 = w.alloc (.cells #[.int .i64 1, .int .i64 x, .int .i64 y, .int .i64 c, .int .i64 d] 73) := ⟨_, rfl⟩
  have BL := Lib.hid (show Below w.heap.size w W1 by rw [hW1]; exact box_below _ _ _)
  have HZ : Hid (Holds W1 w.heap.size 73 #[.int .i64 1, .int .i64 x, .int .i64 y, .int .i64 c, .int .i64 d]) := Lib.hid (by rw [hW1]; exact Holds.new w _ _)
  have T1 := Lib.hid (ht.on BL.out)
  have V := Lib.hid (h.below BL.out)
  have hW1' := Lib.hid hW1
  have hq' := Lib.hid hq
  have hn : (n : Int) ≤ 9223372036854775807 := by have := h.cap; have := h.max; unfold maxLen at this; omega
  have hix : ∀ W, (Instr.index 162 (.agg kindsA) (.int .i64 1)).run Tryz.prog W = .ok (.agg #[.func (.func 174) #[] #[], .func (.func 175) #[] #[]]) W := fun W => by kernel_rfl
  have hfd : ∀ W, (Instr.field 161 (.agg #[.func (.func 174) #[] #[], .func (.func 175) #[] #[]]) 1).run Tryz.prog W = .ok (.func (.func 175) #[] #[]) W := fun W => by kernel_rfl
  clear hW1 hq hv hr ht h
  go_enter Tryz.func85, Tryz.ntmps85
  go_wp2_with fail
  rw [← hW1'.out]
  with_reducible refine (q1.out W1 V.out).mono ?_
  rintro e u1 ⟨rfl, b1⟩
  replace HZ := Lib.hid (HZ.out.below b1 HZ.out.lt)
  replace V := Lib.hid (V.out.below b1)
  replace T1 := Lib.hid (T1.out.on b1)
  replace BL := Lib.hid (BL.out.trans (b1.mono BL.out.size))
  clear b1 hW1' q1
  have k0 := HZ.out.cell 0
  have k1 := HZ.out.cell 1
  have k2 := HZ.out.cell 2
  have k3 := HZ.out.cell 3
  have k4 := HZ.out.cell 4
  go_wp2_with fail
  refine (q2.out u1).mono ?_
  rintro e u2 ⟨rfl, b1⟩
  replace HZ := Lib.hid (HZ.out.below b1 HZ.out.lt)
  replace V := Lib.hid (V.out.below b1)
  replace T1 := Lib.hid (T1.out.on b1)
  replace BL := Lib.hid (BL.out.trans (b1.mono BL.out.size))
  clear b1 q2 k0 k1 k2 k3 k4
  go_wp2
  have g0 : ∀ W, Below u2.heap.size u2 W → W.cell? ⟨w.heap.size, 0, none⟩ = some (.int .i64 1) := fun W hW => (HZ.out.below hW HZ.out.lt).cell 0
  have g1 : ∀ W, Below u2.heap.size u2 W → W.cell? ⟨w.heap.size, 1, none⟩ = some (.int .i64 x) := fun W hW => (HZ.out.below hW HZ.out.lt).cell 1
  have g2 : ∀ W, Below u2.heap.size u2 W → W.cell? ⟨w.heap.size, 2, none⟩ = some (.int .i64 y) := fun W hW => (HZ.out.below hW HZ.out.lt).cell 2
  have g3 : ∀ W, Below u2.heap.size u2 W → W.cell? ⟨w.heap.size, 3, none⟩ = some (.int .i64 c) := fun W hW => (HZ.out.below hW HZ.out.lt).cell 3
  have g4 : ∀ W, Below u2.heap.size u2 W → W.cell? ⟨w.heap.size, 4, none⟩ = some (.int .i64 d) := fun W hW => (HZ.out.below hW HZ.out.lt).cell 4
  refine wp_drawn_on (fun W => Below u2.heap.size u2 W) (by kernel_rfl) ((Below.refl _ _).drew) (fun hHeld => ?_)
  refine wpAnyH_take (i := 1) (oi := { dst := some 15, op := Go.Op.fieldAddr 73 (Go.Operand.tmp 3) 0, type := 0, pos := "stmt.go:31", after := #[], guard := none }) (v := ?v1) rfl (by kernel_rfl) (by kernel_rfl) (by kernel_rfl) (fun _ _ _ h => h) (Or.inl ⟨by kernel_rfl, ?h1⟩) (by assumption) ?r1
  case h1 => (intro w hSw; (try dsimp only at hSw); go_simp; try with_reducible rfl)
  try simp only [Act.put, List.setIfInBounds_toArray, List.set_cons_zero, List.set_cons_succ]
  refine wpAnyH_take (i := 2) (oi := { dst := some 16, op := Go.Op.load 3 (Go.Operand.tmp 15), type := 3, pos := "stmt.go:31", after := #[{ on := 1, ground := Go.Ground.data }], guard := none }) (v := ?v2) rfl (by kernel_rfl) (by kernel_rfl) (by kernel_rfl) (fun _ _ _ h => h) (Or.inl ⟨by kernel_rfl, ?h2⟩) (by assumption) ?r2
  case h2 => (intro w hSw; (try dsimp only at hSw); go_simp; try with_reducible rfl)
  try simp only [Act.put, List.setIfInBounds_toArray, List.set_cons_zero, List.set_cons_succ]
  refine wpAnyH_take (i := 5) (oi := { dst := some 19, op := Go.Op.move (Go.Operand.tmp 0), type := 34, pos := "stmt.go:31", after := #[], guard := none }) (v := ?v3) rfl (by kernel_rfl) (by kernel_rfl) (by kernel_rfl) (fun _ _ _ h => h) (Or.inl ⟨by kernel_rfl, ?h3⟩) (by assumption) ?r3
  case h3 => (intro w hSw; (try dsimp only at hSw); go_simp; try with_reducible rfl)
  try simp only [Act.put, List.setIfInBounds_toArray, List.set_cons_zero, List.set_cons_succ]
  refine wpAnyH_take (i := 6) (oi := { dst := some 20, op := Go.Op.load 73 (Go.Operand.tmp 3), type := 73, pos := "stmt.go:31", after := #[], guard := none }) (v := ?v4) rfl (by kernel_rfl) (by kernel_rfl) (by kernel_rfl) (fun _ _ _ h => h) (Or.inl ⟨by kernel_rfl, ?h4⟩) (by assumption) ?r4
  case h4 => (intro w hSw; (try dsimp only at hSw); go_simp; try with_reducible rfl)
  try simp only [Act.put, List.setIfInBounds_toArray, List.set_cons_zero, List.set_cons_succ]
  refine wpAnyH_ready (rs := [0]) (by kernel_rfl) (by simp) ?_
  refine AllReadyH.cons (o := { dst := some 14, op := Go.Op.call { callee := Go.Callee.value (Go.Operand.func 137), args := #[], argTypes := #[] }, type := 162, pos := "stmt.go:31", after := #[], guard := none }) rfl (fun K hK => ?_) AllReadyH.nil
  go_simp
  refine (kinds_any _).mono ?_
  rintro e t0 ⟨rfl, b0⟩
  go_simp
  refine hK.out _ _ (hHeld.trans (b0.mono hHeld.size)) (fun hHeld => ?_)
  clear hK K
  try simp only [Act.put, List.setIfInBounds_toArray, List.set_cons_zero, List.set_cons_succ]
  refine wpAnyH_take (i := 3) (oi := { dst := some 17, op := Go.Op.index 162 (Go.Operand.tmp 14) (Go.Operand.tmp 16), type := 161, pos := "stmt.go:31", after := #[{ on := 0, ground := Go.Ground.data }, { on := 2, ground := Go.Ground.data }], guard := none }) (v := ?v5) rfl (by kernel_rfl) (by kernel_rfl) (by kernel_rfl) (fun _ _ _ h => h) (Or.inl ⟨by kernel_rfl, ?h5⟩) (by assumption) ?r5
  case h5 => (intro w hSw; (try dsimp only at hSw); go_simp; try with_reducible rfl)
  try simp only [Act.put, List.setIfInBounds_toArray, List.set_cons_zero, List.set_cons_succ]
  refine wpAnyH_take (i := 4) (oi := { dst := some 18, op := Go.Op.field 161 (Go.Operand.tmp 17) 1, type := 82, pos := "stmt.go:31", after := #[{ on := 3, ground := Go.Ground.data }], guard := none }) (v := ?v6) rfl (by kernel_rfl) (by kernel_rfl) (by kernel_rfl) (fun _ _ _ h => h) (Or.inl ⟨by kernel_rfl, ?h6⟩) (by assumption) ?r6
  case h6 => (intro w hSw; (try dsimp only at hSw); go_simp; try with_reducible rfl)
  try simp only [Act.put, List.setIfInBounds_toArray, List.set_cons_zero, List.set_cons_succ]
  refine wpAnyH_ready (rs := [7]) (by kernel_rfl) (by simp) ?_
  refine AllReadyH.cons (o := { dst := some 21, op := Go.Op.call { callee := Go.Callee.value (Go.Operand.tmp 18), args := #[Go.Operand.tmp 19, Go.Operand.tmp 20], argTypes := #[34, 73] }, type := 9, pos := "stmt.go:31", after := #[{ on := 4, ground := Go.Ground.data }, { on := 5, ground := Go.Ground.data }, { on := 6, ground := Go.Ground.data }, { on := 0, ground := Go.Ground.chain }], guard := none }) rfl (fun K hK => ?_) AllReadyH.nil
  go_simp
  refine (hq'.out _ (T1.out.on hHeld) (V.out.below hHeld)).mono ?_
  rintro e t7 ⟨rfl, b7⟩
  go_simp
  refine hK.out _ _ (hHeld.trans (b7.mono hHeld.size)) (fun hHeld => ?_)
  clear hK K
  try simp only [Act.put, List.setIfInBounds_toArray, List.set_cons_zero, List.set_cons_succ]
  refine wpAnyH_take (i := 8) (oi := { dst := some 4, op := Go.Op.assign (Go.Operand.tmp 21), type := 9, pos := "stmt.go:31", after := #[{ on := 7, ground := Go.Ground.data }, { on := 7, ground := Go.Ground.chain }, { on := 0, ground := Go.Ground.phase }, { on := 1, ground := Go.Ground.phase }, { on := 2, ground := Go.Ground.phase }, { on := 3, ground := Go.Ground.phase }, { on := 4, ground := Go.Ground.phase }, { on := 5, ground := Go.Ground.phase }, { on := 6, ground := Go.Ground.phase }, { on := 7, ground := Go.Ground.phase }], guard := none }) (v := ?v7) rfl (by kernel_rfl) (by kernel_rfl) (by kernel_rfl) (fun _ _ _ h => h) (Or.inl ⟨by kernel_rfl, ?h7⟩) (by assumption) ?r7
  case h7 => (intro w hSw; (try dsimp only at hSw); go_simp; try with_reducible rfl)
  try simp only [Act.put, List.setIfInBounds_toArray, List.set_cons_zero, List.set_cons_succ]
  refine wpAnyH_take (i := 9) (oi := { dst := some 5, op := Go.Op.assign (Go.Operand.const (Go.Value.int Go.IntKind.i64 0)), type := 27, pos := "stmt.go:31", after := #[{ on := 8, ground := Go.Ground.chain }, { on := 0, ground := Go.Ground.phase }, { on := 1, ground := Go.Ground.phase }, { on := 2, ground := Go.Ground.phase }, { on := 3, ground := Go.Ground.phase }, { on := 4, ground := Go.Ground.phase }, { on := 5, ground := Go.Ground.phase }, { on := 6, ground := Go.Ground.phase }, { on := 7, ground := Go.Ground.phase }, { on := 8, ground := Go.Ground.phase }], guard := none }) (v := ?v8) rfl (by kernel_rfl) (by kernel_rfl) (by kernel_rfl) (fun _ _ _ h => h) (Or.inl ⟨by kernel_rfl, ?h8⟩) (by assumption) ?r8
  case h8 => (intro w hSw; (try dsimp only at hSw); go_simp; try with_reducible rfl)
  try simp only [Act.put, List.setIfInBounds_toArray, List.set_cons_zero, List.set_cons_succ]
  refine wpAnyH_done (by kernel_rfl) ?_ _
  go_wp2
  go_ret2
  exact ⟨rfl, BL.out.trans (hHeld.mono BL.out.size)⟩
set_option maxRecDepth 100000 in
set_option maxHeartbeats 2000000 in
theorem pshow_2 (a : Option Addr) (n cp : Nat) (l : List ByteArray) (x y c d : Int) (T : ByteArray) (hv : varsB l = true) (hr : rightB 2 x y c d (n : Int) = true)
    (hq : ∀ W, Tab W → TT W a n cp l → Calls Tryz.prog 177 #[.slice a n cp, .agg #[.int .i64 2, .int .i64 x, .int .i64 y, .int .i64 c, .int .i64 d]] W (Gives (.string T) W)) (w : World) (ht : Tab w) (h : TT w a n cp l) :
    Calls Tryz.prog 85 #[.slice a n cp, .agg #[.int .i64 2, .int .i64 x, .int .i64 y, .int .i64 c, .int .i64 d]] w (Gives (.tuple #[.string T, .int .i64 0]) w) := by
  have q1 := Lib.hid (fun W hW => rightVars_any a n cp l W hW)
  have q2 := Lib.hid (fun W => right_any 2 x y c d (n : Int) W)
  rw [hv] at q1
  rw [hr] at q2
  obtain ⟨W1, hW1⟩ : ∃ W1, W1 = w.alloc (.cells #[.int .i64 2, .int .i64 x, .int .i64 y, .int .i64 c, .int .i64 d] 73) := ⟨_, rfl⟩
  have BL := Lib.hid (show Below w.heap.size w W1 by rw [hW1]; exact box_below _ _ _)
  have HZ : Hid (Holds W1 w.heap.size 73 #[.int .i64 2, .int .i64 x, .int .i64 y, .int .i64 c, .int .i64 d]) := Lib.hid (by rw [hW1]; exact Holds.new w _ _)
  have T1 := Lib.hid (ht.on BL.out)
  have V := Lib.hid (h.below BL.out)
  have hW1' := Lib.hid hW1
  have hq' := Lib.hid hq
  have hn : (n : Int) ≤ 9223372036854775807 := by have := h.cap; have := h.max; unfold maxLen at this; omega
  have hix : ∀ W, (Instr.index 162 (.agg kindsA) (.int .i64 2)).run Tryz.prog W = .ok (.agg #[.func (.func 176) #[] #[], .func (.func 177) #[] #[]]) W := fun W => by kernel_rfl
  have hfd : ∀ W, (Instr.field 161 (.agg #[.func (.func 176) #[] #[], .func (.func 177) #[] #[]]) 1).run Tryz.prog W = .ok (.func (.func 177) #[] #[]) W := fun W => by kernel_rfl
  clear hW1 hq hv hr ht h
  go_enter Tryz.func85, Tryz.ntmps85
  go_wp2_with fail
  rw [← hW1'.out]
  with_reducible refine (q1.out W1 V.out).mono ?_
  rintro e u1 ⟨rfl, b1⟩
  replace HZ := Lib.hid (HZ.out.below b1 HZ.out.lt)
  replace V := Lib.hid (V.out.below b1)
  replace T1 := Lib.hid (T1.out.on b1)
  replace BL := Lib.hid (BL.out.trans (b1.mono BL.out.size))
  clear b1 hW1' q1
  have k0 := HZ.out.cell 0
  have k1 := HZ.out.cell 1
  have k2 := HZ.out.cell 2
  have k3 := HZ.out.cell 3
  have k4 := HZ.out.cell 4
  go_wp2_with fail
  refine (q2.out u1).mono ?_
  rintro e u2 ⟨rfl, b1⟩
  replace HZ := Lib.hid (HZ.out.below b1 HZ.out.lt)
  replace V := Lib.hid (V.out.below b1)
  replace T1 := Lib.hid (T1.out.on b1)
  replace BL := Lib.hid (BL.out.trans (b1.mono BL.out.size))
  clear b1 q2 k0 k1 k2 k3 k4
  go_wp2
  have g0 : ∀ W, Below u2.heap.size u2 W → W.cell? ⟨w.heap.size, 0, none⟩ = some (.int .i64 2) := fun W hW => (HZ.out.below hW HZ.out.lt).cell 0
  have g1 : ∀ W, Below u2.heap.size u2 W → W.cell? ⟨w.heap.size, 1, none⟩ = some (.int .i64 x) := fun W hW => (HZ.out.below hW HZ.out.lt).cell 1
  have g2 : ∀ W, Below u2.heap.size u2 W → W.cell? ⟨w.heap.size, 2, none⟩ = some (.int .i64 y) := fun W hW => (HZ.out.below hW HZ.out.lt).cell 2
  have g3 : ∀ W, Below u2.heap.size u2 W → W.cell? ⟨w.heap.size, 3, none⟩ = some (.int .i64 c) := fun W hW => (HZ.out.below hW HZ.out.lt).cell 3
  have g4 : ∀ W, Below u2.heap.size u2 W → W.cell? ⟨w.heap.size, 4, none⟩ = some (.int .i64 d) := fun W hW => (HZ.out.below hW HZ.out.lt).cell 4
  refine wp_drawn_on (fun W => Below u2.heap.size u2 W) (by kernel_rfl) ((Below.refl _ _).drew) (fun hHeld => ?_)
  refine wpAnyH_take (i := 1) (oi := { dst := some 15, op := Go.Op.fieldAddr 73 (Go.Operand.tmp 3) 0, type := 0, pos := "stmt.go:31", after := #[], guard := none }) (v := ?v9) rfl (by kernel_rfl) (by kernel_rfl) (by kernel_rfl) (fun _ _ _ h => h) (Or.inl ⟨by kernel_rfl, ?h9⟩) (by assumption) ?r9
  case h9 => (intro w hSw; (try dsimp only at hSw); go_simp; try with_reducible rfl)
  try simp only [Act.put, List.setIfInBounds_toArray, List.set_cons_zero, List.set_cons_succ]
  refine wpAnyH_take (i := 2) (oi := { dst := some 16, op := Go.Op.load 3 (Go.Operand.tmp 15), type := 3, pos := "stmt.go:31", after := #[{ on := 1, ground := Go.Ground.data }], guard := none }) (v := ?v10) rfl (by kernel_rfl) (by kernel_rfl) (by kernel_rfl) (fun _ _ _ h => h) (Or.inl ⟨by kernel_rfl, ?h10⟩) (by assumption) ?r10
  case h10 => (intro w hSw; (try dsimp only at hSw); go_simp; try with_reducible rfl)
  try simp only [Act.put, List.setIfInBounds_toArray, List.set_cons_zero, List.set_cons_succ]
  refine wpAnyH_take (i := 5) (oi := { dst := some 19, op := Go.Op.move (Go.Operand.tmp 0), type := 34, pos := "stmt.go:31", after := #[], guard := none }) (v := ?v11) rfl (by kernel_rfl) (by kernel_rfl) (by kernel_rfl) (fun _ _ _ h => h) (Or.inl ⟨by kernel_rfl, ?h11⟩) (by assumption) ?r11
  case h11 => (intro w hSw; (try dsimp only at hSw); go_simp; try with_reducible rfl)
  try simp only [Act.put, List.setIfInBounds_toArray, List.set_cons_zero, List.set_cons_succ]
  refine wpAnyH_take (i := 6) (oi := { dst := some 20, op := Go.Op.load 73 (Go.Operand.tmp 3), type := 73, pos := "stmt.go:31", after := #[], guard := none }) (v := ?v12) rfl (by kernel_rfl) (by kernel_rfl) (by kernel_rfl) (fun _ _ _ h => h) (Or.inl ⟨by kernel_rfl, ?h12⟩) (by assumption) ?r12
  case h12 => (intro w hSw; (try dsimp only at hSw); go_simp; try with_reducible rfl)
  try simp only [Act.put, List.setIfInBounds_toArray, List.set_cons_zero, List.set_cons_succ]
  refine wpAnyH_ready (rs := [0]) (by kernel_rfl) (by simp) ?_
  refine AllReadyH.cons (o := { dst := some 14, op := Go.Op.call { callee := Go.Callee.value (Go.Operand.func 137), args := #[], argTypes := #[] }, type := 162, pos := "stmt.go:31", after := #[], guard := none }) rfl (fun K hK => ?_) AllReadyH.nil
  go_simp
  refine (kinds_any _).mono ?_
  rintro e t0 ⟨rfl, b0⟩
  go_simp
  refine hK.out _ _ (hHeld.trans (b0.mono hHeld.size)) (fun hHeld => ?_)
  clear hK K
  try simp only [Act.put, List.setIfInBounds_toArray, List.set_cons_zero, List.set_cons_succ]
  refine wpAnyH_take (i := 3) (oi := { dst := some 17, op := Go.Op.index 162 (Go.Operand.tmp 14) (Go.Operand.tmp 16), type := 161, pos := "stmt.go:31", after := #[{ on := 0, ground := Go.Ground.data }, { on := 2, ground := Go.Ground.data }], guard := none }) (v := ?v13) rfl (by kernel_rfl) (by kernel_rfl) (by kernel_rfl) (fun _ _ _ h => h) (Or.inl ⟨by kernel_rfl, ?h13⟩) (by assumption) ?r13
  case h13 => (intro w hSw; (try dsimp only at hSw); go_simp; try with_reducible rfl)
  try simp only [Act.put, List.setIfInBounds_toArray, List.set_cons_zero, List.set_cons_succ]
  refine wpAnyH_take (i := 4) (oi := { dst := some 18, op := Go.Op.field 161 (Go.Operand.tmp 17) 1, type := 82, pos := "stmt.go:31", after := #[{ on := 3, ground := Go.Ground.data }], guard := none }) (v := ?v14) rfl (by kernel_rfl) (by kernel_rfl) (by kernel_rfl) (fun _ _ _ h => h) (Or.inl ⟨by kernel_rfl, ?h14⟩) (by assumption) ?r14
  case h14 => (intro w hSw; (try dsimp only at hSw); go_simp; try with_reducible rfl)
  try simp only [Act.put, List.setIfInBounds_toArray, List.set_cons_zero, List.set_cons_succ]
  refine wpAnyH_ready (rs := [7]) (by kernel_rfl) (by simp) ?_
  refine AllReadyH.cons (o := { dst := some 21, op := Go.Op.call { callee := Go.Callee.value (Go.Operand.tmp 18), args := #[Go.Operand.tmp 19, Go.Operand.tmp 20], argTypes := #[34, 73] }, type := 9, pos := "stmt.go:31", after := #[{ on := 4, ground := Go.Ground.data }, { on := 5, ground := Go.Ground.data }, { on := 6, ground := Go.Ground.data }, { on := 0, ground := Go.Ground.chain }], guard := none }) rfl (fun K hK => ?_) AllReadyH.nil
  go_simp
  refine (hq'.out _ (T1.out.on hHeld) (V.out.below hHeld)).mono ?_
  rintro e t7 ⟨rfl, b7⟩
  go_simp
  refine hK.out _ _ (hHeld.trans (b7.mono hHeld.size)) (fun hHeld => ?_)
  clear hK K
  try simp only [Act.put, List.setIfInBounds_toArray, List.set_cons_zero, List.set_cons_succ]
  refine wpAnyH_take (i := 8) (oi := { dst := some 4, op := Go.Op.assign (Go.Operand.tmp 21), type := 9, pos := "stmt.go:31", after := #[{ on := 7, ground := Go.Ground.data }, { on := 7, ground := Go.Ground.chain }, { on := 0, ground := Go.Ground.phase }, { on := 1, ground := Go.Ground.phase }, { on := 2, ground := Go.Ground.phase }, { on := 3, ground := Go.Ground.phase }, { on := 4, ground := Go.Ground.phase }, { on := 5, ground := Go.Ground.phase }, { on := 6, ground := Go.Ground.phase }, { on := 7, ground := Go.Ground.phase }], guard := none }) (v := ?v15) rfl (by kernel_rfl) (by kernel_rfl) (by kernel_rfl) (fun _ _ _ h => h) (Or.inl ⟨by kernel_rfl, ?h15⟩) (by assumption) ?r15
  case h15 => (intro w hSw; (try dsimp only at hSw); go_simp; try with_reducible rfl)
  try simp only [Act.put, List.setIfInBounds_toArray, List.set_cons_zero, List.set_cons_succ]
  refine wpAnyH_take (i := 9) (oi := { dst := some 5, op := Go.Op.assign (Go.Operand.const (Go.Value.int Go.IntKind.i64 0)), type := 27, pos := "stmt.go:31", after := #[{ on := 8, ground := Go.Ground.chain }, { on := 0, ground := Go.Ground.phase }, { on := 1, ground := Go.Ground.phase }, { on := 2, ground := Go.Ground.phase }, { on := 3, ground := Go.Ground.phase }, { on := 4, ground := Go.Ground.phase }, { on := 5, ground := Go.Ground.phase }, { on := 6, ground := Go.Ground.phase }, { on := 7, ground := Go.Ground.phase }, { on := 8, ground := Go.Ground.phase }], guard := none }) (v := ?v16) rfl (by kernel_rfl) (by kernel_rfl) (by kernel_rfl) (fun _ _ _ h => h) (Or.inl ⟨by kernel_rfl, ?h16⟩) (by assumption) ?r16
  case h16 => (intro w hSw; (try dsimp only at hSw); go_simp; try with_reducible rfl)
  try simp only [Act.put, List.setIfInBounds_toArray, List.set_cons_zero, List.set_cons_succ]
  refine wpAnyH_done (by kernel_rfl) ?_ _
  go_wp2
  go_ret2
  exact ⟨rfl, BL.out.trans (hHeld.mono BL.out.size)⟩
set_option maxRecDepth 100000 in
set_option maxHeartbeats 2000000 in
theorem pshow_3 (a : Option Addr) (n cp : Nat) (l : List ByteArray) (x y c d : Int) (T : ByteArray) (hv : varsB l = true) (hr : rightB 3 x y c d (n : Int) = true)
    (hq : ∀ W, Tab W → TT W a n cp l → Calls Tryz.prog 179 #[.slice a n cp, .agg #[.int .i64 3, .int .i64 x, .int .i64 y, .int .i64 c, .int .i64 d]] W (Gives (.string T) W)) (w : World) (ht : Tab w) (h : TT w a n cp l) :
    Calls Tryz.prog 85 #[.slice a n cp, .agg #[.int .i64 3, .int .i64 x, .int .i64 y, .int .i64 c, .int .i64 d]] w (Gives (.tuple #[.string T, .int .i64 0]) w) := by
  have q1 := Lib.hid (fun W hW => rightVars_any a n cp l W hW)
  have q2 := Lib.hid (fun W => right_any 3 x y c d (n : Int) W)
  rw [hv] at q1
  rw [hr] at q2
  obtain ⟨W1, hW1⟩ : ∃ W1, W1 = w.alloc (.cells #[.int .i64 3, .int .i64 x, .int .i64 y, .int .i64 c, .int .i64 d] 73) := ⟨_, rfl⟩
  have BL := Lib.hid (show Below w.heap.size w W1 by rw [hW1]; exact box_below _ _ _)
  have HZ : Hid (Holds W1 w.heap.size 73 #[.int .i64 3, .int .i64 x, .int .i64 y, .int .i64 c, .int .i64 d]) := Lib.hid (by rw [hW1]; exact Holds.new w _ _)
  have T1 := Lib.hid (ht.on BL.out)
  have V := Lib.hid (h.below BL.out)
  have hW1' := Lib.hid hW1
  have hq' := Lib.hid hq
  have hn : (n : Int) ≤ 9223372036854775807 := by have := h.cap; have := h.max; unfold maxLen at this; omega
  have hix : ∀ W, (Instr.index 162 (.agg kindsA) (.int .i64 3)).run Tryz.prog W = .ok (.agg #[.func (.func 178) #[] #[], .func (.func 179) #[] #[]]) W := fun W => by kernel_rfl
  have hfd : ∀ W, (Instr.field 161 (.agg #[.func (.func 178) #[] #[], .func (.func 179) #[] #[]]) 1).run Tryz.prog W = .ok (.func (.func 179) #[] #[]) W := fun W => by kernel_rfl
  clear hW1 hq hv hr ht h
  go_enter Tryz.func85, Tryz.ntmps85
  go_wp2_with fail
  rw [← hW1'.out]
  with_reducible refine (q1.out W1 V.out).mono ?_
  rintro e u1 ⟨rfl, b1⟩
  replace HZ := Lib.hid (HZ.out.below b1 HZ.out.lt)
  replace V := Lib.hid (V.out.below b1)
  replace T1 := Lib.hid (T1.out.on b1)
  replace BL := Lib.hid (BL.out.trans (b1.mono BL.out.size))
  clear b1 hW1' q1
  have k0 := HZ.out.cell 0
  have k1 := HZ.out.cell 1
  have k2 := HZ.out.cell 2
  have k3 := HZ.out.cell 3
  have k4 := HZ.out.cell 4
  go_wp2_with fail
  refine (q2.out u1).mono ?_
  rintro e u2 ⟨rfl, b1⟩
  replace HZ := Lib.hid (HZ.out.below b1 HZ.out.lt)
  replace V := Lib.hid (V.out.below b1)
  replace T1 := Lib.hid (T1.out.on b1)
  replace BL := Lib.hid (BL.out.trans (b1.mono BL.out.size))
  clear b1 q2 k0 k1 k2 k3 k4
  go_wp2
  have g0 : ∀ W, Below u2.heap.size u2 W → W.cell? ⟨w.heap.size, 0, none⟩ = some (.int .i64 3) := fun W hW => (HZ.out.below hW HZ.out.lt).cell 0
  have g1 : ∀ W, Below u2.heap.size u2 W → W.cell? ⟨w.heap.size, 1, none⟩ = some (.int .i64 x) := fun W hW => (HZ.out.below hW HZ.out.lt).cell 1
  have g2 : ∀ W, Below u2.heap.size u2 W → W.cell? ⟨w.heap.size, 2, none⟩ = some (.int .i64 y) := fun W hW => (HZ.out.below hW HZ.out.lt).cell 2
  have g3 : ∀ W, Below u2.heap.size u2 W → W.cell? ⟨w.heap.size, 3, none⟩ = some (.int .i64 c) := fun W hW => (HZ.out.below hW HZ.out.lt).cell 3
  have g4 : ∀ W, Below u2.heap.size u2 W → W.cell? ⟨w.heap.size, 4, none⟩ = some (.int .i64 d) := fun W hW => (HZ.out.below hW HZ.out.lt).cell 4
  refine wp_drawn_on (fun W => Below u2.heap.size u2 W) (by kernel_rfl) ((Below.refl _ _).drew) (fun hHeld => ?_)
  refine wpAnyH_take (i := 1) (oi := { dst := some 15, op := Go.Op.fieldAddr 73 (Go.Operand.tmp 3) 0, type := 0, pos := "stmt.go:31", after := #[], guard := none }) (v := ?v17) rfl (by kernel_rfl) (by kernel_rfl) (by kernel_rfl) (fun _ _ _ h => h) (Or.inl ⟨by kernel_rfl, ?h17⟩) (by assumption) ?r17
  case h17 => (intro w hSw; (try dsimp only at hSw); go_simp; try with_reducible rfl)
  try simp only [Act.put, List.setIfInBounds_toArray, List.set_cons_zero, List.set_cons_succ]
  refine wpAnyH_take (i := 2) (oi := { dst := some 16, op := Go.Op.load 3 (Go.Operand.tmp 15), type := 3, pos := "stmt.go:31", after := #[{ on := 1, ground := Go.Ground.data }], guard := none }) (v := ?v18) rfl (by kernel_rfl) (by kernel_rfl) (by kernel_rfl) (fun _ _ _ h => h) (Or.inl ⟨by kernel_rfl, ?h18⟩) (by assumption) ?r18
  case h18 => (intro w hSw; (try dsimp only at hSw); go_simp; try with_reducible rfl)
  try simp only [Act.put, List.setIfInBounds_toArray, List.set_cons_zero, List.set_cons_succ]
  refine wpAnyH_take (i := 5) (oi := { dst := some 19, op := Go.Op.move (Go.Operand.tmp 0), type := 34, pos := "stmt.go:31", after := #[], guard := none }) (v := ?v19) rfl (by kernel_rfl) (by kernel_rfl) (by kernel_rfl) (fun _ _ _ h => h) (Or.inl ⟨by kernel_rfl, ?h19⟩) (by assumption) ?r19
  case h19 => (intro w hSw; (try dsimp only at hSw); go_simp; try with_reducible rfl)
  try simp only [Act.put, List.setIfInBounds_toArray, List.set_cons_zero, List.set_cons_succ]
  refine wpAnyH_take (i := 6) (oi := { dst := some 20, op := Go.Op.load 73 (Go.Operand.tmp 3), type := 73, pos := "stmt.go:31", after := #[], guard := none }) (v := ?v20) rfl (by kernel_rfl) (by kernel_rfl) (by kernel_rfl) (fun _ _ _ h => h) (Or.inl ⟨by kernel_rfl, ?h20⟩) (by assumption) ?r20
  case h20 => (intro w hSw; (try dsimp only at hSw); go_simp; try with_reducible rfl)
  try simp only [Act.put, List.setIfInBounds_toArray, List.set_cons_zero, List.set_cons_succ]
  refine wpAnyH_ready (rs := [0]) (by kernel_rfl) (by simp) ?_
  refine AllReadyH.cons (o := { dst := some 14, op := Go.Op.call { callee := Go.Callee.value (Go.Operand.func 137), args := #[], argTypes := #[] }, type := 162, pos := "stmt.go:31", after := #[], guard := none }) rfl (fun K hK => ?_) AllReadyH.nil
  go_simp
  refine (kinds_any _).mono ?_
  rintro e t0 ⟨rfl, b0⟩
  go_simp
  refine hK.out _ _ (hHeld.trans (b0.mono hHeld.size)) (fun hHeld => ?_)
  clear hK K
  try simp only [Act.put, List.setIfInBounds_toArray, List.set_cons_zero, List.set_cons_succ]
  refine wpAnyH_take (i := 3) (oi := { dst := some 17, op := Go.Op.index 162 (Go.Operand.tmp 14) (Go.Operand.tmp 16), type := 161, pos := "stmt.go:31", after := #[{ on := 0, ground := Go.Ground.data }, { on := 2, ground := Go.Ground.data }], guard := none }) (v := ?v21) rfl (by kernel_rfl) (by kernel_rfl) (by kernel_rfl) (fun _ _ _ h => h) (Or.inl ⟨by kernel_rfl, ?h21⟩) (by assumption) ?r21
  case h21 => (intro w hSw; (try dsimp only at hSw); go_simp; try with_reducible rfl)
  try simp only [Act.put, List.setIfInBounds_toArray, List.set_cons_zero, List.set_cons_succ]
  refine wpAnyH_take (i := 4) (oi := { dst := some 18, op := Go.Op.field 161 (Go.Operand.tmp 17) 1, type := 82, pos := "stmt.go:31", after := #[{ on := 3, ground := Go.Ground.data }], guard := none }) (v := ?v22) rfl (by kernel_rfl) (by kernel_rfl) (by kernel_rfl) (fun _ _ _ h => h) (Or.inl ⟨by kernel_rfl, ?h22⟩) (by assumption) ?r22
  case h22 => (intro w hSw; (try dsimp only at hSw); go_simp; try with_reducible rfl)
  try simp only [Act.put, List.setIfInBounds_toArray, List.set_cons_zero, List.set_cons_succ]
  refine wpAnyH_ready (rs := [7]) (by kernel_rfl) (by simp) ?_
  refine AllReadyH.cons (o := { dst := some 21, op := Go.Op.call { callee := Go.Callee.value (Go.Operand.tmp 18), args := #[Go.Operand.tmp 19, Go.Operand.tmp 20], argTypes := #[34, 73] }, type := 9, pos := "stmt.go:31", after := #[{ on := 4, ground := Go.Ground.data }, { on := 5, ground := Go.Ground.data }, { on := 6, ground := Go.Ground.data }, { on := 0, ground := Go.Ground.chain }], guard := none }) rfl (fun K hK => ?_) AllReadyH.nil
  go_simp
  refine (hq'.out _ (T1.out.on hHeld) (V.out.below hHeld)).mono ?_
  rintro e t7 ⟨rfl, b7⟩
  go_simp
  refine hK.out _ _ (hHeld.trans (b7.mono hHeld.size)) (fun hHeld => ?_)
  clear hK K
  try simp only [Act.put, List.setIfInBounds_toArray, List.set_cons_zero, List.set_cons_succ]
  refine wpAnyH_take (i := 8) (oi := { dst := some 4, op := Go.Op.assign (Go.Operand.tmp 21), type := 9, pos := "stmt.go:31", after := #[{ on := 7, ground := Go.Ground.data }, { on := 7, ground := Go.Ground.chain }, { on := 0, ground := Go.Ground.phase }, { on := 1, ground := Go.Ground.phase }, { on := 2, ground := Go.Ground.phase }, { on := 3, ground := Go.Ground.phase }, { on := 4, ground := Go.Ground.phase }, { on := 5, ground := Go.Ground.phase }, { on := 6, ground := Go.Ground.phase }, { on := 7, ground := Go.Ground.phase }], guard := none }) (v := ?v23) rfl (by kernel_rfl) (by kernel_rfl) (by kernel_rfl) (fun _ _ _ h => h) (Or.inl ⟨by kernel_rfl, ?h23⟩) (by assumption) ?r23
  case h23 => (intro w hSw; (try dsimp only at hSw); go_simp; try with_reducible rfl)
  try simp only [Act.put, List.setIfInBounds_toArray, List.set_cons_zero, List.set_cons_succ]
  refine wpAnyH_take (i := 9) (oi := { dst := some 5, op := Go.Op.assign (Go.Operand.const (Go.Value.int Go.IntKind.i64 0)), type := 27, pos := "stmt.go:31", after := #[{ on := 8, ground := Go.Ground.chain }, { on := 0, ground := Go.Ground.phase }, { on := 1, ground := Go.Ground.phase }, { on := 2, ground := Go.Ground.phase }, { on := 3, ground := Go.Ground.phase }, { on := 4, ground := Go.Ground.phase }, { on := 5, ground := Go.Ground.phase }, { on := 6, ground := Go.Ground.phase }, { on := 7, ground := Go.Ground.phase }, { on := 8, ground := Go.Ground.phase }], guard := none }) (v := ?v24) rfl (by kernel_rfl) (by kernel_rfl) (by kernel_rfl) (fun _ _ _ h => h) (Or.inl ⟨by kernel_rfl, ?h24⟩) (by assumption) ?r24
  case h24 => (intro w hSw; (try dsimp only at hSw); go_simp; try with_reducible rfl)
  try simp only [Act.put, List.setIfInBounds_toArray, List.set_cons_zero, List.set_cons_succ]
  refine wpAnyH_done (by kernel_rfl) ?_ _
  go_wp2
  go_ret2
  exact ⟨rfl, BL.out.trans (hHeld.mono BL.out.size)⟩
set_option maxRecDepth 100000 in
set_option maxHeartbeats 2000000 in
theorem pshow_4 (a : Option Addr) (n cp : Nat) (l : List ByteArray) (x y c d : Int) (T : ByteArray) (hv : varsB l = true) (hr : rightB 4 x y c d (n : Int) = true)
    (hq : ∀ W, Tab W → TT W a n cp l → Calls Tryz.prog 181 #[.slice a n cp, .agg #[.int .i64 4, .int .i64 x, .int .i64 y, .int .i64 c, .int .i64 d]] W (Gives (.string T) W)) (w : World) (ht : Tab w) (h : TT w a n cp l) :
    Calls Tryz.prog 85 #[.slice a n cp, .agg #[.int .i64 4, .int .i64 x, .int .i64 y, .int .i64 c, .int .i64 d]] w (Gives (.tuple #[.string T, .int .i64 0]) w) := by
  have q1 := Lib.hid (fun W hW => rightVars_any a n cp l W hW)
  have q2 := Lib.hid (fun W => right_any 4 x y c d (n : Int) W)
  rw [hv] at q1
  rw [hr] at q2
  obtain ⟨W1, hW1⟩ : ∃ W1, W1 = w.alloc (.cells #[.int .i64 4, .int .i64 x, .int .i64 y, .int .i64 c, .int .i64 d] 73) := ⟨_, rfl⟩
  have BL := Lib.hid (show Below w.heap.size w W1 by rw [hW1]; exact box_below _ _ _)
  have HZ : Hid (Holds W1 w.heap.size 73 #[.int .i64 4, .int .i64 x, .int .i64 y, .int .i64 c, .int .i64 d]) := Lib.hid (by rw [hW1]; exact Holds.new w _ _)
  have T1 := Lib.hid (ht.on BL.out)
  have V := Lib.hid (h.below BL.out)
  have hW1' := Lib.hid hW1
  have hq' := Lib.hid hq
  have hn : (n : Int) ≤ 9223372036854775807 := by have := h.cap; have := h.max; unfold maxLen at this; omega
  have hix : ∀ W, (Instr.index 162 (.agg kindsA) (.int .i64 4)).run Tryz.prog W = .ok (.agg #[.func (.func 180) #[] #[], .func (.func 181) #[] #[]]) W := fun W => by kernel_rfl
  have hfd : ∀ W, (Instr.field 161 (.agg #[.func (.func 180) #[] #[], .func (.func 181) #[] #[]]) 1).run Tryz.prog W = .ok (.func (.func 181) #[] #[]) W := fun W => by kernel_rfl
  clear hW1 hq hv hr ht h
  go_enter Tryz.func85, Tryz.ntmps85
  go_wp2_with fail
  rw [← hW1'.out]
  with_reducible refine (q1.out W1 V.out).mono ?_
  rintro e u1 ⟨rfl, b1⟩
  replace HZ := Lib.hid (HZ.out.below b1 HZ.out.lt)
  replace V := Lib.hid (V.out.below b1)
  replace T1 := Lib.hid (T1.out.on b1)
  replace BL := Lib.hid (BL.out.trans (b1.mono BL.out.size))
  clear b1 hW1' q1
  have k0 := HZ.out.cell 0
  have k1 := HZ.out.cell 1
  have k2 := HZ.out.cell 2
  have k3 := HZ.out.cell 3
  have k4 := HZ.out.cell 4
  go_wp2_with fail
  refine (q2.out u1).mono ?_
  rintro e u2 ⟨rfl, b1⟩
  replace HZ := Lib.hid (HZ.out.below b1 HZ.out.lt)
  replace V := Lib.hid (V.out.below b1)
  replace T1 := Lib.hid (T1.out.on b1)
  replace BL := Lib.hid (BL.out.trans (b1.mono BL.out.size))
  clear b1 q2 k0 k1 k2 k3 k4
  go_wp2
  have g0 : ∀ W, Below u2.heap.size u2 W → W.cell? ⟨w.heap.size, 0, none⟩ = some (.int .i64 4) := fun W hW => (HZ.out.below hW HZ.out.lt).cell 0
  have g1 : ∀ W, Below u2.heap.size u2 W → W.cell? ⟨w.heap.size, 1, none⟩ = some (.int .i64 x) := fun W hW => (HZ.out.below hW HZ.out.lt).cell 1
  have g2 : ∀ W, Below u2.heap.size u2 W → W.cell? ⟨w.heap.size, 2, none⟩ = some (.int .i64 y) := fun W hW => (HZ.out.below hW HZ.out.lt).cell 2
  have g3 : ∀ W, Below u2.heap.size u2 W → W.cell? ⟨w.heap.size, 3, none⟩ = some (.int .i64 c) := fun W hW => (HZ.out.below hW HZ.out.lt).cell 3
  have g4 : ∀ W, Below u2.heap.size u2 W → W.cell? ⟨w.heap.size, 4, none⟩ = some (.int .i64 d) := fun W hW => (HZ.out.below hW HZ.out.lt).cell 4
  refine wp_drawn_on (fun W => Below u2.heap.size u2 W) (by kernel_rfl) ((Below.refl _ _).drew) (fun hHeld => ?_)
  refine wpAnyH_take (i := 1) (oi := { dst := some 15, op := Go.Op.fieldAddr 73 (Go.Operand.tmp 3) 0, type := 0, pos := "stmt.go:31", after := #[], guard := none }) (v := ?v25) rfl (by kernel_rfl) (by kernel_rfl) (by kernel_rfl) (fun _ _ _ h => h) (Or.inl ⟨by kernel_rfl, ?h25⟩) (by assumption) ?r25
  case h25 => (intro w hSw; (try dsimp only at hSw); go_simp; try with_reducible rfl)
  try simp only [Act.put, List.setIfInBounds_toArray, List.set_cons_zero, List.set_cons_succ]
  refine wpAnyH_take (i := 2) (oi := { dst := some 16, op := Go.Op.load 3 (Go.Operand.tmp 15), type := 3, pos := "stmt.go:31", after := #[{ on := 1, ground := Go.Ground.data }], guard := none }) (v := ?v26) rfl (by kernel_rfl) (by kernel_rfl) (by kernel_rfl) (fun _ _ _ h => h) (Or.inl ⟨by kernel_rfl, ?h26⟩) (by assumption) ?r26
  case h26 => (intro w hSw; (try dsimp only at hSw); go_simp; try with_reducible rfl)
  try simp only [Act.put, List.setIfInBounds_toArray, List.set_cons_zero, List.set_cons_succ]
  refine wpAnyH_take (i := 5) (oi := { dst := some 19, op := Go.Op.move (Go.Operand.tmp 0), type := 34, pos := "stmt.go:31", after := #[], guard := none }) (v := ?v27) rfl (by kernel_rfl) (by kernel_rfl) (by kernel_rfl) (fun _ _ _ h => h) (Or.inl ⟨by kernel_rfl, ?h27⟩) (by assumption) ?r27
  case h27 => (intro w hSw; (try dsimp only at hSw); go_simp; try with_reducible rfl)
  try simp only [Act.put, List.setIfInBounds_toArray, List.set_cons_zero, List.set_cons_succ]
  refine wpAnyH_take (i := 6) (oi := { dst := some 20, op := Go.Op.load 73 (Go.Operand.tmp 3), type := 73, pos := "stmt.go:31", after := #[], guard := none }) (v := ?v28) rfl (by kernel_rfl) (by kernel_rfl) (by kernel_rfl) (fun _ _ _ h => h) (Or.inl ⟨by kernel_rfl, ?h28⟩) (by assumption) ?r28
  case h28 => (intro w hSw; (try dsimp only at hSw); go_simp; try with_reducible rfl)
  try simp only [Act.put, List.setIfInBounds_toArray, List.set_cons_zero, List.set_cons_succ]
  refine wpAnyH_ready (rs := [0]) (by kernel_rfl) (by simp) ?_
  refine AllReadyH.cons (o := { dst := some 14, op := Go.Op.call { callee := Go.Callee.value (Go.Operand.func 137), args := #[], argTypes := #[] }, type := 162, pos := "stmt.go:31", after := #[], guard := none }) rfl (fun K hK => ?_) AllReadyH.nil
  go_simp
  refine (kinds_any _).mono ?_
  rintro e t0 ⟨rfl, b0⟩
  go_simp
  refine hK.out _ _ (hHeld.trans (b0.mono hHeld.size)) (fun hHeld => ?_)
  clear hK K
  try simp only [Act.put, List.setIfInBounds_toArray, List.set_cons_zero, List.set_cons_succ]
  refine wpAnyH_take (i := 3) (oi := { dst := some 17, op := Go.Op.index 162 (Go.Operand.tmp 14) (Go.Operand.tmp 16), type := 161, pos := "stmt.go:31", after := #[{ on := 0, ground := Go.Ground.data }, { on := 2, ground := Go.Ground.data }], guard := none }) (v := ?v29) rfl (by kernel_rfl) (by kernel_rfl) (by kernel_rfl) (fun _ _ _ h => h) (Or.inl ⟨by kernel_rfl, ?h29⟩) (by assumption) ?r29
  case h29 => (intro w hSw; (try dsimp only at hSw); go_simp; try with_reducible rfl)
  try simp only [Act.put, List.setIfInBounds_toArray, List.set_cons_zero, List.set_cons_succ]
  refine wpAnyH_take (i := 4) (oi := { dst := some 18, op := Go.Op.field 161 (Go.Operand.tmp 17) 1, type := 82, pos := "stmt.go:31", after := #[{ on := 3, ground := Go.Ground.data }], guard := none }) (v := ?v30) rfl (by kernel_rfl) (by kernel_rfl) (by kernel_rfl) (fun _ _ _ h => h) (Or.inl ⟨by kernel_rfl, ?h30⟩) (by assumption) ?r30
  case h30 => (intro w hSw; (try dsimp only at hSw); go_simp; try with_reducible rfl)
  try simp only [Act.put, List.setIfInBounds_toArray, List.set_cons_zero, List.set_cons_succ]
  refine wpAnyH_ready (rs := [7]) (by kernel_rfl) (by simp) ?_
  refine AllReadyH.cons (o := { dst := some 21, op := Go.Op.call { callee := Go.Callee.value (Go.Operand.tmp 18), args := #[Go.Operand.tmp 19, Go.Operand.tmp 20], argTypes := #[34, 73] }, type := 9, pos := "stmt.go:31", after := #[{ on := 4, ground := Go.Ground.data }, { on := 5, ground := Go.Ground.data }, { on := 6, ground := Go.Ground.data }, { on := 0, ground := Go.Ground.chain }], guard := none }) rfl (fun K hK => ?_) AllReadyH.nil
  go_simp
  refine (hq'.out _ (T1.out.on hHeld) (V.out.below hHeld)).mono ?_
  rintro e t7 ⟨rfl, b7⟩
  go_simp
  refine hK.out _ _ (hHeld.trans (b7.mono hHeld.size)) (fun hHeld => ?_)
  clear hK K
  try simp only [Act.put, List.setIfInBounds_toArray, List.set_cons_zero, List.set_cons_succ]
  refine wpAnyH_take (i := 8) (oi := { dst := some 4, op := Go.Op.assign (Go.Operand.tmp 21), type := 9, pos := "stmt.go:31", after := #[{ on := 7, ground := Go.Ground.data }, { on := 7, ground := Go.Ground.chain }, { on := 0, ground := Go.Ground.phase }, { on := 1, ground := Go.Ground.phase }, { on := 2, ground := Go.Ground.phase }, { on := 3, ground := Go.Ground.phase }, { on := 4, ground := Go.Ground.phase }, { on := 5, ground := Go.Ground.phase }, { on := 6, ground := Go.Ground.phase }, { on := 7, ground := Go.Ground.phase }], guard := none }) (v := ?v31) rfl (by kernel_rfl) (by kernel_rfl) (by kernel_rfl) (fun _ _ _ h => h) (Or.inl ⟨by kernel_rfl, ?h31⟩) (by assumption) ?r31
  case h31 => (intro w hSw; (try dsimp only at hSw); go_simp; try with_reducible rfl)
  try simp only [Act.put, List.setIfInBounds_toArray, List.set_cons_zero, List.set_cons_succ]
  refine wpAnyH_take (i := 9) (oi := { dst := some 5, op := Go.Op.assign (Go.Operand.const (Go.Value.int Go.IntKind.i64 0)), type := 27, pos := "stmt.go:31", after := #[{ on := 8, ground := Go.Ground.chain }, { on := 0, ground := Go.Ground.phase }, { on := 1, ground := Go.Ground.phase }, { on := 2, ground := Go.Ground.phase }, { on := 3, ground := Go.Ground.phase }, { on := 4, ground := Go.Ground.phase }, { on := 5, ground := Go.Ground.phase }, { on := 6, ground := Go.Ground.phase }, { on := 7, ground := Go.Ground.phase }, { on := 8, ground := Go.Ground.phase }], guard := none }) (v := ?v32) rfl (by kernel_rfl) (by kernel_rfl) (by kernel_rfl) (fun _ _ _ h => h) (Or.inl ⟨by kernel_rfl, ?h32⟩) (by assumption) ?r32
  case h32 => (intro w hSw; (try dsimp only at hSw); go_simp; try with_reducible rfl)
  try simp only [Act.put, List.setIfInBounds_toArray, List.set_cons_zero, List.set_cons_succ]
  refine wpAnyH_done (by kernel_rfl) ?_ _
  go_wp2
  go_ret2
  exact ⟨rfl, BL.out.trans (hHeld.mono BL.out.size)⟩
set_option maxRecDepth 100000 in
set_option maxHeartbeats 2000000 in
theorem pshow_5 (a : Option Addr) (n cp : Nat) (l : List ByteArray) (x y c d : Int) (T : ByteArray) (hv : varsB l = true) (hr : rightB 5 x y c d (n : Int) = true)
    (hq : ∀ W, Tab W → TT W a n cp l → Calls Tryz.prog 182 #[.slice a n cp, .agg #[.int .i64 5, .int .i64 x, .int .i64 y, .int .i64 c, .int .i64 d]] W (Gives (.string T) W)) (w : World) (ht : Tab w) (h : TT w a n cp l) :
    Calls Tryz.prog 85 #[.slice a n cp, .agg #[.int .i64 5, .int .i64 x, .int .i64 y, .int .i64 c, .int .i64 d]] w (Gives (.tuple #[.string T, .int .i64 0]) w) := by
  have q1 := Lib.hid (fun W hW => rightVars_any a n cp l W hW)
  have q2 := Lib.hid (fun W => right_any 5 x y c d (n : Int) W)
  rw [hv] at q1
  rw [hr] at q2
  obtain ⟨W1, hW1⟩ : ∃ W1, W1 = w.alloc (.cells #[.int .i64 5, .int .i64 x, .int .i64 y, .int .i64 c, .int .i64 d] 73) := ⟨_, rfl⟩
  have BL := Lib.hid (show Below w.heap.size w W1 by rw [hW1]; exact box_below _ _ _)
  have HZ : Hid (Holds W1 w.heap.size 73 #[.int .i64 5, .int .i64 x, .int .i64 y, .int .i64 c, .int .i64 d]) := Lib.hid (by rw [hW1]; exact Holds.new w _ _)
  have T1 := Lib.hid (ht.on BL.out)
  have V := Lib.hid (h.below BL.out)
  have hW1' := Lib.hid hW1
  have hq' := Lib.hid hq
  have hn : (n : Int) ≤ 9223372036854775807 := by have := h.cap; have := h.max; unfold maxLen at this; omega
  have hix : ∀ W, (Instr.index 162 (.agg kindsA) (.int .i64 5)).run Tryz.prog W = .ok (.agg #[.func (.func 180) #[] #[], .func (.func 182) #[] #[]]) W := fun W => by kernel_rfl
  have hfd : ∀ W, (Instr.field 161 (.agg #[.func (.func 180) #[] #[], .func (.func 182) #[] #[]]) 1).run Tryz.prog W = .ok (.func (.func 182) #[] #[]) W := fun W => by kernel_rfl
  clear hW1 hq hv hr ht h
  go_enter Tryz.func85, Tryz.ntmps85
  go_wp2_with fail
  rw [← hW1'.out]
  with_reducible refine (q1.out W1 V.out).mono ?_
  rintro e u1 ⟨rfl, b1⟩
  replace HZ := Lib.hid (HZ.out.below b1 HZ.out.lt)
  replace V := Lib.hid (V.out.below b1)
  replace T1 := Lib.hid (T1.out.on b1)
  replace BL := Lib.hid (BL.out.trans (b1.mono BL.out.size))
  clear b1 hW1' q1
  have k0 := HZ.out.cell 0
  have k1 := HZ.out.cell 1
  have k2 := HZ.out.cell 2
  have k3 := HZ.out.cell 3
  have k4 := HZ.out.cell 4
  go_wp2_with fail
  refine (q2.out u1).mono ?_
  rintro e u2 ⟨rfl, b1⟩
  replace HZ := Lib.hid (HZ.out.below b1 HZ.out.lt)
  replace V := Lib.hid (V.out.below b1)
  replace T1 := Lib.hid (T1.out.on b1)
  replace BL := Lib.hid (BL.out.trans (b1.mono BL.out.size))
  clear b1 q2 k0 k1 k2 k3 k4
  go_wp2
  have g0 : ∀ W, Below u2.heap.size u2 W → W.cell? ⟨w.heap.size, 0, none⟩ = some (.int .i64 5) := fun W hW => (HZ.out.below hW HZ.out.lt).cell 0
  have g1 : ∀ W, Below u2.heap.size u2 W → W.cell? ⟨w.heap.size, 1, none⟩ = some (.int .i64 x) := fun W hW => (HZ.out.below hW HZ.out.lt).cell 1
  have g2 : ∀ W, Below u2.heap.size u2 W → W.cell? ⟨w.heap.size, 2, none⟩ = some (.int .i64 y) := fun W hW => (HZ.out.below hW HZ.out.lt).cell 2
  have g3 : ∀ W, Below u2.heap.size u2 W → W.cell? ⟨w.heap.size, 3, none⟩ = some (.int .i64 c) := fun W hW => (HZ.out.below hW HZ.out.lt).cell 3
  have g4 : ∀ W, Below u2.heap.size u2 W → W.cell? ⟨w.heap.size, 4, none⟩ = some (.int .i64 d) := fun W hW => (HZ.out.below hW HZ.out.lt).cell 4
  refine wp_drawn_on (fun W => Below u2.heap.size u2 W) (by kernel_rfl) ((Below.refl _ _).drew) (fun hHeld => ?_)
  refine wpAnyH_take (i := 1) (oi := { dst := some 15, op := Go.Op.fieldAddr 73 (Go.Operand.tmp 3) 0, type := 0, pos := "stmt.go:31", after := #[], guard := none }) (v := ?v33) rfl (by kernel_rfl) (by kernel_rfl) (by kernel_rfl) (fun _ _ _ h => h) (Or.inl ⟨by kernel_rfl, ?h33⟩) (by assumption) ?r33
  case h33 => (intro w hSw; (try dsimp only at hSw); go_simp; try with_reducible rfl)
  try simp only [Act.put, List.setIfInBounds_toArray, List.set_cons_zero, List.set_cons_succ]
  refine wpAnyH_take (i := 2) (oi := { dst := some 16, op := Go.Op.load 3 (Go.Operand.tmp 15), type := 3, pos := "stmt.go:31", after := #[{ on := 1, ground := Go.Ground.data }], guard := none }) (v := ?v34) rfl (by kernel_rfl) (by kernel_rfl) (by kernel_rfl) (fun _ _ _ h => h) (Or.inl ⟨by kernel_rfl, ?h34⟩) (by assumption) ?r34
  case h34 => (intro w hSw; (try dsimp only at hSw); go_simp; try with_reducible rfl)
  try simp only [Act.put, List.setIfInBounds_toArray, List.set_cons_zero, List.set_cons_succ]
  refine wpAnyH_take (i := 5) (oi := { dst := some 19, op := Go.Op.move (Go.Operand.tmp 0), type := 34, pos := "stmt.go:31", after := #[], guard := none }) (v := ?v35) rfl (by kernel_rfl) (by kernel_rfl) (by kernel_rfl) (fun _ _ _ h => h) (Or.inl ⟨by kernel_rfl, ?h35⟩) (by assumption) ?r35
  case h35 => (intro w hSw; (try dsimp only at hSw); go_simp; try with_reducible rfl)
  try simp only [Act.put, List.setIfInBounds_toArray, List.set_cons_zero, List.set_cons_succ]
  refine wpAnyH_take (i := 6) (oi := { dst := some 20, op := Go.Op.load 73 (Go.Operand.tmp 3), type := 73, pos := "stmt.go:31", after := #[], guard := none }) (v := ?v36) rfl (by kernel_rfl) (by kernel_rfl) (by kernel_rfl) (fun _ _ _ h => h) (Or.inl ⟨by kernel_rfl, ?h36⟩) (by assumption) ?r36
  case h36 => (intro w hSw; (try dsimp only at hSw); go_simp; try with_reducible rfl)
  try simp only [Act.put, List.setIfInBounds_toArray, List.set_cons_zero, List.set_cons_succ]
  refine wpAnyH_ready (rs := [0]) (by kernel_rfl) (by simp) ?_
  refine AllReadyH.cons (o := { dst := some 14, op := Go.Op.call { callee := Go.Callee.value (Go.Operand.func 137), args := #[], argTypes := #[] }, type := 162, pos := "stmt.go:31", after := #[], guard := none }) rfl (fun K hK => ?_) AllReadyH.nil
  go_simp
  refine (kinds_any _).mono ?_
  rintro e t0 ⟨rfl, b0⟩
  go_simp
  refine hK.out _ _ (hHeld.trans (b0.mono hHeld.size)) (fun hHeld => ?_)
  clear hK K
  try simp only [Act.put, List.setIfInBounds_toArray, List.set_cons_zero, List.set_cons_succ]
  refine wpAnyH_take (i := 3) (oi := { dst := some 17, op := Go.Op.index 162 (Go.Operand.tmp 14) (Go.Operand.tmp 16), type := 161, pos := "stmt.go:31", after := #[{ on := 0, ground := Go.Ground.data }, { on := 2, ground := Go.Ground.data }], guard := none }) (v := ?v37) rfl (by kernel_rfl) (by kernel_rfl) (by kernel_rfl) (fun _ _ _ h => h) (Or.inl ⟨by kernel_rfl, ?h37⟩) (by assumption) ?r37
  case h37 => (intro w hSw; (try dsimp only at hSw); go_simp; try with_reducible rfl)
  try simp only [Act.put, List.setIfInBounds_toArray, List.set_cons_zero, List.set_cons_succ]
  refine wpAnyH_take (i := 4) (oi := { dst := some 18, op := Go.Op.field 161 (Go.Operand.tmp 17) 1, type := 82, pos := "stmt.go:31", after := #[{ on := 3, ground := Go.Ground.data }], guard := none }) (v := ?v38) rfl (by kernel_rfl) (by kernel_rfl) (by kernel_rfl) (fun _ _ _ h => h) (Or.inl ⟨by kernel_rfl, ?h38⟩) (by assumption) ?r38
  case h38 => (intro w hSw; (try dsimp only at hSw); go_simp; try with_reducible rfl)
  try simp only [Act.put, List.setIfInBounds_toArray, List.set_cons_zero, List.set_cons_succ]
  refine wpAnyH_ready (rs := [7]) (by kernel_rfl) (by simp) ?_
  refine AllReadyH.cons (o := { dst := some 21, op := Go.Op.call { callee := Go.Callee.value (Go.Operand.tmp 18), args := #[Go.Operand.tmp 19, Go.Operand.tmp 20], argTypes := #[34, 73] }, type := 9, pos := "stmt.go:31", after := #[{ on := 4, ground := Go.Ground.data }, { on := 5, ground := Go.Ground.data }, { on := 6, ground := Go.Ground.data }, { on := 0, ground := Go.Ground.chain }], guard := none }) rfl (fun K hK => ?_) AllReadyH.nil
  go_simp
  refine (hq'.out _ (T1.out.on hHeld) (V.out.below hHeld)).mono ?_
  rintro e t7 ⟨rfl, b7⟩
  go_simp
  refine hK.out _ _ (hHeld.trans (b7.mono hHeld.size)) (fun hHeld => ?_)
  clear hK K
  try simp only [Act.put, List.setIfInBounds_toArray, List.set_cons_zero, List.set_cons_succ]
  refine wpAnyH_take (i := 8) (oi := { dst := some 4, op := Go.Op.assign (Go.Operand.tmp 21), type := 9, pos := "stmt.go:31", after := #[{ on := 7, ground := Go.Ground.data }, { on := 7, ground := Go.Ground.chain }, { on := 0, ground := Go.Ground.phase }, { on := 1, ground := Go.Ground.phase }, { on := 2, ground := Go.Ground.phase }, { on := 3, ground := Go.Ground.phase }, { on := 4, ground := Go.Ground.phase }, { on := 5, ground := Go.Ground.phase }, { on := 6, ground := Go.Ground.phase }, { on := 7, ground := Go.Ground.phase }], guard := none }) (v := ?v39) rfl (by kernel_rfl) (by kernel_rfl) (by kernel_rfl) (fun _ _ _ h => h) (Or.inl ⟨by kernel_rfl, ?h39⟩) (by assumption) ?r39
  case h39 => (intro w hSw; (try dsimp only at hSw); go_simp; try with_reducible rfl)
  try simp only [Act.put, List.setIfInBounds_toArray, List.set_cons_zero, List.set_cons_succ]
  refine wpAnyH_take (i := 9) (oi := { dst := some 5, op := Go.Op.assign (Go.Operand.const (Go.Value.int Go.IntKind.i64 0)), type := 27, pos := "stmt.go:31", after := #[{ on := 8, ground := Go.Ground.chain }, { on := 0, ground := Go.Ground.phase }, { on := 1, ground := Go.Ground.phase }, { on := 2, ground := Go.Ground.phase }, { on := 3, ground := Go.Ground.phase }, { on := 4, ground := Go.Ground.phase }, { on := 5, ground := Go.Ground.phase }, { on := 6, ground := Go.Ground.phase }, { on := 7, ground := Go.Ground.phase }, { on := 8, ground := Go.Ground.phase }], guard := none }) (v := ?v40) rfl (by kernel_rfl) (by kernel_rfl) (by kernel_rfl) (fun _ _ _ h => h) (Or.inl ⟨by kernel_rfl, ?h40⟩) (by assumption) ?r40
  case h40 => (intro w hSw; (try dsimp only at hSw); go_simp; try with_reducible rfl)
  try simp only [Act.put, List.setIfInBounds_toArray, List.set_cons_zero, List.set_cons_succ]
  refine wpAnyH_done (by kernel_rfl) ?_ _
  go_wp2
  go_ret2
  exact ⟨rfl, BL.out.trans (hHeld.mono BL.out.size)⟩
set_option maxRecDepth 100000 in
set_option maxHeartbeats 2000000 in
theorem pshow_any (a : Option Addr) (n cp : Nat) (l : List ByteArray) (k x y c d : Int) (w : World) (ht : Tab w) (h : TT w a n cp l) :
    Calls Tryz.prog 85 #[.slice a n cp, .agg #[.int .i64 k, .int .i64 x, .int .i64 y, .int .i64 c, .int .i64 d]] w (Gives (.tuple #[.string (showP l k x y c d), .int .i64 (showE l k x y c d)]) w) := by
  cases hv : varsB l
  · have hE : showE l k x y c d = 110 := by unfold showE; rw [hv]; rfl
    have hP : showP l k x y c d = ⟨#[]⟩ := by unfold showP; rw [hE]; rfl
    rw [hE, hP]
    have q1 := Lib.hid (fun W hW => rightVars_any a n cp l W hW)
    rw [hv] at q1
    obtain ⟨W1, hW1⟩ : ∃ W1, W1 = w.alloc (.cells #[.int .i64 k, .int .i64 x, .int .i64 y, .int .i64 c, .int .i64 d] 73) := ⟨_, rfl⟩
    have BL := Lib.hid (show Below w.heap.size w W1 by rw [hW1]; exact box_below _ _ _)
    have V := Lib.hid (h.below BL.out)
    have hW1' := Lib.hid hW1
    clear hE hP hv h ht hW1
    go_enter Tryz.func85, Tryz.ntmps85
    go_wp2_with fail
    rw [← hW1'.out]
    with_reducible refine (q1.out W1 V.out).mono ?_
    rintro e u1 ⟨rfl, b1⟩
    go_wp2
    go_ret2
    exact ⟨rfl, BL.out.trans (b1.mono BL.out.size)⟩
  cases hr : rightB k x y c d (n : Int)
  · have hE : showE l k x y c d = 111 := by unfold showE; rw [hv, if_pos rfl, ← h.len, hr]; rfl
    have hP : showP l k x y c d = ⟨#[]⟩ := by unfold showP; rw [hE]; rfl
    rw [hE, hP]
    have q1 := Lib.hid (fun W hW => rightVars_any a n cp l W hW)
    have q2 := Lib.hid (fun W => right_any k x y c d (n : Int) W)
    rw [hv] at q1
    rw [hr] at q2
    obtain ⟨W1, hW1⟩ : ∃ W1, W1 = w.alloc (.cells #[.int .i64 k, .int .i64 x, .int .i64 y, .int .i64 c, .int .i64 d] 73) := ⟨_, rfl⟩
    have BL := Lib.hid (show Below w.heap.size w W1 by rw [hW1]; exact box_below _ _ _)
    have HZ : Hid (Holds W1 w.heap.size 73 #[.int .i64 k, .int .i64 x, .int .i64 y, .int .i64 c, .int .i64 d]) := Lib.hid (by rw [hW1]; exact Holds.new w _ _)
    have V := Lib.hid (h.below BL.out)
    have hW1' := Lib.hid hW1
    clear hE hP hv hr h ht hW1
    go_enter Tryz.func85, Tryz.ntmps85
    go_wp2_with fail
    rw [← hW1'.out]
    with_reducible refine (q1.out W1 V.out).mono ?_
    rintro e u1 ⟨rfl, b1⟩
    replace HZ := Lib.hid (HZ.out.below b1 HZ.out.lt)
    replace BL := Lib.hid (BL.out.trans (b1.mono BL.out.size))
    clear b1 hW1' q1
    have k0 := HZ.out.cell 0
    have k1 := HZ.out.cell 1
    have k2 := HZ.out.cell 2
    have k3 := HZ.out.cell 3
    have k4 := HZ.out.cell 4
    go_wp2_with fail
    refine (q2.out u1).mono ?_
    rintro e u2 ⟨rfl, b1⟩
    clear k0 k1 k2 k3 k4
    go_wp2
    go_ret2
    exact ⟨rfl, BL.out.trans (b1.mono BL.out.size)⟩
  have hE : showE l k x y c d = 0 := by unfold showE; rw [hv, if_pos rfl, ← h.len, hr]; rfl
  have hP : showP l k x y c d = stmtT l k x y c d := by unfold showP; rw [if_pos hE]
  rw [hE, hP]
  have hl := vars_sz hv
  obtain rfl | rfl | rfl | rfl | rfl : k = 1 ∨ k = 2 ∨ k = 3 ∨ k = 4 ∨ k = 5 := by have := right_kind hr; omega
  · exact pshow_1 a n cp l x y c d _ hv hr (fun W _ _ => showSkip_any a n cp 1 x y c d W) w ht h
  · obtain ⟨r1, r2, r3, r4, r5, _⟩ := right_let hr
    exact pshow_2 a n cp l x y c d _ hv hr (fun W hT hW => showLet_any a n cp l hl 2 x y c d r1 r2 r3 r4 (by omega) W hT hW) w ht h
  · obtain ⟨r1, r2, _⟩ := right_any' hr
    exact pshow_3 a n cp l x y c d _ hv hr (fun W hT hW => showAny_any a n cp l hl 3 x y c d r1 r2 W hT hW) w ht h
  · obtain ⟨r1, r2, r3, r4, r5, _⟩ := right_diff (.inl rfl) hr
    exact pshow_4 a n cp l x y c d _ hv hr (fun W hT hW => showLimit_any a n cp l hl 4 x y c d r1 r2 r3 r4 r5 W hT hW) w ht h
  · obtain ⟨r1, r2, r3, r4, r5, _⟩ := right_diff (.inr rfl) hr
    exact pshow_5 a n cp l x y c d _ hv hr (fun W hT hW => showCheck_any a n cp l hl 5 x y c d r1 r2 r3 r4 r5 W hT hW) w ht h
end Go.Proofs.YtimgocfkogebmaaGreatDoor
namespace Go.Proofs.YtimgocfkogebmaaGreatDoor
open Go.RowKit
set_option linter.unusedVariables false
set_option linter.unusedSimpArgs false
def kindA (x y : Int) : Int := if y = 0 then 2 else if x = 0 then 3 else 1
def sevA (b : Bool) : Int := if b = true then 2 else 1
def trimT (s : ByteArray) : ByteArray := ⟨(Lib.trimPrefix s.data.toList (⟨#[99, 104, 101, 99, 107, 32]⟩ : ByteArray).data.toList).toArray⟩
def mayZ (n : Nat) (l : List Int) (e : EdgeD) : Bool := !decide (faultL n l e.k e.x e.y e.c = [])
def mustZ (n : Nat) (l : List Int) (e : EdgeD) : Bool := decide (postL n l e.k e.x e.y e.c e.d = []) && mayZ n l e
def alarmZ (D : PD) (l : List Int) (e : EdgeD) : AlD := ⟨kindA e.x e.y, sevA (mustZ D.vars.length l e), (D.spots.getD e.frm.toNat spot0).fn, (D.spots.getD e.frm.toNat spot0).file, (D.spots.getD e.frm.toNat spot0).line, trimT (showP D.vars e.k e.x e.y e.c e.d)⟩
set_option maxRecDepth 100000 in
theorem akind_any (k x y c d : Int) (w : World) : Calls Tryz.prog 86 #[.agg #[.int .i64 k, .int .i64 x, .int .i64 y, .int .i64 c, .int .i64 d]] w (Gives (.int .i64 (kindA x y)) w) := by
  have b0 := Lib.hid (box_below w #[.int .i64 k, .int .i64 x, .int .i64 y, .int .i64 c, .int .i64 d] 73)
  by_cases h1 : y = 0
  · have e : kindA x y = 2 := if_pos h1
    have e1 : (y == 0) = true := by simpa using h1
    rw [e]
    clear e h1
    go_enter Tryz.func86, Tryz.ntmps86
    go_wp2
    go_ret
    exact ⟨rfl, b0.out⟩
  have e1 : (y == 0) = false := by simpa using h1
  by_cases h2 : x = 0
  · have e : kindA x y = 3 := by unfold kindA; rw [if_neg h1, if_pos h2]
    have e2 : (x == 0) = true := by simpa using h2
    rw [e]
    clear e h1 h2
    go_enter Tryz.func86, Tryz.ntmps86
    go_wp2
    go_ret
    exact ⟨rfl, b0.out⟩
  have e2 : (x == 0) = false := by simpa using h2
  have e : kindA x y = 1 := by unfold kindA; rw [if_neg h1, if_neg h2]
  rw [e]
  clear e h1 h2
  go_enter Tryz.func86, Tryz.ntmps86
  go_wp2
  go_ret
  exact ⟨rfl, b0.out⟩
theorem asev_any (b : Bool) (w : World) : Calls Tryz.prog 87 #[.bool b] w (Tells (.int .i64 (sevA b)) w) := by
  cases b
  · go_enter Tryz.func87, Tryz.ntmps87
    go_wp2
    go_ret
    exact ⟨rfl, rfl⟩
  · go_enter Tryz.func87, Tryz.ntmps87
    go_wp2
    go_ret
    exact ⟨rfl, rfl⟩
theorem info_al : (Tryz.prog.info? 23).map (·.size) = some 6 := by kernel_rfl
theorem al_res2 {fn : Func} {p q : Tmp} (h : fn.results = #[.cell p 23, .tmp q]) (tmps : Array Value) (w : World) (g : Nat) (a1 a2 a3 a4 a5 a6 u : Value)
    (hp : tmps.getD p undef = .pointer (some ⟨g, 0, none⟩)) (hq : tmps.getD q undef = u) (hg : Holds w g 23 #[a1, a2, a3, a4, a5, a6]) : (results fn tmps).run Tryz.prog w = .ok (.tuple #[.agg #[a1, a2, a3, a4, a5, a6], u]) w := by
  rw [results_cell_tmp h, hp, hq]
  simp [asAddr, run_loadVar_row w g 23 23 #[a1, a2, a3, a4, a5, a6] (0, 0) _ hg Tryz.underlying23 rfl (by rw [info_al]; rfl), Result.andThen]
theorem al_ret2 {Q : Ending → World → Prop} {w : World} {g : Nat} {a1 a2 a3 a4 a5 a6 u : Value} (hg : Holds w g 23 #[a1, a2, a3, a4, a5, a6]) (hQ : Q (.returned (.tuple #[.agg #[a1, a2, a3, a4, a5, a6], u])) w) (act : Act) (f : Func) (n m : Nat) (hf : f.results = #[.cell n 23, .tmp m]) (ha : act.tmps.getD n undef = .pointer (some ⟨g, 0, none⟩)) (hm : act.tmps.getD m undef = u) (hd : act.defers = []) :
    bodyPost Tryz.prog f Q Exit.ret act w :=
  bodyPost_ret (al_res2 hf _ _ g a1 a2 a3 a4 a5 a6 u ha hm hg) hd hQ
theorem al_set {w : World} {g : Nat} {c1 c2 c3 c4 c5 c6 : Value} (h : Holds w g 23 #[c1, c2, c3, c4, c5, c6]) (a1 a2 a3 a4 a5 a6 : Value) :
    Holds ((((((w.setCell ⟨g, 0, none⟩ a1).setCell ⟨g, 1, none⟩ a2).setCell ⟨g, 2, none⟩ a3).setCell ⟨g, 3, none⟩ a4).setCell ⟨g, 4, none⟩ a5).setCell ⟨g, 5, none⟩ a6) g 23 #[a1, a2, a3, a4, a5, a6] ∧
    BelowE [g] w.heap.size w ((((((w.setCell ⟨g, 0, none⟩ a1).setCell ⟨g, 1, none⟩ a2).setCell ⟨g, 2, none⟩ a3).setCell ⟨g, 3, none⟩ a4).setCell ⟨g, 4, none⟩ a5).setCell ⟨g, 5, none⟩ a6) := by
  constructor
  · have := (((((h.set 0 a1).set 1 a2).set 2 a3).set 3 a4).set 4 a5).set 5 a6
    simp only [List.setIfInBounds_toArray, List.set_cons_zero, List.set_cons_succ] at this
    exact this
  · exact ((((((BelowE.refl _ _ _).setIn (p := ⟨g, 0, none⟩) (by simp) _).setIn (p := ⟨g, 1, none⟩) (by simp) _).setIn (p := ⟨g, 2, none⟩) (by simp) _).setIn (p := ⟨g, 3, none⟩) (by simp) _).setIn (p := ⟨g, 4, none⟩) (by simp) _).setIn (p := ⟨g, 5, none⟩) (by simp) _
def AskOK (n : Nat) (l : List Int) (k x y c d : Int) (mb ub : Bool) : Prop := ∀ W a m ca, SL W a m ca l →
  Calls Tryz.prog 84 #[.agg #[.int .i64 n, .slice a m ca], .agg #[.int .i64 k, .int .i64 x, .int .i64 y, .int .i64 c, .int .i64 d]] W (Gives (.bool mb) W) ∧
  Calls Tryz.prog 88 #[.agg #[.int .i64 n, .slice a m ca], .agg #[.int .i64 k, .int .i64 x, .int .i64 y, .int .i64 c, .int .i64 d]] W (Gives (.bool ub) W)
def OfE (A : AlD) (b : Bool) (w : World) (e : Ending) (w' : World) : Prop := e = .returned (.tuple #[.agg #[.int .i64 A.kind, .int .i64 A.sev, .string A.fn, .string A.file, .int .i64 A.line, .string A.expr], .bool b]) ∧ Below w.heap.size w w'
set_option maxRecDepth 100000 in
set_option maxHeartbeats 8000000 in
theorem aof_any (p : PV) (D : PD) (a : Option Addr) (n cc : Nat) (L : List (Int × List Int)) (f : Nat) (ds k x y c d : Int) (l : List Int) (w : World) (h : PrA w p D) (hl : ZRow w a n cc L) (ht : Tab w)
    (hf : f < n) (hf2 : f < p.n2) (hz : L.getD f zd0 = ((p.n1 : Int), l)) (hask : AskOK p.n1 l k x y c d (mayZ p.n1 l ⟨f, ds, k, x, y, c, d⟩) (mustZ p.n1 l ⟨f, ds, k, x, y, c, d⟩)) :
    Calls Tryz.prog 45 #[.agg #[.string p.nm, .slice p.a1 p.n1 p.c1, .slice p.a2 p.n2 p.c2, .slice p.a3 p.n3 p.c3], .slice a n cc, .agg #[.int .i64 f, .int .i64 ds, .int .i64 k, .int .i64 x, .int .i64 y, .int .i64 c, .int .i64 d]] w
      (OfE (if mayZ p.n1 l ⟨f, ds, k, x, y, c, d⟩ = true then alarmZ D l ⟨f, ds, k, x, y, c, d⟩ else al0) (mayZ p.n1 l ⟨f, ds, k, x, y, c, d⟩) w) := by
  have hff : (f : Int) < (n : Int) := by omega
  have hff2 : (f : Int) < (p.n2 : Int) := by omega
  have hm2 : (p.n2 : Int) ≤ 9223372036854775807 := by have := h.spots.max'; omega
  have hmn : (n : Int) ≤ 9223372036854775807 := by have := hl.max'; omega
  have hT := Lib.hid ht
  have hP := Lib.hid h
  have q1 := Lib.hid (fun W a m ca hW => (hask W a m ca hW).1)
  have q2 := Lib.hid (fun W a m ca hW => (hask W a m ca hW).2)
  clear hask
  have q3 := Lib.hid (fun W (hW : Tab W) (hv : TT W p.a1 p.n1 p.c1 D.vars) => pshow_any p.a1 p.n1 p.c1 D.vars k x y c d W hW hv)
  have q4 := Lib.hid (fun W => akind_any k x y c d W)
  have q5 := Lib.hid (fun b W => asev_any b W)
  have q6 : Hid (∀ W, Calls Tryz.prog 89 #[.string (showP D.vars k x y c d), .string ⟨#[99, 104, 101, 99, 107, 32]⟩] W (fun e w' => e = .returned (.string (trimT (showP D.vars k x y c d))) ∧ w' = W)) := Lib.hid (fun W => Tryz.strings_TrimPrefix _ _ W)
  have hA : Hid (alarmZ D l ⟨f, ds, k, x, y, c, d⟩ = ⟨kindA x y, sevA (mustZ p.n1 l ⟨f, ds, k, x, y, c, d⟩), (D.spots.getD f spot0).fn, (D.spots.getD f spot0).file, (D.spots.getD f spot0).line, trimT (showP D.vars k x y c d)⟩) := Lib.hid (by unfold alarmZ; rw [← h.vars.len]; rfl)
  generalize trimT (showP D.vars k x y c d) = TX at *
  generalize showP D.vars k x y c d = SP at *
  generalize showE D.vars k x y c d = SE at *
  generalize mayZ p.n1 l ⟨f, ds, k, x, y, c, d⟩ = mb at *
  generalize mustZ p.n1 l ⟨f, ds, k, x, y, c, d⟩ = ub at *
  generalize kindA x y = kd at *
  generalize hAe : alarmZ D l ⟨f, ds, k, x, y, c, d⟩ = AZ at *
  clear hAe
  obtain ⟨AR, hAR⟩ : ∃ AR, AR = (if mb = true then AZ else al0) := ⟨_, rfl⟩
  rw [← hAR]
  replace hAR := Lib.hid hAR
  obtain ⟨b, off, za, zm, zc, rfl, hbl, x0, x1, hs⟩ := hl.at_ hf
  rw [hz] at x0 hs
  dsimp only at x0 hs
  obtain ⟨b', off', he', hbl', y0, y1, y2⟩ := spots_at h.spots hf2
  have hsp := Lib.hid he'
  generalize D.spots.getD f spot0 = sp at *
  obtain ⟨sf, sfi, sl⟩ := sp
  dsimp only at y0 y1 y2 hA
  obtain ⟨pnm, pa1, pn1, pc1, pa2, pn2, pc2, pa3, pn3, pc3⟩ := p
  dsimp only at *
  subst he'
  obtain ⟨W1, hW1⟩ : ∃ W1, W1 = ((w.alloc (.cells #[.string pnm, .slice pa1 pn1 pc1, .slice (some ⟨b', off', none⟩) pn2 pc2, .slice pa3 pn3 pc3] 38)).alloc (.cells #[.int .i64 f, .int .i64 ds, .int .i64 k, .int .i64 x, .int .i64 y, .int .i64 c, .int .i64 d] 75)).alloc (.cells #[.int .i64 0, .int .i64 0, .string ⟨#[]⟩, .string ⟨#[]⟩, .int .i64 0, .string ⟨#[]⟩] 23) := ⟨_, rfl⟩
  have hW1z : W1.heap.size = w.heap.size + 1 + 1 + 1 := by rw [hW1]; simp
  have HP : Holds W1 w.heap.size 38 #[.string pnm, .slice pa1 pn1 pc1, .slice (some ⟨b', off', none⟩) pn2 pc2, .slice pa3 pn3 pc3] := by rw [hW1]; exact ((Holds.new w _ _).alloc _).alloc _
  have HE : Holds W1 (w.heap.size + 1) 75 #[.int .i64 f, .int .i64 ds, .int .i64 k, .int .i64 x, .int .i64 y, .int .i64 c, .int .i64 d] := by
    rw [hW1]
    have := (Holds.new (w.alloc (.cells #[.string pnm, .slice pa1 pn1 pc1, .slice (some ⟨b', off', none⟩) pn2 pc2, .slice pa3 pn3 pc3] 38)) 75 #[.int .i64 f, .int .i64 ds, .int .i64 k, .int .i64 x, .int .i64 y, .int .i64 c, .int .i64 d]).alloc (.cells #[.int .i64 0, .int .i64 0, .string ⟨#[]⟩, .string ⟨#[]⟩, .int .i64 0, .string ⟨#[]⟩] 23)
    simpa using this
  have HA : Holds W1 (w.heap.size + 1 + 1) 23 #[.int .i64 0, .int .i64 0, .string ⟨#[]⟩, .string ⟨#[]⟩, .int .i64 0, .string ⟨#[]⟩] := by
    rw [hW1]
    have := Holds.new ((w.alloc (.cells #[.string pnm, .slice pa1 pn1 pc1, .slice (some ⟨b', off', none⟩) pn2 pc2, .slice pa3 pn3 pc3] 38)).alloc (.cells #[.int .i64 f, .int .i64 ds, .int .i64 k, .int .i64 x, .int .i64 y, .int .i64 c, .int .i64 d] 75)) 23 #[.int .i64 0, .int .i64 0, .string ⟨#[]⟩, .string ⟨#[]⟩, .int .i64 0, .string ⟨#[]⟩]
    simpa using this
  have B1 : Below w.heap.size w W1 := by rw [hW1]; exact ((box_below w _ _).alloc (by simp) _).alloc (by simp; omega) _
  have x0' := (B1.cell (p := ⟨b, off + f * 2, none⟩) hbl).trans x0
  have x1' := (B1.cell (p := ⟨b, off + f * 2 + 1, none⟩) hbl).trans x1
  rw [hW1] at x0' x1'
  obtain ⟨W2, hW2⟩ : ∃ W2, W2 = W1.alloc (.cells #[.int .i64 pn1, .slice za zm zc] 51) := ⟨_, rfl⟩
  have b2 : Below W1.heap.size W1 W2 := by rw [hW2]; exact box_below _ _ _
  have HZ : Holds W2 (w.heap.size + 1 + 1 + 1) 51 #[.int .i64 pn1, .slice za zm zc] := by rw [hW2, ← hW1z]; exact Holds.new _ _ _
  replace HP := Lib.hid (HP.below b2 HP.lt)
  replace HE := Lib.hid (HE.below b2 HE.lt)
  replace HA := Lib.hid (HA.below b2 HA.lt)
  replace HZ := Lib.hid HZ
  have BL := Lib.hid (B1.trans (b2.mono B1.size))
  rw [hW1] at hW2
  have hW2' := Lib.hid hW2
  have SZ := Lib.hid (hs.below BL.out)
  have hs0 := Lib.hid hs
  have y0' := Lib.hid (fun W (hW : Below w.heap.size w W) => (hW.cell (p := ⟨b', off' + f * 3, none⟩) hbl').trans y0)
  have y1' := Lib.hid (fun W (hW : Below w.heap.size w W) => (hW.cell (p := ⟨b', off' + f * 3 + 1, none⟩) hbl').trans y1)
  have y2' := Lib.hid (fun W (hW : Below w.heap.size w W) => (hW.cell (p := ⟨b', off' + f * 3 + 2, none⟩) hbl').trans y2)
  clear hW1 hW1z hW2 b2 B1 x0 x1 y0 y1 y2 hs h ht hl hsp
  go_enter Tryz.func45, Tryz.ntmps45
  go_wp2_with fail
  rw [← hW2'.out]
  with_reducible refine (q1.out _ _ _ _ SZ.out).mono ?_
  rintro e w1 ⟨rfl, b1⟩
  have b1' := b1
  replace HP := Lib.hid (HP.out.below b1 HP.out.lt)
  replace HE := Lib.hid (HE.out.below b1 HE.out.lt)
  replace HA := Lib.hid (HA.out.below b1 HA.out.lt)
  replace HZ := Lib.hid (HZ.out.below b1 HZ.out.lt)
  replace BL := Lib.hid (BL.out.trans (b1.mono BL.out.size))
  clear b1 b1' q1 x0' x1' hW2' SZ
  have a0 := HA.out.cell 0
  have a1 := HA.out.cell 1
  have a2 := HA.out.cell 2
  have a3 := HA.out.cell 3
  have a4 := HA.out.cell 4
  have a5 := HA.out.cell 5
  have f0 := HA.out.free 0
  have f1 := HA.out.free 1
  have f2 := HA.out.free 2
  have f3 := HA.out.free 3
  have f4 := HA.out.free 4
  have f5 := HA.out.free 5
  simp at a0 a1 a2 a3 a4 a5
  have hgw : w.heap.size ≤ w.heap.size + 1 + 1 := by omega
  cases mb
  · have hr : AR = al0 := by rw [hAR.out]; rfl
    clear hAR
    subst hr
    have hfin := Lib.hid (al_set HA.out (.int .i64 0) (.int .i64 0) (.string ⟨#[]⟩) (.string ⟨#[]⟩) (.int .i64 0) (.string ⟨#[]⟩))
    go_wp2
    exact al_ret2 hfin.out.1 ⟨rfl, BL.out.trans (below_of (hfin.out.2.mono BL.out.size) (by intro x hx; simp at hx; omega))⟩ _ _ 6 7 rfl rfl rfl rfl
  · have hr : AR = ⟨kd, sevA ub, sf, sfi, sl, TX⟩ := by rw [hAR.out, ← hA.out]; rfl
    clear hAR hA a0 a1 a2 a3 a4 a5 f0 f1 f2 f3 f4 f5
    subst hr
    have p2 := HP.out.cell 2
    have e0 := HE.out.cell 0
    simp at p2 e0
    have y0 := y0'.out w1 BL.out
    have y1 := y1'.out w1 BL.out
    have y2 := y2'.out w1 BL.out
    have b3 := box_below w1 #[.string sf, .string sfi, .int .i64 sl] 80
    have p1 := (HP.out.below b3 HP.out.lt).cell 1
    have e2 := (HE.out.below b3 HE.out.lt).cell 2
    have e3 := (HE.out.below b3 HE.out.lt).cell 3
    have e4 := (HE.out.below b3 HE.out.lt).cell 4
    have e5 := (HE.out.below b3 HE.out.lt).cell 5
    have e6 := (HE.out.below b3 HE.out.lt).cell 6
    simp at p1 e2 e3 e4 e5 e6
    obtain ⟨W3, hW3⟩ : ∃ W3, W3 = w1.alloc (.cells #[.string sf, .string sfi, .int .i64 sl] 80) := ⟨_, rfl⟩
    have HS := Lib.hid (show Holds W3 w1.heap.size 80 #[.string sf, .string sfi, .int .i64 sl] by rw [hW3]; exact Holds.new _ _ _)
    rw [← hW3] at b3
    have HA3 := HA.out.below b3 HA.out.lt
    have HE3 := HE.out.below b3 HE.out.lt
    have HZ3 := HZ.out.below b3 HZ.out.lt
    have BL3 := BL.out.trans (b3.mono BL.out.size)
    have hlw := BL.out.size
    have hag := HA.out.lt
    have hW3' := Lib.hid hW3
    have qs := Lib.hid (q3.out W3 (hT.out.on BL3) (hP.out.below BL3).vars)
    have S3 := Lib.hid (hs0.out.below BL3)
    clear hW3 b3 q3 HP HE HA HZ y0' y1' y2'
    go_wp2_with fail
    rw [← hW3'.out]
    with_reducible refine qs.out.mono ?_
    rintro e w2 ⟨rfl, b4⟩
    have A2 := Lib.hid (HA3.below b4 HA3.lt)
    have E2 := Lib.hid (HE3.below b4 HE3.lt)
    have Z2 := Lib.hid (HZ3.below b4 HZ3.lt)
    have S2 := Lib.hid (HS.out.below b4 HS.out.lt)
    have SL2 := Lib.hid (S3.out.below b4)
    have BL2 := Lib.hid (BL3.trans (b4.mono BL3.size))
    clear b4 qs HA3 HE3 HZ3 BL3 HS S3 hW3' p1 p2 e0 e2 e3 e4 e5 e6 y0 y1 y2 BL
    have hld : ∀ g T (cs : Array Value) i, Holds w2 g T cs → g ≠ w.heap.size + 1 + 1 → ∀ W, BelowE [w.heap.size + 1 + 1] w2.heap.size w2 W → W.cell? ⟨g, i, none⟩ = cs[i]? := fun g T cs i h hne W hW => (hW.cell (p := ⟨g, i, none⟩) h.lt (by simpa using hne)).trans (h.cell i)
    have e2 := hld _ _ _ 2 E2.out (by omega)
    have e3 := hld _ _ _ 3 E2.out (by omega)
    have e4 := hld _ _ _ 4 E2.out (by omega)
    have e5 := hld _ _ _ 5 E2.out (by omega)
    have e6 := hld _ _ _ 6 E2.out (by omega)
    have z0 := hld _ _ _ 0 Z2.out (by omega)
    have z1 := hld _ _ _ 1 Z2.out (by omega)
    have s0 := hld _ _ _ 0 S2.out (by omega)
    have s1 := hld _ _ _ 1 S2.out (by omega)
    have s2 := hld _ _ _ 2 S2.out (by omega)
    simp at e2 e3 e4 e5 e6 z0 z1 s0 s1 s2
    clear hld
    have q5' := Lib.hid (q5.out ub)
    generalize sevA ub = sv at *
    go_wp2
    refine wp_drawn_on (fun W => BelowE [w.heap.size + 1 + 1] w2.heap.size w2 W) (by kernel_rfl) ((BelowE.refl _ _ _).drew) (fun hHeld => ?_)
    refine wpAnyH_take (i := 0) (oi := { dst := some 37, op := Go.Op.fieldAddr 75 (Go.Operand.tmp 5) 2, type := 0, pos := "alarm.go:95", after := #[], guard := none }) (v := ?v1) rfl (by kernel_rfl) (by kernel_rfl) (by kernel_rfl) (fun _ _ _ h => h) (Or.inl ⟨by kernel_rfl, ?h1⟩) (by assumption) ?r1
    case h1 => (intro w hSw; (try dsimp only at hSw); go_simp; try with_reducible rfl)
    try simp only [Act.put, List.setIfInBounds_toArray, List.set_cons_zero, List.set_cons_succ]
    refine wpAnyH_take (i := 1) (oi := { dst := some 38, op := Go.Op.load 73 (Go.Operand.tmp 37), type := 73, pos := "alarm.go:95", after := #[{ on := 0, ground := Go.Ground.data }], guard := none }) (v := ?v2) rfl (by kernel_rfl) (by kernel_rfl) (by kernel_rfl) (fun _ _ _ h => h) (Or.inl ⟨by kernel_rfl, ?h2⟩) (by assumption) ?r2
    case h2 => (intro w hSw; (try dsimp only at hSw); go_simp; try with_reducible rfl)
    try simp only [Act.put, List.setIfInBounds_toArray, List.set_cons_zero, List.set_cons_succ]
    refine wpAnyH_take (i := 3) (oi := { dst := some 40, op := Go.Op.load 51 (Go.Operand.tmp 8), type := 51, pos := "alarm.go:95", after := #[], guard := none }) (v := ?v3) rfl (by kernel_rfl) (by kernel_rfl) (by kernel_rfl) (fun _ _ _ h => h) (Or.inl ⟨by kernel_rfl, ?h3⟩) (by assumption) ?r3
    case h3 => (intro w hSw; (try dsimp only at hSw); go_simp; try with_reducible rfl)
    try simp only [Act.put, List.setIfInBounds_toArray, List.set_cons_zero, List.set_cons_succ]
    refine wpAnyH_take (i := 4) (oi := { dst := some 41, op := Go.Op.fieldAddr 75 (Go.Operand.tmp 5) 2, type := 0, pos := "alarm.go:95", after := #[], guard := none }) (v := ?v4) rfl (by kernel_rfl) (by kernel_rfl) (by kernel_rfl) (fun _ _ _ h => h) (Or.inl ⟨by kernel_rfl, ?h4⟩) (by assumption) ?r4
    case h4 => (intro w hSw; (try dsimp only at hSw); go_simp; try with_reducible rfl)
    try simp only [Act.put, List.setIfInBounds_toArray, List.set_cons_zero, List.set_cons_succ]
    refine wpAnyH_take (i := 5) (oi := { dst := some 42, op := Go.Op.load 73 (Go.Operand.tmp 41), type := 73, pos := "alarm.go:95", after := #[{ on := 4, ground := Go.Ground.data }], guard := none }) (v := ?v5) rfl (by kernel_rfl) (by kernel_rfl) (by kernel_rfl) (fun _ _ _ h => h) (Or.inl ⟨by kernel_rfl, ?h5⟩) (by assumption) ?r5
    case h5 => (intro w hSw; (try dsimp only at hSw); go_simp; try with_reducible rfl)
    try simp only [Act.put, List.setIfInBounds_toArray, List.set_cons_zero, List.set_cons_succ]
    refine wpAnyH_take (i := 8) (oi := { dst := some 45, op := Go.Op.fieldAddr 80 (Go.Operand.tmp 9) 0, type := 0, pos := "alarm.go:95", after := #[], guard := none }) (v := ?v6) rfl (by kernel_rfl) (by kernel_rfl) (by kernel_rfl) (fun _ _ _ h => h) (Or.inl ⟨by kernel_rfl, ?h6⟩) (by assumption) ?r6
    case h6 => (intro w hSw; (try dsimp only at hSw); go_simp; try with_reducible rfl)
    try simp only [Act.put, List.setIfInBounds_toArray, List.set_cons_zero, List.set_cons_succ]
    refine wpAnyH_take (i := 9) (oi := { dst := some 46, op := Go.Op.load 9 (Go.Operand.tmp 45), type := 9, pos := "alarm.go:95", after := #[{ on := 8, ground := Go.Ground.data }], guard := none }) (v := ?v7) rfl (by kernel_rfl) (by kernel_rfl) (by kernel_rfl) (fun _ _ _ h => h) (Or.inl ⟨by kernel_rfl, ?h7⟩) (by assumption) ?r7
    case h7 => (intro w hSw; (try dsimp only at hSw); go_simp; try with_reducible rfl)
    try simp only [Act.put, List.setIfInBounds_toArray, List.set_cons_zero, List.set_cons_succ]
    refine wpAnyH_take (i := 10) (oi := { dst := some 47, op := Go.Op.fieldAddr 80 (Go.Operand.tmp 9) 1, type := 0, pos := "alarm.go:95", after := #[], guard := none }) (v := ?v8) rfl (by kernel_rfl) (by kernel_rfl) (by kernel_rfl) (fun _ _ _ h => h) (Or.inl ⟨by kernel_rfl, ?h8⟩) (by assumption) ?r8
    case h8 => (intro w hSw; (try dsimp only at hSw); go_simp; try with_reducible rfl)
    try simp only [Act.put, List.setIfInBounds_toArray, List.set_cons_zero, List.set_cons_succ]
    refine wpAnyH_take (i := 11) (oi := { dst := some 48, op := Go.Op.load 9 (Go.Operand.tmp 47), type := 9, pos := "alarm.go:95", after := #[{ on := 10, ground := Go.Ground.data }], guard := none }) (v := ?v9) rfl (by kernel_rfl) (by kernel_rfl) (by kernel_rfl) (fun _ _ _ h => h) (Or.inl ⟨by kernel_rfl, ?h9⟩) (by assumption) ?r9
    case h9 => (intro w hSw; (try dsimp only at hSw); go_simp; try with_reducible rfl)
    try simp only [Act.put, List.setIfInBounds_toArray, List.set_cons_zero, List.set_cons_succ]
    refine wpAnyH_take (i := 12) (oi := { dst := some 49, op := Go.Op.fieldAddr 80 (Go.Operand.tmp 9) 2, type := 0, pos := "alarm.go:95", after := #[], guard := none }) (v := ?v10) rfl (by kernel_rfl) (by kernel_rfl) (by kernel_rfl) (fun _ _ _ h => h) (Or.inl ⟨by kernel_rfl, ?h10⟩) (by assumption) ?r10
    case h10 => (intro w hSw; (try dsimp only at hSw); go_simp; try with_reducible rfl)
    try simp only [Act.put, List.setIfInBounds_toArray, List.set_cons_zero, List.set_cons_succ]
    refine wpAnyH_take (i := 13) (oi := { dst := some 50, op := Go.Op.load 3 (Go.Operand.tmp 49), type := 3, pos := "alarm.go:95", after := #[{ on := 12, ground := Go.Ground.data }], guard := none }) (v := ?v11) rfl (by kernel_rfl) (by kernel_rfl) (by kernel_rfl) (fun _ _ _ h => h) (Or.inl ⟨by kernel_rfl, ?h11⟩) (by assumption) ?r11
    case h11 => (intro w hSw; (try dsimp only at hSw); go_simp; try with_reducible rfl)
    try simp only [Act.put, List.setIfInBounds_toArray, List.set_cons_zero, List.set_cons_succ]
    refine wpAnyH_take (i := 14) (oi := { dst := some 51, op := Go.Op.move (Go.Operand.tmp 10), type := 9, pos := "alarm.go:95", after := #[], guard := none }) (v := ?v12) rfl (by kernel_rfl) (by kernel_rfl) (by kernel_rfl) (fun _ _ _ h => h) (Or.inl ⟨by kernel_rfl, ?h12⟩) (by assumption) ?r12
    case h12 => (intro w hSw; (try dsimp only at hSw); go_simp; try with_reducible rfl)
    try simp only [Act.put, List.setIfInBounds_toArray, List.set_cons_zero, List.set_cons_succ]
    refine wpAnyH_ready (rs := [2]) (by kernel_rfl) (by simp) ?_
    refine AllReadyH.cons (o := { dst := some 39, op := Go.Op.call { callee := Go.Callee.value (Go.Operand.func 86), args := #[Go.Operand.tmp 38], argTypes := #[73] }, type := 3, pos := "alarm.go:96", after := #[{ on := 1, ground := Go.Ground.data }], guard := none }) rfl (fun K hK => ?_) AllReadyH.nil
    go_simp
    with_reducible refine (q4.out _).mono ?_
    rintro e w3 ⟨rfl, b3⟩
    have A3 := Holds.below (w := w2.drew) A2.out b3 A2.out.lt
    have SL3 := SL.below (w := w2.drew) (SL2.out.drewN 1) b3
    go_simp
    refine hK.out _ _ (hHeld.trans (BelowE.of (b3.mono hHeld.size))) (fun hHeld => ?_)
    clear hK K
    try simp only [Act.put, List.setIfInBounds_toArray, List.set_cons_zero, List.set_cons_succ]
    refine wpAnyH_ready (rs := [6]) (by kernel_rfl) (by simp) ?_
    refine AllReadyH.cons (o := { dst := some 43, op := Go.Op.call { callee := Go.Callee.value (Go.Operand.func 88), args := #[Go.Operand.tmp 40, Go.Operand.tmp 42], argTypes := #[51, 73] }, type := 4, pos := "alarm.go:97", after := #[{ on := 3, ground := Go.Ground.data }, { on := 5, ground := Go.Ground.data }, { on := 2, ground := Go.Ground.chain }], guard := none }) rfl (fun K hK => ?_) AllReadyH.nil
    go_simp
    with_reducible refine (q2.out _ _ _ _ SL3).mono ?_
    rintro e w4 ⟨rfl, b4⟩
    have A4 := A3.below b4 A3.lt
    go_simp
    refine hK.out _ _ (hHeld.trans (BelowE.of (b4.mono hHeld.size))) (fun hHeld => ?_)
    clear hK K
    try simp only [Act.put, List.setIfInBounds_toArray, List.set_cons_zero, List.set_cons_succ]
    refine wpAnyH_ready (rs := [7]) (by kernel_rfl) (by simp) ?_
    refine AllReadyH.cons (o := { dst := some 44, op := Go.Op.call { callee := Go.Callee.value (Go.Operand.func 87), args := #[Go.Operand.tmp 43], argTypes := #[4] }, type := 3, pos := "alarm.go:97", after := #[{ on := 6, ground := Go.Ground.data }, { on := 6, ground := Go.Ground.chain }], guard := none }) rfl (fun K hK => ?_) AllReadyH.nil
    go_simp
    with_reducible refine (q5'.out _).mono ?_
    rintro e w5 ⟨rfl, rfl⟩
    go_simp
    refine hK.out _ _ (hHeld) (fun hHeld => ?_)
    clear hK K
    try simp only [Act.put, List.setIfInBounds_toArray, List.set_cons_zero, List.set_cons_succ]
    refine wpAnyH_ready (rs := [15]) (by kernel_rfl) (by simp) ?_
    refine AllReadyH.cons (o := { dst := some 52, op := Go.Op.call { callee := Go.Callee.value (Go.Operand.func 89), args := #[Go.Operand.tmp 51, Go.Operand.const (Go.Value.string { data := #[99, 104, 101, 99, 107, 32] })], argTypes := #[9, 9] }, type := 9, pos := "alarm.go:101", after := #[{ on := 14, ground := Go.Ground.data }, { on := 7, ground := Go.Ground.chain }], guard := none }) rfl (fun K hK => ?_) AllReadyH.nil
    go_simp
    with_reducible refine (q6.out _).mono ?_
    rintro e w6 ⟨rfl, rfl⟩
    go_simp
    refine hK.out _ _ (hHeld) (fun hHeld => ?_)
    clear hK K
    try simp only [Act.put, List.setIfInBounds_toArray, List.set_cons_zero, List.set_cons_succ]
    refine wpAnyH_take (i := 16) (oi := { dst := some 53, op := Go.Op.build 23 #[(0, Go.Operand.tmp 39), (1, Go.Operand.tmp 44), (2, Go.Operand.tmp 46), (3, Go.Operand.tmp 48), (4, Go.Operand.tmp 50), (5, Go.Operand.tmp 52)], type := 23, pos := "alarm.go:95", after := #[{ on := 2, ground := Go.Ground.data }, { on := 7, ground := Go.Ground.data }, { on := 9, ground := Go.Ground.data }, { on := 11, ground := Go.Ground.data }, { on := 13, ground := Go.Ground.data }, { on := 15, ground := Go.Ground.data }], guard := none }) (v := ?v13) rfl (by kernel_rfl) (by kernel_rfl) (by kernel_rfl) (fun _ _ _ h => h) (Or.inl ⟨by kernel_rfl, ?h13⟩) (by assumption) ?r13
    case h13 => (intro w hSw; (try dsimp only at hSw); go_simp; try with_reducible rfl)
    try simp only [Act.put, List.setIfInBounds_toArray, List.set_cons_zero, List.set_cons_succ]
    refine wpAnyH_ready (rs := [17]) (by kernel_rfl) (by simp) ?_
    refine AllReadyH.cons (o := { dst := none, op := Go.Op.store 23 (Go.Operand.tmp 6) (Go.Operand.tmp 53), type := 0, pos := "alarm.go:95", after := #[{ on := 16, ground := Go.Ground.data }, { on := 15, ground := Go.Ground.chain }, { on := 0, ground := Go.Ground.phase }, { on := 1, ground := Go.Ground.phase }, { on := 2, ground := Go.Ground.phase }, { on := 3, ground := Go.Ground.phase }, { on := 4, ground := Go.Ground.phase }, { on := 5, ground := Go.Ground.phase }, { on := 6, ground := Go.Ground.phase }, { on := 7, ground := Go.Ground.phase }, { on := 8, ground := Go.Ground.phase }, { on := 9, ground := Go.Ground.phase }, { on := 10, ground := Go.Ground.phase }, { on := 11, ground := Go.Ground.phase }, { on := 12, ground := Go.Ground.phase }, { on := 13, ground := Go.Ground.phase }, { on := 14, ground := Go.Ground.phase }, { on := 15, ground := Go.Ground.phase }, { on := 16, ground := Go.Ground.phase }], guard := none }) rfl (fun K hK => ?_) AllReadyH.nil
    go_simp
    have hfin := al_set A4 (.int .i64 kd) (.int .i64 sv) (.string sf) (.string sfi) (.int .i64 sl) (.string TX)
    have a0 := A4.cell 0
    have a1 := A4.cell 1
    have a2 := A4.cell 2
    have a3 := A4.cell 3
    have a4 := A4.cell 4
    have a5 := A4.cell 5
    have f0 := A4.free 0
    have f1 := A4.free 1
    have f2 := A4.free 2
    have f3 := A4.free 3
    have f4 := A4.free 4
    have f5 := A4.free 5
    simp at a0 a1 a2 a3 a4 a5
    go_simp
    generalize ((((((w6.setCell ⟨w.heap.size + 1 + 1, 0, none⟩ (.int .i64 kd)).setCell ⟨w.heap.size + 1 + 1, 1, none⟩ (.int .i64 sv)).setCell ⟨w.heap.size + 1 + 1, 2, none⟩ (.string sf)).setCell ⟨w.heap.size + 1 + 1, 3, none⟩ (.string sfi)).setCell ⟨w.heap.size + 1 + 1, 4, none⟩ (.int .i64 sl)).setCell ⟨w.heap.size + 1 + 1, 5, none⟩ (.string TX)) = w7 at hfin ⊢
    refine hK.out _ _ (hHeld.trans (hfin.2.mono hHeld.size)) (fun hHeld => ?_)
    clear hK K
    try simp only [Act.put, List.setIfInBounds_toArray, List.set_cons_zero, List.set_cons_succ]
    refine wpAnyH_take (i := 18) (oi := { dst := some 7, op := Go.Op.assign (Go.Operand.const (Go.Value.bool true)), type := 4, pos := "alarm.go:95", after := #[{ on := 17, ground := Go.Ground.chain }, { on := 0, ground := Go.Ground.phase }, { on := 1, ground := Go.Ground.phase }, { on := 2, ground := Go.Ground.phase }, { on := 3, ground := Go.Ground.phase }, { on := 4, ground := Go.Ground.phase }, { on := 5, ground := Go.Ground.phase }, { on := 6, ground := Go.Ground.phase }, { on := 7, ground := Go.Ground.phase }, { on := 8, ground := Go.Ground.phase }, { on := 9, ground := Go.Ground.phase }, { on := 10, ground := Go.Ground.phase }, { on := 11, ground := Go.Ground.phase }, { on := 12, ground := Go.Ground.phase }, { on := 13, ground := Go.Ground.phase }, { on := 14, ground := Go.Ground.phase }, { on := 15, ground := Go.Ground.phase }, { on := 16, ground := Go.Ground.phase }, { on := 17, ground := Go.Ground.phase }], guard := none }) (v := ?v14) rfl (by kernel_rfl) (by kernel_rfl) (by kernel_rfl) (fun _ _ _ h => h) (Or.inl ⟨by kernel_rfl, ?h14⟩) (by assumption) ?r14
    case h14 => (intro w hSw; (try dsimp only at hSw); go_simp; try with_reducible rfl)
    try simp only [Act.put, List.setIfInBounds_toArray, List.set_cons_zero, List.set_cons_succ]
    refine wpAnyH_done (by kernel_rfl) ?_ _
    have hB7 := BL2.out.trans (below_of (hHeld.mono BL2.out.size) (by intro x hx; simp at hx; omega))
    go_wp2
    exact al_ret2 hfin.1 ⟨rfl, hB7⟩ _ _ 6 7 rfl rfl rfl rfl
end Go.Proofs.YtimgocfkogebmaaGreatDoor
