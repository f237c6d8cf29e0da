/-
  Words and walks under the law's proof.
-/
import Derived.Test.YtgeliikfgnkppaaGreatDoorQS01
import Derived.Test.YtgeliikfgnkppaaGreatDoorQS04
namespace Go.Proofs.YtgeliikfgnkppaaGreatDoor
open Go.RowKit
set_option linter.unusedVariables false
set_option linter.unusedSimpArgs false
def skipT : ByteArray := ⟨#[115, 107, 105, 112]⟩
def stmtT (l : List ByteArray) (k x y c d : Int) : ByteArray := if k = 1 then skipT else if k = 2 then letT l x y c else if k = 3 then anyT l x c d else if k = 4 then limT ⟨#[108, 105, 109, 105, 116]⟩ l x y c else limT ⟨#[99, 104, 101, 99, 107]⟩ l x y c
def showE (l : List ByteArray) (k x y c d : Int) : Int := if varsB l = true then (if rightB k x y c d (l.length : Int) = true then 0 else 111) else 110
def showP (l : List ByteArray) (k x y c d : Int) : ByteArray := if showE l k x y c d = 0 then stmtT l k x y c d else ⟨#[]⟩
theorem vars_name {l : List ByteArray} (h : varsB l = true) {s : ByteArray} (hs : s ∈ l) : nameB s = true ∧ takB s = false := by
  unfold varsB at h
  rw [Bool.and_eq_true, List.all_eq_true] at h
  obtain ⟨t, ht, rfl⟩ := List.getElem_of_mem hs
  have := h.2 t (List.mem_range.2 ht)
  unfold varB at this
  simp only [Bool.and_eq_true, Bool.not_eq_true'] at this
  have e : l.getD t e0 = l[t] := by simp [List.getD, ht]
  rw [e] at this
  exact ⟨this.1, this.2.1⟩
theorem vars_sz {l : List ByteArray} (h : varsB l = true) : ∀ s ∈ l, s.size ≤ 32 := fun s hs => by
  have := (vars_name h hs).1
  unfold nameB at this
  rw [Bool.and_eq_true, decide_eq_true_eq] at this
  exact this.1
theorem vars_len {l : List ByteArray} (h : varsB l = true) : l.length ≤ 8 := by
  unfold varsB at h
  rw [Bool.and_eq_true, decide_eq_true_eq] at h
  exact h.1
theorem right_kind {k x y c d n : Int} (h : rightB k x y c d n = true) : 1 ≤ k ∧ k ≤ 5 := by
  unfold rightB at h
  split at h
  · cases h
  · omega
theorem right_let {x y c d n : Int} (h : rightB 2 x y c d n = true) : 1 ≤ x ∧ x ≤ n ∧ 0 ≤ y ∧ y ≤ n ∧ (-1099511627776 ≤ c ∧ c ≤ 1099511627776) ∧ d = 0 := by
  unfold rightB at h
  split at h
  · cases h
  · simp only [stmtB, letB, isVarB, isTermB, isValB, show ¬ (2 : Int) = 1 by omega, if_false, if_true, Bool.and_eq_true, decide_eq_true_eq, beq_iff_eq] at h
    exact ⟨h.1.1, h.1.2, h.2.1.1, h.2.1.2, h.2.2.1, h.2.2.2⟩
theorem right_any' {x y c d n : Int} (h : rightB 3 x y c d n = true) : 1 ≤ x ∧ x ≤ n ∧ y = 0 ∧ (-1099511627776 ≤ c ∧ c ≤ 1099511627776) ∧ (-1099511627776 ≤ d ∧ d ≤ 1099511627776) ∧ c ≤ d := by
  unfold rightB at h
  split at h
  · cases h
  · simp only [stmtB, anyB, isVarB, isTermB, isValB, show ¬ (3 : Int) = 1 by omega, show ¬ (3 : Int) = 2 by omega, if_false, if_true, Bool.and_eq_true, decide_eq_true_eq, beq_iff_eq] at h
    exact ⟨h.1.1, h.1.2, h.2.1, h.2.2.1, h.2.2.2.1, h.2.2.2.2⟩
theorem right_diff {k x y c d n : Int} (hk : k = 4 ∨ k = 5) (h : rightB k x y c d n = true) : 0 ≤ x ∧ x ≤ n ∧ 0 ≤ y ∧ y ≤ n ∧ x ≠ y ∧ (-1099511627776 ≤ c ∧ c ≤ 1099511627776) ∧ d = 0 := by
  unfold rightB at h
  split at h
  · cases h
  · unfold stmtB at h
    rw [if_neg (by omega), if_neg (by omega), if_neg (by omega)] at h
    simp only [diffB, isVarB, isTermB, isValB, Bool.and_eq_true, decide_eq_true_eq, beq_iff_eq, bne_iff_ne] at h
    exact ⟨h.1.1, h.1.2, h.2.1.1, h.2.1.2, h.2.2.1, h.2.2.2.1, h.2.2.2.2⟩
set_option maxRecDepth 100000 in
set_option maxHeartbeats 2000000 in
theorem pshow_1 (a : Option Addr) (n cp : Nat) (l : List ByteArray) (x y c d : Int) (T : ByteArray) (hv : varsB l = true) (hr : rightB 1 x y c d (n : Int) = true)
    (hq : ∀ W, Tab W → TT W a n cp l → Calls Tryz.prog 70 #[.slice a n cp, .agg #[.int .i64 1, .int .i64 x, .int .i64 y, .int .i64 c, .int .i64 d]] W (Gives (.string T) W)) (w : World) (ht : Tab w) (h : TT w a n cp l) :
    Calls Tryz.prog 20 #[.slice a n cp, .agg #[.int .i64 1, .int .i64 x, .int .i64 y, .int .i64 c, .int .i64 d]] w (Gives (.tuple #[.string T, .int .i64 0]) w) := by
  have q1 := Lib.hid (fun W hW => rightVars_any a n cp l W hW)
  have q2 := Lib.hid (fun W => right_any 1 x y c d (n : Int) W)
  rw [hv] at q1
  rw [hr] at q2
  obtain ⟨W1, hW1⟩ : ∃ W1, W1 = w.alloc (.cells #[.int .i64 1, .int .i64 x, .int .i64 y, .int .i64 c, .int .i64 d] 38) := ⟨_, rfl⟩
  have BL := Lib.hid (show Below w.heap.size w W1 by rw [hW1]; exact box_below _ _ _)
  have HZ : Hid (Holds W1 w.heap.size 38 #[.int .i64 1, .int .i64 x, .int .i64 y, .int .i64 c, .int .i64 d]) := Lib.hid (by rw [hW1]; exact Holds.new w _ _)
  have T1 := Lib.hid (ht.on BL.out)
  have V := Lib.hid (h.below BL.out)
  have hW1' := Lib.hid hW1
  have hq' := Lib.hid hq
  have hn : (n : Int) ≤ 9223372036854775807 := by have := h.cap; have := h.max; unfold maxLen at this; omega
  have hix : ∀ W, (Instr.index 73 (.agg kindsA) (.int .i64 1)).run Tryz.prog W = .ok (.agg #[.func (.func 69) #[] #[], .func (.func 70) #[] #[]]) W := fun W => by kernel_rfl
  have hfd : ∀ W, (Instr.field 72 (.agg #[.func (.func 69) #[] #[], .func (.func 70) #[] #[]]) 1).run Tryz.prog W = .ok (.func (.func 70) #[] #[]) W := fun W => by kernel_rfl
  clear hW1 hq hv hr ht h
  go_enter Tryz.func20, Tryz.ntmps20
  go_wp2_with fail
  rw [← hW1'.out]
  with_reducible refine (q1.out W1 V.out).mono ?_
  rintro e u1 ⟨rfl, b1⟩
  replace HZ := Lib.hid (HZ.out.below b1 HZ.out.lt)
  replace V := Lib.hid (V.out.below b1)
  replace T1 := Lib.hid (T1.out.on b1)
  replace BL := Lib.hid (BL.out.trans (b1.mono BL.out.size))
  clear b1 hW1' q1
  have k0 := HZ.out.cell 0
  have k1 := HZ.out.cell 1
  have k2 := HZ.out.cell 2
  have k3 := HZ.out.cell 3
  have k4 := HZ.out.cell 4
  go_wp2_with fail
  refine (q2.out u1).mono ?_
  rintro e u2 ⟨rfl, b1⟩
  replace HZ := Lib.hid (HZ.out.below b1 HZ.out.lt)
  replace V := Lib.hid (V.out.below b1)
  replace T1 := Lib.hid (T1.out.on b1)
  replace BL := Lib.hid (BL.out.trans (b1.mono BL.out.size))
  clear b1 q2 k0 k1 k2 k3 k4
  go_wp2
  have g0 : ∀ W, Below u2.heap.size u2 W → W.cell? ⟨w.heap.size, 0, none⟩ = some (.int .i64 1) := fun W hW => (HZ.out.below hW HZ.out.lt).cell 0
  have g1 : ∀ W, Below u2.heap.size u2 W → W.cell? ⟨w.heap.size, 1, none⟩ = some (.int .i64 x) := fun W hW => (HZ.out.below hW HZ.out.lt).cell 1
  have g2 : ∀ W, Below u2.heap.size u2 W → W.cell? ⟨w.heap.size, 2, none⟩ = some (.int .i64 y) := fun W hW => (HZ.out.below hW HZ.out.lt).cell 2
  have g3 : ∀ W, Below u2.heap.size u2 W → W.cell? ⟨w.heap.size, 3, none⟩ = some (.int .i64 c) := fun W hW => (HZ.out.below hW HZ.out.lt).cell 3
  have g4 : ∀ W, Below u2.heap.size u2 W → W.cell? ⟨w.heap.size, 4, none⟩ = some (.int .i64 d) := fun W hW => (HZ.out.below hW HZ.out.lt).cell 4
  refine wp_drawn_on (fun W => Below u2.heap.size u2 W) (by kernel_rfl) ((Below.refl _ _).drew) (fun hHeld => ?_)
  refine wpAnyH_take (i := 1) (oi := { dst := some 15, op := Go.Op.fieldAddr 38 (Go.Operand.tmp 3) 0, type := 0, pos := "stmt.go:31", after := #[], guard := none }) (v := ?v1) rfl (by kernel_rfl) (by kernel_rfl) (by kernel_rfl) (fun _ _ _ h => h) (Or.inl ⟨by kernel_rfl, ?h1⟩) (by assumption) ?r1
  case h1 => (intro w hSw; (try dsimp only at hSw); go_simp; try with_reducible rfl)
  try simp only [Act.put, List.setIfInBounds_toArray, List.set_cons_zero, List.set_cons_succ]
  refine wpAnyH_take (i := 2) (oi := { dst := some 16, op := Go.Op.load 3 (Go.Operand.tmp 15), type := 3, pos := "stmt.go:31", after := #[{ on := 1, ground := Go.Ground.data }], guard := none }) (v := ?v2) rfl (by kernel_rfl) (by kernel_rfl) (by kernel_rfl) (fun _ _ _ h => h) (Or.inl ⟨by kernel_rfl, ?h2⟩) (by assumption) ?r2
  case h2 => (intro w hSw; (try dsimp only at hSw); go_simp; try with_reducible rfl)
  try simp only [Act.put, List.setIfInBounds_toArray, List.set_cons_zero, List.set_cons_succ]
  refine wpAnyH_take (i := 5) (oi := { dst := some 19, op := Go.Op.move (Go.Operand.tmp 0), type := 22, pos := "stmt.go:31", after := #[], guard := none }) (v := ?v3) rfl (by kernel_rfl) (by kernel_rfl) (by kernel_rfl) (fun _ _ _ h => h) (Or.inl ⟨by kernel_rfl, ?h3⟩) (by assumption) ?r3
  case h3 => (intro w hSw; (try dsimp only at hSw); go_simp; try with_reducible rfl)
  try simp only [Act.put, List.setIfInBounds_toArray, List.set_cons_zero, List.set_cons_succ]
  refine wpAnyH_take (i := 6) (oi := { dst := some 20, op := Go.Op.load 38 (Go.Operand.tmp 3), type := 38, pos := "stmt.go:31", after := #[], guard := none }) (v := ?v4) rfl (by kernel_rfl) (by kernel_rfl) (by kernel_rfl) (fun _ _ _ h => h) (Or.inl ⟨by kernel_rfl, ?h4⟩) (by assumption) ?r4
  case h4 => (intro w hSw; (try dsimp only at hSw); go_simp; try with_reducible rfl)
  try simp only [Act.put, List.setIfInBounds_toArray, List.set_cons_zero, List.set_cons_succ]
  refine wpAnyH_ready (rs := [0]) (by kernel_rfl) (by simp) ?_
  refine AllReadyH.cons (o := { dst := some 14, op := Go.Op.call { callee := Go.Callee.value (Go.Operand.func 46), args := #[], argTypes := #[] }, type := 73, pos := "stmt.go:31", after := #[], guard := none }) rfl (fun K hK => ?_) AllReadyH.nil
  go_simp
  refine (kinds_any _).mono ?_
  rintro e t0 ⟨rfl, b0⟩
  go_simp
  refine hK.out _ _ (hHeld.trans (b0.mono hHeld.size)) (fun hHeld => ?_)
  clear hK K
  try simp only [Act.put, List.setIfInBounds_toArray, List.set_cons_zero, List.set_cons_succ]
  refine wpAnyH_take (i := 3) (oi := { dst := some 17, op := Go.Op.index 73 (Go.Operand.tmp 14) (Go.Operand.tmp 16), type := 72, pos := "stmt.go:31", after := #[{ on := 0, ground := Go.Ground.data }, { on := 2, ground := Go.Ground.data }], guard := none }) (v := ?v5) rfl (by kernel_rfl) (by kernel_rfl) (by kernel_rfl) (fun _ _ _ h => h) (Or.inl ⟨by kernel_rfl, ?h5⟩) (by assumption) ?r5
  case h5 => (intro w hSw; (try dsimp only at hSw); go_simp; try with_reducible rfl)
  try simp only [Act.put, List.setIfInBounds_toArray, List.set_cons_zero, List.set_cons_succ]
  refine wpAnyH_take (i := 4) (oi := { dst := some 18, op := Go.Op.field 72 (Go.Operand.tmp 17) 1, type := 45, pos := "stmt.go:31", after := #[{ on := 3, ground := Go.Ground.data }], guard := none }) (v := ?v6) rfl (by kernel_rfl) (by kernel_rfl) (by kernel_rfl) (fun _ _ _ h => h) (Or.inl ⟨by kernel_rfl, ?h6⟩) (by assumption) ?r6
  case h6 => (intro w hSw; (try dsimp only at hSw); go_simp; try with_reducible rfl)
  try simp only [Act.put, List.setIfInBounds_toArray, List.set_cons_zero, List.set_cons_succ]
  refine wpAnyH_ready (rs := [7]) (by kernel_rfl) (by simp) ?_
  refine AllReadyH.cons (o := { dst := some 21, op := Go.Op.call { callee := Go.Callee.value (Go.Operand.tmp 18), args := #[Go.Operand.tmp 19, Go.Operand.tmp 20], argTypes := #[22, 38] }, type := 9, pos := "stmt.go:31", after := #[{ on := 4, ground := Go.Ground.data }, { on := 5, ground := Go.Ground.data }, { on := 6, ground := Go.Ground.data }, { on := 0, ground := Go.Ground.chain }], guard := none }) rfl (fun K hK => ?_) AllReadyH.nil
  go_simp
  refine (hq'.out _ (T1.out.on hHeld) (V.out.below hHeld)).mono ?_
  rintro e t7 ⟨rfl, b7⟩
  go_simp
  refine hK.out _ _ (hHeld.trans (b7.mono hHeld.size)) (fun hHeld => ?_)
  clear hK K
  try simp only [Act.put, List.setIfInBounds_toArray, List.set_cons_zero, List.set_cons_succ]
  refine wpAnyH_take (i := 8) (oi := { dst := some 4, op := Go.Op.assign (Go.Operand.tmp 21), type := 9, pos := "stmt.go:31", after := #[{ on := 7, ground := Go.Ground.data }, { on := 7, ground := Go.Ground.chain }, { on := 0, ground := Go.Ground.phase }, { on := 1, ground := Go.Ground.phase }, { on := 2, ground := Go.Ground.phase }, { on := 3, ground := Go.Ground.phase }, { on := 4, ground := Go.Ground.phase }, { on := 5, ground := Go.Ground.phase }, { on := 6, ground := Go.Ground.phase }, { on := 7, ground := Go.Ground.phase }], guard := none }) (v := ?v7) rfl (by kernel_rfl) (by kernel_rfl) (by kernel_rfl) (fun _ _ _ h => h) (Or.inl ⟨by kernel_rfl, ?h7⟩) (by assumption) ?r7
  case h7 => (intro w hSw; (try dsimp only at hSw); go_simp; try with_reducible rfl)
  try simp only [Act.put, List.setIfInBounds_toArray, List.set_cons_zero, List.set_cons_succ]
  refine wpAnyH_take (i := 9) (oi := { dst := some 5, op := Go.Op.assign (Go.Operand.const (Go.Value.int Go.IntKind.i64 0)), type := 29, pos := "stmt.go:31", after := #[{ on := 8, ground := Go.Ground.chain }, { on := 0, ground := Go.Ground.phase }, { on := 1, ground := Go.Ground.phase }, { on := 2, ground := Go.Ground.phase }, { on := 3, ground := Go.Ground.phase }, { on := 4, ground := Go.Ground.phase }, { on := 5, ground := Go.Ground.phase }, { on := 6, ground := Go.Ground.phase }, { on := 7, ground := Go.Ground.phase }, { on := 8, ground := Go.Ground.phase }], guard := none }) (v := ?v8) rfl (by kernel_rfl) (by kernel_rfl) (by kernel_rfl) (fun _ _ _ h => h) (Or.inl ⟨by kernel_rfl, ?h8⟩) (by assumption) ?r8
  case h8 => (intro w hSw; (try dsimp only at hSw); go_simp; try with_reducible rfl)
  try simp only [Act.put, List.setIfInBounds_toArray, List.set_cons_zero, List.set_cons_succ]
  refine wpAnyH_done (by kernel_rfl) ?_ _
  go_wp2
  go_ret2
  exact ⟨rfl, BL.out.trans (hHeld.mono BL.out.size)⟩
set_option maxRecDepth 100000 in
set_option maxHeartbeats 2000000 in
theorem pshow_2 (a : Option Addr) (n cp : Nat) (l : List ByteArray) (x y c d : Int) (T : ByteArray) (hv : varsB l = true) (hr : rightB 2 x y c d (n : Int) = true)
    (hq : ∀ W, Tab W → TT W a n cp l → Calls Tryz.prog 72 #[.slice a n cp, .agg #[.int .i64 2, .int .i64 x, .int .i64 y, .int .i64 c, .int .i64 d]] W (Gives (.string T) W)) (w : World) (ht : Tab w) (h : TT w a n cp l) :
    Calls Tryz.prog 20 #[.slice a n cp, .agg #[.int .i64 2, .int .i64 x, .int .i64 y, .int .i64 c, .int .i64 d]] w (Gives (.tuple #[.string T, .int .i64 0]) w) := by
  have q1 := Lib.hid (fun W hW => rightVars_any a n cp l W hW)
  have q2 := Lib.hid (fun W => right_any 2 x y c d (n : Int) W)
  rw [hv] at q1
  rw [hr] at q2
  obtain ⟨W1, hW1⟩ : ∃ W1, W1 = w.alloc (.cells #[.int .i64 2, .int .i64 x, .int .i64 y, .int .i64 c, .int .i64 d] 38) := ⟨_, rfl⟩
  have BL := Lib.hid (show Below w.heap.size w W1 by rw [hW1]; exact box_below _ _ _)
  have HZ : Hid (Holds W1 w.heap.size 38 #[.int .i64 2, .int .i64 x, .int .i64 y, .int .i64 c, .int .i64 d]) := Lib.hid (by rw [hW1]; exact Holds.new w _ _)
  have T1 := Lib.hid (ht.on BL.out)
  have V := Lib.hid (h.below BL.out)
  have hW1' := Lib.hid hW1
  have hq' := Lib.hid hq
  have hn : (n : Int) ≤ 9223372036854775807 := by have := h.cap; have := h.max; unfold maxLen at this; omega
  have hix : ∀ W, (Instr.index 73 (.agg kindsA) (.int .i64 2)).run Tryz.prog W = .ok (.agg #[.func (.func 71) #[] #[], .func (.func 72) #[] #[]]) W := fun W => by kernel_rfl
  have hfd : ∀ W, (Instr.field 72 (.agg #[.func (.func 71) #[] #[], .func (.func 72) #[] #[]]) 1).run Tryz.prog W = .ok (.func (.func 72) #[] #[]) W := fun W => by kernel_rfl
  clear hW1 hq hv hr ht h
  go_enter Tryz.func20, Tryz.ntmps20
  go_wp2_with fail
  rw [← hW1'.out]
  with_reducible refine (q1.out W1 V.out).mono ?_
  rintro e u1 ⟨rfl, b1⟩
  replace HZ := Lib.hid (HZ.out.below b1 HZ.out.lt)
  replace V := Lib.hid (V.out.below b1)
  replace T1 := Lib.hid (T1.out.on b1)
  replace BL := Lib.hid (BL.out.trans (b1.mono BL.out.size))
  clear b1 hW1' q1
  have k0 := HZ.out.cell 0
  have k1 := HZ.out.cell 1
  have k2 := HZ.out.cell 2
  have k3 := HZ.out.cell 3
  have k4 := HZ.out.cell 4
  go_wp2_with fail
  refine (q2.out u1).mono ?_
  rintro e u2 ⟨rfl, b1⟩
  replace HZ := Lib.hid (HZ.out.below b1 HZ.out.lt)
  replace V := Lib.hid (V.out.below b1)
  replace T1 := Lib.hid (T1.out.on b1)
  replace BL := Lib.hid (BL.out.trans (b1.mono BL.out.size))
  clear b1 q2 k0 k1 k2 k3 k4
  go_wp2
  have g0 : ∀ W, Below u2.heap.size u2 W → W.cell? ⟨w.heap.size, 0, none⟩ = some (.int .i64 2) := fun W hW => (HZ.out.below hW HZ.out.lt).cell 0
  have g1 : ∀ W, Below u2.heap.size u2 W → W.cell? ⟨w.heap.size, 1, none⟩ = some (.int .i64 x) := fun W hW => (HZ.out.below hW HZ.out.lt).cell 1
  have g2 : ∀ W, Below u2.heap.size u2 W → W.cell? ⟨w.heap.size, 2, none⟩ = some (.int .i64 y) := fun W hW => (HZ.out.below hW HZ.out.lt).cell 2
  have g3 : ∀ W, Below u2.heap.size u2 W → W.cell? ⟨w.heap.size, 3, none⟩ = some (.int .i64 c) := fun W hW => (HZ.out.below hW HZ.out.lt).cell 3
  have g4 : ∀ W, Below u2.heap.size u2 W → W.cell? ⟨w.heap.size, 4, none⟩ = some (.int .i64 d) := fun W hW => (HZ.out.below hW HZ.out.lt).cell 4
  refine wp_drawn_on (fun W => Below u2.heap.size u2 W) (by kernel_rfl) ((Below.refl _ _).drew) (fun hHeld => ?_)
  refine wpAnyH_take (i := 1) (oi := { dst := some 15, op := Go.Op.fieldAddr 38 (Go.Operand.tmp 3) 0, type := 0, pos := "stmt.go:31", after := #[], guard := none }) (v := ?v9) rfl (by kernel_rfl) (by kernel_rfl) (by kernel_rfl) (fun _ _ _ h => h) (Or.inl ⟨by kernel_rfl, ?h9⟩) (by assumption) ?r9
  case h9 => (intro w hSw; (try dsimp only at hSw); go_simp; try with_reducible rfl)
  try simp only [Act.put, List.setIfInBounds_toArray, List.set_cons_zero, List.set_cons_succ]
  refine wpAnyH_take (i := 2) (oi := { dst := some 16, op := Go.Op.load 3 (Go.Operand.tmp 15), type := 3, pos := "stmt.go:31", after := #[{ on := 1, ground := Go.Ground.data }], guard := none }) (v := ?v10) rfl (by kernel_rfl) (by kernel_rfl) (by kernel_rfl) (fun _ _ _ h => h) (Or.inl ⟨by kernel_rfl, ?h10⟩) (by assumption) ?r10
  case h10 => (intro w hSw; (try dsimp only at hSw); go_simp; try with_reducible rfl)
  try simp only [Act.put, List.setIfInBounds_toArray, List.set_cons_zero, List.set_cons_succ]
  refine wpAnyH_take (i := 5) (oi := { dst := some 19, op := Go.Op.move (Go.Operand.tmp 0), type := 22, pos := "stmt.go:31", after := #[], guard := none }) (v := ?v11) rfl (by kernel_rfl) (by kernel_rfl) (by kernel_rfl) (fun _ _ _ h => h) (Or.inl ⟨by kernel_rfl, ?h11⟩) (by assumption) ?r11
  case h11 => (intro w hSw; (try dsimp only at hSw); go_simp; try with_reducible rfl)
  try simp only [Act.put, List.setIfInBounds_toArray, List.set_cons_zero, List.set_cons_succ]
  refine wpAnyH_take (i := 6) (oi := { dst := some 20, op := Go.Op.load 38 (Go.Operand.tmp 3), type := 38, pos := "stmt.go:31", after := #[], guard := none }) (v := ?v12) rfl (by kernel_rfl) (by kernel_rfl) (by kernel_rfl) (fun _ _ _ h => h) (Or.inl ⟨by kernel_rfl, ?h12⟩) (by assumption) ?r12
  case h12 => (intro w hSw; (try dsimp only at hSw); go_simp; try with_reducible rfl)
  try simp only [Act.put, List.setIfInBounds_toArray, List.set_cons_zero, List.set_cons_succ]
  refine wpAnyH_ready (rs := [0]) (by kernel_rfl) (by simp) ?_
  refine AllReadyH.cons (o := { dst := some 14, op := Go.Op.call { callee := Go.Callee.value (Go.Operand.func 46), args := #[], argTypes := #[] }, type := 73, pos := "stmt.go:31", after := #[], guard := none }) rfl (fun K hK => ?_) AllReadyH.nil
  go_simp
  refine (kinds_any _).mono ?_
  rintro e t0 ⟨rfl, b0⟩
  go_simp
  refine hK.out _ _ (hHeld.trans (b0.mono hHeld.size)) (fun hHeld => ?_)
  clear hK K
  try simp only [Act.put, List.setIfInBounds_toArray, List.set_cons_zero, List.set_cons_succ]
  refine wpAnyH_take (i := 3) (oi := { dst := some 17, op := Go.Op.index 73 (Go.Operand.tmp 14) (Go.Operand.tmp 16), type := 72, pos := "stmt.go:31", after := #[{ on := 0, ground := Go.Ground.data }, { on := 2, ground := Go.Ground.data }], guard := none }) (v := ?v13) rfl (by kernel_rfl) (by kernel_rfl) (by kernel_rfl) (fun _ _ _ h => h) (Or.inl ⟨by kernel_rfl, ?h13⟩) (by assumption) ?r13
  case h13 => (intro w hSw; (try dsimp only at hSw); go_simp; try with_reducible rfl)
  try simp only [Act.put, List.setIfInBounds_toArray, List.set_cons_zero, List.set_cons_succ]
  refine wpAnyH_take (i := 4) (oi := { dst := some 18, op := Go.Op.field 72 (Go.Operand.tmp 17) 1, type := 45, pos := "stmt.go:31", after := #[{ on := 3, ground := Go.Ground.data }], guard := none }) (v := ?v14) rfl (by kernel_rfl) (by kernel_rfl) (by kernel_rfl) (fun _ _ _ h => h) (Or.inl ⟨by kernel_rfl, ?h14⟩) (by assumption) ?r14
  case h14 => (intro w hSw; (try dsimp only at hSw); go_simp; try with_reducible rfl)
  try simp only [Act.put, List.setIfInBounds_toArray, List.set_cons_zero, List.set_cons_succ]
  refine wpAnyH_ready (rs := [7]) (by kernel_rfl) (by simp) ?_
  refine AllReadyH.cons (o := { dst := some 21, op := Go.Op.call { callee := Go.Callee.value (Go.Operand.tmp 18), args := #[Go.Operand.tmp 19, Go.Operand.tmp 20], argTypes := #[22, 38] }, type := 9, pos := "stmt.go:31", after := #[{ on := 4, ground := Go.Ground.data }, { on := 5, ground := Go.Ground.data }, { on := 6, ground := Go.Ground.data }, { on := 0, ground := Go.Ground.chain }], guard := none }) rfl (fun K hK => ?_) AllReadyH.nil
  go_simp
  refine (hq'.out _ (T1.out.on hHeld) (V.out.below hHeld)).mono ?_
  rintro e t7 ⟨rfl, b7⟩
  go_simp
  refine hK.out _ _ (hHeld.trans (b7.mono hHeld.size)) (fun hHeld => ?_)
  clear hK K
  try simp only [Act.put, List.setIfInBounds_toArray, List.set_cons_zero, List.set_cons_succ]
  refine wpAnyH_take (i := 8) (oi := { dst := some 4, op := Go.Op.assign (Go.Operand.tmp 21), type := 9, pos := "stmt.go:31", after := #[{ on := 7, ground := Go.Ground.data }, { on := 7, ground := Go.Ground.chain }, { on := 0, ground := Go.Ground.phase }, { on := 1, ground := Go.Ground.phase }, { on := 2, ground := Go.Ground.phase }, { on := 3, ground := Go.Ground.phase }, { on := 4, ground := Go.Ground.phase }, { on := 5, ground := Go.Ground.phase }, { on := 6, ground := Go.Ground.phase }, { on := 7, ground := Go.Ground.phase }], guard := none }) (v := ?v15) rfl (by kernel_rfl) (by kernel_rfl) (by kernel_rfl) (fun _ _ _ h => h) (Or.inl ⟨by kernel_rfl, ?h15⟩) (by assumption) ?r15
  case h15 => (intro w hSw; (try dsimp only at hSw); go_simp; try with_reducible rfl)
  try simp only [Act.put, List.setIfInBounds_toArray, List.set_cons_zero, List.set_cons_succ]
  refine wpAnyH_take (i := 9) (oi := { dst := some 5, op := Go.Op.assign (Go.Operand.const (Go.Value.int Go.IntKind.i64 0)), type := 29, pos := "stmt.go:31", after := #[{ on := 8, ground := Go.Ground.chain }, { on := 0, ground := Go.Ground.phase }, { on := 1, ground := Go.Ground.phase }, { on := 2, ground := Go.Ground.phase }, { on := 3, ground := Go.Ground.phase }, { on := 4, ground := Go.Ground.phase }, { on := 5, ground := Go.Ground.phase }, { on := 6, ground := Go.Ground.phase }, { on := 7, ground := Go.Ground.phase }, { on := 8, ground := Go.Ground.phase }], guard := none }) (v := ?v16) rfl (by kernel_rfl) (by kernel_rfl) (by kernel_rfl) (fun _ _ _ h => h) (Or.inl ⟨by kernel_rfl, ?h16⟩) (by assumption) ?r16
  case h16 => (intro w hSw; (try dsimp only at hSw); go_simp; try with_reducible rfl)
  try simp only [Act.put, List.setIfInBounds_toArray, List.set_cons_zero, List.set_cons_succ]
  refine wpAnyH_done (by kernel_rfl) ?_ _
  go_wp2
  go_ret2
  exact ⟨rfl, BL.out.trans (hHeld.mono BL.out.size)⟩
set_option maxRecDepth 100000 in
set_option maxHeartbeats 2000000 in
theorem pshow_3 (a : Option Addr) (n cp : Nat) (l : List ByteArray) (x y c d : Int) (T : ByteArray) (hv : varsB l = true) (hr : rightB 3 x y c d (n : Int) = true)
    (hq : ∀ W, Tab W → TT W a n cp l → Calls Tryz.prog 74 #[.slice a n cp, .agg #[.int .i64 3, .int .i64 x, .int .i64 y, .int .i64 c, .int .i64 d]] W (Gives (.string T) W)) (w : World) (ht : Tab w) (h : TT w a n cp l) :
    Calls Tryz.prog 20 #[.slice a n cp, .agg #[.int .i64 3, .int .i64 x, .int .i64 y, .int .i64 c, .int .i64 d]] w (Gives (.tuple #[.string T, .int .i64 0]) w) := by
  have q1 := Lib.hid (fun W hW => rightVars_any a n cp l W hW)
  have q2 := Lib.hid (fun W => right_any 3 x y c d (n : Int) W)
  rw [hv] at q1
  rw [hr] at q2
  obtain ⟨W1, hW1⟩ : ∃ W1, W1 = w.alloc (.cells #[.int .i64 3, .int .i64 x, .int .i64 y, .int .i64 c, .int .i64 d] 38) := ⟨_, rfl⟩
  have BL := Lib.hid (show Below w.heap.size w W1 by rw [hW1]; exact box_below _ _ _)
  have HZ : Hid (Holds W1 w.heap.size 38 #[.int .i64 3, .int .i64 x, .int .i64 y, .int .i64 c, .int .i64 d]) := Lib.hid (by rw [hW1]; exact Holds.new w _ _)
  have T1 := Lib.hid (ht.on BL.out)
  have V := Lib.hid (h.below BL.out)
  have hW1' := Lib.hid hW1
  have hq' := Lib.hid hq
  have hn : (n : Int) ≤ 9223372036854775807 := by have := h.cap; have := h.max; unfold maxLen at this; omega
  have hix : ∀ W, (Instr.index 73 (.agg kindsA) (.int .i64 3)).run Tryz.prog W = .ok (.agg #[.func (.func 73) #[] #[], .func (.func 74) #[] #[]]) W := fun W => by kernel_rfl
  have hfd : ∀ W, (Instr.field 72 (.agg #[.func (.func 73) #[] #[], .func (.func 74) #[] #[]]) 1).run Tryz.prog W = .ok (.func (.func 74) #[] #[]) W := fun W => by kernel_rfl
  clear hW1 hq hv hr ht h
  go_enter Tryz.func20, Tryz.ntmps20
  go_wp2_with fail
  rw [← hW1'.out]
  with_reducible refine (q1.out W1 V.out).mono ?_
  rintro e u1 ⟨rfl, b1⟩
  replace HZ := Lib.hid (HZ.out.below b1 HZ.out.lt)
  replace V := Lib.hid (V.out.below b1)
  replace T1 := Lib.hid (T1.out.on b1)
  replace BL := Lib.hid (BL.out.trans (b1.mono BL.out.size))
  clear b1 hW1' q1
  have k0 := HZ.out.cell 0
  have k1 := HZ.out.cell 1
  have k2 := HZ.out.cell 2
  have k3 := HZ.out.cell 3
  have k4 := HZ.out.cell 4
  go_wp2_with fail
  refine (q2.out u1).mono ?_
  rintro e u2 ⟨rfl, b1⟩
  replace HZ := Lib.hid (HZ.out.below b1 HZ.out.lt)
  replace V := Lib.hid (V.out.below b1)
  replace T1 := Lib.hid (T1.out.on b1)
  replace BL := Lib.hid (BL.out.trans (b1.mono BL.out.size))
  clear b1 q2 k0 k1 k2 k3 k4
  go_wp2
  have g0 : ∀ W, Below u2.heap.size u2 W → W.cell? ⟨w.heap.size, 0, none⟩ = some (.int .i64 3) := fun W hW => (HZ.out.below hW HZ.out.lt).cell 0
  have g1 : ∀ W, Below u2.heap.size u2 W → W.cell? ⟨w.heap.size, 1, none⟩ = some (.int .i64 x) := fun W hW => (HZ.out.below hW HZ.out.lt).cell 1
  have g2 : ∀ W, Below u2.heap.size u2 W → W.cell? ⟨w.heap.size, 2, none⟩ = some (.int .i64 y) := fun W hW => (HZ.out.below hW HZ.out.lt).cell 2
  have g3 : ∀ W, Below u2.heap.size u2 W → W.cell? ⟨w.heap.size, 3, none⟩ = some (.int .i64 c) := fun W hW => (HZ.out.below hW HZ.out.lt).cell 3
  have g4 : ∀ W, Below u2.heap.size u2 W → W.cell? ⟨w.heap.size, 4, none⟩ = some (.int .i64 d) := fun W hW => (HZ.out.below hW HZ.out.lt).cell 4
  refine wp_drawn_on (fun W => Below u2.heap.size u2 W) (by kernel_rfl) ((Below.refl _ _).drew) (fun hHeld => ?_)
  refine wpAnyH_take (i := 1) (oi := { dst := some 15, op := Go.Op.fieldAddr 38 (Go.Operand.tmp 3) 0, type := 0, pos := "stmt.go:31", after := #[], guard := none }) (v := ?v17) rfl (by kernel_rfl) (by kernel_rfl) (by kernel_rfl) (fun _ _ _ h => h) (Or.inl ⟨by kernel_rfl, ?h17⟩) (by assumption) ?r17
  case h17 => (intro w hSw; (try dsimp only at hSw); go_simp; try with_reducible rfl)
  try simp only [Act.put, List.setIfInBounds_toArray, List.set_cons_zero, List.set_cons_succ]
  refine wpAnyH_take (i := 2) (oi := { dst := some 16, op := Go.Op.load 3 (Go.Operand.tmp 15), type := 3, pos := "stmt.go:31", after := #[{ on := 1, ground := Go.Ground.data }], guard := none }) (v := ?v18) rfl (by kernel_rfl) (by kernel_rfl) (by kernel_rfl) (fun _ _ _ h => h) (Or.inl ⟨by kernel_rfl, ?h18⟩) (by assumption) ?r18
  case h18 => (intro w hSw; (try dsimp only at hSw); go_simp; try with_reducible rfl)
  try simp only [Act.put, List.setIfInBounds_toArray, List.set_cons_zero, List.set_cons_succ]
  refine wpAnyH_take (i := 5) (oi := { dst := some 19, op := Go.Op.move (Go.Operand.tmp 0), type := 22, pos := "stmt.go:31", after := #[], guard := none }) (v := ?v19) rfl (by kernel_rfl) (by kernel_rfl) (by kernel_rfl) (fun _ _ _ h => h) (Or.inl ⟨by kernel_rfl, ?h19⟩) (by assumption) ?r19
  case h19 => (intro w hSw; (try dsimp only at hSw); go_simp; try with_reducible rfl)
  try simp only [Act.put, List.setIfInBounds_toArray, List.set_cons_zero, List.set_cons_succ]
  refine wpAnyH_take (i := 6) (oi := { dst := some 20, op := Go.Op.load 38 (Go.Operand.tmp 3), type := 38, pos := "stmt.go:31", after := #[], guard := none }) (v := ?v20) rfl (by kernel_rfl) (by kernel_rfl) (by kernel_rfl) (fun _ _ _ h => h) (Or.inl ⟨by kernel_rfl, ?h20⟩) (by assumption) ?r20
  case h20 => (intro w hSw; (try dsimp only at hSw); go_simp; try with_reducible rfl)
  try simp only [Act.put, List.setIfInBounds_toArray, List.set_cons_zero, List.set_cons_succ]
  refine wpAnyH_ready (rs := [0]) (by kernel_rfl) (by simp) ?_
  refine AllReadyH.cons (o := { dst := some 14, op := Go.Op.call { callee := Go.Callee.value (Go.Operand.func 46), args := #[], argTypes := #[] }, type := 73, pos := "stmt.go:31", after := #[], guard := none }) rfl (fun K hK => ?_) AllReadyH.nil
  go_simp
  refine (kinds_any _).mono ?_
  rintro e t0 ⟨rfl, b0⟩
  go_simp
  refine hK.out _ _ (hHeld.trans (b0.mono hHeld.size)) (fun hHeld => ?_)
  clear hK K
  try simp only [Act.put, List.setIfInBounds_toArray, List.set_cons_zero, List.set_cons_succ]
  refine wpAnyH_take (i := 3) (oi := { dst := some 17, op := Go.Op.index 73 (Go.Operand.tmp 14) (Go.Operand.tmp 16), type := 72, pos := "stmt.go:31", after := #[{ on := 0, ground := Go.Ground.data }, { on := 2, ground := Go.Ground.data }], guard := none }) (v := ?v21) rfl (by kernel_rfl) (by kernel_rfl) (by kernel_rfl) (fun _ _ _ h => h) (Or.inl ⟨by kernel_rfl, ?h21⟩) (by assumption) ?r21
  case h21 => (intro w hSw; (try dsimp only at hSw); go_simp; try with_reducible rfl)
  try simp only [Act.put, List.setIfInBounds_toArray, List.set_cons_zero, List.set_cons_succ]
  refine wpAnyH_take (i := 4) (oi := { dst := some 18, op := Go.Op.field 72 (Go.Operand.tmp 17) 1, type := 45, pos := "stmt.go:31", after := #[{ on := 3, ground := Go.Ground.data }], guard := none }) (v := ?v22) rfl (by kernel_rfl) (by kernel_rfl) (by kernel_rfl) (fun _ _ _ h => h) (Or.inl ⟨by kernel_rfl, ?h22⟩) (by assumption) ?r22
  case h22 => (intro w hSw; (try dsimp only at hSw); go_simp; try with_reducible rfl)
  try simp only [Act.put, List.setIfInBounds_toArray, List.set_cons_zero, List.set_cons_succ]
  refine wpAnyH_ready (rs := [7]) (by kernel_rfl) (by simp) ?_
  refine AllReadyH.cons (o := { dst := some 21, op := Go.Op.call { callee := Go.Callee.value (Go.Operand.tmp 18), args := #[Go.Operand.tmp 19, Go.Operand.tmp 20], argTypes := #[22, 38] }, type := 9, pos := "stmt.go:31", after := #[{ on := 4, ground := Go.Ground.data }, { on := 5, ground := Go.Ground.data }, { on := 6, ground := Go.Ground.data }, { on := 0, ground := Go.Ground.chain }], guard := none }) rfl (fun K hK => ?_) AllReadyH.nil
  go_simp
  refine (hq'.out _ (T1.out.on hHeld) (V.out.below hHeld)).mono ?_
  rintro e t7 ⟨rfl, b7⟩
  go_simp
  refine hK.out _ _ (hHeld.trans (b7.mono hHeld.size)) (fun hHeld => ?_)
  clear hK K
  try simp only [Act.put, List.setIfInBounds_toArray, List.set_cons_zero, List.set_cons_succ]
  refine wpAnyH_take (i := 8) (oi := { dst := some 4, op := Go.Op.assign (Go.Operand.tmp 21), type := 9, pos := "stmt.go:31", after := #[{ on := 7, ground := Go.Ground.data }, { on := 7, ground := Go.Ground.chain }, { on := 0, ground := Go.Ground.phase }, { on := 1, ground := Go.Ground.phase }, { on := 2, ground := Go.Ground.phase }, { on := 3, ground := Go.Ground.phase }, { on := 4, ground := Go.Ground.phase }, { on := 5, ground := Go.Ground.phase }, { on := 6, ground := Go.Ground.phase }, { on := 7, ground := Go.Ground.phase }], guard := none }) (v := ?v23) rfl (by kernel_rfl) (by kernel_rfl) (by kernel_rfl) (fun _ _ _ h => h) (Or.inl ⟨by kernel_rfl, ?h23⟩) (by assumption) ?r23
  case h23 => (intro w hSw; (try dsimp only at hSw); go_simp; try with_reducible rfl)
  try simp only [Act.put, List.setIfInBounds_toArray, List.set_cons_zero, List.set_cons_succ]
  refine wpAnyH_take (i := 9) (oi := { dst := some 5, op := Go.Op.assign (Go.Operand.const (Go.Value.int Go.IntKind.i64 0)), type := 29, pos := "stmt.go:31", after := #[{ on := 8, ground := Go.Ground.chain }, { on := 0, ground := Go.Ground.phase }, { on := 1, ground := Go.Ground.phase }, { on := 2, ground := Go.Ground.phase }, { on := 3, ground := Go.Ground.phase }, { on := 4, ground := Go.Ground.phase }, { on := 5, ground := Go.Ground.phase }, { on := 6, ground := Go.Ground.phase }, { on := 7, ground := Go.Ground.phase }, { on := 8, ground := Go.Ground.phase }], guard := none }) (v := ?v24) rfl (by kernel_rfl) (by kernel_rfl) (by kernel_rfl) (fun _ _ _ h => h) (Or.inl ⟨by kernel_rfl, ?h24⟩) (by assumption) ?r24
  case h24 => (intro w hSw; (try dsimp only at hSw); go_simp; try with_reducible rfl)
  try simp only [Act.put, List.setIfInBounds_toArray, List.set_cons_zero, List.set_cons_succ]
  refine wpAnyH_done (by kernel_rfl) ?_ _
  go_wp2
  go_ret2
  exact ⟨rfl, BL.out.trans (hHeld.mono BL.out.size)⟩
set_option maxRecDepth 100000 in
set_option maxHeartbeats 2000000 in
theorem pshow_4 (a : Option Addr) (n cp : Nat) (l : List ByteArray) (x y c d : Int) (T : ByteArray) (hv : varsB l = true) (hr : rightB 4 x y c d (n : Int) = true)
    (hq : ∀ W, Tab W → TT W a n cp l → Calls Tryz.prog 76 #[.slice a n cp, .agg #[.int .i64 4, .int .i64 x, .int .i64 y, .int .i64 c, .int .i64 d]] W (Gives (.string T) W)) (w : World) (ht : Tab w) (h : TT w a n cp l) :
    Calls Tryz.prog 20 #[.slice a n cp, .agg #[.int .i64 4, .int .i64 x, .int .i64 y, .int .i64 c, .int .i64 d]] w (Gives (.tuple #[.string T, .int .i64 0]) w) := by
  have q1 := Lib.hid (fun W hW => rightVars_any a n cp l W hW)
  have q2 := Lib.hid (fun W => right_any 4 x y c d (n : Int) W)
  rw [hv] at q1
  rw [hr] at q2
  obtain ⟨W1, hW1⟩ : ∃ W1, W1 = w.alloc (.cells #[.int .i64 4, .int .i64 x, .int .i64 y, .int .i64 c, .int .i64 d] 38) := ⟨_, rfl⟩
  have BL := Lib.hid (show Below w.heap.size w W1 by rw [hW1]; exact box_below _ _ _)
  have HZ : Hid (Holds W1 w.heap.size 38 #[.int .i64 4, .int .i64 x, .int .i64 y, .int .i64 c, .int .i64 d]) := Lib.hid (by rw [hW1]; exact Holds.new w _ _)
  have T1 := Lib.hid (ht.on BL.out)
  have V := Lib.hid (h.below BL.out)
  have hW1' := Lib.hid hW1
  have hq' := Lib.hid hq
  have hn : (n : Int) ≤ 9223372036854775807 := by have := h.cap; have := h.max; unfold maxLen at this; omega
  have hix : ∀ W, (Instr.index 73 (.agg kindsA) (.int .i64 4)).run Tryz.prog W = .ok (.agg #[.func (.func 75) #[] #[], .func (.func 76) #[] #[]]) W := fun W => by kernel_rfl
  have hfd : ∀ W, (Instr.field 72 (.agg #[.func (.func 75) #[] #[], .func (.func 76) #[] #[]]) 1).run Tryz.prog W = .ok (.func (.func 76) #[] #[]) W := fun W => by kernel_rfl
  clear hW1 hq hv hr ht h
  go_enter Tryz.func20, Tryz.ntmps20
  go_wp2_with fail
  rw [← hW1'.out]
  with_reducible refine (q1.out W1 V.out).mono ?_
  rintro e u1 ⟨rfl, b1⟩
  replace HZ := Lib.hid (HZ.out.below b1 HZ.out.lt)
  replace V := Lib.hid (V.out.below b1)
  replace T1 := Lib.hid (T1.out.on b1)
  replace BL := Lib.hid (BL.out.trans (b1.mono BL.out.size))
  clear b1 hW1' q1
  have k0 := HZ.out.cell 0
  have k1 := HZ.out.cell 1
  have k2 := HZ.out.cell 2
  have k3 := HZ.out.cell 3
  have k4 := HZ.out.cell 4
  go_wp2_with fail
  refine (q2.out u1).mono ?_
  rintro e u2 ⟨rfl, b1⟩
  replace HZ := Lib.hid (HZ.out.below b1 HZ.out.lt)
  replace V := Lib.hid (V.out.below b1)
  replace T1 := Lib.hid (T1.out.on b1)
  replace BL := Lib.hid (BL.out.trans (b1.mono BL.out.size))
  clear b1 q2 k0 k1 k2 k3 k4
  go_wp2
  have g0 : ∀ W, Below u2.heap.size u2 W → W.cell? ⟨w.heap.size, 0, none⟩ = some (.int .i64 4) := fun W hW => (HZ.out.below hW HZ.out.lt).cell 0
  have g1 : ∀ W, Below u2.heap.size u2 W → W.cell? ⟨w.heap.size, 1, none⟩ = some (.int .i64 x) := fun W hW => (HZ.out.below hW HZ.out.lt).cell 1
  have g2 : ∀ W, Below u2.heap.size u2 W → W.cell? ⟨w.heap.size, 2, none⟩ = some (.int .i64 y) := fun W hW => (HZ.out.below hW HZ.out.lt).cell 2
  have g3 : ∀ W, Below u2.heap.size u2 W → W.cell? ⟨w.heap.size, 3, none⟩ = some (.int .i64 c) := fun W hW => (HZ.out.below hW HZ.out.lt).cell 3
  have g4 : ∀ W, Below u2.heap.size u2 W → W.cell? ⟨w.heap.size, 4, none⟩ = some (.int .i64 d) := fun W hW => (HZ.out.below hW HZ.out.lt).cell 4
  refine wp_drawn_on (fun W => Below u2.heap.size u2 W) (by kernel_rfl) ((Below.refl _ _).drew) (fun hHeld => ?_)
  refine wpAnyH_take (i := 1) (oi := { dst := some 15, op := Go.Op.fieldAddr 38 (Go.Operand.tmp 3) 0, type := 0, pos := "stmt.go:31", after := #[], guard := none }) (v := ?v25) rfl (by kernel_rfl) (by kernel_rfl) (by kernel_rfl) (fun _ _ _ h => h) (Or.inl ⟨by kernel_rfl, ?h25⟩) (by assumption) ?r25
  case h25 => (intro w hSw; (try dsimp only at hSw); go_simp; try with_reducible rfl)
  try simp only [Act.put, List.setIfInBounds_toArray, List.set_cons_zero, List.set_cons_succ]
  refine wpAnyH_take (i := 2) (oi := { dst := some 16, op := Go.Op.load 3 (Go.Operand.tmp 15), type := 3, pos := "stmt.go:31", after := #[{ on := 1, ground := Go.Ground.data }], guard := none }) (v := ?v26) rfl (by kernel_rfl) (by kernel_rfl) (by kernel_rfl) (fun _ _ _ h => h) (Or.inl ⟨by kernel_rfl, ?h26⟩) (by assumption) ?r26
  case h26 => (intro w hSw; (try dsimp only at hSw); go_simp; try with_reducible rfl)
  try simp only [Act.put, List.setIfInBounds_toArray, List.set_cons_zero, List.set_cons_succ]
  refine wpAnyH_take (i := 5) (oi := { dst := some 19, op := Go.Op.move (Go.Operand.tmp 0), type := 22, pos := "stmt.go:31", after := #[], guard := none }) (v := ?v27) rfl (by kernel_rfl) (by kernel_rfl) (by kernel_rfl) (fun _ _ _ h => h) (Or.inl ⟨by kernel_rfl, ?h27⟩) (by assumption) ?r27
  case h27 => (intro w hSw; (try dsimp only at hSw); go_simp; try with_reducible rfl)
  try simp only [Act.put, List.setIfInBounds_toArray, List.set_cons_zero, List.set_cons_succ]
  refine wpAnyH_take (i := 6) (oi := { dst := some 20, op := Go.Op.load 38 (Go.Operand.tmp 3), type := 38, pos := "stmt.go:31", after := #[], guard := none }) (v := ?v28) rfl (by kernel_rfl) (by kernel_rfl) (by kernel_rfl) (fun _ _ _ h => h) (Or.inl ⟨by kernel_rfl, ?h28⟩) (by assumption) ?r28
  case h28 => (intro w hSw; (try dsimp only at hSw); go_simp; try with_reducible rfl)
  try simp only [Act.put, List.setIfInBounds_toArray, List.set_cons_zero, List.set_cons_succ]
  refine wpAnyH_ready (rs := [0]) (by kernel_rfl) (by simp) ?_
  refine AllReadyH.cons (o := { dst := some 14, op := Go.Op.call { callee := Go.Callee.value (Go.Operand.func 46), args := #[], argTypes := #[] }, type := 73, pos := "stmt.go:31", after := #[], guard := none }) rfl (fun K hK => ?_) AllReadyH.nil
  go_simp
  refine (kinds_any _).mono ?_
  rintro e t0 ⟨rfl, b0⟩
  go_simp
  refine hK.out _ _ (hHeld.trans (b0.mono hHeld.size)) (fun hHeld => ?_)
  clear hK K
  try simp only [Act.put, List.setIfInBounds_toArray, List.set_cons_zero, List.set_cons_succ]
  refine wpAnyH_take (i := 3) (oi := { dst := some 17, op := Go.Op.index 73 (Go.Operand.tmp 14) (Go.Operand.tmp 16), type := 72, pos := "stmt.go:31", after := #[{ on := 0, ground := Go.Ground.data }, { on := 2, ground := Go.Ground.data }], guard := none }) (v := ?v29) rfl (by kernel_rfl) (by kernel_rfl) (by kernel_rfl) (fun _ _ _ h => h) (Or.inl ⟨by kernel_rfl, ?h29⟩) (by assumption) ?r29
  case h29 => (intro w hSw; (try dsimp only at hSw); go_simp; try with_reducible rfl)
  try simp only [Act.put, List.setIfInBounds_toArray, List.set_cons_zero, List.set_cons_succ]
  refine wpAnyH_take (i := 4) (oi := { dst := some 18, op := Go.Op.field 72 (Go.Operand.tmp 17) 1, type := 45, pos := "stmt.go:31", after := #[{ on := 3, ground := Go.Ground.data }], guard := none }) (v := ?v30) rfl (by kernel_rfl) (by kernel_rfl) (by kernel_rfl) (fun _ _ _ h => h) (Or.inl ⟨by kernel_rfl, ?h30⟩) (by assumption) ?r30
  case h30 => (intro w hSw; (try dsimp only at hSw); go_simp; try with_reducible rfl)
  try simp only [Act.put, List.setIfInBounds_toArray, List.set_cons_zero, List.set_cons_succ]
  refine wpAnyH_ready (rs := [7]) (by kernel_rfl) (by simp) ?_
  refine AllReadyH.cons (o := { dst := some 21, op := Go.Op.call { callee := Go.Callee.value (Go.Operand.tmp 18), args := #[Go.Operand.tmp 19, Go.Operand.tmp 20], argTypes := #[22, 38] }, type := 9, pos := "stmt.go:31", after := #[{ on := 4, ground := Go.Ground.data }, { on := 5, ground := Go.Ground.data }, { on := 6, ground := Go.Ground.data }, { on := 0, ground := Go.Ground.chain }], guard := none }) rfl (fun K hK => ?_) AllReadyH.nil
  go_simp
  refine (hq'.out _ (T1.out.on hHeld) (V.out.below hHeld)).mono ?_
  rintro e t7 ⟨rfl, b7⟩
  go_simp
  refine hK.out _ _ (hHeld.trans (b7.mono hHeld.size)) (fun hHeld => ?_)
  clear hK K
  try simp only [Act.put, List.setIfInBounds_toArray, List.set_cons_zero, List.set_cons_succ]
  refine wpAnyH_take (i := 8) (oi := { dst := some 4, op := Go.Op.assign (Go.Operand.tmp 21), type := 9, pos := "stmt.go:31", after := #[{ on := 7, ground := Go.Ground.data }, { on := 7, ground := Go.Ground.chain }, { on := 0, ground := Go.Ground.phase }, { on := 1, ground := Go.Ground.phase }, { on := 2, ground := Go.Ground.phase }, { on := 3, ground := Go.Ground.phase }, { on := 4, ground := Go.Ground.phase }, { on := 5, ground := Go.Ground.phase }, { on := 6, ground := Go.Ground.phase }, { on := 7, ground := Go.Ground.phase }], guard := none }) (v := ?v31) rfl (by kernel_rfl) (by kernel_rfl) (by kernel_rfl) (fun _ _ _ h => h) (Or.inl ⟨by kernel_rfl, ?h31⟩) (by assumption) ?r31
  case h31 => (intro w hSw; (try dsimp only at hSw); go_simp; try with_reducible rfl)
  try simp only [Act.put, List.setIfInBounds_toArray, List.set_cons_zero, List.set_cons_succ]
  refine wpAnyH_take (i := 9) (oi := { dst := some 5, op := Go.Op.assign (Go.Operand.const (Go.Value.int Go.IntKind.i64 0)), type := 29, pos := "stmt.go:31", after := #[{ on := 8, ground := Go.Ground.chain }, { on := 0, ground := Go.Ground.phase }, { on := 1, ground := Go.Ground.phase }, { on := 2, ground := Go.Ground.phase }, { on := 3, ground := Go.Ground.phase }, { on := 4, ground := Go.Ground.phase }, { on := 5, ground := Go.Ground.phase }, { on := 6, ground := Go.Ground.phase }, { on := 7, ground := Go.Ground.phase }, { on := 8, ground := Go.Ground.phase }], guard := none }) (v := ?v32) rfl (by kernel_rfl) (by kernel_rfl) (by kernel_rfl) (fun _ _ _ h => h) (Or.inl ⟨by kernel_rfl, ?h32⟩) (by assumption) ?r32
  case h32 => (intro w hSw; (try dsimp only at hSw); go_simp; try with_reducible rfl)
  try simp only [Act.put, List.setIfInBounds_toArray, List.set_cons_zero, List.set_cons_succ]
  refine wpAnyH_done (by kernel_rfl) ?_ _
  go_wp2
  go_ret2
  exact ⟨rfl, BL.out.trans (hHeld.mono BL.out.size)⟩
set_option maxRecDepth 100000 in
set_option maxHeartbeats 2000000 in
theorem pshow_5 (a : Option Addr) (n cp : Nat) (l : List ByteArray) (x y c d : Int) (T : ByteArray) (hv : varsB l = true) (hr : rightB 5 x y c d (n : Int) = true)
    (hq : ∀ W, Tab W → TT W a n cp l → Calls Tryz.prog 77 #[.slice a n cp, .agg #[.int .i64 5, .int .i64 x, .int .i64 y, .int .i64 c, .int .i64 d]] W (Gives (.string T) W)) (w : World) (ht : Tab w) (h : TT w a n cp l) :
    Calls Tryz.prog 20 #[.slice a n cp, .agg #[.int .i64 5, .int .i64 x, .int .i64 y, .int .i64 c, .int .i64 d]] w (Gives (.tuple #[.string T, .int .i64 0]) w) := by
  have q1 := Lib.hid (fun W hW => rightVars_any a n cp l W hW)
  have q2 := Lib.hid (fun W => right_any 5 x y c d (n : Int) W)
  rw [hv] at q1
  rw [hr] at q2
  obtain ⟨W1, hW1⟩ : ∃ W1, W1 = w.alloc (.cells #[.int .i64 5, .int .i64 x, .int .i64 y, .int .i64 c, .int .i64 d] 38) := ⟨_, rfl⟩
  have BL := Lib.hid (show Below w.heap.size w W1 by rw [hW1]; exact box_below _ _ _)
  have HZ : Hid (Holds W1 w.heap.size 38 #[.int .i64 5, .int .i64 x, .int .i64 y, .int .i64 c, .int .i64 d]) := Lib.hid (by rw [hW1]; exact Holds.new w _ _)
  have T1 := Lib.hid (ht.on BL.out)
  have V := Lib.hid (h.below BL.out)
  have hW1' := Lib.hid hW1
  have hq' := Lib.hid hq
  have hn : (n : Int) ≤ 9223372036854775807 := by have := h.cap; have := h.max; unfold maxLen at this; omega
  have hix : ∀ W, (Instr.index 73 (.agg kindsA) (.int .i64 5)).run Tryz.prog W = .ok (.agg #[.func (.func 75) #[] #[], .func (.func 77) #[] #[]]) W := fun W => by kernel_rfl
  have hfd : ∀ W, (Instr.field 72 (.agg #[.func (.func 75) #[] #[], .func (.func 77) #[] #[]]) 1).run Tryz.prog W = .ok (.func (.func 77) #[] #[]) W := fun W => by kernel_rfl
  clear hW1 hq hv hr ht h
  go_enter Tryz.func20, Tryz.ntmps20
  go_wp2_with fail
  rw [← hW1'.out]
  with_reducible refine (q1.out W1 V.out).mono ?_
  rintro e u1 ⟨rfl, b1⟩
  replace HZ := Lib.hid (HZ.out.below b1 HZ.out.lt)
  replace V := Lib.hid (V.out.below b1)
  replace T1 := Lib.hid (T1.out.on b1)
  replace BL := Lib.hid (BL.out.trans (b1.mono BL.out.size))
  clear b1 hW1' q1
  have k0 := HZ.out.cell 0
  have k1 := HZ.out.cell 1
  have k2 := HZ.out.cell 2
  have k3 := HZ.out.cell 3
  have k4 := HZ.out.cell 4
  go_wp2_with fail
  refine (q2.out u1).mono ?_
  rintro e u2 ⟨rfl, b1⟩
  replace HZ := Lib.hid (HZ.out.below b1 HZ.out.lt)
  replace V := Lib.hid (V.out.below b1)
  replace T1 := Lib.hid (T1.out.on b1)
  replace BL := Lib.hid (BL.out.trans (b1.mono BL.out.size))
  clear b1 q2 k0 k1 k2 k3 k4
  go_wp2
  have g0 : ∀ W, Below u2.heap.size u2 W → W.cell? ⟨w.heap.size, 0, none⟩ = some (.int .i64 5) := fun W hW => (HZ.out.below hW HZ.out.lt).cell 0
  have g1 : ∀ W, Below u2.heap.size u2 W → W.cell? ⟨w.heap.size, 1, none⟩ = some (.int .i64 x) := fun W hW => (HZ.out.below hW HZ.out.lt).cell 1
  have g2 : ∀ W, Below u2.heap.size u2 W → W.cell? ⟨w.heap.size, 2, none⟩ = some (.int .i64 y) := fun W hW => (HZ.out.below hW HZ.out.lt).cell 2
  have g3 : ∀ W, Below u2.heap.size u2 W → W.cell? ⟨w.heap.size, 3, none⟩ = some (.int .i64 c) := fun W hW => (HZ.out.below hW HZ.out.lt).cell 3
  have g4 : ∀ W, Below u2.heap.size u2 W → W.cell? ⟨w.heap.size, 4, none⟩ = some (.int .i64 d) := fun W hW => (HZ.out.below hW HZ.out.lt).cell 4
  refine wp_drawn_on (fun W => Below u2.heap.size u2 W) (by kernel_rfl) ((Below.refl _ _).drew) (fun hHeld => ?_)
  refine wpAnyH_take (i := 1) (oi := { dst := some 15, op := Go.Op.fieldAddr 38 (Go.Operand.tmp 3) 0, type := 0, pos := "stmt.go:31", after := #[], guard := none }) (v := ?v33) rfl (by kernel_rfl) (by kernel_rfl) (by kernel_rfl) (fun _ _ _ h => h) (Or.inl ⟨by kernel_rfl, ?h33⟩) (by assumption) ?r33
  case h33 => (intro w hSw; (try dsimp only at hSw); go_simp; try with_reducible rfl)
  try simp only [Act.put, List.setIfInBounds_toArray, List.set_cons_zero, List.set_cons_succ]
  refine wpAnyH_take (i := 2) (oi := { dst := some 16, op := Go.Op.load 3 (Go.Operand.tmp 15), type := 3, pos := "stmt.go:31", after := #[{ on := 1, ground := Go.Ground.data }], guard := none }) (v := ?v34) rfl (by kernel_rfl) (by kernel_rfl) (by kernel_rfl) (fun _ _ _ h => h) (Or.inl ⟨by kernel_rfl, ?h34⟩) (by assumption) ?r34
  case h34 => (intro w hSw; (try dsimp only at hSw); go_simp; try with_reducible rfl)
  try simp only [Act.put, List.setIfInBounds_toArray, List.set_cons_zero, List.set_cons_succ]
  refine wpAnyH_take (i := 5) (oi := { dst := some 19, op := Go.Op.move (Go.Operand.tmp 0), type := 22, pos := "stmt.go:31", after := #[], guard := none }) (v := ?v35) rfl (by kernel_rfl) (by kernel_rfl) (by kernel_rfl) (fun _ _ _ h => h) (Or.inl ⟨by kernel_rfl, ?h35⟩) (by assumption) ?r35
  case h35 => (intro w hSw; (try dsimp only at hSw); go_simp; try with_reducible rfl)
  try simp only [Act.put, List.setIfInBounds_toArray, List.set_cons_zero, List.set_cons_succ]
  refine wpAnyH_take (i := 6) (oi := { dst := some 20, op := Go.Op.load 38 (Go.Operand.tmp 3), type := 38, pos := "stmt.go:31", after := #[], guard := none }) (v := ?v36) rfl (by kernel_rfl) (by kernel_rfl) (by kernel_rfl) (fun _ _ _ h => h) (Or.inl ⟨by kernel_rfl, ?h36⟩) (by assumption) ?r36
  case h36 => (intro w hSw; (try dsimp only at hSw); go_simp; try with_reducible rfl)
  try simp only [Act.put, List.setIfInBounds_toArray, List.set_cons_zero, List.set_cons_succ]
  refine wpAnyH_ready (rs := [0]) (by kernel_rfl) (by simp) ?_
  refine AllReadyH.cons (o := { dst := some 14, op := Go.Op.call { callee := Go.Callee.value (Go.Operand.func 46), args := #[], argTypes := #[] }, type := 73, pos := "stmt.go:31", after := #[], guard := none }) rfl (fun K hK => ?_) AllReadyH.nil
  go_simp
  refine (kinds_any _).mono ?_
  rintro e t0 ⟨rfl, b0⟩
  go_simp
  refine hK.out _ _ (hHeld.trans (b0.mono hHeld.size)) (fun hHeld => ?_)
  clear hK K
  try simp only [Act.put, List.setIfInBounds_toArray, List.set_cons_zero, List.set_cons_succ]
  refine wpAnyH_take (i := 3) (oi := { dst := some 17, op := Go.Op.index 73 (Go.Operand.tmp 14) (Go.Operand.tmp 16), type := 72, pos := "stmt.go:31", after := #[{ on := 0, ground := Go.Ground.data }, { on := 2, ground := Go.Ground.data }], guard := none }) (v := ?v37) rfl (by kernel_rfl) (by kernel_rfl) (by kernel_rfl) (fun _ _ _ h => h) (Or.inl ⟨by kernel_rfl, ?h37⟩) (by assumption) ?r37
  case h37 => (intro w hSw; (try dsimp only at hSw); go_simp; try with_reducible rfl)
  try simp only [Act.put, List.setIfInBounds_toArray, List.set_cons_zero, List.set_cons_succ]
  refine wpAnyH_take (i := 4) (oi := { dst := some 18, op := Go.Op.field 72 (Go.Operand.tmp 17) 1, type := 45, pos := "stmt.go:31", after := #[{ on := 3, ground := Go.Ground.data }], guard := none }) (v := ?v38) rfl (by kernel_rfl) (by kernel_rfl) (by kernel_rfl) (fun _ _ _ h => h) (Or.inl ⟨by kernel_rfl, ?h38⟩) (by assumption) ?r38
  case h38 => (intro w hSw; (try dsimp only at hSw); go_simp; try with_reducible rfl)
  try simp only [Act.put, List.setIfInBounds_toArray, List.set_cons_zero, List.set_cons_succ]
  refine wpAnyH_ready (rs := [7]) (by kernel_rfl) (by simp) ?_
  refine AllReadyH.cons (o := { dst := some 21, op := Go.Op.call { callee := Go.Callee.value (Go.Operand.tmp 18), args := #[Go.Operand.tmp 19, Go.Operand.tmp 20], argTypes := #[22, 38] }, type := 9, pos := "stmt.go:31", after := #[{ on := 4, ground := Go.Ground.data }, { on := 5, ground := Go.Ground.data }, { on := 6, ground := Go.Ground.data }, { on := 0, ground := Go.Ground.chain }], guard := none }) rfl (fun K hK => ?_) AllReadyH.nil
  go_simp
  refine (hq'.out _ (T1.out.on hHeld) (V.out.below hHeld)).mono ?_
  rintro e t7 ⟨rfl, b7⟩
  go_simp
  refine hK.out _ _ (hHeld.trans (b7.mono hHeld.size)) (fun hHeld => ?_)
  clear hK K
  try simp only [Act.put, List.setIfInBounds_toArray, List.set_cons_zero, List.set_cons_succ]
  refine wpAnyH_take (i := 8) (oi := { dst := some 4, op := Go.Op.assign (Go.Operand.tmp 21), type := 9, pos := "stmt.go:31", after := #[{ on := 7, ground := Go.Ground.data }, { on := 7, ground := Go.Ground.chain }, { on := 0, ground := Go.Ground.phase }, { on := 1, ground := Go.Ground.phase }, { on := 2, ground := Go.Ground.phase }, { on := 3, ground := Go.Ground.phase }, { on := 4, ground := Go.Ground.phase }, { on := 5, ground := Go.Ground.phase }, { on := 6, ground := Go.Ground.phase }, { on := 7, ground := Go.Ground.phase }], guard := none }) (v := ?v39) rfl (by kernel_rfl) (by kernel_rfl) (by kernel_rfl) (fun _ _ _ h => h) (Or.inl ⟨by kernel_rfl, ?h39⟩) (by assumption) ?r39
  case h39 => (intro w hSw; (try dsimp only at hSw); go_simp; try with_reducible rfl)
  try simp only [Act.put, List.setIfInBounds_toArray, List.set_cons_zero, List.set_cons_succ]
  refine wpAnyH_take (i := 9) (oi := { dst := some 5, op := Go.Op.assign (Go.Operand.const (Go.Value.int Go.IntKind.i64 0)), type := 29, pos := "stmt.go:31", after := #[{ on := 8, ground := Go.Ground.chain }, { on := 0, ground := Go.Ground.phase }, { on := 1, ground := Go.Ground.phase }, { on := 2, ground := Go.Ground.phase }, { on := 3, ground := Go.Ground.phase }, { on := 4, ground := Go.Ground.phase }, { on := 5, ground := Go.Ground.phase }, { on := 6, ground := Go.Ground.phase }, { on := 7, ground := Go.Ground.phase }, { on := 8, ground := Go.Ground.phase }], guard := none }) (v := ?v40) rfl (by kernel_rfl) (by kernel_rfl) (by kernel_rfl) (fun _ _ _ h => h) (Or.inl ⟨by kernel_rfl, ?h40⟩) (by assumption) ?r40
  case h40 => (intro w hSw; (try dsimp only at hSw); go_simp; try with_reducible rfl)
  try simp only [Act.put, List.setIfInBounds_toArray, List.set_cons_zero, List.set_cons_succ]
  refine wpAnyH_done (by kernel_rfl) ?_ _
  go_wp2
  go_ret2
  exact ⟨rfl, BL.out.trans (hHeld.mono BL.out.size)⟩
set_option maxRecDepth 100000 in
set_option maxHeartbeats 2000000 in
theorem pshow_any (a : Option Addr) (n cp : Nat) (l : List ByteArray) (k x y c d : Int) (w : World) (ht : Tab w) (h : TT w a n cp l) :
    Calls Tryz.prog 20 #[.slice a n cp, .agg #[.int .i64 k, .int .i64 x, .int .i64 y, .int .i64 c, .int .i64 d]] w (Gives (.tuple #[.string (showP l k x y c d), .int .i64 (showE l k x y c d)]) w) := by
  cases hv : varsB l
  · have hE : showE l k x y c d = 110 := by unfold showE; rw [hv]; rfl
    have hP : showP l k x y c d = ⟨#[]⟩ := by unfold showP; rw [hE]; rfl
    rw [hE, hP]
    have q1 := Lib.hid (fun W hW => rightVars_any a n cp l W hW)
    rw [hv] at q1
    obtain ⟨W1, hW1⟩ : ∃ W1, W1 = w.alloc (.cells #[.int .i64 k, .int .i64 x, .int .i64 y, .int .i64 c, .int .i64 d] 38) := ⟨_, rfl⟩
    have BL := Lib.hid (show Below w.heap.size w W1 by rw [hW1]; exact box_below _ _ _)
    have V := Lib.hid (h.below BL.out)
    have hW1' := Lib.hid hW1
    clear hE hP hv h ht hW1
    go_enter Tryz.func20, Tryz.ntmps20
    go_wp2_with fail
    rw [← hW1'.out]
    with_reducible refine (q1.out W1 V.out).mono ?_
    rintro e u1 ⟨rfl, b1⟩
    go_wp2
    go_ret2
    exact ⟨rfl, BL.out.trans (b1.mono BL.out.size)⟩
  cases hr : rightB k x y c d (n : Int)
  · have hE : showE l k x y c d = 111 := by unfold showE; rw [hv, if_pos rfl, ← h.len, hr]; rfl
    have hP : showP l k x y c d = ⟨#[]⟩ := by unfold showP; rw [hE]; rfl
    rw [hE, hP]
    have q1 := Lib.hid (fun W hW => rightVars_any a n cp l W hW)
    have q2 := Lib.hid (fun W => right_any k x y c d (n : Int) W)
    rw [hv] at q1
    rw [hr] at q2
    obtain ⟨W1, hW1⟩ : ∃ W1, W1 = w.alloc (.cells #[.int .i64 k, .int .i64 x, .int .i64 y, .int .i64 c, .int .i64 d] 38) := ⟨_, rfl⟩
    have BL := Lib.hid (show Below w.heap.size w W1 by rw [hW1]; exact box_below _ _ _)
    have HZ : Hid (Holds W1 w.heap.size 38 #[.int .i64 k, .int .i64 x, .int .i64 y, .int .i64 c, .int .i64 d]) := Lib.hid (by rw [hW1]; exact Holds.new w _ _)
    have V := Lib.hid (h.below BL.out)
    have hW1' := Lib.hid hW1
    clear hE hP hv hr h ht hW1
    go_enter Tryz.func20, Tryz.ntmps20
    go_wp2_with fail
    rw [← hW1'.out]
    with_reducible refine (q1.out W1 V.out).mono ?_
    rintro e u1 ⟨rfl, b1⟩
    replace HZ := Lib.hid (HZ.out.below b1 HZ.out.lt)
    replace BL := Lib.hid (BL.out.trans (b1.mono BL.out.size))
    clear b1 hW1' q1
    have k0 := HZ.out.cell 0
    have k1 := HZ.out.cell 1
    have k2 := HZ.out.cell 2
    have k3 := HZ.out.cell 3
    have k4 := HZ.out.cell 4
    go_wp2_with fail
    refine (q2.out u1).mono ?_
    rintro e u2 ⟨rfl, b1⟩
    clear k0 k1 k2 k3 k4
    go_wp2
    go_ret2
    exact ⟨rfl, BL.out.trans (b1.mono BL.out.size)⟩
  have hE : showE l k x y c d = 0 := by unfold showE; rw [hv, if_pos rfl, ← h.len, hr]; rfl
  have hP : showP l k x y c d = stmtT l k x y c d := by unfold showP; rw [if_pos hE]
  rw [hE, hP]
  have hl := vars_sz hv
  obtain rfl | rfl | rfl | rfl | rfl : k = 1 ∨ k = 2 ∨ k = 3 ∨ k = 4 ∨ k = 5 := by have := right_kind hr; omega
  · exact pshow_1 a n cp l x y c d _ hv hr (fun W _ _ => showSkip_any a n cp 1 x y c d W) w ht h
  · obtain ⟨r1, r2, r3, r4, r5, _⟩ := right_let hr
    exact pshow_2 a n cp l x y c d _ hv hr (fun W hT hW => showLet_any a n cp l hl 2 x y c d r1 r2 r3 r4 (by omega) W hT hW) w ht h
  · obtain ⟨r1, r2, _⟩ := right_any' hr
    exact pshow_3 a n cp l x y c d _ hv hr (fun W hT hW => showAny_any a n cp l hl 3 x y c d r1 r2 W hT hW) w ht h
  · obtain ⟨r1, r2, r3, r4, r5, _⟩ := right_diff (.inl rfl) hr
    exact pshow_4 a n cp l x y c d _ hv hr (fun W hT hW => showLimit_any a n cp l hl 4 x y c d r1 r2 r3 r4 r5 W hT hW) w ht h
  · obtain ⟨r1, r2, r3, r4, r5, _⟩ := right_diff (.inr rfl) hr
    exact pshow_5 a n cp l x y c d _ hv hr (fun W hT hW => showCheck_any a n cp l hl 5 x y c d r1 r2 r3 r4 r5 W hT hW) w ht h
end Go.Proofs.YtgeliikfgnkppaaGreatDoor
namespace Go.Proofs.YtgeliikfgnkppaaGreatDoor
open Go.RowKit
set_option linter.unusedVariables false
theorem sz_none {l : List UInt8} (hi : l ≠ infT) (h : canon l → ¬ val10 l < 1099511627776) : sizeV l = none := by
  unfold sizeV
  rw [if_neg hi, if_neg (fun e => h e.1 e.2)]
theorem sz_bad {l : List UInt8} (hi : l ≠ infT) {k : Nat} {c : UInt8} (hk : l[k]? = some c) (h : ¬ isDig c) : sizeV l = none :=
  sz_none hi fun hc _ => h (hc.2.1 c (List.mem_of_getElem? hk))
theorem take_snoc {l : List UInt8} {k : Nat} {c : UInt8} (hk : l[k]? = some c) : l.take (k + 1) = l.take k ++ [c] := by
  rw [List.take_add_one, hk]; rfl
theorem sz_big {l : List UInt8} (hi : l ≠ infT) {k : Nat} {c : UInt8} (hk : l[k]? = some c) (h : 1099511627776 ≤ 10 * val10 (l.take k) + (c.toNat - 48)) : sizeV l = none :=
  sz_none hi fun _ hv => by
    have h1 := val10_app_le (l.take (k + 1)) (l.drop (k + 1))
    rw [List.take_append_drop, take_snoc hk, val10_snoc] at h1
    omega
theorem canon_zero {l : List UInt8} (h : canon l) (hv : val10 l = 0) : l = [48] := by
  have := canon_show h
  rw [hv] at this
  rw [← this]; decide +kernel
theorem sz_zero {l : List UInt8} (hi : l ≠ infT) {k : Nat} {c : UInt8} (hk : l[k]? = some c) (hc : canon (l.take k)) (hv : val10 (l.take k) = 0) : sizeV l = none :=
  sz_none hi fun h _ => by
    have h1 := canon_zero hc hv
    have hk1 : k = 1 := by
      have h2 := congrArg List.length h1
      have h3 := (List.getElem?_eq_some_iff.1 hk).1
      simp at h2; omega
    subst hk1
    have hh : l.head? = some 48 := by
      cases l with
      | nil => simp at hk
      | cons x r => simp at h1; simp [h1]
    have h4 := h.2.2 hh
    subst h4
    simp at hk
theorem sz_next {l : List UInt8} {k : Nat} {c : UInt8} (hk : l[k]? = some c) (hd : isDig c) (h : k = 0 ∨ (canon (l.take k) ∧ val10 (l.take k) ≠ 0)) :
    canon (l.take (k + 1)) ∧ val10 (l.take (k + 1)) = 10 * val10 (l.take k) + (c.toNat - 48) := by
  rw [take_snoc hk, val10_snoc]
  refine ⟨?_, rfl⟩
  rcases h with rfl | ⟨hc, hv⟩
  · simp only [List.take_zero, List.nil_append]
    exact ⟨by simp, by simpa using hd, fun e => by simpa using e⟩
  · refine ⟨by simp, fun x hx => ?_, fun e => ?_⟩
    · rcases List.mem_append.1 hx with hx | hx
      · exact hc.2.1 x hx
      · rw [List.mem_singleton] at hx; subst hx; exact hd
    · exfalso
      have h5 : (l.take k).head? = some 48 := by
        generalize hp : l.take k = p at *
        cases p with
        | nil => exact absurd rfl hc.1
        | cons x r => simpa using e
      have h6 := hc.2.2 h5
      apply hv
      rw [h6]; decide +kernel
theorem sz_end {l : List UInt8} (hi : l ≠ infT) (h : l = [] ∨ canon l) (hv : val10 l < 1099511627776) : sizeV l = if l = [] then none else some (val10 l) := by
  rcases h with rfl | h
  · rw [if_pos rfl]; exact sz_none hi fun e => absurd rfl e.1
  · unfold sizeV; rw [if_neg hi, if_pos ⟨h, hv⟩, if_neg h.1]
theorem byte_at (s : ByteArray) (k : Nat) (h : k < s.size) : s.data.toList[k]? = some (s[k]'h) := by
  have h2 : k < s.data.toList.length := by rw [Array.length_toList]; exact h
  rw [List.getElem?_eq_getElem h2]
  simp
  rfl
def szP (l : List UInt8) (k n : Nat) : Prop := n = val10 (l.take k) ∧ n < 1099511627776 ∧ (k = 0 ∨ canon (l.take k))
set_option maxHeartbeats 1000000 in
theorem size_any (s : ByteArray) (hm : s.size ≤ 1000) (w : World) : Calls Tryz.prog 128 #[.string s] w (Gives (.tuple #[.int .i64 (((sizeV s.data.toList).getD 0 : Nat) : Int), .bool (sizeV s.data.toList).isSome]) w) := by
  have hlen : s.data.toList.length = s.size := by rw [Array.length_toList]; rfl
  have htl : s.toList = s.data.toList := ByteArray.toList_eq ..
  by_cases hinf : s.data.toList = infT
  · have hv : sizeV s.data.toList = some 1099511627776 := by unfold sizeV; rw [if_pos hinf]
    have h1 : (s.toList == [105, 110, 102]) = true := by rw [htl, hinf]; rfl
    rw [hv]
    clear hinf htl hlen hv
    go_enter Tryz.func128, Tryz.ntmps128
    go_wp2
    go_ret2
    exact ⟨rfl, Below.refl _ _⟩
  · have h1 : (s.toList == [105, 110, 102]) = false := by rw [htl, beq_eq_false_iff_ne]; exact hinf
    have hb := byte_at s
    have he : ∀ n, (s.data.toList = [] ∨ canon s.data.toList) → n = val10 s.data.toList → n < 1099511627776 → Hid ((((sizeV s.data.toList).getD 0 : Nat) : Int) = (n : Int) ∧ (sizeV s.data.toList).isSome = !s.toList.isEmpty) := fun n hc hn hv => Lib.hid (by
      rw [sz_end hinf hc (by omega), htl]
      by_cases hnil : s.data.toList = []
      · rw [if_pos hnil]
        subst hn
        exact ⟨by rw [hnil]; rfl, by rw [hnil]; rfl⟩
      · rw [if_neg hnil, hn]
        exact ⟨rfl, by
          cases h : s.data.toList with
          | nil => exact absurd h hnil
          | cons x r => rfl⟩)
    generalize hL : s.data.toList = l at *
    have hinf' := Lib.hid hinf
    have hbad := fun (k : Nat) (c : UInt8) (h1 : l[k]? = some c) (h2 : ¬ isDig c) => sz_bad hinf h1 h2
    have hbig := fun (k : Nat) (c : UInt8) (h1 : l[k]? = some c) (h2 : 1099511627776 ≤ 10 * val10 (l.take k) + (c.toNat - 48)) => sz_big hinf h1 h2
    have hzero := fun (k : Nat) (c : UInt8) (h1 : l[k]? = some c) (h2 : canon (l.take k)) (h3 : val10 (l.take k) = 0) => sz_zero hinf h1 h2 h3
    have hnext := fun (k : Nat) (c : UInt8) (h1 : l[k]? = some c) (h2 : isDig c) (h3 : k = 0 ∨ (canon (l.take k) ∧ val10 (l.take k) ≠ 0)) => sz_next h1 h2 h3
    have hbad' := Lib.hid hbad
    have hbig' := Lib.hid hbig
    have hzero' := Lib.hid hzero
    have hnext' := Lib.hid hnext
    have hb' := Lib.hid hb
    have he' := Lib.hid he
    have hlen' := Lib.hid hlen
    clear hbad hbig hzero hnext hb he hinf htl hL hlen
    generalize sizeV l = Z at *
    go_enter Tryz.func128, Tryz.ntmps128
    go_wp2
    go_loopw [4, 5, 6] (fun a _ _ wr => ∃ (k n : Nat), k ≤ s.size ∧ Hid (szP l k n) ∧ n < 1099511627776 ∧ wr = w.iter s k ∧ a = .int .i64 n) (fun _ _ _ wr => s.size - wr.iterPos w.heap.size)
    case atStart => exact ⟨0, 0, by omega, Lib.hid ⟨rfl, by omega, .inl rfl⟩, by omega, rfl, rfl⟩
    case round =>
      obtain ⟨k, n, hk, hP, hn, rfl, rfl⟩ := hrel
      by_cases hp : k < s.size
      · have hc := Lib.hid (hb'.out k hp)
        by_cases ha : (s[k]'hp).toNat < 128
        · have hnx : ∀ ty, (Instr.next (.pointer (some ⟨w.heap.size, 0, none⟩)) true ty).run Tryz.prog (w.iter s k) = _ := fun ty => run_next_ascii w s k ty hp ha
          generalize s[k]'hp = c at *
          obtain ⟨x, hx⟩ : ∃ x, x = c.toNat := ⟨_, rfl⟩
          rw [← hx] at hnx ha
          have hx' := Lib.hid hx
          clear hx
          have hnat : x ≤ 255 := by rw [hx'.out]; have := c.toNat_lt; omega
          by_cases hd : isDig c
          · have hxd : 48 ≤ x ∧ x ≤ 57 := by rw [hx'.out]; exact hd
            have hdig := Lib.hid hd
            clear hd
            have hcases : k = 0 ∨ (0 < k ∧ n = 0) ∨ (0 < k ∧ ¬ n = 0) := by omega
            rcases hcases with hk0 | ⟨hk0, hn0⟩ | ⟨hk0, hn0⟩
            · have d1 : decide ((0 : Int) < (k : Int)) = false := by simp; omega
              have hN := Lib.hid (hnext'.out k c hc.out hdig.out (.inl hk0))
              have hP2 := Lib.hid (show szP l (k + 1) (10 * n + (x - 48)) ∧ 10 * n + (x - 48) < 1099511627776 from by
                have h0 : n = 0 := by have := hP.out.1; rw [this, hk0]; rfl
                have h2 : 10 * n + (x - 48) < 1099511627776 := by omega
                exact ⟨⟨by rw [hN.out.2, ← hP.out.1, hx'.out], h2, .inr hN.out.1⟩, h2⟩)
              have h10 : (10 : Int) * (n : Int) + ((x : Int) - 48) < 1099511627776 := by have := hP2.out.2; omega
              have d2 : decide ((1099511627776 : Int) ≤ 10 * (n : Int) + ((x : Int) - 48)) = false := by simp; omega
              have hk1 : ¬ 0 < k := by omega
              clear hk0
              go_wp2
              go_roundw
              case rel => exact ⟨k + 1, 10 * n + (x - 48), by omega, Lib.hid hP2.out.1, hP2.out.2, rfl, by go_num⟩
              case measure => simp; omega
            · subst hn0
              have d1 : decide ((0 : Int) < (k : Int)) = true := by simp; omega
              have hZ := Lib.hid (hzero'.out k c hc.out (by rcases hP.out.2.2 with h | h; exact absurd h (by omega); exact h) hP.out.1.symm)
              go_wp2
              go_ret2
              exact ⟨by rw [hZ.out]; rfl, iter_below _ _ _⟩
            · have d1 : decide ((0 : Int) < (k : Int)) = true := by simp; omega
              have d3 : ((n : Int) == 0) = false := by simp; omega
              by_cases hbg : 1099511627776 ≤ 10 * n + (x - 48)
              · have hZ := Lib.hid (hbig'.out k c hc.out (by rw [← hP.out.1, ← hx'.out]; exact hbg))
                have d2 : decide ((1099511627776 : Int) ≤ 10 * (n : Int) + ((x : Int) - 48)) = true := by simp; omega
                go_wp2
                go_ret2
                exact ⟨by rw [hZ.out]; rfl, iter_below _ _ _⟩
              · have hN := Lib.hid (hnext'.out k c hc.out hdig.out (.inr ⟨by rcases hP.out.2.2 with h | h; exact absurd h (by omega); exact h, by rw [← hP.out.1]; exact hn0⟩))
                have hP2 := Lib.hid (show szP l (k + 1) (10 * n + (x - 48)) from ⟨by rw [hN.out.2, ← hP.out.1, hx'.out], by omega, .inr hN.out.1⟩)
                have d2 : decide ((1099511627776 : Int) ≤ 10 * (n : Int) + ((x : Int) - 48)) = false := by simp; omega
                go_wp2
                go_roundw
                case rel => exact ⟨k + 1, 10 * n + (x - 48), by omega, hP2, by omega, rfl, by go_num⟩
                case measure => simp; omega
          · have hZ := Lib.hid (hbad'.out k c hc.out hd)
            have hxd : x < 48 ∨ 57 < x := by rw [hx'.out]; unfold isDig at hd; omega
            clear hd
            rcases hxd with hxd | hxd
            · have d1 : decide ((x : Int) < 48) = true := by simp; omega
              go_wp2
              go_ret2
              exact ⟨by rw [hZ.out]; rfl, iter_below _ _ _⟩
            · have d1 : decide ((x : Int) < 48) = false := by simp; omega
              have d2 : decide ((57 : Int) < (x : Int)) = true := by simp; omega
              go_wp2
              go_ret2
              exact ⟨by rw [hZ.out]; rfl, iter_below _ _ _⟩
        · have hnx : ∀ ty, (Instr.next (.pointer (some ⟨w.heap.size, 0, none⟩)) true ty).run Tryz.prog (w.iter s k) = _ := fun ty => run_next_any w s k ty hp
          have hr1 := (decode_high s k hp (by omega)).1
          have hr2 := decode_le s k
          have hZ := Lib.hid (hbad'.out k _ hc.out (by unfold isDig; omega))
          generalize (Utf8.decode s k).1 = r at *
          generalize (Utf8.decode s k).2 = q at *
          clear hc
          have d1 : decide ((r : Int) < 48) = false := by simp; omega
          have d2 : decide ((57 : Int) < (r : Int)) = true := by simp; omega
          go_wp2
          go_ret2
          exact ⟨by rw [hZ.out]; rfl, iter_below _ _ _⟩
      · have hnx : ∀ ty, (Instr.next (.pointer (some ⟨w.heap.size, 0, none⟩)) true ty).run Tryz.prog (w.iter s k) = _ := fun ty => run_next_end w s k ty hp
        have htk := Lib.hid (show l.take k = l from List.take_of_length_le (by rw [hlen'.out]; omega))
        have hE := he'.out n (by
          rcases hP.out.2.2 with h | h
          · left; exact List.eq_nil_of_length_eq_zero (by rw [hlen'.out]; omega)
          · right; rw [← htk.out]; exact h) (by have := hP.out.1; rw [htk.out] at this; exact this) hn
        go_wp2
        go_ret2
        exact ⟨by rw [hE.out.1, hE.out.2]; rfl, iter_below _ _ _⟩
def parseN (s : List UInt8) : Int := (parseV s).getD 0
def parseE (s : List UInt8) : Int := if (parseV s).isSome then 0 else 60
theorem parse_below {s : List UInt8} {o : Option Nat} (h : Lib.hasPrefix s [45] = true) (ho : sizeV (s.drop 1) = o) (n : Nat) (hn : (o.getD 0 : Nat) = n) :
    (o.isSome = true → 0 < n → parseN s = -(n : Int) ∧ parseE s = 0) ∧ (o.isSome = false → parseN s = 0 ∧ parseE s = 60) ∧ (¬ 0 < n → parseN s = 0 ∧ parseE s = 60) := by
  unfold parseN parseE parseV
  rw [if_pos h, ho]
  cases o with
  | none => simp
  | some m =>
    simp only [Option.getD_some] at hn
    subst hn
    by_cases hm : 0 < m
    · simp [hm]
    · simp [hm]
theorem parse_plain {s : List UInt8} {o : Option Nat} (h : Lib.hasPrefix s [45] = false) (ho : sizeV s = o) (n : Nat) (hn : (o.getD 0 : Nat) = n) :
    (o.isSome = true → parseN s = (n : Int) ∧ parseE s = 0) ∧ (o.isSome = false → parseN s = 0 ∧ parseE s = 60) := by
  unfold parseN parseE parseV
  rw [if_neg (by rw [h]; decide), ho]
  cases o with
  | none => simp
  | some m =>
    simp only [Option.getD_some] at hn
    subst hn
    simp
theorem sizeV_le {l : List UInt8} : (sizeV l).getD 0 ≤ 1099511627776 := by
  unfold sizeV; split
  · simp
  · split
    · next h => simp; omega
    · simp
set_option maxHeartbeats 1000000 in
theorem parse_any (s : ByteArray) (hm : s.size ≤ 1000) (w : World) : Calls Tryz.prog 126 #[.string s] w (Gives (.tuple #[.int .i64 (parseN s.data.toList), .int .i64 (parseE s.data.toList)]) w) := by
  have hlen : s.data.toList.length = s.size := by rw [Array.length_toList]; rfl
  have hcut := Lib.hid (fun w => Tryz.strings_CutPrefix s ⟨#[45]⟩ w)
  have e45 : (⟨#[45]⟩ : ByteArray).data.toList = [45] := rfl
  rw [e45] at hcut
  by_cases hp : Lib.hasPrefix s.data.toList [45] = true
  · have ht : Lib.trimPrefix s.data.toList [45] = s.data.toList.drop 1 := by unfold Lib.trimPrefix; rw [hp]; rfl
    rw [hp, ht] at hcut
    have hs := Lib.hid (fun w => size_any ⟨(s.data.toList.drop 1).toArray⟩ (by show (s.data.toList.drop 1).toArray.size ≤ 1000; simp; omega) w)
    rw [show (⟨(s.data.toList.drop 1).toArray⟩ : ByteArray).data.toList = s.data.toList.drop 1 from rfl] at hs
    obtain ⟨o, ho⟩ : ∃ o, sizeV (s.data.toList.drop 1) = o := ⟨_, rfl⟩
    obtain ⟨n, hn⟩ : ∃ n, (o.getD 0 : Nat) = n := ⟨_, rfl⟩
    have hle : n ≤ 1099511627776 := by rw [← hn, ← ho]; exact sizeV_le
    have hx := Lib.hid (parse_below hp ho n hn)
    rw [ho, hn] at hs
    generalize (⟨(s.data.toList.drop 1).toArray⟩ : ByteArray) = R at *
    generalize parseN s.data.toList = N at *
    generalize parseE s.data.toList = E at *
    clear ho hp ht hn hlen e45
    obtain ⟨b, hbo⟩ : ∃ b, o.isSome = b := ⟨_, rfl⟩
    rw [hbo] at hs hx
    clear hbo
    cases b
    · have hz := Lib.hid (hx.out.2.1 rfl)
      go_enter Tryz.func126, Tryz.ntmps126
      go_wp2_with fail
      refine (hcut.out _).mono ?_
      rintro e w' ⟨rfl, rfl⟩
      go_wp2_with fail
      refine (hs.out _).mono ?_
      rintro e w1 ⟨rfl, hb⟩
      go_wp2
      go_ret2
      exact ⟨by rw [hz.out.1, hz.out.2]; rfl, hb⟩
    · by_cases hpos : 0 < n
      · have hz := Lib.hid (hx.out.1 rfl hpos)
        have d1 : decide ((0 : Int) < (n : Int)) = true := by simp; omega
        go_enter Tryz.func126, Tryz.ntmps126
        go_wp2_with fail
        refine (hcut.out _).mono ?_
        rintro e w' ⟨rfl, rfl⟩
        go_wp2_with fail
        refine (hs.out _).mono ?_
        rintro e w1 ⟨rfl, hb⟩
        go_wp2
        go_ret2
        exact ⟨by rw [hz.out.1, hz.out.2]; rfl, hb⟩
      · have hz := Lib.hid (hx.out.2.2 hpos)
        have d1 : decide ((0 : Int) < (n : Int)) = false := by simp; omega
        go_enter Tryz.func126, Tryz.ntmps126
        go_wp2_with fail
        refine (hcut.out _).mono ?_
        rintro e w' ⟨rfl, rfl⟩
        go_wp2_with fail
        refine (hs.out _).mono ?_
        rintro e w1 ⟨rfl, hb⟩
        go_wp2
        go_ret2
        exact ⟨by rw [hz.out.1, hz.out.2]; rfl, hb⟩
  · have hp : Lib.hasPrefix s.data.toList [45] = false := by simpa using hp
    have ht : Lib.trimPrefix s.data.toList [45] = s.data.toList := by unfold Lib.trimPrefix; rw [hp]; rfl
    rw [hp, ht] at hcut
    have hs := Lib.hid (fun w => size_any s hm w)
    rw [show (⟨s.data.toList.toArray⟩ : ByteArray) = s from by simp] at hcut
    obtain ⟨o, ho⟩ : ∃ o, sizeV s.data.toList = o := ⟨_, rfl⟩
    obtain ⟨n, hn⟩ : ∃ n, (o.getD 0 : Nat) = n := ⟨_, rfl⟩
    have hx := Lib.hid (parse_plain hp ho n hn)
    rw [ho, hn] at hs
    generalize parseN s.data.toList = N at *
    generalize parseE s.data.toList = E at *
    clear ho hp ht hn hlen e45
    obtain ⟨b, hbo⟩ : ∃ b, o.isSome = b := ⟨_, rfl⟩
    rw [hbo] at hs hx
    clear hbo
    cases b
    · have hz := Lib.hid (hx.out.2 rfl)
      go_enter Tryz.func126, Tryz.ntmps126
      go_wp2_with fail
      refine (hcut.out _).mono ?_
      rintro e w' ⟨rfl, rfl⟩
      go_wp2_with fail
      refine (hs.out _).mono ?_
      rintro e w1 ⟨rfl, hb⟩
      go_wp2
      go_ret2
      exact ⟨by rw [hz.out.1, hz.out.2]; rfl, hb⟩
    · have hz := Lib.hid (hx.out.1 rfl)
      go_enter Tryz.func126, Tryz.ntmps126
      go_wp2_with fail
      refine (hcut.out _).mono ?_
      rintro e w' ⟨rfl, rfl⟩
      go_wp2_with fail
      refine (hs.out _).mono ?_
      rintro e w1 ⟨rfl, hb⟩
      go_wp2
      go_ret2
      exact ⟨by rw [hz.out.1, hz.out.2]; rfl, hb⟩
end Go.Proofs.YtgeliikfgnkppaaGreatDoor
namespace Go.Proofs.YtgeliikfgnkppaaGreatDoor
open Go.RowKit
set_option linter.unusedVariables false
set_option linter.unusedSimpArgs false
structure PRd (w0 : World) (r : Nat) (a : Option Addr) (n cp : Nat) (l : List ByteArray) (s : ByteArray) (w : World) : Prop where
  blk : Holds w r 81 #[.slice a n cp, .string s]
  own : w0.heap.size ≤ r
  bel : Below w0.heap.size w0 w
  vars : TT w0 a n cp l
  sz : s.size ≤ 256
def PRdE (w0 : World) (r : Nat) (a : Option Addr) (n cp : Nat) (l : List ByteArray) (w : World) : Option (Value × ByteArray) → Ending → World → Prop
  | some (v, s), e, w' => e = .returned v ∧ PRd w0 r a n cp l s w' ∧ BelowE [r] w.heap.size w w'
  | none, e, w' => e = .panicked [{ v := .iface 77 (.agg #[]), recovered := false }] ∧ BelowE [r] w.heap.size w w'
theorem PRd.by {w0 : World} {r : Nat} {a : Option Addr} {n cp : Nat} {l : List ByteArray} {s : ByteArray} {w w' : World} (h : PRd w0 r a n cp l s w) (hb : Below w.heap.size w w') : PRd w0 r a n cp l s w' :=
  ⟨h.blk.below hb h.blk.lt, h.own, h.bel.trans (hb.mono h.bel.size), h.vars, h.sz⟩
theorem PRd.tt {w0 : World} {r : Nat} {a : Option Addr} {n cp : Nat} {l : List ByteArray} {s : ByteArray} {w : World} (h : PRd w0 r a n cp l s w) : TT w a n cp l := h.vars.below h.bel
theorem PRd.drewN {w0 : World} {r : Nat} {a : Option Addr} {n cp : Nat} {l : List ByteArray} {s : ByteArray} {w : World} (h : PRd w0 r a n cp l s w) (m : Nat) : PRd w0 r a n cp l s (w.drewN m) := ⟨h.blk.drewN m, h.own, ⟨h.bel.os, h.bel.tape, h.bel.output, h.bel.size, h.bel.block⟩, h.vars, h.sz⟩
theorem PRd.put {w0 : World} {r : Nat} {a : Option Addr} {n cp : Nat} {l : List ByteArray} {s : ByteArray} {w : World} (h : PRd w0 r a n cp l s w) (t : ByteArray) (ht : t.size ≤ 256) : PRd w0 r a n cp l t (w.setCell ⟨r, 1, none⟩ (.string t)) := by
  refine ⟨?_, h.own, h.bel.setCell h.own _, h.vars, ht⟩
  have q := h.blk.set 1 (.string t)
  simpa using q
theorem PRd.putE {w0 : World} {r : Nat} {a : Option Addr} {n cp : Nat} {l : List ByteArray} {s : ByteArray} {w : World} (h : PRd w0 r a n cp l s w) (t : ByteArray) : BelowE [r] w.heap.size w (w.setCell ⟨r, 1, none⟩ (.string t)) := (BelowE.refl _ _ _).setIn (by simp) _
theorem PRdE.next {w0 : World} {r : Nat} {a : Option Addr} {n cp : Nat} {l : List ByteArray} {w w1 w2 : World} (hb : BelowE [r] w.heap.size w w1) {x : Option (Value × ByteArray)} {e : Ending} (h : PRdE w0 r a n cp l w1 x e w2) : PRdE w0 r a n cp l w x e w2 := by
  cases x with
  | none => exact ⟨h.1, hb.trans (h.2.mono hb.size)⟩
  | some p => exact ⟨h.1, h.2.1, hb.trans (h.2.2.mono hb.size)⟩
def cutB (s p : ByteArray) : ByteArray := ⟨(Lib.trimPrefix s.data.toList p.data.toList).toArray⟩
def hasB (s p : ByteArray) : Bool := Lib.hasPrefix s.data.toList p.data.toList
theorem cutB_le (s p : ByteArray) : (cutB s p).size ≤ s.size := by
  show (Lib.trimPrefix s.data.toList p.data.toList).toArray.size ≤ s.data.size
  have := Lib.trimPrefix_le s.data.toList p.data.toList
  simpa using this
def wordW (s : ByteArray) : ByteArray := s.extract 0 (nsz s)
def wordR (s : ByteArray) : ByteArray := s.extract (nsz s) s.size
theorem wordW_le (s : ByteArray) : (wordW s).size ≤ s.size := by unfold wordW; have := nsz_le s; simp; omega
theorem wordR_le (s : ByteArray) : (wordR s).size ≤ s.size := by unfold wordR; simp
def numR (l : List ByteArray) (x : ByteArray) : Option Int := if Lib.idxOfS l x < 0 then none else some (Lib.idxOfS l x + 1)
def valR (s : ByteArray) : Option Int := if parseE s.data.toList = 0 then some (parseN s.data.toList) else none
theorem idxFromS_lt (x : ByteArray) : ∀ (zs : List ByteArray) (i : Nat), Lib.idxFromS zs x i < ((i + zs.length : Nat) : Int) + 1
  | [], i => by simp [Lib.idxFromS]; omega
  | z :: zs, i => by
    have := idxFromS_lt x zs (i + 1)
    unfold Lib.idxFromS
    split
    · simp; omega
    · simp at this ⊢; omega
theorem tindex_any (a : Option Addr) (n cp : Nat) (l : List ByteArray) (x : ByteArray) (w : World) (h : TT w a n cp l) :
    Calls Tryz.prog 89 #[.slice a n cp, .string x] w fun e w' => e = .returned (.int .i64 (Lib.idxOfS l x)) ∧ w = w' := by
  have hn := h.len
  have hmx := h.max
  have hcp := h.cap
  unfold maxLen at hmx
  by_cases h0 : 0 < l.length
  · obtain ⟨b, off, rfl, hb, hc⟩ := h.at_ h0
    refine (Tryz.slices_Index_string b off n cp l x w (by omega) (by omega) (fun j hj => hc j hj)).mono ?_
    rintro e w' ⟨rfl, rfl⟩
    rw [List.take_of_length_le (by omega)]
    exact ⟨rfl, rfl⟩
  · have : l = [] := List.length_eq_zero_iff.1 (by omega)
    subst this
    simp at hn
    subst hn
    refine (Tryz.slices_Index_string_empty a cp x w).mono ?_
    rintro e w' ⟨rfl, rfl⟩
    exact ⟨rfl, rfl⟩
theorem cut_any (s p : ByteArray) (w : World) : Calls Tryz.prog 119 #[.string s, .string p] w fun e w' => e = .returned (.tuple #[.string (cutB s p), .bool (hasB s p)]) ∧ w = w' :=
  (Tryz.strings_CutPrefix s p w).mono (fun e w' h => ⟨h.1, h.2.symm⟩)
set_option maxRecDepth 100000 in
set_option maxHeartbeats 2000000 in
theorem prnext (w0 : World) (r : Nat) (a : Option Addr) (n cp : Nat) (l : List ByteArray) (s p : ByteArray) (w : World) (h : PRd w0 r a n cp l s w) :
    Calls Tryz.prog 106 #[.pointer (some ⟨r, 0, none⟩), .string p] w (PRdE w0 r a n cp l w (some (.bool (hasB s p), cutB s p))) := by
  have k1 := h.blk.cell 1
  have f1 := h.blk.free 1
  simp at k1
  have q1 := Lib.hid (cut_any s p)
  have H := Lib.hid h
  have hle := Lib.hid (Nat.le_trans (cutB_le s p) h.sz)
  clear h
  generalize cutB s p = C at *
  generalize hasB s p = B at *
  go_enter Tryz.func106, Tryz.ntmps106
  go_wp2_with fail
  refine (q1.out w).mono ?_
  rintro e w' ⟨rfl, rfl⟩
  go_wp2
  go_ret
  exact ⟨rfl, H.out.put C hle.out, (H.out.putE C)⟩
set_option maxRecDepth 100000 in
set_option maxHeartbeats 2000000 in
theorem prmust (w0 : World) (r : Nat) (a : Option Addr) (n cp : Nat) (l : List ByteArray) (s p : ByteArray) (w : World) (h : PRd w0 r a n cp l s w) :
    Calls Tryz.prog 81 #[.pointer (some ⟨r, 0, none⟩), .string p] w (PRdE w0 r a n cp l w (if hasB s p = true then some (.tuple #[], cutB s p) else none)) := by
  have q1 := Lib.hid (prnext w0 r a n cp l s p w h)
  clear h
  generalize cutB s p = C at *
  generalize hasB s p = B at *
  cases B
  · go_enter Tryz.func81, Tryz.ntmps81
    go_wp2_with fail
    refine q1.out.mono ?_
    rintro e w' ⟨rfl, -, hb⟩
    go_wp2
    exact ⟨rfl, rfl, hb⟩
  · go_enter Tryz.func81, Tryz.ntmps81
    go_wp2_with fail
    refine q1.out.mono ?_
    rintro e w' ⟨rfl, hr, hb⟩
    have hr' := Lib.hid hr
    have hb' := Lib.hid hb
    clear hr hb
    go_wp2
    go_end0
    exact ⟨rfl, hr'.out, hb'.out⟩
set_option maxRecDepth 100000 in
set_option maxHeartbeats 2000000 in
theorem prword (w0 : World) (r : Nat) (a : Option Addr) (n cp : Nat) (l : List ByteArray) (s : ByteArray) (w : World) (h : PRd w0 r a n cp l s w) :
    Calls Tryz.prog 78 #[.pointer (some ⟨r, 0, none⟩)] w (PRdE w0 r a n cp l w (some (.string (wordW s), wordR s))) := by
  have q1 := Lib.hid (nameSize_any s (by have := h.sz; omega) w)
  have H := Lib.hid h
  have hle := Lib.hid (Nat.le_trans (wordR_le s) h.sz)
  have s1 : ∀ W, (Instr.slice 9 (.string s) none (some (.int .i64 ((nsz s : Nat) : Int))) none).run Tryz.prog W = .ok (.string (wordW s)) W := fun W => by
    have := run_slice_string_h W 9 s Tryz.underlying9 .i64 ((nsz s : Nat) : Int) (by omega) (by have := nsz_le s; omega)
    simpa [wordW] using this
  have s2 : ∀ W, (Instr.slice 9 (.string s) (some (.int .i64 ((nsz s : Nat) : Int))) none none).run Tryz.prog W = .ok (.string (wordR s)) W := fun W => by
    have := run_slice_string_l W 9 s Tryz.underlying9 .i64 ((nsz s : Nat) : Int) (by omega) (by have := nsz_le s; omega)
    simpa [wordR] using this
  have k1 := h.blk.cell 1
  simp at k1
  clear h
  generalize wordW s = X at *
  generalize wordR s = Y at *
  generalize ((nsz s : Nat) : Int) = N at *
  go_enter Tryz.func78, Tryz.ntmps78
  go_wp2_with fail
  refine q1.out.mono ?_
  rintro e w' ⟨rfl, hb⟩
  have H1 := Lib.hid (H.out.by hb)
  have hb' := Lib.hid hb
  clear hb k1
  have k1 := H1.out.blk.cell 1
  have f1 := H1.out.blk.free 1
  simp at k1
  go_wp2
  go_ret
  exact ⟨rfl, H1.out.put Y hle.out, ((BelowE.of hb'.out).trans ((H1.out.putE Y).mono hb'.out.size))⟩
set_option maxRecDepth 100000 in
set_option maxHeartbeats 2000000 in
theorem prnumber (w0 : World) (r : Nat) (a : Option Addr) (n cp : Nat) (l : List ByteArray) (s x : ByteArray) (w : World) (h : PRd w0 r a n cp l s w) (hl : l.length ≤ 8) :
    Calls Tryz.prog 80 #[.pointer (some ⟨r, 0, none⟩), .string x] w (PRdE w0 r a n cp l w ((numR l x).map fun v => (.int .i64 v, s))) := by
  have q1 := Lib.hid (tindex_any a n cp l x w h.tt)
  have H := Lib.hid h
  have k0 := h.blk.cell 0
  simp at k0
  have hlt := idxFromS_lt x l 0
  rw [show Lib.idxFromS l x 0 = Lib.idxOfS l x from rfl] at hlt
  clear h
  unfold numR
  generalize Lib.idxOfS l x = I at *
  by_cases hI : I < 0
  · rw [if_pos hI]
    clear hlt
    have d1 : decide (I < 0) = true := decide_eq_true hI
    go_enter Tryz.func80, Tryz.ntmps80
    go_wp2_with fail
    refine q1.out.mono ?_
    rintro e w' ⟨rfl, rfl⟩
    go_wp2
    exact ⟨rfl, rfl, BelowE.refl _ _ _⟩
  · rw [if_neg hI]
    have h1 : I ≤ 100 := by omega
    clear hlt
    go_enter Tryz.func80, Tryz.ntmps80
    go_wp2_with fail
    refine q1.out.mono ?_
    rintro e w' ⟨rfl, rfl⟩
    go_wp2
    go_ret
    exact ⟨rfl, H.out, (BelowE.refl _ _ _)⟩
def ValE (w : World) (x : Option Int) (e : Ending) (w' : World) : Prop := (match x with | some v => e = .returned (.int .i64 v) | none => e = .panicked [{ v := .iface 77 (.agg #[]), recovered := false }]) ∧ Below w.heap.size w w'
set_option maxRecDepth 100000 in
set_option maxHeartbeats 2000000 in
theorem prvalof_any (s : ByteArray) (hs : s.size ≤ 1000) (w : World) : Calls Tryz.prog 120 #[.string s] w (ValE w (valR s)) := by
  have q1 := Lib.hid (parse_any s hs w)
  unfold valR
  generalize parseN s.data.toList = N at *
  generalize parseE s.data.toList = E at *
  by_cases hE : E = 0
  · subst hE
    rw [if_pos rfl]
    go_enter Tryz.func120, Tryz.ntmps120
    go_wp2_with fail
    refine q1.out.mono ?_
    rintro e w' ⟨rfl, hb⟩
    have hb' := Lib.hid hb
    clear hb
    go_wp2
    go_ret
    exact ⟨rfl, hb'.out⟩
  · rw [if_neg hE]
    have hne : (E == 0) = false := by simp [hE]
    go_enter Tryz.func120, Tryz.ntmps120
    go_wp2_with fail
    refine q1.out.mono ?_
    rintro e w' ⟨rfl, hb⟩
    have hb' := Lib.hid hb
    clear hb
    go_wp2
    exact ⟨rfl, rfl, hb'.out⟩
def dashB : ByteArray := ⟨#[45]⟩
def signB (s : ByteArray) : ByteArray := if hasB s dashB = true then dashB else ⟨#[]⟩
def readV (s : ByteArray) : Option (Int × ByteArray) := (valR (signB s ++ wordW (cutB s dashB))).map fun v => (v, wordR (cutB s dashB))
theorem sign_sz (s : ByteArray) : (signB s).size ≤ 1 := by unfold signB; split <;> decide
set_option maxRecDepth 100000 in
set_option maxHeartbeats 2000000 in
theorem prvalue (w0 : World) (r : Nat) (a : Option Addr) (n cp : Nat) (l : List ByteArray) (s : ByteArray) (w : World) (h : PRd w0 r a n cp l s w) :
    Calls Tryz.prog 107 #[.pointer (some ⟨r, 0, none⟩)] w (PRdE w0 r a n cp l w ((readV s).map fun p => (.int .i64 p.1, p.2))) := by
  have q1 := Lib.hid (prnext w0 r a n cp l s dashB w h)
  have q2 := Lib.hid (fun W hW => prword w0 r a n cp l (cutB s dashB) W hW)
  have hsz : (signB s ++ wordW (cutB s dashB)).size ≤ 1000 := by
    have h1 := sign_sz s
    have h2 := wordW_le (cutB s dashB)
    have h3 := cutB_le s dashB
    have h4 := h.sz
    rw [ByteArray.size_append]
    omega
  have q3 := Lib.hid (fun W => prvalof_any _ hsz W)
  have hX : (wordW (cutB s dashB)).size ≤ 256 := Nat.le_trans (wordW_le _) (Nat.le_trans (cutB_le _ _) h.sz)
  clear hsz h
  have hS : Hid (signB s = if hasB s dashB = true then dashB else ⟨#[]⟩) := Lib.hid rfl
  have hD : Hid (dashB = ⟨#[45]⟩) := Lib.hid rfl
  unfold readV
  generalize signB s = G at *
  generalize cutB s dashB = C at *
  generalize hasB s dashB = B at *
  generalize wordW C = X at *
  generalize wordR C = Y at *
  rw [hD.out] at q1 hS
  clear hD
  have z0 : ¬ 9223372036854775807 < X.size := by omega
  have z1 : ¬ 9223372036854775807 < 1 + X.size := by omega
  clear hX
  cases B
  · have hS2 : G = ⟨#[]⟩ := hS.out
    subst hS2
    clear hS
    generalize valR ((⟨#[]⟩ : ByteArray) ++ X) = V at *
    go_enter Tryz.func107, Tryz.ntmps107
    go_wp2_with fail
    refine q1.out.mono ?_
    rintro e w1 ⟨rfl, h1, b1⟩
    have q4 := Lib.hid (q2.out _ h1)
    have b1' := Lib.hid b1
    clear h1 b1 q1 q2
    go_wp2_with fail
    refine q4.out.mono ?_
    rintro e w2 ⟨rfl, h2, b2⟩
    have h2' := Lib.hid h2
    have b2' := Lib.hid (b1'.out.trans (b2.mono b1'.out.size))
    clear h2 b2 q4 b1'
    go_wp2_with fail
    refine (q3.out _).mono ?_
    rintro e w3 ⟨he, hb⟩
    have b3 := Lib.hid (b2'.out.trans ((BelowE.of hb).mono b2'.out.size))
    have h3 := Lib.hid (h2'.out.by hb)
    clear hb b2' h2' q3
    cases V with
    | none =>
      replace he := show e = _ from he
      subst he
      go_wp2
      exact ⟨rfl, rfl, b3.out⟩
    | some v =>
      replace he := show e = _ from he
      subst he
      go_wp2
      go_ret
      exact ⟨rfl, h3.out, b3.out⟩
  · have hS2 : G = ⟨#[45]⟩ := hS.out
    subst hS2
    clear hS
    generalize valR ((⟨#[45]⟩ : ByteArray) ++ X) = V at *
    go_enter Tryz.func107, Tryz.ntmps107
    go_wp2_with fail
    refine q1.out.mono ?_
    rintro e w1 ⟨rfl, h1, b1⟩
    have q4 := Lib.hid (q2.out _ h1)
    have b1' := Lib.hid b1
    clear h1 b1 q1 q2
    go_wp2_with fail
    refine q4.out.mono ?_
    rintro e w2 ⟨rfl, h2, b2⟩
    have h2' := Lib.hid h2
    have b2' := Lib.hid (b1'.out.trans (b2.mono b1'.out.size))
    clear h2 b2 q4 b1'
    go_wp2_with fail
    refine (q3.out _).mono ?_
    rintro e w3 ⟨he, hb⟩
    have b3 := Lib.hid (b2'.out.trans ((BelowE.of hb).mono b2'.out.size))
    have h3 := Lib.hid (h2'.out.by hb)
    clear hb b2' h2' q3
    cases V with
    | none =>
      replace he := show e = _ from he
      subst he
      go_wp2
      exact ⟨rfl, rfl, b3.out⟩
    | some v =>
      replace he := show e = _ from he
      subst he
      go_wp2
      go_ret
      exact ⟨rfl, h3.out, b3.out⟩
end Go.Proofs.YtgeliikfgnkppaaGreatDoor
