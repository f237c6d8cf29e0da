/- The scanner's small steps. -/
import Derived.Test.YtplgfghffeijcaaLexData
import Derived.Test.YtplgfghffeijcaaDrawn
namespace Go.Proofs.Ytplgfghffeijcaa
open Go.RowKit
set_option linter.unusedVariables false
set_option linter.unusedSimpArgs false

theorem printed_any (c : Int) (w : World) : Calls Try.prog 27 #[.int .i32 c] w fun e w' => e = .returned (.bool (prB c)) ∧ w = w' := by
  unfold prB
  by_cases h0 : 32 ≤ c
  · have d0 : decide (32 ≤ c) = true := decide_eq_true h0
    rw [d0, Bool.true_and]
    clear d0
    go_enter Try.func27, Try.ntmps27
    go_wp2
    go_ret
    exact ⟨rfl, rfl⟩
  · have d0 : decide (32 ≤ c) = false := decide_eq_false h0
    rw [d0, Bool.false_and]
    clear d0
    go_enter Try.func27, Try.ntmps27
    go_wp2
    go_ret
    exact ⟨rfl, rfl⟩
theorem wordRune_any (c : Int) (w : World) : Calls Try.prog 28 #[.int .i32 c] w fun e w' => e = .returned (.bool (wdB c)) ∧ w = w' := by
  have h := Lib.hid (fun w => printed_any c w)
  unfold wdB
  cases hp : prB c
  · rw [hp] at h
    rw [Bool.false_and]
    clear hp
    go_enter Try.func28, Try.ntmps28
    go_wp2_with fail
    refine (h.out _).mono ?_
    rintro e w' ⟨rfl, rfl⟩
    go_wp2
    go_ret
    exact ⟨rfl, rfl⟩
  · rw [hp] at h
    rw [Bool.true_and]
    clear hp
    by_cases h1 : c = 32
    · subst h1
      go_enter Try.func28, Try.ntmps28
      go_wp2_with fail
      refine (h.out _).mono ?_
      rintro e w' ⟨rfl, rfl⟩
      go_wp2
      go_ret
      exact ⟨rfl, rfl⟩
    · have e1 : (c == 32) = false := by simpa using h1
      have e2 : (c != 32) = true := by simpa using h1
      rw [e1, Bool.not_false, Bool.true_and]
      go_enter Try.func28, Try.ntmps28
      go_wp2_with fail
      refine (h.out _).mono ?_
      rintro e w' ⟨rfl, rfl⟩
      go_wp2
      go_ret
      exact ⟨rfl, rfl⟩
/-- What is left of the scanner. -/
def Left (s : Sg) (g : Nat) (F : List Nat) (w : World) (e : Ending) (w' : World) : Prop := e = .returned (.tuple #[]) ∧ ∃ F', SkE w' g F' s ∧ Turns F F' w w'
theorem start_any (k : Int) (s : Sg) (g : Nat) (F : List Nat) (w : World) (h : SkE w g F s) : Calls Try.prog 30 #[.pointer (some ⟨g, 0, none⟩), .int .i64 k] w (Left (s.start k) g F w) := by
  obtain ⟨vl, vt, h⟩ := h
  have H := Lib.hid h
  have k6 := h.h.cell 6
  have k7 := h.h.cell 7
  have k1 := h.h.cell 1
  have k2 := h.h.cell 2
  have k3 := h.h.cell 3
  have k4 := h.h.cell 4
  have k5 := h.h.cell 5
  have f1 := h.h.free 1
  have f2 := h.h.free 2
  have f3 := h.h.free 3
  have f4 := h.h.free 4
  have f5 := h.h.free 5
  have hfin : Hid (∀ w', w' = (((((w.setCell ⟨g, 1, none⟩ (.int .i64 k)).setCell ⟨g, 2, none⟩ (.int .i64 s.line)).setCell ⟨g, 3, none⟩ (.int .i64 s.col)).setCell ⟨g, 4, none⟩ (.string ⟨#[]⟩)).setCell ⟨g, 5, none⟩ (.slice none 0 0)).drew → Left (s.start k) g F w (.returned (.tuple #[])) w') := Lib.hid (by
    rintro w' rfl
    have hh := (((((h.h.set 1 (.int .i64 k)).set 2 (.int .i64 s.line)).set 3 (.int .i64 s.col)).set 4 (.string ⟨#[]⟩)).set 5 (.slice none 0 0)).drew
    have hb : BelowE [g] w.heap.size w (((((w.setCell ⟨g, 1, none⟩ (.int .i64 k)).setCell ⟨g, 2, none⟩ (.int .i64 s.line)).setCell ⟨g, 3, none⟩ (.int .i64 s.col)).setCell ⟨g, 4, none⟩ (.string ⟨#[]⟩)).setCell ⟨g, 5, none⟩ (.slice none 0 0)).drew :=
      ((((((BelowE.refl [g] w.heap.size w).setIn (p := ⟨g, 1, none⟩) (by simp) _).setIn (p := ⟨g, 2, none⟩) (by simp) _).setIn (p := ⟨g, 3, none⟩) (by simp) _).setIn (p := ⟨g, 4, none⟩) (by simp) _).setIn (p := ⟨g, 5, none⟩) (by simp) _).drew
    obtain ⟨a, b⟩ := h.bare (s' := s.start k) hb rfl rfl (by simpa [Sg.start] using hh)
    exact ⟨rfl, F, ⟨_, _, a⟩, b⟩)
  clear h H
  generalize s.line = ln at *
  generalize s.col = cl at *
  go_enter Try.func30, Try.ntmps30
  go_wp2
  refine wp_drawn_on (fun W => W.cell? ⟨g, 6, none⟩ = some (.int .i64 ln) ∧ W.cell? ⟨g, 7, none⟩ = some (.int .i64 cl)) (by kernel_rfl) (⟨k6, k7⟩) (fun hHeld => ?_)
  refine wpAnyH_take (i := 0) (oi := { dst := some 4, op := Go.Op.move (Go.Operand.tmp 0), type := 40, pos := "lex.go:65", after := #[], guard := none }) (v := ?v1) rfl (by kernel_rfl) (by kernel_rfl) (by kernel_rfl) (fun _ _ _ h => h) (Or.inl ⟨by kernel_rfl, ?h1⟩) (by assumption) ?r1
  case h1 => (intro w hSw; (try dsimp only at hSw); go_simp; try with_reducible rfl)
  try simp only [Act.put, List.setIfInBounds_toArray, List.set_cons_zero, List.set_cons_succ]
  refine wpAnyH_take (i := 1) (oi := { dst := some 5, op := Go.Op.move (Go.Operand.tmp 1), type := 3, pos := "lex.go:65", after := #[], guard := none }) (v := ?v2) rfl (by kernel_rfl) (by kernel_rfl) (by kernel_rfl) (fun _ _ _ h => h) (Or.inl ⟨by kernel_rfl, ?h2⟩) (by assumption) ?r2
  case h2 => (intro w hSw; (try dsimp only at hSw); go_simp; try with_reducible rfl)
  try simp only [Act.put, List.setIfInBounds_toArray, List.set_cons_zero, List.set_cons_succ]
  refine wpAnyH_take (i := 2) (oi := { dst := some 6, op := Go.Op.move (Go.Operand.tmp 0), type := 40, pos := "lex.go:65", after := #[], guard := none }) (v := ?v3) rfl (by kernel_rfl) (by kernel_rfl) (by kernel_rfl) (fun _ _ _ h => h) (Or.inl ⟨by kernel_rfl, ?h3⟩) (by assumption) ?r3
  case h3 => (intro w hSw; (try dsimp only at hSw); go_simp; try with_reducible rfl)
  try simp only [Act.put, List.setIfInBounds_toArray, List.set_cons_zero, List.set_cons_succ]
  refine wpAnyH_take (i := 3) (oi := { dst := some 7, op := Go.Op.nilCheck (Go.Operand.tmp 6), type := 0, pos := "lex.go:65", after := #[{ on := 2, ground := Go.Ground.data }], guard := none }) (v := ?v4) rfl (by kernel_rfl) (by kernel_rfl) (by kernel_rfl) (fun _ _ _ h => h) (Or.inl ⟨by kernel_rfl, ?h4⟩) (by assumption) ?r4
  case h4 => (intro w hSw; (try dsimp only at hSw); go_simp; try with_reducible rfl)
  try simp only [Act.put, List.setIfInBounds_toArray, List.set_cons_zero, List.set_cons_succ]
  refine wpAnyH_take (i := 4) (oi := { dst := some 8, op := Go.Op.fieldAddr 42 (Go.Operand.tmp 7) 3, type := 0, pos := "lex.go:65", after := #[{ on := 3, ground := Go.Ground.data }], guard := none }) (v := ?v5) rfl (by kernel_rfl) (by kernel_rfl) (by kernel_rfl) (fun _ _ _ h => h) (Or.inl ⟨by kernel_rfl, ?h5⟩) (by assumption) ?r5
  case h5 => (intro w hSw; (try dsimp only at hSw); go_simp; try with_reducible rfl)
  try simp only [Act.put, List.setIfInBounds_toArray, List.set_cons_zero, List.set_cons_succ]
  refine wpAnyH_take (i := 5) (oi := { dst := some 9, op := Go.Op.load 3 (Go.Operand.tmp 8), type := 3, pos := "lex.go:65", after := #[{ on := 4, ground := Go.Ground.data }], guard := none }) (v := ?v6) rfl (by kernel_rfl) (by kernel_rfl) (by kernel_rfl) (fun _ _ _ h => h) (Or.inl ⟨by kernel_rfl, ?h6⟩) (by assumption) ?r6
  case h6 => (intro w hSw; (try dsimp only at hSw); go_simp; try with_reducible rfl)
  try simp only [Act.put, List.setIfInBounds_toArray, List.set_cons_zero, List.set_cons_succ]
  refine wpAnyH_take (i := 6) (oi := { dst := some 10, op := Go.Op.move (Go.Operand.tmp 0), type := 40, pos := "lex.go:65", after := #[], guard := none }) (v := ?v7) rfl (by kernel_rfl) (by kernel_rfl) (by kernel_rfl) (fun _ _ _ h => h) (Or.inl ⟨by kernel_rfl, ?h7⟩) (by assumption) ?r7
  case h7 => (intro w hSw; (try dsimp only at hSw); go_simp; try with_reducible rfl)
  try simp only [Act.put, List.setIfInBounds_toArray, List.set_cons_zero, List.set_cons_succ]
  refine wpAnyH_take (i := 7) (oi := { dst := some 11, op := Go.Op.nilCheck (Go.Operand.tmp 10), type := 0, pos := "lex.go:65", after := #[{ on := 6, ground := Go.Ground.data }], guard := none }) (v := ?v8) rfl (by kernel_rfl) (by kernel_rfl) (by kernel_rfl) (fun _ _ _ h => h) (Or.inl ⟨by kernel_rfl, ?h8⟩) (by assumption) ?r8
  case h8 => (intro w hSw; (try dsimp only at hSw); go_simp; try with_reducible rfl)
  try simp only [Act.put, List.setIfInBounds_toArray, List.set_cons_zero, List.set_cons_succ]
  refine wpAnyH_take (i := 8) (oi := { dst := some 12, op := Go.Op.fieldAddr 42 (Go.Operand.tmp 11) 4, type := 0, pos := "lex.go:65", after := #[{ on := 7, ground := Go.Ground.data }], guard := none }) (v := ?v9) rfl (by kernel_rfl) (by kernel_rfl) (by kernel_rfl) (fun _ _ _ h => h) (Or.inl ⟨by kernel_rfl, ?h9⟩) (by assumption) ?r9
  case h9 => (intro w hSw; (try dsimp only at hSw); go_simp; try with_reducible rfl)
  try simp only [Act.put, List.setIfInBounds_toArray, List.set_cons_zero, List.set_cons_succ]
  refine wpAnyH_take (i := 9) (oi := { dst := some 13, op := Go.Op.load 3 (Go.Operand.tmp 12), type := 3, pos := "lex.go:65", after := #[{ on := 8, ground := Go.Ground.data }], guard := none }) (v := ?v10) rfl (by kernel_rfl) (by kernel_rfl) (by kernel_rfl) (fun _ _ _ h => h) (Or.inl ⟨by kernel_rfl, ?h10⟩) (by assumption) ?r10
  case h10 => (intro w hSw; (try dsimp only at hSw); go_simp; try with_reducible rfl)
  try simp only [Act.put, List.setIfInBounds_toArray, List.set_cons_zero, List.set_cons_succ]
  refine wpAnyH_take (i := 10) (oi := { dst := some 14, op := Go.Op.build 36 #[(0, Go.Operand.tmp 5), (1, Go.Operand.tmp 9), (2, Go.Operand.tmp 13)], type := 36, pos := "lex.go:65", after := #[{ on := 1, ground := Go.Ground.data }, { on := 5, ground := Go.Ground.data }, { on := 9, ground := Go.Ground.data }], guard := none }) (v := ?v11) rfl (by kernel_rfl) (by kernel_rfl) (by kernel_rfl) (fun _ _ _ h => h) (Or.inl ⟨by kernel_rfl, ?h11⟩) (by assumption) ?r11
  case h11 => (intro w hSw; (try dsimp only at hSw); go_simp; try with_reducible rfl)
  try simp only [Act.put, List.setIfInBounds_toArray, List.set_cons_zero, List.set_cons_succ]
  refine wpAnyH_take (i := 11) (oi := { dst := some 15, op := Go.Op.nilCheck (Go.Operand.tmp 4), type := 0, pos := "lex.go:65", after := #[{ on := 0, ground := Go.Ground.data }, { on := 0, ground := Go.Ground.phase }, { on := 1, ground := Go.Ground.phase }, { on := 2, ground := Go.Ground.phase }, { on := 3, ground := Go.Ground.phase }, { on := 4, ground := Go.Ground.phase }, { on := 5, ground := Go.Ground.phase }, { on := 6, ground := Go.Ground.phase }, { on := 7, ground := Go.Ground.phase }, { on := 8, ground := Go.Ground.phase }, { on := 9, ground := Go.Ground.phase }, { on := 10, ground := Go.Ground.phase }], guard := none }) (v := ?v12) rfl (by kernel_rfl) (by kernel_rfl) (by kernel_rfl) (fun _ _ _ h => h) (Or.inl ⟨by kernel_rfl, ?h12⟩) (by assumption) ?r12
  case h12 => (intro w hSw; (try dsimp only at hSw); go_simp; try with_reducible rfl)
  try simp only [Act.put, List.setIfInBounds_toArray, List.set_cons_zero, List.set_cons_succ]
  refine wpAnyH_take (i := 12) (oi := { dst := some 16, op := Go.Op.fieldAddr 42 (Go.Operand.tmp 15) 1, type := 0, pos := "lex.go:65", after := #[{ on := 11, ground := Go.Ground.data }, { on := 0, ground := Go.Ground.phase }, { on := 1, ground := Go.Ground.phase }, { on := 2, ground := Go.Ground.phase }, { on := 3, ground := Go.Ground.phase }, { on := 4, ground := Go.Ground.phase }, { on := 5, ground := Go.Ground.phase }, { on := 6, ground := Go.Ground.phase }, { on := 7, ground := Go.Ground.phase }, { on := 8, ground := Go.Ground.phase }, { on := 9, ground := Go.Ground.phase }, { on := 10, ground := Go.Ground.phase }], guard := none }) (v := ?v13) rfl (by kernel_rfl) (by kernel_rfl) (by kernel_rfl) (fun _ _ _ h => h) (Or.inl ⟨by kernel_rfl, ?h13⟩) (by assumption) ?r13
  case h13 => (intro w hSw; (try dsimp only at hSw); go_simp; try with_reducible rfl)
  try simp only [Act.put, List.setIfInBounds_toArray, List.set_cons_zero, List.set_cons_succ]
  refine wpAnyH_ready (rs := [13]) (by kernel_rfl) (by simp) ?_
  refine AllReadyH.cons (o := { dst := none, op := Go.Op.store 36 (Go.Operand.tmp 16) (Go.Operand.tmp 14), type := 0, pos := "lex.go:65", after := #[{ on := 12, ground := Go.Ground.data }, { on := 10, ground := Go.Ground.data }, { on := 0, ground := Go.Ground.phase }, { on := 1, ground := Go.Ground.phase }, { on := 2, ground := Go.Ground.phase }, { on := 3, ground := Go.Ground.phase }, { on := 4, ground := Go.Ground.phase }, { on := 5, ground := Go.Ground.phase }, { on := 6, ground := Go.Ground.phase }, { on := 7, ground := Go.Ground.phase }, { on := 8, ground := Go.Ground.phase }, { on := 9, ground := Go.Ground.phase }, { on := 10, ground := Go.Ground.phase }], guard := none }) rfl (fun K hK => ?_) AllReadyH.nil
  go_simp
  refine hK.out _ _ (⟨by go_simp, by go_simp⟩) (fun hHeld => ?_)
  clear hK K
  try simp only [Act.put, List.setIfInBounds_toArray, List.set_cons_zero, List.set_cons_succ]
  refine wpAnyH_done (by kernel_rfl) ?_ _
  go_wp2
  go_end0
  exact hfin.out _ rfl
theorem lit_below (w : World) (o : Obj) : Below w.heap.size w (w.alloc o) := (Below.refl _ _).alloc (Nat.le_refl _) _
theorem sk_drew {w : World} {g : Nat} {F : List Nat} {vl vt : Value} {s : Sg} (h : Sk w g F vl vt s) : Sk w.drew g F vl vt s := h.belowE (X := []) ((BelowE.refl _ _ _).drew) (by simp)
theorem done_any (s : Sg) (g : Nat) (F : List Nat) (w : World) (hL : s.L.length ≤ 4000000) (h : SkE w g F s) : Calls Try.prog 35 #[.pointer (some ⟨g, 0, none⟩)] w (Left s.done g F w) := by
  obtain ⟨vl, vt, h⟩ := h
  obtain ⟨i0, z0, hi, hz, h4, h40, hz4⟩ := infoTokZ
  obtain ⟨a, cap, rfl, -, hs⟩ := sees_own h.ot
  have hconv := conv_sees 38 9 5 Try.underlying38 Try.underlying5 Try.underlying9 hs s.T.length cap rfl
  have k4 := h.h.cell 4
  have k5 := h.h.cell 5
  have f4 := h.h.free 4
  have hfin : Hid (Sk (w.setCell ⟨g, 4, none⟩ (.string (strOfNums s.T))) g F vl (.slice a s.T.length cap) { s with t := ⟨s.t.k, s.t.ln, s.t.cl, strOfNums s.T⟩ } ∧ Turns F F w (w.setCell ⟨g, 4, none⟩ (.string (strOfNums s.T)))) := Lib.hid (by
    refine h.put ((BelowE.refl [g] w.heap.size w).setIn (p := ⟨g, 4, none⟩) (by simp) _) rfl rfl ?_
    have := h.h.set 4 (.string (strOfNums s.T))
    simpa using this)
  have hLL := Lib.hid hL
  have hdn : Hid (∀ w' F', SkE w' g F' { s with t := ⟨s.t.k, s.t.ln, s.t.cl, strOfNums s.T⟩, L := s.L ++ [⟨s.t.k, s.t.ln, s.t.cl, strOfNums s.T⟩] } → Turns F F' w w' → Left s.done g F w (.returned (.tuple #[])) w') := Lib.hid (fun w' F' h1 h2 => ⟨rfl, F', h1, h2⟩)
  clear h hs hL
  generalize strOfNums s.T = tx at *
  generalize s.T.length = m at *
  go_enter Try.func35, Try.ntmps35
  go_wp2
  clear k4 k5 f4
  generalize w.setCell ⟨g, 4, none⟩ (.string tx) = V at *
  have hsz : V.heap.size ≤ V.drew.heap.size := Nat.le_refl _
  have hall : Sk V.drew g F vl (.slice a m cap) { s with t := ⟨s.t.k, s.t.ln, s.t.cl, tx⟩ } ∧ Turns F F w V.drew := ⟨sk_drew hfin.out.1, hfin.out.2.1.drew, hfin.out.2.2⟩
  clear hfin
  refine wp_drawn_on (fun W => W.cell? ⟨g, 1, none⟩ = some (.int .i64 s.t.k) ∧ W.cell? ⟨g, 2, none⟩ = some (.int .i64 s.t.ln) ∧ W.cell? ⟨g, 3, none⟩ = some (.int .i64 s.t.cl) ∧ W.cell? ⟨g, 4, none⟩ = some (.string tx)) (by kernel_rfl) (⟨hall.1.h.cell 1, hall.1.h.cell 2, hall.1.h.cell 3, hall.1.h.cell 4⟩) (fun hHeld => ?_)
  generalize V.drew = wd at hsz hall hHeld ⊢
  refine wpAnyH_take (i := 0) (oi := { dst := some 11, op := Go.Op.move (Go.Operand.tmp 0), type := 40, pos := "lex.go:72", after := #[], guard := none }) (v := ?v14) rfl (by kernel_rfl) (by kernel_rfl) (by kernel_rfl) (fun _ _ _ h => h) (Or.inl ⟨by kernel_rfl, ?h14⟩) (by assumption) ?r14
  case h14 => (intro w hSw; (try dsimp only at hSw); go_simp; try with_reducible rfl)
  try simp only [Act.put, List.setIfInBounds_toArray, List.set_cons_zero, List.set_cons_succ]
  refine wpAnyH_take (i := 1) (oi := { dst := some 12, op := Go.Op.move (Go.Operand.tmp 0), type := 40, pos := "lex.go:72", after := #[], guard := none }) (v := ?v15) rfl (by kernel_rfl) (by kernel_rfl) (by kernel_rfl) (fun _ _ _ h => h) (Or.inl ⟨by kernel_rfl, ?h15⟩) (by assumption) ?r15
  case h15 => (intro w hSw; (try dsimp only at hSw); go_simp; try with_reducible rfl)
  try simp only [Act.put, List.setIfInBounds_toArray, List.set_cons_zero, List.set_cons_succ]
  refine wpAnyH_take (i := 2) (oi := { dst := some 13, op := Go.Op.nilCheck (Go.Operand.tmp 12), type := 0, pos := "lex.go:72", after := #[{ on := 1, ground := Go.Ground.data }], guard := none }) (v := ?v16) rfl (by kernel_rfl) (by kernel_rfl) (by kernel_rfl) (fun _ _ _ h => h) (Or.inl ⟨by kernel_rfl, ?h16⟩) (by assumption) ?r16
  case h16 => (intro w hSw; (try dsimp only at hSw); go_simp; try with_reducible rfl)
  try simp only [Act.put, List.setIfInBounds_toArray, List.set_cons_zero, List.set_cons_succ]
  refine wpAnyH_take (i := 3) (oi := { dst := some 14, op := Go.Op.fieldAddr 42 (Go.Operand.tmp 13) 0, type := 0, pos := "lex.go:72", after := #[{ on := 2, ground := Go.Ground.data }], guard := none }) (v := ?v17) rfl (by kernel_rfl) (by kernel_rfl) (by kernel_rfl) (fun _ _ _ h => h) (Or.inl ⟨by kernel_rfl, ?h17⟩) (by assumption) ?r17
  case h17 => (intro w hSw; (try dsimp only at hSw); go_simp; try with_reducible rfl)
  try simp only [Act.put, List.setIfInBounds_toArray, List.set_cons_zero, List.set_cons_succ]
  refine wpAnyH_take (i := 5) (oi := { dst := some 16, op := Go.Op.move (Go.Operand.tmp 0), type := 40, pos := "lex.go:72", after := #[], guard := none }) (v := ?v18) rfl (by kernel_rfl) (by kernel_rfl) (by kernel_rfl) (fun _ _ _ h => h) (Or.inl ⟨by kernel_rfl, ?h18⟩) (by assumption) ?r18
  case h18 => (intro w hSw; (try dsimp only at hSw); go_simp; try with_reducible rfl)
  try simp only [Act.put, List.setIfInBounds_toArray, List.set_cons_zero, List.set_cons_succ]
  refine wpAnyH_take (i := 6) (oi := { dst := some 17, op := Go.Op.nilCheck (Go.Operand.tmp 16), type := 0, pos := "lex.go:72", after := #[{ on := 5, ground := Go.Ground.data }], guard := none }) (v := ?v19) rfl (by kernel_rfl) (by kernel_rfl) (by kernel_rfl) (fun _ _ _ h => h) (Or.inl ⟨by kernel_rfl, ?h19⟩) (by assumption) ?r19
  case h19 => (intro w hSw; (try dsimp only at hSw); go_simp; try with_reducible rfl)
  try simp only [Act.put, List.setIfInBounds_toArray, List.set_cons_zero, List.set_cons_succ]
  refine wpAnyH_take (i := 7) (oi := { dst := some 18, op := Go.Op.fieldAddr 42 (Go.Operand.tmp 17) 1, type := 0, pos := "lex.go:72", after := #[{ on := 6, ground := Go.Ground.data }], guard := none }) (v := ?v20) rfl (by kernel_rfl) (by kernel_rfl) (by kernel_rfl) (fun _ _ _ h => h) (Or.inl ⟨by kernel_rfl, ?h20⟩) (by assumption) ?r20
  case h20 => (intro w hSw; (try dsimp only at hSw); go_simp; try with_reducible rfl)
  try simp only [Act.put, List.setIfInBounds_toArray, List.set_cons_zero, List.set_cons_succ]
  refine wpAnyH_take (i := 8) (oi := { dst := some 19, op := Go.Op.load 36 (Go.Operand.tmp 18), type := 36, pos := "lex.go:72", after := #[{ on := 7, ground := Go.Ground.data }], guard := none }) (v := ?v21) rfl (by kernel_rfl) (by kernel_rfl) (by kernel_rfl) (fun _ _ _ h => h) (Or.inl ⟨by kernel_rfl, ?h21⟩) (by assumption) ?r21
  case h21 => (intro w hSw; (try dsimp only at hSw); go_simp; try with_reducible rfl)
  try simp only [Act.put, List.setIfInBounds_toArray, List.set_cons_zero, List.set_cons_succ]
  refine wpAnyH_ready (rs := [4, 9]) (by kernel_rfl) (by simp) ?_
  refine AllReadyH.cons (o := { dst := some 15, op := Go.Op.load 23 (Go.Operand.tmp 14), type := 23, pos := "lex.go:72", after := #[{ on := 3, ground := Go.Ground.data }], guard := none }) rfl (fun K hK => ?_) (AllReadyH.cons (o := { dst := some 20, op := Go.Op.buildSlice 23 1 #[(0, Go.Operand.tmp 19)], type := 23, pos := "lex.go:72", after := #[{ on := 8, ground := Go.Ground.data }], guard := none }) rfl (fun K hK => ?_) AllReadyH.nil)
  · first | have q0 := K9.h.cell 0 | have q0 := hall.1.h.cell 0
    go_simp
    clear q0
    refine hK.out _ _ (hHeld) (fun hHeld => ?_)
    clear hK K
    try simp only [Act.put, List.setIfInBounds_toArray, List.set_cons_zero, List.set_cons_succ]
    refine wpAnyH_ready (rs := [9]) (by kernel_rfl) (by simp) ?_
    refine AllReadyH.cons (o := { dst := some 20, op := Go.Op.buildSlice 23 1 #[(0, Go.Operand.tmp 19)], type := 23, pos := "lex.go:72", after := #[{ on := 8, ground := Go.Ground.data }], guard := none }) rfl (fun K hK => ?_) AllReadyH.nil
    go_simp
    have B9 := lit_below wd (.cells #[.int .i64 s.t.k, .int .i64 s.t.ln, .int .i64 s.t.cl, .string tx] 36)
    have K9 := hall.1.below B9
    have C9 := seesC_lit wd 36 #[.int .i64 s.t.k, .int .i64 s.t.ln, .int .i64 s.t.cl, .string tx]
    generalize wd.alloc (.cells #[.int .i64 s.t.k, .int .i64 s.t.ln, .int .i64 s.t.cl, .string tx] 36) = u9 at *
    refine hK.out _ _ (⟨K9.h.cell 1, K9.h.cell 2, K9.h.cell 3, K9.h.cell 4⟩) (fun hHeld => ?_)
    clear hK K
    try simp only [Act.put, List.setIfInBounds_toArray, List.set_cons_zero, List.set_cons_succ]
    refine wpAnyH_ready (rs := [10]) (by kernel_rfl) (by simp) ?_
    refine AllReadyH.cons (o := { dst := some 21, op := Go.Op.call { callee := Go.Callee.builtin Go.Builtin.append, args := #[Go.Operand.tmp 15, Go.Operand.tmp 20], argTypes := #[23, 23] }, type := 23, pos := "lex.go:72", after := #[{ on := 4, ground := Go.Ground.data }, { on := 9, ground := Go.Ground.data }], guard := none }) rfl (fun K hK => ?_) AllReadyH.nil
    refine wp_append_cells _ (.tmp 15) (.tmp 20) 23 rfl 36 i0 z0 4 40 Try.underlying23 hi hz h4 h40 hz4 (by omega) vl s.L.length (tcells s.L) K9.ol _ _ 1 1 [.int .i64 s.t.k, .int .i64 s.t.ln, .int .i64 s.t.cl, .string tx] rfl C9 (by intro u hu; simp at hu; rcases hu with rfl | rfl | rfl | rfl <;> rfl) (by simp) rfl rfl (by have := hLL.out; unfold maxLen; omega) (by have := hLL.out; omega) ?_
    intro v10 u10 o10 g10 b10
    obtain ⟨a10, c10, rfl, -, -, -⟩ := seesC_own o10
    have H10 : Holds u10 g 42 #[vl, .int .i64 s.t.k, .int .i64 s.t.ln, .int .i64 s.t.cl, .string tx, .slice a m cap, .int .i64 s.line, .int .i64 s.col, .bool s.op] := (g10.block g K9.h.lt (fun e => (K9.l_in g e.symm).2 rfl)).trans K9.h
    refine hK.out _ _ (⟨H10.cell 1, H10.cell 2, H10.cell 3, H10.cell 4⟩) (fun hHeld => ?_)
    clear hK K
    try simp only [Act.put, List.setIfInBounds_toArray, List.set_cons_zero, List.set_cons_succ]
    refine wpAnyH_take (i := 11) (oi := { dst := some 22, op := Go.Op.nilCheck (Go.Operand.tmp 11), type := 0, pos := "lex.go:72", after := #[{ on := 0, ground := Go.Ground.data }, { on := 0, ground := Go.Ground.phase }, { on := 1, ground := Go.Ground.phase }, { on := 2, ground := Go.Ground.phase }, { on := 3, ground := Go.Ground.phase }, { on := 4, ground := Go.Ground.phase }, { on := 5, ground := Go.Ground.phase }, { on := 6, ground := Go.Ground.phase }, { on := 7, ground := Go.Ground.phase }, { on := 8, ground := Go.Ground.phase }, { on := 9, ground := Go.Ground.phase }, { on := 10, ground := Go.Ground.phase }], guard := none }) (v := ?v22) rfl (by kernel_rfl) (by kernel_rfl) (by kernel_rfl) (fun _ _ _ h => h) (Or.inl ⟨by kernel_rfl, ?h22⟩) (by assumption) ?r22
    case h22 => (intro w hSw; (try dsimp only at hSw); go_simp; try with_reducible rfl)
    try simp only [Act.put, List.setIfInBounds_toArray, List.set_cons_zero, List.set_cons_succ]
    refine wpAnyH_take (i := 12) (oi := { dst := some 23, op := Go.Op.fieldAddr 42 (Go.Operand.tmp 22) 0, type := 0, pos := "lex.go:72", after := #[{ on := 11, ground := Go.Ground.data }, { on := 0, ground := Go.Ground.phase }, { on := 1, ground := Go.Ground.phase }, { on := 2, ground := Go.Ground.phase }, { on := 3, ground := Go.Ground.phase }, { on := 4, ground := Go.Ground.phase }, { on := 5, ground := Go.Ground.phase }, { on := 6, ground := Go.Ground.phase }, { on := 7, ground := Go.Ground.phase }, { on := 8, ground := Go.Ground.phase }, { on := 9, ground := Go.Ground.phase }, { on := 10, ground := Go.Ground.phase }], guard := none }) (v := ?v23) rfl (by kernel_rfl) (by kernel_rfl) (by kernel_rfl) (fun _ _ _ h => h) (Or.inl ⟨by kernel_rfl, ?h23⟩) (by assumption) ?r23
    case h23 => (intro w hSw; (try dsimp only at hSw); go_simp; try with_reducible rfl)
    try simp only [Act.put, List.setIfInBounds_toArray, List.set_cons_zero, List.set_cons_succ]
    refine wpAnyH_ready (rs := [13]) (by kernel_rfl) (by simp) ?_
    refine AllReadyH.cons (o := { dst := none, op := Go.Op.store 23 (Go.Operand.tmp 23) (Go.Operand.tmp 21), type := 0, pos := "lex.go:72", after := #[{ on := 12, ground := Go.Ground.data }, { on := 10, ground := Go.Ground.data }, { on := 10, ground := Go.Ground.chain }, { on := 0, ground := Go.Ground.phase }, { on := 1, ground := Go.Ground.phase }, { on := 2, ground := Go.Ground.phase }, { on := 3, ground := Go.Ground.phase }, { on := 4, ground := Go.Ground.phase }, { on := 5, ground := Go.Ground.phase }, { on := 6, ground := Go.Ground.phase }, { on := 7, ground := Go.Ground.phase }, { on := 8, ground := Go.Ground.phase }, { on := 9, ground := Go.Ground.phase }, { on := 10, ground := Go.Ground.phase }], guard := none }) rfl (fun K hK => ?_) AllReadyH.nil
    have H13 := H10.set 0 (.slice a10 (s.L.length + 1) c10)
    have q0 := H10.cell 0
    have q1 := H10.free 0
    go_simp
    clear q0 q1
    refine hK.out _ _ (⟨H13.cell 1, H13.cell 2, H13.cell 3, H13.cell 4⟩) (fun hHeld => ?_)
    clear hK K
    try simp only [Act.put, List.setIfInBounds_toArray, List.set_cons_zero, List.set_cons_succ]
    refine wpAnyH_done (by kernel_rfl) ?_ _
    have hb : BelowE [g] u10.heap.size u10 (u10.setCell ⟨g, 0, none⟩ (.slice a10 (s.L.length + 1) c10)) := (BelowE.refl _ _ _).setIn (p := ⟨g, 0, none⟩) (by simp) _
    obtain ⟨F', k1, k2⟩ := K9.list (s' := { s with t := ⟨s.t.k, s.t.ln, s.t.cl, tx⟩, L := s.L ++ [⟨s.t.k, s.t.ln, s.t.cl, tx⟩] }) g10 (by simpa [tcells_snoc, tcell] using o10) b10 hb rfl (by simpa using H13)
    have hq := Lib.hid (hdn.out _ F' ⟨_, _, k1⟩ (hall.2.trans (Turns.before B9 k2)))
    clear hdn k1 k2 hb H13 H10 o10 g10 b10 K9 C9 B9 hall hHeld hLL
    go_wp2
    go_end0
    exact hq.out
  · go_simp
    have B9 := lit_below wd (.cells #[.int .i64 s.t.k, .int .i64 s.t.ln, .int .i64 s.t.cl, .string tx] 36)
    have K9 := hall.1.below B9
    have C9 := seesC_lit wd 36 #[.int .i64 s.t.k, .int .i64 s.t.ln, .int .i64 s.t.cl, .string tx]
    generalize wd.alloc (.cells #[.int .i64 s.t.k, .int .i64 s.t.ln, .int .i64 s.t.cl, .string tx] 36) = u9 at *
    refine hK.out _ _ (⟨K9.h.cell 1, K9.h.cell 2, K9.h.cell 3, K9.h.cell 4⟩) (fun hHeld => ?_)
    clear hK K
    try simp only [Act.put, List.setIfInBounds_toArray, List.set_cons_zero, List.set_cons_succ]
    refine wpAnyH_ready (rs := [4]) (by kernel_rfl) (by simp) ?_
    refine AllReadyH.cons (o := { dst := some 15, op := Go.Op.load 23 (Go.Operand.tmp 14), type := 23, pos := "lex.go:72", after := #[{ on := 3, ground := Go.Ground.data }], guard := none }) rfl (fun K hK => ?_) AllReadyH.nil
    first | have q0 := K9.h.cell 0 | have q0 := hall.1.h.cell 0
    go_simp
    clear q0
    refine hK.out _ _ (hHeld) (fun hHeld => ?_)
    clear hK K
    try simp only [Act.put, List.setIfInBounds_toArray, List.set_cons_zero, List.set_cons_succ]
    refine wpAnyH_ready (rs := [10]) (by kernel_rfl) (by simp) ?_
    refine AllReadyH.cons (o := { dst := some 21, op := Go.Op.call { callee := Go.Callee.builtin Go.Builtin.append, args := #[Go.Operand.tmp 15, Go.Operand.tmp 20], argTypes := #[23, 23] }, type := 23, pos := "lex.go:72", after := #[{ on := 4, ground := Go.Ground.data }, { on := 9, ground := Go.Ground.data }], guard := none }) rfl (fun K hK => ?_) AllReadyH.nil
    refine wp_append_cells _ (.tmp 15) (.tmp 20) 23 rfl 36 i0 z0 4 40 Try.underlying23 hi hz h4 h40 hz4 (by omega) vl s.L.length (tcells s.L) K9.ol _ _ 1 1 [.int .i64 s.t.k, .int .i64 s.t.ln, .int .i64 s.t.cl, .string tx] rfl C9 (by intro u hu; simp at hu; rcases hu with rfl | rfl | rfl | rfl <;> rfl) (by simp) rfl rfl (by have := hLL.out; unfold maxLen; omega) (by have := hLL.out; omega) ?_
    intro v10 u10 o10 g10 b10
    obtain ⟨a10, c10, rfl, -, -, -⟩ := seesC_own o10
    have H10 : Holds u10 g 42 #[vl, .int .i64 s.t.k, .int .i64 s.t.ln, .int .i64 s.t.cl, .string tx, .slice a m cap, .int .i64 s.line, .int .i64 s.col, .bool s.op] := (g10.block g K9.h.lt (fun e => (K9.l_in g e.symm).2 rfl)).trans K9.h
    refine hK.out _ _ (⟨H10.cell 1, H10.cell 2, H10.cell 3, H10.cell 4⟩) (fun hHeld => ?_)
    clear hK K
    try simp only [Act.put, List.setIfInBounds_toArray, List.set_cons_zero, List.set_cons_succ]
    refine wpAnyH_take (i := 11) (oi := { dst := some 22, op := Go.Op.nilCheck (Go.Operand.tmp 11), type := 0, pos := "lex.go:72", after := #[{ on := 0, ground := Go.Ground.data }, { on := 0, ground := Go.Ground.phase }, { on := 1, ground := Go.Ground.phase }, { on := 2, ground := Go.Ground.phase }, { on := 3, ground := Go.Ground.phase }, { on := 4, ground := Go.Ground.phase }, { on := 5, ground := Go.Ground.phase }, { on := 6, ground := Go.Ground.phase }, { on := 7, ground := Go.Ground.phase }, { on := 8, ground := Go.Ground.phase }, { on := 9, ground := Go.Ground.phase }, { on := 10, ground := Go.Ground.phase }], guard := none }) (v := ?v24) rfl (by kernel_rfl) (by kernel_rfl) (by kernel_rfl) (fun _ _ _ h => h) (Or.inl ⟨by kernel_rfl, ?h24⟩) (by assumption) ?r24
    case h24 => (intro w hSw; (try dsimp only at hSw); go_simp; try with_reducible rfl)
    try simp only [Act.put, List.setIfInBounds_toArray, List.set_cons_zero, List.set_cons_succ]
    refine wpAnyH_take (i := 12) (oi := { dst := some 23, op := Go.Op.fieldAddr 42 (Go.Operand.tmp 22) 0, type := 0, pos := "lex.go:72", after := #[{ on := 11, ground := Go.Ground.data }, { on := 0, ground := Go.Ground.phase }, { on := 1, ground := Go.Ground.phase }, { on := 2, ground := Go.Ground.phase }, { on := 3, ground := Go.Ground.phase }, { on := 4, ground := Go.Ground.phase }, { on := 5, ground := Go.Ground.phase }, { on := 6, ground := Go.Ground.phase }, { on := 7, ground := Go.Ground.phase }, { on := 8, ground := Go.Ground.phase }, { on := 9, ground := Go.Ground.phase }, { on := 10, ground := Go.Ground.phase }], guard := none }) (v := ?v25) rfl (by kernel_rfl) (by kernel_rfl) (by kernel_rfl) (fun _ _ _ h => h) (Or.inl ⟨by kernel_rfl, ?h25⟩) (by assumption) ?r25
    case h25 => (intro w hSw; (try dsimp only at hSw); go_simp; try with_reducible rfl)
    try simp only [Act.put, List.setIfInBounds_toArray, List.set_cons_zero, List.set_cons_succ]
    refine wpAnyH_ready (rs := [13]) (by kernel_rfl) (by simp) ?_
    refine AllReadyH.cons (o := { dst := none, op := Go.Op.store 23 (Go.Operand.tmp 23) (Go.Operand.tmp 21), type := 0, pos := "lex.go:72", after := #[{ on := 12, ground := Go.Ground.data }, { on := 10, ground := Go.Ground.data }, { on := 10, ground := Go.Ground.chain }, { on := 0, ground := Go.Ground.phase }, { on := 1, ground := Go.Ground.phase }, { on := 2, ground := Go.Ground.phase }, { on := 3, ground := Go.Ground.phase }, { on := 4, ground := Go.Ground.phase }, { on := 5, ground := Go.Ground.phase }, { on := 6, ground := Go.Ground.phase }, { on := 7, ground := Go.Ground.phase }, { on := 8, ground := Go.Ground.phase }, { on := 9, ground := Go.Ground.phase }, { on := 10, ground := Go.Ground.phase }], guard := none }) rfl (fun K hK => ?_) AllReadyH.nil
    have H13 := H10.set 0 (.slice a10 (s.L.length + 1) c10)
    have q0 := H10.cell 0
    have q1 := H10.free 0
    go_simp
    clear q0 q1
    refine hK.out _ _ (⟨H13.cell 1, H13.cell 2, H13.cell 3, H13.cell 4⟩) (fun hHeld => ?_)
    clear hK K
    try simp only [Act.put, List.setIfInBounds_toArray, List.set_cons_zero, List.set_cons_succ]
    refine wpAnyH_done (by kernel_rfl) ?_ _
    have hb : BelowE [g] u10.heap.size u10 (u10.setCell ⟨g, 0, none⟩ (.slice a10 (s.L.length + 1) c10)) := (BelowE.refl _ _ _).setIn (p := ⟨g, 0, none⟩) (by simp) _
    obtain ⟨F', k1, k2⟩ := K9.list (s' := { s with t := ⟨s.t.k, s.t.ln, s.t.cl, tx⟩, L := s.L ++ [⟨s.t.k, s.t.ln, s.t.cl, tx⟩] }) g10 (by simpa [tcells_snoc, tcell] using o10) b10 hb rfl (by simpa using H13)
    have hq := Lib.hid (hdn.out _ F' ⟨_, _, k1⟩ (hall.2.trans (Turns.before B9 k2)))
    clear hdn k1 k2 hb H13 H10 o10 g10 b10 K9 C9 B9 hall hHeld hLL
    go_wp2
    go_end0
    exact hq.out
end Go.Proofs.Ytplgfghffeijcaa
