/-
  Words and walks under the law's proof.
-/
import Derived.Test.YtjdfjekonnkglaaDoorQB10
namespace Go.Proofs.YtjdfjekonnkglaaDoor
open Go.RowKit
set_option linter.unusedVariables false
set_option linter.unusedSimpArgs false
theorem sl_set2 {w : World} {a : Option Addr} {n c : Nat} {l : List Int} (h : SL w a n c l) (g : Nat) (u1 u2 : Value) (hne : ∀ p : Addr, a = some p → p.block ≠ g) : SL ((w.setCell ⟨g, 0, none⟩ u1).setCell ⟨g, 1, none⟩ u2) a n c l := by
  have hE : SeesE [g] .i64 w.heap.size w a l := by
    rcases h.sees with hh | ⟨b, off, rfl, h2, h3⟩
    · exact .inl hh
    · exact .inr ⟨b, off, rfl, h2, (fun hm => hne ⟨b, off, none⟩ rfl (by simpa using hm)), h3⟩
  have hb : BelowE [g] w.heap.size w ((w.setCell ⟨g, 0, none⟩ u1).setCell ⟨g, 1, none⟩ u2) := ((BelowE.refl _ _ _).setIn (p := ⟨g, 0, none⟩) (by simp) _).setIn (p := ⟨g, 1, none⟩) (by simp) _
  exact ⟨h.len, h.cap, h.max, ((hE.belowE hb).mono hb.size).sees⟩
set_option maxRecDepth 100000 in
set_option maxHeartbeats 4000000 in
theorem rstep_bad1 (pnm : ByteArray) (pa1 : Option Addr) (pn1 pc1 : Nat) (pa2 : Option Addr) (pn2 pc2 : Nat) (pa3 : Option Addr) (pn3 pc3 : Nat) (D : PD) (pt : Int) (a : Option Addr) (n c : Nat) (l : List Int) (e v : Int) (he : e < 0) (w : World) (h : PrA w ⟨pnm, pa1, pn1, pc1, pa2, pn2, pc2, pa3, pn3, pc3⟩ D) : Calls Tryd.prog 13 #[.agg #[.string pnm, .slice pa1 pn1 pc1, .slice pa2 pn2 pc2, .slice pa3 pn3 pc3], .agg #[.int .i64 pt, .slice a n c], .agg #[.int .i64 e, .int .i64 v]] w (StE 0 [] 1 w) := by
  obtain ⟨W1, hW1⟩ : ∃ W1, W1 = (((w.alloc (.cells #[.string pnm, .slice pa1 pn1 pc1, .slice pa2 pn2 pc2, .slice pa3 pn3 pc3] 26)).alloc (.cells #[.int .i64 pt, .slice a n c] 29)).alloc (.cells #[.int .i64 e, .int .i64 v] 31)).alloc (.cells #[.int .i64 0, .slice none 0 0] 29) := ⟨_, rfl⟩
  have BL : Hid (Below w.heap.size w W1) := Lib.hid (by rw [hW1]; exact ((((Below.refl _ _).alloc (Nat.le_refl _) _).alloc (by simp) _).alloc (by simp; omega) _).alloc (by simp; omega) _)
  have Z0 : Hid (Holds W1 w.heap.size 26 #[.string pnm, .slice pa1 pn1 pc1, .slice pa2 pn2 pc2, .slice pa3 pn3 pc3]) := Lib.hid (by rw [hW1]; exact (((Holds.new w _ _).alloc _).alloc _).alloc _)
  have Z1 : Hid (Holds W1 (w.heap.size + 1) 29 #[.int .i64 pt, .slice a n c]) := Lib.hid (by rw [hW1]; have q := ((Holds.new (w.alloc (.cells #[.string pnm, .slice pa1 pn1 pc1, .slice pa2 pn2 pc2, .slice pa3 pn3 pc3] 26)) 29 #[.int .i64 pt, .slice a n c]).alloc (.cells #[.int .i64 e, .int .i64 v] 31)).alloc (.cells #[.int .i64 0, .slice none 0 0] 29); simpa using q)
  have Z2 : Hid (Holds W1 (w.heap.size + 2) 31 #[.int .i64 e, .int .i64 v]) := Lib.hid (by rw [hW1]; have q := (Holds.new ((w.alloc (.cells #[.string pnm, .slice pa1 pn1 pc1, .slice pa2 pn2 pc2, .slice pa3 pn3 pc3] 26)).alloc (.cells #[.int .i64 pt, .slice a n c] 29)) 31 #[.int .i64 e, .int .i64 v]).alloc (.cells #[.int .i64 0, .slice none 0 0] 29); simpa using q)
  have Z3 : Hid (Holds W1 (w.heap.size + 3) 29 #[.int .i64 0, .slice none 0 0]) := Lib.hid (by rw [hW1]; have q := Holds.new (((w.alloc (.cells #[.string pnm, .slice pa1 pn1 pc1, .slice pa2 pn2 pc2, .slice pa3 pn3 pc3] 26)).alloc (.cells #[.int .i64 pt, .slice a n c] 29)).alloc (.cells #[.int .i64 e, .int .i64 v] 31)) 29 #[.int .i64 0, .slice none 0 0]; simpa using q)
  have hW1' := Lib.hid hW1
  clear hW1
  have d1 : decide (e < 0) = true := decide_eq_true he
  have f0 : ∀ W, Below W1.heap.size W1 W → W.cell? ⟨w.heap.size + 2, 0, none⟩ = some (.int .i64 e) := fun W hW => (Z2.out.below hW Z2.out.lt).cell 0
  have f1 : ∀ W, Below W1.heap.size W1 W → W.cell? ⟨w.heap.size, 3, none⟩ = some (.slice pa3 pn3 pc3) := fun W hW => (Z0.out.below hW Z0.out.lt).cell 3
  have f2 : ∀ W, Below W1.heap.size W1 W → W.cell? ⟨w.heap.size + 1, 0, none⟩ = some (.int .i64 pt) := fun W hW => (Z1.out.below hW Z1.out.lt).cell 0
  clear h
  go_enter Tryd.func13, Tryd.ntmps13
  go_wp2
  rw [← hW1'.out]
  clear hW1'
  refine wp_drawn_on (fun W => Below W1.heap.size W1 W) (by kernel_rfl) ((Below.refl _ _).drew) (fun hHeld => ?_)
  refine wpAnyH_take (i := 0) (oi := { dst := some 11, op := Go.Op.fieldAddr 31 (Go.Operand.tmp 5) 0, type := 0, pos := "ref.go:67", after := #[], guard := none }) (v := ?v1) rfl (by kernel_rfl) (by kernel_rfl) (by kernel_rfl) (fun _ _ _ h => h) (Or.inl ⟨by kernel_rfl, ?h1⟩) (by assumption) ?r1
  case h1 => (intro w hSw; (try dsimp only at hSw); go_simp; try with_reducible rfl)
  try simp only [Act.put, List.setIfInBounds_toArray, List.set_cons_zero, List.set_cons_succ]
  refine wpAnyH_take (i := 1) (oi := { dst := some 12, op := Go.Op.load 3 (Go.Operand.tmp 11), type := 3, pos := "ref.go:67", after := #[{ on := 0, ground := Go.Ground.data }], guard := none }) (v := ?v2) rfl (by kernel_rfl) (by kernel_rfl) (by kernel_rfl) (fun _ _ _ h => h) (Or.inl ⟨by kernel_rfl, ?h2⟩) (by assumption) ?r2
  case h2 => (intro w hSw; (try dsimp only at hSw); go_simp; try with_reducible rfl)
  try simp only [Act.put, List.setIfInBounds_toArray, List.set_cons_zero, List.set_cons_succ]
  refine wpAnyH_take (i := 2) (oi := { dst := some 13, op := Go.Op.binOp Go.BinOp.lss 3 (Go.Operand.tmp 12) (Go.Operand.const (Go.Value.int Go.IntKind.i64 0)) 3, type := 4, pos := "ref.go:67", after := #[{ on := 1, ground := Go.Ground.data }], guard := none }) (v := ?v3) rfl (by kernel_rfl) (by kernel_rfl) (by kernel_rfl) (fun _ _ _ h => h) (Or.inl ⟨by kernel_rfl, ?h3⟩) (by assumption) ?r3
  case h3 => (intro w hSw; (try dsimp only at hSw); go_simp; try with_reducible rfl)
  try simp only [Act.put, List.setIfInBounds_toArray, List.set_cons_zero, List.set_cons_succ]
  refine wpAnyH_take (i := 3) (oi := { dst := some 14, op := Go.Op.move (Go.Operand.tmp 13), type := 4, pos := "ref.go:67", after := #[{ on := 2, ground := Go.Ground.data }], guard := none }) (v := ?v4) rfl (by kernel_rfl) (by kernel_rfl) (by kernel_rfl) (fun _ _ _ h => h) (Or.inl ⟨by kernel_rfl, ?h4⟩) (by assumption) ?r4
  case h4 => (intro w hSw; (try dsimp only at hSw); go_simp; try with_reducible rfl)
  try simp only [Act.put, List.setIfInBounds_toArray, List.set_cons_zero, List.set_cons_succ]
  refine wpAnyH_take (i := 4) (oi := { dst := some 15, op := Go.Op.fieldAddr 31 (Go.Operand.tmp 5) 0, type := 0, pos := "ref.go:67", after := #[{ on := 3, ground := Go.Ground.guard }], guard := some (3, false) }) (v := undef) rfl (by kernel_rfl) (by kernel_rfl) (by kernel_rfl) (fun _ _ _ h => h) (Or.inr ⟨by kernel_rfl, rfl⟩) (by assumption) ?_
  try simp only [Act.put, List.setIfInBounds_toArray, List.set_cons_zero, List.set_cons_succ]
  refine wpAnyH_take (i := 5) (oi := { dst := some 16, op := Go.Op.load 3 (Go.Operand.tmp 15), type := 3, pos := "ref.go:67", after := #[{ on := 4, ground := Go.Ground.data }, { on := 3, ground := Go.Ground.guard }], guard := some (3, false) }) (v := undef) rfl (by kernel_rfl) (by kernel_rfl) (by kernel_rfl) (fun _ _ _ h => h) (Or.inr ⟨by kernel_rfl, rfl⟩) (by assumption) ?_
  try simp only [Act.put, List.setIfInBounds_toArray, List.set_cons_zero, List.set_cons_succ]
  refine wpAnyH_take (i := 6) (oi := { dst := some 17, op := Go.Op.fieldAddr 26 (Go.Operand.tmp 3) 3, type := 0, pos := "ref.go:67", after := #[{ on := 3, ground := Go.Ground.guard }], guard := some (3, false) }) (v := undef) rfl (by kernel_rfl) (by kernel_rfl) (by kernel_rfl) (fun _ _ _ h => h) (Or.inr ⟨by kernel_rfl, rfl⟩) (by assumption) ?_
  try simp only [Act.put, List.setIfInBounds_toArray, List.set_cons_zero, List.set_cons_succ]
  refine wpAnyH_take (i := 7) (oi := { dst := some 18, op := Go.Op.load 24 (Go.Operand.tmp 17), type := 24, pos := "ref.go:67", after := #[{ on := 6, ground := Go.Ground.data }, { on := 3, ground := Go.Ground.guard }], guard := some (3, false) }) (v := undef) rfl (by kernel_rfl) (by kernel_rfl) (by kernel_rfl) (fun _ _ _ h => h) (Or.inr ⟨by kernel_rfl, rfl⟩) (by assumption) ?_
  try simp only [Act.put, List.setIfInBounds_toArray, List.set_cons_zero, List.set_cons_succ]
  refine wpAnyH_take (i := 8) (oi := { dst := some 19, op := Go.Op.call { callee := Go.Callee.builtin Go.Builtin.len, args := #[Go.Operand.tmp 18], argTypes := #[24] }, type := 3, pos := "ref.go:67", after := #[{ on := 7, ground := Go.Ground.data }, { on := 3, ground := Go.Ground.guard }], guard := some (3, false) }) (v := undef) rfl (by kernel_rfl) (by kernel_rfl) (by kernel_rfl) (fun _ _ _ h => h) (Or.inr ⟨by kernel_rfl, rfl⟩) (by assumption) ?_
  try simp only [Act.put, List.setIfInBounds_toArray, List.set_cons_zero, List.set_cons_succ]
  refine wpAnyH_take (i := 9) (oi := { dst := some 20, op := Go.Op.binOp Go.BinOp.geq 3 (Go.Operand.tmp 16) (Go.Operand.tmp 19) 3, type := 4, pos := "ref.go:67", after := #[{ on := 5, ground := Go.Ground.data }, { on := 8, ground := Go.Ground.data }, { on := 3, ground := Go.Ground.guard }], guard := some (3, false) }) (v := undef) rfl (by kernel_rfl) (by kernel_rfl) (by kernel_rfl) (fun _ _ _ h => h) (Or.inr ⟨by kernel_rfl, rfl⟩) (by assumption) ?_
  try simp only [Act.put, List.setIfInBounds_toArray, List.set_cons_zero, List.set_cons_succ]
  refine wpAnyH_take (i := 10) (oi := { dst := some 21, op := Go.Op.pick (Go.Operand.tmp 14) (Go.Operand.const (Go.Value.bool true)) (Go.Operand.tmp 20), type := 4, pos := "ref.go:67", after := #[{ on := 3, ground := Go.Ground.data }, { on := 9, ground := Go.Ground.data }], guard := none }) (v := ?v11) rfl (by kernel_rfl) (by kernel_rfl) (by kernel_rfl) (fun _ _ _ h => h) (Or.inl ⟨by kernel_rfl, ?h11⟩) (by assumption) ?r11
  case h11 => (intro w hSw; (try dsimp only at hSw); go_simp; try with_reducible rfl)
  try simp only [Act.put, List.setIfInBounds_toArray, List.set_cons_zero, List.set_cons_succ]
  refine wpAnyH_take (i := 11) (oi := { dst := some 22, op := Go.Op.move (Go.Operand.tmp 21), type := 4, pos := "ref.go:67", after := #[{ on := 10, ground := Go.Ground.data }, { on := 3, ground := Go.Ground.chain }], guard := none }) (v := ?v12) rfl (by kernel_rfl) (by kernel_rfl) (by kernel_rfl) (fun _ _ _ h => h) (Or.inl ⟨by kernel_rfl, ?h12⟩) (by assumption) ?r12
  case h12 => (intro w hSw; (try dsimp only at hSw); go_simp; try with_reducible rfl)
  try simp only [Act.put, List.setIfInBounds_toArray, List.set_cons_zero, List.set_cons_succ]
  refine wpAnyH_take (i := 12) (oi := { dst := some 23, op := Go.Op.fieldAddr 26 (Go.Operand.tmp 3) 3, type := 0, pos := "ref.go:67", after := #[{ on := 11, ground := Go.Ground.guard }], guard := some (11, false) }) (v := undef) rfl (by kernel_rfl) (by kernel_rfl) (by kernel_rfl) (fun _ _ _ h => h) (Or.inr ⟨by kernel_rfl, rfl⟩) (by assumption) ?_
  try simp only [Act.put, List.setIfInBounds_toArray, List.set_cons_zero, List.set_cons_succ]
  refine wpAnyH_take (i := 13) (oi := { dst := some 24, op := Go.Op.load 24 (Go.Operand.tmp 23), type := 24, pos := "ref.go:67", after := #[{ on := 12, ground := Go.Ground.data }, { on := 11, ground := Go.Ground.guard }], guard := some (11, false) }) (v := undef) rfl (by kernel_rfl) (by kernel_rfl) (by kernel_rfl) (fun _ _ _ h => h) (Or.inr ⟨by kernel_rfl, rfl⟩) (by assumption) ?_
  try simp only [Act.put, List.setIfInBounds_toArray, List.set_cons_zero, List.set_cons_succ]
  refine wpAnyH_take (i := 14) (oi := { dst := some 25, op := Go.Op.fieldAddr 31 (Go.Operand.tmp 5) 0, type := 0, pos := "ref.go:67", after := #[{ on := 11, ground := Go.Ground.guard }], guard := some (11, false) }) (v := undef) rfl (by kernel_rfl) (by kernel_rfl) (by kernel_rfl) (fun _ _ _ h => h) (Or.inr ⟨by kernel_rfl, rfl⟩) (by assumption) ?_
  try simp only [Act.put, List.setIfInBounds_toArray, List.set_cons_zero, List.set_cons_succ]
  refine wpAnyH_take (i := 15) (oi := { dst := some 26, op := Go.Op.load 3 (Go.Operand.tmp 25), type := 3, pos := "ref.go:67", after := #[{ on := 14, ground := Go.Ground.data }, { on := 11, ground := Go.Ground.guard }], guard := some (11, false) }) (v := undef) rfl (by kernel_rfl) (by kernel_rfl) (by kernel_rfl) (fun _ _ _ h => h) (Or.inr ⟨by kernel_rfl, rfl⟩) (by assumption) ?_
  try simp only [Act.put, List.setIfInBounds_toArray, List.set_cons_zero, List.set_cons_succ]
  refine wpAnyH_take (i := 16) (oi := { dst := some 27, op := Go.Op.indexAddr 24 (Go.Operand.tmp 24) (Go.Operand.tmp 26), type := 0, pos := "ref.go:67", after := #[{ on := 13, ground := Go.Ground.data }, { on := 15, ground := Go.Ground.data }, { on := 11, ground := Go.Ground.guard }], guard := some (11, false) }) (v := undef) rfl (by kernel_rfl) (by kernel_rfl) (by kernel_rfl) (fun _ _ _ h => h) (Or.inr ⟨by kernel_rfl, rfl⟩) (by assumption) ?_
  try simp only [Act.put, List.setIfInBounds_toArray, List.set_cons_zero, List.set_cons_succ]
  refine wpAnyH_take (i := 17) (oi := { dst := some 28, op := Go.Op.fieldAddr 56 (Go.Operand.tmp 27) 0, type := 0, pos := "ref.go:67", after := #[{ on := 16, ground := Go.Ground.data }, { on := 11, ground := Go.Ground.guard }], guard := some (11, false) }) (v := undef) rfl (by kernel_rfl) (by kernel_rfl) (by kernel_rfl) (fun _ _ _ h => h) (Or.inr ⟨by kernel_rfl, rfl⟩) (by assumption) ?_
  try simp only [Act.put, List.setIfInBounds_toArray, List.set_cons_zero, List.set_cons_succ]
  refine wpAnyH_take (i := 18) (oi := { dst := some 29, op := Go.Op.load 3 (Go.Operand.tmp 28), type := 3, pos := "ref.go:67", after := #[{ on := 17, ground := Go.Ground.data }, { on := 11, ground := Go.Ground.guard }], guard := some (11, false) }) (v := undef) rfl (by kernel_rfl) (by kernel_rfl) (by kernel_rfl) (fun _ _ _ h => h) (Or.inr ⟨by kernel_rfl, rfl⟩) (by assumption) ?_
  try simp only [Act.put, List.setIfInBounds_toArray, List.set_cons_zero, List.set_cons_succ]
  refine wpAnyH_take (i := 19) (oi := { dst := some 30, op := Go.Op.fieldAddr 29 (Go.Operand.tmp 4) 0, type := 0, pos := "ref.go:67", after := #[{ on := 11, ground := Go.Ground.guard }], guard := some (11, false) }) (v := undef) rfl (by kernel_rfl) (by kernel_rfl) (by kernel_rfl) (fun _ _ _ h => h) (Or.inr ⟨by kernel_rfl, rfl⟩) (by assumption) ?_
  try simp only [Act.put, List.setIfInBounds_toArray, List.set_cons_zero, List.set_cons_succ]
  refine wpAnyH_take (i := 20) (oi := { dst := some 31, op := Go.Op.load 3 (Go.Operand.tmp 30), type := 3, pos := "ref.go:67", after := #[{ on := 19, ground := Go.Ground.data }, { on := 11, ground := Go.Ground.guard }], guard := some (11, false) }) (v := undef) rfl (by kernel_rfl) (by kernel_rfl) (by kernel_rfl) (fun _ _ _ h => h) (Or.inr ⟨by kernel_rfl, rfl⟩) (by assumption) ?_
  try simp only [Act.put, List.setIfInBounds_toArray, List.set_cons_zero, List.set_cons_succ]
  refine wpAnyH_take (i := 21) (oi := { dst := some 32, op := Go.Op.binOp Go.BinOp.neq 3 (Go.Operand.tmp 29) (Go.Operand.tmp 31) 3, type := 4, pos := "ref.go:67", after := #[{ on := 18, ground := Go.Ground.data }, { on := 20, ground := Go.Ground.data }, { on := 11, ground := Go.Ground.guard }], guard := some (11, false) }) (v := undef) rfl (by kernel_rfl) (by kernel_rfl) (by kernel_rfl) (fun _ _ _ h => h) (Or.inr ⟨by kernel_rfl, rfl⟩) (by assumption) ?_
  try simp only [Act.put, List.setIfInBounds_toArray, List.set_cons_zero, List.set_cons_succ]
  refine wpAnyH_take (i := 22) (oi := { dst := some 33, op := Go.Op.pick (Go.Operand.tmp 22) (Go.Operand.const (Go.Value.bool true)) (Go.Operand.tmp 32), type := 4, pos := "ref.go:67", after := #[{ on := 11, ground := Go.Ground.data }, { on := 21, ground := Go.Ground.data }], guard := none }) (v := ?v23) rfl (by kernel_rfl) (by kernel_rfl) (by kernel_rfl) (fun _ _ _ h => h) (Or.inl ⟨by kernel_rfl, ?h23⟩) (by assumption) ?r23
  case h23 => (intro w hSw; (try dsimp only at hSw); go_simp; try with_reducible rfl)
  try simp only [Act.put, List.setIfInBounds_toArray, List.set_cons_zero, List.set_cons_succ]
  refine wpAnyH_done (by kernel_rfl) ?_ _
  obtain ⟨X2, hX2⟩ : ∃ X2, X2 = W1.drew := ⟨_, rfl⟩
  rw [← hX2] at hHeld ⊢
  replace Z3 := Lib.hid (Z3.out.below hHeld Z3.out.lt)
  replace BL := Lib.hid (BL.out.trans (hHeld.mono BL.out.size))
  clear hX2 hHeld f0 f1 f2
  have k0 := Z3.out.cell 0
  have k1 := Z3.out.cell 1
  have j0 := Z3.out.free 0
  have j1 := Z3.out.free 1
  simp at k0 k1
  go_wp2
  exact state_ret2 (state_set Z3.out _ _) ⟨none, 0, 0, rfl, SL.nil _, belT BL.out (by omega) _ _, fun p hp => by cases hp⟩ _ _ 6 7 rfl rfl rfl rfl
set_option maxRecDepth 100000 in
set_option maxHeartbeats 4000000 in
theorem rstep_bad2 (pnm : ByteArray) (pa1 : Option Addr) (pn1 pc1 : Nat) (pa2 : Option Addr) (pn2 pc2 : Nat) (pa3 : Option Addr) (pn3 pc3 : Nat) (D : PD) (pt : Int) (a : Option Addr) (n c : Nat) (l : List Int) (E : Nat) (v : Int) (he : pn3 ≤ E) (w : World) (h : PrA w ⟨pnm, pa1, pn1, pc1, pa2, pn2, pc2, pa3, pn3, pc3⟩ D) : Calls Tryd.prog 13 #[.agg #[.string pnm, .slice pa1 pn1 pc1, .slice pa2 pn2 pc2, .slice pa3 pn3 pc3], .agg #[.int .i64 pt, .slice a n c], .agg #[.int .i64 (E : Int), .int .i64 v]] w (StE 0 [] 1 w) := by
  obtain ⟨W1, hW1⟩ : ∃ W1, W1 = (((w.alloc (.cells #[.string pnm, .slice pa1 pn1 pc1, .slice pa2 pn2 pc2, .slice pa3 pn3 pc3] 26)).alloc (.cells #[.int .i64 pt, .slice a n c] 29)).alloc (.cells #[.int .i64 (E : Int), .int .i64 v] 31)).alloc (.cells #[.int .i64 0, .slice none 0 0] 29) := ⟨_, rfl⟩
  have BL : Hid (Below w.heap.size w W1) := Lib.hid (by rw [hW1]; exact ((((Below.refl _ _).alloc (Nat.le_refl _) _).alloc (by simp) _).alloc (by simp; omega) _).alloc (by simp; omega) _)
  have Z0 : Hid (Holds W1 w.heap.size 26 #[.string pnm, .slice pa1 pn1 pc1, .slice pa2 pn2 pc2, .slice pa3 pn3 pc3]) := Lib.hid (by rw [hW1]; exact (((Holds.new w _ _).alloc _).alloc _).alloc _)
  have Z1 : Hid (Holds W1 (w.heap.size + 1) 29 #[.int .i64 pt, .slice a n c]) := Lib.hid (by rw [hW1]; have q := ((Holds.new (w.alloc (.cells #[.string pnm, .slice pa1 pn1 pc1, .slice pa2 pn2 pc2, .slice pa3 pn3 pc3] 26)) 29 #[.int .i64 pt, .slice a n c]).alloc (.cells #[.int .i64 (E : Int), .int .i64 v] 31)).alloc (.cells #[.int .i64 0, .slice none 0 0] 29); simpa using q)
  have Z2 : Hid (Holds W1 (w.heap.size + 2) 31 #[.int .i64 (E : Int), .int .i64 v]) := Lib.hid (by rw [hW1]; have q := (Holds.new ((w.alloc (.cells #[.string pnm, .slice pa1 pn1 pc1, .slice pa2 pn2 pc2, .slice pa3 pn3 pc3] 26)).alloc (.cells #[.int .i64 pt, .slice a n c] 29)) 31 #[.int .i64 (E : Int), .int .i64 v]).alloc (.cells #[.int .i64 0, .slice none 0 0] 29); simpa using q)
  have Z3 : Hid (Holds W1 (w.heap.size + 3) 29 #[.int .i64 0, .slice none 0 0]) := Lib.hid (by rw [hW1]; have q := Holds.new (((w.alloc (.cells #[.string pnm, .slice pa1 pn1 pc1, .slice pa2 pn2 pc2, .slice pa3 pn3 pc3] 26)).alloc (.cells #[.int .i64 pt, .slice a n c] 29)).alloc (.cells #[.int .i64 (E : Int), .int .i64 v] 31)) 29 #[.int .i64 0, .slice none 0 0]; simpa using q)
  have hW1' := Lib.hid hW1
  clear hW1
  have d1 : ¬ (E : Int) < 0 := by omega
  have d2 : (pn3 : Int) ≤ (E : Int) := by omega
  have f0 : ∀ W, Below W1.heap.size W1 W → W.cell? ⟨w.heap.size + 2, 0, none⟩ = some (.int .i64 (E : Int)) := fun W hW => (Z2.out.below hW Z2.out.lt).cell 0
  have f1 : ∀ W, Below W1.heap.size W1 W → W.cell? ⟨w.heap.size, 3, none⟩ = some (.slice pa3 pn3 pc3) := fun W hW => (Z0.out.below hW Z0.out.lt).cell 3
  have f2 : ∀ W, Below W1.heap.size W1 W → W.cell? ⟨w.heap.size + 1, 0, none⟩ = some (.int .i64 pt) := fun W hW => (Z1.out.below hW Z1.out.lt).cell 0
  clear h
  go_enter Tryd.func13, Tryd.ntmps13
  go_wp2
  rw [← hW1'.out]
  clear hW1'
  refine wp_drawn_on (fun W => Below W1.heap.size W1 W) (by kernel_rfl) ((Below.refl _ _).drew) (fun hHeld => ?_)
  refine wpAnyH_take (i := 0) (oi := { dst := some 11, op := Go.Op.fieldAddr 31 (Go.Operand.tmp 5) 0, type := 0, pos := "ref.go:67", after := #[], guard := none }) (v := ?v24) rfl (by kernel_rfl) (by kernel_rfl) (by kernel_rfl) (fun _ _ _ h => h) (Or.inl ⟨by kernel_rfl, ?h24⟩) (by assumption) ?r24
  case h24 => (intro w hSw; (try dsimp only at hSw); go_simp; try with_reducible rfl)
  try simp only [Act.put, List.setIfInBounds_toArray, List.set_cons_zero, List.set_cons_succ]
  refine wpAnyH_take (i := 1) (oi := { dst := some 12, op := Go.Op.load 3 (Go.Operand.tmp 11), type := 3, pos := "ref.go:67", after := #[{ on := 0, ground := Go.Ground.data }], guard := none }) (v := ?v25) rfl (by kernel_rfl) (by kernel_rfl) (by kernel_rfl) (fun _ _ _ h => h) (Or.inl ⟨by kernel_rfl, ?h25⟩) (by assumption) ?r25
  case h25 => (intro w hSw; (try dsimp only at hSw); go_simp; try with_reducible rfl)
  try simp only [Act.put, List.setIfInBounds_toArray, List.set_cons_zero, List.set_cons_succ]
  refine wpAnyH_take (i := 2) (oi := { dst := some 13, op := Go.Op.binOp Go.BinOp.lss 3 (Go.Operand.tmp 12) (Go.Operand.const (Go.Value.int Go.IntKind.i64 0)) 3, type := 4, pos := "ref.go:67", after := #[{ on := 1, ground := Go.Ground.data }], guard := none }) (v := ?v26) rfl (by kernel_rfl) (by kernel_rfl) (by kernel_rfl) (fun _ _ _ h => h) (Or.inl ⟨by kernel_rfl, ?h26⟩) (by assumption) ?r26
  case h26 => (intro w hSw; (try dsimp only at hSw); go_simp; try with_reducible rfl)
  try simp only [Act.put, List.setIfInBounds_toArray, List.set_cons_zero, List.set_cons_succ]
  refine wpAnyH_take (i := 3) (oi := { dst := some 14, op := Go.Op.move (Go.Operand.tmp 13), type := 4, pos := "ref.go:67", after := #[{ on := 2, ground := Go.Ground.data }], guard := none }) (v := ?v27) rfl (by kernel_rfl) (by kernel_rfl) (by kernel_rfl) (fun _ _ _ h => h) (Or.inl ⟨by kernel_rfl, ?h27⟩) (by assumption) ?r27
  case h27 => (intro w hSw; (try dsimp only at hSw); go_simp; try with_reducible rfl)
  try simp only [Act.put, List.setIfInBounds_toArray, List.set_cons_zero, List.set_cons_succ]
  refine wpAnyH_take (i := 4) (oi := { dst := some 15, op := Go.Op.fieldAddr 31 (Go.Operand.tmp 5) 0, type := 0, pos := "ref.go:67", after := #[{ on := 3, ground := Go.Ground.guard }], guard := some (3, false) }) (v := ?v28) rfl (by kernel_rfl) (by kernel_rfl) (by kernel_rfl) (fun _ _ _ h => h) (Or.inl ⟨by kernel_rfl, ?h28⟩) (by assumption) ?r28
  case h28 => (intro w hSw; (try dsimp only at hSw); go_simp; try with_reducible rfl)
  try simp only [Act.put, List.setIfInBounds_toArray, List.set_cons_zero, List.set_cons_succ]
  refine wpAnyH_take (i := 5) (oi := { dst := some 16, op := Go.Op.load 3 (Go.Operand.tmp 15), type := 3, pos := "ref.go:67", after := #[{ on := 4, ground := Go.Ground.data }, { on := 3, ground := Go.Ground.guard }], guard := some (3, false) }) (v := ?v29) rfl (by kernel_rfl) (by kernel_rfl) (by kernel_rfl) (fun _ _ _ h => h) (Or.inl ⟨by kernel_rfl, ?h29⟩) (by assumption) ?r29
  case h29 => (intro w hSw; (try dsimp only at hSw); go_simp; try with_reducible rfl)
  try simp only [Act.put, List.setIfInBounds_toArray, List.set_cons_zero, List.set_cons_succ]
  refine wpAnyH_take (i := 6) (oi := { dst := some 17, op := Go.Op.fieldAddr 26 (Go.Operand.tmp 3) 3, type := 0, pos := "ref.go:67", after := #[{ on := 3, ground := Go.Ground.guard }], guard := some (3, false) }) (v := ?v30) rfl (by kernel_rfl) (by kernel_rfl) (by kernel_rfl) (fun _ _ _ h => h) (Or.inl ⟨by kernel_rfl, ?h30⟩) (by assumption) ?r30
  case h30 => (intro w hSw; (try dsimp only at hSw); go_simp; try with_reducible rfl)
  try simp only [Act.put, List.setIfInBounds_toArray, List.set_cons_zero, List.set_cons_succ]
  refine wpAnyH_take (i := 7) (oi := { dst := some 18, op := Go.Op.load 24 (Go.Operand.tmp 17), type := 24, pos := "ref.go:67", after := #[{ on := 6, ground := Go.Ground.data }, { on := 3, ground := Go.Ground.guard }], guard := some (3, false) }) (v := ?v31) rfl (by kernel_rfl) (by kernel_rfl) (by kernel_rfl) (fun _ _ _ h => h) (Or.inl ⟨by kernel_rfl, ?h31⟩) (by assumption) ?r31
  case h31 => (intro w hSw; (try dsimp only at hSw); go_simp; try with_reducible rfl)
  try simp only [Act.put, List.setIfInBounds_toArray, List.set_cons_zero, List.set_cons_succ]
  refine wpAnyH_take (i := 8) (oi := { dst := some 19, op := Go.Op.call { callee := Go.Callee.builtin Go.Builtin.len, args := #[Go.Operand.tmp 18], argTypes := #[24] }, type := 3, pos := "ref.go:67", after := #[{ on := 7, ground := Go.Ground.data }, { on := 3, ground := Go.Ground.guard }], guard := some (3, false) }) (v := ?v32) rfl (by kernel_rfl) (by kernel_rfl) (by kernel_rfl) (fun _ _ _ h => h) (Or.inl ⟨by kernel_rfl, ?h32⟩) (by assumption) ?r32
  case h32 => (intro w hSw; (try dsimp only at hSw); go_simp; try with_reducible rfl)
  try simp only [Act.put, List.setIfInBounds_toArray, List.set_cons_zero, List.set_cons_succ]
  refine wpAnyH_take (i := 9) (oi := { dst := some 20, op := Go.Op.binOp Go.BinOp.geq 3 (Go.Operand.tmp 16) (Go.Operand.tmp 19) 3, type := 4, pos := "ref.go:67", after := #[{ on := 5, ground := Go.Ground.data }, { on := 8, ground := Go.Ground.data }, { on := 3, ground := Go.Ground.guard }], guard := some (3, false) }) (v := ?v33) rfl (by kernel_rfl) (by kernel_rfl) (by kernel_rfl) (fun _ _ _ h => h) (Or.inl ⟨by kernel_rfl, ?h33⟩) (by assumption) ?r33
  case h33 => (intro w hSw; (try dsimp only at hSw); go_simp; try with_reducible rfl)
  try simp only [Act.put, List.setIfInBounds_toArray, List.set_cons_zero, List.set_cons_succ]
  refine wpAnyH_take (i := 10) (oi := { dst := some 21, op := Go.Op.pick (Go.Operand.tmp 14) (Go.Operand.const (Go.Value.bool true)) (Go.Operand.tmp 20), type := 4, pos := "ref.go:67", after := #[{ on := 3, ground := Go.Ground.data }, { on := 9, ground := Go.Ground.data }], guard := none }) (v := ?v34) rfl (by kernel_rfl) (by kernel_rfl) (by kernel_rfl) (fun _ _ _ h => h) (Or.inl ⟨by kernel_rfl, ?h34⟩) (by assumption) ?r34
  case h34 => (intro w hSw; (try dsimp only at hSw); go_simp; try with_reducible rfl)
  try simp only [Act.put, List.setIfInBounds_toArray, List.set_cons_zero, List.set_cons_succ]
  refine wpAnyH_take (i := 11) (oi := { dst := some 22, op := Go.Op.move (Go.Operand.tmp 21), type := 4, pos := "ref.go:67", after := #[{ on := 10, ground := Go.Ground.data }, { on := 3, ground := Go.Ground.chain }], guard := none }) (v := ?v35) rfl (by kernel_rfl) (by kernel_rfl) (by kernel_rfl) (fun _ _ _ h => h) (Or.inl ⟨by kernel_rfl, ?h35⟩) (by assumption) ?r35
  case h35 => (intro w hSw; (try dsimp only at hSw); go_simp; try with_reducible rfl)
  try simp only [Act.put, List.setIfInBounds_toArray, List.set_cons_zero, List.set_cons_succ]
  refine wpAnyH_take (i := 12) (oi := { dst := some 23, op := Go.Op.fieldAddr 26 (Go.Operand.tmp 3) 3, type := 0, pos := "ref.go:67", after := #[{ on := 11, ground := Go.Ground.guard }], guard := some (11, false) }) (v := undef) rfl (by kernel_rfl) (by kernel_rfl) (by kernel_rfl) (fun _ _ _ h => h) (Or.inr ⟨by kernel_rfl, rfl⟩) (by assumption) ?_
  try simp only [Act.put, List.setIfInBounds_toArray, List.set_cons_zero, List.set_cons_succ]
  refine wpAnyH_take (i := 13) (oi := { dst := some 24, op := Go.Op.load 24 (Go.Operand.tmp 23), type := 24, pos := "ref.go:67", after := #[{ on := 12, ground := Go.Ground.data }, { on := 11, ground := Go.Ground.guard }], guard := some (11, false) }) (v := undef) rfl (by kernel_rfl) (by kernel_rfl) (by kernel_rfl) (fun _ _ _ h => h) (Or.inr ⟨by kernel_rfl, rfl⟩) (by assumption) ?_
  try simp only [Act.put, List.setIfInBounds_toArray, List.set_cons_zero, List.set_cons_succ]
  refine wpAnyH_take (i := 14) (oi := { dst := some 25, op := Go.Op.fieldAddr 31 (Go.Operand.tmp 5) 0, type := 0, pos := "ref.go:67", after := #[{ on := 11, ground := Go.Ground.guard }], guard := some (11, false) }) (v := undef) rfl (by kernel_rfl) (by kernel_rfl) (by kernel_rfl) (fun _ _ _ h => h) (Or.inr ⟨by kernel_rfl, rfl⟩) (by assumption) ?_
  try simp only [Act.put, List.setIfInBounds_toArray, List.set_cons_zero, List.set_cons_succ]
  refine wpAnyH_take (i := 15) (oi := { dst := some 26, op := Go.Op.load 3 (Go.Operand.tmp 25), type := 3, pos := "ref.go:67", after := #[{ on := 14, ground := Go.Ground.data }, { on := 11, ground := Go.Ground.guard }], guard := some (11, false) }) (v := undef) rfl (by kernel_rfl) (by kernel_rfl) (by kernel_rfl) (fun _ _ _ h => h) (Or.inr ⟨by kernel_rfl, rfl⟩) (by assumption) ?_
  try simp only [Act.put, List.setIfInBounds_toArray, List.set_cons_zero, List.set_cons_succ]
  refine wpAnyH_take (i := 16) (oi := { dst := some 27, op := Go.Op.indexAddr 24 (Go.Operand.tmp 24) (Go.Operand.tmp 26), type := 0, pos := "ref.go:67", after := #[{ on := 13, ground := Go.Ground.data }, { on := 15, ground := Go.Ground.data }, { on := 11, ground := Go.Ground.guard }], guard := some (11, false) }) (v := undef) rfl (by kernel_rfl) (by kernel_rfl) (by kernel_rfl) (fun _ _ _ h => h) (Or.inr ⟨by kernel_rfl, rfl⟩) (by assumption) ?_
  try simp only [Act.put, List.setIfInBounds_toArray, List.set_cons_zero, List.set_cons_succ]
  refine wpAnyH_take (i := 17) (oi := { dst := some 28, op := Go.Op.fieldAddr 56 (Go.Operand.tmp 27) 0, type := 0, pos := "ref.go:67", after := #[{ on := 16, ground := Go.Ground.data }, { on := 11, ground := Go.Ground.guard }], guard := some (11, false) }) (v := undef) rfl (by kernel_rfl) (by kernel_rfl) (by kernel_rfl) (fun _ _ _ h => h) (Or.inr ⟨by kernel_rfl, rfl⟩) (by assumption) ?_
  try simp only [Act.put, List.setIfInBounds_toArray, List.set_cons_zero, List.set_cons_succ]
  refine wpAnyH_take (i := 18) (oi := { dst := some 29, op := Go.Op.load 3 (Go.Operand.tmp 28), type := 3, pos := "ref.go:67", after := #[{ on := 17, ground := Go.Ground.data }, { on := 11, ground := Go.Ground.guard }], guard := some (11, false) }) (v := undef) rfl (by kernel_rfl) (by kernel_rfl) (by kernel_rfl) (fun _ _ _ h => h) (Or.inr ⟨by kernel_rfl, rfl⟩) (by assumption) ?_
  try simp only [Act.put, List.setIfInBounds_toArray, List.set_cons_zero, List.set_cons_succ]
  refine wpAnyH_take (i := 19) (oi := { dst := some 30, op := Go.Op.fieldAddr 29 (Go.Operand.tmp 4) 0, type := 0, pos := "ref.go:67", after := #[{ on := 11, ground := Go.Ground.guard }], guard := some (11, false) }) (v := undef) rfl (by kernel_rfl) (by kernel_rfl) (by kernel_rfl) (fun _ _ _ h => h) (Or.inr ⟨by kernel_rfl, rfl⟩) (by assumption) ?_
  try simp only [Act.put, List.setIfInBounds_toArray, List.set_cons_zero, List.set_cons_succ]
  refine wpAnyH_take (i := 20) (oi := { dst := some 31, op := Go.Op.load 3 (Go.Operand.tmp 30), type := 3, pos := "ref.go:67", after := #[{ on := 19, ground := Go.Ground.data }, { on := 11, ground := Go.Ground.guard }], guard := some (11, false) }) (v := undef) rfl (by kernel_rfl) (by kernel_rfl) (by kernel_rfl) (fun _ _ _ h => h) (Or.inr ⟨by kernel_rfl, rfl⟩) (by assumption) ?_
  try simp only [Act.put, List.setIfInBounds_toArray, List.set_cons_zero, List.set_cons_succ]
  refine wpAnyH_take (i := 21) (oi := { dst := some 32, op := Go.Op.binOp Go.BinOp.neq 3 (Go.Operand.tmp 29) (Go.Operand.tmp 31) 3, type := 4, pos := "ref.go:67", after := #[{ on := 18, ground := Go.Ground.data }, { on := 20, ground := Go.Ground.data }, { on := 11, ground := Go.Ground.guard }], guard := some (11, false) }) (v := undef) rfl (by kernel_rfl) (by kernel_rfl) (by kernel_rfl) (fun _ _ _ h => h) (Or.inr ⟨by kernel_rfl, rfl⟩) (by assumption) ?_
  try simp only [Act.put, List.setIfInBounds_toArray, List.set_cons_zero, List.set_cons_succ]
  refine wpAnyH_take (i := 22) (oi := { dst := some 33, op := Go.Op.pick (Go.Operand.tmp 22) (Go.Operand.const (Go.Value.bool true)) (Go.Operand.tmp 32), type := 4, pos := "ref.go:67", after := #[{ on := 11, ground := Go.Ground.data }, { on := 21, ground := Go.Ground.data }], guard := none }) (v := ?v46) rfl (by kernel_rfl) (by kernel_rfl) (by kernel_rfl) (fun _ _ _ h => h) (Or.inl ⟨by kernel_rfl, ?h46⟩) (by assumption) ?r46
  case h46 => (intro w hSw; (try dsimp only at hSw); go_simp; try with_reducible rfl)
  try simp only [Act.put, List.setIfInBounds_toArray, List.set_cons_zero, List.set_cons_succ]
  refine wpAnyH_done (by kernel_rfl) ?_ _
  obtain ⟨X2, hX2⟩ : ∃ X2, X2 = W1.drew := ⟨_, rfl⟩
  rw [← hX2] at hHeld ⊢
  replace Z3 := Lib.hid (Z3.out.below hHeld Z3.out.lt)
  replace BL := Lib.hid (BL.out.trans (hHeld.mono BL.out.size))
  clear hX2 hHeld f0 f1 f2
  have k0 := Z3.out.cell 0
  have k1 := Z3.out.cell 1
  have j0 := Z3.out.free 0
  have j1 := Z3.out.free 1
  simp at k0 k1
  go_wp2
  exact state_ret2 (state_set Z3.out _ _) ⟨none, 0, 0, rfl, SL.nil _, belT BL.out (by omega) _ _, fun p hp => by cases hp⟩ _ _ 6 7 rfl rfl rfl rfl
set_option maxRecDepth 100000 in
set_option maxHeartbeats 4000000 in
theorem rstep_bad3 (pnm : ByteArray) (pa1 : Option Addr) (pn1 pc1 : Nat) (pa2 : Option Addr) (pn2 pc2 : Nat) (pa3 : Option Addr) (pn3 pc3 : Nat) (D : PD) (pt : Int) (a : Option Addr) (n c : Nat) (l : List Int) (E : Nat) (v : Int) (he : E < pn3) (fr ds k x y cc d : Int) (hE : D.edges.getD E edge0 = (⟨fr, ds, k, x, y, cc, d⟩ : EdgeD)) (b off : Nat) (ha3 : pa3 = some ⟨b, off, none⟩) (hf : ¬ fr = pt) (w : World) (h : PrA w ⟨pnm, pa1, pn1, pc1, pa2, pn2, pc2, pa3, pn3, pc3⟩ D) : Calls Tryd.prog 13 #[.agg #[.string pnm, .slice pa1 pn1 pc1, .slice pa2 pn2 pc2, .slice pa3 pn3 pc3], .agg #[.int .i64 pt, .slice a n c], .agg #[.int .i64 (E : Int), .int .i64 v]] w (StE 0 [] 1 w) := by
  obtain ⟨W1, hW1⟩ : ∃ W1, W1 = (((w.alloc (.cells #[.string pnm, .slice pa1 pn1 pc1, .slice pa2 pn2 pc2, .slice pa3 pn3 pc3] 26)).alloc (.cells #[.int .i64 pt, .slice a n c] 29)).alloc (.cells #[.int .i64 (E : Int), .int .i64 v] 31)).alloc (.cells #[.int .i64 0, .slice none 0 0] 29) := ⟨_, rfl⟩
  have BL : Hid (Below w.heap.size w W1) := Lib.hid (by rw [hW1]; exact ((((Below.refl _ _).alloc (Nat.le_refl _) _).alloc (by simp) _).alloc (by simp; omega) _).alloc (by simp; omega) _)
  have Z0 : Hid (Holds W1 w.heap.size 26 #[.string pnm, .slice pa1 pn1 pc1, .slice pa2 pn2 pc2, .slice pa3 pn3 pc3]) := Lib.hid (by rw [hW1]; exact (((Holds.new w _ _).alloc _).alloc _).alloc _)
  have Z1 : Hid (Holds W1 (w.heap.size + 1) 29 #[.int .i64 pt, .slice a n c]) := Lib.hid (by rw [hW1]; have q := ((Holds.new (w.alloc (.cells #[.string pnm, .slice pa1 pn1 pc1, .slice pa2 pn2 pc2, .slice pa3 pn3 pc3] 26)) 29 #[.int .i64 pt, .slice a n c]).alloc (.cells #[.int .i64 (E : Int), .int .i64 v] 31)).alloc (.cells #[.int .i64 0, .slice none 0 0] 29); simpa using q)
  have Z2 : Hid (Holds W1 (w.heap.size + 2) 31 #[.int .i64 (E : Int), .int .i64 v]) := Lib.hid (by rw [hW1]; have q := (Holds.new ((w.alloc (.cells #[.string pnm, .slice pa1 pn1 pc1, .slice pa2 pn2 pc2, .slice pa3 pn3 pc3] 26)).alloc (.cells #[.int .i64 pt, .slice a n c] 29)) 31 #[.int .i64 (E : Int), .int .i64 v]).alloc (.cells #[.int .i64 0, .slice none 0 0] 29); simpa using q)
  have Z3 : Hid (Holds W1 (w.heap.size + 3) 29 #[.int .i64 0, .slice none 0 0]) := Lib.hid (by rw [hW1]; have q := Holds.new (((w.alloc (.cells #[.string pnm, .slice pa1 pn1 pc1, .slice pa2 pn2 pc2, .slice pa3 pn3 pc3] 26)).alloc (.cells #[.int .i64 pt, .slice a n c] 29)).alloc (.cells #[.int .i64 (E : Int), .int .i64 v] 31)) 29 #[.int .i64 0, .slice none 0 0]; simpa using q)
  have hW1' := Lib.hid hW1
  clear hW1
  subst ha3
  obtain ⟨b', off', hab, hbl, y0, y1, y2, y3, y4, y5, y6⟩ := edges_at (h.edges.below BL.out) he
  injection hab with hab
  injection hab with hab1 hab2
  subst hab1 hab2
  rw [hE] at y0 y1 y2 y3 y4 y5 y6
  dsimp only at y0 y1 y2 y3 y4 y5 y6
  have hb2 : b < W1.heap.size := hbl
  clear hbl
  have d1 : ¬ (E : Int) < 0 := by omega
  have d2 : ¬ (pn3 : Int) ≤ (E : Int) := by omega
  have d3 : (E : Int) < (pn3 : Int) := by omega
  have d4 : ¬ pn3 ≤ E := by omega
  have X0 : ∀ W, Below W1.heap.size W1 W → W.cell? ⟨b, off + E * 7, none⟩ = some (.int .i64 fr) := fun W hW => (hW.cell (p := ⟨b, off + E * 7, none⟩) hb2).trans y0
  have d5 : (fr != pt) = true := by simp [hf]
  have f0 : ∀ W, Below W1.heap.size W1 W → W.cell? ⟨w.heap.size + 2, 0, none⟩ = some (.int .i64 (E : Int)) := fun W hW => (Z2.out.below hW Z2.out.lt).cell 0
  have f1 : ∀ W, Below W1.heap.size W1 W → W.cell? ⟨w.heap.size, 3, none⟩ = some (.slice (some ⟨b, off, none⟩) pn3 pc3) := fun W hW => (Z0.out.below hW Z0.out.lt).cell 3
  have f2 : ∀ W, Below W1.heap.size W1 W → W.cell? ⟨w.heap.size + 1, 0, none⟩ = some (.int .i64 pt) := fun W hW => (Z1.out.below hW Z1.out.lt).cell 0
  clear h
  clear hE he hf y0 y1 y2 y3 y4 y5 y6
  go_enter Tryd.func13, Tryd.ntmps13
  go_wp2
  rw [← hW1'.out]
  clear hW1'
  refine wp_drawn_on (fun W => Below W1.heap.size W1 W) (by kernel_rfl) ((Below.refl _ _).drew) (fun hHeld => ?_)
  refine wpAnyH_take (i := 0) (oi := { dst := some 11, op := Go.Op.fieldAddr 31 (Go.Operand.tmp 5) 0, type := 0, pos := "ref.go:67", after := #[], guard := none }) (v := ?v47) rfl (by kernel_rfl) (by kernel_rfl) (by kernel_rfl) (fun _ _ _ h => h) (Or.inl ⟨by kernel_rfl, ?h47⟩) (by assumption) ?r47
  case h47 => (intro w hSw; (try dsimp only at hSw); go_simp; try with_reducible rfl)
  try simp only [Act.put, List.setIfInBounds_toArray, List.set_cons_zero, List.set_cons_succ]
  refine wpAnyH_take (i := 1) (oi := { dst := some 12, op := Go.Op.load 3 (Go.Operand.tmp 11), type := 3, pos := "ref.go:67", after := #[{ on := 0, ground := Go.Ground.data }], guard := none }) (v := ?v48) rfl (by kernel_rfl) (by kernel_rfl) (by kernel_rfl) (fun _ _ _ h => h) (Or.inl ⟨by kernel_rfl, ?h48⟩) (by assumption) ?r48
  case h48 => (intro w hSw; (try dsimp only at hSw); go_simp; try with_reducible rfl)
  try simp only [Act.put, List.setIfInBounds_toArray, List.set_cons_zero, List.set_cons_succ]
  refine wpAnyH_take (i := 2) (oi := { dst := some 13, op := Go.Op.binOp Go.BinOp.lss 3 (Go.Operand.tmp 12) (Go.Operand.const (Go.Value.int Go.IntKind.i64 0)) 3, type := 4, pos := "ref.go:67", after := #[{ on := 1, ground := Go.Ground.data }], guard := none }) (v := ?v49) rfl (by kernel_rfl) (by kernel_rfl) (by kernel_rfl) (fun _ _ _ h => h) (Or.inl ⟨by kernel_rfl, ?h49⟩) (by assumption) ?r49
  case h49 => (intro w hSw; (try dsimp only at hSw); go_simp; try with_reducible rfl)
  try simp only [Act.put, List.setIfInBounds_toArray, List.set_cons_zero, List.set_cons_succ]
  refine wpAnyH_take (i := 3) (oi := { dst := some 14, op := Go.Op.move (Go.Operand.tmp 13), type := 4, pos := "ref.go:67", after := #[{ on := 2, ground := Go.Ground.data }], guard := none }) (v := ?v50) rfl (by kernel_rfl) (by kernel_rfl) (by kernel_rfl) (fun _ _ _ h => h) (Or.inl ⟨by kernel_rfl, ?h50⟩) (by assumption) ?r50
  case h50 => (intro w hSw; (try dsimp only at hSw); go_simp; try with_reducible rfl)
  try simp only [Act.put, List.setIfInBounds_toArray, List.set_cons_zero, List.set_cons_succ]
  refine wpAnyH_take (i := 4) (oi := { dst := some 15, op := Go.Op.fieldAddr 31 (Go.Operand.tmp 5) 0, type := 0, pos := "ref.go:67", after := #[{ on := 3, ground := Go.Ground.guard }], guard := some (3, false) }) (v := ?v51) rfl (by kernel_rfl) (by kernel_rfl) (by kernel_rfl) (fun _ _ _ h => h) (Or.inl ⟨by kernel_rfl, ?h51⟩) (by assumption) ?r51
  case h51 => (intro w hSw; (try dsimp only at hSw); go_simp; try with_reducible rfl)
  try simp only [Act.put, List.setIfInBounds_toArray, List.set_cons_zero, List.set_cons_succ]
  refine wpAnyH_take (i := 5) (oi := { dst := some 16, op := Go.Op.load 3 (Go.Operand.tmp 15), type := 3, pos := "ref.go:67", after := #[{ on := 4, ground := Go.Ground.data }, { on := 3, ground := Go.Ground.guard }], guard := some (3, false) }) (v := ?v52) rfl (by kernel_rfl) (by kernel_rfl) (by kernel_rfl) (fun _ _ _ h => h) (Or.inl ⟨by kernel_rfl, ?h52⟩) (by assumption) ?r52
  case h52 => (intro w hSw; (try dsimp only at hSw); go_simp; try with_reducible rfl)
  try simp only [Act.put, List.setIfInBounds_toArray, List.set_cons_zero, List.set_cons_succ]
  refine wpAnyH_take (i := 6) (oi := { dst := some 17, op := Go.Op.fieldAddr 26 (Go.Operand.tmp 3) 3, type := 0, pos := "ref.go:67", after := #[{ on := 3, ground := Go.Ground.guard }], guard := some (3, false) }) (v := ?v53) rfl (by kernel_rfl) (by kernel_rfl) (by kernel_rfl) (fun _ _ _ h => h) (Or.inl ⟨by kernel_rfl, ?h53⟩) (by assumption) ?r53
  case h53 => (intro w hSw; (try dsimp only at hSw); go_simp; try with_reducible rfl)
  try simp only [Act.put, List.setIfInBounds_toArray, List.set_cons_zero, List.set_cons_succ]
  refine wpAnyH_take (i := 7) (oi := { dst := some 18, op := Go.Op.load 24 (Go.Operand.tmp 17), type := 24, pos := "ref.go:67", after := #[{ on := 6, ground := Go.Ground.data }, { on := 3, ground := Go.Ground.guard }], guard := some (3, false) }) (v := ?v54) rfl (by kernel_rfl) (by kernel_rfl) (by kernel_rfl) (fun _ _ _ h => h) (Or.inl ⟨by kernel_rfl, ?h54⟩) (by assumption) ?r54
  case h54 => (intro w hSw; (try dsimp only at hSw); go_simp; try with_reducible rfl)
  try simp only [Act.put, List.setIfInBounds_toArray, List.set_cons_zero, List.set_cons_succ]
  refine wpAnyH_take (i := 8) (oi := { dst := some 19, op := Go.Op.call { callee := Go.Callee.builtin Go.Builtin.len, args := #[Go.Operand.tmp 18], argTypes := #[24] }, type := 3, pos := "ref.go:67", after := #[{ on := 7, ground := Go.Ground.data }, { on := 3, ground := Go.Ground.guard }], guard := some (3, false) }) (v := ?v55) rfl (by kernel_rfl) (by kernel_rfl) (by kernel_rfl) (fun _ _ _ h => h) (Or.inl ⟨by kernel_rfl, ?h55⟩) (by assumption) ?r55
  case h55 => (intro w hSw; (try dsimp only at hSw); go_simp; try with_reducible rfl)
  try simp only [Act.put, List.setIfInBounds_toArray, List.set_cons_zero, List.set_cons_succ]
  refine wpAnyH_take (i := 9) (oi := { dst := some 20, op := Go.Op.binOp Go.BinOp.geq 3 (Go.Operand.tmp 16) (Go.Operand.tmp 19) 3, type := 4, pos := "ref.go:67", after := #[{ on := 5, ground := Go.Ground.data }, { on := 8, ground := Go.Ground.data }, { on := 3, ground := Go.Ground.guard }], guard := some (3, false) }) (v := ?v56) rfl (by kernel_rfl) (by kernel_rfl) (by kernel_rfl) (fun _ _ _ h => h) (Or.inl ⟨by kernel_rfl, ?h56⟩) (by assumption) ?r56
  case h56 => (intro w hSw; (try dsimp only at hSw); go_simp; try with_reducible rfl)
  try simp only [Act.put, List.setIfInBounds_toArray, List.set_cons_zero, List.set_cons_succ]
  refine wpAnyH_take (i := 10) (oi := { dst := some 21, op := Go.Op.pick (Go.Operand.tmp 14) (Go.Operand.const (Go.Value.bool true)) (Go.Operand.tmp 20), type := 4, pos := "ref.go:67", after := #[{ on := 3, ground := Go.Ground.data }, { on := 9, ground := Go.Ground.data }], guard := none }) (v := ?v57) rfl (by kernel_rfl) (by kernel_rfl) (by kernel_rfl) (fun _ _ _ h => h) (Or.inl ⟨by kernel_rfl, ?h57⟩) (by assumption) ?r57
  case h57 => (intro w hSw; (try dsimp only at hSw); go_simp; try with_reducible rfl)
  try simp only [Act.put, List.setIfInBounds_toArray, List.set_cons_zero, List.set_cons_succ]
  refine wpAnyH_take (i := 11) (oi := { dst := some 22, op := Go.Op.move (Go.Operand.tmp 21), type := 4, pos := "ref.go:67", after := #[{ on := 10, ground := Go.Ground.data }, { on := 3, ground := Go.Ground.chain }], guard := none }) (v := ?v58) rfl (by kernel_rfl) (by kernel_rfl) (by kernel_rfl) (fun _ _ _ h => h) (Or.inl ⟨by kernel_rfl, ?h58⟩) (by assumption) ?r58
  case h58 => (intro w hSw; (try dsimp only at hSw); go_simp; try with_reducible rfl)
  try simp only [Act.put, List.setIfInBounds_toArray, List.set_cons_zero, List.set_cons_succ]
  refine wpAnyH_take (i := 12) (oi := { dst := some 23, op := Go.Op.fieldAddr 26 (Go.Operand.tmp 3) 3, type := 0, pos := "ref.go:67", after := #[{ on := 11, ground := Go.Ground.guard }], guard := some (11, false) }) (v := ?v59) rfl (by kernel_rfl) (by kernel_rfl) (by kernel_rfl) (fun _ _ _ h => h) (Or.inl ⟨by kernel_rfl, ?h59⟩) (by assumption) ?r59
  case h59 => (intro w hSw; (try dsimp only at hSw); go_simp; try with_reducible rfl)
  try simp only [Act.put, List.setIfInBounds_toArray, List.set_cons_zero, List.set_cons_succ]
  refine wpAnyH_take (i := 13) (oi := { dst := some 24, op := Go.Op.load 24 (Go.Operand.tmp 23), type := 24, pos := "ref.go:67", after := #[{ on := 12, ground := Go.Ground.data }, { on := 11, ground := Go.Ground.guard }], guard := some (11, false) }) (v := ?v60) rfl (by kernel_rfl) (by kernel_rfl) (by kernel_rfl) (fun _ _ _ h => h) (Or.inl ⟨by kernel_rfl, ?h60⟩) (by assumption) ?r60
  case h60 => (intro w hSw; (try dsimp only at hSw); go_simp; try with_reducible rfl)
  try simp only [Act.put, List.setIfInBounds_toArray, List.set_cons_zero, List.set_cons_succ]
  refine wpAnyH_take (i := 14) (oi := { dst := some 25, op := Go.Op.fieldAddr 31 (Go.Operand.tmp 5) 0, type := 0, pos := "ref.go:67", after := #[{ on := 11, ground := Go.Ground.guard }], guard := some (11, false) }) (v := ?v61) rfl (by kernel_rfl) (by kernel_rfl) (by kernel_rfl) (fun _ _ _ h => h) (Or.inl ⟨by kernel_rfl, ?h61⟩) (by assumption) ?r61
  case h61 => (intro w hSw; (try dsimp only at hSw); go_simp; try with_reducible rfl)
  try simp only [Act.put, List.setIfInBounds_toArray, List.set_cons_zero, List.set_cons_succ]
  refine wpAnyH_take (i := 15) (oi := { dst := some 26, op := Go.Op.load 3 (Go.Operand.tmp 25), type := 3, pos := "ref.go:67", after := #[{ on := 14, ground := Go.Ground.data }, { on := 11, ground := Go.Ground.guard }], guard := some (11, false) }) (v := ?v62) rfl (by kernel_rfl) (by kernel_rfl) (by kernel_rfl) (fun _ _ _ h => h) (Or.inl ⟨by kernel_rfl, ?h62⟩) (by assumption) ?r62
  case h62 => (intro w hSw; (try dsimp only at hSw); go_simp; try with_reducible rfl)
  try simp only [Act.put, List.setIfInBounds_toArray, List.set_cons_zero, List.set_cons_succ]
  refine wpAnyH_take (i := 16) (oi := { dst := some 27, op := Go.Op.indexAddr 24 (Go.Operand.tmp 24) (Go.Operand.tmp 26), type := 0, pos := "ref.go:67", after := #[{ on := 13, ground := Go.Ground.data }, { on := 15, ground := Go.Ground.data }, { on := 11, ground := Go.Ground.guard }], guard := some (11, false) }) (v := ?v63) rfl (by kernel_rfl) (by kernel_rfl) (by kernel_rfl) (fun _ _ _ h => h) (Or.inl ⟨by kernel_rfl, ?h63⟩) (by assumption) ?r63
  case h63 => (intro w hSw; (try dsimp only at hSw); go_simp; try with_reducible rfl)
  try simp only [Act.put, List.setIfInBounds_toArray, List.set_cons_zero, List.set_cons_succ]
  refine wpAnyH_take (i := 17) (oi := { dst := some 28, op := Go.Op.fieldAddr 56 (Go.Operand.tmp 27) 0, type := 0, pos := "ref.go:67", after := #[{ on := 16, ground := Go.Ground.data }, { on := 11, ground := Go.Ground.guard }], guard := some (11, false) }) (v := ?v64) rfl (by kernel_rfl) (by kernel_rfl) (by kernel_rfl) (fun _ _ _ h => h) (Or.inl ⟨by kernel_rfl, ?h64⟩) (by assumption) ?r64
  case h64 => (intro w hSw; (try dsimp only at hSw); go_simp; try with_reducible rfl)
  try simp only [Act.put, List.setIfInBounds_toArray, List.set_cons_zero, List.set_cons_succ]
  refine wpAnyH_take (i := 18) (oi := { dst := some 29, op := Go.Op.load 3 (Go.Operand.tmp 28), type := 3, pos := "ref.go:67", after := #[{ on := 17, ground := Go.Ground.data }, { on := 11, ground := Go.Ground.guard }], guard := some (11, false) }) (v := ?v65) rfl (by kernel_rfl) (by kernel_rfl) (by kernel_rfl) (fun _ _ _ h => h) (Or.inl ⟨by kernel_rfl, ?h65⟩) (by assumption) ?r65
  case h65 => (intro w hSw; (try dsimp only at hSw); go_simp; try with_reducible rfl)
  try simp only [Act.put, List.setIfInBounds_toArray, List.set_cons_zero, List.set_cons_succ]
  refine wpAnyH_take (i := 19) (oi := { dst := some 30, op := Go.Op.fieldAddr 29 (Go.Operand.tmp 4) 0, type := 0, pos := "ref.go:67", after := #[{ on := 11, ground := Go.Ground.guard }], guard := some (11, false) }) (v := ?v66) rfl (by kernel_rfl) (by kernel_rfl) (by kernel_rfl) (fun _ _ _ h => h) (Or.inl ⟨by kernel_rfl, ?h66⟩) (by assumption) ?r66
  case h66 => (intro w hSw; (try dsimp only at hSw); go_simp; try with_reducible rfl)
  try simp only [Act.put, List.setIfInBounds_toArray, List.set_cons_zero, List.set_cons_succ]
  refine wpAnyH_take (i := 20) (oi := { dst := some 31, op := Go.Op.load 3 (Go.Operand.tmp 30), type := 3, pos := "ref.go:67", after := #[{ on := 19, ground := Go.Ground.data }, { on := 11, ground := Go.Ground.guard }], guard := some (11, false) }) (v := ?v67) rfl (by kernel_rfl) (by kernel_rfl) (by kernel_rfl) (fun _ _ _ h => h) (Or.inl ⟨by kernel_rfl, ?h67⟩) (by assumption) ?r67
  case h67 => (intro w hSw; (try dsimp only at hSw); go_simp; try with_reducible rfl)
  try simp only [Act.put, List.setIfInBounds_toArray, List.set_cons_zero, List.set_cons_succ]
  refine wpAnyH_take (i := 21) (oi := { dst := some 32, op := Go.Op.binOp Go.BinOp.neq 3 (Go.Operand.tmp 29) (Go.Operand.tmp 31) 3, type := 4, pos := "ref.go:67", after := #[{ on := 18, ground := Go.Ground.data }, { on := 20, ground := Go.Ground.data }, { on := 11, ground := Go.Ground.guard }], guard := some (11, false) }) (v := ?v68) rfl (by kernel_rfl) (by kernel_rfl) (by kernel_rfl) (fun _ _ _ h => h) (Or.inl ⟨by kernel_rfl, ?h68⟩) (by assumption) ?r68
  case h68 => (intro w hSw; (try dsimp only at hSw); go_simp; try with_reducible rfl)
  try simp only [Act.put, List.setIfInBounds_toArray, List.set_cons_zero, List.set_cons_succ]
  refine wpAnyH_take (i := 22) (oi := { dst := some 33, op := Go.Op.pick (Go.Operand.tmp 22) (Go.Operand.const (Go.Value.bool true)) (Go.Operand.tmp 32), type := 4, pos := "ref.go:67", after := #[{ on := 11, ground := Go.Ground.data }, { on := 21, ground := Go.Ground.data }], guard := none }) (v := ?v69) rfl (by kernel_rfl) (by kernel_rfl) (by kernel_rfl) (fun _ _ _ h => h) (Or.inl ⟨by kernel_rfl, ?h69⟩) (by assumption) ?r69
  case h69 => (intro w hSw; (try dsimp only at hSw); go_simp; try with_reducible rfl)
  try simp only [Act.put, List.setIfInBounds_toArray, List.set_cons_zero, List.set_cons_succ]
  refine wpAnyH_done (by kernel_rfl) ?_ _
  obtain ⟨X2, hX2⟩ : ∃ X2, X2 = W1.drew := ⟨_, rfl⟩
  rw [← hX2] at hHeld ⊢
  replace Z3 := Lib.hid (Z3.out.below hHeld Z3.out.lt)
  replace BL := Lib.hid (BL.out.trans (hHeld.mono BL.out.size))
  clear hX2 hHeld f0 f1 f2
  have k0 := Z3.out.cell 0
  have k1 := Z3.out.cell 1
  have j0 := Z3.out.free 0
  have j1 := Z3.out.free 1
  simp at k0 k1
  go_wp2
  exact state_ret2 (state_set Z3.out _ _) ⟨none, 0, 0, rfl, SL.nil _, belT BL.out (by omega) _ _, fun p hp => by cases hp⟩ _ _ 6 7 rfl rfl rfl rfl
set_option maxRecDepth 100000 in
set_option maxHeartbeats 16000000 in
theorem rstep_t (pnm : ByteArray) (pa1 : Option Addr) (pn1 pc1 : Nat) (pa2 : Option Addr) (pn2 pc2 : Nat) (pa3 : Option Addr) (pn3 pc3 : Nat) (D : PD) (pt : Int) (a : Option Addr) (n c : Nat) (l : List Int) (E : Nat) (v : Int) (he : E < pn3) (ds k x y cc d : Int) (hE : D.edges.getD E edge0 = (⟨pt, ds, k, x, y, cc, d⟩ : EdgeD)) (l' : List Int) (err : Int) (herr : err = 0)
    (hq : ∀ W, SL W a n c l → Calls Tryd.prog 27 #[.agg #[.int .i64 k, .int .i64 x, .int .i64 y, .int .i64 cc, .int .i64 d], .slice a n c, .int .i64 v] W (DoE l' err W)) (w : World) (h : PrA w ⟨pnm, pa1, pn1, pc1, pa2, pn2, pc2, pa3, pn3, pc3⟩ D) (hs : SL w a n c l) :
    Calls Tryd.prog 13 #[.agg #[.string pnm, .slice pa1 pn1 pc1, .slice pa2 pn2 pc2, .slice pa3 pn3 pc3], .agg #[.int .i64 pt, .slice a n c], .agg #[.int .i64 (E : Int), .int .i64 v]] w (StE ds l' err w) := by
  obtain ⟨b, off, ha3, -⟩ := edges_at h.edges (i := E) he
  obtain ⟨W1, hW1⟩ : ∃ W1, W1 = (((w.alloc (.cells #[.string pnm, .slice pa1 pn1 pc1, .slice pa2 pn2 pc2, .slice pa3 pn3 pc3] 26)).alloc (.cells #[.int .i64 pt, .slice a n c] 29)).alloc (.cells #[.int .i64 (E : Int), .int .i64 v] 31)).alloc (.cells #[.int .i64 0, .slice none 0 0] 29) := ⟨_, rfl⟩
  have BL : Hid (Below w.heap.size w W1) := Lib.hid (by rw [hW1]; exact ((((Below.refl _ _).alloc (Nat.le_refl _) _).alloc (by simp) _).alloc (by simp; omega) _).alloc (by simp; omega) _)
  have Z0 : Hid (Holds W1 w.heap.size 26 #[.string pnm, .slice pa1 pn1 pc1, .slice pa2 pn2 pc2, .slice pa3 pn3 pc3]) := Lib.hid (by rw [hW1]; exact (((Holds.new w _ _).alloc _).alloc _).alloc _)
  have Z1 : Hid (Holds W1 (w.heap.size + 1) 29 #[.int .i64 pt, .slice a n c]) := Lib.hid (by rw [hW1]; have q := ((Holds.new (w.alloc (.cells #[.string pnm, .slice pa1 pn1 pc1, .slice pa2 pn2 pc2, .slice pa3 pn3 pc3] 26)) 29 #[.int .i64 pt, .slice a n c]).alloc (.cells #[.int .i64 (E : Int), .int .i64 v] 31)).alloc (.cells #[.int .i64 0, .slice none 0 0] 29); simpa using q)
  have Z2 : Hid (Holds W1 (w.heap.size + 2) 31 #[.int .i64 (E : Int), .int .i64 v]) := Lib.hid (by rw [hW1]; have q := (Holds.new ((w.alloc (.cells #[.string pnm, .slice pa1 pn1 pc1, .slice pa2 pn2 pc2, .slice pa3 pn3 pc3] 26)).alloc (.cells #[.int .i64 pt, .slice a n c] 29)) 31 #[.int .i64 (E : Int), .int .i64 v]).alloc (.cells #[.int .i64 0, .slice none 0 0] 29); simpa using q)
  have Z3 : Hid (Holds W1 (w.heap.size + 3) 29 #[.int .i64 0, .slice none 0 0]) := Lib.hid (by rw [hW1]; have q := Holds.new (((w.alloc (.cells #[.string pnm, .slice pa1 pn1 pc1, .slice pa2 pn2 pc2, .slice pa3 pn3 pc3] 26)).alloc (.cells #[.int .i64 pt, .slice a n c] 29)).alloc (.cells #[.int .i64 (E : Int), .int .i64 v] 31)) 29 #[.int .i64 0, .slice none 0 0]; simpa using q)
  have hW1' := Lib.hid hW1
  clear hW1
  subst ha3
  obtain ⟨b', off', hab, hbl, y0, y1, y2, y3, y4, y5, y6⟩ := edges_at (h.edges.below BL.out) he
  injection hab with hab
  injection hab with hab1 hab2
  subst hab1 hab2
  rw [hE] at y0 y1 y2 y3 y4 y5 y6
  dsimp only at y0 y1 y2 y3 y4 y5 y6
  have hb2 : b < W1.heap.size := hbl
  clear hbl
  have d1 : ¬ (E : Int) < 0 := by omega
  have d2 : ¬ (pn3 : Int) ≤ (E : Int) := by omega
  have d3 : (E : Int) < (pn3 : Int) := by omega
  have d4 : ¬ pn3 ≤ E := by omega
  have f0 : ∀ W, Below W1.heap.size W1 W → W.cell? ⟨w.heap.size + 2, 0, none⟩ = some (.int .i64 (E : Int)) := fun W hW => (Z2.out.below hW Z2.out.lt).cell 0
  have f1 : ∀ W, Below W1.heap.size W1 W → W.cell? ⟨w.heap.size, 3, none⟩ = some (.slice (some ⟨b, off, none⟩) pn3 pc3) := fun W hW => (Z0.out.below hW Z0.out.lt).cell 3
  have f2 : ∀ W, Below W1.heap.size W1 W → W.cell? ⟨w.heap.size + 1, 0, none⟩ = some (.int .i64 pt) := fun W hW => (Z1.out.below hW Z1.out.lt).cell 0
  have X0 : ∀ W, Below W1.heap.size W1 W → W.cell? ⟨b, off + E * 7, none⟩ = some (.int .i64 pt) := fun W hW => (hW.cell (p := ⟨b, off + E * 7, none⟩) hb2).trans y0
  have d5 : (pt != pt) = false := by simp
  have S := Lib.hid (hs.below BL.out)
  have Y0 : Hid (W1.cell? ⟨b, off + E * 7, none⟩ = some (.int .i64 pt)) := Lib.hid y0
  have Y1 : Hid (W1.cell? ⟨b, off + E * 7 + 1, none⟩ = some (.int .i64 ds)) := Lib.hid y1
  have Y2 : Hid (W1.cell? ⟨b, off + E * 7 + 2, none⟩ = some (.int .i64 k)) := Lib.hid y2
  have Y3 : Hid (W1.cell? ⟨b, off + E * 7 + 3, none⟩ = some (.int .i64 x)) := Lib.hid y3
  have Y4 : Hid (W1.cell? ⟨b, off + E * 7 + 4, none⟩ = some (.int .i64 y)) := Lib.hid y4
  have Y5 : Hid (W1.cell? ⟨b, off + E * 7 + 5, none⟩ = some (.int .i64 cc)) := Lib.hid y5
  have Y6 : Hid (W1.cell? ⟨b, off + E * 7 + 6, none⟩ = some (.int .i64 d)) := Lib.hid y6
  have hq' := Lib.hid hq
  subst herr
  clear h hs hE he hq y0 y1 y2 y3 y4 y5 y6
  go_enter Tryd.func13, Tryd.ntmps13
  go_wp2
  rw [← hW1'.out]
  clear hW1'
  refine wp_drawn_on (fun W => Below W1.heap.size W1 W) (by kernel_rfl) ((Below.refl _ _).drew) (fun hHeld => ?_)
  refine wpAnyH_take (i := 0) (oi := { dst := some 11, op := Go.Op.fieldAddr 31 (Go.Operand.tmp 5) 0, type := 0, pos := "ref.go:67", after := #[], guard := none }) (v := ?v70) rfl (by kernel_rfl) (by kernel_rfl) (by kernel_rfl) (fun _ _ _ h => h) (Or.inl ⟨by kernel_rfl, ?h70⟩) (by assumption) ?r70
  case h70 => (intro w hSw; (try dsimp only at hSw); go_simp; try with_reducible rfl)
  try simp only [Act.put, List.setIfInBounds_toArray, List.set_cons_zero, List.set_cons_succ]
  refine wpAnyH_take (i := 1) (oi := { dst := some 12, op := Go.Op.load 3 (Go.Operand.tmp 11), type := 3, pos := "ref.go:67", after := #[{ on := 0, ground := Go.Ground.data }], guard := none }) (v := ?v71) rfl (by kernel_rfl) (by kernel_rfl) (by kernel_rfl) (fun _ _ _ h => h) (Or.inl ⟨by kernel_rfl, ?h71⟩) (by assumption) ?r71
  case h71 => (intro w hSw; (try dsimp only at hSw); go_simp; try with_reducible rfl)
  try simp only [Act.put, List.setIfInBounds_toArray, List.set_cons_zero, List.set_cons_succ]
  refine wpAnyH_take (i := 2) (oi := { dst := some 13, op := Go.Op.binOp Go.BinOp.lss 3 (Go.Operand.tmp 12) (Go.Operand.const (Go.Value.int Go.IntKind.i64 0)) 3, type := 4, pos := "ref.go:67", after := #[{ on := 1, ground := Go.Ground.data }], guard := none }) (v := ?v72) rfl (by kernel_rfl) (by kernel_rfl) (by kernel_rfl) (fun _ _ _ h => h) (Or.inl ⟨by kernel_rfl, ?h72⟩) (by assumption) ?r72
  case h72 => (intro w hSw; (try dsimp only at hSw); go_simp; try with_reducible rfl)
  try simp only [Act.put, List.setIfInBounds_toArray, List.set_cons_zero, List.set_cons_succ]
  refine wpAnyH_take (i := 3) (oi := { dst := some 14, op := Go.Op.move (Go.Operand.tmp 13), type := 4, pos := "ref.go:67", after := #[{ on := 2, ground := Go.Ground.data }], guard := none }) (v := ?v73) rfl (by kernel_rfl) (by kernel_rfl) (by kernel_rfl) (fun _ _ _ h => h) (Or.inl ⟨by kernel_rfl, ?h73⟩) (by assumption) ?r73
  case h73 => (intro w hSw; (try dsimp only at hSw); go_simp; try with_reducible rfl)
  try simp only [Act.put, List.setIfInBounds_toArray, List.set_cons_zero, List.set_cons_succ]
  refine wpAnyH_take (i := 4) (oi := { dst := some 15, op := Go.Op.fieldAddr 31 (Go.Operand.tmp 5) 0, type := 0, pos := "ref.go:67", after := #[{ on := 3, ground := Go.Ground.guard }], guard := some (3, false) }) (v := ?v74) rfl (by kernel_rfl) (by kernel_rfl) (by kernel_rfl) (fun _ _ _ h => h) (Or.inl ⟨by kernel_rfl, ?h74⟩) (by assumption) ?r74
  case h74 => (intro w hSw; (try dsimp only at hSw); go_simp; try with_reducible rfl)
  try simp only [Act.put, List.setIfInBounds_toArray, List.set_cons_zero, List.set_cons_succ]
  refine wpAnyH_take (i := 5) (oi := { dst := some 16, op := Go.Op.load 3 (Go.Operand.tmp 15), type := 3, pos := "ref.go:67", after := #[{ on := 4, ground := Go.Ground.data }, { on := 3, ground := Go.Ground.guard }], guard := some (3, false) }) (v := ?v75) rfl (by kernel_rfl) (by kernel_rfl) (by kernel_rfl) (fun _ _ _ h => h) (Or.inl ⟨by kernel_rfl, ?h75⟩) (by assumption) ?r75
  case h75 => (intro w hSw; (try dsimp only at hSw); go_simp; try with_reducible rfl)
  try simp only [Act.put, List.setIfInBounds_toArray, List.set_cons_zero, List.set_cons_succ]
  refine wpAnyH_take (i := 6) (oi := { dst := some 17, op := Go.Op.fieldAddr 26 (Go.Operand.tmp 3) 3, type := 0, pos := "ref.go:67", after := #[{ on := 3, ground := Go.Ground.guard }], guard := some (3, false) }) (v := ?v76) rfl (by kernel_rfl) (by kernel_rfl) (by kernel_rfl) (fun _ _ _ h => h) (Or.inl ⟨by kernel_rfl, ?h76⟩) (by assumption) ?r76
  case h76 => (intro w hSw; (try dsimp only at hSw); go_simp; try with_reducible rfl)
  try simp only [Act.put, List.setIfInBounds_toArray, List.set_cons_zero, List.set_cons_succ]
  refine wpAnyH_take (i := 7) (oi := { dst := some 18, op := Go.Op.load 24 (Go.Operand.tmp 17), type := 24, pos := "ref.go:67", after := #[{ on := 6, ground := Go.Ground.data }, { on := 3, ground := Go.Ground.guard }], guard := some (3, false) }) (v := ?v77) rfl (by kernel_rfl) (by kernel_rfl) (by kernel_rfl) (fun _ _ _ h => h) (Or.inl ⟨by kernel_rfl, ?h77⟩) (by assumption) ?r77
  case h77 => (intro w hSw; (try dsimp only at hSw); go_simp; try with_reducible rfl)
  try simp only [Act.put, List.setIfInBounds_toArray, List.set_cons_zero, List.set_cons_succ]
  refine wpAnyH_take (i := 8) (oi := { dst := some 19, op := Go.Op.call { callee := Go.Callee.builtin Go.Builtin.len, args := #[Go.Operand.tmp 18], argTypes := #[24] }, type := 3, pos := "ref.go:67", after := #[{ on := 7, ground := Go.Ground.data }, { on := 3, ground := Go.Ground.guard }], guard := some (3, false) }) (v := ?v78) rfl (by kernel_rfl) (by kernel_rfl) (by kernel_rfl) (fun _ _ _ h => h) (Or.inl ⟨by kernel_rfl, ?h78⟩) (by assumption) ?r78
  case h78 => (intro w hSw; (try dsimp only at hSw); go_simp; try with_reducible rfl)
  try simp only [Act.put, List.setIfInBounds_toArray, List.set_cons_zero, List.set_cons_succ]
  refine wpAnyH_take (i := 9) (oi := { dst := some 20, op := Go.Op.binOp Go.BinOp.geq 3 (Go.Operand.tmp 16) (Go.Operand.tmp 19) 3, type := 4, pos := "ref.go:67", after := #[{ on := 5, ground := Go.Ground.data }, { on := 8, ground := Go.Ground.data }, { on := 3, ground := Go.Ground.guard }], guard := some (3, false) }) (v := ?v79) rfl (by kernel_rfl) (by kernel_rfl) (by kernel_rfl) (fun _ _ _ h => h) (Or.inl ⟨by kernel_rfl, ?h79⟩) (by assumption) ?r79
  case h79 => (intro w hSw; (try dsimp only at hSw); go_simp; try with_reducible rfl)
  try simp only [Act.put, List.setIfInBounds_toArray, List.set_cons_zero, List.set_cons_succ]
  refine wpAnyH_take (i := 10) (oi := { dst := some 21, op := Go.Op.pick (Go.Operand.tmp 14) (Go.Operand.const (Go.Value.bool true)) (Go.Operand.tmp 20), type := 4, pos := "ref.go:67", after := #[{ on := 3, ground := Go.Ground.data }, { on := 9, ground := Go.Ground.data }], guard := none }) (v := ?v80) rfl (by kernel_rfl) (by kernel_rfl) (by kernel_rfl) (fun _ _ _ h => h) (Or.inl ⟨by kernel_rfl, ?h80⟩) (by assumption) ?r80
  case h80 => (intro w hSw; (try dsimp only at hSw); go_simp; try with_reducible rfl)
  try simp only [Act.put, List.setIfInBounds_toArray, List.set_cons_zero, List.set_cons_succ]
  refine wpAnyH_take (i := 11) (oi := { dst := some 22, op := Go.Op.move (Go.Operand.tmp 21), type := 4, pos := "ref.go:67", after := #[{ on := 10, ground := Go.Ground.data }, { on := 3, ground := Go.Ground.chain }], guard := none }) (v := ?v81) rfl (by kernel_rfl) (by kernel_rfl) (by kernel_rfl) (fun _ _ _ h => h) (Or.inl ⟨by kernel_rfl, ?h81⟩) (by assumption) ?r81
  case h81 => (intro w hSw; (try dsimp only at hSw); go_simp; try with_reducible rfl)
  try simp only [Act.put, List.setIfInBounds_toArray, List.set_cons_zero, List.set_cons_succ]
  refine wpAnyH_take (i := 12) (oi := { dst := some 23, op := Go.Op.fieldAddr 26 (Go.Operand.tmp 3) 3, type := 0, pos := "ref.go:67", after := #[{ on := 11, ground := Go.Ground.guard }], guard := some (11, false) }) (v := ?v82) rfl (by kernel_rfl) (by kernel_rfl) (by kernel_rfl) (fun _ _ _ h => h) (Or.inl ⟨by kernel_rfl, ?h82⟩) (by assumption) ?r82
  case h82 => (intro w hSw; (try dsimp only at hSw); go_simp; try with_reducible rfl)
  try simp only [Act.put, List.setIfInBounds_toArray, List.set_cons_zero, List.set_cons_succ]
  refine wpAnyH_take (i := 13) (oi := { dst := some 24, op := Go.Op.load 24 (Go.Operand.tmp 23), type := 24, pos := "ref.go:67", after := #[{ on := 12, ground := Go.Ground.data }, { on := 11, ground := Go.Ground.guard }], guard := some (11, false) }) (v := ?v83) rfl (by kernel_rfl) (by kernel_rfl) (by kernel_rfl) (fun _ _ _ h => h) (Or.inl ⟨by kernel_rfl, ?h83⟩) (by assumption) ?r83
  case h83 => (intro w hSw; (try dsimp only at hSw); go_simp; try with_reducible rfl)
  try simp only [Act.put, List.setIfInBounds_toArray, List.set_cons_zero, List.set_cons_succ]
  refine wpAnyH_take (i := 14) (oi := { dst := some 25, op := Go.Op.fieldAddr 31 (Go.Operand.tmp 5) 0, type := 0, pos := "ref.go:67", after := #[{ on := 11, ground := Go.Ground.guard }], guard := some (11, false) }) (v := ?v84) rfl (by kernel_rfl) (by kernel_rfl) (by kernel_rfl) (fun _ _ _ h => h) (Or.inl ⟨by kernel_rfl, ?h84⟩) (by assumption) ?r84
  case h84 => (intro w hSw; (try dsimp only at hSw); go_simp; try with_reducible rfl)
  try simp only [Act.put, List.setIfInBounds_toArray, List.set_cons_zero, List.set_cons_succ]
  refine wpAnyH_take (i := 15) (oi := { dst := some 26, op := Go.Op.load 3 (Go.Operand.tmp 25), type := 3, pos := "ref.go:67", after := #[{ on := 14, ground := Go.Ground.data }, { on := 11, ground := Go.Ground.guard }], guard := some (11, false) }) (v := ?v85) rfl (by kernel_rfl) (by kernel_rfl) (by kernel_rfl) (fun _ _ _ h => h) (Or.inl ⟨by kernel_rfl, ?h85⟩) (by assumption) ?r85
  case h85 => (intro w hSw; (try dsimp only at hSw); go_simp; try with_reducible rfl)
  try simp only [Act.put, List.setIfInBounds_toArray, List.set_cons_zero, List.set_cons_succ]
  refine wpAnyH_take (i := 16) (oi := { dst := some 27, op := Go.Op.indexAddr 24 (Go.Operand.tmp 24) (Go.Operand.tmp 26), type := 0, pos := "ref.go:67", after := #[{ on := 13, ground := Go.Ground.data }, { on := 15, ground := Go.Ground.data }, { on := 11, ground := Go.Ground.guard }], guard := some (11, false) }) (v := ?v86) rfl (by kernel_rfl) (by kernel_rfl) (by kernel_rfl) (fun _ _ _ h => h) (Or.inl ⟨by kernel_rfl, ?h86⟩) (by assumption) ?r86
  case h86 => (intro w hSw; (try dsimp only at hSw); go_simp; try with_reducible rfl)
  try simp only [Act.put, List.setIfInBounds_toArray, List.set_cons_zero, List.set_cons_succ]
  refine wpAnyH_take (i := 17) (oi := { dst := some 28, op := Go.Op.fieldAddr 56 (Go.Operand.tmp 27) 0, type := 0, pos := "ref.go:67", after := #[{ on := 16, ground := Go.Ground.data }, { on := 11, ground := Go.Ground.guard }], guard := some (11, false) }) (v := ?v87) rfl (by kernel_rfl) (by kernel_rfl) (by kernel_rfl) (fun _ _ _ h => h) (Or.inl ⟨by kernel_rfl, ?h87⟩) (by assumption) ?r87
  case h87 => (intro w hSw; (try dsimp only at hSw); go_simp; try with_reducible rfl)
  try simp only [Act.put, List.setIfInBounds_toArray, List.set_cons_zero, List.set_cons_succ]
  refine wpAnyH_take (i := 18) (oi := { dst := some 29, op := Go.Op.load 3 (Go.Operand.tmp 28), type := 3, pos := "ref.go:67", after := #[{ on := 17, ground := Go.Ground.data }, { on := 11, ground := Go.Ground.guard }], guard := some (11, false) }) (v := ?v88) rfl (by kernel_rfl) (by kernel_rfl) (by kernel_rfl) (fun _ _ _ h => h) (Or.inl ⟨by kernel_rfl, ?h88⟩) (by assumption) ?r88
  case h88 => (intro w hSw; (try dsimp only at hSw); go_simp; try with_reducible rfl)
  try simp only [Act.put, List.setIfInBounds_toArray, List.set_cons_zero, List.set_cons_succ]
  refine wpAnyH_take (i := 19) (oi := { dst := some 30, op := Go.Op.fieldAddr 29 (Go.Operand.tmp 4) 0, type := 0, pos := "ref.go:67", after := #[{ on := 11, ground := Go.Ground.guard }], guard := some (11, false) }) (v := ?v89) rfl (by kernel_rfl) (by kernel_rfl) (by kernel_rfl) (fun _ _ _ h => h) (Or.inl ⟨by kernel_rfl, ?h89⟩) (by assumption) ?r89
  case h89 => (intro w hSw; (try dsimp only at hSw); go_simp; try with_reducible rfl)
  try simp only [Act.put, List.setIfInBounds_toArray, List.set_cons_zero, List.set_cons_succ]
  refine wpAnyH_take (i := 20) (oi := { dst := some 31, op := Go.Op.load 3 (Go.Operand.tmp 30), type := 3, pos := "ref.go:67", after := #[{ on := 19, ground := Go.Ground.data }, { on := 11, ground := Go.Ground.guard }], guard := some (11, false) }) (v := ?v90) rfl (by kernel_rfl) (by kernel_rfl) (by kernel_rfl) (fun _ _ _ h => h) (Or.inl ⟨by kernel_rfl, ?h90⟩) (by assumption) ?r90
  case h90 => (intro w hSw; (try dsimp only at hSw); go_simp; try with_reducible rfl)
  try simp only [Act.put, List.setIfInBounds_toArray, List.set_cons_zero, List.set_cons_succ]
  refine wpAnyH_take (i := 21) (oi := { dst := some 32, op := Go.Op.binOp Go.BinOp.neq 3 (Go.Operand.tmp 29) (Go.Operand.tmp 31) 3, type := 4, pos := "ref.go:67", after := #[{ on := 18, ground := Go.Ground.data }, { on := 20, ground := Go.Ground.data }, { on := 11, ground := Go.Ground.guard }], guard := some (11, false) }) (v := ?v91) rfl (by kernel_rfl) (by kernel_rfl) (by kernel_rfl) (fun _ _ _ h => h) (Or.inl ⟨by kernel_rfl, ?h91⟩) (by assumption) ?r91
  case h91 => (intro w hSw; (try dsimp only at hSw); go_simp; try with_reducible rfl)
  try simp only [Act.put, List.setIfInBounds_toArray, List.set_cons_zero, List.set_cons_succ]
  refine wpAnyH_take (i := 22) (oi := { dst := some 33, op := Go.Op.pick (Go.Operand.tmp 22) (Go.Operand.const (Go.Value.bool true)) (Go.Operand.tmp 32), type := 4, pos := "ref.go:67", after := #[{ on := 11, ground := Go.Ground.data }, { on := 21, ground := Go.Ground.data }], guard := none }) (v := ?v92) rfl (by kernel_rfl) (by kernel_rfl) (by kernel_rfl) (fun _ _ _ h => h) (Or.inl ⟨by kernel_rfl, ?h92⟩) (by assumption) ?r92
  case h92 => (intro w hSw; (try dsimp only at hSw); go_simp; try with_reducible rfl)
  try simp only [Act.put, List.setIfInBounds_toArray, List.set_cons_zero, List.set_cons_succ]
  refine wpAnyH_done (by kernel_rfl) ?_ _
  obtain ⟨X2, hX2⟩ : ∃ X2, X2 = W1.drew := ⟨_, rfl⟩
  rw [← hX2] at hHeld ⊢
  replace Z0 := Lib.hid (Z0.out.below hHeld Z0.out.lt)
  replace Z1 := Lib.hid (Z1.out.below hHeld Z1.out.lt)
  replace Z2 := Lib.hid (Z2.out.below hHeld Z2.out.lt)
  replace Z3 := Lib.hid (Z3.out.below hHeld Z3.out.lt)
  replace S := Lib.hid (S.out.below hHeld)
  replace BL := Lib.hid (BL.out.trans (hHeld.mono BL.out.size))
  have y0 := (hHeld.cell (p := ⟨b, off + E * 7, none⟩) hb2).trans Y0.out
  have y1 := (hHeld.cell (p := ⟨b, off + E * 7 + 1, none⟩) hb2).trans Y1.out
  have y2 := (hHeld.cell (p := ⟨b, off + E * 7 + 2, none⟩) hb2).trans Y2.out
  have y3 := (hHeld.cell (p := ⟨b, off + E * 7 + 3, none⟩) hb2).trans Y3.out
  have y4 := (hHeld.cell (p := ⟨b, off + E * 7 + 4, none⟩) hb2).trans Y4.out
  have y5 := (hHeld.cell (p := ⟨b, off + E * 7 + 5, none⟩) hb2).trans Y5.out
  have y6 := (hHeld.cell (p := ⟨b, off + E * 7 + 6, none⟩) hb2).trans Y6.out
  have hb3 : b < X2.heap.size := Nat.lt_of_lt_of_le hb2 hHeld.size
  clear hX2 hHeld f0 f1 f2 X0 hb2
  have k0 := Z0.out.cell 3
  have k1 := Z2.out.cell 0
  simp at k0 k1
  go_upto_region 4 with (fail)
  obtain ⟨X3, hX3⟩ : ∃ X3, X3 = X2.alloc (.cells #[.int .i64 pt, .int .i64 ds, .int .i64 k, .int .i64 x, .int .i64 y, .int .i64 cc, .int .i64 d] 56) := ⟨_, rfl⟩
  rw [← hX3]
  have B3 : Below X2.heap.size X2 X3 := by rw [hX3]; exact box_below _ _ _
  have ZE : Hid (Holds X3 X2.heap.size 56 #[.int .i64 pt, .int .i64 ds, .int .i64 k, .int .i64 x, .int .i64 y, .int .i64 cc, .int .i64 d]) := Lib.hid (by rw [hX3]; exact Holds.new _ _ _)
  replace Z1 := Lib.hid (Z1.out.below B3 Z1.out.lt)
  replace Z2 := Lib.hid (Z2.out.below B3 Z2.out.lt)
  replace Z3 := Lib.hid (Z3.out.below B3 Z3.out.lt)
  replace S := Lib.hid (S.out.below B3)
  replace BL := Lib.hid (BL.out.trans (B3.mono BL.out.size))
  clear hX3 B3 k0 k1 Z0 y0 y1 y2 y3 y4 y5 y6 Y0 Y1 Y2 Y3 Y4 Y5 Y6 hb3
  have k0 := ZE.out.cell 0
  have k1 := ZE.out.cell 1
  have k2 := ZE.out.cell 2
  have k3 := ZE.out.cell 3
  have k4 := ZE.out.cell 4
  have k5 := ZE.out.cell 5
  have k6 := ZE.out.cell 6
  have j0 := Z1.out.cell 1
  have j1 := Z2.out.cell 1
  simp at k0 k1 k2 k3 k4 k5 k6 j0 j1
  go_wp2_with fail
  with_reducible refine (hq'.out _ S.out).mono ?_
  rintro e X4 ⟨a', n', c', rfl, hS4, b4, hfr4⟩
  have hfr := Lib.hid hfr4
  have hz3 := Lib.hid Z3.out.lt
  have S4 := Lib.hid hS4
  replace Z3 := Lib.hid (Z3.out.below b4 Z3.out.lt)
  replace ZE := Lib.hid (ZE.out.below b4 ZE.out.lt)
  replace BL := Lib.hid (BL.out.trans (b4.mono BL.out.size))
  clear k0 k1 k2 k3 k4 k5 k6 j0 j1 hS4 b4 hfr4
  have k0 := ZE.out.cell 1
  have j0 := Z3.out.cell 0
  have j1 := Z3.out.cell 1
  have i0 := Z3.out.free 0
  have i1 := Z3.out.free 1
  simp at k0 j0 j1
  go_wp2
  exact state_ret2 (state_set Z3.out _ _) ⟨a', n', c', rfl, sl_set2 S4.out _ _ _ (fun p hp => by have := hfr.out p hp; have := hz3.out; omega), belT BL.out (by omega) _ _, fun p hp => by have := hfr.out p hp; have := hz3.out; omega⟩ _ _ 6 7 rfl rfl rfl rfl
set_option maxRecDepth 100000 in
set_option maxHeartbeats 16000000 in
theorem rstep_f (pnm : ByteArray) (pa1 : Option Addr) (pn1 pc1 : Nat) (pa2 : Option Addr) (pn2 pc2 : Nat) (pa3 : Option Addr) (pn3 pc3 : Nat) (D : PD) (pt : Int) (a : Option Addr) (n c : Nat) (l : List Int) (E : Nat) (v : Int) (he : E < pn3) (ds k x y cc d : Int) (hE : D.edges.getD E edge0 = (⟨pt, ds, k, x, y, cc, d⟩ : EdgeD)) (l' : List Int) (err : Int) (herr : ¬ err = 0)
    (hq : ∀ W, SL W a n c l → Calls Tryd.prog 27 #[.agg #[.int .i64 k, .int .i64 x, .int .i64 y, .int .i64 cc, .int .i64 d], .slice a n c, .int .i64 v] W (DoE l' err W)) (w : World) (h : PrA w ⟨pnm, pa1, pn1, pc1, pa2, pn2, pc2, pa3, pn3, pc3⟩ D) (hs : SL w a n c l) :
    Calls Tryd.prog 13 #[.agg #[.string pnm, .slice pa1 pn1 pc1, .slice pa2 pn2 pc2, .slice pa3 pn3 pc3], .agg #[.int .i64 pt, .slice a n c], .agg #[.int .i64 (E : Int), .int .i64 v]] w (StE 0 [] err w) := by
  obtain ⟨b, off, ha3, -⟩ := edges_at h.edges (i := E) he
  obtain ⟨W1, hW1⟩ : ∃ W1, W1 = (((w.alloc (.cells #[.string pnm, .slice pa1 pn1 pc1, .slice pa2 pn2 pc2, .slice pa3 pn3 pc3] 26)).alloc (.cells #[.int .i64 pt, .slice a n c] 29)).alloc (.cells #[.int .i64 (E : Int), .int .i64 v] 31)).alloc (.cells #[.int .i64 0, .slice none 0 0] 29) := ⟨_, rfl⟩
  have BL : Hid (Below w.heap.size w W1) := Lib.hid (by rw [hW1]; exact ((((Below.refl _ _).alloc (Nat.le_refl _) _).alloc (by simp) _).alloc (by simp; omega) _).alloc (by simp; omega) _)
  have Z0 : Hid (Holds W1 w.heap.size 26 #[.string pnm, .slice pa1 pn1 pc1, .slice pa2 pn2 pc2, .slice pa3 pn3 pc3]) := Lib.hid (by rw [hW1]; exact (((Holds.new w _ _).alloc _).alloc _).alloc _)
  have Z1 : Hid (Holds W1 (w.heap.size + 1) 29 #[.int .i64 pt, .slice a n c]) := Lib.hid (by rw [hW1]; have q := ((Holds.new (w.alloc (.cells #[.string pnm, .slice pa1 pn1 pc1, .slice pa2 pn2 pc2, .slice pa3 pn3 pc3] 26)) 29 #[.int .i64 pt, .slice a n c]).alloc (.cells #[.int .i64 (E : Int), .int .i64 v] 31)).alloc (.cells #[.int .i64 0, .slice none 0 0] 29); simpa using q)
  have Z2 : Hid (Holds W1 (w.heap.size + 2) 31 #[.int .i64 (E : Int), .int .i64 v]) := Lib.hid (by rw [hW1]; have q := (Holds.new ((w.alloc (.cells #[.string pnm, .slice pa1 pn1 pc1, .slice pa2 pn2 pc2, .slice pa3 pn3 pc3] 26)).alloc (.cells #[.int .i64 pt, .slice a n c] 29)) 31 #[.int .i64 (E : Int), .int .i64 v]).alloc (.cells #[.int .i64 0, .slice none 0 0] 29); simpa using q)
  have Z3 : Hid (Holds W1 (w.heap.size + 3) 29 #[.int .i64 0, .slice none 0 0]) := Lib.hid (by rw [hW1]; have q := Holds.new (((w.alloc (.cells #[.string pnm, .slice pa1 pn1 pc1, .slice pa2 pn2 pc2, .slice pa3 pn3 pc3] 26)).alloc (.cells #[.int .i64 pt, .slice a n c] 29)).alloc (.cells #[.int .i64 (E : Int), .int .i64 v] 31)) 29 #[.int .i64 0, .slice none 0 0]; simpa using q)
  have hW1' := Lib.hid hW1
  clear hW1
  subst ha3
  obtain ⟨b', off', hab, hbl, y0, y1, y2, y3, y4, y5, y6⟩ := edges_at (h.edges.below BL.out) he
  injection hab with hab
  injection hab with hab1 hab2
  subst hab1 hab2
  rw [hE] at y0 y1 y2 y3 y4 y5 y6
  dsimp only at y0 y1 y2 y3 y4 y5 y6
  have hb2 : b < W1.heap.size := hbl
  clear hbl
  have d1 : ¬ (E : Int) < 0 := by omega
  have d2 : ¬ (pn3 : Int) ≤ (E : Int) := by omega
  have d3 : (E : Int) < (pn3 : Int) := by omega
  have d4 : ¬ pn3 ≤ E := by omega
  have f0 : ∀ W, Below W1.heap.size W1 W → W.cell? ⟨w.heap.size + 2, 0, none⟩ = some (.int .i64 (E : Int)) := fun W hW => (Z2.out.below hW Z2.out.lt).cell 0
  have f1 : ∀ W, Below W1.heap.size W1 W → W.cell? ⟨w.heap.size, 3, none⟩ = some (.slice (some ⟨b, off, none⟩) pn3 pc3) := fun W hW => (Z0.out.below hW Z0.out.lt).cell 3
  have f2 : ∀ W, Below W1.heap.size W1 W → W.cell? ⟨w.heap.size + 1, 0, none⟩ = some (.int .i64 pt) := fun W hW => (Z1.out.below hW Z1.out.lt).cell 0
  have X0 : ∀ W, Below W1.heap.size W1 W → W.cell? ⟨b, off + E * 7, none⟩ = some (.int .i64 pt) := fun W hW => (hW.cell (p := ⟨b, off + E * 7, none⟩) hb2).trans y0
  have d5 : (pt != pt) = false := by simp
  have S := Lib.hid (hs.below BL.out)
  have Y0 : Hid (W1.cell? ⟨b, off + E * 7, none⟩ = some (.int .i64 pt)) := Lib.hid y0
  have Y1 : Hid (W1.cell? ⟨b, off + E * 7 + 1, none⟩ = some (.int .i64 ds)) := Lib.hid y1
  have Y2 : Hid (W1.cell? ⟨b, off + E * 7 + 2, none⟩ = some (.int .i64 k)) := Lib.hid y2
  have Y3 : Hid (W1.cell? ⟨b, off + E * 7 + 3, none⟩ = some (.int .i64 x)) := Lib.hid y3
  have Y4 : Hid (W1.cell? ⟨b, off + E * 7 + 4, none⟩ = some (.int .i64 y)) := Lib.hid y4
  have Y5 : Hid (W1.cell? ⟨b, off + E * 7 + 5, none⟩ = some (.int .i64 cc)) := Lib.hid y5
  have Y6 : Hid (W1.cell? ⟨b, off + E * 7 + 6, none⟩ = some (.int .i64 d)) := Lib.hid y6
  have hq' := Lib.hid hq
  have de : (err != 0) = true := by simp [herr]
  clear h hs hE he hq y0 y1 y2 y3 y4 y5 y6 herr
  go_enter Tryd.func13, Tryd.ntmps13
  go_wp2
  rw [← hW1'.out]
  clear hW1'
  refine wp_drawn_on (fun W => Below W1.heap.size W1 W) (by kernel_rfl) ((Below.refl _ _).drew) (fun hHeld => ?_)
  refine wpAnyH_take (i := 0) (oi := { dst := some 11, op := Go.Op.fieldAddr 31 (Go.Operand.tmp 5) 0, type := 0, pos := "ref.go:67", after := #[], guard := none }) (v := ?v93) rfl (by kernel_rfl) (by kernel_rfl) (by kernel_rfl) (fun _ _ _ h => h) (Or.inl ⟨by kernel_rfl, ?h93⟩) (by assumption) ?r93
  case h93 => (intro w hSw; (try dsimp only at hSw); go_simp; try with_reducible rfl)
  try simp only [Act.put, List.setIfInBounds_toArray, List.set_cons_zero, List.set_cons_succ]
  refine wpAnyH_take (i := 1) (oi := { dst := some 12, op := Go.Op.load 3 (Go.Operand.tmp 11), type := 3, pos := "ref.go:67", after := #[{ on := 0, ground := Go.Ground.data }], guard := none }) (v := ?v94) rfl (by kernel_rfl) (by kernel_rfl) (by kernel_rfl) (fun _ _ _ h => h) (Or.inl ⟨by kernel_rfl, ?h94⟩) (by assumption) ?r94
  case h94 => (intro w hSw; (try dsimp only at hSw); go_simp; try with_reducible rfl)
  try simp only [Act.put, List.setIfInBounds_toArray, List.set_cons_zero, List.set_cons_succ]
  refine wpAnyH_take (i := 2) (oi := { dst := some 13, op := Go.Op.binOp Go.BinOp.lss 3 (Go.Operand.tmp 12) (Go.Operand.const (Go.Value.int Go.IntKind.i64 0)) 3, type := 4, pos := "ref.go:67", after := #[{ on := 1, ground := Go.Ground.data }], guard := none }) (v := ?v95) rfl (by kernel_rfl) (by kernel_rfl) (by kernel_rfl) (fun _ _ _ h => h) (Or.inl ⟨by kernel_rfl, ?h95⟩) (by assumption) ?r95
  case h95 => (intro w hSw; (try dsimp only at hSw); go_simp; try with_reducible rfl)
  try simp only [Act.put, List.setIfInBounds_toArray, List.set_cons_zero, List.set_cons_succ]
  refine wpAnyH_take (i := 3) (oi := { dst := some 14, op := Go.Op.move (Go.Operand.tmp 13), type := 4, pos := "ref.go:67", after := #[{ on := 2, ground := Go.Ground.data }], guard := none }) (v := ?v96) rfl (by kernel_rfl) (by kernel_rfl) (by kernel_rfl) (fun _ _ _ h => h) (Or.inl ⟨by kernel_rfl, ?h96⟩) (by assumption) ?r96
  case h96 => (intro w hSw; (try dsimp only at hSw); go_simp; try with_reducible rfl)
  try simp only [Act.put, List.setIfInBounds_toArray, List.set_cons_zero, List.set_cons_succ]
  refine wpAnyH_take (i := 4) (oi := { dst := some 15, op := Go.Op.fieldAddr 31 (Go.Operand.tmp 5) 0, type := 0, pos := "ref.go:67", after := #[{ on := 3, ground := Go.Ground.guard }], guard := some (3, false) }) (v := ?v97) rfl (by kernel_rfl) (by kernel_rfl) (by kernel_rfl) (fun _ _ _ h => h) (Or.inl ⟨by kernel_rfl, ?h97⟩) (by assumption) ?r97
  case h97 => (intro w hSw; (try dsimp only at hSw); go_simp; try with_reducible rfl)
  try simp only [Act.put, List.setIfInBounds_toArray, List.set_cons_zero, List.set_cons_succ]
  refine wpAnyH_take (i := 5) (oi := { dst := some 16, op := Go.Op.load 3 (Go.Operand.tmp 15), type := 3, pos := "ref.go:67", after := #[{ on := 4, ground := Go.Ground.data }, { on := 3, ground := Go.Ground.guard }], guard := some (3, false) }) (v := ?v98) rfl (by kernel_rfl) (by kernel_rfl) (by kernel_rfl) (fun _ _ _ h => h) (Or.inl ⟨by kernel_rfl, ?h98⟩) (by assumption) ?r98
  case h98 => (intro w hSw; (try dsimp only at hSw); go_simp; try with_reducible rfl)
  try simp only [Act.put, List.setIfInBounds_toArray, List.set_cons_zero, List.set_cons_succ]
  refine wpAnyH_take (i := 6) (oi := { dst := some 17, op := Go.Op.fieldAddr 26 (Go.Operand.tmp 3) 3, type := 0, pos := "ref.go:67", after := #[{ on := 3, ground := Go.Ground.guard }], guard := some (3, false) }) (v := ?v99) rfl (by kernel_rfl) (by kernel_rfl) (by kernel_rfl) (fun _ _ _ h => h) (Or.inl ⟨by kernel_rfl, ?h99⟩) (by assumption) ?r99
  case h99 => (intro w hSw; (try dsimp only at hSw); go_simp; try with_reducible rfl)
  try simp only [Act.put, List.setIfInBounds_toArray, List.set_cons_zero, List.set_cons_succ]
  refine wpAnyH_take (i := 7) (oi := { dst := some 18, op := Go.Op.load 24 (Go.Operand.tmp 17), type := 24, pos := "ref.go:67", after := #[{ on := 6, ground := Go.Ground.data }, { on := 3, ground := Go.Ground.guard }], guard := some (3, false) }) (v := ?v100) rfl (by kernel_rfl) (by kernel_rfl) (by kernel_rfl) (fun _ _ _ h => h) (Or.inl ⟨by kernel_rfl, ?h100⟩) (by assumption) ?r100
  case h100 => (intro w hSw; (try dsimp only at hSw); go_simp; try with_reducible rfl)
  try simp only [Act.put, List.setIfInBounds_toArray, List.set_cons_zero, List.set_cons_succ]
  refine wpAnyH_take (i := 8) (oi := { dst := some 19, op := Go.Op.call { callee := Go.Callee.builtin Go.Builtin.len, args := #[Go.Operand.tmp 18], argTypes := #[24] }, type := 3, pos := "ref.go:67", after := #[{ on := 7, ground := Go.Ground.data }, { on := 3, ground := Go.Ground.guard }], guard := some (3, false) }) (v := ?v101) rfl (by kernel_rfl) (by kernel_rfl) (by kernel_rfl) (fun _ _ _ h => h) (Or.inl ⟨by kernel_rfl, ?h101⟩) (by assumption) ?r101
  case h101 => (intro w hSw; (try dsimp only at hSw); go_simp; try with_reducible rfl)
  try simp only [Act.put, List.setIfInBounds_toArray, List.set_cons_zero, List.set_cons_succ]
  refine wpAnyH_take (i := 9) (oi := { dst := some 20, op := Go.Op.binOp Go.BinOp.geq 3 (Go.Operand.tmp 16) (Go.Operand.tmp 19) 3, type := 4, pos := "ref.go:67", after := #[{ on := 5, ground := Go.Ground.data }, { on := 8, ground := Go.Ground.data }, { on := 3, ground := Go.Ground.guard }], guard := some (3, false) }) (v := ?v102) rfl (by kernel_rfl) (by kernel_rfl) (by kernel_rfl) (fun _ _ _ h => h) (Or.inl ⟨by kernel_rfl, ?h102⟩) (by assumption) ?r102
  case h102 => (intro w hSw; (try dsimp only at hSw); go_simp; try with_reducible rfl)
  try simp only [Act.put, List.setIfInBounds_toArray, List.set_cons_zero, List.set_cons_succ]
  refine wpAnyH_take (i := 10) (oi := { dst := some 21, op := Go.Op.pick (Go.Operand.tmp 14) (Go.Operand.const (Go.Value.bool true)) (Go.Operand.tmp 20), type := 4, pos := "ref.go:67", after := #[{ on := 3, ground := Go.Ground.data }, { on := 9, ground := Go.Ground.data }], guard := none }) (v := ?v103) rfl (by kernel_rfl) (by kernel_rfl) (by kernel_rfl) (fun _ _ _ h => h) (Or.inl ⟨by kernel_rfl, ?h103⟩) (by assumption) ?r103
  case h103 => (intro w hSw; (try dsimp only at hSw); go_simp; try with_reducible rfl)
  try simp only [Act.put, List.setIfInBounds_toArray, List.set_cons_zero, List.set_cons_succ]
  refine wpAnyH_take (i := 11) (oi := { dst := some 22, op := Go.Op.move (Go.Operand.tmp 21), type := 4, pos := "ref.go:67", after := #[{ on := 10, ground := Go.Ground.data }, { on := 3, ground := Go.Ground.chain }], guard := none }) (v := ?v104) rfl (by kernel_rfl) (by kernel_rfl) (by kernel_rfl) (fun _ _ _ h => h) (Or.inl ⟨by kernel_rfl, ?h104⟩) (by assumption) ?r104
  case h104 => (intro w hSw; (try dsimp only at hSw); go_simp; try with_reducible rfl)
  try simp only [Act.put, List.setIfInBounds_toArray, List.set_cons_zero, List.set_cons_succ]
  refine wpAnyH_take (i := 12) (oi := { dst := some 23, op := Go.Op.fieldAddr 26 (Go.Operand.tmp 3) 3, type := 0, pos := "ref.go:67", after := #[{ on := 11, ground := Go.Ground.guard }], guard := some (11, false) }) (v := ?v105) rfl (by kernel_rfl) (by kernel_rfl) (by kernel_rfl) (fun _ _ _ h => h) (Or.inl ⟨by kernel_rfl, ?h105⟩) (by assumption) ?r105
  case h105 => (intro w hSw; (try dsimp only at hSw); go_simp; try with_reducible rfl)
  try simp only [Act.put, List.setIfInBounds_toArray, List.set_cons_zero, List.set_cons_succ]
  refine wpAnyH_take (i := 13) (oi := { dst := some 24, op := Go.Op.load 24 (Go.Operand.tmp 23), type := 24, pos := "ref.go:67", after := #[{ on := 12, ground := Go.Ground.data }, { on := 11, ground := Go.Ground.guard }], guard := some (11, false) }) (v := ?v106) rfl (by kernel_rfl) (by kernel_rfl) (by kernel_rfl) (fun _ _ _ h => h) (Or.inl ⟨by kernel_rfl, ?h106⟩) (by assumption) ?r106
  case h106 => (intro w hSw; (try dsimp only at hSw); go_simp; try with_reducible rfl)
  try simp only [Act.put, List.setIfInBounds_toArray, List.set_cons_zero, List.set_cons_succ]
  refine wpAnyH_take (i := 14) (oi := { dst := some 25, op := Go.Op.fieldAddr 31 (Go.Operand.tmp 5) 0, type := 0, pos := "ref.go:67", after := #[{ on := 11, ground := Go.Ground.guard }], guard := some (11, false) }) (v := ?v107) rfl (by kernel_rfl) (by kernel_rfl) (by kernel_rfl) (fun _ _ _ h => h) (Or.inl ⟨by kernel_rfl, ?h107⟩) (by assumption) ?r107
  case h107 => (intro w hSw; (try dsimp only at hSw); go_simp; try with_reducible rfl)
  try simp only [Act.put, List.setIfInBounds_toArray, List.set_cons_zero, List.set_cons_succ]
  refine wpAnyH_take (i := 15) (oi := { dst := some 26, op := Go.Op.load 3 (Go.Operand.tmp 25), type := 3, pos := "ref.go:67", after := #[{ on := 14, ground := Go.Ground.data }, { on := 11, ground := Go.Ground.guard }], guard := some (11, false) }) (v := ?v108) rfl (by kernel_rfl) (by kernel_rfl) (by kernel_rfl) (fun _ _ _ h => h) (Or.inl ⟨by kernel_rfl, ?h108⟩) (by assumption) ?r108
  case h108 => (intro w hSw; (try dsimp only at hSw); go_simp; try with_reducible rfl)
  try simp only [Act.put, List.setIfInBounds_toArray, List.set_cons_zero, List.set_cons_succ]
  refine wpAnyH_take (i := 16) (oi := { dst := some 27, op := Go.Op.indexAddr 24 (Go.Operand.tmp 24) (Go.Operand.tmp 26), type := 0, pos := "ref.go:67", after := #[{ on := 13, ground := Go.Ground.data }, { on := 15, ground := Go.Ground.data }, { on := 11, ground := Go.Ground.guard }], guard := some (11, false) }) (v := ?v109) rfl (by kernel_rfl) (by kernel_rfl) (by kernel_rfl) (fun _ _ _ h => h) (Or.inl ⟨by kernel_rfl, ?h109⟩) (by assumption) ?r109
  case h109 => (intro w hSw; (try dsimp only at hSw); go_simp; try with_reducible rfl)
  try simp only [Act.put, List.setIfInBounds_toArray, List.set_cons_zero, List.set_cons_succ]
  refine wpAnyH_take (i := 17) (oi := { dst := some 28, op := Go.Op.fieldAddr 56 (Go.Operand.tmp 27) 0, type := 0, pos := "ref.go:67", after := #[{ on := 16, ground := Go.Ground.data }, { on := 11, ground := Go.Ground.guard }], guard := some (11, false) }) (v := ?v110) rfl (by kernel_rfl) (by kernel_rfl) (by kernel_rfl) (fun _ _ _ h => h) (Or.inl ⟨by kernel_rfl, ?h110⟩) (by assumption) ?r110
  case h110 => (intro w hSw; (try dsimp only at hSw); go_simp; try with_reducible rfl)
  try simp only [Act.put, List.setIfInBounds_toArray, List.set_cons_zero, List.set_cons_succ]
  refine wpAnyH_take (i := 18) (oi := { dst := some 29, op := Go.Op.load 3 (Go.Operand.tmp 28), type := 3, pos := "ref.go:67", after := #[{ on := 17, ground := Go.Ground.data }, { on := 11, ground := Go.Ground.guard }], guard := some (11, false) }) (v := ?v111) rfl (by kernel_rfl) (by kernel_rfl) (by kernel_rfl) (fun _ _ _ h => h) (Or.inl ⟨by kernel_rfl, ?h111⟩) (by assumption) ?r111
  case h111 => (intro w hSw; (try dsimp only at hSw); go_simp; try with_reducible rfl)
  try simp only [Act.put, List.setIfInBounds_toArray, List.set_cons_zero, List.set_cons_succ]
  refine wpAnyH_take (i := 19) (oi := { dst := some 30, op := Go.Op.fieldAddr 29 (Go.Operand.tmp 4) 0, type := 0, pos := "ref.go:67", after := #[{ on := 11, ground := Go.Ground.guard }], guard := some (11, false) }) (v := ?v112) rfl (by kernel_rfl) (by kernel_rfl) (by kernel_rfl) (fun _ _ _ h => h) (Or.inl ⟨by kernel_rfl, ?h112⟩) (by assumption) ?r112
  case h112 => (intro w hSw; (try dsimp only at hSw); go_simp; try with_reducible rfl)
  try simp only [Act.put, List.setIfInBounds_toArray, List.set_cons_zero, List.set_cons_succ]
  refine wpAnyH_take (i := 20) (oi := { dst := some 31, op := Go.Op.load 3 (Go.Operand.tmp 30), type := 3, pos := "ref.go:67", after := #[{ on := 19, ground := Go.Ground.data }, { on := 11, ground := Go.Ground.guard }], guard := some (11, false) }) (v := ?v113) rfl (by kernel_rfl) (by kernel_rfl) (by kernel_rfl) (fun _ _ _ h => h) (Or.inl ⟨by kernel_rfl, ?h113⟩) (by assumption) ?r113
  case h113 => (intro w hSw; (try dsimp only at hSw); go_simp; try with_reducible rfl)
  try simp only [Act.put, List.setIfInBounds_toArray, List.set_cons_zero, List.set_cons_succ]
  refine wpAnyH_take (i := 21) (oi := { dst := some 32, op := Go.Op.binOp Go.BinOp.neq 3 (Go.Operand.tmp 29) (Go.Operand.tmp 31) 3, type := 4, pos := "ref.go:67", after := #[{ on := 18, ground := Go.Ground.data }, { on := 20, ground := Go.Ground.data }, { on := 11, ground := Go.Ground.guard }], guard := some (11, false) }) (v := ?v114) rfl (by kernel_rfl) (by kernel_rfl) (by kernel_rfl) (fun _ _ _ h => h) (Or.inl ⟨by kernel_rfl, ?h114⟩) (by assumption) ?r114
  case h114 => (intro w hSw; (try dsimp only at hSw); go_simp; try with_reducible rfl)
  try simp only [Act.put, List.setIfInBounds_toArray, List.set_cons_zero, List.set_cons_succ]
  refine wpAnyH_take (i := 22) (oi := { dst := some 33, op := Go.Op.pick (Go.Operand.tmp 22) (Go.Operand.const (Go.Value.bool true)) (Go.Operand.tmp 32), type := 4, pos := "ref.go:67", after := #[{ on := 11, ground := Go.Ground.data }, { on := 21, ground := Go.Ground.data }], guard := none }) (v := ?v115) rfl (by kernel_rfl) (by kernel_rfl) (by kernel_rfl) (fun _ _ _ h => h) (Or.inl ⟨by kernel_rfl, ?h115⟩) (by assumption) ?r115
  case h115 => (intro w hSw; (try dsimp only at hSw); go_simp; try with_reducible rfl)
  try simp only [Act.put, List.setIfInBounds_toArray, List.set_cons_zero, List.set_cons_succ]
  refine wpAnyH_done (by kernel_rfl) ?_ _
  obtain ⟨X2, hX2⟩ : ∃ X2, X2 = W1.drew := ⟨_, rfl⟩
  rw [← hX2] at hHeld ⊢
  replace Z0 := Lib.hid (Z0.out.below hHeld Z0.out.lt)
  replace Z1 := Lib.hid (Z1.out.below hHeld Z1.out.lt)
  replace Z2 := Lib.hid (Z2.out.below hHeld Z2.out.lt)
  replace Z3 := Lib.hid (Z3.out.below hHeld Z3.out.lt)
  replace S := Lib.hid (S.out.below hHeld)
  replace BL := Lib.hid (BL.out.trans (hHeld.mono BL.out.size))
  have y0 := (hHeld.cell (p := ⟨b, off + E * 7, none⟩) hb2).trans Y0.out
  have y1 := (hHeld.cell (p := ⟨b, off + E * 7 + 1, none⟩) hb2).trans Y1.out
  have y2 := (hHeld.cell (p := ⟨b, off + E * 7 + 2, none⟩) hb2).trans Y2.out
  have y3 := (hHeld.cell (p := ⟨b, off + E * 7 + 3, none⟩) hb2).trans Y3.out
  have y4 := (hHeld.cell (p := ⟨b, off + E * 7 + 4, none⟩) hb2).trans Y4.out
  have y5 := (hHeld.cell (p := ⟨b, off + E * 7 + 5, none⟩) hb2).trans Y5.out
  have y6 := (hHeld.cell (p := ⟨b, off + E * 7 + 6, none⟩) hb2).trans Y6.out
  have hb3 : b < X2.heap.size := Nat.lt_of_lt_of_le hb2 hHeld.size
  clear hX2 hHeld f0 f1 f2 X0 hb2
  have k0 := Z0.out.cell 3
  have k1 := Z2.out.cell 0
  simp at k0 k1
  go_upto_region 4 with (fail)
  obtain ⟨X3, hX3⟩ : ∃ X3, X3 = X2.alloc (.cells #[.int .i64 pt, .int .i64 ds, .int .i64 k, .int .i64 x, .int .i64 y, .int .i64 cc, .int .i64 d] 56) := ⟨_, rfl⟩
  rw [← hX3]
  have B3 : Below X2.heap.size X2 X3 := by rw [hX3]; exact box_below _ _ _
  have ZE : Hid (Holds X3 X2.heap.size 56 #[.int .i64 pt, .int .i64 ds, .int .i64 k, .int .i64 x, .int .i64 y, .int .i64 cc, .int .i64 d]) := Lib.hid (by rw [hX3]; exact Holds.new _ _ _)
  replace Z1 := Lib.hid (Z1.out.below B3 Z1.out.lt)
  replace Z2 := Lib.hid (Z2.out.below B3 Z2.out.lt)
  replace Z3 := Lib.hid (Z3.out.below B3 Z3.out.lt)
  replace S := Lib.hid (S.out.below B3)
  replace BL := Lib.hid (BL.out.trans (B3.mono BL.out.size))
  clear hX3 B3 k0 k1 Z0 y0 y1 y2 y3 y4 y5 y6 Y0 Y1 Y2 Y3 Y4 Y5 Y6 hb3
  have k0 := ZE.out.cell 0
  have k1 := ZE.out.cell 1
  have k2 := ZE.out.cell 2
  have k3 := ZE.out.cell 3
  have k4 := ZE.out.cell 4
  have k5 := ZE.out.cell 5
  have k6 := ZE.out.cell 6
  have j0 := Z1.out.cell 1
  have j1 := Z2.out.cell 1
  simp at k0 k1 k2 k3 k4 k5 k6 j0 j1
  go_wp2_with fail
  with_reducible refine (hq'.out _ S.out).mono ?_
  rintro e X4 ⟨a', n', c', rfl, hS4, b4, hfr4⟩
  have hfr := Lib.hid hfr4
  have hz3 := Lib.hid Z3.out.lt
  have S4 := Lib.hid hS4
  replace Z3 := Lib.hid (Z3.out.below b4 Z3.out.lt)
  replace ZE := Lib.hid (ZE.out.below b4 ZE.out.lt)
  replace BL := Lib.hid (BL.out.trans (b4.mono BL.out.size))
  clear k0 k1 k2 k3 k4 k5 k6 j0 j1 hS4 b4 hfr4
  have k0 := ZE.out.cell 1
  have j0 := Z3.out.cell 0
  have j1 := Z3.out.cell 1
  have i0 := Z3.out.free 0
  have i1 := Z3.out.free 1
  simp at k0 j0 j1
  go_wp2
  exact state_ret2 (state_set Z3.out _ _) ⟨none, 0, 0, rfl, SL.nil _, belT BL.out (by omega) _ _, fun p hp => by cases hp⟩ _ _ 6 7 rfl rfl rfl rfl
theorem rStep_any (pnm : ByteArray) (pa1 : Option Addr) (pn1 pc1 : Nat) (pa2 : Option Addr) (pn2 pc2 : Nat) (pa3 : Option Addr) (pn3 pc3 : Nat) (D : PD) (pt : Int) (a : Option Addr) (n c : Nat) (l : List Int) (hp : progB D = true) (hv : valsB l D.vars.length = true) (e v : Int) (w : World) (h : PrA w ⟨pnm, pa1, pn1, pc1, pa2, pn2, pc2, pa3, pn3, pc3⟩ D) (hs : SL w a n c l) :
    Calls Tryd.prog 13 #[.agg #[.string pnm, .slice pa1 pn1 pc1, .slice pa2 pn2 pc2, .slice pa3 pn3 pc3], .agg #[.int .i64 pt, .slice a n c], .agg #[.int .i64 e, .int .i64 v]] w (StE (stepR D pt l e v).1.1 (stepR D pt l e v).1.2 (stepR D pt l e v).2 w) := by
  have h3 : pn3 = D.edges.length := h.edges.len
  have hv2 := hv
  unfold valsB at hv2
  rw [Bool.and_eq_true, decide_eq_true_eq] at hv2
  have hnl := hs.len
  have hv8 : D.vars.length ≤ 8 := by
    unfold progB at hp
    simp only [Bool.and_eq_true, decide_eq_true_eq] at hp
    have := hp.2.2.1
    unfold varsB at this
    rw [Bool.and_eq_true, decide_eq_true_eq] at this
    exact this.1
  have hn : n ≤ 1000 := by omega
  by_cases he0 : e < 0
  · rw [stepR_no (by omega)]
    exact rstep_bad1 pnm pa1 pn1 pc1 pa2 pn2 pc2 pa3 pn3 pc3 D pt a n c l e v he0 w h
  · obtain ⟨E, rfl⟩ := Int.eq_ofNat_of_zero_le (show 0 ≤ e by omega)
    by_cases he : E < pn3
    · have heD : E < D.edges.length := by omega
      obtain ⟨fr, ds, k, x, y, cc, d, hE⟩ : ∃ fr ds k x y cc d, D.edges.getD E edge0 = (⟨fr, ds, k, x, y, cc, d⟩ : EdgeD) := ⟨_, _, _, _, _, _, _, rfl⟩
      by_cases hf : fr = pt
      · subst hf
        have hr : rightB k x y cc d (n : Int) = true := by
          have := prog_edge hp heD
          unfold edgeB at this
          rw [hE] at this
          simp only [Bool.and_eq_true] at this
          rw [show (n : Int) = (D.vars.length : Int) by omega]
          exact this.2.2
        have hq := fun W (hW : SL W a n c l) => rDoes_any k x y cc d a n c l v hr hv2.2 hn W hW
        have hst : stepR D fr l (E : Int) v = if (doesR k x y cc d l v).2 = 0 then ((ds, (doesR k x y cc d l v).1), 0) else ((0, []), (doesR k x y cc d l v).2) := by
          unfold stepR
          rw [if_pos (by omega), Int.toNat_natCast, hE]
          dsimp only
          rw [if_pos rfl]
        rw [hst]
        by_cases ho : (doesR k x y cc d l v).2 = 0
        · rw [if_pos ho]
          rw [ho] at hq
          exact rstep_t pnm pa1 pn1 pc1 pa2 pn2 pc2 pa3 pn3 pc3 D fr a n c l E v he ds k x y cc d hE _ 0 rfl hq w h hs
        · rw [if_neg ho]
          exact rstep_f pnm pa1 pn1 pc1 pa2 pn2 pc2 pa3 pn3 pc3 D fr a n c l E v he ds k x y cc d hE _ _ ho hq w h hs
      · rw [stepR_other heD (by rw [hE]; exact hf)]
        obtain ⟨b, off, ha3, -⟩ := edges_at h.edges (i := E) he
        exact rstep_bad3 pnm pa1 pn1 pc1 pa2 pn2 pc2 pa3 pn3 pc3 D pt a n c l E v he fr ds k x y cc d hE b off ha3 hf w h
    · rw [stepR_no (by omega)]
      exact rstep_bad2 pnm pa1 pn1 pc1 pa2 pn2 pc2 pa3 pn3 pc3 D pt a n c l E v (by omega) w h
end Go.Proofs.YtjdfjekonnkglaaDoor
