/-
  Words and walks under the law's proof.
-/
import Derived.Test.YtjdfjekonnkglaaGreatDoorQD05
import Derived.Test.YtjdfjekonnkglaaGreatDoorQD07
namespace Go.Proofs.YtjdfjekonnkglaaGreatDoor
open Go.RowKit
set_option linter.unusedVariables false
set_option linter.unusedSimpArgs false

set_option maxRecDepth 100000 in
set_option maxHeartbeats 16000000 in
theorem step_5f (pnm : ByteArray) (pa1 : Option Addr) (pn1 pc1 : Nat) (pa2 : Option Addr) (pn2 pc2 : Nat) (pa3 : Option Addr) (pn3 pc3 : Nat) (D : PD) (pt : Int) (a : Option Addr) (n c : Nat) (l : List Int) (E : Nat) (v : Int) (he : E < pn3) (ds x y cc d : Int) (hE : D.edges.getD E edge0 = (⟨pt, ds, 5, x, y, cc, d⟩ : EdgeD)) (hn : n ≤ 1000) (l' : List Int)
    (hq : ∀ B g a n cp W, MvH B g 5 x y cc d v a n cp l W → n ≤ 1000 → n = l.length → Calls Tryz.prog 59 #[.pointer (some ⟨g, 0, none⟩)] W (MvE B g 5 x y cc d v a n cp false l' W)) (w : World) (h : PrA w ⟨pnm, pa1, pn1, pc1, pa2, pn2, pc2, pa3, pn3, pc3⟩ D) (hs : SL w a n c l) :
    Calls Tryz.prog 24 #[.agg #[.string pnm, .slice pa1 pn1 pc1, .slice pa2 pn2 pc2, .slice pa3 pn3 pc3], .agg #[.int .i64 pt, .slice a n c], .agg #[.int .i64 (E : Int), .int .i64 v]] w (StE 0 [] (refN 5) w) := by
  obtain ⟨b, off, ha3, -⟩ := edges_at h.edges (i := E) he
  obtain ⟨W1, hW1⟩ : ∃ W1, W1 = (((w.alloc (.cells #[.string pnm, .slice pa1 pn1 pc1, .slice pa2 pn2 pc2, .slice pa3 pn3 pc3] 26)).alloc (.cells #[.int .i64 pt, .slice a n c] 39)).alloc (.cells #[.int .i64 (E : Int), .int .i64 v] 44)).alloc (.cells #[.int .i64 0, .slice none 0 0] 39) := ⟨_, rfl⟩
  have BL : Hid (Below w.heap.size w W1) := Lib.hid (by rw [hW1]; exact ((((Below.refl _ _).alloc (Nat.le_refl _) _).alloc (by simp) _).alloc (by simp; omega) _).alloc (by simp; omega) _)
  have Z0 : Hid (Holds W1 w.heap.size 26 #[.string pnm, .slice pa1 pn1 pc1, .slice pa2 pn2 pc2, .slice pa3 pn3 pc3]) := Lib.hid (by rw [hW1]; exact (((Holds.new w _ _).alloc _).alloc _).alloc _)
  have Z1 : Hid (Holds W1 (w.heap.size + 1) 39 #[.int .i64 pt, .slice a n c]) := Lib.hid (by rw [hW1]; have q := ((Holds.new (w.alloc (.cells #[.string pnm, .slice pa1 pn1 pc1, .slice pa2 pn2 pc2, .slice pa3 pn3 pc3] 26)) 39 #[.int .i64 pt, .slice a n c]).alloc (.cells #[.int .i64 (E : Int), .int .i64 v] 44)).alloc (.cells #[.int .i64 0, .slice none 0 0] 39); simpa using q)
  have Z2 : Hid (Holds W1 (w.heap.size + 2) 44 #[.int .i64 (E : Int), .int .i64 v]) := Lib.hid (by rw [hW1]; have q := (Holds.new ((w.alloc (.cells #[.string pnm, .slice pa1 pn1 pc1, .slice pa2 pn2 pc2, .slice pa3 pn3 pc3] 26)).alloc (.cells #[.int .i64 pt, .slice a n c] 39)) 44 #[.int .i64 (E : Int), .int .i64 v]).alloc (.cells #[.int .i64 0, .slice none 0 0] 39); simpa using q)
  have Z3 : Hid (Holds W1 (w.heap.size + 3) 39 #[.int .i64 0, .slice none 0 0]) := Lib.hid (by rw [hW1]; have q := Holds.new (((w.alloc (.cells #[.string pnm, .slice pa1 pn1 pc1, .slice pa2 pn2 pc2, .slice pa3 pn3 pc3] 26)).alloc (.cells #[.int .i64 pt, .slice a n c] 39)).alloc (.cells #[.int .i64 (E : Int), .int .i64 v] 44)) 39 #[.int .i64 0, .slice none 0 0]; simpa using q)
  have hW1' := Lib.hid hW1
  clear hW1
  subst ha3
  obtain ⟨b', off', hab, hbl, y0, y1, y2, y3, y4, y5, y6⟩ := edges_at (h.edges.below BL.out) he
  injection hab with hab
  injection hab with hab1 hab2
  subst hab1 hab2
  rw [hE] at y0 y1 y2 y3 y4 y5 y6
  dsimp only at y0 y1 y2 y3 y4 y5 y6
  have hb2 : b < W1.heap.size := hbl
  clear hbl
  have d1 : ¬ (E : Int) < 0 := by omega
  have d2 : ¬ (pn3 : Int) ≤ (E : Int) := by omega
  have d3 : (E : Int) < (pn3 : Int) := by omega
  have d4 : ¬ pn3 ≤ E := by omega
  have f0 : ∀ W, Below W1.heap.size W1 W → W.cell? ⟨w.heap.size + 2, 0, none⟩ = some (.int .i64 (E : Int)) := fun W hW => (Z2.out.below hW Z2.out.lt).cell 0
  have f1 : ∀ W, Below W1.heap.size W1 W → W.cell? ⟨w.heap.size, 3, none⟩ = some (.slice (some ⟨b, off, none⟩) pn3 pc3) := fun W hW => (Z0.out.below hW Z0.out.lt).cell 3
  have f2 : ∀ W, Below W1.heap.size W1 W → W.cell? ⟨w.heap.size + 1, 0, none⟩ = some (.int .i64 pt) := fun W hW => (Z1.out.below hW Z1.out.lt).cell 0
  have X0 : ∀ W, Below W1.heap.size W1 W → W.cell? ⟨b, off + E * 7, none⟩ = some (.int .i64 pt) := fun W hW => (hW.cell (p := ⟨b, off + E * 7, none⟩) hb2).trans y0
  have d5 : (pt != pt) = false := by simp
  have hnl := Lib.hid hs.len
  have S := Lib.hid (hs.below BL.out)
  have Y0 : Hid (W1.cell? ⟨b, off + E * 7, none⟩ = some (.int .i64 pt)) := Lib.hid y0
  have Y1 : Hid (W1.cell? ⟨b, off + E * 7 + 1, none⟩ = some (.int .i64 ds)) := Lib.hid y1
  have Y2 : Hid (W1.cell? ⟨b, off + E * 7 + 2, none⟩ = some (.int .i64 5)) := Lib.hid y2
  have Y3 : Hid (W1.cell? ⟨b, off + E * 7 + 3, none⟩ = some (.int .i64 x)) := Lib.hid y3
  have Y4 : Hid (W1.cell? ⟨b, off + E * 7 + 4, none⟩ = some (.int .i64 y)) := Lib.hid y4
  have Y5 : Hid (W1.cell? ⟨b, off + E * 7 + 5, none⟩ = some (.int .i64 cc)) := Lib.hid y5
  have Y6 : Hid (W1.cell? ⟨b, off + E * 7 + 6, none⟩ = some (.int .i64 d)) := Lib.hid y6
  have hq' := Lib.hid hq
  have hix : Hid (∀ W, (Instr.index 74 (.agg movesA) (.int .i64 5)).run Tryz.prog W = .ok (.func (.func 59) #[] #[]) W) := Lib.hid (fun W => by kernel_rfl)
  clear h hs hE he hq y0 y1 y2 y3 y4 y5 y6
  go_enter Tryz.func24, Tryz.ntmps24
  go_wp2
  rw [← hW1'.out]
  clear hW1'
  refine wp_drawn_on (fun W => Below W1.heap.size W1 W) (by kernel_rfl) ((Below.refl _ _).drew) (fun hHeld => ?_)
  refine wpAnyH_take (i := 0) (oi := { dst := some 10, op := Go.Op.fieldAddr 44 (Go.Operand.tmp 5) 0, type := 0, pos := "run.go:39", after := #[], guard := none }) (v := ?v318) rfl (by kernel_rfl) (by kernel_rfl) (by kernel_rfl) (fun _ _ _ h => h) (Or.inl ⟨by kernel_rfl, ?h318⟩) (by assumption) ?r318
  case h318 => (intro w hSw; (try dsimp only at hSw); go_simp; try with_reducible rfl)
  try simp only [Act.put, List.setIfInBounds_toArray, List.set_cons_zero, List.set_cons_succ]
  refine wpAnyH_take (i := 1) (oi := { dst := some 11, op := Go.Op.load 3 (Go.Operand.tmp 10), type := 3, pos := "run.go:39", after := #[{ on := 0, ground := Go.Ground.data }], guard := none }) (v := ?v319) rfl (by kernel_rfl) (by kernel_rfl) (by kernel_rfl) (fun _ _ _ h => h) (Or.inl ⟨by kernel_rfl, ?h319⟩) (by assumption) ?r319
  case h319 => (intro w hSw; (try dsimp only at hSw); go_simp; try with_reducible rfl)
  try simp only [Act.put, List.setIfInBounds_toArray, List.set_cons_zero, List.set_cons_succ]
  refine wpAnyH_take (i := 2) (oi := { dst := some 12, op := Go.Op.binOp Go.BinOp.lss 3 (Go.Operand.tmp 11) (Go.Operand.const (Go.Value.int Go.IntKind.i64 0)) 3, type := 4, pos := "run.go:39", after := #[{ on := 1, ground := Go.Ground.data }], guard := none }) (v := ?v320) rfl (by kernel_rfl) (by kernel_rfl) (by kernel_rfl) (fun _ _ _ h => h) (Or.inl ⟨by kernel_rfl, ?h320⟩) (by assumption) ?r320
  case h320 => (intro w hSw; (try dsimp only at hSw); go_simp; try with_reducible rfl)
  try simp only [Act.put, List.setIfInBounds_toArray, List.set_cons_zero, List.set_cons_succ]
  refine wpAnyH_take (i := 3) (oi := { dst := some 13, op := Go.Op.move (Go.Operand.tmp 12), type := 4, pos := "run.go:39", after := #[{ on := 2, ground := Go.Ground.data }], guard := none }) (v := ?v321) rfl (by kernel_rfl) (by kernel_rfl) (by kernel_rfl) (fun _ _ _ h => h) (Or.inl ⟨by kernel_rfl, ?h321⟩) (by assumption) ?r321
  case h321 => (intro w hSw; (try dsimp only at hSw); go_simp; try with_reducible rfl)
  try simp only [Act.put, List.setIfInBounds_toArray, List.set_cons_zero, List.set_cons_succ]
  refine wpAnyH_take (i := 4) (oi := { dst := some 14, op := Go.Op.fieldAddr 44 (Go.Operand.tmp 5) 0, type := 0, pos := "run.go:39", after := #[{ on := 3, ground := Go.Ground.guard }], guard := some (3, false) }) (v := ?v322) rfl (by kernel_rfl) (by kernel_rfl) (by kernel_rfl) (fun _ _ _ h => h) (Or.inl ⟨by kernel_rfl, ?h322⟩) (by assumption) ?r322
  case h322 => (intro w hSw; (try dsimp only at hSw); go_simp; try with_reducible rfl)
  try simp only [Act.put, List.setIfInBounds_toArray, List.set_cons_zero, List.set_cons_succ]
  refine wpAnyH_take (i := 5) (oi := { dst := some 15, op := Go.Op.load 3 (Go.Operand.tmp 14), type := 3, pos := "run.go:39", after := #[{ on := 4, ground := Go.Ground.data }, { on := 3, ground := Go.Ground.guard }], guard := some (3, false) }) (v := ?v323) rfl (by kernel_rfl) (by kernel_rfl) (by kernel_rfl) (fun _ _ _ h => h) (Or.inl ⟨by kernel_rfl, ?h323⟩) (by assumption) ?r323
  case h323 => (intro w hSw; (try dsimp only at hSw); go_simp; try with_reducible rfl)
  try simp only [Act.put, List.setIfInBounds_toArray, List.set_cons_zero, List.set_cons_succ]
  refine wpAnyH_take (i := 6) (oi := { dst := some 16, op := Go.Op.fieldAddr 26 (Go.Operand.tmp 3) 3, type := 0, pos := "run.go:39", after := #[{ on := 3, ground := Go.Ground.guard }], guard := some (3, false) }) (v := ?v324) rfl (by kernel_rfl) (by kernel_rfl) (by kernel_rfl) (fun _ _ _ h => h) (Or.inl ⟨by kernel_rfl, ?h324⟩) (by assumption) ?r324
  case h324 => (intro w hSw; (try dsimp only at hSw); go_simp; try with_reducible rfl)
  try simp only [Act.put, List.setIfInBounds_toArray, List.set_cons_zero, List.set_cons_succ]
  refine wpAnyH_take (i := 7) (oi := { dst := some 17, op := Go.Op.load 24 (Go.Operand.tmp 16), type := 24, pos := "run.go:39", after := #[{ on := 6, ground := Go.Ground.data }, { on := 3, ground := Go.Ground.guard }], guard := some (3, false) }) (v := ?v325) rfl (by kernel_rfl) (by kernel_rfl) (by kernel_rfl) (fun _ _ _ h => h) (Or.inl ⟨by kernel_rfl, ?h325⟩) (by assumption) ?r325
  case h325 => (intro w hSw; (try dsimp only at hSw); go_simp; try with_reducible rfl)
  try simp only [Act.put, List.setIfInBounds_toArray, List.set_cons_zero, List.set_cons_succ]
  refine wpAnyH_take (i := 8) (oi := { dst := some 18, op := Go.Op.call { callee := Go.Callee.builtin Go.Builtin.len, args := #[Go.Operand.tmp 17], argTypes := #[24] }, type := 3, pos := "run.go:39", after := #[{ on := 7, ground := Go.Ground.data }, { on := 3, ground := Go.Ground.guard }], guard := some (3, false) }) (v := ?v326) rfl (by kernel_rfl) (by kernel_rfl) (by kernel_rfl) (fun _ _ _ h => h) (Or.inl ⟨by kernel_rfl, ?h326⟩) (by assumption) ?r326
  case h326 => (intro w hSw; (try dsimp only at hSw); go_simp; try with_reducible rfl)
  try simp only [Act.put, List.setIfInBounds_toArray, List.set_cons_zero, List.set_cons_succ]
  refine wpAnyH_take (i := 9) (oi := { dst := some 19, op := Go.Op.binOp Go.BinOp.geq 3 (Go.Operand.tmp 15) (Go.Operand.tmp 18) 3, type := 4, pos := "run.go:39", after := #[{ on := 5, ground := Go.Ground.data }, { on := 8, ground := Go.Ground.data }, { on := 3, ground := Go.Ground.guard }], guard := some (3, false) }) (v := ?v327) rfl (by kernel_rfl) (by kernel_rfl) (by kernel_rfl) (fun _ _ _ h => h) (Or.inl ⟨by kernel_rfl, ?h327⟩) (by assumption) ?r327
  case h327 => (intro w hSw; (try dsimp only at hSw); go_simp; try with_reducible rfl)
  try simp only [Act.put, List.setIfInBounds_toArray, List.set_cons_zero, List.set_cons_succ]
  refine wpAnyH_take (i := 10) (oi := { dst := some 20, op := Go.Op.pick (Go.Operand.tmp 13) (Go.Operand.const (Go.Value.bool true)) (Go.Operand.tmp 19), type := 4, pos := "run.go:39", after := #[{ on := 3, ground := Go.Ground.data }, { on := 9, ground := Go.Ground.data }], guard := none }) (v := ?v328) rfl (by kernel_rfl) (by kernel_rfl) (by kernel_rfl) (fun _ _ _ h => h) (Or.inl ⟨by kernel_rfl, ?h328⟩) (by assumption) ?r328
  case h328 => (intro w hSw; (try dsimp only at hSw); go_simp; try with_reducible rfl)
  try simp only [Act.put, List.setIfInBounds_toArray, List.set_cons_zero, List.set_cons_succ]
  refine wpAnyH_take (i := 11) (oi := { dst := some 21, op := Go.Op.move (Go.Operand.tmp 20), type := 4, pos := "run.go:39", after := #[{ on := 10, ground := Go.Ground.data }, { on := 3, ground := Go.Ground.chain }], guard := none }) (v := ?v329) rfl (by kernel_rfl) (by kernel_rfl) (by kernel_rfl) (fun _ _ _ h => h) (Or.inl ⟨by kernel_rfl, ?h329⟩) (by assumption) ?r329
  case h329 => (intro w hSw; (try dsimp only at hSw); go_simp; try with_reducible rfl)
  try simp only [Act.put, List.setIfInBounds_toArray, List.set_cons_zero, List.set_cons_succ]
  refine wpAnyH_take (i := 12) (oi := { dst := some 22, op := Go.Op.fieldAddr 26 (Go.Operand.tmp 3) 3, type := 0, pos := "run.go:39", after := #[{ on := 11, ground := Go.Ground.guard }], guard := some (11, false) }) (v := ?v330) rfl (by kernel_rfl) (by kernel_rfl) (by kernel_rfl) (fun _ _ _ h => h) (Or.inl ⟨by kernel_rfl, ?h330⟩) (by assumption) ?r330
  case h330 => (intro w hSw; (try dsimp only at hSw); go_simp; try with_reducible rfl)
  try simp only [Act.put, List.setIfInBounds_toArray, List.set_cons_zero, List.set_cons_succ]
  refine wpAnyH_take (i := 13) (oi := { dst := some 23, op := Go.Op.load 24 (Go.Operand.tmp 22), type := 24, pos := "run.go:39", after := #[{ on := 12, ground := Go.Ground.data }, { on := 11, ground := Go.Ground.guard }], guard := some (11, false) }) (v := ?v331) rfl (by kernel_rfl) (by kernel_rfl) (by kernel_rfl) (fun _ _ _ h => h) (Or.inl ⟨by kernel_rfl, ?h331⟩) (by assumption) ?r331
  case h331 => (intro w hSw; (try dsimp only at hSw); go_simp; try with_reducible rfl)
  try simp only [Act.put, List.setIfInBounds_toArray, List.set_cons_zero, List.set_cons_succ]
  refine wpAnyH_take (i := 14) (oi := { dst := some 24, op := Go.Op.fieldAddr 44 (Go.Operand.tmp 5) 0, type := 0, pos := "run.go:39", after := #[{ on := 11, ground := Go.Ground.guard }], guard := some (11, false) }) (v := ?v332) rfl (by kernel_rfl) (by kernel_rfl) (by kernel_rfl) (fun _ _ _ h => h) (Or.inl ⟨by kernel_rfl, ?h332⟩) (by assumption) ?r332
  case h332 => (intro w hSw; (try dsimp only at hSw); go_simp; try with_reducible rfl)
  try simp only [Act.put, List.setIfInBounds_toArray, List.set_cons_zero, List.set_cons_succ]
  refine wpAnyH_take (i := 15) (oi := { dst := some 25, op := Go.Op.load 3 (Go.Operand.tmp 24), type := 3, pos := "run.go:39", after := #[{ on := 14, ground := Go.Ground.data }, { on := 11, ground := Go.Ground.guard }], guard := some (11, false) }) (v := ?v333) rfl (by kernel_rfl) (by kernel_rfl) (by kernel_rfl) (fun _ _ _ h => h) (Or.inl ⟨by kernel_rfl, ?h333⟩) (by assumption) ?r333
  case h333 => (intro w hSw; (try dsimp only at hSw); go_simp; try with_reducible rfl)
  try simp only [Act.put, List.setIfInBounds_toArray, List.set_cons_zero, List.set_cons_succ]
  refine wpAnyH_take (i := 16) (oi := { dst := some 26, op := Go.Op.indexAddr 24 (Go.Operand.tmp 23) (Go.Operand.tmp 25), type := 0, pos := "run.go:39", after := #[{ on := 13, ground := Go.Ground.data }, { on := 15, ground := Go.Ground.data }, { on := 11, ground := Go.Ground.guard }], guard := some (11, false) }) (v := ?v334) rfl (by kernel_rfl) (by kernel_rfl) (by kernel_rfl) (fun _ _ _ h => h) (Or.inl ⟨by kernel_rfl, ?h334⟩) (by assumption) ?r334
  case h334 => (intro w hSw; (try dsimp only at hSw); go_simp; try with_reducible rfl)
  try simp only [Act.put, List.setIfInBounds_toArray, List.set_cons_zero, List.set_cons_succ]
  refine wpAnyH_take (i := 17) (oi := { dst := some 27, op := Go.Op.fieldAddr 53 (Go.Operand.tmp 26) 0, type := 0, pos := "run.go:39", after := #[{ on := 16, ground := Go.Ground.data }, { on := 11, ground := Go.Ground.guard }], guard := some (11, false) }) (v := ?v335) rfl (by kernel_rfl) (by kernel_rfl) (by kernel_rfl) (fun _ _ _ h => h) (Or.inl ⟨by kernel_rfl, ?h335⟩) (by assumption) ?r335
  case h335 => (intro w hSw; (try dsimp only at hSw); go_simp; try with_reducible rfl)
  try simp only [Act.put, List.setIfInBounds_toArray, List.set_cons_zero, List.set_cons_succ]
  refine wpAnyH_take (i := 18) (oi := { dst := some 28, op := Go.Op.load 3 (Go.Operand.tmp 27), type := 3, pos := "run.go:39", after := #[{ on := 17, ground := Go.Ground.data }, { on := 11, ground := Go.Ground.guard }], guard := some (11, false) }) (v := ?v336) rfl (by kernel_rfl) (by kernel_rfl) (by kernel_rfl) (fun _ _ _ h => h) (Or.inl ⟨by kernel_rfl, ?h336⟩) (by assumption) ?r336
  case h336 => (intro w hSw; (try dsimp only at hSw); go_simp; try with_reducible rfl)
  try simp only [Act.put, List.setIfInBounds_toArray, List.set_cons_zero, List.set_cons_succ]
  refine wpAnyH_take (i := 19) (oi := { dst := some 29, op := Go.Op.fieldAddr 39 (Go.Operand.tmp 4) 0, type := 0, pos := "run.go:39", after := #[{ on := 11, ground := Go.Ground.guard }], guard := some (11, false) }) (v := ?v337) rfl (by kernel_rfl) (by kernel_rfl) (by kernel_rfl) (fun _ _ _ h => h) (Or.inl ⟨by kernel_rfl, ?h337⟩) (by assumption) ?r337
  case h337 => (intro w hSw; (try dsimp only at hSw); go_simp; try with_reducible rfl)
  try simp only [Act.put, List.setIfInBounds_toArray, List.set_cons_zero, List.set_cons_succ]
  refine wpAnyH_take (i := 20) (oi := { dst := some 30, op := Go.Op.load 3 (Go.Operand.tmp 29), type := 3, pos := "run.go:39", after := #[{ on := 19, ground := Go.Ground.data }, { on := 11, ground := Go.Ground.guard }], guard := some (11, false) }) (v := ?v338) rfl (by kernel_rfl) (by kernel_rfl) (by kernel_rfl) (fun _ _ _ h => h) (Or.inl ⟨by kernel_rfl, ?h338⟩) (by assumption) ?r338
  case h338 => (intro w hSw; (try dsimp only at hSw); go_simp; try with_reducible rfl)
  try simp only [Act.put, List.setIfInBounds_toArray, List.set_cons_zero, List.set_cons_succ]
  refine wpAnyH_take (i := 21) (oi := { dst := some 31, op := Go.Op.binOp Go.BinOp.neq 3 (Go.Operand.tmp 28) (Go.Operand.tmp 30) 3, type := 4, pos := "run.go:39", after := #[{ on := 18, ground := Go.Ground.data }, { on := 20, ground := Go.Ground.data }, { on := 11, ground := Go.Ground.guard }], guard := some (11, false) }) (v := ?v339) rfl (by kernel_rfl) (by kernel_rfl) (by kernel_rfl) (fun _ _ _ h => h) (Or.inl ⟨by kernel_rfl, ?h339⟩) (by assumption) ?r339
  case h339 => (intro w hSw; (try dsimp only at hSw); go_simp; try with_reducible rfl)
  try simp only [Act.put, List.setIfInBounds_toArray, List.set_cons_zero, List.set_cons_succ]
  refine wpAnyH_take (i := 22) (oi := { dst := some 32, op := Go.Op.pick (Go.Operand.tmp 21) (Go.Operand.const (Go.Value.bool true)) (Go.Operand.tmp 31), type := 4, pos := "run.go:39", after := #[{ on := 11, ground := Go.Ground.data }, { on := 21, ground := Go.Ground.data }], guard := none }) (v := ?v340) rfl (by kernel_rfl) (by kernel_rfl) (by kernel_rfl) (fun _ _ _ h => h) (Or.inl ⟨by kernel_rfl, ?h340⟩) (by assumption) ?r340
  case h340 => (intro w hSw; (try dsimp only at hSw); go_simp; try with_reducible rfl)
  try simp only [Act.put, List.setIfInBounds_toArray, List.set_cons_zero, List.set_cons_succ]
  refine wpAnyH_done (by kernel_rfl) ?_ _
  obtain ⟨X2, hX2⟩ : ∃ X2, X2 = W1.drew := ⟨_, rfl⟩
  rw [← hX2] at hHeld ⊢
  replace Z0 := Lib.hid (Z0.out.below hHeld Z0.out.lt)
  replace Z1 := Lib.hid (Z1.out.below hHeld Z1.out.lt)
  replace Z2 := Lib.hid (Z2.out.below hHeld Z2.out.lt)
  replace Z3 := Lib.hid (Z3.out.below hHeld Z3.out.lt)
  replace S := Lib.hid (S.out.below hHeld)
  replace BL := Lib.hid (BL.out.trans (hHeld.mono BL.out.size))
  have y0 := (hHeld.cell (p := ⟨b, off + E * 7, none⟩) hb2).trans Y0.out
  have y1 := (hHeld.cell (p := ⟨b, off + E * 7 + 1, none⟩) hb2).trans Y1.out
  have y2 := (hHeld.cell (p := ⟨b, off + E * 7 + 2, none⟩) hb2).trans Y2.out
  have y3 := (hHeld.cell (p := ⟨b, off + E * 7 + 3, none⟩) hb2).trans Y3.out
  have y4 := (hHeld.cell (p := ⟨b, off + E * 7 + 4, none⟩) hb2).trans Y4.out
  have y5 := (hHeld.cell (p := ⟨b, off + E * 7 + 5, none⟩) hb2).trans Y5.out
  have y6 := (hHeld.cell (p := ⟨b, off + E * 7 + 6, none⟩) hb2).trans Y6.out
  have hb3 : b < X2.heap.size := Nat.lt_of_lt_of_le hb2 hHeld.size
  clear hX2 hHeld f0 f1 f2 X0 hb2
  have hZ32 := Z3.out.lt
  have k0 := Z0.out.cell 3
  have k1 := Z2.out.cell 0
  simp at k0 k1
  go_upto_region 4 with (fail)
  obtain ⟨X3, hX3⟩ : ∃ X3, X3 = X2.alloc (.cells #[.int .i64 pt, .int .i64 ds, .int .i64 5, .int .i64 x, .int .i64 y, .int .i64 cc, .int .i64 d] 53) := ⟨_, rfl⟩
  rw [← hX3]
  have B3 : Below X2.heap.size X2 X3 := by rw [hX3]; exact box_below _ _ _
  have ZE : Hid (Holds X3 X2.heap.size 53 #[.int .i64 pt, .int .i64 ds, .int .i64 5, .int .i64 x, .int .i64 y, .int .i64 cc, .int .i64 d]) := Lib.hid (by rw [hX3]; exact Holds.new _ _ _)
  replace Z1 := Lib.hid (Z1.out.below B3 Z1.out.lt)
  replace Z2 := Lib.hid (Z2.out.below B3 Z2.out.lt)
  replace Z3 := Lib.hid (Z3.out.below B3 Z3.out.lt)
  replace S := Lib.hid (S.out.below B3)
  have hz32 : Hid (w.heap.size + 3 < X2.heap.size) := Lib.hid hZ32
  have hz23 : Hid (X2.heap.size < X3.heap.size) := Lib.hid ZE.out.lt
  replace BL := Lib.hid (BL.out.trans (B3.mono BL.out.size))
  clear hZ32 hX3 B3 k0 k1 Z0 y0 y1 y2 y3 y4 y5 y6 Y0 Y1 Y2 Y3 Y4 Y5 Y6 hb3
  have e2 : ∀ W, Below X3.heap.size X3 W → W.cell? ⟨X2.heap.size, 2, none⟩ = some (.int .i64 5) := fun W hW => (ZE.out.below hW ZE.out.lt).cell 2
  have e3 : ∀ W, Below X3.heap.size X3 W → W.cell? ⟨X2.heap.size, 3, none⟩ = some (.int .i64 x) := fun W hW => (ZE.out.below hW ZE.out.lt).cell 3
  have e4 : ∀ W, Below X3.heap.size X3 W → W.cell? ⟨X2.heap.size, 4, none⟩ = some (.int .i64 y) := fun W hW => (ZE.out.below hW ZE.out.lt).cell 4
  have e5 : ∀ W, Below X3.heap.size X3 W → W.cell? ⟨X2.heap.size, 5, none⟩ = some (.int .i64 cc) := fun W hW => (ZE.out.below hW ZE.out.lt).cell 5
  have e6 : ∀ W, Below X3.heap.size X3 W → W.cell? ⟨X2.heap.size, 6, none⟩ = some (.int .i64 d) := fun W hW => (ZE.out.below hW ZE.out.lt).cell 6
  have f1 : ∀ W, Below X3.heap.size X3 W → W.cell? ⟨w.heap.size + 1, 1, none⟩ = some (.slice a n c) := fun W hW => (Z1.out.below hW Z1.out.lt).cell 1
  have f2 : ∀ W, Below X3.heap.size X3 W → W.cell? ⟨w.heap.size + 2, 1, none⟩ = some (.int .i64 v) := fun W hW => (Z2.out.below hW Z2.out.lt).cell 1
  refine wp_drawn_on (fun W => Below X3.heap.size X3 W) (by kernel_rfl) ((Below.refl _ _).drew) (fun hHeld => ?_)
  refine wpAnyH_take (i := 0) (oi := { dst := some 40, op := Go.Op.fieldAddr 53 (Go.Operand.tmp 8) 2, type := 0, pos := "run.go:43", after := #[], guard := none }) (v := ?v341) rfl (by kernel_rfl) (by kernel_rfl) (by kernel_rfl) (fun _ _ _ h => h) (Or.inl ⟨by kernel_rfl, ?h341⟩) (by assumption) ?r341
  case h341 => (intro w hSw; (try dsimp only at hSw); go_simp; try with_reducible rfl)
  try simp only [Act.put, List.setIfInBounds_toArray, List.set_cons_zero, List.set_cons_succ]
  refine wpAnyH_take (i := 1) (oi := { dst := some 41, op := Go.Op.load 51 (Go.Operand.tmp 40), type := 51, pos := "run.go:43", after := #[{ on := 0, ground := Go.Ground.data }], guard := none }) (v := ?v342) rfl (by kernel_rfl) (by kernel_rfl) (by kernel_rfl) (fun _ _ _ h => h) (Or.inl ⟨by kernel_rfl, ?h342⟩) (by assumption) ?r342
  case h342 => (intro w hSw; (try dsimp only at hSw); go_simp; try with_reducible rfl)
  try simp only [Act.put, List.setIfInBounds_toArray, List.set_cons_zero, List.set_cons_succ]
  refine wpAnyH_take (i := 2) (oi := { dst := some 42, op := Go.Op.fieldAddr 39 (Go.Operand.tmp 4) 1, type := 0, pos := "run.go:43", after := #[], guard := none }) (v := ?v343) rfl (by kernel_rfl) (by kernel_rfl) (by kernel_rfl) (fun _ _ _ h => h) (Or.inl ⟨by kernel_rfl, ?h343⟩) (by assumption) ?r343
  case h343 => (intro w hSw; (try dsimp only at hSw); go_simp; try with_reducible rfl)
  try simp only [Act.put, List.setIfInBounds_toArray, List.set_cons_zero, List.set_cons_succ]
  refine wpAnyH_take (i := 3) (oi := { dst := some 43, op := Go.Op.load 27 (Go.Operand.tmp 42), type := 27, pos := "run.go:43", after := #[{ on := 2, ground := Go.Ground.data }], guard := none }) (v := ?v344) rfl (by kernel_rfl) (by kernel_rfl) (by kernel_rfl) (fun _ _ _ h => h) (Or.inl ⟨by kernel_rfl, ?h344⟩) (by assumption) ?r344
  case h344 => (intro w hSw; (try dsimp only at hSw); go_simp; try with_reducible rfl)
  try simp only [Act.put, List.setIfInBounds_toArray, List.set_cons_zero, List.set_cons_succ]
  refine wpAnyH_take (i := 5) (oi := { dst := some 45, op := Go.Op.fieldAddr 44 (Go.Operand.tmp 5) 1, type := 0, pos := "run.go:43", after := #[], guard := none }) (v := ?v345) rfl (by kernel_rfl) (by kernel_rfl) (by kernel_rfl) (fun _ _ _ h => h) (Or.inl ⟨by kernel_rfl, ?h345⟩) (by assumption) ?r345
  case h345 => (intro w hSw; (try dsimp only at hSw); go_simp; try with_reducible rfl)
  try simp only [Act.put, List.setIfInBounds_toArray, List.set_cons_zero, List.set_cons_succ]
  refine wpAnyH_take (i := 6) (oi := { dst := some 46, op := Go.Op.load 3 (Go.Operand.tmp 45), type := 3, pos := "run.go:43", after := #[{ on := 5, ground := Go.Ground.data }], guard := none }) (v := ?v346) rfl (by kernel_rfl) (by kernel_rfl) (by kernel_rfl) (fun _ _ _ h => h) (Or.inl ⟨by kernel_rfl, ?h346⟩) (by assumption) ?r346
  case h346 => (intro w hSw; (try dsimp only at hSw); go_simp; try with_reducible rfl)
  try simp only [Act.put, List.setIfInBounds_toArray, List.set_cons_zero, List.set_cons_succ]
  refine wpAnyH_ready (rs := [4]) (by kernel_rfl) (by simp) ?_
  refine AllReadyH.cons (o := { dst := some 44, op := Go.Op.call { callee := Go.Callee.value (Go.Operand.func 23), args := #[Go.Operand.tmp 43], argTypes := #[27] }, type := 27, pos := "run.go:43", after := #[{ on := 3, ground := Go.Ground.data }], guard := none }) rfl (fun K hK => ?_) AllReadyH.nil
  go_simp
  with_reducible refine (clone_any a n c l hn _ (S.out.below hHeld)).mono ?_
  rintro e t4 ⟨a', c', rfl, hrow4, b4⟩
  have hrow := Lib.hid (own_from (B := w.heap.size) hrow4 (fun b hb => by have q1 := (hrow4.lt b hb).1; have q2 := hHeld.size; have q3 := BL.out.size; omega))
  have hfresh : Hid (∀ b, (Value.slice a' n c').ownBlock = some b → X3.heap.size ≤ b) := Lib.hid (fun b hb => (hrow4.lt b hb).1)
  clear hrow4
  go_simp
  refine hK.out _ _ (hHeld.trans (b4.mono hHeld.size)) (fun hHeld => ?_)
  clear hK K
  try simp only [Act.put, List.setIfInBounds_toArray, List.set_cons_zero, List.set_cons_succ]
  refine wpAnyH_take (i := 7) (oi := { dst := some 47, op := Go.Op.build 72 #[(0, Go.Operand.tmp 41), (1, Go.Operand.tmp 44), (2, Go.Operand.tmp 46)], type := 72, pos := "run.go:43", after := #[{ on := 1, ground := Go.Ground.data }, { on := 4, ground := Go.Ground.data }, { on := 6, ground := Go.Ground.data }], guard := none }) (v := ?v347) rfl (by kernel_rfl) (by kernel_rfl) (by kernel_rfl) (fun _ _ _ h => h) (Or.inl ⟨by kernel_rfl, ?h347⟩) (by assumption) ?r347
  case h347 => (intro w hSw; (try dsimp only at hSw); go_simp; try with_reducible rfl)
  try simp only [Act.put, List.setIfInBounds_toArray, List.set_cons_zero, List.set_cons_succ]
  refine wpAnyH_ready (rs := [8]) (by kernel_rfl) (by simp) ?_
  refine AllReadyH.cons (o := { dst := some 48, op := Go.Op.box 72 (Go.Operand.tmp 47), type := 70, pos := "run.go:43", after := #[{ on := 7, ground := Go.Ground.data }], guard := none }) rfl (fun K hK => ?_) AllReadyH.nil
  go_simp
  go_simp
  refine hK.out _ _ (hHeld.alloc hHeld.size _) (fun hHeld => ?_)
  clear hK K
  try simp only [Act.put, List.setIfInBounds_toArray, List.set_cons_zero, List.set_cons_succ]
  refine wpAnyH_take (i := 9) (oi := { dst := some 9, op := Go.Op.assign (Go.Operand.tmp 48), type := 70, pos := "run.go:43", after := #[{ on := 8, ground := Go.Ground.data }, { on := 4, ground := Go.Ground.chain }, { on := 0, ground := Go.Ground.phase }, { on := 1, ground := Go.Ground.phase }, { on := 2, ground := Go.Ground.phase }, { on := 3, ground := Go.Ground.phase }, { on := 4, ground := Go.Ground.phase }, { on := 5, ground := Go.Ground.phase }, { on := 6, ground := Go.Ground.phase }, { on := 7, ground := Go.Ground.phase }, { on := 8, ground := Go.Ground.phase }], guard := none }) (v := ?v348) rfl (by kernel_rfl) (by kernel_rfl) (by kernel_rfl) (fun _ _ _ h => h) (Or.inl ⟨by kernel_rfl, ?h348⟩) (by assumption) ?r348
  case h348 => (intro w hSw; (try dsimp only at hSw); go_simp; try with_reducible rfl)
  try simp only [Act.put, List.setIfInBounds_toArray, List.set_cons_zero, List.set_cons_succ]
  refine wpAnyH_done (by kernel_rfl) ?_ _
  obtain ⟨gm, hgm⟩ : ∃ gm, gm = t4.heap.size := ⟨_, rfl⟩
  obtain ⟨X5, hX5⟩ : ∃ X5, X5 = t4.alloc (.cells #[.int .i64 5, .int .i64 x, .int .i64 y, .int .i64 cc, .int .i64 d, .slice a' n c', .int .i64 v] 72) := ⟨_, rfl⟩
  rw [← hX5] at hHeld ⊢
  have B5 : Below t4.heap.size t4 X5 := by rw [hX5]; exact box_below _ _ _
  have HM : Hid (MvH w.heap.size gm 5 x y cc d v a' n c' l X5) := Lib.hid ⟨by rw [hX5, hgm]; exact Holds.new _ _ _, own_below hrow.out B5, fun b hb => by have := (hrow.out.lt b hb).2; omega⟩
  have hgm3 : Hid (X3.heap.size ≤ gm) := Lib.hid (by rw [hgm]; exact b4.size)
  rw [← hgm]
  have hXY := Lib.hid hHeld
  clear hX5 B5 hHeld hrow e2 e3 e4 e5 e6 f1 f2 hgm
  have hgb := blkL_not HM.out
  have m0 : ∀ W, BelowE (blkL a' n c') X5.heap.size X5 W → W.cell? ⟨gm, 0, none⟩ = some (.int .i64 5) := fun W hW => (HM.out.blk.belowE hW HM.out.blk.lt hgb).cell 0
  have hix2 := hix.out
  go_wp2
  refine wp_drawn_on (fun W => BelowE (blkL a' n c') X5.heap.size X5 W) (by kernel_rfl) ((BelowE.refl _ _ _).drew) (fun hHeld => ?_)
  refine wpAnyH_take (i := 1) (oi := { dst := some 50, op := Go.Op.move (Go.Operand.tmp 9), type := 70, pos := "run.go:44", after := #[], guard := none }) (v := ?v413) rfl (by kernel_rfl) (by kernel_rfl) (by kernel_rfl) (fun _ _ _ h => h) (Or.inl ⟨by kernel_rfl, ?h413⟩) (by assumption) ?r413
  case h413 => (intro w hSw; (try dsimp only at hSw); go_simp; try with_reducible rfl)
  try simp only [Act.put, List.setIfInBounds_toArray, List.set_cons_zero, List.set_cons_succ]
  refine wpAnyH_take (i := 2) (oi := { dst := some 51, op := Go.Op.nilCheck (Go.Operand.tmp 50), type := 0, pos := "run.go:44", after := #[{ on := 1, ground := Go.Ground.data }], guard := none }) (v := ?v414) rfl (by kernel_rfl) (by kernel_rfl) (by kernel_rfl) (fun _ _ _ h => h) (Or.inl ⟨by kernel_rfl, ?h414⟩) (by assumption) ?r414
  case h414 => (intro w hSw; (try dsimp only at hSw); go_simp; try with_reducible rfl)
  try simp only [Act.put, List.setIfInBounds_toArray, List.set_cons_zero, List.set_cons_succ]
  refine wpAnyH_take (i := 3) (oi := { dst := some 52, op := Go.Op.fieldAddr 72 (Go.Operand.tmp 51) 0, type := 0, pos := "run.go:44", after := #[{ on := 2, ground := Go.Ground.data }], guard := none }) (v := ?v415) rfl (by kernel_rfl) (by kernel_rfl) (by kernel_rfl) (fun _ _ _ h => h) (Or.inl ⟨by kernel_rfl, ?h415⟩) (by assumption) ?r415
  case h415 => (intro w hSw; (try dsimp only at hSw); go_simp; try with_reducible rfl)
  try simp only [Act.put, List.setIfInBounds_toArray, List.set_cons_zero, List.set_cons_succ]
  refine wpAnyH_take (i := 4) (oi := { dst := some 53, op := Go.Op.fieldAddr 51 (Go.Operand.tmp 52) 0, type := 0, pos := "run.go:44", after := #[{ on := 3, ground := Go.Ground.data }], guard := none }) (v := ?v416) rfl (by kernel_rfl) (by kernel_rfl) (by kernel_rfl) (fun _ _ _ h => h) (Or.inl ⟨by kernel_rfl, ?h416⟩) (by assumption) ?r416
  case h416 => (intro w hSw; (try dsimp only at hSw); go_simp; try with_reducible rfl)
  try simp only [Act.put, List.setIfInBounds_toArray, List.set_cons_zero, List.set_cons_succ]
  refine wpAnyH_take (i := 5) (oi := { dst := some 54, op := Go.Op.load 3 (Go.Operand.tmp 53), type := 3, pos := "run.go:44", after := #[{ on := 4, ground := Go.Ground.data }], guard := none }) (v := ?v417) rfl (by kernel_rfl) (by kernel_rfl) (by kernel_rfl) (fun _ _ _ h => h) (Or.inl ⟨by kernel_rfl, ?h417⟩) (by assumption) ?r417
  case h417 => (intro w hSw; (try dsimp only at hSw); go_simp; try with_reducible rfl)
  try simp only [Act.put, List.setIfInBounds_toArray, List.set_cons_zero, List.set_cons_succ]
  refine wpAnyH_take (i := 7) (oi := { dst := some 56, op := Go.Op.move (Go.Operand.tmp 9), type := 70, pos := "run.go:44", after := #[], guard := none }) (v := ?v418) rfl (by kernel_rfl) (by kernel_rfl) (by kernel_rfl) (fun _ _ _ h => h) (Or.inl ⟨by kernel_rfl, ?h418⟩) (by assumption) ?r418
  case h418 => (intro w hSw; (try dsimp only at hSw); go_simp; try with_reducible rfl)
  try simp only [Act.put, List.setIfInBounds_toArray, List.set_cons_zero, List.set_cons_succ]
  refine wpAnyH_ready (rs := [0]) (by kernel_rfl) (by simp) ?_
  refine AllReadyH.cons (o := { dst := some 49, op := Go.Op.call { callee := Go.Callee.value (Go.Operand.func 41), args := #[], argTypes := #[] }, type := 74, pos := "run.go:44", after := #[], guard := none }) rfl (fun K hK => ?_) AllReadyH.nil
  go_simp
  with_reducible refine (moves_any _).mono ?_
  rintro e t0 ⟨rfl, b0⟩
  have HM2 := Lib.hid (HM.out.below (Below.trans ((Below.refl _ _).drew) b0))
  go_simp
  refine hK.out _ _ (hHeld.trans (.of (b0.mono hHeld.size))) (fun hHeld => ?_)
  clear hK K
  try simp only [Act.put, List.setIfInBounds_toArray, List.set_cons_zero, List.set_cons_succ]
  refine wpAnyH_take (i := 6) (oi := { dst := some 55, op := Go.Op.index 74 (Go.Operand.tmp 49) (Go.Operand.tmp 54), type := 73, pos := "run.go:44", after := #[{ on := 0, ground := Go.Ground.data }, { on := 5, ground := Go.Ground.data }], guard := none }) (v := ?v419) rfl (by kernel_rfl) (by kernel_rfl) (by kernel_rfl) (fun _ _ _ h => h) (Or.inl ⟨by kernel_rfl, ?h419⟩) (by assumption) ?r419
  case h419 => (intro w hSw; (try dsimp only at hSw); go_simp; try with_reducible rfl)
  try simp only [Act.put, List.setIfInBounds_toArray, List.set_cons_zero, List.set_cons_succ]
  refine wpAnyH_ready (rs := [8]) (by kernel_rfl) (by simp) ?_
  refine AllReadyH.cons (o := { dst := some 57, op := Go.Op.call { callee := Go.Callee.value (Go.Operand.tmp 55), args := #[Go.Operand.tmp 56], argTypes := #[70] }, type := 4, pos := "run.go:44", after := #[{ on := 6, ground := Go.Ground.data }, { on := 7, ground := Go.Ground.data }, { on := 0, ground := Go.Ground.chain }], guard := none }) rfl (fun K hK => ?_) AllReadyH.nil
  go_simp
  with_reducible refine (hq'.out _ _ _ _ _ _ HM2.out hn hnl.out).mono ?_
  rintro e t8 ⟨rfl, hM8, hBE⟩
  go_simp
  refine hK.out _ _ (hHeld.trans (hBE.mono hHeld.size)) (fun hHeld => ?_)
  clear hK K
  try simp only [Act.put, List.setIfInBounds_toArray, List.set_cons_zero, List.set_cons_succ]
  refine wpAnyH_take (i := 9) (oi := { dst := some 58, op := Go.Op.unOp Go.UnOp.not 4 (Go.Operand.tmp 57), type := 4, pos := "run.go:44", after := #[{ on := 8, ground := Go.Ground.data }], guard := none }) (v := ?v420) rfl (by kernel_rfl) (by kernel_rfl) (by kernel_rfl) (fun _ _ _ h => h) (Or.inl ⟨by kernel_rfl, ?h420⟩) (by assumption) ?r420
  case h420 => (intro w hSw; (try dsimp only at hSw); go_simp; try with_reducible rfl)
  try simp only [Act.put, List.setIfInBounds_toArray, List.set_cons_zero, List.set_cons_succ]
  refine wpAnyH_done (by kernel_rfl) ?_ _
  obtain ⟨X6, hX6⟩ : ∃ X6, X6 = t8 := ⟨_, rfl⟩
  rw [← hX6] at hM8 hHeld ⊢
  have HM6 := Lib.hid hM8
  have h36 := step_far ((BelowE.of hXY.out).trans (hHeld.mono hXY.out.size)) hfresh.out
  replace Z3 := Lib.hid (Z3.out.below h36 Z3.out.lt)
  replace ZE := Lib.hid (ZE.out.below h36 ZE.out.lt)
  replace BL := Lib.hid (BL.out.trans (h36.mono BL.out.size))
  have hz3 := Lib.hid Z3.out.lt
  have hX36 := Lib.hid h36.size
  clear hX6 hHeld h36 m0 hix2 hgb hM8 hBE HM HM2 hXY b0
  have k0 := HM6.out.blk.cell 0
  have k1 := HM6.out.blk.cell 1
  have k2 := HM6.out.blk.cell 2
  have k3 := HM6.out.blk.cell 3
  have k4 := HM6.out.blk.cell 4
  simp at k0 k1 k2 k3 k4
  go_wp2_with fail
  with_reducible refine (refusal_any _ _ _ _ _ X6).mono ?_
  rintro e X7 ⟨rfl, b7⟩
  replace Z3 := Lib.hid (Z3.out.below b7 Z3.out.lt)
  replace BL := Lib.hid (BL.out.trans (b7.mono BL.out.size))
  clear k0 k1 k2 k3 k4 b7
  have k0 := Z3.out.cell 0
  have k1 := Z3.out.cell 1
  have j0 := Z3.out.free 0
  have j1 := Z3.out.free 1
  simp at k0 k1
  go_wp2
  exact state_ret2 (state_set Z3.out _ _) ⟨none, 0, 0, rfl, SL.nil _, belT BL.out (by omega) _ _, fun p hp => by cases hp⟩ _ _ 6 7 rfl rfl rfl rfl
end Go.Proofs.YtjdfjekonnkglaaGreatDoor
