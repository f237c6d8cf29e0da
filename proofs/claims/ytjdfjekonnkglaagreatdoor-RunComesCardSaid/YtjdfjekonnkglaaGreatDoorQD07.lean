/-
  Words and walks under the law's proof.
-/
import Derived.Test.YtjdfjekonnkglaaGreatDoorQD05
import Derived.Test.YtjdfjekonnkglaaGreatDoorQD06
namespace Go.Proofs.YtjdfjekonnkglaaGreatDoor
open Go.RowKit
set_option linter.unusedVariables false
set_option linter.unusedSimpArgs false

set_option maxRecDepth 100000 in
set_option maxHeartbeats 16000000 in
theorem step_3t (pnm : ByteArray) (pa1 : Option Addr) (pn1 pc1 : Nat) (pa2 : Option Addr) (pn2 pc2 : Nat) (pa3 : Option Addr) (pn3 pc3 : Nat) (D : PD) (pt : Int) (a : Option Addr) (n c : Nat) (l : List Int) (E : Nat) (v : Int) (he : E < pn3) (ds x y cc d : Int) (hE : D.edges.getD E edge0 = (⟨pt, ds, 3, x, y, cc, d⟩ : EdgeD)) (hn : n ≤ 1000) (l' : List Int)
    (hq : ∀ B g a n cp W, MvH B g 3 x y cc d v a n cp l W → n ≤ 1000 → n = l.length → Calls Tryz.prog 58 #[.pointer (some ⟨g, 0, none⟩)] W (MvE B g 3 x y cc d v a n cp true l' W)) (w : World) (h : PrA w ⟨pnm, pa1, pn1, pc1, pa2, pn2, pc2, pa3, pn3, pc3⟩ D) (hs : SL w a n c l) :
    Calls Tryz.prog 24 #[.agg #[.string pnm, .slice pa1 pn1 pc1, .slice pa2 pn2 pc2, .slice pa3 pn3 pc3], .agg #[.int .i64 pt, .slice a n c], .agg #[.int .i64 (E : Int), .int .i64 v]] w (StE ds l' 0 w) := by
  obtain ⟨b, off, ha3, -⟩ := edges_at h.edges (i := E) he
  obtain ⟨W1, hW1⟩ : ∃ W1, W1 = (((w.alloc (.cells #[.string pnm, .slice pa1 pn1 pc1, .slice pa2 pn2 pc2, .slice pa3 pn3 pc3] 26)).alloc (.cells #[.int .i64 pt, .slice a n c] 39)).alloc (.cells #[.int .i64 (E : Int), .int .i64 v] 44)).alloc (.cells #[.int .i64 0, .slice none 0 0] 39) := ⟨_, rfl⟩
  have BL : Hid (Below w.heap.size w W1) := Lib.hid (by rw [hW1]; exact ((((Below.refl _ _).alloc (Nat.le_refl _) _).alloc (by simp) _).alloc (by simp; omega) _).alloc (by simp; omega) _)
  have Z0 : Hid (Holds W1 w.heap.size 26 #[.string pnm, .slice pa1 pn1 pc1, .slice pa2 pn2 pc2, .slice pa3 pn3 pc3]) := Lib.hid (by rw [hW1]; exact (((Holds.new w _ _).alloc _).alloc _).alloc _)
  have Z1 : Hid (Holds W1 (w.heap.size + 1) 39 #[.int .i64 pt, .slice a n c]) := Lib.hid (by rw [hW1]; have q := ((Holds.new (w.alloc (.cells #[.string pnm, .slice pa1 pn1 pc1, .slice pa2 pn2 pc2, .slice pa3 pn3 pc3] 26)) 39 #[.int .i64 pt, .slice a n c]).alloc (.cells #[.int .i64 (E : Int), .int .i64 v] 44)).alloc (.cells #[.int .i64 0, .slice none 0 0] 39); simpa using q)
  have Z2 : Hid (Holds W1 (w.heap.size + 2) 44 #[.int .i64 (E : Int), .int .i64 v]) := Lib.hid (by rw [hW1]; have q := (Holds.new ((w.alloc (.cells #[.string pnm, .slice pa1 pn1 pc1, .slice pa2 pn2 pc2, .slice pa3 pn3 pc3] 26)).alloc (.cells #[.int .i64 pt, .slice a n c] 39)) 44 #[.int .i64 (E : Int), .int .i64 v]).alloc (.cells #[.int .i64 0, .slice none 0 0] 39); simpa using q)
  have Z3 : Hid (Holds W1 (w.heap.size + 3) 39 #[.int .i64 0, .slice none 0 0]) := Lib.hid (by rw [hW1]; have q := Holds.new (((w.alloc (.cells #[.string pnm, .slice pa1 pn1 pc1, .slice pa2 pn2 pc2, .slice pa3 pn3 pc3] 26)).alloc (.cells #[.int .i64 pt, .slice a n c] 39)).alloc (.cells #[.int .i64 (E : Int), .int .i64 v] 44)) 39 #[.int .i64 0, .slice none 0 0]; simpa using q)
  have hW1' := Lib.hid hW1
  clear hW1
  subst ha3
  obtain ⟨b', off', hab, hbl, y0, y1, y2, y3, y4, y5, y6⟩ := edges_at (h.edges.below BL.out) he
  injection hab with hab
  injection hab with hab1 hab2
  subst hab1 hab2
  rw [hE] at y0 y1 y2 y3 y4 y5 y6
  dsimp only at y0 y1 y2 y3 y4 y5 y6
  have hb2 : b < W1.heap.size := hbl
  clear hbl
  have d1 : ¬ (E : Int) < 0 := by omega
  have d2 : ¬ (pn3 : Int) ≤ (E : Int) := by omega
  have d3 : (E : Int) < (pn3 : Int) := by omega
  have d4 : ¬ pn3 ≤ E := by omega
  have f0 : ∀ W, Below W1.heap.size W1 W → W.cell? ⟨w.heap.size + 2, 0, none⟩ = some (.int .i64 (E : Int)) := fun W hW => (Z2.out.below hW Z2.out.lt).cell 0
  have f1 : ∀ W, Below W1.heap.size W1 W → W.cell? ⟨w.heap.size, 3, none⟩ = some (.slice (some ⟨b, off, none⟩) pn3 pc3) := fun W hW => (Z0.out.below hW Z0.out.lt).cell 3
  have f2 : ∀ W, Below W1.heap.size W1 W → W.cell? ⟨w.heap.size + 1, 0, none⟩ = some (.int .i64 pt) := fun W hW => (Z1.out.below hW Z1.out.lt).cell 0
  have X0 : ∀ W, Below W1.heap.size W1 W → W.cell? ⟨b, off + E * 7, none⟩ = some (.int .i64 pt) := fun W hW => (hW.cell (p := ⟨b, off + E * 7, none⟩) hb2).trans y0
  have d5 : (pt != pt) = false := by simp
  have hnl := Lib.hid hs.len
  have S := Lib.hid (hs.below BL.out)
  have Y0 : Hid (W1.cell? ⟨b, off + E * 7, none⟩ = some (.int .i64 pt)) := Lib.hid y0
  have Y1 : Hid (W1.cell? ⟨b, off + E * 7 + 1, none⟩ = some (.int .i64 ds)) := Lib.hid y1
  have Y2 : Hid (W1.cell? ⟨b, off + E * 7 + 2, none⟩ = some (.int .i64 3)) := Lib.hid y2
  have Y3 : Hid (W1.cell? ⟨b, off + E * 7 + 3, none⟩ = some (.int .i64 x)) := Lib.hid y3
  have Y4 : Hid (W1.cell? ⟨b, off + E * 7 + 4, none⟩ = some (.int .i64 y)) := Lib.hid y4
  have Y5 : Hid (W1.cell? ⟨b, off + E * 7 + 5, none⟩ = some (.int .i64 cc)) := Lib.hid y5
  have Y6 : Hid (W1.cell? ⟨b, off + E * 7 + 6, none⟩ = some (.int .i64 d)) := Lib.hid y6
  have hq' := Lib.hid hq
  have hix : Hid (∀ W, (Instr.index 74 (.agg movesA) (.int .i64 3)).run Tryz.prog W = .ok (.func (.func 58) #[] #[]) W) := Lib.hid (fun W => by kernel_rfl)
  clear h hs hE he hq y0 y1 y2 y3 y4 y5 y6
  go_enter Tryz.func24, Tryz.ntmps24
  go_wp2
  rw [← hW1'.out]
  clear hW1'
  refine wp_drawn_on (fun W => Below W1.heap.size W1 W) (by kernel_rfl) ((Below.refl _ _).drew) (fun hHeld => ?_)
  refine wpAnyH_take (i := 0) (oi := { dst := some 10, op := Go.Op.fieldAddr 44 (Go.Operand.tmp 5) 0, type := 0, pos := "run.go:39", after := #[], guard := none }) (v := ?v163) rfl (by kernel_rfl) (by kernel_rfl) (by kernel_rfl) (fun _ _ _ h => h) (Or.inl ⟨by kernel_rfl, ?h163⟩) (by assumption) ?r163
  case h163 => (intro w hSw; (try dsimp only at hSw); go_simp; try with_reducible rfl)
  try simp only [Act.put, List.setIfInBounds_toArray, List.set_cons_zero, List.set_cons_succ]
  refine wpAnyH_take (i := 1) (oi := { dst := some 11, op := Go.Op.load 3 (Go.Operand.tmp 10), type := 3, pos := "run.go:39", after := #[{ on := 0, ground := Go.Ground.data }], guard := none }) (v := ?v164) rfl (by kernel_rfl) (by kernel_rfl) (by kernel_rfl) (fun _ _ _ h => h) (Or.inl ⟨by kernel_rfl, ?h164⟩) (by assumption) ?r164
  case h164 => (intro w hSw; (try dsimp only at hSw); go_simp; try with_reducible rfl)
  try simp only [Act.put, List.setIfInBounds_toArray, List.set_cons_zero, List.set_cons_succ]
  refine wpAnyH_take (i := 2) (oi := { dst := some 12, op := Go.Op.binOp Go.BinOp.lss 3 (Go.Operand.tmp 11) (Go.Operand.const (Go.Value.int Go.IntKind.i64 0)) 3, type := 4, pos := "run.go:39", after := #[{ on := 1, ground := Go.Ground.data }], guard := none }) (v := ?v165) rfl (by kernel_rfl) (by kernel_rfl) (by kernel_rfl) (fun _ _ _ h => h) (Or.inl ⟨by kernel_rfl, ?h165⟩) (by assumption) ?r165
  case h165 => (intro w hSw; (try dsimp only at hSw); go_simp; try with_reducible rfl)
  try simp only [Act.put, List.setIfInBounds_toArray, List.set_cons_zero, List.set_cons_succ]
  refine wpAnyH_take (i := 3) (oi := { dst := some 13, op := Go.Op.move (Go.Operand.tmp 12), type := 4, pos := "run.go:39", after := #[{ on := 2, ground := Go.Ground.data }], guard := none }) (v := ?v166) rfl (by kernel_rfl) (by kernel_rfl) (by kernel_rfl) (fun _ _ _ h => h) (Or.inl ⟨by kernel_rfl, ?h166⟩) (by assumption) ?r166
  case h166 => (intro w hSw; (try dsimp only at hSw); go_simp; try with_reducible rfl)
  try simp only [Act.put, List.setIfInBounds_toArray, List.set_cons_zero, List.set_cons_succ]
  refine wpAnyH_take (i := 4) (oi := { dst := some 14, op := Go.Op.fieldAddr 44 (Go.Operand.tmp 5) 0, type := 0, pos := "run.go:39", after := #[{ on := 3, ground := Go.Ground.guard }], guard := some (3, false) }) (v := ?v167) rfl (by kernel_rfl) (by kernel_rfl) (by kernel_rfl) (fun _ _ _ h => h) (Or.inl ⟨by kernel_rfl, ?h167⟩) (by assumption) ?r167
  case h167 => (intro w hSw; (try dsimp only at hSw); go_simp; try with_reducible rfl)
  try simp only [Act.put, List.setIfInBounds_toArray, List.set_cons_zero, List.set_cons_succ]
  refine wpAnyH_take (i := 5) (oi := { dst := some 15, op := Go.Op.load 3 (Go.Operand.tmp 14), type := 3, pos := "run.go:39", after := #[{ on := 4, ground := Go.Ground.data }, { on := 3, ground := Go.Ground.guard }], guard := some (3, false) }) (v := ?v168) rfl (by kernel_rfl) (by kernel_rfl) (by kernel_rfl) (fun _ _ _ h => h) (Or.inl ⟨by kernel_rfl, ?h168⟩) (by assumption) ?r168
  case h168 => (intro w hSw; (try dsimp only at hSw); go_simp; try with_reducible rfl)
  try simp only [Act.put, List.setIfInBounds_toArray, List.set_cons_zero, List.set_cons_succ]
  refine wpAnyH_take (i := 6) (oi := { dst := some 16, op := Go.Op.fieldAddr 26 (Go.Operand.tmp 3) 3, type := 0, pos := "run.go:39", after := #[{ on := 3, ground := Go.Ground.guard }], guard := some (3, false) }) (v := ?v169) rfl (by kernel_rfl) (by kernel_rfl) (by kernel_rfl) (fun _ _ _ h => h) (Or.inl ⟨by kernel_rfl, ?h169⟩) (by assumption) ?r169
  case h169 => (intro w hSw; (try dsimp only at hSw); go_simp; try with_reducible rfl)
  try simp only [Act.put, List.setIfInBounds_toArray, List.set_cons_zero, List.set_cons_succ]
  refine wpAnyH_take (i := 7) (oi := { dst := some 17, op := Go.Op.load 24 (Go.Operand.tmp 16), type := 24, pos := "run.go:39", after := #[{ on := 6, ground := Go.Ground.data }, { on := 3, ground := Go.Ground.guard }], guard := some (3, false) }) (v := ?v170) rfl (by kernel_rfl) (by kernel_rfl) (by kernel_rfl) (fun _ _ _ h => h) (Or.inl ⟨by kernel_rfl, ?h170⟩) (by assumption) ?r170
  case h170 => (intro w hSw; (try dsimp only at hSw); go_simp; try with_reducible rfl)
  try simp only [Act.put, List.setIfInBounds_toArray, List.set_cons_zero, List.set_cons_succ]
  refine wpAnyH_take (i := 8) (oi := { dst := some 18, op := Go.Op.call { callee := Go.Callee.builtin Go.Builtin.len, args := #[Go.Operand.tmp 17], argTypes := #[24] }, type := 3, pos := "run.go:39", after := #[{ on := 7, ground := Go.Ground.data }, { on := 3, ground := Go.Ground.guard }], guard := some (3, false) }) (v := ?v171) rfl (by kernel_rfl) (by kernel_rfl) (by kernel_rfl) (fun _ _ _ h => h) (Or.inl ⟨by kernel_rfl, ?h171⟩) (by assumption) ?r171
  case h171 => (intro w hSw; (try dsimp only at hSw); go_simp; try with_reducible rfl)
  try simp only [Act.put, List.setIfInBounds_toArray, List.set_cons_zero, List.set_cons_succ]
  refine wpAnyH_take (i := 9) (oi := { dst := some 19, op := Go.Op.binOp Go.BinOp.geq 3 (Go.Operand.tmp 15) (Go.Operand.tmp 18) 3, type := 4, pos := "run.go:39", after := #[{ on := 5, ground := Go.Ground.data }, { on := 8, ground := Go.Ground.data }, { on := 3, ground := Go.Ground.guard }], guard := some (3, false) }) (v := ?v172) rfl (by kernel_rfl) (by kernel_rfl) (by kernel_rfl) (fun _ _ _ h => h) (Or.inl ⟨by kernel_rfl, ?h172⟩) (by assumption) ?r172
  case h172 => (intro w hSw; (try dsimp only at hSw); go_simp; try with_reducible rfl)
  try simp only [Act.put, List.setIfInBounds_toArray, List.set_cons_zero, List.set_cons_succ]
  refine wpAnyH_take (i := 10) (oi := { dst := some 20, op := Go.Op.pick (Go.Operand.tmp 13) (Go.Operand.const (Go.Value.bool true)) (Go.Operand.tmp 19), type := 4, pos := "run.go:39", after := #[{ on := 3, ground := Go.Ground.data }, { on := 9, ground := Go.Ground.data }], guard := none }) (v := ?v173) rfl (by kernel_rfl) (by kernel_rfl) (by kernel_rfl) (fun _ _ _ h => h) (Or.inl ⟨by kernel_rfl, ?h173⟩) (by assumption) ?r173
  case h173 => (intro w hSw; (try dsimp only at hSw); go_simp; try with_reducible rfl)
  try simp only [Act.put, List.setIfInBounds_toArray, List.set_cons_zero, List.set_cons_succ]
  refine wpAnyH_take (i := 11) (oi := { dst := some 21, op := Go.Op.move (Go.Operand.tmp 20), type := 4, pos := "run.go:39", after := #[{ on := 10, ground := Go.Ground.data }, { on := 3, ground := Go.Ground.chain }], guard := none }) (v := ?v174) rfl (by kernel_rfl) (by kernel_rfl) (by kernel_rfl) (fun _ _ _ h => h) (Or.inl ⟨by kernel_rfl, ?h174⟩) (by assumption) ?r174
  case h174 => (intro w hSw; (try dsimp only at hSw); go_simp; try with_reducible rfl)
  try simp only [Act.put, List.setIfInBounds_toArray, List.set_cons_zero, List.set_cons_succ]
  refine wpAnyH_take (i := 12) (oi := { dst := some 22, op := Go.Op.fieldAddr 26 (Go.Operand.tmp 3) 3, type := 0, pos := "run.go:39", after := #[{ on := 11, ground := Go.Ground.guard }], guard := some (11, false) }) (v := ?v175) rfl (by kernel_rfl) (by kernel_rfl) (by kernel_rfl) (fun _ _ _ h => h) (Or.inl ⟨by kernel_rfl, ?h175⟩) (by assumption) ?r175
  case h175 => (intro w hSw; (try dsimp only at hSw); go_simp; try with_reducible rfl)
  try simp only [Act.put, List.setIfInBounds_toArray, List.set_cons_zero, List.set_cons_succ]
  refine wpAnyH_take (i := 13) (oi := { dst := some 23, op := Go.Op.load 24 (Go.Operand.tmp 22), type := 24, pos := "run.go:39", after := #[{ on := 12, ground := Go.Ground.data }, { on := 11, ground := Go.Ground.guard }], guard := some (11, false) }) (v := ?v176) rfl (by kernel_rfl) (by kernel_rfl) (by kernel_rfl) (fun _ _ _ h => h) (Or.inl ⟨by kernel_rfl, ?h176⟩) (by assumption) ?r176
  case h176 => (intro w hSw; (try dsimp only at hSw); go_simp; try with_reducible rfl)
  try simp only [Act.put, List.setIfInBounds_toArray, List.set_cons_zero, List.set_cons_succ]
  refine wpAnyH_take (i := 14) (oi := { dst := some 24, op := Go.Op.fieldAddr 44 (Go.Operand.tmp 5) 0, type := 0, pos := "run.go:39", after := #[{ on := 11, ground := Go.Ground.guard }], guard := some (11, false) }) (v := ?v177) rfl (by kernel_rfl) (by kernel_rfl) (by kernel_rfl) (fun _ _ _ h => h) (Or.inl ⟨by kernel_rfl, ?h177⟩) (by assumption) ?r177
  case h177 => (intro w hSw; (try dsimp only at hSw); go_simp; try with_reducible rfl)
  try simp only [Act.put, List.setIfInBounds_toArray, List.set_cons_zero, List.set_cons_succ]
  refine wpAnyH_take (i := 15) (oi := { dst := some 25, op := Go.Op.load 3 (Go.Operand.tmp 24), type := 3, pos := "run.go:39", after := #[{ on := 14, ground := Go.Ground.data }, { on := 11, ground := Go.Ground.guard }], guard := some (11, false) }) (v := ?v178) rfl (by kernel_rfl) (by kernel_rfl) (by kernel_rfl) (fun _ _ _ h => h) (Or.inl ⟨by kernel_rfl, ?h178⟩) (by assumption) ?r178
  case h178 => (intro w hSw; (try dsimp only at hSw); go_simp; try with_reducible rfl)
  try simp only [Act.put, List.setIfInBounds_toArray, List.set_cons_zero, List.set_cons_succ]
  refine wpAnyH_take (i := 16) (oi := { dst := some 26, op := Go.Op.indexAddr 24 (Go.Operand.tmp 23) (Go.Operand.tmp 25), type := 0, pos := "run.go:39", after := #[{ on := 13, ground := Go.Ground.data }, { on := 15, ground := Go.Ground.data }, { on := 11, ground := Go.Ground.guard }], guard := some (11, false) }) (v := ?v179) rfl (by kernel_rfl) (by kernel_rfl) (by kernel_rfl) (fun _ _ _ h => h) (Or.inl ⟨by kernel_rfl, ?h179⟩) (by assumption) ?r179
  case h179 => (intro w hSw; (try dsimp only at hSw); go_simp; try with_reducible rfl)
  try simp only [Act.put, List.setIfInBounds_toArray, List.set_cons_zero, List.set_cons_succ]
  refine wpAnyH_take (i := 17) (oi := { dst := some 27, op := Go.Op.fieldAddr 53 (Go.Operand.tmp 26) 0, type := 0, pos := "run.go:39", after := #[{ on := 16, ground := Go.Ground.data }, { on := 11, ground := Go.Ground.guard }], guard := some (11, false) }) (v := ?v180) rfl (by kernel_rfl) (by kernel_rfl) (by kernel_rfl) (fun _ _ _ h => h) (Or.inl ⟨by kernel_rfl, ?h180⟩) (by assumption) ?r180
  case h180 => (intro w hSw; (try dsimp only at hSw); go_simp; try with_reducible rfl)
  try simp only [Act.put, List.setIfInBounds_toArray, List.set_cons_zero, List.set_cons_succ]
  refine wpAnyH_take (i := 18) (oi := { dst := some 28, op := Go.Op.load 3 (Go.Operand.tmp 27), type := 3, pos := "run.go:39", after := #[{ on := 17, ground := Go.Ground.data }, { on := 11, ground := Go.Ground.guard }], guard := some (11, false) }) (v := ?v181) rfl (by kernel_rfl) (by kernel_rfl) (by kernel_rfl) (fun _ _ _ h => h) (Or.inl ⟨by kernel_rfl, ?h181⟩) (by assumption) ?r181
  case h181 => (intro w hSw; (try dsimp only at hSw); go_simp; try with_reducible rfl)
  try simp only [Act.put, List.setIfInBounds_toArray, List.set_cons_zero, List.set_cons_succ]
  refine wpAnyH_take (i := 19) (oi := { dst := some 29, op := Go.Op.fieldAddr 39 (Go.Operand.tmp 4) 0, type := 0, pos := "run.go:39", after := #[{ on := 11, ground := Go.Ground.guard }], guard := some (11, false) }) (v := ?v182) rfl (by kernel_rfl) (by kernel_rfl) (by kernel_rfl) (fun _ _ _ h => h) (Or.inl ⟨by kernel_rfl, ?h182⟩) (by assumption) ?r182
  case h182 => (intro w hSw; (try dsimp only at hSw); go_simp; try with_reducible rfl)
  try simp only [Act.put, List.setIfInBounds_toArray, List.set_cons_zero, List.set_cons_succ]
  refine wpAnyH_take (i := 20) (oi := { dst := some 30, op := Go.Op.load 3 (Go.Operand.tmp 29), type := 3, pos := "run.go:39", after := #[{ on := 19, ground := Go.Ground.data }, { on := 11, ground := Go.Ground.guard }], guard := some (11, false) }) (v := ?v183) rfl (by kernel_rfl) (by kernel_rfl) (by kernel_rfl) (fun _ _ _ h => h) (Or.inl ⟨by kernel_rfl, ?h183⟩) (by assumption) ?r183
  case h183 => (intro w hSw; (try dsimp only at hSw); go_simp; try with_reducible rfl)
  try simp only [Act.put, List.setIfInBounds_toArray, List.set_cons_zero, List.set_cons_succ]
  refine wpAnyH_take (i := 21) (oi := { dst := some 31, op := Go.Op.binOp Go.BinOp.neq 3 (Go.Operand.tmp 28) (Go.Operand.tmp 30) 3, type := 4, pos := "run.go:39", after := #[{ on := 18, ground := Go.Ground.data }, { on := 20, ground := Go.Ground.data }, { on := 11, ground := Go.Ground.guard }], guard := some (11, false) }) (v := ?v184) rfl (by kernel_rfl) (by kernel_rfl) (by kernel_rfl) (fun _ _ _ h => h) (Or.inl ⟨by kernel_rfl, ?h184⟩) (by assumption) ?r184
  case h184 => (intro w hSw; (try dsimp only at hSw); go_simp; try with_reducible rfl)
  try simp only [Act.put, List.setIfInBounds_toArray, List.set_cons_zero, List.set_cons_succ]
  refine wpAnyH_take (i := 22) (oi := { dst := some 32, op := Go.Op.pick (Go.Operand.tmp 21) (Go.Operand.const (Go.Value.bool true)) (Go.Operand.tmp 31), type := 4, pos := "run.go:39", after := #[{ on := 11, ground := Go.Ground.data }, { on := 21, ground := Go.Ground.data }], guard := none }) (v := ?v185) rfl (by kernel_rfl) (by kernel_rfl) (by kernel_rfl) (fun _ _ _ h => h) (Or.inl ⟨by kernel_rfl, ?h185⟩) (by assumption) ?r185
  case h185 => (intro w hSw; (try dsimp only at hSw); go_simp; try with_reducible rfl)
  try simp only [Act.put, List.setIfInBounds_toArray, List.set_cons_zero, List.set_cons_succ]
  refine wpAnyH_done (by kernel_rfl) ?_ _
  obtain ⟨X2, hX2⟩ : ∃ X2, X2 = W1.drew := ⟨_, rfl⟩
  rw [← hX2] at hHeld ⊢
  replace Z0 := Lib.hid (Z0.out.below hHeld Z0.out.lt)
  replace Z1 := Lib.hid (Z1.out.below hHeld Z1.out.lt)
  replace Z2 := Lib.hid (Z2.out.below hHeld Z2.out.lt)
  replace Z3 := Lib.hid (Z3.out.below hHeld Z3.out.lt)
  replace S := Lib.hid (S.out.below hHeld)
  replace BL := Lib.hid (BL.out.trans (hHeld.mono BL.out.size))
  have y0 := (hHeld.cell (p := ⟨b, off + E * 7, none⟩) hb2).trans Y0.out
  have y1 := (hHeld.cell (p := ⟨b, off + E * 7 + 1, none⟩) hb2).trans Y1.out
  have y2 := (hHeld.cell (p := ⟨b, off + E * 7 + 2, none⟩) hb2).trans Y2.out
  have y3 := (hHeld.cell (p := ⟨b, off + E * 7 + 3, none⟩) hb2).trans Y3.out
  have y4 := (hHeld.cell (p := ⟨b, off + E * 7 + 4, none⟩) hb2).trans Y4.out
  have y5 := (hHeld.cell (p := ⟨b, off + E * 7 + 5, none⟩) hb2).trans Y5.out
  have y6 := (hHeld.cell (p := ⟨b, off + E * 7 + 6, none⟩) hb2).trans Y6.out
  have hb3 : b < X2.heap.size := Nat.lt_of_lt_of_le hb2 hHeld.size
  clear hX2 hHeld f0 f1 f2 X0 hb2
  have hZ32 := Z3.out.lt
  have k0 := Z0.out.cell 3
  have k1 := Z2.out.cell 0
  simp at k0 k1
  go_upto_region 4 with (fail)
  obtain ⟨X3, hX3⟩ : ∃ X3, X3 = X2.alloc (.cells #[.int .i64 pt, .int .i64 ds, .int .i64 3, .int .i64 x, .int .i64 y, .int .i64 cc, .int .i64 d] 53) := ⟨_, rfl⟩
  rw [← hX3]
  have B3 : Below X2.heap.size X2 X3 := by rw [hX3]; exact box_below _ _ _
  have ZE : Hid (Holds X3 X2.heap.size 53 #[.int .i64 pt, .int .i64 ds, .int .i64 3, .int .i64 x, .int .i64 y, .int .i64 cc, .int .i64 d]) := Lib.hid (by rw [hX3]; exact Holds.new _ _ _)
  replace Z1 := Lib.hid (Z1.out.below B3 Z1.out.lt)
  replace Z2 := Lib.hid (Z2.out.below B3 Z2.out.lt)
  replace Z3 := Lib.hid (Z3.out.below B3 Z3.out.lt)
  replace S := Lib.hid (S.out.below B3)
  have hz32 : Hid (w.heap.size + 3 < X2.heap.size) := Lib.hid hZ32
  have hz23 : Hid (X2.heap.size < X3.heap.size) := Lib.hid ZE.out.lt
  replace BL := Lib.hid (BL.out.trans (B3.mono BL.out.size))
  clear hZ32 hX3 B3 k0 k1 Z0 y0 y1 y2 y3 y4 y5 y6 Y0 Y1 Y2 Y3 Y4 Y5 Y6 hb3
  have e2 : ∀ W, Below X3.heap.size X3 W → W.cell? ⟨X2.heap.size, 2, none⟩ = some (.int .i64 3) := fun W hW => (ZE.out.below hW ZE.out.lt).cell 2
  have e3 : ∀ W, Below X3.heap.size X3 W → W.cell? ⟨X2.heap.size, 3, none⟩ = some (.int .i64 x) := fun W hW => (ZE.out.below hW ZE.out.lt).cell 3
  have e4 : ∀ W, Below X3.heap.size X3 W → W.cell? ⟨X2.heap.size, 4, none⟩ = some (.int .i64 y) := fun W hW => (ZE.out.below hW ZE.out.lt).cell 4
  have e5 : ∀ W, Below X3.heap.size X3 W → W.cell? ⟨X2.heap.size, 5, none⟩ = some (.int .i64 cc) := fun W hW => (ZE.out.below hW ZE.out.lt).cell 5
  have e6 : ∀ W, Below X3.heap.size X3 W → W.cell? ⟨X2.heap.size, 6, none⟩ = some (.int .i64 d) := fun W hW => (ZE.out.below hW ZE.out.lt).cell 6
  have f1 : ∀ W, Below X3.heap.size X3 W → W.cell? ⟨w.heap.size + 1, 1, none⟩ = some (.slice a n c) := fun W hW => (Z1.out.below hW Z1.out.lt).cell 1
  have f2 : ∀ W, Below X3.heap.size X3 W → W.cell? ⟨w.heap.size + 2, 1, none⟩ = some (.int .i64 v) := fun W hW => (Z2.out.below hW Z2.out.lt).cell 1
  refine wp_drawn_on (fun W => Below X3.heap.size X3 W) (by kernel_rfl) ((Below.refl _ _).drew) (fun hHeld => ?_)
  refine wpAnyH_take (i := 0) (oi := { dst := some 40, op := Go.Op.fieldAddr 53 (Go.Operand.tmp 8) 2, type := 0, pos := "run.go:43", after := #[], guard := none }) (v := ?v186) rfl (by kernel_rfl) (by kernel_rfl) (by kernel_rfl) (fun _ _ _ h => h) (Or.inl ⟨by kernel_rfl, ?h186⟩) (by assumption) ?r186
  case h186 => (intro w hSw; (try dsimp only at hSw); go_simp; try with_reducible rfl)
  try simp only [Act.put, List.setIfInBounds_toArray, List.set_cons_zero, List.set_cons_succ]
  refine wpAnyH_take (i := 1) (oi := { dst := some 41, op := Go.Op.load 51 (Go.Operand.tmp 40), type := 51, pos := "run.go:43", after := #[{ on := 0, ground := Go.Ground.data }], guard := none }) (v := ?v187) rfl (by kernel_rfl) (by kernel_rfl) (by kernel_rfl) (fun _ _ _ h => h) (Or.inl ⟨by kernel_rfl, ?h187⟩) (by assumption) ?r187
  case h187 => (intro w hSw; (try dsimp only at hSw); go_simp; try with_reducible rfl)
  try simp only [Act.put, List.setIfInBounds_toArray, List.set_cons_zero, List.set_cons_succ]
  refine wpAnyH_take (i := 2) (oi := { dst := some 42, op := Go.Op.fieldAddr 39 (Go.Operand.tmp 4) 1, type := 0, pos := "run.go:43", after := #[], guard := none }) (v := ?v188) rfl (by kernel_rfl) (by kernel_rfl) (by kernel_rfl) (fun _ _ _ h => h) (Or.inl ⟨by kernel_rfl, ?h188⟩) (by assumption) ?r188
  case h188 => (intro w hSw; (try dsimp only at hSw); go_simp; try with_reducible rfl)
  try simp only [Act.put, List.setIfInBounds_toArray, List.set_cons_zero, List.set_cons_succ]
  refine wpAnyH_take (i := 3) (oi := { dst := some 43, op := Go.Op.load 27 (Go.Operand.tmp 42), type := 27, pos := "run.go:43", after := #[{ on := 2, ground := Go.Ground.data }], guard := none }) (v := ?v189) rfl (by kernel_rfl) (by kernel_rfl) (by kernel_rfl) (fun _ _ _ h => h) (Or.inl ⟨by kernel_rfl, ?h189⟩) (by assumption) ?r189
  case h189 => (intro w hSw; (try dsimp only at hSw); go_simp; try with_reducible rfl)
  try simp only [Act.put, List.setIfInBounds_toArray, List.set_cons_zero, List.set_cons_succ]
  refine wpAnyH_take (i := 5) (oi := { dst := some 45, op := Go.Op.fieldAddr 44 (Go.Operand.tmp 5) 1, type := 0, pos := "run.go:43", after := #[], guard := none }) (v := ?v190) rfl (by kernel_rfl) (by kernel_rfl) (by kernel_rfl) (fun _ _ _ h => h) (Or.inl ⟨by kernel_rfl, ?h190⟩) (by assumption) ?r190
  case h190 => (intro w hSw; (try dsimp only at hSw); go_simp; try with_reducible rfl)
  try simp only [Act.put, List.setIfInBounds_toArray, List.set_cons_zero, List.set_cons_succ]
  refine wpAnyH_take (i := 6) (oi := { dst := some 46, op := Go.Op.load 3 (Go.Operand.tmp 45), type := 3, pos := "run.go:43", after := #[{ on := 5, ground := Go.Ground.data }], guard := none }) (v := ?v191) rfl (by kernel_rfl) (by kernel_rfl) (by kernel_rfl) (fun _ _ _ h => h) (Or.inl ⟨by kernel_rfl, ?h191⟩) (by assumption) ?r191
  case h191 => (intro w hSw; (try dsimp only at hSw); go_simp; try with_reducible rfl)
  try simp only [Act.put, List.setIfInBounds_toArray, List.set_cons_zero, List.set_cons_succ]
  refine wpAnyH_ready (rs := [4]) (by kernel_rfl) (by simp) ?_
  refine AllReadyH.cons (o := { dst := some 44, op := Go.Op.call { callee := Go.Callee.value (Go.Operand.func 23), args := #[Go.Operand.tmp 43], argTypes := #[27] }, type := 27, pos := "run.go:43", after := #[{ on := 3, ground := Go.Ground.data }], guard := none }) rfl (fun K hK => ?_) AllReadyH.nil
  go_simp
  with_reducible refine (clone_any a n c l hn _ (S.out.below hHeld)).mono ?_
  rintro e t4 ⟨a', c', rfl, hrow4, b4⟩
  have hrow := Lib.hid (own_from (B := w.heap.size) hrow4 (fun b hb => by have q1 := (hrow4.lt b hb).1; have q2 := hHeld.size; have q3 := BL.out.size; omega))
  have hfresh : Hid (∀ b, (Value.slice a' n c').ownBlock = some b → X3.heap.size ≤ b) := Lib.hid (fun b hb => (hrow4.lt b hb).1)
  clear hrow4
  go_simp
  refine hK.out _ _ (hHeld.trans (b4.mono hHeld.size)) (fun hHeld => ?_)
  clear hK K
  try simp only [Act.put, List.setIfInBounds_toArray, List.set_cons_zero, List.set_cons_succ]
  refine wpAnyH_take (i := 7) (oi := { dst := some 47, op := Go.Op.build 72 #[(0, Go.Operand.tmp 41), (1, Go.Operand.tmp 44), (2, Go.Operand.tmp 46)], type := 72, pos := "run.go:43", after := #[{ on := 1, ground := Go.Ground.data }, { on := 4, ground := Go.Ground.data }, { on := 6, ground := Go.Ground.data }], guard := none }) (v := ?v192) rfl (by kernel_rfl) (by kernel_rfl) (by kernel_rfl) (fun _ _ _ h => h) (Or.inl ⟨by kernel_rfl, ?h192⟩) (by assumption) ?r192
  case h192 => (intro w hSw; (try dsimp only at hSw); go_simp; try with_reducible rfl)
  try simp only [Act.put, List.setIfInBounds_toArray, List.set_cons_zero, List.set_cons_succ]
  refine wpAnyH_ready (rs := [8]) (by kernel_rfl) (by simp) ?_
  refine AllReadyH.cons (o := { dst := some 48, op := Go.Op.box 72 (Go.Operand.tmp 47), type := 70, pos := "run.go:43", after := #[{ on := 7, ground := Go.Ground.data }], guard := none }) rfl (fun K hK => ?_) AllReadyH.nil
  go_simp
  go_simp
  refine hK.out _ _ (hHeld.alloc hHeld.size _) (fun hHeld => ?_)
  clear hK K
  try simp only [Act.put, List.setIfInBounds_toArray, List.set_cons_zero, List.set_cons_succ]
  refine wpAnyH_take (i := 9) (oi := { dst := some 9, op := Go.Op.assign (Go.Operand.tmp 48), type := 70, pos := "run.go:43", after := #[{ on := 8, ground := Go.Ground.data }, { on := 4, ground := Go.Ground.chain }, { on := 0, ground := Go.Ground.phase }, { on := 1, ground := Go.Ground.phase }, { on := 2, ground := Go.Ground.phase }, { on := 3, ground := Go.Ground.phase }, { on := 4, ground := Go.Ground.phase }, { on := 5, ground := Go.Ground.phase }, { on := 6, ground := Go.Ground.phase }, { on := 7, ground := Go.Ground.phase }, { on := 8, ground := Go.Ground.phase }], guard := none }) (v := ?v193) rfl (by kernel_rfl) (by kernel_rfl) (by kernel_rfl) (fun _ _ _ h => h) (Or.inl ⟨by kernel_rfl, ?h193⟩) (by assumption) ?r193
  case h193 => (intro w hSw; (try dsimp only at hSw); go_simp; try with_reducible rfl)
  try simp only [Act.put, List.setIfInBounds_toArray, List.set_cons_zero, List.set_cons_succ]
  refine wpAnyH_done (by kernel_rfl) ?_ _
  obtain ⟨gm, hgm⟩ : ∃ gm, gm = t4.heap.size := ⟨_, rfl⟩
  obtain ⟨X5, hX5⟩ : ∃ X5, X5 = t4.alloc (.cells #[.int .i64 3, .int .i64 x, .int .i64 y, .int .i64 cc, .int .i64 d, .slice a' n c', .int .i64 v] 72) := ⟨_, rfl⟩
  rw [← hX5] at hHeld ⊢
  have B5 : Below t4.heap.size t4 X5 := by rw [hX5]; exact box_below _ _ _
  have HM : Hid (MvH w.heap.size gm 3 x y cc d v a' n c' l X5) := Lib.hid ⟨by rw [hX5, hgm]; exact Holds.new _ _ _, own_below hrow.out B5, fun b hb => by have := (hrow.out.lt b hb).2; omega⟩
  have hgm3 : Hid (X3.heap.size ≤ gm) := Lib.hid (by rw [hgm]; exact b4.size)
  rw [← hgm]
  have hXY := Lib.hid hHeld
  clear hX5 B5 hHeld hrow e2 e3 e4 e5 e6 f1 f2 hgm
  have hgb := blkL_not HM.out
  have m0 : ∀ W, BelowE (blkL a' n c') X5.heap.size X5 W → W.cell? ⟨gm, 0, none⟩ = some (.int .i64 3) := fun W hW => (HM.out.blk.belowE hW HM.out.blk.lt hgb).cell 0
  have hix2 := hix.out
  go_wp2
  refine wp_drawn_on (fun W => BelowE (blkL a' n c') X5.heap.size X5 W) (by kernel_rfl) ((BelowE.refl _ _ _).drew) (fun hHeld => ?_)
  refine wpAnyH_take (i := 1) (oi := { dst := some 50, op := Go.Op.move (Go.Operand.tmp 9), type := 70, pos := "run.go:44", after := #[], guard := none }) (v := ?v373) rfl (by kernel_rfl) (by kernel_rfl) (by kernel_rfl) (fun _ _ _ h => h) (Or.inl ⟨by kernel_rfl, ?h373⟩) (by assumption) ?r373
  case h373 => (intro w hSw; (try dsimp only at hSw); go_simp; try with_reducible rfl)
  try simp only [Act.put, List.setIfInBounds_toArray, List.set_cons_zero, List.set_cons_succ]
  refine wpAnyH_take (i := 2) (oi := { dst := some 51, op := Go.Op.nilCheck (Go.Operand.tmp 50), type := 0, pos := "run.go:44", after := #[{ on := 1, ground := Go.Ground.data }], guard := none }) (v := ?v374) rfl (by kernel_rfl) (by kernel_rfl) (by kernel_rfl) (fun _ _ _ h => h) (Or.inl ⟨by kernel_rfl, ?h374⟩) (by assumption) ?r374
  case h374 => (intro w hSw; (try dsimp only at hSw); go_simp; try with_reducible rfl)
  try simp only [Act.put, List.setIfInBounds_toArray, List.set_cons_zero, List.set_cons_succ]
  refine wpAnyH_take (i := 3) (oi := { dst := some 52, op := Go.Op.fieldAddr 72 (Go.Operand.tmp 51) 0, type := 0, pos := "run.go:44", after := #[{ on := 2, ground := Go.Ground.data }], guard := none }) (v := ?v375) rfl (by kernel_rfl) (by kernel_rfl) (by kernel_rfl) (fun _ _ _ h => h) (Or.inl ⟨by kernel_rfl, ?h375⟩) (by assumption) ?r375
  case h375 => (intro w hSw; (try dsimp only at hSw); go_simp; try with_reducible rfl)
  try simp only [Act.put, List.setIfInBounds_toArray, List.set_cons_zero, List.set_cons_succ]
  refine wpAnyH_take (i := 4) (oi := { dst := some 53, op := Go.Op.fieldAddr 51 (Go.Operand.tmp 52) 0, type := 0, pos := "run.go:44", after := #[{ on := 3, ground := Go.Ground.data }], guard := none }) (v := ?v376) rfl (by kernel_rfl) (by kernel_rfl) (by kernel_rfl) (fun _ _ _ h => h) (Or.inl ⟨by kernel_rfl, ?h376⟩) (by assumption) ?r376
  case h376 => (intro w hSw; (try dsimp only at hSw); go_simp; try with_reducible rfl)
  try simp only [Act.put, List.setIfInBounds_toArray, List.set_cons_zero, List.set_cons_succ]
  refine wpAnyH_take (i := 5) (oi := { dst := some 54, op := Go.Op.load 3 (Go.Operand.tmp 53), type := 3, pos := "run.go:44", after := #[{ on := 4, ground := Go.Ground.data }], guard := none }) (v := ?v377) rfl (by kernel_rfl) (by kernel_rfl) (by kernel_rfl) (fun _ _ _ h => h) (Or.inl ⟨by kernel_rfl, ?h377⟩) (by assumption) ?r377
  case h377 => (intro w hSw; (try dsimp only at hSw); go_simp; try with_reducible rfl)
  try simp only [Act.put, List.setIfInBounds_toArray, List.set_cons_zero, List.set_cons_succ]
  refine wpAnyH_take (i := 7) (oi := { dst := some 56, op := Go.Op.move (Go.Operand.tmp 9), type := 70, pos := "run.go:44", after := #[], guard := none }) (v := ?v378) rfl (by kernel_rfl) (by kernel_rfl) (by kernel_rfl) (fun _ _ _ h => h) (Or.inl ⟨by kernel_rfl, ?h378⟩) (by assumption) ?r378
  case h378 => (intro w hSw; (try dsimp only at hSw); go_simp; try with_reducible rfl)
  try simp only [Act.put, List.setIfInBounds_toArray, List.set_cons_zero, List.set_cons_succ]
  refine wpAnyH_ready (rs := [0]) (by kernel_rfl) (by simp) ?_
  refine AllReadyH.cons (o := { dst := some 49, op := Go.Op.call { callee := Go.Callee.value (Go.Operand.func 41), args := #[], argTypes := #[] }, type := 74, pos := "run.go:44", after := #[], guard := none }) rfl (fun K hK => ?_) AllReadyH.nil
  go_simp
  with_reducible refine (moves_any _).mono ?_
  rintro e t0 ⟨rfl, b0⟩
  have HM2 := Lib.hid (HM.out.below (Below.trans ((Below.refl _ _).drew) b0))
  go_simp
  refine hK.out _ _ (hHeld.trans (.of (b0.mono hHeld.size))) (fun hHeld => ?_)
  clear hK K
  try simp only [Act.put, List.setIfInBounds_toArray, List.set_cons_zero, List.set_cons_succ]
  refine wpAnyH_take (i := 6) (oi := { dst := some 55, op := Go.Op.index 74 (Go.Operand.tmp 49) (Go.Operand.tmp 54), type := 73, pos := "run.go:44", after := #[{ on := 0, ground := Go.Ground.data }, { on := 5, ground := Go.Ground.data }], guard := none }) (v := ?v379) rfl (by kernel_rfl) (by kernel_rfl) (by kernel_rfl) (fun _ _ _ h => h) (Or.inl ⟨by kernel_rfl, ?h379⟩) (by assumption) ?r379
  case h379 => (intro w hSw; (try dsimp only at hSw); go_simp; try with_reducible rfl)
  try simp only [Act.put, List.setIfInBounds_toArray, List.set_cons_zero, List.set_cons_succ]
  refine wpAnyH_ready (rs := [8]) (by kernel_rfl) (by simp) ?_
  refine AllReadyH.cons (o := { dst := some 57, op := Go.Op.call { callee := Go.Callee.value (Go.Operand.tmp 55), args := #[Go.Operand.tmp 56], argTypes := #[70] }, type := 4, pos := "run.go:44", after := #[{ on := 6, ground := Go.Ground.data }, { on := 7, ground := Go.Ground.data }, { on := 0, ground := Go.Ground.chain }], guard := none }) rfl (fun K hK => ?_) AllReadyH.nil
  go_simp
  with_reducible refine (hq'.out _ _ _ _ _ _ HM2.out hn hnl.out).mono ?_
  rintro e t8 ⟨rfl, hM8, hBE⟩
  go_simp
  refine hK.out _ _ (hHeld.trans (hBE.mono hHeld.size)) (fun hHeld => ?_)
  clear hK K
  try simp only [Act.put, List.setIfInBounds_toArray, List.set_cons_zero, List.set_cons_succ]
  refine wpAnyH_take (i := 9) (oi := { dst := some 58, op := Go.Op.unOp Go.UnOp.not 4 (Go.Operand.tmp 57), type := 4, pos := "run.go:44", after := #[{ on := 8, ground := Go.Ground.data }], guard := none }) (v := ?v380) rfl (by kernel_rfl) (by kernel_rfl) (by kernel_rfl) (fun _ _ _ h => h) (Or.inl ⟨by kernel_rfl, ?h380⟩) (by assumption) ?r380
  case h380 => (intro w hSw; (try dsimp only at hSw); go_simp; try with_reducible rfl)
  try simp only [Act.put, List.setIfInBounds_toArray, List.set_cons_zero, List.set_cons_succ]
  refine wpAnyH_done (by kernel_rfl) ?_ _
  obtain ⟨X6, hX6⟩ : ∃ X6, X6 = t8 := ⟨_, rfl⟩
  rw [← hX6] at hM8 hHeld ⊢
  have HM6 := Lib.hid hM8
  have h36 := step_far ((BelowE.of hXY.out).trans (hHeld.mono hXY.out.size)) hfresh.out
  replace Z3 := Lib.hid (Z3.out.below h36 Z3.out.lt)
  replace ZE := Lib.hid (ZE.out.below h36 ZE.out.lt)
  replace BL := Lib.hid (BL.out.trans (h36.mono BL.out.size))
  have hz3 := Lib.hid Z3.out.lt
  have hX36 := Lib.hid h36.size
  clear hX6 hHeld h36 m0 hix2 hgb hM8 hBE HM HM2 hXY b0
  have n1 : X2.heap.size ≠ w.heap.size + 3 := by have := hz32.out; omega
  have n2 : gm ≠ w.heap.size + 3 := by have := hgm3.out; have := hz32.out; have := hz23.out; omega
  have p1 : ∀ W, (∃ q, W = X6.drewN q ∨ W = ((X6.drewN q).setCell ⟨w.heap.size + 3, 0, none⟩ (.int .i64 ds)).setCell ⟨w.heap.size + 3, 1, none⟩ (.slice a' n c')) → W.cell? ⟨X2.heap.size, 1, none⟩ = some (.int .i64 ds) := fun W hW => (two_cell ZE.out n1 _ _ W hW).cell 1
  have p2 : ∀ W, (∃ q, W = X6.drewN q ∨ W = ((X6.drewN q).setCell ⟨w.heap.size + 3, 0, none⟩ (.int .i64 ds)).setCell ⟨w.heap.size + 3, 1, none⟩ (.slice a' n c')) → W.cell? ⟨gm, 5, none⟩ = some (.slice a' n c') := fun W hW => (two_cell HM6.out.blk n2 _ _ W hW).cell 5
  have k0 : X6.drew.cell? ⟨w.heap.size + 3, 0, none⟩ = some (.int .i64 0) := Z3.out.cell 0
  have k1 : X6.drew.cell? ⟨w.heap.size + 3, 1, none⟩ = some (.slice none 0 0) := Z3.out.cell 1
  have j0 : X6.drew.frozen? ⟨w.heap.size + 3, 0, none⟩ = false := Z3.out.free 0
  have j1 : X6.drew.frozen? ⟨w.heap.size + 3, 1, none⟩ = false := Z3.out.free 1
  have k2 : X6.cell? ⟨w.heap.size + 3, 1, none⟩ = some (.slice none 0 0) := Z3.out.cell 1
  have j2 : X6.frozen? ⟨w.heap.size + 3, 1, none⟩ = false := Z3.out.free 1
  go_wp2
  refine wp_drawn_on (fun W => ∃ q, W = X6.drewN q ∨ W = ((X6.drewN q).setCell ⟨w.heap.size + 3, 0, none⟩ (.int .i64 ds)).setCell ⟨w.heap.size + 3, 1, none⟩ (.slice a' n c')) (by kernel_rfl) (⟨1, .inl rfl⟩) (fun hHeld => ?_)
  refine wpAnyH_take (i := 0) (oi := { dst := some 65, op := Go.Op.fieldAddr 53 (Go.Operand.tmp 8) 1, type := 0, pos := "run.go:47", after := #[], guard := none }) (v := ?v437) rfl (by kernel_rfl) (by kernel_rfl) (by kernel_rfl) (fun _ _ _ h => h) (Or.inl ⟨by kernel_rfl, ?h437⟩) (by assumption) ?r437
  case h437 => (intro w hSw; (try dsimp only at hSw); go_simp; try with_reducible rfl)
  try simp only [Act.put, List.setIfInBounds_toArray, List.set_cons_zero, List.set_cons_succ]
  refine wpAnyH_take (i := 1) (oi := { dst := some 66, op := Go.Op.load 3 (Go.Operand.tmp 65), type := 3, pos := "run.go:47", after := #[{ on := 0, ground := Go.Ground.data }], guard := none }) (v := ?v438) rfl (by kernel_rfl) (by kernel_rfl) (by kernel_rfl) (fun _ _ _ h => h) (Or.inl ⟨by kernel_rfl, ?h438⟩) (by assumption) ?r438
  case h438 => (intro w hSw; (try dsimp only at hSw); go_simp; try with_reducible rfl)
  try simp only [Act.put, List.setIfInBounds_toArray, List.set_cons_zero, List.set_cons_succ]
  refine wpAnyH_take (i := 2) (oi := { dst := some 67, op := Go.Op.move (Go.Operand.tmp 9), type := 70, pos := "run.go:47", after := #[], guard := none }) (v := ?v439) rfl (by kernel_rfl) (by kernel_rfl) (by kernel_rfl) (fun _ _ _ h => h) (Or.inl ⟨by kernel_rfl, ?h439⟩) (by assumption) ?r439
  case h439 => (intro w hSw; (try dsimp only at hSw); go_simp; try with_reducible rfl)
  try simp only [Act.put, List.setIfInBounds_toArray, List.set_cons_zero, List.set_cons_succ]
  refine wpAnyH_take (i := 3) (oi := { dst := some 68, op := Go.Op.nilCheck (Go.Operand.tmp 67), type := 0, pos := "run.go:47", after := #[{ on := 2, ground := Go.Ground.data }], guard := none }) (v := ?v440) rfl (by kernel_rfl) (by kernel_rfl) (by kernel_rfl) (fun _ _ _ h => h) (Or.inl ⟨by kernel_rfl, ?h440⟩) (by assumption) ?r440
  case h440 => (intro w hSw; (try dsimp only at hSw); go_simp; try with_reducible rfl)
  try simp only [Act.put, List.setIfInBounds_toArray, List.set_cons_zero, List.set_cons_succ]
  refine wpAnyH_take (i := 4) (oi := { dst := some 69, op := Go.Op.fieldAddr 72 (Go.Operand.tmp 68) 1, type := 0, pos := "run.go:47", after := #[{ on := 3, ground := Go.Ground.data }], guard := none }) (v := ?v441) rfl (by kernel_rfl) (by kernel_rfl) (by kernel_rfl) (fun _ _ _ h => h) (Or.inl ⟨by kernel_rfl, ?h441⟩) (by assumption) ?r441
  case h441 => (intro w hSw; (try dsimp only at hSw); go_simp; try with_reducible rfl)
  try simp only [Act.put, List.setIfInBounds_toArray, List.set_cons_zero, List.set_cons_succ]
  refine wpAnyH_take (i := 5) (oi := { dst := some 70, op := Go.Op.load 27 (Go.Operand.tmp 69), type := 27, pos := "run.go:47", after := #[{ on := 4, ground := Go.Ground.data }], guard := none }) (v := ?v442) rfl (by kernel_rfl) (by kernel_rfl) (by kernel_rfl) (fun _ _ _ h => h) (Or.inl ⟨by kernel_rfl, ?h442⟩) (by assumption) ?r442
  case h442 => (intro w hSw; (try dsimp only at hSw); go_simp; try with_reducible rfl)
  try simp only [Act.put, List.setIfInBounds_toArray, List.set_cons_zero, List.set_cons_succ]
  refine wpAnyH_take (i := 6) (oi := { dst := some 71, op := Go.Op.build 39 #[(0, Go.Operand.tmp 66), (1, Go.Operand.tmp 70)], type := 39, pos := "run.go:47", after := #[{ on := 1, ground := Go.Ground.data }, { on := 5, ground := Go.Ground.data }], guard := none }) (v := ?v443) rfl (by kernel_rfl) (by kernel_rfl) (by kernel_rfl) (fun _ _ _ h => h) (Or.inl ⟨by kernel_rfl, ?h443⟩) (by assumption) ?r443
  case h443 => (intro w hSw; (try dsimp only at hSw); go_simp; try with_reducible rfl)
  try simp only [Act.put, List.setIfInBounds_toArray, List.set_cons_zero, List.set_cons_succ]
  refine wpAnyH_ready (rs := [7]) (by kernel_rfl) (by simp) ?_
  refine AllReadyH.cons (o := { dst := none, op := Go.Op.store 39 (Go.Operand.tmp 6) (Go.Operand.tmp 71), type := 0, pos := "run.go:47", after := #[{ on := 6, ground := Go.Ground.data }, { on := 0, ground := Go.Ground.phase }, { on := 1, ground := Go.Ground.phase }, { on := 2, ground := Go.Ground.phase }, { on := 3, ground := Go.Ground.phase }, { on := 4, ground := Go.Ground.phase }, { on := 5, ground := Go.Ground.phase }, { on := 6, ground := Go.Ground.phase }], guard := none }) rfl (fun K hK => ?_) AllReadyH.nil
  go_simp
  go_simp
  refine hK.out _ _ (⟨1, .inr rfl⟩) (fun hHeld => ?_)
  clear hK K
  try simp only [Act.put, List.setIfInBounds_toArray, List.set_cons_zero, List.set_cons_succ]
  refine wpAnyH_take (i := 8) (oi := { dst := some 7, op := Go.Op.assign (Go.Operand.const (Go.Value.int Go.IntKind.i64 0)), type := 34, pos := "run.go:47", after := #[{ on := 7, ground := Go.Ground.chain }, { on := 0, ground := Go.Ground.phase }, { on := 1, ground := Go.Ground.phase }, { on := 2, ground := Go.Ground.phase }, { on := 3, ground := Go.Ground.phase }, { on := 4, ground := Go.Ground.phase }, { on := 5, ground := Go.Ground.phase }, { on := 6, ground := Go.Ground.phase }, { on := 7, ground := Go.Ground.phase }], guard := none }) (v := ?v444) rfl (by kernel_rfl) (by kernel_rfl) (by kernel_rfl) (fun _ _ _ h => h) (Or.inl ⟨by kernel_rfl, ?h444⟩) (by assumption) ?r444
  case h444 => (intro w hSw; (try dsimp only at hSw); go_simp; try with_reducible rfl)
  try simp only [Act.put, List.setIfInBounds_toArray, List.set_cons_zero, List.set_cons_succ]
  refine wpAnyH_done (by kernel_rfl) ?_ _
  go_wp2
  exact state_ret2 (state_set Z3.out _ _).drew ⟨a', n, c', rfl, sl_fin HM6.out _ (fun b hb => by have := hfresh.out b hb; have := hz32.out; have := hz23.out; omega) hn _ _, (belT BL.out (by omega) _ _).drew, fun p hp => by have := hfresh.out p.block (by rw [hp]; rfl); have := hz32.out; have := hz23.out; omega⟩ _ _ 6 7 rfl rfl rfl rfl
set_option maxRecDepth 100000 in
set_option maxHeartbeats 16000000 in
theorem step_3f (pnm : ByteArray) (pa1 : Option Addr) (pn1 pc1 : Nat) (pa2 : Option Addr) (pn2 pc2 : Nat) (pa3 : Option Addr) (pn3 pc3 : Nat) (D : PD) (pt : Int) (a : Option Addr) (n c : Nat) (l : List Int) (E : Nat) (v : Int) (he : E < pn3) (ds x y cc d : Int) (hE : D.edges.getD E edge0 = (⟨pt, ds, 3, x, y, cc, d⟩ : EdgeD)) (hn : n ≤ 1000) (l' : List Int)
    (hq : ∀ B g a n cp W, MvH B g 3 x y cc d v a n cp l W → n ≤ 1000 → n = l.length → Calls Tryz.prog 58 #[.pointer (some ⟨g, 0, none⟩)] W (MvE B g 3 x y cc d v a n cp false l' W)) (w : World) (h : PrA w ⟨pnm, pa1, pn1, pc1, pa2, pn2, pc2, pa3, pn3, pc3⟩ D) (hs : SL w a n c l) :
    Calls Tryz.prog 24 #[.agg #[.string pnm, .slice pa1 pn1 pc1, .slice pa2 pn2 pc2, .slice pa3 pn3 pc3], .agg #[.int .i64 pt, .slice a n c], .agg #[.int .i64 (E : Int), .int .i64 v]] w (StE 0 [] (refN 3) w) := by
  obtain ⟨b, off, ha3, -⟩ := edges_at h.edges (i := E) he
  obtain ⟨W1, hW1⟩ : ∃ W1, W1 = (((w.alloc (.cells #[.string pnm, .slice pa1 pn1 pc1, .slice pa2 pn2 pc2, .slice pa3 pn3 pc3] 26)).alloc (.cells #[.int .i64 pt, .slice a n c] 39)).alloc (.cells #[.int .i64 (E : Int), .int .i64 v] 44)).alloc (.cells #[.int .i64 0, .slice none 0 0] 39) := ⟨_, rfl⟩
  have BL : Hid (Below w.heap.size w W1) := Lib.hid (by rw [hW1]; exact ((((Below.refl _ _).alloc (Nat.le_refl _) _).alloc (by simp) _).alloc (by simp; omega) _).alloc (by simp; omega) _)
  have Z0 : Hid (Holds W1 w.heap.size 26 #[.string pnm, .slice pa1 pn1 pc1, .slice pa2 pn2 pc2, .slice pa3 pn3 pc3]) := Lib.hid (by rw [hW1]; exact (((Holds.new w _ _).alloc _).alloc _).alloc _)
  have Z1 : Hid (Holds W1 (w.heap.size + 1) 39 #[.int .i64 pt, .slice a n c]) := Lib.hid (by rw [hW1]; have q := ((Holds.new (w.alloc (.cells #[.string pnm, .slice pa1 pn1 pc1, .slice pa2 pn2 pc2, .slice pa3 pn3 pc3] 26)) 39 #[.int .i64 pt, .slice a n c]).alloc (.cells #[.int .i64 (E : Int), .int .i64 v] 44)).alloc (.cells #[.int .i64 0, .slice none 0 0] 39); simpa using q)
  have Z2 : Hid (Holds W1 (w.heap.size + 2) 44 #[.int .i64 (E : Int), .int .i64 v]) := Lib.hid (by rw [hW1]; have q := (Holds.new ((w.alloc (.cells #[.string pnm, .slice pa1 pn1 pc1, .slice pa2 pn2 pc2, .slice pa3 pn3 pc3] 26)).alloc (.cells #[.int .i64 pt, .slice a n c] 39)) 44 #[.int .i64 (E : Int), .int .i64 v]).alloc (.cells #[.int .i64 0, .slice none 0 0] 39); simpa using q)
  have Z3 : Hid (Holds W1 (w.heap.size + 3) 39 #[.int .i64 0, .slice none 0 0]) := Lib.hid (by rw [hW1]; have q := Holds.new (((w.alloc (.cells #[.string pnm, .slice pa1 pn1 pc1, .slice pa2 pn2 pc2, .slice pa3 pn3 pc3] 26)).alloc (.cells #[.int .i64 pt, .slice a n c] 39)).alloc (.cells #[.int .i64 (E : Int), .int .i64 v] 44)) 39 #[.int .i64 0, .slice none 0 0]; simpa using q)
  have hW1' := Lib.hid hW1
  clear hW1
  subst ha3
  obtain ⟨b', off', hab, hbl, y0, y1, y2, y3, y4, y5, y6⟩ := edges_at (h.edges.below BL.out) he
  injection hab with hab
  injection hab with hab1 hab2
  subst hab1 hab2
  rw [hE] at y0 y1 y2 y3 y4 y5 y6
  dsimp only at y0 y1 y2 y3 y4 y5 y6
  have hb2 : b < W1.heap.size := hbl
  clear hbl
  have d1 : ¬ (E : Int) < 0 := by omega
  have d2 : ¬ (pn3 : Int) ≤ (E : Int) := by omega
  have d3 : (E : Int) < (pn3 : Int) := by omega
  have d4 : ¬ pn3 ≤ E := by omega
  have f0 : ∀ W, Below W1.heap.size W1 W → W.cell? ⟨w.heap.size + 2, 0, none⟩ = some (.int .i64 (E : Int)) := fun W hW => (Z2.out.below hW Z2.out.lt).cell 0
  have f1 : ∀ W, Below W1.heap.size W1 W → W.cell? ⟨w.heap.size, 3, none⟩ = some (.slice (some ⟨b, off, none⟩) pn3 pc3) := fun W hW => (Z0.out.below hW Z0.out.lt).cell 3
  have f2 : ∀ W, Below W1.heap.size W1 W → W.cell? ⟨w.heap.size + 1, 0, none⟩ = some (.int .i64 pt) := fun W hW => (Z1.out.below hW Z1.out.lt).cell 0
  have X0 : ∀ W, Below W1.heap.size W1 W → W.cell? ⟨b, off + E * 7, none⟩ = some (.int .i64 pt) := fun W hW => (hW.cell (p := ⟨b, off + E * 7, none⟩) hb2).trans y0
  have d5 : (pt != pt) = false := by simp
  have hnl := Lib.hid hs.len
  have S := Lib.hid (hs.below BL.out)
  have Y0 : Hid (W1.cell? ⟨b, off + E * 7, none⟩ = some (.int .i64 pt)) := Lib.hid y0
  have Y1 : Hid (W1.cell? ⟨b, off + E * 7 + 1, none⟩ = some (.int .i64 ds)) := Lib.hid y1
  have Y2 : Hid (W1.cell? ⟨b, off + E * 7 + 2, none⟩ = some (.int .i64 3)) := Lib.hid y2
  have Y3 : Hid (W1.cell? ⟨b, off + E * 7 + 3, none⟩ = some (.int .i64 x)) := Lib.hid y3
  have Y4 : Hid (W1.cell? ⟨b, off + E * 7 + 4, none⟩ = some (.int .i64 y)) := Lib.hid y4
  have Y5 : Hid (W1.cell? ⟨b, off + E * 7 + 5, none⟩ = some (.int .i64 cc)) := Lib.hid y5
  have Y6 : Hid (W1.cell? ⟨b, off + E * 7 + 6, none⟩ = some (.int .i64 d)) := Lib.hid y6
  have hq' := Lib.hid hq
  have hix : Hid (∀ W, (Instr.index 74 (.agg movesA) (.int .i64 3)).run Tryz.prog W = .ok (.func (.func 58) #[] #[]) W) := Lib.hid (fun W => by kernel_rfl)
  clear h hs hE he hq y0 y1 y2 y3 y4 y5 y6
  go_enter Tryz.func24, Tryz.ntmps24
  go_wp2
  rw [← hW1'.out]
  clear hW1'
  refine wp_drawn_on (fun W => Below W1.heap.size W1 W) (by kernel_rfl) ((Below.refl _ _).drew) (fun hHeld => ?_)
  refine wpAnyH_take (i := 0) (oi := { dst := some 10, op := Go.Op.fieldAddr 44 (Go.Operand.tmp 5) 0, type := 0, pos := "run.go:39", after := #[], guard := none }) (v := ?v194) rfl (by kernel_rfl) (by kernel_rfl) (by kernel_rfl) (fun _ _ _ h => h) (Or.inl ⟨by kernel_rfl, ?h194⟩) (by assumption) ?r194
  case h194 => (intro w hSw; (try dsimp only at hSw); go_simp; try with_reducible rfl)
  try simp only [Act.put, List.setIfInBounds_toArray, List.set_cons_zero, List.set_cons_succ]
  refine wpAnyH_take (i := 1) (oi := { dst := some 11, op := Go.Op.load 3 (Go.Operand.tmp 10), type := 3, pos := "run.go:39", after := #[{ on := 0, ground := Go.Ground.data }], guard := none }) (v := ?v195) rfl (by kernel_rfl) (by kernel_rfl) (by kernel_rfl) (fun _ _ _ h => h) (Or.inl ⟨by kernel_rfl, ?h195⟩) (by assumption) ?r195
  case h195 => (intro w hSw; (try dsimp only at hSw); go_simp; try with_reducible rfl)
  try simp only [Act.put, List.setIfInBounds_toArray, List.set_cons_zero, List.set_cons_succ]
  refine wpAnyH_take (i := 2) (oi := { dst := some 12, op := Go.Op.binOp Go.BinOp.lss 3 (Go.Operand.tmp 11) (Go.Operand.const (Go.Value.int Go.IntKind.i64 0)) 3, type := 4, pos := "run.go:39", after := #[{ on := 1, ground := Go.Ground.data }], guard := none }) (v := ?v196) rfl (by kernel_rfl) (by kernel_rfl) (by kernel_rfl) (fun _ _ _ h => h) (Or.inl ⟨by kernel_rfl, ?h196⟩) (by assumption) ?r196
  case h196 => (intro w hSw; (try dsimp only at hSw); go_simp; try with_reducible rfl)
  try simp only [Act.put, List.setIfInBounds_toArray, List.set_cons_zero, List.set_cons_succ]
  refine wpAnyH_take (i := 3) (oi := { dst := some 13, op := Go.Op.move (Go.Operand.tmp 12), type := 4, pos := "run.go:39", after := #[{ on := 2, ground := Go.Ground.data }], guard := none }) (v := ?v197) rfl (by kernel_rfl) (by kernel_rfl) (by kernel_rfl) (fun _ _ _ h => h) (Or.inl ⟨by kernel_rfl, ?h197⟩) (by assumption) ?r197
  case h197 => (intro w hSw; (try dsimp only at hSw); go_simp; try with_reducible rfl)
  try simp only [Act.put, List.setIfInBounds_toArray, List.set_cons_zero, List.set_cons_succ]
  refine wpAnyH_take (i := 4) (oi := { dst := some 14, op := Go.Op.fieldAddr 44 (Go.Operand.tmp 5) 0, type := 0, pos := "run.go:39", after := #[{ on := 3, ground := Go.Ground.guard }], guard := some (3, false) }) (v := ?v198) rfl (by kernel_rfl) (by kernel_rfl) (by kernel_rfl) (fun _ _ _ h => h) (Or.inl ⟨by kernel_rfl, ?h198⟩) (by assumption) ?r198
  case h198 => (intro w hSw; (try dsimp only at hSw); go_simp; try with_reducible rfl)
  try simp only [Act.put, List.setIfInBounds_toArray, List.set_cons_zero, List.set_cons_succ]
  refine wpAnyH_take (i := 5) (oi := { dst := some 15, op := Go.Op.load 3 (Go.Operand.tmp 14), type := 3, pos := "run.go:39", after := #[{ on := 4, ground := Go.Ground.data }, { on := 3, ground := Go.Ground.guard }], guard := some (3, false) }) (v := ?v199) rfl (by kernel_rfl) (by kernel_rfl) (by kernel_rfl) (fun _ _ _ h => h) (Or.inl ⟨by kernel_rfl, ?h199⟩) (by assumption) ?r199
  case h199 => (intro w hSw; (try dsimp only at hSw); go_simp; try with_reducible rfl)
  try simp only [Act.put, List.setIfInBounds_toArray, List.set_cons_zero, List.set_cons_succ]
  refine wpAnyH_take (i := 6) (oi := { dst := some 16, op := Go.Op.fieldAddr 26 (Go.Operand.tmp 3) 3, type := 0, pos := "run.go:39", after := #[{ on := 3, ground := Go.Ground.guard }], guard := some (3, false) }) (v := ?v200) rfl (by kernel_rfl) (by kernel_rfl) (by kernel_rfl) (fun _ _ _ h => h) (Or.inl ⟨by kernel_rfl, ?h200⟩) (by assumption) ?r200
  case h200 => (intro w hSw; (try dsimp only at hSw); go_simp; try with_reducible rfl)
  try simp only [Act.put, List.setIfInBounds_toArray, List.set_cons_zero, List.set_cons_succ]
  refine wpAnyH_take (i := 7) (oi := { dst := some 17, op := Go.Op.load 24 (Go.Operand.tmp 16), type := 24, pos := "run.go:39", after := #[{ on := 6, ground := Go.Ground.data }, { on := 3, ground := Go.Ground.guard }], guard := some (3, false) }) (v := ?v201) rfl (by kernel_rfl) (by kernel_rfl) (by kernel_rfl) (fun _ _ _ h => h) (Or.inl ⟨by kernel_rfl, ?h201⟩) (by assumption) ?r201
  case h201 => (intro w hSw; (try dsimp only at hSw); go_simp; try with_reducible rfl)
  try simp only [Act.put, List.setIfInBounds_toArray, List.set_cons_zero, List.set_cons_succ]
  refine wpAnyH_take (i := 8) (oi := { dst := some 18, op := Go.Op.call { callee := Go.Callee.builtin Go.Builtin.len, args := #[Go.Operand.tmp 17], argTypes := #[24] }, type := 3, pos := "run.go:39", after := #[{ on := 7, ground := Go.Ground.data }, { on := 3, ground := Go.Ground.guard }], guard := some (3, false) }) (v := ?v202) rfl (by kernel_rfl) (by kernel_rfl) (by kernel_rfl) (fun _ _ _ h => h) (Or.inl ⟨by kernel_rfl, ?h202⟩) (by assumption) ?r202
  case h202 => (intro w hSw; (try dsimp only at hSw); go_simp; try with_reducible rfl)
  try simp only [Act.put, List.setIfInBounds_toArray, List.set_cons_zero, List.set_cons_succ]
  refine wpAnyH_take (i := 9) (oi := { dst := some 19, op := Go.Op.binOp Go.BinOp.geq 3 (Go.Operand.tmp 15) (Go.Operand.tmp 18) 3, type := 4, pos := "run.go:39", after := #[{ on := 5, ground := Go.Ground.data }, { on := 8, ground := Go.Ground.data }, { on := 3, ground := Go.Ground.guard }], guard := some (3, false) }) (v := ?v203) rfl (by kernel_rfl) (by kernel_rfl) (by kernel_rfl) (fun _ _ _ h => h) (Or.inl ⟨by kernel_rfl, ?h203⟩) (by assumption) ?r203
  case h203 => (intro w hSw; (try dsimp only at hSw); go_simp; try with_reducible rfl)
  try simp only [Act.put, List.setIfInBounds_toArray, List.set_cons_zero, List.set_cons_succ]
  refine wpAnyH_take (i := 10) (oi := { dst := some 20, op := Go.Op.pick (Go.Operand.tmp 13) (Go.Operand.const (Go.Value.bool true)) (Go.Operand.tmp 19), type := 4, pos := "run.go:39", after := #[{ on := 3, ground := Go.Ground.data }, { on := 9, ground := Go.Ground.data }], guard := none }) (v := ?v204) rfl (by kernel_rfl) (by kernel_rfl) (by kernel_rfl) (fun _ _ _ h => h) (Or.inl ⟨by kernel_rfl, ?h204⟩) (by assumption) ?r204
  case h204 => (intro w hSw; (try dsimp only at hSw); go_simp; try with_reducible rfl)
  try simp only [Act.put, List.setIfInBounds_toArray, List.set_cons_zero, List.set_cons_succ]
  refine wpAnyH_take (i := 11) (oi := { dst := some 21, op := Go.Op.move (Go.Operand.tmp 20), type := 4, pos := "run.go:39", after := #[{ on := 10, ground := Go.Ground.data }, { on := 3, ground := Go.Ground.chain }], guard := none }) (v := ?v205) rfl (by kernel_rfl) (by kernel_rfl) (by kernel_rfl) (fun _ _ _ h => h) (Or.inl ⟨by kernel_rfl, ?h205⟩) (by assumption) ?r205
  case h205 => (intro w hSw; (try dsimp only at hSw); go_simp; try with_reducible rfl)
  try simp only [Act.put, List.setIfInBounds_toArray, List.set_cons_zero, List.set_cons_succ]
  refine wpAnyH_take (i := 12) (oi := { dst := some 22, op := Go.Op.fieldAddr 26 (Go.Operand.tmp 3) 3, type := 0, pos := "run.go:39", after := #[{ on := 11, ground := Go.Ground.guard }], guard := some (11, false) }) (v := ?v206) rfl (by kernel_rfl) (by kernel_rfl) (by kernel_rfl) (fun _ _ _ h => h) (Or.inl ⟨by kernel_rfl, ?h206⟩) (by assumption) ?r206
  case h206 => (intro w hSw; (try dsimp only at hSw); go_simp; try with_reducible rfl)
  try simp only [Act.put, List.setIfInBounds_toArray, List.set_cons_zero, List.set_cons_succ]
  refine wpAnyH_take (i := 13) (oi := { dst := some 23, op := Go.Op.load 24 (Go.Operand.tmp 22), type := 24, pos := "run.go:39", after := #[{ on := 12, ground := Go.Ground.data }, { on := 11, ground := Go.Ground.guard }], guard := some (11, false) }) (v := ?v207) rfl (by kernel_rfl) (by kernel_rfl) (by kernel_rfl) (fun _ _ _ h => h) (Or.inl ⟨by kernel_rfl, ?h207⟩) (by assumption) ?r207
  case h207 => (intro w hSw; (try dsimp only at hSw); go_simp; try with_reducible rfl)
  try simp only [Act.put, List.setIfInBounds_toArray, List.set_cons_zero, List.set_cons_succ]
  refine wpAnyH_take (i := 14) (oi := { dst := some 24, op := Go.Op.fieldAddr 44 (Go.Operand.tmp 5) 0, type := 0, pos := "run.go:39", after := #[{ on := 11, ground := Go.Ground.guard }], guard := some (11, false) }) (v := ?v208) rfl (by kernel_rfl) (by kernel_rfl) (by kernel_rfl) (fun _ _ _ h => h) (Or.inl ⟨by kernel_rfl, ?h208⟩) (by assumption) ?r208
  case h208 => (intro w hSw; (try dsimp only at hSw); go_simp; try with_reducible rfl)
  try simp only [Act.put, List.setIfInBounds_toArray, List.set_cons_zero, List.set_cons_succ]
  refine wpAnyH_take (i := 15) (oi := { dst := some 25, op := Go.Op.load 3 (Go.Operand.tmp 24), type := 3, pos := "run.go:39", after := #[{ on := 14, ground := Go.Ground.data }, { on := 11, ground := Go.Ground.guard }], guard := some (11, false) }) (v := ?v209) rfl (by kernel_rfl) (by kernel_rfl) (by kernel_rfl) (fun _ _ _ h => h) (Or.inl ⟨by kernel_rfl, ?h209⟩) (by assumption) ?r209
  case h209 => (intro w hSw; (try dsimp only at hSw); go_simp; try with_reducible rfl)
  try simp only [Act.put, List.setIfInBounds_toArray, List.set_cons_zero, List.set_cons_succ]
  refine wpAnyH_take (i := 16) (oi := { dst := some 26, op := Go.Op.indexAddr 24 (Go.Operand.tmp 23) (Go.Operand.tmp 25), type := 0, pos := "run.go:39", after := #[{ on := 13, ground := Go.Ground.data }, { on := 15, ground := Go.Ground.data }, { on := 11, ground := Go.Ground.guard }], guard := some (11, false) }) (v := ?v210) rfl (by kernel_rfl) (by kernel_rfl) (by kernel_rfl) (fun _ _ _ h => h) (Or.inl ⟨by kernel_rfl, ?h210⟩) (by assumption) ?r210
  case h210 => (intro w hSw; (try dsimp only at hSw); go_simp; try with_reducible rfl)
  try simp only [Act.put, List.setIfInBounds_toArray, List.set_cons_zero, List.set_cons_succ]
  refine wpAnyH_take (i := 17) (oi := { dst := some 27, op := Go.Op.fieldAddr 53 (Go.Operand.tmp 26) 0, type := 0, pos := "run.go:39", after := #[{ on := 16, ground := Go.Ground.data }, { on := 11, ground := Go.Ground.guard }], guard := some (11, false) }) (v := ?v211) rfl (by kernel_rfl) (by kernel_rfl) (by kernel_rfl) (fun _ _ _ h => h) (Or.inl ⟨by kernel_rfl, ?h211⟩) (by assumption) ?r211
  case h211 => (intro w hSw; (try dsimp only at hSw); go_simp; try with_reducible rfl)
  try simp only [Act.put, List.setIfInBounds_toArray, List.set_cons_zero, List.set_cons_succ]
  refine wpAnyH_take (i := 18) (oi := { dst := some 28, op := Go.Op.load 3 (Go.Operand.tmp 27), type := 3, pos := "run.go:39", after := #[{ on := 17, ground := Go.Ground.data }, { on := 11, ground := Go.Ground.guard }], guard := some (11, false) }) (v := ?v212) rfl (by kernel_rfl) (by kernel_rfl) (by kernel_rfl) (fun _ _ _ h => h) (Or.inl ⟨by kernel_rfl, ?h212⟩) (by assumption) ?r212
  case h212 => (intro w hSw; (try dsimp only at hSw); go_simp; try with_reducible rfl)
  try simp only [Act.put, List.setIfInBounds_toArray, List.set_cons_zero, List.set_cons_succ]
  refine wpAnyH_take (i := 19) (oi := { dst := some 29, op := Go.Op.fieldAddr 39 (Go.Operand.tmp 4) 0, type := 0, pos := "run.go:39", after := #[{ on := 11, ground := Go.Ground.guard }], guard := some (11, false) }) (v := ?v213) rfl (by kernel_rfl) (by kernel_rfl) (by kernel_rfl) (fun _ _ _ h => h) (Or.inl ⟨by kernel_rfl, ?h213⟩) (by assumption) ?r213
  case h213 => (intro w hSw; (try dsimp only at hSw); go_simp; try with_reducible rfl)
  try simp only [Act.put, List.setIfInBounds_toArray, List.set_cons_zero, List.set_cons_succ]
  refine wpAnyH_take (i := 20) (oi := { dst := some 30, op := Go.Op.load 3 (Go.Operand.tmp 29), type := 3, pos := "run.go:39", after := #[{ on := 19, ground := Go.Ground.data }, { on := 11, ground := Go.Ground.guard }], guard := some (11, false) }) (v := ?v214) rfl (by kernel_rfl) (by kernel_rfl) (by kernel_rfl) (fun _ _ _ h => h) (Or.inl ⟨by kernel_rfl, ?h214⟩) (by assumption) ?r214
  case h214 => (intro w hSw; (try dsimp only at hSw); go_simp; try with_reducible rfl)
  try simp only [Act.put, List.setIfInBounds_toArray, List.set_cons_zero, List.set_cons_succ]
  refine wpAnyH_take (i := 21) (oi := { dst := some 31, op := Go.Op.binOp Go.BinOp.neq 3 (Go.Operand.tmp 28) (Go.Operand.tmp 30) 3, type := 4, pos := "run.go:39", after := #[{ on := 18, ground := Go.Ground.data }, { on := 20, ground := Go.Ground.data }, { on := 11, ground := Go.Ground.guard }], guard := some (11, false) }) (v := ?v215) rfl (by kernel_rfl) (by kernel_rfl) (by kernel_rfl) (fun _ _ _ h => h) (Or.inl ⟨by kernel_rfl, ?h215⟩) (by assumption) ?r215
  case h215 => (intro w hSw; (try dsimp only at hSw); go_simp; try with_reducible rfl)
  try simp only [Act.put, List.setIfInBounds_toArray, List.set_cons_zero, List.set_cons_succ]
  refine wpAnyH_take (i := 22) (oi := { dst := some 32, op := Go.Op.pick (Go.Operand.tmp 21) (Go.Operand.const (Go.Value.bool true)) (Go.Operand.tmp 31), type := 4, pos := "run.go:39", after := #[{ on := 11, ground := Go.Ground.data }, { on := 21, ground := Go.Ground.data }], guard := none }) (v := ?v216) rfl (by kernel_rfl) (by kernel_rfl) (by kernel_rfl) (fun _ _ _ h => h) (Or.inl ⟨by kernel_rfl, ?h216⟩) (by assumption) ?r216
  case h216 => (intro w hSw; (try dsimp only at hSw); go_simp; try with_reducible rfl)
  try simp only [Act.put, List.setIfInBounds_toArray, List.set_cons_zero, List.set_cons_succ]
  refine wpAnyH_done (by kernel_rfl) ?_ _
  obtain ⟨X2, hX2⟩ : ∃ X2, X2 = W1.drew := ⟨_, rfl⟩
  rw [← hX2] at hHeld ⊢
  replace Z0 := Lib.hid (Z0.out.below hHeld Z0.out.lt)
  replace Z1 := Lib.hid (Z1.out.below hHeld Z1.out.lt)
  replace Z2 := Lib.hid (Z2.out.below hHeld Z2.out.lt)
  replace Z3 := Lib.hid (Z3.out.below hHeld Z3.out.lt)
  replace S := Lib.hid (S.out.below hHeld)
  replace BL := Lib.hid (BL.out.trans (hHeld.mono BL.out.size))
  have y0 := (hHeld.cell (p := ⟨b, off + E * 7, none⟩) hb2).trans Y0.out
  have y1 := (hHeld.cell (p := ⟨b, off + E * 7 + 1, none⟩) hb2).trans Y1.out
  have y2 := (hHeld.cell (p := ⟨b, off + E * 7 + 2, none⟩) hb2).trans Y2.out
  have y3 := (hHeld.cell (p := ⟨b, off + E * 7 + 3, none⟩) hb2).trans Y3.out
  have y4 := (hHeld.cell (p := ⟨b, off + E * 7 + 4, none⟩) hb2).trans Y4.out
  have y5 := (hHeld.cell (p := ⟨b, off + E * 7 + 5, none⟩) hb2).trans Y5.out
  have y6 := (hHeld.cell (p := ⟨b, off + E * 7 + 6, none⟩) hb2).trans Y6.out
  have hb3 : b < X2.heap.size := Nat.lt_of_lt_of_le hb2 hHeld.size
  clear hX2 hHeld f0 f1 f2 X0 hb2
  have hZ32 := Z3.out.lt
  have k0 := Z0.out.cell 3
  have k1 := Z2.out.cell 0
  simp at k0 k1
  go_upto_region 4 with (fail)
  obtain ⟨X3, hX3⟩ : ∃ X3, X3 = X2.alloc (.cells #[.int .i64 pt, .int .i64 ds, .int .i64 3, .int .i64 x, .int .i64 y, .int .i64 cc, .int .i64 d] 53) := ⟨_, rfl⟩
  rw [← hX3]
  have B3 : Below X2.heap.size X2 X3 := by rw [hX3]; exact box_below _ _ _
  have ZE : Hid (Holds X3 X2.heap.size 53 #[.int .i64 pt, .int .i64 ds, .int .i64 3, .int .i64 x, .int .i64 y, .int .i64 cc, .int .i64 d]) := Lib.hid (by rw [hX3]; exact Holds.new _ _ _)
  replace Z1 := Lib.hid (Z1.out.below B3 Z1.out.lt)
  replace Z2 := Lib.hid (Z2.out.below B3 Z2.out.lt)
  replace Z3 := Lib.hid (Z3.out.below B3 Z3.out.lt)
  replace S := Lib.hid (S.out.below B3)
  have hz32 : Hid (w.heap.size + 3 < X2.heap.size) := Lib.hid hZ32
  have hz23 : Hid (X2.heap.size < X3.heap.size) := Lib.hid ZE.out.lt
  replace BL := Lib.hid (BL.out.trans (B3.mono BL.out.size))
  clear hZ32 hX3 B3 k0 k1 Z0 y0 y1 y2 y3 y4 y5 y6 Y0 Y1 Y2 Y3 Y4 Y5 Y6 hb3
  have e2 : ∀ W, Below X3.heap.size X3 W → W.cell? ⟨X2.heap.size, 2, none⟩ = some (.int .i64 3) := fun W hW => (ZE.out.below hW ZE.out.lt).cell 2
  have e3 : ∀ W, Below X3.heap.size X3 W → W.cell? ⟨X2.heap.size, 3, none⟩ = some (.int .i64 x) := fun W hW => (ZE.out.below hW ZE.out.lt).cell 3
  have e4 : ∀ W, Below X3.heap.size X3 W → W.cell? ⟨X2.heap.size, 4, none⟩ = some (.int .i64 y) := fun W hW => (ZE.out.below hW ZE.out.lt).cell 4
  have e5 : ∀ W, Below X3.heap.size X3 W → W.cell? ⟨X2.heap.size, 5, none⟩ = some (.int .i64 cc) := fun W hW => (ZE.out.below hW ZE.out.lt).cell 5
  have e6 : ∀ W, Below X3.heap.size X3 W → W.cell? ⟨X2.heap.size, 6, none⟩ = some (.int .i64 d) := fun W hW => (ZE.out.below hW ZE.out.lt).cell 6
  have f1 : ∀ W, Below X3.heap.size X3 W → W.cell? ⟨w.heap.size + 1, 1, none⟩ = some (.slice a n c) := fun W hW => (Z1.out.below hW Z1.out.lt).cell 1
  have f2 : ∀ W, Below X3.heap.size X3 W → W.cell? ⟨w.heap.size + 2, 1, none⟩ = some (.int .i64 v) := fun W hW => (Z2.out.below hW Z2.out.lt).cell 1
  refine wp_drawn_on (fun W => Below X3.heap.size X3 W) (by kernel_rfl) ((Below.refl _ _).drew) (fun hHeld => ?_)
  refine wpAnyH_take (i := 0) (oi := { dst := some 40, op := Go.Op.fieldAddr 53 (Go.Operand.tmp 8) 2, type := 0, pos := "run.go:43", after := #[], guard := none }) (v := ?v217) rfl (by kernel_rfl) (by kernel_rfl) (by kernel_rfl) (fun _ _ _ h => h) (Or.inl ⟨by kernel_rfl, ?h217⟩) (by assumption) ?r217
  case h217 => (intro w hSw; (try dsimp only at hSw); go_simp; try with_reducible rfl)
  try simp only [Act.put, List.setIfInBounds_toArray, List.set_cons_zero, List.set_cons_succ]
  refine wpAnyH_take (i := 1) (oi := { dst := some 41, op := Go.Op.load 51 (Go.Operand.tmp 40), type := 51, pos := "run.go:43", after := #[{ on := 0, ground := Go.Ground.data }], guard := none }) (v := ?v218) rfl (by kernel_rfl) (by kernel_rfl) (by kernel_rfl) (fun _ _ _ h => h) (Or.inl ⟨by kernel_rfl, ?h218⟩) (by assumption) ?r218
  case h218 => (intro w hSw; (try dsimp only at hSw); go_simp; try with_reducible rfl)
  try simp only [Act.put, List.setIfInBounds_toArray, List.set_cons_zero, List.set_cons_succ]
  refine wpAnyH_take (i := 2) (oi := { dst := some 42, op := Go.Op.fieldAddr 39 (Go.Operand.tmp 4) 1, type := 0, pos := "run.go:43", after := #[], guard := none }) (v := ?v219) rfl (by kernel_rfl) (by kernel_rfl) (by kernel_rfl) (fun _ _ _ h => h) (Or.inl ⟨by kernel_rfl, ?h219⟩) (by assumption) ?r219
  case h219 => (intro w hSw; (try dsimp only at hSw); go_simp; try with_reducible rfl)
  try simp only [Act.put, List.setIfInBounds_toArray, List.set_cons_zero, List.set_cons_succ]
  refine wpAnyH_take (i := 3) (oi := { dst := some 43, op := Go.Op.load 27 (Go.Operand.tmp 42), type := 27, pos := "run.go:43", after := #[{ on := 2, ground := Go.Ground.data }], guard := none }) (v := ?v220) rfl (by kernel_rfl) (by kernel_rfl) (by kernel_rfl) (fun _ _ _ h => h) (Or.inl ⟨by kernel_rfl, ?h220⟩) (by assumption) ?r220
  case h220 => (intro w hSw; (try dsimp only at hSw); go_simp; try with_reducible rfl)
  try simp only [Act.put, List.setIfInBounds_toArray, List.set_cons_zero, List.set_cons_succ]
  refine wpAnyH_take (i := 5) (oi := { dst := some 45, op := Go.Op.fieldAddr 44 (Go.Operand.tmp 5) 1, type := 0, pos := "run.go:43", after := #[], guard := none }) (v := ?v221) rfl (by kernel_rfl) (by kernel_rfl) (by kernel_rfl) (fun _ _ _ h => h) (Or.inl ⟨by kernel_rfl, ?h221⟩) (by assumption) ?r221
  case h221 => (intro w hSw; (try dsimp only at hSw); go_simp; try with_reducible rfl)
  try simp only [Act.put, List.setIfInBounds_toArray, List.set_cons_zero, List.set_cons_succ]
  refine wpAnyH_take (i := 6) (oi := { dst := some 46, op := Go.Op.load 3 (Go.Operand.tmp 45), type := 3, pos := "run.go:43", after := #[{ on := 5, ground := Go.Ground.data }], guard := none }) (v := ?v222) rfl (by kernel_rfl) (by kernel_rfl) (by kernel_rfl) (fun _ _ _ h => h) (Or.inl ⟨by kernel_rfl, ?h222⟩) (by assumption) ?r222
  case h222 => (intro w hSw; (try dsimp only at hSw); go_simp; try with_reducible rfl)
  try simp only [Act.put, List.setIfInBounds_toArray, List.set_cons_zero, List.set_cons_succ]
  refine wpAnyH_ready (rs := [4]) (by kernel_rfl) (by simp) ?_
  refine AllReadyH.cons (o := { dst := some 44, op := Go.Op.call { callee := Go.Callee.value (Go.Operand.func 23), args := #[Go.Operand.tmp 43], argTypes := #[27] }, type := 27, pos := "run.go:43", after := #[{ on := 3, ground := Go.Ground.data }], guard := none }) rfl (fun K hK => ?_) AllReadyH.nil
  go_simp
  with_reducible refine (clone_any a n c l hn _ (S.out.below hHeld)).mono ?_
  rintro e t4 ⟨a', c', rfl, hrow4, b4⟩
  have hrow := Lib.hid (own_from (B := w.heap.size) hrow4 (fun b hb => by have q1 := (hrow4.lt b hb).1; have q2 := hHeld.size; have q3 := BL.out.size; omega))
  have hfresh : Hid (∀ b, (Value.slice a' n c').ownBlock = some b → X3.heap.size ≤ b) := Lib.hid (fun b hb => (hrow4.lt b hb).1)
  clear hrow4
  go_simp
  refine hK.out _ _ (hHeld.trans (b4.mono hHeld.size)) (fun hHeld => ?_)
  clear hK K
  try simp only [Act.put, List.setIfInBounds_toArray, List.set_cons_zero, List.set_cons_succ]
  refine wpAnyH_take (i := 7) (oi := { dst := some 47, op := Go.Op.build 72 #[(0, Go.Operand.tmp 41), (1, Go.Operand.tmp 44), (2, Go.Operand.tmp 46)], type := 72, pos := "run.go:43", after := #[{ on := 1, ground := Go.Ground.data }, { on := 4, ground := Go.Ground.data }, { on := 6, ground := Go.Ground.data }], guard := none }) (v := ?v223) rfl (by kernel_rfl) (by kernel_rfl) (by kernel_rfl) (fun _ _ _ h => h) (Or.inl ⟨by kernel_rfl, ?h223⟩) (by assumption) ?r223
  case h223 => (intro w hSw; (try dsimp only at hSw); go_simp; try with_reducible rfl)
  try simp only [Act.put, List.setIfInBounds_toArray, List.set_cons_zero, List.set_cons_succ]
  refine wpAnyH_ready (rs := [8]) (by kernel_rfl) (by simp) ?_
  refine AllReadyH.cons (o := { dst := some 48, op := Go.Op.box 72 (Go.Operand.tmp 47), type := 70, pos := "run.go:43", after := #[{ on := 7, ground := Go.Ground.data }], guard := none }) rfl (fun K hK => ?_) AllReadyH.nil
  go_simp
  go_simp
  refine hK.out _ _ (hHeld.alloc hHeld.size _) (fun hHeld => ?_)
  clear hK K
  try simp only [Act.put, List.setIfInBounds_toArray, List.set_cons_zero, List.set_cons_succ]
  refine wpAnyH_take (i := 9) (oi := { dst := some 9, op := Go.Op.assign (Go.Operand.tmp 48), type := 70, pos := "run.go:43", after := #[{ on := 8, ground := Go.Ground.data }, { on := 4, ground := Go.Ground.chain }, { on := 0, ground := Go.Ground.phase }, { on := 1, ground := Go.Ground.phase }, { on := 2, ground := Go.Ground.phase }, { on := 3, ground := Go.Ground.phase }, { on := 4, ground := Go.Ground.phase }, { on := 5, ground := Go.Ground.phase }, { on := 6, ground := Go.Ground.phase }, { on := 7, ground := Go.Ground.phase }, { on := 8, ground := Go.Ground.phase }], guard := none }) (v := ?v224) rfl (by kernel_rfl) (by kernel_rfl) (by kernel_rfl) (fun _ _ _ h => h) (Or.inl ⟨by kernel_rfl, ?h224⟩) (by assumption) ?r224
  case h224 => (intro w hSw; (try dsimp only at hSw); go_simp; try with_reducible rfl)
  try simp only [Act.put, List.setIfInBounds_toArray, List.set_cons_zero, List.set_cons_succ]
  refine wpAnyH_done (by kernel_rfl) ?_ _
  obtain ⟨gm, hgm⟩ : ∃ gm, gm = t4.heap.size := ⟨_, rfl⟩
  obtain ⟨X5, hX5⟩ : ∃ X5, X5 = t4.alloc (.cells #[.int .i64 3, .int .i64 x, .int .i64 y, .int .i64 cc, .int .i64 d, .slice a' n c', .int .i64 v] 72) := ⟨_, rfl⟩
  rw [← hX5] at hHeld ⊢
  have B5 : Below t4.heap.size t4 X5 := by rw [hX5]; exact box_below _ _ _
  have HM : Hid (MvH w.heap.size gm 3 x y cc d v a' n c' l X5) := Lib.hid ⟨by rw [hX5, hgm]; exact Holds.new _ _ _, own_below hrow.out B5, fun b hb => by have := (hrow.out.lt b hb).2; omega⟩
  have hgm3 : Hid (X3.heap.size ≤ gm) := Lib.hid (by rw [hgm]; exact b4.size)
  rw [← hgm]
  have hXY := Lib.hid hHeld
  clear hX5 B5 hHeld hrow e2 e3 e4 e5 e6 f1 f2 hgm
  have hgb := blkL_not HM.out
  have m0 : ∀ W, BelowE (blkL a' n c') X5.heap.size X5 W → W.cell? ⟨gm, 0, none⟩ = some (.int .i64 3) := fun W hW => (HM.out.blk.belowE hW HM.out.blk.lt hgb).cell 0
  have hix2 := hix.out
  go_wp2
  refine wp_drawn_on (fun W => BelowE (blkL a' n c') X5.heap.size X5 W) (by kernel_rfl) ((BelowE.refl _ _ _).drew) (fun hHeld => ?_)
  refine wpAnyH_take (i := 1) (oi := { dst := some 50, op := Go.Op.move (Go.Operand.tmp 9), type := 70, pos := "run.go:44", after := #[], guard := none }) (v := ?v381) rfl (by kernel_rfl) (by kernel_rfl) (by kernel_rfl) (fun _ _ _ h => h) (Or.inl ⟨by kernel_rfl, ?h381⟩) (by assumption) ?r381
  case h381 => (intro w hSw; (try dsimp only at hSw); go_simp; try with_reducible rfl)
  try simp only [Act.put, List.setIfInBounds_toArray, List.set_cons_zero, List.set_cons_succ]
  refine wpAnyH_take (i := 2) (oi := { dst := some 51, op := Go.Op.nilCheck (Go.Operand.tmp 50), type := 0, pos := "run.go:44", after := #[{ on := 1, ground := Go.Ground.data }], guard := none }) (v := ?v382) rfl (by kernel_rfl) (by kernel_rfl) (by kernel_rfl) (fun _ _ _ h => h) (Or.inl ⟨by kernel_rfl, ?h382⟩) (by assumption) ?r382
  case h382 => (intro w hSw; (try dsimp only at hSw); go_simp; try with_reducible rfl)
  try simp only [Act.put, List.setIfInBounds_toArray, List.set_cons_zero, List.set_cons_succ]
  refine wpAnyH_take (i := 3) (oi := { dst := some 52, op := Go.Op.fieldAddr 72 (Go.Operand.tmp 51) 0, type := 0, pos := "run.go:44", after := #[{ on := 2, ground := Go.Ground.data }], guard := none }) (v := ?v383) rfl (by kernel_rfl) (by kernel_rfl) (by kernel_rfl) (fun _ _ _ h => h) (Or.inl ⟨by kernel_rfl, ?h383⟩) (by assumption) ?r383
  case h383 => (intro w hSw; (try dsimp only at hSw); go_simp; try with_reducible rfl)
  try simp only [Act.put, List.setIfInBounds_toArray, List.set_cons_zero, List.set_cons_succ]
  refine wpAnyH_take (i := 4) (oi := { dst := some 53, op := Go.Op.fieldAddr 51 (Go.Operand.tmp 52) 0, type := 0, pos := "run.go:44", after := #[{ on := 3, ground := Go.Ground.data }], guard := none }) (v := ?v384) rfl (by kernel_rfl) (by kernel_rfl) (by kernel_rfl) (fun _ _ _ h => h) (Or.inl ⟨by kernel_rfl, ?h384⟩) (by assumption) ?r384
  case h384 => (intro w hSw; (try dsimp only at hSw); go_simp; try with_reducible rfl)
  try simp only [Act.put, List.setIfInBounds_toArray, List.set_cons_zero, List.set_cons_succ]
  refine wpAnyH_take (i := 5) (oi := { dst := some 54, op := Go.Op.load 3 (Go.Operand.tmp 53), type := 3, pos := "run.go:44", after := #[{ on := 4, ground := Go.Ground.data }], guard := none }) (v := ?v385) rfl (by kernel_rfl) (by kernel_rfl) (by kernel_rfl) (fun _ _ _ h => h) (Or.inl ⟨by kernel_rfl, ?h385⟩) (by assumption) ?r385
  case h385 => (intro w hSw; (try dsimp only at hSw); go_simp; try with_reducible rfl)
  try simp only [Act.put, List.setIfInBounds_toArray, List.set_cons_zero, List.set_cons_succ]
  refine wpAnyH_take (i := 7) (oi := { dst := some 56, op := Go.Op.move (Go.Operand.tmp 9), type := 70, pos := "run.go:44", after := #[], guard := none }) (v := ?v386) rfl (by kernel_rfl) (by kernel_rfl) (by kernel_rfl) (fun _ _ _ h => h) (Or.inl ⟨by kernel_rfl, ?h386⟩) (by assumption) ?r386
  case h386 => (intro w hSw; (try dsimp only at hSw); go_simp; try with_reducible rfl)
  try simp only [Act.put, List.setIfInBounds_toArray, List.set_cons_zero, List.set_cons_succ]
  refine wpAnyH_ready (rs := [0]) (by kernel_rfl) (by simp) ?_
  refine AllReadyH.cons (o := { dst := some 49, op := Go.Op.call { callee := Go.Callee.value (Go.Operand.func 41), args := #[], argTypes := #[] }, type := 74, pos := "run.go:44", after := #[], guard := none }) rfl (fun K hK => ?_) AllReadyH.nil
  go_simp
  with_reducible refine (moves_any _).mono ?_
  rintro e t0 ⟨rfl, b0⟩
  have HM2 := Lib.hid (HM.out.below (Below.trans ((Below.refl _ _).drew) b0))
  go_simp
  refine hK.out _ _ (hHeld.trans (.of (b0.mono hHeld.size))) (fun hHeld => ?_)
  clear hK K
  try simp only [Act.put, List.setIfInBounds_toArray, List.set_cons_zero, List.set_cons_succ]
  refine wpAnyH_take (i := 6) (oi := { dst := some 55, op := Go.Op.index 74 (Go.Operand.tmp 49) (Go.Operand.tmp 54), type := 73, pos := "run.go:44", after := #[{ on := 0, ground := Go.Ground.data }, { on := 5, ground := Go.Ground.data }], guard := none }) (v := ?v387) rfl (by kernel_rfl) (by kernel_rfl) (by kernel_rfl) (fun _ _ _ h => h) (Or.inl ⟨by kernel_rfl, ?h387⟩) (by assumption) ?r387
  case h387 => (intro w hSw; (try dsimp only at hSw); go_simp; try with_reducible rfl)
  try simp only [Act.put, List.setIfInBounds_toArray, List.set_cons_zero, List.set_cons_succ]
  refine wpAnyH_ready (rs := [8]) (by kernel_rfl) (by simp) ?_
  refine AllReadyH.cons (o := { dst := some 57, op := Go.Op.call { callee := Go.Callee.value (Go.Operand.tmp 55), args := #[Go.Operand.tmp 56], argTypes := #[70] }, type := 4, pos := "run.go:44", after := #[{ on := 6, ground := Go.Ground.data }, { on := 7, ground := Go.Ground.data }, { on := 0, ground := Go.Ground.chain }], guard := none }) rfl (fun K hK => ?_) AllReadyH.nil
  go_simp
  with_reducible refine (hq'.out _ _ _ _ _ _ HM2.out hn hnl.out).mono ?_
  rintro e t8 ⟨rfl, hM8, hBE⟩
  go_simp
  refine hK.out _ _ (hHeld.trans (hBE.mono hHeld.size)) (fun hHeld => ?_)
  clear hK K
  try simp only [Act.put, List.setIfInBounds_toArray, List.set_cons_zero, List.set_cons_succ]
  refine wpAnyH_take (i := 9) (oi := { dst := some 58, op := Go.Op.unOp Go.UnOp.not 4 (Go.Operand.tmp 57), type := 4, pos := "run.go:44", after := #[{ on := 8, ground := Go.Ground.data }], guard := none }) (v := ?v388) rfl (by kernel_rfl) (by kernel_rfl) (by kernel_rfl) (fun _ _ _ h => h) (Or.inl ⟨by kernel_rfl, ?h388⟩) (by assumption) ?r388
  case h388 => (intro w hSw; (try dsimp only at hSw); go_simp; try with_reducible rfl)
  try simp only [Act.put, List.setIfInBounds_toArray, List.set_cons_zero, List.set_cons_succ]
  refine wpAnyH_done (by kernel_rfl) ?_ _
  obtain ⟨X6, hX6⟩ : ∃ X6, X6 = t8 := ⟨_, rfl⟩
  rw [← hX6] at hM8 hHeld ⊢
  have HM6 := Lib.hid hM8
  have h36 := step_far ((BelowE.of hXY.out).trans (hHeld.mono hXY.out.size)) hfresh.out
  replace Z3 := Lib.hid (Z3.out.below h36 Z3.out.lt)
  replace ZE := Lib.hid (ZE.out.below h36 ZE.out.lt)
  replace BL := Lib.hid (BL.out.trans (h36.mono BL.out.size))
  have hz3 := Lib.hid Z3.out.lt
  have hX36 := Lib.hid h36.size
  clear hX6 hHeld h36 m0 hix2 hgb hM8 hBE HM HM2 hXY b0
  have k0 := HM6.out.blk.cell 0
  have k1 := HM6.out.blk.cell 1
  have k2 := HM6.out.blk.cell 2
  have k3 := HM6.out.blk.cell 3
  have k4 := HM6.out.blk.cell 4
  simp at k0 k1 k2 k3 k4
  go_wp2_with fail
  with_reducible refine (refusal_any _ _ _ _ _ X6).mono ?_
  rintro e X7 ⟨rfl, b7⟩
  replace Z3 := Lib.hid (Z3.out.below b7 Z3.out.lt)
  replace BL := Lib.hid (BL.out.trans (b7.mono BL.out.size))
  clear k0 k1 k2 k3 k4 b7
  have k0 := Z3.out.cell 0
  have k1 := Z3.out.cell 1
  have j0 := Z3.out.free 0
  have j1 := Z3.out.free 1
  simp at k0 k1
  go_wp2
  exact state_ret2 (state_set Z3.out _ _) ⟨none, 0, 0, rfl, SL.nil _, belT BL.out (by omega) _ _, fun p hp => by cases hp⟩ _ _ 6 7 rfl rfl rfl rfl
set_option maxRecDepth 100000 in
set_option maxHeartbeats 16000000 in
theorem step_4t (pnm : ByteArray) (pa1 : Option Addr) (pn1 pc1 : Nat) (pa2 : Option Addr) (pn2 pc2 : Nat) (pa3 : Option Addr) (pn3 pc3 : Nat) (D : PD) (pt : Int) (a : Option Addr) (n c : Nat) (l : List Int) (E : Nat) (v : Int) (he : E < pn3) (ds x y cc d : Int) (hE : D.edges.getD E edge0 = (⟨pt, ds, 4, x, y, cc, d⟩ : EdgeD)) (hn : n ≤ 1000) (l' : List Int)
    (hq : ∀ B g a n cp W, MvH B g 4 x y cc d v a n cp l W → n ≤ 1000 → n = l.length → Calls Tryz.prog 59 #[.pointer (some ⟨g, 0, none⟩)] W (MvE B g 4 x y cc d v a n cp true l' W)) (w : World) (h : PrA w ⟨pnm, pa1, pn1, pc1, pa2, pn2, pc2, pa3, pn3, pc3⟩ D) (hs : SL w a n c l) :
    Calls Tryz.prog 24 #[.agg #[.string pnm, .slice pa1 pn1 pc1, .slice pa2 pn2 pc2, .slice pa3 pn3 pc3], .agg #[.int .i64 pt, .slice a n c], .agg #[.int .i64 (E : Int), .int .i64 v]] w (StE ds l' 0 w) := by
  obtain ⟨b, off, ha3, -⟩ := edges_at h.edges (i := E) he
  obtain ⟨W1, hW1⟩ : ∃ W1, W1 = (((w.alloc (.cells #[.string pnm, .slice pa1 pn1 pc1, .slice pa2 pn2 pc2, .slice pa3 pn3 pc3] 26)).alloc (.cells #[.int .i64 pt, .slice a n c] 39)).alloc (.cells #[.int .i64 (E : Int), .int .i64 v] 44)).alloc (.cells #[.int .i64 0, .slice none 0 0] 39) := ⟨_, rfl⟩
  have BL : Hid (Below w.heap.size w W1) := Lib.hid (by rw [hW1]; exact ((((Below.refl _ _).alloc (Nat.le_refl _) _).alloc (by simp) _).alloc (by simp; omega) _).alloc (by simp; omega) _)
  have Z0 : Hid (Holds W1 w.heap.size 26 #[.string pnm, .slice pa1 pn1 pc1, .slice pa2 pn2 pc2, .slice pa3 pn3 pc3]) := Lib.hid (by rw [hW1]; exact (((Holds.new w _ _).alloc _).alloc _).alloc _)
  have Z1 : Hid (Holds W1 (w.heap.size + 1) 39 #[.int .i64 pt, .slice a n c]) := Lib.hid (by rw [hW1]; have q := ((Holds.new (w.alloc (.cells #[.string pnm, .slice pa1 pn1 pc1, .slice pa2 pn2 pc2, .slice pa3 pn3 pc3] 26)) 39 #[.int .i64 pt, .slice a n c]).alloc (.cells #[.int .i64 (E : Int), .int .i64 v] 44)).alloc (.cells #[.int .i64 0, .slice none 0 0] 39); simpa using q)
  have Z2 : Hid (Holds W1 (w.heap.size + 2) 44 #[.int .i64 (E : Int), .int .i64 v]) := Lib.hid (by rw [hW1]; have q := (Holds.new ((w.alloc (.cells #[.string pnm, .slice pa1 pn1 pc1, .slice pa2 pn2 pc2, .slice pa3 pn3 pc3] 26)).alloc (.cells #[.int .i64 pt, .slice a n c] 39)) 44 #[.int .i64 (E : Int), .int .i64 v]).alloc (.cells #[.int .i64 0, .slice none 0 0] 39); simpa using q)
  have Z3 : Hid (Holds W1 (w.heap.size + 3) 39 #[.int .i64 0, .slice none 0 0]) := Lib.hid (by rw [hW1]; have q := Holds.new (((w.alloc (.cells #[.string pnm, .slice pa1 pn1 pc1, .slice pa2 pn2 pc2, .slice pa3 pn3 pc3] 26)).alloc (.cells #[.int .i64 pt, .slice a n c] 39)).alloc (.cells #[.int .i64 (E : Int), .int .i64 v] 44)) 39 #[.int .i64 0, .slice none 0 0]; simpa using q)
  have hW1' := Lib.hid hW1
  clear hW1
  subst ha3
  obtain ⟨b', off', hab, hbl, y0, y1, y2, y3, y4, y5, y6⟩ := edges_at (h.edges.below BL.out) he
  injection hab with hab
  injection hab with hab1 hab2
  subst hab1 hab2
  rw [hE] at y0 y1 y2 y3 y4 y5 y6
  dsimp only at y0 y1 y2 y3 y4 y5 y6
  have hb2 : b < W1.heap.size := hbl
  clear hbl
  have d1 : ¬ (E : Int) < 0 := by omega
  have d2 : ¬ (pn3 : Int) ≤ (E : Int) := by omega
  have d3 : (E : Int) < (pn3 : Int) := by omega
  have d4 : ¬ pn3 ≤ E := by omega
  have f0 : ∀ W, Below W1.heap.size W1 W → W.cell? ⟨w.heap.size + 2, 0, none⟩ = some (.int .i64 (E : Int)) := fun W hW => (Z2.out.below hW Z2.out.lt).cell 0
  have f1 : ∀ W, Below W1.heap.size W1 W → W.cell? ⟨w.heap.size, 3, none⟩ = some (.slice (some ⟨b, off, none⟩) pn3 pc3) := fun W hW => (Z0.out.below hW Z0.out.lt).cell 3
  have f2 : ∀ W, Below W1.heap.size W1 W → W.cell? ⟨w.heap.size + 1, 0, none⟩ = some (.int .i64 pt) := fun W hW => (Z1.out.below hW Z1.out.lt).cell 0
  have X0 : ∀ W, Below W1.heap.size W1 W → W.cell? ⟨b, off + E * 7, none⟩ = some (.int .i64 pt) := fun W hW => (hW.cell (p := ⟨b, off + E * 7, none⟩) hb2).trans y0
  have d5 : (pt != pt) = false := by simp
  have hnl := Lib.hid hs.len
  have S := Lib.hid (hs.below BL.out)
  have Y0 : Hid (W1.cell? ⟨b, off + E * 7, none⟩ = some (.int .i64 pt)) := Lib.hid y0
  have Y1 : Hid (W1.cell? ⟨b, off + E * 7 + 1, none⟩ = some (.int .i64 ds)) := Lib.hid y1
  have Y2 : Hid (W1.cell? ⟨b, off + E * 7 + 2, none⟩ = some (.int .i64 4)) := Lib.hid y2
  have Y3 : Hid (W1.cell? ⟨b, off + E * 7 + 3, none⟩ = some (.int .i64 x)) := Lib.hid y3
  have Y4 : Hid (W1.cell? ⟨b, off + E * 7 + 4, none⟩ = some (.int .i64 y)) := Lib.hid y4
  have Y5 : Hid (W1.cell? ⟨b, off + E * 7 + 5, none⟩ = some (.int .i64 cc)) := Lib.hid y5
  have Y6 : Hid (W1.cell? ⟨b, off + E * 7 + 6, none⟩ = some (.int .i64 d)) := Lib.hid y6
  have hq' := Lib.hid hq
  have hix : Hid (∀ W, (Instr.index 74 (.agg movesA) (.int .i64 4)).run Tryz.prog W = .ok (.func (.func 59) #[] #[]) W) := Lib.hid (fun W => by kernel_rfl)
  clear h hs hE he hq y0 y1 y2 y3 y4 y5 y6
  go_enter Tryz.func24, Tryz.ntmps24
  go_wp2
  rw [← hW1'.out]
  clear hW1'
  refine wp_drawn_on (fun W => Below W1.heap.size W1 W) (by kernel_rfl) ((Below.refl _ _).drew) (fun hHeld => ?_)
  refine wpAnyH_take (i := 0) (oi := { dst := some 10, op := Go.Op.fieldAddr 44 (Go.Operand.tmp 5) 0, type := 0, pos := "run.go:39", after := #[], guard := none }) (v := ?v225) rfl (by kernel_rfl) (by kernel_rfl) (by kernel_rfl) (fun _ _ _ h => h) (Or.inl ⟨by kernel_rfl, ?h225⟩) (by assumption) ?r225
  case h225 => (intro w hSw; (try dsimp only at hSw); go_simp; try with_reducible rfl)
  try simp only [Act.put, List.setIfInBounds_toArray, List.set_cons_zero, List.set_cons_succ]
  refine wpAnyH_take (i := 1) (oi := { dst := some 11, op := Go.Op.load 3 (Go.Operand.tmp 10), type := 3, pos := "run.go:39", after := #[{ on := 0, ground := Go.Ground.data }], guard := none }) (v := ?v226) rfl (by kernel_rfl) (by kernel_rfl) (by kernel_rfl) (fun _ _ _ h => h) (Or.inl ⟨by kernel_rfl, ?h226⟩) (by assumption) ?r226
  case h226 => (intro w hSw; (try dsimp only at hSw); go_simp; try with_reducible rfl)
  try simp only [Act.put, List.setIfInBounds_toArray, List.set_cons_zero, List.set_cons_succ]
  refine wpAnyH_take (i := 2) (oi := { dst := some 12, op := Go.Op.binOp Go.BinOp.lss 3 (Go.Operand.tmp 11) (Go.Operand.const (Go.Value.int Go.IntKind.i64 0)) 3, type := 4, pos := "run.go:39", after := #[{ on := 1, ground := Go.Ground.data }], guard := none }) (v := ?v227) rfl (by kernel_rfl) (by kernel_rfl) (by kernel_rfl) (fun _ _ _ h => h) (Or.inl ⟨by kernel_rfl, ?h227⟩) (by assumption) ?r227
  case h227 => (intro w hSw; (try dsimp only at hSw); go_simp; try with_reducible rfl)
  try simp only [Act.put, List.setIfInBounds_toArray, List.set_cons_zero, List.set_cons_succ]
  refine wpAnyH_take (i := 3) (oi := { dst := some 13, op := Go.Op.move (Go.Operand.tmp 12), type := 4, pos := "run.go:39", after := #[{ on := 2, ground := Go.Ground.data }], guard := none }) (v := ?v228) rfl (by kernel_rfl) (by kernel_rfl) (by kernel_rfl) (fun _ _ _ h => h) (Or.inl ⟨by kernel_rfl, ?h228⟩) (by assumption) ?r228
  case h228 => (intro w hSw; (try dsimp only at hSw); go_simp; try with_reducible rfl)
  try simp only [Act.put, List.setIfInBounds_toArray, List.set_cons_zero, List.set_cons_succ]
  refine wpAnyH_take (i := 4) (oi := { dst := some 14, op := Go.Op.fieldAddr 44 (Go.Operand.tmp 5) 0, type := 0, pos := "run.go:39", after := #[{ on := 3, ground := Go.Ground.guard }], guard := some (3, false) }) (v := ?v229) rfl (by kernel_rfl) (by kernel_rfl) (by kernel_rfl) (fun _ _ _ h => h) (Or.inl ⟨by kernel_rfl, ?h229⟩) (by assumption) ?r229
  case h229 => (intro w hSw; (try dsimp only at hSw); go_simp; try with_reducible rfl)
  try simp only [Act.put, List.setIfInBounds_toArray, List.set_cons_zero, List.set_cons_succ]
  refine wpAnyH_take (i := 5) (oi := { dst := some 15, op := Go.Op.load 3 (Go.Operand.tmp 14), type := 3, pos := "run.go:39", after := #[{ on := 4, ground := Go.Ground.data }, { on := 3, ground := Go.Ground.guard }], guard := some (3, false) }) (v := ?v230) rfl (by kernel_rfl) (by kernel_rfl) (by kernel_rfl) (fun _ _ _ h => h) (Or.inl ⟨by kernel_rfl, ?h230⟩) (by assumption) ?r230
  case h230 => (intro w hSw; (try dsimp only at hSw); go_simp; try with_reducible rfl)
  try simp only [Act.put, List.setIfInBounds_toArray, List.set_cons_zero, List.set_cons_succ]
  refine wpAnyH_take (i := 6) (oi := { dst := some 16, op := Go.Op.fieldAddr 26 (Go.Operand.tmp 3) 3, type := 0, pos := "run.go:39", after := #[{ on := 3, ground := Go.Ground.guard }], guard := some (3, false) }) (v := ?v231) rfl (by kernel_rfl) (by kernel_rfl) (by kernel_rfl) (fun _ _ _ h => h) (Or.inl ⟨by kernel_rfl, ?h231⟩) (by assumption) ?r231
  case h231 => (intro w hSw; (try dsimp only at hSw); go_simp; try with_reducible rfl)
  try simp only [Act.put, List.setIfInBounds_toArray, List.set_cons_zero, List.set_cons_succ]
  refine wpAnyH_take (i := 7) (oi := { dst := some 17, op := Go.Op.load 24 (Go.Operand.tmp 16), type := 24, pos := "run.go:39", after := #[{ on := 6, ground := Go.Ground.data }, { on := 3, ground := Go.Ground.guard }], guard := some (3, false) }) (v := ?v232) rfl (by kernel_rfl) (by kernel_rfl) (by kernel_rfl) (fun _ _ _ h => h) (Or.inl ⟨by kernel_rfl, ?h232⟩) (by assumption) ?r232
  case h232 => (intro w hSw; (try dsimp only at hSw); go_simp; try with_reducible rfl)
  try simp only [Act.put, List.setIfInBounds_toArray, List.set_cons_zero, List.set_cons_succ]
  refine wpAnyH_take (i := 8) (oi := { dst := some 18, op := Go.Op.call { callee := Go.Callee.builtin Go.Builtin.len, args := #[Go.Operand.tmp 17], argTypes := #[24] }, type := 3, pos := "run.go:39", after := #[{ on := 7, ground := Go.Ground.data }, { on := 3, ground := Go.Ground.guard }], guard := some (3, false) }) (v := ?v233) rfl (by kernel_rfl) (by kernel_rfl) (by kernel_rfl) (fun _ _ _ h => h) (Or.inl ⟨by kernel_rfl, ?h233⟩) (by assumption) ?r233
  case h233 => (intro w hSw; (try dsimp only at hSw); go_simp; try with_reducible rfl)
  try simp only [Act.put, List.setIfInBounds_toArray, List.set_cons_zero, List.set_cons_succ]
  refine wpAnyH_take (i := 9) (oi := { dst := some 19, op := Go.Op.binOp Go.BinOp.geq 3 (Go.Operand.tmp 15) (Go.Operand.tmp 18) 3, type := 4, pos := "run.go:39", after := #[{ on := 5, ground := Go.Ground.data }, { on := 8, ground := Go.Ground.data }, { on := 3, ground := Go.Ground.guard }], guard := some (3, false) }) (v := ?v234) rfl (by kernel_rfl) (by kernel_rfl) (by kernel_rfl) (fun _ _ _ h => h) (Or.inl ⟨by kernel_rfl, ?h234⟩) (by assumption) ?r234
  case h234 => (intro w hSw; (try dsimp only at hSw); go_simp; try with_reducible rfl)
  try simp only [Act.put, List.setIfInBounds_toArray, List.set_cons_zero, List.set_cons_succ]
  refine wpAnyH_take (i := 10) (oi := { dst := some 20, op := Go.Op.pick (Go.Operand.tmp 13) (Go.Operand.const (Go.Value.bool true)) (Go.Operand.tmp 19), type := 4, pos := "run.go:39", after := #[{ on := 3, ground := Go.Ground.data }, { on := 9, ground := Go.Ground.data }], guard := none }) (v := ?v235) rfl (by kernel_rfl) (by kernel_rfl) (by kernel_rfl) (fun _ _ _ h => h) (Or.inl ⟨by kernel_rfl, ?h235⟩) (by assumption) ?r235
  case h235 => (intro w hSw; (try dsimp only at hSw); go_simp; try with_reducible rfl)
  try simp only [Act.put, List.setIfInBounds_toArray, List.set_cons_zero, List.set_cons_succ]
  refine wpAnyH_take (i := 11) (oi := { dst := some 21, op := Go.Op.move (Go.Operand.tmp 20), type := 4, pos := "run.go:39", after := #[{ on := 10, ground := Go.Ground.data }, { on := 3, ground := Go.Ground.chain }], guard := none }) (v := ?v236) rfl (by kernel_rfl) (by kernel_rfl) (by kernel_rfl) (fun _ _ _ h => h) (Or.inl ⟨by kernel_rfl, ?h236⟩) (by assumption) ?r236
  case h236 => (intro w hSw; (try dsimp only at hSw); go_simp; try with_reducible rfl)
  try simp only [Act.put, List.setIfInBounds_toArray, List.set_cons_zero, List.set_cons_succ]
  refine wpAnyH_take (i := 12) (oi := { dst := some 22, op := Go.Op.fieldAddr 26 (Go.Operand.tmp 3) 3, type := 0, pos := "run.go:39", after := #[{ on := 11, ground := Go.Ground.guard }], guard := some (11, false) }) (v := ?v237) rfl (by kernel_rfl) (by kernel_rfl) (by kernel_rfl) (fun _ _ _ h => h) (Or.inl ⟨by kernel_rfl, ?h237⟩) (by assumption) ?r237
  case h237 => (intro w hSw; (try dsimp only at hSw); go_simp; try with_reducible rfl)
  try simp only [Act.put, List.setIfInBounds_toArray, List.set_cons_zero, List.set_cons_succ]
  refine wpAnyH_take (i := 13) (oi := { dst := some 23, op := Go.Op.load 24 (Go.Operand.tmp 22), type := 24, pos := "run.go:39", after := #[{ on := 12, ground := Go.Ground.data }, { on := 11, ground := Go.Ground.guard }], guard := some (11, false) }) (v := ?v238) rfl (by kernel_rfl) (by kernel_rfl) (by kernel_rfl) (fun _ _ _ h => h) (Or.inl ⟨by kernel_rfl, ?h238⟩) (by assumption) ?r238
  case h238 => (intro w hSw; (try dsimp only at hSw); go_simp; try with_reducible rfl)
  try simp only [Act.put, List.setIfInBounds_toArray, List.set_cons_zero, List.set_cons_succ]
  refine wpAnyH_take (i := 14) (oi := { dst := some 24, op := Go.Op.fieldAddr 44 (Go.Operand.tmp 5) 0, type := 0, pos := "run.go:39", after := #[{ on := 11, ground := Go.Ground.guard }], guard := some (11, false) }) (v := ?v239) rfl (by kernel_rfl) (by kernel_rfl) (by kernel_rfl) (fun _ _ _ h => h) (Or.inl ⟨by kernel_rfl, ?h239⟩) (by assumption) ?r239
  case h239 => (intro w hSw; (try dsimp only at hSw); go_simp; try with_reducible rfl)
  try simp only [Act.put, List.setIfInBounds_toArray, List.set_cons_zero, List.set_cons_succ]
  refine wpAnyH_take (i := 15) (oi := { dst := some 25, op := Go.Op.load 3 (Go.Operand.tmp 24), type := 3, pos := "run.go:39", after := #[{ on := 14, ground := Go.Ground.data }, { on := 11, ground := Go.Ground.guard }], guard := some (11, false) }) (v := ?v240) rfl (by kernel_rfl) (by kernel_rfl) (by kernel_rfl) (fun _ _ _ h => h) (Or.inl ⟨by kernel_rfl, ?h240⟩) (by assumption) ?r240
  case h240 => (intro w hSw; (try dsimp only at hSw); go_simp; try with_reducible rfl)
  try simp only [Act.put, List.setIfInBounds_toArray, List.set_cons_zero, List.set_cons_succ]
  refine wpAnyH_take (i := 16) (oi := { dst := some 26, op := Go.Op.indexAddr 24 (Go.Operand.tmp 23) (Go.Operand.tmp 25), type := 0, pos := "run.go:39", after := #[{ on := 13, ground := Go.Ground.data }, { on := 15, ground := Go.Ground.data }, { on := 11, ground := Go.Ground.guard }], guard := some (11, false) }) (v := ?v241) rfl (by kernel_rfl) (by kernel_rfl) (by kernel_rfl) (fun _ _ _ h => h) (Or.inl ⟨by kernel_rfl, ?h241⟩) (by assumption) ?r241
  case h241 => (intro w hSw; (try dsimp only at hSw); go_simp; try with_reducible rfl)
  try simp only [Act.put, List.setIfInBounds_toArray, List.set_cons_zero, List.set_cons_succ]
  refine wpAnyH_take (i := 17) (oi := { dst := some 27, op := Go.Op.fieldAddr 53 (Go.Operand.tmp 26) 0, type := 0, pos := "run.go:39", after := #[{ on := 16, ground := Go.Ground.data }, { on := 11, ground := Go.Ground.guard }], guard := some (11, false) }) (v := ?v242) rfl (by kernel_rfl) (by kernel_rfl) (by kernel_rfl) (fun _ _ _ h => h) (Or.inl ⟨by kernel_rfl, ?h242⟩) (by assumption) ?r242
  case h242 => (intro w hSw; (try dsimp only at hSw); go_simp; try with_reducible rfl)
  try simp only [Act.put, List.setIfInBounds_toArray, List.set_cons_zero, List.set_cons_succ]
  refine wpAnyH_take (i := 18) (oi := { dst := some 28, op := Go.Op.load 3 (Go.Operand.tmp 27), type := 3, pos := "run.go:39", after := #[{ on := 17, ground := Go.Ground.data }, { on := 11, ground := Go.Ground.guard }], guard := some (11, false) }) (v := ?v243) rfl (by kernel_rfl) (by kernel_rfl) (by kernel_rfl) (fun _ _ _ h => h) (Or.inl ⟨by kernel_rfl, ?h243⟩) (by assumption) ?r243
  case h243 => (intro w hSw; (try dsimp only at hSw); go_simp; try with_reducible rfl)
  try simp only [Act.put, List.setIfInBounds_toArray, List.set_cons_zero, List.set_cons_succ]
  refine wpAnyH_take (i := 19) (oi := { dst := some 29, op := Go.Op.fieldAddr 39 (Go.Operand.tmp 4) 0, type := 0, pos := "run.go:39", after := #[{ on := 11, ground := Go.Ground.guard }], guard := some (11, false) }) (v := ?v244) rfl (by kernel_rfl) (by kernel_rfl) (by kernel_rfl) (fun _ _ _ h => h) (Or.inl ⟨by kernel_rfl, ?h244⟩) (by assumption) ?r244
  case h244 => (intro w hSw; (try dsimp only at hSw); go_simp; try with_reducible rfl)
  try simp only [Act.put, List.setIfInBounds_toArray, List.set_cons_zero, List.set_cons_succ]
  refine wpAnyH_take (i := 20) (oi := { dst := some 30, op := Go.Op.load 3 (Go.Operand.tmp 29), type := 3, pos := "run.go:39", after := #[{ on := 19, ground := Go.Ground.data }, { on := 11, ground := Go.Ground.guard }], guard := some (11, false) }) (v := ?v245) rfl (by kernel_rfl) (by kernel_rfl) (by kernel_rfl) (fun _ _ _ h => h) (Or.inl ⟨by kernel_rfl, ?h245⟩) (by assumption) ?r245
  case h245 => (intro w hSw; (try dsimp only at hSw); go_simp; try with_reducible rfl)
  try simp only [Act.put, List.setIfInBounds_toArray, List.set_cons_zero, List.set_cons_succ]
  refine wpAnyH_take (i := 21) (oi := { dst := some 31, op := Go.Op.binOp Go.BinOp.neq 3 (Go.Operand.tmp 28) (Go.Operand.tmp 30) 3, type := 4, pos := "run.go:39", after := #[{ on := 18, ground := Go.Ground.data }, { on := 20, ground := Go.Ground.data }, { on := 11, ground := Go.Ground.guard }], guard := some (11, false) }) (v := ?v246) rfl (by kernel_rfl) (by kernel_rfl) (by kernel_rfl) (fun _ _ _ h => h) (Or.inl ⟨by kernel_rfl, ?h246⟩) (by assumption) ?r246
  case h246 => (intro w hSw; (try dsimp only at hSw); go_simp; try with_reducible rfl)
  try simp only [Act.put, List.setIfInBounds_toArray, List.set_cons_zero, List.set_cons_succ]
  refine wpAnyH_take (i := 22) (oi := { dst := some 32, op := Go.Op.pick (Go.Operand.tmp 21) (Go.Operand.const (Go.Value.bool true)) (Go.Operand.tmp 31), type := 4, pos := "run.go:39", after := #[{ on := 11, ground := Go.Ground.data }, { on := 21, ground := Go.Ground.data }], guard := none }) (v := ?v247) rfl (by kernel_rfl) (by kernel_rfl) (by kernel_rfl) (fun _ _ _ h => h) (Or.inl ⟨by kernel_rfl, ?h247⟩) (by assumption) ?r247
  case h247 => (intro w hSw; (try dsimp only at hSw); go_simp; try with_reducible rfl)
  try simp only [Act.put, List.setIfInBounds_toArray, List.set_cons_zero, List.set_cons_succ]
  refine wpAnyH_done (by kernel_rfl) ?_ _
  obtain ⟨X2, hX2⟩ : ∃ X2, X2 = W1.drew := ⟨_, rfl⟩
  rw [← hX2] at hHeld ⊢
  replace Z0 := Lib.hid (Z0.out.below hHeld Z0.out.lt)
  replace Z1 := Lib.hid (Z1.out.below hHeld Z1.out.lt)
  replace Z2 := Lib.hid (Z2.out.below hHeld Z2.out.lt)
  replace Z3 := Lib.hid (Z3.out.below hHeld Z3.out.lt)
  replace S := Lib.hid (S.out.below hHeld)
  replace BL := Lib.hid (BL.out.trans (hHeld.mono BL.out.size))
  have y0 := (hHeld.cell (p := ⟨b, off + E * 7, none⟩) hb2).trans Y0.out
  have y1 := (hHeld.cell (p := ⟨b, off + E * 7 + 1, none⟩) hb2).trans Y1.out
  have y2 := (hHeld.cell (p := ⟨b, off + E * 7 + 2, none⟩) hb2).trans Y2.out
  have y3 := (hHeld.cell (p := ⟨b, off + E * 7 + 3, none⟩) hb2).trans Y3.out
  have y4 := (hHeld.cell (p := ⟨b, off + E * 7 + 4, none⟩) hb2).trans Y4.out
  have y5 := (hHeld.cell (p := ⟨b, off + E * 7 + 5, none⟩) hb2).trans Y5.out
  have y6 := (hHeld.cell (p := ⟨b, off + E * 7 + 6, none⟩) hb2).trans Y6.out
  have hb3 : b < X2.heap.size := Nat.lt_of_lt_of_le hb2 hHeld.size
  clear hX2 hHeld f0 f1 f2 X0 hb2
  have hZ32 := Z3.out.lt
  have k0 := Z0.out.cell 3
  have k1 := Z2.out.cell 0
  simp at k0 k1
  go_upto_region 4 with (fail)
  obtain ⟨X3, hX3⟩ : ∃ X3, X3 = X2.alloc (.cells #[.int .i64 pt, .int .i64 ds, .int .i64 4, .int .i64 x, .int .i64 y, .int .i64 cc, .int .i64 d] 53) := ⟨_, rfl⟩
  rw [← hX3]
  have B3 : Below X2.heap.size X2 X3 := by rw [hX3]; exact box_below _ _ _
  have ZE : Hid (Holds X3 X2.heap.size 53 #[.int .i64 pt, .int .i64 ds, .int .i64 4, .int .i64 x, .int .i64 y, .int .i64 cc, .int .i64 d]) := Lib.hid (by rw [hX3]; exact Holds.new _ _ _)
  replace Z1 := Lib.hid (Z1.out.below B3 Z1.out.lt)
  replace Z2 := Lib.hid (Z2.out.below B3 Z2.out.lt)
  replace Z3 := Lib.hid (Z3.out.below B3 Z3.out.lt)
  replace S := Lib.hid (S.out.below B3)
  have hz32 : Hid (w.heap.size + 3 < X2.heap.size) := Lib.hid hZ32
  have hz23 : Hid (X2.heap.size < X3.heap.size) := Lib.hid ZE.out.lt
  replace BL := Lib.hid (BL.out.trans (B3.mono BL.out.size))
  clear hZ32 hX3 B3 k0 k1 Z0 y0 y1 y2 y3 y4 y5 y6 Y0 Y1 Y2 Y3 Y4 Y5 Y6 hb3
  have e2 : ∀ W, Below X3.heap.size X3 W → W.cell? ⟨X2.heap.size, 2, none⟩ = some (.int .i64 4) := fun W hW => (ZE.out.below hW ZE.out.lt).cell 2
  have e3 : ∀ W, Below X3.heap.size X3 W → W.cell? ⟨X2.heap.size, 3, none⟩ = some (.int .i64 x) := fun W hW => (ZE.out.below hW ZE.out.lt).cell 3
  have e4 : ∀ W, Below X3.heap.size X3 W → W.cell? ⟨X2.heap.size, 4, none⟩ = some (.int .i64 y) := fun W hW => (ZE.out.below hW ZE.out.lt).cell 4
  have e5 : ∀ W, Below X3.heap.size X3 W → W.cell? ⟨X2.heap.size, 5, none⟩ = some (.int .i64 cc) := fun W hW => (ZE.out.below hW ZE.out.lt).cell 5
  have e6 : ∀ W, Below X3.heap.size X3 W → W.cell? ⟨X2.heap.size, 6, none⟩ = some (.int .i64 d) := fun W hW => (ZE.out.below hW ZE.out.lt).cell 6
  have f1 : ∀ W, Below X3.heap.size X3 W → W.cell? ⟨w.heap.size + 1, 1, none⟩ = some (.slice a n c) := fun W hW => (Z1.out.below hW Z1.out.lt).cell 1
  have f2 : ∀ W, Below X3.heap.size X3 W → W.cell? ⟨w.heap.size + 2, 1, none⟩ = some (.int .i64 v) := fun W hW => (Z2.out.below hW Z2.out.lt).cell 1
  refine wp_drawn_on (fun W => Below X3.heap.size X3 W) (by kernel_rfl) ((Below.refl _ _).drew) (fun hHeld => ?_)
  refine wpAnyH_take (i := 0) (oi := { dst := some 40, op := Go.Op.fieldAddr 53 (Go.Operand.tmp 8) 2, type := 0, pos := "run.go:43", after := #[], guard := none }) (v := ?v248) rfl (by kernel_rfl) (by kernel_rfl) (by kernel_rfl) (fun _ _ _ h => h) (Or.inl ⟨by kernel_rfl, ?h248⟩) (by assumption) ?r248
  case h248 => (intro w hSw; (try dsimp only at hSw); go_simp; try with_reducible rfl)
  try simp only [Act.put, List.setIfInBounds_toArray, List.set_cons_zero, List.set_cons_succ]
  refine wpAnyH_take (i := 1) (oi := { dst := some 41, op := Go.Op.load 51 (Go.Operand.tmp 40), type := 51, pos := "run.go:43", after := #[{ on := 0, ground := Go.Ground.data }], guard := none }) (v := ?v249) rfl (by kernel_rfl) (by kernel_rfl) (by kernel_rfl) (fun _ _ _ h => h) (Or.inl ⟨by kernel_rfl, ?h249⟩) (by assumption) ?r249
  case h249 => (intro w hSw; (try dsimp only at hSw); go_simp; try with_reducible rfl)
  try simp only [Act.put, List.setIfInBounds_toArray, List.set_cons_zero, List.set_cons_succ]
  refine wpAnyH_take (i := 2) (oi := { dst := some 42, op := Go.Op.fieldAddr 39 (Go.Operand.tmp 4) 1, type := 0, pos := "run.go:43", after := #[], guard := none }) (v := ?v250) rfl (by kernel_rfl) (by kernel_rfl) (by kernel_rfl) (fun _ _ _ h => h) (Or.inl ⟨by kernel_rfl, ?h250⟩) (by assumption) ?r250
  case h250 => (intro w hSw; (try dsimp only at hSw); go_simp; try with_reducible rfl)
  try simp only [Act.put, List.setIfInBounds_toArray, List.set_cons_zero, List.set_cons_succ]
  refine wpAnyH_take (i := 3) (oi := { dst := some 43, op := Go.Op.load 27 (Go.Operand.tmp 42), type := 27, pos := "run.go:43", after := #[{ on := 2, ground := Go.Ground.data }], guard := none }) (v := ?v251) rfl (by kernel_rfl) (by kernel_rfl) (by kernel_rfl) (fun _ _ _ h => h) (Or.inl ⟨by kernel_rfl, ?h251⟩) (by assumption) ?r251
  case h251 => (intro w hSw; (try dsimp only at hSw); go_simp; try with_reducible rfl)
  try simp only [Act.put, List.setIfInBounds_toArray, List.set_cons_zero, List.set_cons_succ]
  refine wpAnyH_take (i := 5) (oi := { dst := some 45, op := Go.Op.fieldAddr 44 (Go.Operand.tmp 5) 1, type := 0, pos := "run.go:43", after := #[], guard := none }) (v := ?v252) rfl (by kernel_rfl) (by kernel_rfl) (by kernel_rfl) (fun _ _ _ h => h) (Or.inl ⟨by kernel_rfl, ?h252⟩) (by assumption) ?r252
  case h252 => (intro w hSw; (try dsimp only at hSw); go_simp; try with_reducible rfl)
  try simp only [Act.put, List.setIfInBounds_toArray, List.set_cons_zero, List.set_cons_succ]
  refine wpAnyH_take (i := 6) (oi := { dst := some 46, op := Go.Op.load 3 (Go.Operand.tmp 45), type := 3, pos := "run.go:43", after := #[{ on := 5, ground := Go.Ground.data }], guard := none }) (v := ?v253) rfl (by kernel_rfl) (by kernel_rfl) (by kernel_rfl) (fun _ _ _ h => h) (Or.inl ⟨by kernel_rfl, ?h253⟩) (by assumption) ?r253
  case h253 => (intro w hSw; (try dsimp only at hSw); go_simp; try with_reducible rfl)
  try simp only [Act.put, List.setIfInBounds_toArray, List.set_cons_zero, List.set_cons_succ]
  refine wpAnyH_ready (rs := [4]) (by kernel_rfl) (by simp) ?_
  refine AllReadyH.cons (o := { dst := some 44, op := Go.Op.call { callee := Go.Callee.value (Go.Operand.func 23), args := #[Go.Operand.tmp 43], argTypes := #[27] }, type := 27, pos := "run.go:43", after := #[{ on := 3, ground := Go.Ground.data }], guard := none }) rfl (fun K hK => ?_) AllReadyH.nil
  go_simp
  with_reducible refine (clone_any a n c l hn _ (S.out.below hHeld)).mono ?_
  rintro e t4 ⟨a', c', rfl, hrow4, b4⟩
  have hrow := Lib.hid (own_from (B := w.heap.size) hrow4 (fun b hb => by have q1 := (hrow4.lt b hb).1; have q2 := hHeld.size; have q3 := BL.out.size; omega))
  have hfresh : Hid (∀ b, (Value.slice a' n c').ownBlock = some b → X3.heap.size ≤ b) := Lib.hid (fun b hb => (hrow4.lt b hb).1)
  clear hrow4
  go_simp
  refine hK.out _ _ (hHeld.trans (b4.mono hHeld.size)) (fun hHeld => ?_)
  clear hK K
  try simp only [Act.put, List.setIfInBounds_toArray, List.set_cons_zero, List.set_cons_succ]
  refine wpAnyH_take (i := 7) (oi := { dst := some 47, op := Go.Op.build 72 #[(0, Go.Operand.tmp 41), (1, Go.Operand.tmp 44), (2, Go.Operand.tmp 46)], type := 72, pos := "run.go:43", after := #[{ on := 1, ground := Go.Ground.data }, { on := 4, ground := Go.Ground.data }, { on := 6, ground := Go.Ground.data }], guard := none }) (v := ?v254) rfl (by kernel_rfl) (by kernel_rfl) (by kernel_rfl) (fun _ _ _ h => h) (Or.inl ⟨by kernel_rfl, ?h254⟩) (by assumption) ?r254
  case h254 => (intro w hSw; (try dsimp only at hSw); go_simp; try with_reducible rfl)
  try simp only [Act.put, List.setIfInBounds_toArray, List.set_cons_zero, List.set_cons_succ]
  refine wpAnyH_ready (rs := [8]) (by kernel_rfl) (by simp) ?_
  refine AllReadyH.cons (o := { dst := some 48, op := Go.Op.box 72 (Go.Operand.tmp 47), type := 70, pos := "run.go:43", after := #[{ on := 7, ground := Go.Ground.data }], guard := none }) rfl (fun K hK => ?_) AllReadyH.nil
  go_simp
  go_simp
  refine hK.out _ _ (hHeld.alloc hHeld.size _) (fun hHeld => ?_)
  clear hK K
  try simp only [Act.put, List.setIfInBounds_toArray, List.set_cons_zero, List.set_cons_succ]
  refine wpAnyH_take (i := 9) (oi := { dst := some 9, op := Go.Op.assign (Go.Operand.tmp 48), type := 70, pos := "run.go:43", after := #[{ on := 8, ground := Go.Ground.data }, { on := 4, ground := Go.Ground.chain }, { on := 0, ground := Go.Ground.phase }, { on := 1, ground := Go.Ground.phase }, { on := 2, ground := Go.Ground.phase }, { on := 3, ground := Go.Ground.phase }, { on := 4, ground := Go.Ground.phase }, { on := 5, ground := Go.Ground.phase }, { on := 6, ground := Go.Ground.phase }, { on := 7, ground := Go.Ground.phase }, { on := 8, ground := Go.Ground.phase }], guard := none }) (v := ?v255) rfl (by kernel_rfl) (by kernel_rfl) (by kernel_rfl) (fun _ _ _ h => h) (Or.inl ⟨by kernel_rfl, ?h255⟩) (by assumption) ?r255
  case h255 => (intro w hSw; (try dsimp only at hSw); go_simp; try with_reducible rfl)
  try simp only [Act.put, List.setIfInBounds_toArray, List.set_cons_zero, List.set_cons_succ]
  refine wpAnyH_done (by kernel_rfl) ?_ _
  obtain ⟨gm, hgm⟩ : ∃ gm, gm = t4.heap.size := ⟨_, rfl⟩
  obtain ⟨X5, hX5⟩ : ∃ X5, X5 = t4.alloc (.cells #[.int .i64 4, .int .i64 x, .int .i64 y, .int .i64 cc, .int .i64 d, .slice a' n c', .int .i64 v] 72) := ⟨_, rfl⟩
  rw [← hX5] at hHeld ⊢
  have B5 : Below t4.heap.size t4 X5 := by rw [hX5]; exact box_below _ _ _
  have HM : Hid (MvH w.heap.size gm 4 x y cc d v a' n c' l X5) := Lib.hid ⟨by rw [hX5, hgm]; exact Holds.new _ _ _, own_below hrow.out B5, fun b hb => by have := (hrow.out.lt b hb).2; omega⟩
  have hgm3 : Hid (X3.heap.size ≤ gm) := Lib.hid (by rw [hgm]; exact b4.size)
  rw [← hgm]
  have hXY := Lib.hid hHeld
  clear hX5 B5 hHeld hrow e2 e3 e4 e5 e6 f1 f2 hgm
  have hgb := blkL_not HM.out
  have m0 : ∀ W, BelowE (blkL a' n c') X5.heap.size X5 W → W.cell? ⟨gm, 0, none⟩ = some (.int .i64 4) := fun W hW => (HM.out.blk.belowE hW HM.out.blk.lt hgb).cell 0
  have hix2 := hix.out
  go_wp2
  refine wp_drawn_on (fun W => BelowE (blkL a' n c') X5.heap.size X5 W) (by kernel_rfl) ((BelowE.refl _ _ _).drew) (fun hHeld => ?_)
  refine wpAnyH_take (i := 1) (oi := { dst := some 50, op := Go.Op.move (Go.Operand.tmp 9), type := 70, pos := "run.go:44", after := #[], guard := none }) (v := ?v389) rfl (by kernel_rfl) (by kernel_rfl) (by kernel_rfl) (fun _ _ _ h => h) (Or.inl ⟨by kernel_rfl, ?h389⟩) (by assumption) ?r389
  case h389 => (intro w hSw; (try dsimp only at hSw); go_simp; try with_reducible rfl)
  try simp only [Act.put, List.setIfInBounds_toArray, List.set_cons_zero, List.set_cons_succ]
  refine wpAnyH_take (i := 2) (oi := { dst := some 51, op := Go.Op.nilCheck (Go.Operand.tmp 50), type := 0, pos := "run.go:44", after := #[{ on := 1, ground := Go.Ground.data }], guard := none }) (v := ?v390) rfl (by kernel_rfl) (by kernel_rfl) (by kernel_rfl) (fun _ _ _ h => h) (Or.inl ⟨by kernel_rfl, ?h390⟩) (by assumption) ?r390
  case h390 => (intro w hSw; (try dsimp only at hSw); go_simp; try with_reducible rfl)
  try simp only [Act.put, List.setIfInBounds_toArray, List.set_cons_zero, List.set_cons_succ]
  refine wpAnyH_take (i := 3) (oi := { dst := some 52, op := Go.Op.fieldAddr 72 (Go.Operand.tmp 51) 0, type := 0, pos := "run.go:44", after := #[{ on := 2, ground := Go.Ground.data }], guard := none }) (v := ?v391) rfl (by kernel_rfl) (by kernel_rfl) (by kernel_rfl) (fun _ _ _ h => h) (Or.inl ⟨by kernel_rfl, ?h391⟩) (by assumption) ?r391
  case h391 => (intro w hSw; (try dsimp only at hSw); go_simp; try with_reducible rfl)
  try simp only [Act.put, List.setIfInBounds_toArray, List.set_cons_zero, List.set_cons_succ]
  refine wpAnyH_take (i := 4) (oi := { dst := some 53, op := Go.Op.fieldAddr 51 (Go.Operand.tmp 52) 0, type := 0, pos := "run.go:44", after := #[{ on := 3, ground := Go.Ground.data }], guard := none }) (v := ?v392) rfl (by kernel_rfl) (by kernel_rfl) (by kernel_rfl) (fun _ _ _ h => h) (Or.inl ⟨by kernel_rfl, ?h392⟩) (by assumption) ?r392
  case h392 => (intro w hSw; (try dsimp only at hSw); go_simp; try with_reducible rfl)
  try simp only [Act.put, List.setIfInBounds_toArray, List.set_cons_zero, List.set_cons_succ]
  refine wpAnyH_take (i := 5) (oi := { dst := some 54, op := Go.Op.load 3 (Go.Operand.tmp 53), type := 3, pos := "run.go:44", after := #[{ on := 4, ground := Go.Ground.data }], guard := none }) (v := ?v393) rfl (by kernel_rfl) (by kernel_rfl) (by kernel_rfl) (fun _ _ _ h => h) (Or.inl ⟨by kernel_rfl, ?h393⟩) (by assumption) ?r393
  case h393 => (intro w hSw; (try dsimp only at hSw); go_simp; try with_reducible rfl)
  try simp only [Act.put, List.setIfInBounds_toArray, List.set_cons_zero, List.set_cons_succ]
  refine wpAnyH_take (i := 7) (oi := { dst := some 56, op := Go.Op.move (Go.Operand.tmp 9), type := 70, pos := "run.go:44", after := #[], guard := none }) (v := ?v394) rfl (by kernel_rfl) (by kernel_rfl) (by kernel_rfl) (fun _ _ _ h => h) (Or.inl ⟨by kernel_rfl, ?h394⟩) (by assumption) ?r394
  case h394 => (intro w hSw; (try dsimp only at hSw); go_simp; try with_reducible rfl)
  try simp only [Act.put, List.setIfInBounds_toArray, List.set_cons_zero, List.set_cons_succ]
  refine wpAnyH_ready (rs := [0]) (by kernel_rfl) (by simp) ?_
  refine AllReadyH.cons (o := { dst := some 49, op := Go.Op.call { callee := Go.Callee.value (Go.Operand.func 41), args := #[], argTypes := #[] }, type := 74, pos := "run.go:44", after := #[], guard := none }) rfl (fun K hK => ?_) AllReadyH.nil
  go_simp
  with_reducible refine (moves_any _).mono ?_
  rintro e t0 ⟨rfl, b0⟩
  have HM2 := Lib.hid (HM.out.below (Below.trans ((Below.refl _ _).drew) b0))
  go_simp
  refine hK.out _ _ (hHeld.trans (.of (b0.mono hHeld.size))) (fun hHeld => ?_)
  clear hK K
  try simp only [Act.put, List.setIfInBounds_toArray, List.set_cons_zero, List.set_cons_succ]
  refine wpAnyH_take (i := 6) (oi := { dst := some 55, op := Go.Op.index 74 (Go.Operand.tmp 49) (Go.Operand.tmp 54), type := 73, pos := "run.go:44", after := #[{ on := 0, ground := Go.Ground.data }, { on := 5, ground := Go.Ground.data }], guard := none }) (v := ?v395) rfl (by kernel_rfl) (by kernel_rfl) (by kernel_rfl) (fun _ _ _ h => h) (Or.inl ⟨by kernel_rfl, ?h395⟩) (by assumption) ?r395
  case h395 => (intro w hSw; (try dsimp only at hSw); go_simp; try with_reducible rfl)
  try simp only [Act.put, List.setIfInBounds_toArray, List.set_cons_zero, List.set_cons_succ]
  refine wpAnyH_ready (rs := [8]) (by kernel_rfl) (by simp) ?_
  refine AllReadyH.cons (o := { dst := some 57, op := Go.Op.call { callee := Go.Callee.value (Go.Operand.tmp 55), args := #[Go.Operand.tmp 56], argTypes := #[70] }, type := 4, pos := "run.go:44", after := #[{ on := 6, ground := Go.Ground.data }, { on := 7, ground := Go.Ground.data }, { on := 0, ground := Go.Ground.chain }], guard := none }) rfl (fun K hK => ?_) AllReadyH.nil
  go_simp
  with_reducible refine (hq'.out _ _ _ _ _ _ HM2.out hn hnl.out).mono ?_
  rintro e t8 ⟨rfl, hM8, hBE⟩
  go_simp
  refine hK.out _ _ (hHeld.trans (hBE.mono hHeld.size)) (fun hHeld => ?_)
  clear hK K
  try simp only [Act.put, List.setIfInBounds_toArray, List.set_cons_zero, List.set_cons_succ]
  refine wpAnyH_take (i := 9) (oi := { dst := some 58, op := Go.Op.unOp Go.UnOp.not 4 (Go.Operand.tmp 57), type := 4, pos := "run.go:44", after := #[{ on := 8, ground := Go.Ground.data }], guard := none }) (v := ?v396) rfl (by kernel_rfl) (by kernel_rfl) (by kernel_rfl) (fun _ _ _ h => h) (Or.inl ⟨by kernel_rfl, ?h396⟩) (by assumption) ?r396
  case h396 => (intro w hSw; (try dsimp only at hSw); go_simp; try with_reducible rfl)
  try simp only [Act.put, List.setIfInBounds_toArray, List.set_cons_zero, List.set_cons_succ]
  refine wpAnyH_done (by kernel_rfl) ?_ _
  obtain ⟨X6, hX6⟩ : ∃ X6, X6 = t8 := ⟨_, rfl⟩
  rw [← hX6] at hM8 hHeld ⊢
  have HM6 := Lib.hid hM8
  have h36 := step_far ((BelowE.of hXY.out).trans (hHeld.mono hXY.out.size)) hfresh.out
  replace Z3 := Lib.hid (Z3.out.below h36 Z3.out.lt)
  replace ZE := Lib.hid (ZE.out.below h36 ZE.out.lt)
  replace BL := Lib.hid (BL.out.trans (h36.mono BL.out.size))
  have hz3 := Lib.hid Z3.out.lt
  have hX36 := Lib.hid h36.size
  clear hX6 hHeld h36 m0 hix2 hgb hM8 hBE HM HM2 hXY b0
  have n1 : X2.heap.size ≠ w.heap.size + 3 := by have := hz32.out; omega
  have n2 : gm ≠ w.heap.size + 3 := by have := hgm3.out; have := hz32.out; have := hz23.out; omega
  have p1 : ∀ W, (∃ q, W = X6.drewN q ∨ W = ((X6.drewN q).setCell ⟨w.heap.size + 3, 0, none⟩ (.int .i64 ds)).setCell ⟨w.heap.size + 3, 1, none⟩ (.slice a' n c')) → W.cell? ⟨X2.heap.size, 1, none⟩ = some (.int .i64 ds) := fun W hW => (two_cell ZE.out n1 _ _ W hW).cell 1
  have p2 : ∀ W, (∃ q, W = X6.drewN q ∨ W = ((X6.drewN q).setCell ⟨w.heap.size + 3, 0, none⟩ (.int .i64 ds)).setCell ⟨w.heap.size + 3, 1, none⟩ (.slice a' n c')) → W.cell? ⟨gm, 5, none⟩ = some (.slice a' n c') := fun W hW => (two_cell HM6.out.blk n2 _ _ W hW).cell 5
  have k0 : X6.drew.cell? ⟨w.heap.size + 3, 0, none⟩ = some (.int .i64 0) := Z3.out.cell 0
  have k1 : X6.drew.cell? ⟨w.heap.size + 3, 1, none⟩ = some (.slice none 0 0) := Z3.out.cell 1
  have j0 : X6.drew.frozen? ⟨w.heap.size + 3, 0, none⟩ = false := Z3.out.free 0
  have j1 : X6.drew.frozen? ⟨w.heap.size + 3, 1, none⟩ = false := Z3.out.free 1
  have k2 : X6.cell? ⟨w.heap.size + 3, 1, none⟩ = some (.slice none 0 0) := Z3.out.cell 1
  have j2 : X6.frozen? ⟨w.heap.size + 3, 1, none⟩ = false := Z3.out.free 1
  go_wp2
  refine wp_drawn_on (fun W => ∃ q, W = X6.drewN q ∨ W = ((X6.drewN q).setCell ⟨w.heap.size + 3, 0, none⟩ (.int .i64 ds)).setCell ⟨w.heap.size + 3, 1, none⟩ (.slice a' n c')) (by kernel_rfl) (⟨1, .inl rfl⟩) (fun hHeld => ?_)
  refine wpAnyH_take (i := 0) (oi := { dst := some 65, op := Go.Op.fieldAddr 53 (Go.Operand.tmp 8) 1, type := 0, pos := "run.go:47", after := #[], guard := none }) (v := ?v445) rfl (by kernel_rfl) (by kernel_rfl) (by kernel_rfl) (fun _ _ _ h => h) (Or.inl ⟨by kernel_rfl, ?h445⟩) (by assumption) ?r445
  case h445 => (intro w hSw; (try dsimp only at hSw); go_simp; try with_reducible rfl)
  try simp only [Act.put, List.setIfInBounds_toArray, List.set_cons_zero, List.set_cons_succ]
  refine wpAnyH_take (i := 1) (oi := { dst := some 66, op := Go.Op.load 3 (Go.Operand.tmp 65), type := 3, pos := "run.go:47", after := #[{ on := 0, ground := Go.Ground.data }], guard := none }) (v := ?v446) rfl (by kernel_rfl) (by kernel_rfl) (by kernel_rfl) (fun _ _ _ h => h) (Or.inl ⟨by kernel_rfl, ?h446⟩) (by assumption) ?r446
  case h446 => (intro w hSw; (try dsimp only at hSw); go_simp; try with_reducible rfl)
  try simp only [Act.put, List.setIfInBounds_toArray, List.set_cons_zero, List.set_cons_succ]
  refine wpAnyH_take (i := 2) (oi := { dst := some 67, op := Go.Op.move (Go.Operand.tmp 9), type := 70, pos := "run.go:47", after := #[], guard := none }) (v := ?v447) rfl (by kernel_rfl) (by kernel_rfl) (by kernel_rfl) (fun _ _ _ h => h) (Or.inl ⟨by kernel_rfl, ?h447⟩) (by assumption) ?r447
  case h447 => (intro w hSw; (try dsimp only at hSw); go_simp; try with_reducible rfl)
  try simp only [Act.put, List.setIfInBounds_toArray, List.set_cons_zero, List.set_cons_succ]
  refine wpAnyH_take (i := 3) (oi := { dst := some 68, op := Go.Op.nilCheck (Go.Operand.tmp 67), type := 0, pos := "run.go:47", after := #[{ on := 2, ground := Go.Ground.data }], guard := none }) (v := ?v448) rfl (by kernel_rfl) (by kernel_rfl) (by kernel_rfl) (fun _ _ _ h => h) (Or.inl ⟨by kernel_rfl, ?h448⟩) (by assumption) ?r448
  case h448 => (intro w hSw; (try dsimp only at hSw); go_simp; try with_reducible rfl)
  try simp only [Act.put, List.setIfInBounds_toArray, List.set_cons_zero, List.set_cons_succ]
  refine wpAnyH_take (i := 4) (oi := { dst := some 69, op := Go.Op.fieldAddr 72 (Go.Operand.tmp 68) 1, type := 0, pos := "run.go:47", after := #[{ on := 3, ground := Go.Ground.data }], guard := none }) (v := ?v449) rfl (by kernel_rfl) (by kernel_rfl) (by kernel_rfl) (fun _ _ _ h => h) (Or.inl ⟨by kernel_rfl, ?h449⟩) (by assumption) ?r449
  case h449 => (intro w hSw; (try dsimp only at hSw); go_simp; try with_reducible rfl)
  try simp only [Act.put, List.setIfInBounds_toArray, List.set_cons_zero, List.set_cons_succ]
  refine wpAnyH_take (i := 5) (oi := { dst := some 70, op := Go.Op.load 27 (Go.Operand.tmp 69), type := 27, pos := "run.go:47", after := #[{ on := 4, ground := Go.Ground.data }], guard := none }) (v := ?v450) rfl (by kernel_rfl) (by kernel_rfl) (by kernel_rfl) (fun _ _ _ h => h) (Or.inl ⟨by kernel_rfl, ?h450⟩) (by assumption) ?r450
  case h450 => (intro w hSw; (try dsimp only at hSw); go_simp; try with_reducible rfl)
  try simp only [Act.put, List.setIfInBounds_toArray, List.set_cons_zero, List.set_cons_succ]
  refine wpAnyH_take (i := 6) (oi := { dst := some 71, op := Go.Op.build 39 #[(0, Go.Operand.tmp 66), (1, Go.Operand.tmp 70)], type := 39, pos := "run.go:47", after := #[{ on := 1, ground := Go.Ground.data }, { on := 5, ground := Go.Ground.data }], guard := none }) (v := ?v451) rfl (by kernel_rfl) (by kernel_rfl) (by kernel_rfl) (fun _ _ _ h => h) (Or.inl ⟨by kernel_rfl, ?h451⟩) (by assumption) ?r451
  case h451 => (intro w hSw; (try dsimp only at hSw); go_simp; try with_reducible rfl)
  try simp only [Act.put, List.setIfInBounds_toArray, List.set_cons_zero, List.set_cons_succ]
  refine wpAnyH_ready (rs := [7]) (by kernel_rfl) (by simp) ?_
  refine AllReadyH.cons (o := { dst := none, op := Go.Op.store 39 (Go.Operand.tmp 6) (Go.Operand.tmp 71), type := 0, pos := "run.go:47", after := #[{ on := 6, ground := Go.Ground.data }, { on := 0, ground := Go.Ground.phase }, { on := 1, ground := Go.Ground.phase }, { on := 2, ground := Go.Ground.phase }, { on := 3, ground := Go.Ground.phase }, { on := 4, ground := Go.Ground.phase }, { on := 5, ground := Go.Ground.phase }, { on := 6, ground := Go.Ground.phase }], guard := none }) rfl (fun K hK => ?_) AllReadyH.nil
  go_simp
  go_simp
  refine hK.out _ _ (⟨1, .inr rfl⟩) (fun hHeld => ?_)
  clear hK K
  try simp only [Act.put, List.setIfInBounds_toArray, List.set_cons_zero, List.set_cons_succ]
  refine wpAnyH_take (i := 8) (oi := { dst := some 7, op := Go.Op.assign (Go.Operand.const (Go.Value.int Go.IntKind.i64 0)), type := 34, pos := "run.go:47", after := #[{ on := 7, ground := Go.Ground.chain }, { on := 0, ground := Go.Ground.phase }, { on := 1, ground := Go.Ground.phase }, { on := 2, ground := Go.Ground.phase }, { on := 3, ground := Go.Ground.phase }, { on := 4, ground := Go.Ground.phase }, { on := 5, ground := Go.Ground.phase }, { on := 6, ground := Go.Ground.phase }, { on := 7, ground := Go.Ground.phase }], guard := none }) (v := ?v452) rfl (by kernel_rfl) (by kernel_rfl) (by kernel_rfl) (fun _ _ _ h => h) (Or.inl ⟨by kernel_rfl, ?h452⟩) (by assumption) ?r452
  case h452 => (intro w hSw; (try dsimp only at hSw); go_simp; try with_reducible rfl)
  try simp only [Act.put, List.setIfInBounds_toArray, List.set_cons_zero, List.set_cons_succ]
  refine wpAnyH_done (by kernel_rfl) ?_ _
  go_wp2
  exact state_ret2 (state_set Z3.out _ _).drew ⟨a', n, c', rfl, sl_fin HM6.out _ (fun b hb => by have := hfresh.out b hb; have := hz32.out; have := hz23.out; omega) hn _ _, (belT BL.out (by omega) _ _).drew, fun p hp => by have := hfresh.out p.block (by rw [hp]; rfl); have := hz32.out; have := hz23.out; omega⟩ _ _ 6 7 rfl rfl rfl rfl
set_option maxRecDepth 100000 in
set_option maxHeartbeats 16000000 in
theorem step_4f (pnm : ByteArray) (pa1 : Option Addr) (pn1 pc1 : Nat) (pa2 : Option Addr) (pn2 pc2 : Nat) (pa3 : Option Addr) (pn3 pc3 : Nat) (D : PD) (pt : Int) (a : Option Addr) (n c : Nat) (l : List Int) (E : Nat) (v : Int) (he : E < pn3) (ds x y cc d : Int) (hE : D.edges.getD E edge0 = (⟨pt, ds, 4, x, y, cc, d⟩ : EdgeD)) (hn : n ≤ 1000) (l' : List Int)
    (hq : ∀ B g a n cp W, MvH B g 4 x y cc d v a n cp l W → n ≤ 1000 → n = l.length → Calls Tryz.prog 59 #[.pointer (some ⟨g, 0, none⟩)] W (MvE B g 4 x y cc d v a n cp false l' W)) (w : World) (h : PrA w ⟨pnm, pa1, pn1, pc1, pa2, pn2, pc2, pa3, pn3, pc3⟩ D) (hs : SL w a n c l) :
    Calls Tryz.prog 24 #[.agg #[.string pnm, .slice pa1 pn1 pc1, .slice pa2 pn2 pc2, .slice pa3 pn3 pc3], .agg #[.int .i64 pt, .slice a n c], .agg #[.int .i64 (E : Int), .int .i64 v]] w (StE 0 [] (refN 4) w) := by
  obtain ⟨b, off, ha3, -⟩ := edges_at h.edges (i := E) he
  obtain ⟨W1, hW1⟩ : ∃ W1, W1 = (((w.alloc (.cells #[.string pnm, .slice pa1 pn1 pc1, .slice pa2 pn2 pc2, .slice pa3 pn3 pc3] 26)).alloc (.cells #[.int .i64 pt, .slice a n c] 39)).alloc (.cells #[.int .i64 (E : Int), .int .i64 v] 44)).alloc (.cells #[.int .i64 0, .slice none 0 0] 39) := ⟨_, rfl⟩
  have BL : Hid (Below w.heap.size w W1) := Lib.hid (by rw [hW1]; exact ((((Below.refl _ _).alloc (Nat.le_refl _) _).alloc (by simp) _).alloc (by simp; omega) _).alloc (by simp; omega) _)
  have Z0 : Hid (Holds W1 w.heap.size 26 #[.string pnm, .slice pa1 pn1 pc1, .slice pa2 pn2 pc2, .slice pa3 pn3 pc3]) := Lib.hid (by rw [hW1]; exact (((Holds.new w _ _).alloc _).alloc _).alloc _)
  have Z1 : Hid (Holds W1 (w.heap.size + 1) 39 #[.int .i64 pt, .slice a n c]) := Lib.hid (by rw [hW1]; have q := ((Holds.new (w.alloc (.cells #[.string pnm, .slice pa1 pn1 pc1, .slice pa2 pn2 pc2, .slice pa3 pn3 pc3] 26)) 39 #[.int .i64 pt, .slice a n c]).alloc (.cells #[.int .i64 (E : Int), .int .i64 v] 44)).alloc (.cells #[.int .i64 0, .slice none 0 0] 39); simpa using q)
  have Z2 : Hid (Holds W1 (w.heap.size + 2) 44 #[.int .i64 (E : Int), .int .i64 v]) := Lib.hid (by rw [hW1]; have q := (Holds.new ((w.alloc (.cells #[.string pnm, .slice pa1 pn1 pc1, .slice pa2 pn2 pc2, .slice pa3 pn3 pc3] 26)).alloc (.cells #[.int .i64 pt, .slice a n c] 39)) 44 #[.int .i64 (E : Int), .int .i64 v]).alloc (.cells #[.int .i64 0, .slice none 0 0] 39); simpa using q)
  have Z3 : Hid (Holds W1 (w.heap.size + 3) 39 #[.int .i64 0, .slice none 0 0]) := Lib.hid (by rw [hW1]; have q := Holds.new (((w.alloc (.cells #[.string pnm, .slice pa1 pn1 pc1, .slice pa2 pn2 pc2, .slice pa3 pn3 pc3] 26)).alloc (.cells #[.int .i64 pt, .slice a n c] 39)).alloc (.cells #[.int .i64 (E : Int), .int .i64 v] 44)) 39 #[.int .i64 0, .slice none 0 0]; simpa using q)
  have hW1' := Lib.hid hW1
  clear hW1
  subst ha3
  obtain ⟨b', off', hab, hbl, y0, y1, y2, y3, y4, y5, y6⟩ := edges_at (h.edges.below BL.out) he
  injection hab with hab
  injection hab with hab1 hab2
  subst hab1 hab2
  rw [hE] at y0 y1 y2 y3 y4 y5 y6
  dsimp only at y0 y1 y2 y3 y4 y5 y6
  have hb2 : b < W1.heap.size := hbl
  clear hbl
  have d1 : ¬ (E : Int) < 0 := by omega
  have d2 : ¬ (pn3 : Int) ≤ (E : Int) := by omega
  have d3 : (E : Int) < (pn3 : Int) := by omega
  have d4 : ¬ pn3 ≤ E := by omega
  have f0 : ∀ W, Below W1.heap.size W1 W → W.cell? ⟨w.heap.size + 2, 0, none⟩ = some (.int .i64 (E : Int)) := fun W hW => (Z2.out.below hW Z2.out.lt).cell 0
  have f1 : ∀ W, Below W1.heap.size W1 W → W.cell? ⟨w.heap.size, 3, none⟩ = some (.slice (some ⟨b, off, none⟩) pn3 pc3) := fun W hW => (Z0.out.below hW Z0.out.lt).cell 3
  have f2 : ∀ W, Below W1.heap.size W1 W → W.cell? ⟨w.heap.size + 1, 0, none⟩ = some (.int .i64 pt) := fun W hW => (Z1.out.below hW Z1.out.lt).cell 0
  have X0 : ∀ W, Below W1.heap.size W1 W → W.cell? ⟨b, off + E * 7, none⟩ = some (.int .i64 pt) := fun W hW => (hW.cell (p := ⟨b, off + E * 7, none⟩) hb2).trans y0
  have d5 : (pt != pt) = false := by simp
  have hnl := Lib.hid hs.len
  have S := Lib.hid (hs.below BL.out)
  have Y0 : Hid (W1.cell? ⟨b, off + E * 7, none⟩ = some (.int .i64 pt)) := Lib.hid y0
  have Y1 : Hid (W1.cell? ⟨b, off + E * 7 + 1, none⟩ = some (.int .i64 ds)) := Lib.hid y1
  have Y2 : Hid (W1.cell? ⟨b, off + E * 7 + 2, none⟩ = some (.int .i64 4)) := Lib.hid y2
  have Y3 : Hid (W1.cell? ⟨b, off + E * 7 + 3, none⟩ = some (.int .i64 x)) := Lib.hid y3
  have Y4 : Hid (W1.cell? ⟨b, off + E * 7 + 4, none⟩ = some (.int .i64 y)) := Lib.hid y4
  have Y5 : Hid (W1.cell? ⟨b, off + E * 7 + 5, none⟩ = some (.int .i64 cc)) := Lib.hid y5
  have Y6 : Hid (W1.cell? ⟨b, off + E * 7 + 6, none⟩ = some (.int .i64 d)) := Lib.hid y6
  have hq' := Lib.hid hq
  have hix : Hid (∀ W, (Instr.index 74 (.agg movesA) (.int .i64 4)).run Tryz.prog W = .ok (.func (.func 59) #[] #[]) W) := Lib.hid (fun W => by kernel_rfl)
  clear h hs hE he hq y0 y1 y2 y3 y4 y5 y6
  go_enter Tryz.func24, Tryz.ntmps24
  go_wp2
  rw [← hW1'.out]
  clear hW1'
  refine wp_drawn_on (fun W => Below W1.heap.size W1 W) (by kernel_rfl) ((Below.refl _ _).drew) (fun hHeld => ?_)
  refine wpAnyH_take (i := 0) (oi := { dst := some 10, op := Go.Op.fieldAddr 44 (Go.Operand.tmp 5) 0, type := 0, pos := "run.go:39", after := #[], guard := none }) (v := ?v256) rfl (by kernel_rfl) (by kernel_rfl) (by kernel_rfl) (fun _ _ _ h => h) (Or.inl ⟨by kernel_rfl, ?h256⟩) (by assumption) ?r256
  case h256 => (intro w hSw; (try dsimp only at hSw); go_simp; try with_reducible rfl)
  try simp only [Act.put, List.setIfInBounds_toArray, List.set_cons_zero, List.set_cons_succ]
  refine wpAnyH_take (i := 1) (oi := { dst := some 11, op := Go.Op.load 3 (Go.Operand.tmp 10), type := 3, pos := "run.go:39", after := #[{ on := 0, ground := Go.Ground.data }], guard := none }) (v := ?v257) rfl (by kernel_rfl) (by kernel_rfl) (by kernel_rfl) (fun _ _ _ h => h) (Or.inl ⟨by kernel_rfl, ?h257⟩) (by assumption) ?r257
  case h257 => (intro w hSw; (try dsimp only at hSw); go_simp; try with_reducible rfl)
  try simp only [Act.put, List.setIfInBounds_toArray, List.set_cons_zero, List.set_cons_succ]
  refine wpAnyH_take (i := 2) (oi := { dst := some 12, op := Go.Op.binOp Go.BinOp.lss 3 (Go.Operand.tmp 11) (Go.Operand.const (Go.Value.int Go.IntKind.i64 0)) 3, type := 4, pos := "run.go:39", after := #[{ on := 1, ground := Go.Ground.data }], guard := none }) (v := ?v258) rfl (by kernel_rfl) (by kernel_rfl) (by kernel_rfl) (fun _ _ _ h => h) (Or.inl ⟨by kernel_rfl, ?h258⟩) (by assumption) ?r258
  case h258 => (intro w hSw; (try dsimp only at hSw); go_simp; try with_reducible rfl)
  try simp only [Act.put, List.setIfInBounds_toArray, List.set_cons_zero, List.set_cons_succ]
  refine wpAnyH_take (i := 3) (oi := { dst := some 13, op := Go.Op.move (Go.Operand.tmp 12), type := 4, pos := "run.go:39", after := #[{ on := 2, ground := Go.Ground.data }], guard := none }) (v := ?v259) rfl (by kernel_rfl) (by kernel_rfl) (by kernel_rfl) (fun _ _ _ h => h) (Or.inl ⟨by kernel_rfl, ?h259⟩) (by assumption) ?r259
  case h259 => (intro w hSw; (try dsimp only at hSw); go_simp; try with_reducible rfl)
  try simp only [Act.put, List.setIfInBounds_toArray, List.set_cons_zero, List.set_cons_succ]
  refine wpAnyH_take (i := 4) (oi := { dst := some 14, op := Go.Op.fieldAddr 44 (Go.Operand.tmp 5) 0, type := 0, pos := "run.go:39", after := #[{ on := 3, ground := Go.Ground.guard }], guard := some (3, false) }) (v := ?v260) rfl (by kernel_rfl) (by kernel_rfl) (by kernel_rfl) (fun _ _ _ h => h) (Or.inl ⟨by kernel_rfl, ?h260⟩) (by assumption) ?r260
  case h260 => (intro w hSw; (try dsimp only at hSw); go_simp; try with_reducible rfl)
  try simp only [Act.put, List.setIfInBounds_toArray, List.set_cons_zero, List.set_cons_succ]
  refine wpAnyH_take (i := 5) (oi := { dst := some 15, op := Go.Op.load 3 (Go.Operand.tmp 14), type := 3, pos := "run.go:39", after := #[{ on := 4, ground := Go.Ground.data }, { on := 3, ground := Go.Ground.guard }], guard := some (3, false) }) (v := ?v261) rfl (by kernel_rfl) (by kernel_rfl) (by kernel_rfl) (fun _ _ _ h => h) (Or.inl ⟨by kernel_rfl, ?h261⟩) (by assumption) ?r261
  case h261 => (intro w hSw; (try dsimp only at hSw); go_simp; try with_reducible rfl)
  try simp only [Act.put, List.setIfInBounds_toArray, List.set_cons_zero, List.set_cons_succ]
  refine wpAnyH_take (i := 6) (oi := { dst := some 16, op := Go.Op.fieldAddr 26 (Go.Operand.tmp 3) 3, type := 0, pos := "run.go:39", after := #[{ on := 3, ground := Go.Ground.guard }], guard := some (3, false) }) (v := ?v262) rfl (by kernel_rfl) (by kernel_rfl) (by kernel_rfl) (fun _ _ _ h => h) (Or.inl ⟨by kernel_rfl, ?h262⟩) (by assumption) ?r262
  case h262 => (intro w hSw; (try dsimp only at hSw); go_simp; try with_reducible rfl)
  try simp only [Act.put, List.setIfInBounds_toArray, List.set_cons_zero, List.set_cons_succ]
  refine wpAnyH_take (i := 7) (oi := { dst := some 17, op := Go.Op.load 24 (Go.Operand.tmp 16), type := 24, pos := "run.go:39", after := #[{ on := 6, ground := Go.Ground.data }, { on := 3, ground := Go.Ground.guard }], guard := some (3, false) }) (v := ?v263) rfl (by kernel_rfl) (by kernel_rfl) (by kernel_rfl) (fun _ _ _ h => h) (Or.inl ⟨by kernel_rfl, ?h263⟩) (by assumption) ?r263
  case h263 => (intro w hSw; (try dsimp only at hSw); go_simp; try with_reducible rfl)
  try simp only [Act.put, List.setIfInBounds_toArray, List.set_cons_zero, List.set_cons_succ]
  refine wpAnyH_take (i := 8) (oi := { dst := some 18, op := Go.Op.call { callee := Go.Callee.builtin Go.Builtin.len, args := #[Go.Operand.tmp 17], argTypes := #[24] }, type := 3, pos := "run.go:39", after := #[{ on := 7, ground := Go.Ground.data }, { on := 3, ground := Go.Ground.guard }], guard := some (3, false) }) (v := ?v264) rfl (by kernel_rfl) (by kernel_rfl) (by kernel_rfl) (fun _ _ _ h => h) (Or.inl ⟨by kernel_rfl, ?h264⟩) (by assumption) ?r264
  case h264 => (intro w hSw; (try dsimp only at hSw); go_simp; try with_reducible rfl)
  try simp only [Act.put, List.setIfInBounds_toArray, List.set_cons_zero, List.set_cons_succ]
  refine wpAnyH_take (i := 9) (oi := { dst := some 19, op := Go.Op.binOp Go.BinOp.geq 3 (Go.Operand.tmp 15) (Go.Operand.tmp 18) 3, type := 4, pos := "run.go:39", after := #[{ on := 5, ground := Go.Ground.data }, { on := 8, ground := Go.Ground.data }, { on := 3, ground := Go.Ground.guard }], guard := some (3, false) }) (v := ?v265) rfl (by kernel_rfl) (by kernel_rfl) (by kernel_rfl) (fun _ _ _ h => h) (Or.inl ⟨by kernel_rfl, ?h265⟩) (by assumption) ?r265
  case h265 => (intro w hSw; (try dsimp only at hSw); go_simp; try with_reducible rfl)
  try simp only [Act.put, List.setIfInBounds_toArray, List.set_cons_zero, List.set_cons_succ]
  refine wpAnyH_take (i := 10) (oi := { dst := some 20, op := Go.Op.pick (Go.Operand.tmp 13) (Go.Operand.const (Go.Value.bool true)) (Go.Operand.tmp 19), type := 4, pos := "run.go:39", after := #[{ on := 3, ground := Go.Ground.data }, { on := 9, ground := Go.Ground.data }], guard := none }) (v := ?v266) rfl (by kernel_rfl) (by kernel_rfl) (by kernel_rfl) (fun _ _ _ h => h) (Or.inl ⟨by kernel_rfl, ?h266⟩) (by assumption) ?r266
  case h266 => (intro w hSw; (try dsimp only at hSw); go_simp; try with_reducible rfl)
  try simp only [Act.put, List.setIfInBounds_toArray, List.set_cons_zero, List.set_cons_succ]
  refine wpAnyH_take (i := 11) (oi := { dst := some 21, op := Go.Op.move (Go.Operand.tmp 20), type := 4, pos := "run.go:39", after := #[{ on := 10, ground := Go.Ground.data }, { on := 3, ground := Go.Ground.chain }], guard := none }) (v := ?v267) rfl (by kernel_rfl) (by kernel_rfl) (by kernel_rfl) (fun _ _ _ h => h) (Or.inl ⟨by kernel_rfl, ?h267⟩) (by assumption) ?r267
  case h267 => (intro w hSw; (try dsimp only at hSw); go_simp; try with_reducible rfl)
  try simp only [Act.put, List.setIfInBounds_toArray, List.set_cons_zero, List.set_cons_succ]
  refine wpAnyH_take (i := 12) (oi := { dst := some 22, op := Go.Op.fieldAddr 26 (Go.Operand.tmp 3) 3, type := 0, pos := "run.go:39", after := #[{ on := 11, ground := Go.Ground.guard }], guard := some (11, false) }) (v := ?v268) rfl (by kernel_rfl) (by kernel_rfl) (by kernel_rfl) (fun _ _ _ h => h) (Or.inl ⟨by kernel_rfl, ?h268⟩) (by assumption) ?r268
  case h268 => (intro w hSw; (try dsimp only at hSw); go_simp; try with_reducible rfl)
  try simp only [Act.put, List.setIfInBounds_toArray, List.set_cons_zero, List.set_cons_succ]
  refine wpAnyH_take (i := 13) (oi := { dst := some 23, op := Go.Op.load 24 (Go.Operand.tmp 22), type := 24, pos := "run.go:39", after := #[{ on := 12, ground := Go.Ground.data }, { on := 11, ground := Go.Ground.guard }], guard := some (11, false) }) (v := ?v269) rfl (by kernel_rfl) (by kernel_rfl) (by kernel_rfl) (fun _ _ _ h => h) (Or.inl ⟨by kernel_rfl, ?h269⟩) (by assumption) ?r269
  case h269 => (intro w hSw; (try dsimp only at hSw); go_simp; try with_reducible rfl)
  try simp only [Act.put, List.setIfInBounds_toArray, List.set_cons_zero, List.set_cons_succ]
  refine wpAnyH_take (i := 14) (oi := { dst := some 24, op := Go.Op.fieldAddr 44 (Go.Operand.tmp 5) 0, type := 0, pos := "run.go:39", after := #[{ on := 11, ground := Go.Ground.guard }], guard := some (11, false) }) (v := ?v270) rfl (by kernel_rfl) (by kernel_rfl) (by kernel_rfl) (fun _ _ _ h => h) (Or.inl ⟨by kernel_rfl, ?h270⟩) (by assumption) ?r270
  case h270 => (intro w hSw; (try dsimp only at hSw); go_simp; try with_reducible rfl)
  try simp only [Act.put, List.setIfInBounds_toArray, List.set_cons_zero, List.set_cons_succ]
  refine wpAnyH_take (i := 15) (oi := { dst := some 25, op := Go.Op.load 3 (Go.Operand.tmp 24), type := 3, pos := "run.go:39", after := #[{ on := 14, ground := Go.Ground.data }, { on := 11, ground := Go.Ground.guard }], guard := some (11, false) }) (v := ?v271) rfl (by kernel_rfl) (by kernel_rfl) (by kernel_rfl) (fun _ _ _ h => h) (Or.inl ⟨by kernel_rfl, ?h271⟩) (by assumption) ?r271
  case h271 => (intro w hSw; (try dsimp only at hSw); go_simp; try with_reducible rfl)
  try simp only [Act.put, List.setIfInBounds_toArray, List.set_cons_zero, List.set_cons_succ]
  refine wpAnyH_take (i := 16) (oi := { dst := some 26, op := Go.Op.indexAddr 24 (Go.Operand.tmp 23) (Go.Operand.tmp 25), type := 0, pos := "run.go:39", after := #[{ on := 13, ground := Go.Ground.data }, { on := 15, ground := Go.Ground.data }, { on := 11, ground := Go.Ground.guard }], guard := some (11, false) }) (v := ?v272) rfl (by kernel_rfl) (by kernel_rfl) (by kernel_rfl) (fun _ _ _ h => h) (Or.inl ⟨by kernel_rfl, ?h272⟩) (by assumption) ?r272
  case h272 => (intro w hSw; (try dsimp only at hSw); go_simp; try with_reducible rfl)
  try simp only [Act.put, List.setIfInBounds_toArray, List.set_cons_zero, List.set_cons_succ]
  refine wpAnyH_take (i := 17) (oi := { dst := some 27, op := Go.Op.fieldAddr 53 (Go.Operand.tmp 26) 0, type := 0, pos := "run.go:39", after := #[{ on := 16, ground := Go.Ground.data }, { on := 11, ground := Go.Ground.guard }], guard := some (11, false) }) (v := ?v273) rfl (by kernel_rfl) (by kernel_rfl) (by kernel_rfl) (fun _ _ _ h => h) (Or.inl ⟨by kernel_rfl, ?h273⟩) (by assumption) ?r273
  case h273 => (intro w hSw; (try dsimp only at hSw); go_simp; try with_reducible rfl)
  try simp only [Act.put, List.setIfInBounds_toArray, List.set_cons_zero, List.set_cons_succ]
  refine wpAnyH_take (i := 18) (oi := { dst := some 28, op := Go.Op.load 3 (Go.Operand.tmp 27), type := 3, pos := "run.go:39", after := #[{ on := 17, ground := Go.Ground.data }, { on := 11, ground := Go.Ground.guard }], guard := some (11, false) }) (v := ?v274) rfl (by kernel_rfl) (by kernel_rfl) (by kernel_rfl) (fun _ _ _ h => h) (Or.inl ⟨by kernel_rfl, ?h274⟩) (by assumption) ?r274
  case h274 => (intro w hSw; (try dsimp only at hSw); go_simp; try with_reducible rfl)
  try simp only [Act.put, List.setIfInBounds_toArray, List.set_cons_zero, List.set_cons_succ]
  refine wpAnyH_take (i := 19) (oi := { dst := some 29, op := Go.Op.fieldAddr 39 (Go.Operand.tmp 4) 0, type := 0, pos := "run.go:39", after := #[{ on := 11, ground := Go.Ground.guard }], guard := some (11, false) }) (v := ?v275) rfl (by kernel_rfl) (by kernel_rfl) (by kernel_rfl) (fun _ _ _ h => h) (Or.inl ⟨by kernel_rfl, ?h275⟩) (by assumption) ?r275
  case h275 => (intro w hSw; (try dsimp only at hSw); go_simp; try with_reducible rfl)
  try simp only [Act.put, List.setIfInBounds_toArray, List.set_cons_zero, List.set_cons_succ]
  refine wpAnyH_take (i := 20) (oi := { dst := some 30, op := Go.Op.load 3 (Go.Operand.tmp 29), type := 3, pos := "run.go:39", after := #[{ on := 19, ground := Go.Ground.data }, { on := 11, ground := Go.Ground.guard }], guard := some (11, false) }) (v := ?v276) rfl (by kernel_rfl) (by kernel_rfl) (by kernel_rfl) (fun _ _ _ h => h) (Or.inl ⟨by kernel_rfl, ?h276⟩) (by assumption) ?r276
  case h276 => (intro w hSw; (try dsimp only at hSw); go_simp; try with_reducible rfl)
  try simp only [Act.put, List.setIfInBounds_toArray, List.set_cons_zero, List.set_cons_succ]
  refine wpAnyH_take (i := 21) (oi := { dst := some 31, op := Go.Op.binOp Go.BinOp.neq 3 (Go.Operand.tmp 28) (Go.Operand.tmp 30) 3, type := 4, pos := "run.go:39", after := #[{ on := 18, ground := Go.Ground.data }, { on := 20, ground := Go.Ground.data }, { on := 11, ground := Go.Ground.guard }], guard := some (11, false) }) (v := ?v277) rfl (by kernel_rfl) (by kernel_rfl) (by kernel_rfl) (fun _ _ _ h => h) (Or.inl ⟨by kernel_rfl, ?h277⟩) (by assumption) ?r277
  case h277 => (intro w hSw; (try dsimp only at hSw); go_simp; try with_reducible rfl)
  try simp only [Act.put, List.setIfInBounds_toArray, List.set_cons_zero, List.set_cons_succ]
  refine wpAnyH_take (i := 22) (oi := { dst := some 32, op := Go.Op.pick (Go.Operand.tmp 21) (Go.Operand.const (Go.Value.bool true)) (Go.Operand.tmp 31), type := 4, pos := "run.go:39", after := #[{ on := 11, ground := Go.Ground.data }, { on := 21, ground := Go.Ground.data }], guard := none }) (v := ?v278) rfl (by kernel_rfl) (by kernel_rfl) (by kernel_rfl) (fun _ _ _ h => h) (Or.inl ⟨by kernel_rfl, ?h278⟩) (by assumption) ?r278
  case h278 => (intro w hSw; (try dsimp only at hSw); go_simp; try with_reducible rfl)
  try simp only [Act.put, List.setIfInBounds_toArray, List.set_cons_zero, List.set_cons_succ]
  refine wpAnyH_done (by kernel_rfl) ?_ _
  obtain ⟨X2, hX2⟩ : ∃ X2, X2 = W1.drew := ⟨_, rfl⟩
  rw [← hX2] at hHeld ⊢
  replace Z0 := Lib.hid (Z0.out.below hHeld Z0.out.lt)
  replace Z1 := Lib.hid (Z1.out.below hHeld Z1.out.lt)
  replace Z2 := Lib.hid (Z2.out.below hHeld Z2.out.lt)
  replace Z3 := Lib.hid (Z3.out.below hHeld Z3.out.lt)
  replace S := Lib.hid (S.out.below hHeld)
  replace BL := Lib.hid (BL.out.trans (hHeld.mono BL.out.size))
  have y0 := (hHeld.cell (p := ⟨b, off + E * 7, none⟩) hb2).trans Y0.out
  have y1 := (hHeld.cell (p := ⟨b, off + E * 7 + 1, none⟩) hb2).trans Y1.out
  have y2 := (hHeld.cell (p := ⟨b, off + E * 7 + 2, none⟩) hb2).trans Y2.out
  have y3 := (hHeld.cell (p := ⟨b, off + E * 7 + 3, none⟩) hb2).trans Y3.out
  have y4 := (hHeld.cell (p := ⟨b, off + E * 7 + 4, none⟩) hb2).trans Y4.out
  have y5 := (hHeld.cell (p := ⟨b, off + E * 7 + 5, none⟩) hb2).trans Y5.out
  have y6 := (hHeld.cell (p := ⟨b, off + E * 7 + 6, none⟩) hb2).trans Y6.out
  have hb3 : b < X2.heap.size := Nat.lt_of_lt_of_le hb2 hHeld.size
  clear hX2 hHeld f0 f1 f2 X0 hb2
  have hZ32 := Z3.out.lt
  have k0 := Z0.out.cell 3
  have k1 := Z2.out.cell 0
  simp at k0 k1
  go_upto_region 4 with (fail)
  obtain ⟨X3, hX3⟩ : ∃ X3, X3 = X2.alloc (.cells #[.int .i64 pt, .int .i64 ds, .int .i64 4, .int .i64 x, .int .i64 y, .int .i64 cc, .int .i64 d] 53) := ⟨_, rfl⟩
  rw [← hX3]
  have B3 : Below X2.heap.size X2 X3 := by rw [hX3]; exact box_below _ _ _
  have ZE : Hid (Holds X3 X2.heap.size 53 #[.int .i64 pt, .int .i64 ds, .int .i64 4, .int .i64 x, .int .i64 y, .int .i64 cc, .int .i64 d]) := Lib.hid (by rw [hX3]; exact Holds.new _ _ _)
  replace Z1 := Lib.hid (Z1.out.below B3 Z1.out.lt)
  replace Z2 := Lib.hid (Z2.out.below B3 Z2.out.lt)
  replace Z3 := Lib.hid (Z3.out.below B3 Z3.out.lt)
  replace S := Lib.hid (S.out.below B3)
  have hz32 : Hid (w.heap.size + 3 < X2.heap.size) := Lib.hid hZ32
  have hz23 : Hid (X2.heap.size < X3.heap.size) := Lib.hid ZE.out.lt
  replace BL := Lib.hid (BL.out.trans (B3.mono BL.out.size))
  clear hZ32 hX3 B3 k0 k1 Z0 y0 y1 y2 y3 y4 y5 y6 Y0 Y1 Y2 Y3 Y4 Y5 Y6 hb3
  have e2 : ∀ W, Below X3.heap.size X3 W → W.cell? ⟨X2.heap.size, 2, none⟩ = some (.int .i64 4) := fun W hW => (ZE.out.below hW ZE.out.lt).cell 2
  have e3 : ∀ W, Below X3.heap.size X3 W → W.cell? ⟨X2.heap.size, 3, none⟩ = some (.int .i64 x) := fun W hW => (ZE.out.below hW ZE.out.lt).cell 3
  have e4 : ∀ W, Below X3.heap.size X3 W → W.cell? ⟨X2.heap.size, 4, none⟩ = some (.int .i64 y) := fun W hW => (ZE.out.below hW ZE.out.lt).cell 4
  have e5 : ∀ W, Below X3.heap.size X3 W → W.cell? ⟨X2.heap.size, 5, none⟩ = some (.int .i64 cc) := fun W hW => (ZE.out.below hW ZE.out.lt).cell 5
  have e6 : ∀ W, Below X3.heap.size X3 W → W.cell? ⟨X2.heap.size, 6, none⟩ = some (.int .i64 d) := fun W hW => (ZE.out.below hW ZE.out.lt).cell 6
  have f1 : ∀ W, Below X3.heap.size X3 W → W.cell? ⟨w.heap.size + 1, 1, none⟩ = some (.slice a n c) := fun W hW => (Z1.out.below hW Z1.out.lt).cell 1
  have f2 : ∀ W, Below X3.heap.size X3 W → W.cell? ⟨w.heap.size + 2, 1, none⟩ = some (.int .i64 v) := fun W hW => (Z2.out.below hW Z2.out.lt).cell 1
  refine wp_drawn_on (fun W => Below X3.heap.size X3 W) (by kernel_rfl) ((Below.refl _ _).drew) (fun hHeld => ?_)
  refine wpAnyH_take (i := 0) (oi := { dst := some 40, op := Go.Op.fieldAddr 53 (Go.Operand.tmp 8) 2, type := 0, pos := "run.go:43", after := #[], guard := none }) (v := ?v279) rfl (by kernel_rfl) (by kernel_rfl) (by kernel_rfl) (fun _ _ _ h => h) (Or.inl ⟨by kernel_rfl, ?h279⟩) (by assumption) ?r279
  case h279 => (intro w hSw; (try dsimp only at hSw); go_simp; try with_reducible rfl)
  try simp only [Act.put, List.setIfInBounds_toArray, List.set_cons_zero, List.set_cons_succ]
  refine wpAnyH_take (i := 1) (oi := { dst := some 41, op := Go.Op.load 51 (Go.Operand.tmp 40), type := 51, pos := "run.go:43", after := #[{ on := 0, ground := Go.Ground.data }], guard := none }) (v := ?v280) rfl (by kernel_rfl) (by kernel_rfl) (by kernel_rfl) (fun _ _ _ h => h) (Or.inl ⟨by kernel_rfl, ?h280⟩) (by assumption) ?r280
  case h280 => (intro w hSw; (try dsimp only at hSw); go_simp; try with_reducible rfl)
  try simp only [Act.put, List.setIfInBounds_toArray, List.set_cons_zero, List.set_cons_succ]
  refine wpAnyH_take (i := 2) (oi := { dst := some 42, op := Go.Op.fieldAddr 39 (Go.Operand.tmp 4) 1, type := 0, pos := "run.go:43", after := #[], guard := none }) (v := ?v281) rfl (by kernel_rfl) (by kernel_rfl) (by kernel_rfl) (fun _ _ _ h => h) (Or.inl ⟨by kernel_rfl, ?h281⟩) (by assumption) ?r281
  case h281 => (intro w hSw; (try dsimp only at hSw); go_simp; try with_reducible rfl)
  try simp only [Act.put, List.setIfInBounds_toArray, List.set_cons_zero, List.set_cons_succ]
  refine wpAnyH_take (i := 3) (oi := { dst := some 43, op := Go.Op.load 27 (Go.Operand.tmp 42), type := 27, pos := "run.go:43", after := #[{ on := 2, ground := Go.Ground.data }], guard := none }) (v := ?v282) rfl (by kernel_rfl) (by kernel_rfl) (by kernel_rfl) (fun _ _ _ h => h) (Or.inl ⟨by kernel_rfl, ?h282⟩) (by assumption) ?r282
  case h282 => (intro w hSw; (try dsimp only at hSw); go_simp; try with_reducible rfl)
  try simp only [Act.put, List.setIfInBounds_toArray, List.set_cons_zero, List.set_cons_succ]
  refine wpAnyH_take (i := 5) (oi := { dst := some 45, op := Go.Op.fieldAddr 44 (Go.Operand.tmp 5) 1, type := 0, pos := "run.go:43", after := #[], guard := none }) (v := ?v283) rfl (by kernel_rfl) (by kernel_rfl) (by kernel_rfl) (fun _ _ _ h => h) (Or.inl ⟨by kernel_rfl, ?h283⟩) (by assumption) ?r283
  case h283 => (intro w hSw; (try dsimp only at hSw); go_simp; try with_reducible rfl)
  try simp only [Act.put, List.setIfInBounds_toArray, List.set_cons_zero, List.set_cons_succ]
  refine wpAnyH_take (i := 6) (oi := { dst := some 46, op := Go.Op.load 3 (Go.Operand.tmp 45), type := 3, pos := "run.go:43", after := #[{ on := 5, ground := Go.Ground.data }], guard := none }) (v := ?v284) rfl (by kernel_rfl) (by kernel_rfl) (by kernel_rfl) (fun _ _ _ h => h) (Or.inl ⟨by kernel_rfl, ?h284⟩) (by assumption) ?r284
  case h284 => (intro w hSw; (try dsimp only at hSw); go_simp; try with_reducible rfl)
  try simp only [Act.put, List.setIfInBounds_toArray, List.set_cons_zero, List.set_cons_succ]
  refine wpAnyH_ready (rs := [4]) (by kernel_rfl) (by simp) ?_
  refine AllReadyH.cons (o := { dst := some 44, op := Go.Op.call { callee := Go.Callee.value (Go.Operand.func 23), args := #[Go.Operand.tmp 43], argTypes := #[27] }, type := 27, pos := "run.go:43", after := #[{ on := 3, ground := Go.Ground.data }], guard := none }) rfl (fun K hK => ?_) AllReadyH.nil
  go_simp
  with_reducible refine (clone_any a n c l hn _ (S.out.below hHeld)).mono ?_
  rintro e t4 ⟨a', c', rfl, hrow4, b4⟩
  have hrow := Lib.hid (own_from (B := w.heap.size) hrow4 (fun b hb => by have q1 := (hrow4.lt b hb).1; have q2 := hHeld.size; have q3 := BL.out.size; omega))
  have hfresh : Hid (∀ b, (Value.slice a' n c').ownBlock = some b → X3.heap.size ≤ b) := Lib.hid (fun b hb => (hrow4.lt b hb).1)
  clear hrow4
  go_simp
  refine hK.out _ _ (hHeld.trans (b4.mono hHeld.size)) (fun hHeld => ?_)
  clear hK K
  try simp only [Act.put, List.setIfInBounds_toArray, List.set_cons_zero, List.set_cons_succ]
  refine wpAnyH_take (i := 7) (oi := { dst := some 47, op := Go.Op.build 72 #[(0, Go.Operand.tmp 41), (1, Go.Operand.tmp 44), (2, Go.Operand.tmp 46)], type := 72, pos := "run.go:43", after := #[{ on := 1, ground := Go.Ground.data }, { on := 4, ground := Go.Ground.data }, { on := 6, ground := Go.Ground.data }], guard := none }) (v := ?v285) rfl (by kernel_rfl) (by kernel_rfl) (by kernel_rfl) (fun _ _ _ h => h) (Or.inl ⟨by kernel_rfl, ?h285⟩) (by assumption) ?r285
  case h285 => (intro w hSw; (try dsimp only at hSw); go_simp; try with_reducible rfl)
  try simp only [Act.put, List.setIfInBounds_toArray, List.set_cons_zero, List.set_cons_succ]
  refine wpAnyH_ready (rs := [8]) (by kernel_rfl) (by simp) ?_
  refine AllReadyH.cons (o := { dst := some 48, op := Go.Op.box 72 (Go.Operand.tmp 47), type := 70, pos := "run.go:43", after := #[{ on := 7, ground := Go.Ground.data }], guard := none }) rfl (fun K hK => ?_) AllReadyH.nil
  go_simp
  go_simp
  refine hK.out _ _ (hHeld.alloc hHeld.size _) (fun hHeld => ?_)
  clear hK K
  try simp only [Act.put, List.setIfInBounds_toArray, List.set_cons_zero, List.set_cons_succ]
  refine wpAnyH_take (i := 9) (oi := { dst := some 9, op := Go.Op.assign (Go.Operand.tmp 48), type := 70, pos := "run.go:43", after := #[{ on := 8, ground := Go.Ground.data }, { on := 4, ground := Go.Ground.chain }, { on := 0, ground := Go.Ground.phase }, { on := 1, ground := Go.Ground.phase }, { on := 2, ground := Go.Ground.phase }, { on := 3, ground := Go.Ground.phase }, { on := 4, ground := Go.Ground.phase }, { on := 5, ground := Go.Ground.phase }, { on := 6, ground := Go.Ground.phase }, { on := 7, ground := Go.Ground.phase }, { on := 8, ground := Go.Ground.phase }], guard := none }) (v := ?v286) rfl (by kernel_rfl) (by kernel_rfl) (by kernel_rfl) (fun _ _ _ h => h) (Or.inl ⟨by kernel_rfl, ?h286⟩) (by assumption) ?r286
  case h286 => (intro w hSw; (try dsimp only at hSw); go_simp; try with_reducible rfl)
  try simp only [Act.put, List.setIfInBounds_toArray, List.set_cons_zero, List.set_cons_succ]
  refine wpAnyH_done (by kernel_rfl) ?_ _
  obtain ⟨gm, hgm⟩ : ∃ gm, gm = t4.heap.size := ⟨_, rfl⟩
  obtain ⟨X5, hX5⟩ : ∃ X5, X5 = t4.alloc (.cells #[.int .i64 4, .int .i64 x, .int .i64 y, .int .i64 cc, .int .i64 d, .slice a' n c', .int .i64 v] 72) := ⟨_, rfl⟩
  rw [← hX5] at hHeld ⊢
  have B5 : Below t4.heap.size t4 X5 := by rw [hX5]; exact box_below _ _ _
  have HM : Hid (MvH w.heap.size gm 4 x y cc d v a' n c' l X5) := Lib.hid ⟨by rw [hX5, hgm]; exact Holds.new _ _ _, own_below hrow.out B5, fun b hb => by have := (hrow.out.lt b hb).2; omega⟩
  have hgm3 : Hid (X3.heap.size ≤ gm) := Lib.hid (by rw [hgm]; exact b4.size)
  rw [← hgm]
  have hXY := Lib.hid hHeld
  clear hX5 B5 hHeld hrow e2 e3 e4 e5 e6 f1 f2 hgm
  have hgb := blkL_not HM.out
  have m0 : ∀ W, BelowE (blkL a' n c') X5.heap.size X5 W → W.cell? ⟨gm, 0, none⟩ = some (.int .i64 4) := fun W hW => (HM.out.blk.belowE hW HM.out.blk.lt hgb).cell 0
  have hix2 := hix.out
  go_wp2
  refine wp_drawn_on (fun W => BelowE (blkL a' n c') X5.heap.size X5 W) (by kernel_rfl) ((BelowE.refl _ _ _).drew) (fun hHeld => ?_)
  refine wpAnyH_take (i := 1) (oi := { dst := some 50, op := Go.Op.move (Go.Operand.tmp 9), type := 70, pos := "run.go:44", after := #[], guard := none }) (v := ?v397) rfl (by kernel_rfl) (by kernel_rfl) (by kernel_rfl) (fun _ _ _ h => h) (Or.inl ⟨by kernel_rfl, ?h397⟩) (by assumption) ?r397
  case h397 => (intro w hSw; (try dsimp only at hSw); go_simp; try with_reducible rfl)
  try simp only [Act.put, List.setIfInBounds_toArray, List.set_cons_zero, List.set_cons_succ]
  refine wpAnyH_take (i := 2) (oi := { dst := some 51, op := Go.Op.nilCheck (Go.Operand.tmp 50), type := 0, pos := "run.go:44", after := #[{ on := 1, ground := Go.Ground.data }], guard := none }) (v := ?v398) rfl (by kernel_rfl) (by kernel_rfl) (by kernel_rfl) (fun _ _ _ h => h) (Or.inl ⟨by kernel_rfl, ?h398⟩) (by assumption) ?r398
  case h398 => (intro w hSw; (try dsimp only at hSw); go_simp; try with_reducible rfl)
  try simp only [Act.put, List.setIfInBounds_toArray, List.set_cons_zero, List.set_cons_succ]
  refine wpAnyH_take (i := 3) (oi := { dst := some 52, op := Go.Op.fieldAddr 72 (Go.Operand.tmp 51) 0, type := 0, pos := "run.go:44", after := #[{ on := 2, ground := Go.Ground.data }], guard := none }) (v := ?v399) rfl (by kernel_rfl) (by kernel_rfl) (by kernel_rfl) (fun _ _ _ h => h) (Or.inl ⟨by kernel_rfl, ?h399⟩) (by assumption) ?r399
  case h399 => (intro w hSw; (try dsimp only at hSw); go_simp; try with_reducible rfl)
  try simp only [Act.put, List.setIfInBounds_toArray, List.set_cons_zero, List.set_cons_succ]
  refine wpAnyH_take (i := 4) (oi := { dst := some 53, op := Go.Op.fieldAddr 51 (Go.Operand.tmp 52) 0, type := 0, pos := "run.go:44", after := #[{ on := 3, ground := Go.Ground.data }], guard := none }) (v := ?v400) rfl (by kernel_rfl) (by kernel_rfl) (by kernel_rfl) (fun _ _ _ h => h) (Or.inl ⟨by kernel_rfl, ?h400⟩) (by assumption) ?r400
  case h400 => (intro w hSw; (try dsimp only at hSw); go_simp; try with_reducible rfl)
  try simp only [Act.put, List.setIfInBounds_toArray, List.set_cons_zero, List.set_cons_succ]
  refine wpAnyH_take (i := 5) (oi := { dst := some 54, op := Go.Op.load 3 (Go.Operand.tmp 53), type := 3, pos := "run.go:44", after := #[{ on := 4, ground := Go.Ground.data }], guard := none }) (v := ?v401) rfl (by kernel_rfl) (by kernel_rfl) (by kernel_rfl) (fun _ _ _ h => h) (Or.inl ⟨by kernel_rfl, ?h401⟩) (by assumption) ?r401
  case h401 => (intro w hSw; (try dsimp only at hSw); go_simp; try with_reducible rfl)
  try simp only [Act.put, List.setIfInBounds_toArray, List.set_cons_zero, List.set_cons_succ]
  refine wpAnyH_take (i := 7) (oi := { dst := some 56, op := Go.Op.move (Go.Operand.tmp 9), type := 70, pos := "run.go:44", after := #[], guard := none }) (v := ?v402) rfl (by kernel_rfl) (by kernel_rfl) (by kernel_rfl) (fun _ _ _ h => h) (Or.inl ⟨by kernel_rfl, ?h402⟩) (by assumption) ?r402
  case h402 => (intro w hSw; (try dsimp only at hSw); go_simp; try with_reducible rfl)
  try simp only [Act.put, List.setIfInBounds_toArray, List.set_cons_zero, List.set_cons_succ]
  refine wpAnyH_ready (rs := [0]) (by kernel_rfl) (by simp) ?_
  refine AllReadyH.cons (o := { dst := some 49, op := Go.Op.call { callee := Go.Callee.value (Go.Operand.func 41), args := #[], argTypes := #[] }, type := 74, pos := "run.go:44", after := #[], guard := none }) rfl (fun K hK => ?_) AllReadyH.nil
  go_simp
  with_reducible refine (moves_any _).mono ?_
  rintro e t0 ⟨rfl, b0⟩
  have HM2 := Lib.hid (HM.out.below (Below.trans ((Below.refl _ _).drew) b0))
  go_simp
  refine hK.out _ _ (hHeld.trans (.of (b0.mono hHeld.size))) (fun hHeld => ?_)
  clear hK K
  try simp only [Act.put, List.setIfInBounds_toArray, List.set_cons_zero, List.set_cons_succ]
  refine wpAnyH_take (i := 6) (oi := { dst := some 55, op := Go.Op.index 74 (Go.Operand.tmp 49) (Go.Operand.tmp 54), type := 73, pos := "run.go:44", after := #[{ on := 0, ground := Go.Ground.data }, { on := 5, ground := Go.Ground.data }], guard := none }) (v := ?v403) rfl (by kernel_rfl) (by kernel_rfl) (by kernel_rfl) (fun _ _ _ h => h) (Or.inl ⟨by kernel_rfl, ?h403⟩) (by assumption) ?r403
  case h403 => (intro w hSw; (try dsimp only at hSw); go_simp; try with_reducible rfl)
  try simp only [Act.put, List.setIfInBounds_toArray, List.set_cons_zero, List.set_cons_succ]
  refine wpAnyH_ready (rs := [8]) (by kernel_rfl) (by simp) ?_
  refine AllReadyH.cons (o := { dst := some 57, op := Go.Op.call { callee := Go.Callee.value (Go.Operand.tmp 55), args := #[Go.Operand.tmp 56], argTypes := #[70] }, type := 4, pos := "run.go:44", after := #[{ on := 6, ground := Go.Ground.data }, { on := 7, ground := Go.Ground.data }, { on := 0, ground := Go.Ground.chain }], guard := none }) rfl (fun K hK => ?_) AllReadyH.nil
  go_simp
  with_reducible refine (hq'.out _ _ _ _ _ _ HM2.out hn hnl.out).mono ?_
  rintro e t8 ⟨rfl, hM8, hBE⟩
  go_simp
  refine hK.out _ _ (hHeld.trans (hBE.mono hHeld.size)) (fun hHeld => ?_)
  clear hK K
  try simp only [Act.put, List.setIfInBounds_toArray, List.set_cons_zero, List.set_cons_succ]
  refine wpAnyH_take (i := 9) (oi := { dst := some 58, op := Go.Op.unOp Go.UnOp.not 4 (Go.Operand.tmp 57), type := 4, pos := "run.go:44", after := #[{ on := 8, ground := Go.Ground.data }], guard := none }) (v := ?v404) rfl (by kernel_rfl) (by kernel_rfl) (by kernel_rfl) (fun _ _ _ h => h) (Or.inl ⟨by kernel_rfl, ?h404⟩) (by assumption) ?r404
  case h404 => (intro w hSw; (try dsimp only at hSw); go_simp; try with_reducible rfl)
  try simp only [Act.put, List.setIfInBounds_toArray, List.set_cons_zero, List.set_cons_succ]
  refine wpAnyH_done (by kernel_rfl) ?_ _
  obtain ⟨X6, hX6⟩ : ∃ X6, X6 = t8 := ⟨_, rfl⟩
  rw [← hX6] at hM8 hHeld ⊢
  have HM6 := Lib.hid hM8
  have h36 := step_far ((BelowE.of hXY.out).trans (hHeld.mono hXY.out.size)) hfresh.out
  replace Z3 := Lib.hid (Z3.out.below h36 Z3.out.lt)
  replace ZE := Lib.hid (ZE.out.below h36 ZE.out.lt)
  replace BL := Lib.hid (BL.out.trans (h36.mono BL.out.size))
  have hz3 := Lib.hid Z3.out.lt
  have hX36 := Lib.hid h36.size
  clear hX6 hHeld h36 m0 hix2 hgb hM8 hBE HM HM2 hXY b0
  have k0 := HM6.out.blk.cell 0
  have k1 := HM6.out.blk.cell 1
  have k2 := HM6.out.blk.cell 2
  have k3 := HM6.out.blk.cell 3
  have k4 := HM6.out.blk.cell 4
  simp at k0 k1 k2 k3 k4
  go_wp2_with fail
  with_reducible refine (refusal_any _ _ _ _ _ X6).mono ?_
  rintro e X7 ⟨rfl, b7⟩
  replace Z3 := Lib.hid (Z3.out.below b7 Z3.out.lt)
  replace BL := Lib.hid (BL.out.trans (b7.mono BL.out.size))
  clear k0 k1 k2 k3 k4 b7
  have k0 := Z3.out.cell 0
  have k1 := Z3.out.cell 1
  have j0 := Z3.out.free 0
  have j1 := Z3.out.free 1
  simp at k0 k1
  go_wp2
  exact state_ret2 (state_set Z3.out _ _) ⟨none, 0, 0, rfl, SL.nil _, belT BL.out (by omega) _ _, fun p hp => by cases hp⟩ _ _ 6 7 rfl rfl rfl rfl
set_option maxRecDepth 100000 in
set_option maxHeartbeats 16000000 in
theorem step_5t (pnm : ByteArray) (pa1 : Option Addr) (pn1 pc1 : Nat) (pa2 : Option Addr) (pn2 pc2 : Nat) (pa3 : Option Addr) (pn3 pc3 : Nat) (D : PD) (pt : Int) (a : Option Addr) (n c : Nat) (l : List Int) (E : Nat) (v : Int) (he : E < pn3) (ds x y cc d : Int) (hE : D.edges.getD E edge0 = (⟨pt, ds, 5, x, y, cc, d⟩ : EdgeD)) (hn : n ≤ 1000) (l' : List Int)
    (hq : ∀ B g a n cp W, MvH B g 5 x y cc d v a n cp l W → n ≤ 1000 → n = l.length → Calls Tryz.prog 59 #[.pointer (some ⟨g, 0, none⟩)] W (MvE B g 5 x y cc d v a n cp true l' W)) (w : World) (h : PrA w ⟨pnm, pa1, pn1, pc1, pa2, pn2, pc2, pa3, pn3, pc3⟩ D) (hs : SL w a n c l) :
    Calls Tryz.prog 24 #[.agg #[.string pnm, .slice pa1 pn1 pc1, .slice pa2 pn2 pc2, .slice pa3 pn3 pc3], .agg #[.int .i64 pt, .slice a n c], .agg #[.int .i64 (E : Int), .int .i64 v]] w (StE ds l' 0 w) := by
  obtain ⟨b, off, ha3, -⟩ := edges_at h.edges (i := E) he
  obtain ⟨W1, hW1⟩ : ∃ W1, W1 = (((w.alloc (.cells #[.string pnm, .slice pa1 pn1 pc1, .slice pa2 pn2 pc2, .slice pa3 pn3 pc3] 26)).alloc (.cells #[.int .i64 pt, .slice a n c] 39)).alloc (.cells #[.int .i64 (E : Int), .int .i64 v] 44)).alloc (.cells #[.int .i64 0, .slice none 0 0] 39) := ⟨_, rfl⟩
  have BL : Hid (Below w.heap.size w W1) := Lib.hid (by rw [hW1]; exact ((((Below.refl _ _).alloc (Nat.le_refl _) _).alloc (by simp) _).alloc (by simp; omega) _).alloc (by simp; omega) _)
  have Z0 : Hid (Holds W1 w.heap.size 26 #[.string pnm, .slice pa1 pn1 pc1, .slice pa2 pn2 pc2, .slice pa3 pn3 pc3]) := Lib.hid (by rw [hW1]; exact (((Holds.new w _ _).alloc _).alloc _).alloc _)
  have Z1 : Hid (Holds W1 (w.heap.size + 1) 39 #[.int .i64 pt, .slice a n c]) := Lib.hid (by rw [hW1]; have q := ((Holds.new (w.alloc (.cells #[.string pnm, .slice pa1 pn1 pc1, .slice pa2 pn2 pc2, .slice pa3 pn3 pc3] 26)) 39 #[.int .i64 pt, .slice a n c]).alloc (.cells #[.int .i64 (E : Int), .int .i64 v] 44)).alloc (.cells #[.int .i64 0, .slice none 0 0] 39); simpa using q)
  have Z2 : Hid (Holds W1 (w.heap.size + 2) 44 #[.int .i64 (E : Int), .int .i64 v]) := Lib.hid (by rw [hW1]; have q := (Holds.new ((w.alloc (.cells #[.string pnm, .slice pa1 pn1 pc1, .slice pa2 pn2 pc2, .slice pa3 pn3 pc3] 26)).alloc (.cells #[.int .i64 pt, .slice a n c] 39)) 44 #[.int .i64 (E : Int), .int .i64 v]).alloc (.cells #[.int .i64 0, .slice none 0 0] 39); simpa using q)
  have Z3 : Hid (Holds W1 (w.heap.size + 3) 39 #[.int .i64 0, .slice none 0 0]) := Lib.hid (by rw [hW1]; have q := Holds.new (((w.alloc (.cells #[.string pnm, .slice pa1 pn1 pc1, .slice pa2 pn2 pc2, .slice pa3 pn3 pc3] 26)).alloc (.cells #[.int .i64 pt, .slice a n c] 39)).alloc (.cells #[.int .i64 (E : Int), .int .i64 v] 44)) 39 #[.int .i64 0, .slice none 0 0]; simpa using q)
  have hW1' := Lib.hid hW1
  clear hW1
  subst ha3
  obtain ⟨b', off', hab, hbl, y0, y1, y2, y3, y4, y5, y6⟩ := edges_at (h.edges.below BL.out) he
  injection hab with hab
  injection hab with hab1 hab2
  subst hab1 hab2
  rw [hE] at y0 y1 y2 y3 y4 y5 y6
  dsimp only at y0 y1 y2 y3 y4 y5 y6
  have hb2 : b < W1.heap.size := hbl
  clear hbl
  have d1 : ¬ (E : Int) < 0 := by omega
  have d2 : ¬ (pn3 : Int) ≤ (E : Int) := by omega
  have d3 : (E : Int) < (pn3 : Int) := by omega
  have d4 : ¬ pn3 ≤ E := by omega
  have f0 : ∀ W, Below W1.heap.size W1 W → W.cell? ⟨w.heap.size + 2, 0, none⟩ = some (.int .i64 (E : Int)) := fun W hW => (Z2.out.below hW Z2.out.lt).cell 0
  have f1 : ∀ W, Below W1.heap.size W1 W → W.cell? ⟨w.heap.size, 3, none⟩ = some (.slice (some ⟨b, off, none⟩) pn3 pc3) := fun W hW => (Z0.out.below hW Z0.out.lt).cell 3
  have f2 : ∀ W, Below W1.heap.size W1 W → W.cell? ⟨w.heap.size + 1, 0, none⟩ = some (.int .i64 pt) := fun W hW => (Z1.out.below hW Z1.out.lt).cell 0
  have X0 : ∀ W, Below W1.heap.size W1 W → W.cell? ⟨b, off + E * 7, none⟩ = some (.int .i64 pt) := fun W hW => (hW.cell (p := ⟨b, off + E * 7, none⟩) hb2).trans y0
  have d5 : (pt != pt) = false := by simp
  have hnl := Lib.hid hs.len
  have S := Lib.hid (hs.below BL.out)
  have Y0 : Hid (W1.cell? ⟨b, off + E * 7, none⟩ = some (.int .i64 pt)) := Lib.hid y0
  have Y1 : Hid (W1.cell? ⟨b, off + E * 7 + 1, none⟩ = some (.int .i64 ds)) := Lib.hid y1
  have Y2 : Hid (W1.cell? ⟨b, off + E * 7 + 2, none⟩ = some (.int .i64 5)) := Lib.hid y2
  have Y3 : Hid (W1.cell? ⟨b, off + E * 7 + 3, none⟩ = some (.int .i64 x)) := Lib.hid y3
  have Y4 : Hid (W1.cell? ⟨b, off + E * 7 + 4, none⟩ = some (.int .i64 y)) := Lib.hid y4
  have Y5 : Hid (W1.cell? ⟨b, off + E * 7 + 5, none⟩ = some (.int .i64 cc)) := Lib.hid y5
  have Y6 : Hid (W1.cell? ⟨b, off + E * 7 + 6, none⟩ = some (.int .i64 d)) := Lib.hid y6
  have hq' := Lib.hid hq
  have hix : Hid (∀ W, (Instr.index 74 (.agg movesA) (.int .i64 5)).run Tryz.prog W = .ok (.func (.func 59) #[] #[]) W) := Lib.hid (fun W => by kernel_rfl)
  clear h hs hE he hq y0 y1 y2 y3 y4 y5 y6
  go_enter Tryz.func24, Tryz.ntmps24
  go_wp2
  rw [← hW1'.out]
  clear hW1'
  refine wp_drawn_on (fun W => Below W1.heap.size W1 W) (by kernel_rfl) ((Below.refl _ _).drew) (fun hHeld => ?_)
  refine wpAnyH_take (i := 0) (oi := { dst := some 10, op := Go.Op.fieldAddr 44 (Go.Operand.tmp 5) 0, type := 0, pos := "run.go:39", after := #[], guard := none }) (v := ?v287) rfl (by kernel_rfl) (by kernel_rfl) (by kernel_rfl) (fun _ _ _ h => h) (Or.inl ⟨by kernel_rfl, ?h287⟩) (by assumption) ?r287
  case h287 => (intro w hSw; (try dsimp only at hSw); go_simp; try with_reducible rfl)
  try simp only [Act.put, List.setIfInBounds_toArray, List.set_cons_zero, List.set_cons_succ]
  refine wpAnyH_take (i := 1) (oi := { dst := some 11, op := Go.Op.load 3 (Go.Operand.tmp 10), type := 3, pos := "run.go:39", after := #[{ on := 0, ground := Go.Ground.data }], guard := none }) (v := ?v288) rfl (by kernel_rfl) (by kernel_rfl) (by kernel_rfl) (fun _ _ _ h => h) (Or.inl ⟨by kernel_rfl, ?h288⟩) (by assumption) ?r288
  case h288 => (intro w hSw; (try dsimp only at hSw); go_simp; try with_reducible rfl)
  try simp only [Act.put, List.setIfInBounds_toArray, List.set_cons_zero, List.set_cons_succ]
  refine wpAnyH_take (i := 2) (oi := { dst := some 12, op := Go.Op.binOp Go.BinOp.lss 3 (Go.Operand.tmp 11) (Go.Operand.const (Go.Value.int Go.IntKind.i64 0)) 3, type := 4, pos := "run.go:39", after := #[{ on := 1, ground := Go.Ground.data }], guard := none }) (v := ?v289) rfl (by kernel_rfl) (by kernel_rfl) (by kernel_rfl) (fun _ _ _ h => h) (Or.inl ⟨by kernel_rfl, ?h289⟩) (by assumption) ?r289
  case h289 => (intro w hSw; (try dsimp only at hSw); go_simp; try with_reducible rfl)
  try simp only [Act.put, List.setIfInBounds_toArray, List.set_cons_zero, List.set_cons_succ]
  refine wpAnyH_take (i := 3) (oi := { dst := some 13, op := Go.Op.move (Go.Operand.tmp 12), type := 4, pos := "run.go:39", after := #[{ on := 2, ground := Go.Ground.data }], guard := none }) (v := ?v290) rfl (by kernel_rfl) (by kernel_rfl) (by kernel_rfl) (fun _ _ _ h => h) (Or.inl ⟨by kernel_rfl, ?h290⟩) (by assumption) ?r290
  case h290 => (intro w hSw; (try dsimp only at hSw); go_simp; try with_reducible rfl)
  try simp only [Act.put, List.setIfInBounds_toArray, List.set_cons_zero, List.set_cons_succ]
  refine wpAnyH_take (i := 4) (oi := { dst := some 14, op := Go.Op.fieldAddr 44 (Go.Operand.tmp 5) 0, type := 0, pos := "run.go:39", after := #[{ on := 3, ground := Go.Ground.guard }], guard := some (3, false) }) (v := ?v291) rfl (by kernel_rfl) (by kernel_rfl) (by kernel_rfl) (fun _ _ _ h => h) (Or.inl ⟨by kernel_rfl, ?h291⟩) (by assumption) ?r291
  case h291 => (intro w hSw; (try dsimp only at hSw); go_simp; try with_reducible rfl)
  try simp only [Act.put, List.setIfInBounds_toArray, List.set_cons_zero, List.set_cons_succ]
  refine wpAnyH_take (i := 5) (oi := { dst := some 15, op := Go.Op.load 3 (Go.Operand.tmp 14), type := 3, pos := "run.go:39", after := #[{ on := 4, ground := Go.Ground.data }, { on := 3, ground := Go.Ground.guard }], guard := some (3, false) }) (v := ?v292) rfl (by kernel_rfl) (by kernel_rfl) (by kernel_rfl) (fun _ _ _ h => h) (Or.inl ⟨by kernel_rfl, ?h292⟩) (by assumption) ?r292
  case h292 => (intro w hSw; (try dsimp only at hSw); go_simp; try with_reducible rfl)
  try simp only [Act.put, List.setIfInBounds_toArray, List.set_cons_zero, List.set_cons_succ]
  refine wpAnyH_take (i := 6) (oi := { dst := some 16, op := Go.Op.fieldAddr 26 (Go.Operand.tmp 3) 3, type := 0, pos := "run.go:39", after := #[{ on := 3, ground := Go.Ground.guard }], guard := some (3, false) }) (v := ?v293) rfl (by kernel_rfl) (by kernel_rfl) (by kernel_rfl) (fun _ _ _ h => h) (Or.inl ⟨by kernel_rfl, ?h293⟩) (by assumption) ?r293
  case h293 => (intro w hSw; (try dsimp only at hSw); go_simp; try with_reducible rfl)
  try simp only [Act.put, List.setIfInBounds_toArray, List.set_cons_zero, List.set_cons_succ]
  refine wpAnyH_take (i := 7) (oi := { dst := some 17, op := Go.Op.load 24 (Go.Operand.tmp 16), type := 24, pos := "run.go:39", after := #[{ on := 6, ground := Go.Ground.data }, { on := 3, ground := Go.Ground.guard }], guard := some (3, false) }) (v := ?v294) rfl (by kernel_rfl) (by kernel_rfl) (by kernel_rfl) (fun _ _ _ h => h) (Or.inl ⟨by kernel_rfl, ?h294⟩) (by assumption) ?r294
  case h294 => (intro w hSw; (try dsimp only at hSw); go_simp; try with_reducible rfl)
  try simp only [Act.put, List.setIfInBounds_toArray, List.set_cons_zero, List.set_cons_succ]
  refine wpAnyH_take (i := 8) (oi := { dst := some 18, op := Go.Op.call { callee := Go.Callee.builtin Go.Builtin.len, args := #[Go.Operand.tmp 17], argTypes := #[24] }, type := 3, pos := "run.go:39", after := #[{ on := 7, ground := Go.Ground.data }, { on := 3, ground := Go.Ground.guard }], guard := some (3, false) }) (v := ?v295) rfl (by kernel_rfl) (by kernel_rfl) (by kernel_rfl) (fun _ _ _ h => h) (Or.inl ⟨by kernel_rfl, ?h295⟩) (by assumption) ?r295
  case h295 => (intro w hSw; (try dsimp only at hSw); go_simp; try with_reducible rfl)
  try simp only [Act.put, List.setIfInBounds_toArray, List.set_cons_zero, List.set_cons_succ]
  refine wpAnyH_take (i := 9) (oi := { dst := some 19, op := Go.Op.binOp Go.BinOp.geq 3 (Go.Operand.tmp 15) (Go.Operand.tmp 18) 3, type := 4, pos := "run.go:39", after := #[{ on := 5, ground := Go.Ground.data }, { on := 8, ground := Go.Ground.data }, { on := 3, ground := Go.Ground.guard }], guard := some (3, false) }) (v := ?v296) rfl (by kernel_rfl) (by kernel_rfl) (by kernel_rfl) (fun _ _ _ h => h) (Or.inl ⟨by kernel_rfl, ?h296⟩) (by assumption) ?r296
  case h296 => (intro w hSw; (try dsimp only at hSw); go_simp; try with_reducible rfl)
  try simp only [Act.put, List.setIfInBounds_toArray, List.set_cons_zero, List.set_cons_succ]
  refine wpAnyH_take (i := 10) (oi := { dst := some 20, op := Go.Op.pick (Go.Operand.tmp 13) (Go.Operand.const (Go.Value.bool true)) (Go.Operand.tmp 19), type := 4, pos := "run.go:39", after := #[{ on := 3, ground := Go.Ground.data }, { on := 9, ground := Go.Ground.data }], guard := none }) (v := ?v297) rfl (by kernel_rfl) (by kernel_rfl) (by kernel_rfl) (fun _ _ _ h => h) (Or.inl ⟨by kernel_rfl, ?h297⟩) (by assumption) ?r297
  case h297 => (intro w hSw; (try dsimp only at hSw); go_simp; try with_reducible rfl)
  try simp only [Act.put, List.setIfInBounds_toArray, List.set_cons_zero, List.set_cons_succ]
  refine wpAnyH_take (i := 11) (oi := { dst := some 21, op := Go.Op.move (Go.Operand.tmp 20), type := 4, pos := "run.go:39", after := #[{ on := 10, ground := Go.Ground.data }, { on := 3, ground := Go.Ground.chain }], guard := none }) (v := ?v298) rfl (by kernel_rfl) (by kernel_rfl) (by kernel_rfl) (fun _ _ _ h => h) (Or.inl ⟨by kernel_rfl, ?h298⟩) (by assumption) ?r298
  case h298 => (intro w hSw; (try dsimp only at hSw); go_simp; try with_reducible rfl)
  try simp only [Act.put, List.setIfInBounds_toArray, List.set_cons_zero, List.set_cons_succ]
  refine wpAnyH_take (i := 12) (oi := { dst := some 22, op := Go.Op.fieldAddr 26 (Go.Operand.tmp 3) 3, type := 0, pos := "run.go:39", after := #[{ on := 11, ground := Go.Ground.guard }], guard := some (11, false) }) (v := ?v299) rfl (by kernel_rfl) (by kernel_rfl) (by kernel_rfl) (fun _ _ _ h => h) (Or.inl ⟨by kernel_rfl, ?h299⟩) (by assumption) ?r299
  case h299 => (intro w hSw; (try dsimp only at hSw); go_simp; try with_reducible rfl)
  try simp only [Act.put, List.setIfInBounds_toArray, List.set_cons_zero, List.set_cons_succ]
  refine wpAnyH_take (i := 13) (oi := { dst := some 23, op := Go.Op.load 24 (Go.Operand.tmp 22), type := 24, pos := "run.go:39", after := #[{ on := 12, ground := Go.Ground.data }, { on := 11, ground := Go.Ground.guard }], guard := some (11, false) }) (v := ?v300) rfl (by kernel_rfl) (by kernel_rfl) (by kernel_rfl) (fun _ _ _ h => h) (Or.inl ⟨by kernel_rfl, ?h300⟩) (by assumption) ?r300
  case h300 => (intro w hSw; (try dsimp only at hSw); go_simp; try with_reducible rfl)
  try simp only [Act.put, List.setIfInBounds_toArray, List.set_cons_zero, List.set_cons_succ]
  refine wpAnyH_take (i := 14) (oi := { dst := some 24, op := Go.Op.fieldAddr 44 (Go.Operand.tmp 5) 0, type := 0, pos := "run.go:39", after := #[{ on := 11, ground := Go.Ground.guard }], guard := some (11, false) }) (v := ?v301) rfl (by kernel_rfl) (by kernel_rfl) (by kernel_rfl) (fun _ _ _ h => h) (Or.inl ⟨by kernel_rfl, ?h301⟩) (by assumption) ?r301
  case h301 => (intro w hSw; (try dsimp only at hSw); go_simp; try with_reducible rfl)
  try simp only [Act.put, List.setIfInBounds_toArray, List.set_cons_zero, List.set_cons_succ]
  refine wpAnyH_take (i := 15) (oi := { dst := some 25, op := Go.Op.load 3 (Go.Operand.tmp 24), type := 3, pos := "run.go:39", after := #[{ on := 14, ground := Go.Ground.data }, { on := 11, ground := Go.Ground.guard }], guard := some (11, false) }) (v := ?v302) rfl (by kernel_rfl) (by kernel_rfl) (by kernel_rfl) (fun _ _ _ h => h) (Or.inl ⟨by kernel_rfl, ?h302⟩) (by assumption) ?r302
  case h302 => (intro w hSw; (try dsimp only at hSw); go_simp; try with_reducible rfl)
  try simp only [Act.put, List.setIfInBounds_toArray, List.set_cons_zero, List.set_cons_succ]
  refine wpAnyH_take (i := 16) (oi := { dst := some 26, op := Go.Op.indexAddr 24 (Go.Operand.tmp 23) (Go.Operand.tmp 25), type := 0, pos := "run.go:39", after := #[{ on := 13, ground := Go.Ground.data }, { on := 15, ground := Go.Ground.data }, { on := 11, ground := Go.Ground.guard }], guard := some (11, false) }) (v := ?v303) rfl (by kernel_rfl) (by kernel_rfl) (by kernel_rfl) (fun _ _ _ h => h) (Or.inl ⟨by kernel_rfl, ?h303⟩) (by assumption) ?r303
  case h303 => (intro w hSw; (try dsimp only at hSw); go_simp; try with_reducible rfl)
  try simp only [Act.put, List.setIfInBounds_toArray, List.set_cons_zero, List.set_cons_succ]
  refine wpAnyH_take (i := 17) (oi := { dst := some 27, op := Go.Op.fieldAddr 53 (Go.Operand.tmp 26) 0, type := 0, pos := "run.go:39", after := #[{ on := 16, ground := Go.Ground.data }, { on := 11, ground := Go.Ground.guard }], guard := some (11, false) }) (v := ?v304) rfl (by kernel_rfl) (by kernel_rfl) (by kernel_rfl) (fun _ _ _ h => h) (Or.inl ⟨by kernel_rfl, ?h304⟩) (by assumption) ?r304
  case h304 => (intro w hSw; (try dsimp only at hSw); go_simp; try with_reducible rfl)
  try simp only [Act.put, List.setIfInBounds_toArray, List.set_cons_zero, List.set_cons_succ]
  refine wpAnyH_take (i := 18) (oi := { dst := some 28, op := Go.Op.load 3 (Go.Operand.tmp 27), type := 3, pos := "run.go:39", after := #[{ on := 17, ground := Go.Ground.data }, { on := 11, ground := Go.Ground.guard }], guard := some (11, false) }) (v := ?v305) rfl (by kernel_rfl) (by kernel_rfl) (by kernel_rfl) (fun _ _ _ h => h) (Or.inl ⟨by kernel_rfl, ?h305⟩) (by assumption) ?r305
  case h305 => (intro w hSw; (try dsimp only at hSw); go_simp; try with_reducible rfl)
  try simp only [Act.put, List.setIfInBounds_toArray, List.set_cons_zero, List.set_cons_succ]
  refine wpAnyH_take (i := 19) (oi := { dst := some 29, op := Go.Op.fieldAddr 39 (Go.Operand.tmp 4) 0, type := 0, pos := "run.go:39", after := #[{ on := 11, ground := Go.Ground.guard }], guard := some (11, false) }) (v := ?v306) rfl (by kernel_rfl) (by kernel_rfl) (by kernel_rfl) (fun _ _ _ h => h) (Or.inl ⟨by kernel_rfl, ?h306⟩) (by assumption) ?r306
  case h306 => (intro w hSw; (try dsimp only at hSw); go_simp; try with_reducible rfl)
  try simp only [Act.put, List.setIfInBounds_toArray, List.set_cons_zero, List.set_cons_succ]
  refine wpAnyH_take (i := 20) (oi := { dst := some 30, op := Go.Op.load 3 (Go.Operand.tmp 29), type := 3, pos := "run.go:39", after := #[{ on := 19, ground := Go.Ground.data }, { on := 11, ground := Go.Ground.guard }], guard := some (11, false) }) (v := ?v307) rfl (by kernel_rfl) (by kernel_rfl) (by kernel_rfl) (fun _ _ _ h => h) (Or.inl ⟨by kernel_rfl, ?h307⟩) (by assumption) ?r307
  case h307 => (intro w hSw; (try dsimp only at hSw); go_simp; try with_reducible rfl)
  try simp only [Act.put, List.setIfInBounds_toArray, List.set_cons_zero, List.set_cons_succ]
  refine wpAnyH_take (i := 21) (oi := { dst := some 31, op := Go.Op.binOp Go.BinOp.neq 3 (Go.Operand.tmp 28) (Go.Operand.tmp 30) 3, type := 4, pos := "run.go:39", after := #[{ on := 18, ground := Go.Ground.data }, { on := 20, ground := Go.Ground.data }, { on := 11, ground := Go.Ground.guard }], guard := some (11, false) }) (v := ?v308) rfl (by kernel_rfl) (by kernel_rfl) (by kernel_rfl) (fun _ _ _ h => h) (Or.inl ⟨by kernel_rfl, ?h308⟩) (by assumption) ?r308
  case h308 => (intro w hSw; (try dsimp only at hSw); go_simp; try with_reducible rfl)
  try simp only [Act.put, List.setIfInBounds_toArray, List.set_cons_zero, List.set_cons_succ]
  refine wpAnyH_take (i := 22) (oi := { dst := some 32, op := Go.Op.pick (Go.Operand.tmp 21) (Go.Operand.const (Go.Value.bool true)) (Go.Operand.tmp 31), type := 4, pos := "run.go:39", after := #[{ on := 11, ground := Go.Ground.data }, { on := 21, ground := Go.Ground.data }], guard := none }) (v := ?v309) rfl (by kernel_rfl) (by kernel_rfl) (by kernel_rfl) (fun _ _ _ h => h) (Or.inl ⟨by kernel_rfl, ?h309⟩) (by assumption) ?r309
  case h309 => (intro w hSw; (try dsimp only at hSw); go_simp; try with_reducible rfl)
  try simp only [Act.put, List.setIfInBounds_toArray, List.set_cons_zero, List.set_cons_succ]
  refine wpAnyH_done (by kernel_rfl) ?_ _
  obtain ⟨X2, hX2⟩ : ∃ X2, X2 = W1.drew := ⟨_, rfl⟩
  rw [← hX2] at hHeld ⊢
  replace Z0 := Lib.hid (Z0.out.below hHeld Z0.out.lt)
  replace Z1 := Lib.hid (Z1.out.below hHeld Z1.out.lt)
  replace Z2 := Lib.hid (Z2.out.below hHeld Z2.out.lt)
  replace Z3 := Lib.hid (Z3.out.below hHeld Z3.out.lt)
  replace S := Lib.hid (S.out.below hHeld)
  replace BL := Lib.hid (BL.out.trans (hHeld.mono BL.out.size))
  have y0 := (hHeld.cell (p := ⟨b, off + E * 7, none⟩) hb2).trans Y0.out
  have y1 := (hHeld.cell (p := ⟨b, off + E * 7 + 1, none⟩) hb2).trans Y1.out
  have y2 := (hHeld.cell (p := ⟨b, off + E * 7 + 2, none⟩) hb2).trans Y2.out
  have y3 := (hHeld.cell (p := ⟨b, off + E * 7 + 3, none⟩) hb2).trans Y3.out
  have y4 := (hHeld.cell (p := ⟨b, off + E * 7 + 4, none⟩) hb2).trans Y4.out
  have y5 := (hHeld.cell (p := ⟨b, off + E * 7 + 5, none⟩) hb2).trans Y5.out
  have y6 := (hHeld.cell (p := ⟨b, off + E * 7 + 6, none⟩) hb2).trans Y6.out
  have hb3 : b < X2.heap.size := Nat.lt_of_lt_of_le hb2 hHeld.size
  clear hX2 hHeld f0 f1 f2 X0 hb2
  have hZ32 := Z3.out.lt
  have k0 := Z0.out.cell 3
  have k1 := Z2.out.cell 0
  simp at k0 k1
  go_upto_region 4 with (fail)
  obtain ⟨X3, hX3⟩ : ∃ X3, X3 = X2.alloc (.cells #[.int .i64 pt, .int .i64 ds, .int .i64 5, .int .i64 x, .int .i64 y, .int .i64 cc, .int .i64 d] 53) := ⟨_, rfl⟩
  rw [← hX3]
  have B3 : Below X2.heap.size X2 X3 := by rw [hX3]; exact box_below _ _ _
  have ZE : Hid (Holds X3 X2.heap.size 53 #[.int .i64 pt, .int .i64 ds, .int .i64 5, .int .i64 x, .int .i64 y, .int .i64 cc, .int .i64 d]) := Lib.hid (by rw [hX3]; exact Holds.new _ _ _)
  replace Z1 := Lib.hid (Z1.out.below B3 Z1.out.lt)
  replace Z2 := Lib.hid (Z2.out.below B3 Z2.out.lt)
  replace Z3 := Lib.hid (Z3.out.below B3 Z3.out.lt)
  replace S := Lib.hid (S.out.below B3)
  have hz32 : Hid (w.heap.size + 3 < X2.heap.size) := Lib.hid hZ32
  have hz23 : Hid (X2.heap.size < X3.heap.size) := Lib.hid ZE.out.lt
  replace BL := Lib.hid (BL.out.trans (B3.mono BL.out.size))
  clear hZ32 hX3 B3 k0 k1 Z0 y0 y1 y2 y3 y4 y5 y6 Y0 Y1 Y2 Y3 Y4 Y5 Y6 hb3
  have e2 : ∀ W, Below X3.heap.size X3 W → W.cell? ⟨X2.heap.size, 2, none⟩ = some (.int .i64 5) := fun W hW => (ZE.out.below hW ZE.out.lt).cell 2
  have e3 : ∀ W, Below X3.heap.size X3 W → W.cell? ⟨X2.heap.size, 3, none⟩ = some (.int .i64 x) := fun W hW => (ZE.out.below hW ZE.out.lt).cell 3
  have e4 : ∀ W, Below X3.heap.size X3 W → W.cell? ⟨X2.heap.size, 4, none⟩ = some (.int .i64 y) := fun W hW => (ZE.out.below hW ZE.out.lt).cell 4
  have e5 : ∀ W, Below X3.heap.size X3 W → W.cell? ⟨X2.heap.size, 5, none⟩ = some (.int .i64 cc) := fun W hW => (ZE.out.below hW ZE.out.lt).cell 5
  have e6 : ∀ W, Below X3.heap.size X3 W → W.cell? ⟨X2.heap.size, 6, none⟩ = some (.int .i64 d) := fun W hW => (ZE.out.below hW ZE.out.lt).cell 6
  have f1 : ∀ W, Below X3.heap.size X3 W → W.cell? ⟨w.heap.size + 1, 1, none⟩ = some (.slice a n c) := fun W hW => (Z1.out.below hW Z1.out.lt).cell 1
  have f2 : ∀ W, Below X3.heap.size X3 W → W.cell? ⟨w.heap.size + 2, 1, none⟩ = some (.int .i64 v) := fun W hW => (Z2.out.below hW Z2.out.lt).cell 1
  refine wp_drawn_on (fun W => Below X3.heap.size X3 W) (by kernel_rfl) ((Below.refl _ _).drew) (fun hHeld => ?_)
  refine wpAnyH_take (i := 0) (oi := { dst := some 40, op := Go.Op.fieldAddr 53 (Go.Operand.tmp 8) 2, type := 0, pos := "run.go:43", after := #[], guard := none }) (v := ?v310) rfl (by kernel_rfl) (by kernel_rfl) (by kernel_rfl) (fun _ _ _ h => h) (Or.inl ⟨by kernel_rfl, ?h310⟩) (by assumption) ?r310
  case h310 => (intro w hSw; (try dsimp only at hSw); go_simp; try with_reducible rfl)
  try simp only [Act.put, List.setIfInBounds_toArray, List.set_cons_zero, List.set_cons_succ]
  refine wpAnyH_take (i := 1) (oi := { dst := some 41, op := Go.Op.load 51 (Go.Operand.tmp 40), type := 51, pos := "run.go:43", after := #[{ on := 0, ground := Go.Ground.data }], guard := none }) (v := ?v311) rfl (by kernel_rfl) (by kernel_rfl) (by kernel_rfl) (fun _ _ _ h => h) (Or.inl ⟨by kernel_rfl, ?h311⟩) (by assumption) ?r311
  case h311 => (intro w hSw; (try dsimp only at hSw); go_simp; try with_reducible rfl)
  try simp only [Act.put, List.setIfInBounds_toArray, List.set_cons_zero, List.set_cons_succ]
  refine wpAnyH_take (i := 2) (oi := { dst := some 42, op := Go.Op.fieldAddr 39 (Go.Operand.tmp 4) 1, type := 0, pos := "run.go:43", after := #[], guard := none }) (v := ?v312) rfl (by kernel_rfl) (by kernel_rfl) (by kernel_rfl) (fun _ _ _ h => h) (Or.inl ⟨by kernel_rfl, ?h312⟩) (by assumption) ?r312
  case h312 => (intro w hSw; (try dsimp only at hSw); go_simp; try with_reducible rfl)
  try simp only [Act.put, List.setIfInBounds_toArray, List.set_cons_zero, List.set_cons_succ]
  refine wpAnyH_take (i := 3) (oi := { dst := some 43, op := Go.Op.load 27 (Go.Operand.tmp 42), type := 27, pos := "run.go:43", after := #[{ on := 2, ground := Go.Ground.data }], guard := none }) (v := ?v313) rfl (by kernel_rfl) (by kernel_rfl) (by kernel_rfl) (fun _ _ _ h => h) (Or.inl ⟨by kernel_rfl, ?h313⟩) (by assumption) ?r313
  case h313 => (intro w hSw; (try dsimp only at hSw); go_simp; try with_reducible rfl)
  try simp only [Act.put, List.setIfInBounds_toArray, List.set_cons_zero, List.set_cons_succ]
  refine wpAnyH_take (i := 5) (oi := { dst := some 45, op := Go.Op.fieldAddr 44 (Go.Operand.tmp 5) 1, type := 0, pos := "run.go:43", after := #[], guard := none }) (v := ?v314) rfl (by kernel_rfl) (by kernel_rfl) (by kernel_rfl) (fun _ _ _ h => h) (Or.inl ⟨by kernel_rfl, ?h314⟩) (by assumption) ?r314
  case h314 => (intro w hSw; (try dsimp only at hSw); go_simp; try with_reducible rfl)
  try simp only [Act.put, List.setIfInBounds_toArray, List.set_cons_zero, List.set_cons_succ]
  refine wpAnyH_take (i := 6) (oi := { dst := some 46, op := Go.Op.load 3 (Go.Operand.tmp 45), type := 3, pos := "run.go:43", after := #[{ on := 5, ground := Go.Ground.data }], guard := none }) (v := ?v315) rfl (by kernel_rfl) (by kernel_rfl) (by kernel_rfl) (fun _ _ _ h => h) (Or.inl ⟨by kernel_rfl, ?h315⟩) (by assumption) ?r315
  case h315 => (intro w hSw; (try dsimp only at hSw); go_simp; try with_reducible rfl)
  try simp only [Act.put, List.setIfInBounds_toArray, List.set_cons_zero, List.set_cons_succ]
  refine wpAnyH_ready (rs := [4]) (by kernel_rfl) (by simp) ?_
  refine AllReadyH.cons (o := { dst := some 44, op := Go.Op.call { callee := Go.Callee.value (Go.Operand.func 23), args := #[Go.Operand.tmp 43], argTypes := #[27] }, type := 27, pos := "run.go:43", after := #[{ on := 3, ground := Go.Ground.data }], guard := none }) rfl (fun K hK => ?_) AllReadyH.nil
  go_simp
  with_reducible refine (clone_any a n c l hn _ (S.out.below hHeld)).mono ?_
  rintro e t4 ⟨a', c', rfl, hrow4, b4⟩
  have hrow := Lib.hid (own_from (B := w.heap.size) hrow4 (fun b hb => by have q1 := (hrow4.lt b hb).1; have q2 := hHeld.size; have q3 := BL.out.size; omega))
  have hfresh : Hid (∀ b, (Value.slice a' n c').ownBlock = some b → X3.heap.size ≤ b) := Lib.hid (fun b hb => (hrow4.lt b hb).1)
  clear hrow4
  go_simp
  refine hK.out _ _ (hHeld.trans (b4.mono hHeld.size)) (fun hHeld => ?_)
  clear hK K
  try simp only [Act.put, List.setIfInBounds_toArray, List.set_cons_zero, List.set_cons_succ]
  refine wpAnyH_take (i := 7) (oi := { dst := some 47, op := Go.Op.build 72 #[(0, Go.Operand.tmp 41), (1, Go.Operand.tmp 44), (2, Go.Operand.tmp 46)], type := 72, pos := "run.go:43", after := #[{ on := 1, ground := Go.Ground.data }, { on := 4, ground := Go.Ground.data }, { on := 6, ground := Go.Ground.data }], guard := none }) (v := ?v316) rfl (by kernel_rfl) (by kernel_rfl) (by kernel_rfl) (fun _ _ _ h => h) (Or.inl ⟨by kernel_rfl, ?h316⟩) (by assumption) ?r316
  case h316 => (intro w hSw; (try dsimp only at hSw); go_simp; try with_reducible rfl)
  try simp only [Act.put, List.setIfInBounds_toArray, List.set_cons_zero, List.set_cons_succ]
  refine wpAnyH_ready (rs := [8]) (by kernel_rfl) (by simp) ?_
  refine AllReadyH.cons (o := { dst := some 48, op := Go.Op.box 72 (Go.Operand.tmp 47), type := 70, pos := "run.go:43", after := #[{ on := 7, ground := Go.Ground.data }], guard := none }) rfl (fun K hK => ?_) AllReadyH.nil
  go_simp
  go_simp
  refine hK.out _ _ (hHeld.alloc hHeld.size _) (fun hHeld => ?_)
  clear hK K
  try simp only [Act.put, List.setIfInBounds_toArray, List.set_cons_zero, List.set_cons_succ]
  refine wpAnyH_take (i := 9) (oi := { dst := some 9, op := Go.Op.assign (Go.Operand.tmp 48), type := 70, pos := "run.go:43", after := #[{ on := 8, ground := Go.Ground.data }, { on := 4, ground := Go.Ground.chain }, { on := 0, ground := Go.Ground.phase }, { on := 1, ground := Go.Ground.phase }, { on := 2, ground := Go.Ground.phase }, { on := 3, ground := Go.Ground.phase }, { on := 4, ground := Go.Ground.phase }, { on := 5, ground := Go.Ground.phase }, { on := 6, ground := Go.Ground.phase }, { on := 7, ground := Go.Ground.phase }, { on := 8, ground := Go.Ground.phase }], guard := none }) (v := ?v317) rfl (by kernel_rfl) (by kernel_rfl) (by kernel_rfl) (fun _ _ _ h => h) (Or.inl ⟨by kernel_rfl, ?h317⟩) (by assumption) ?r317
  case h317 => (intro w hSw; (try dsimp only at hSw); go_simp; try with_reducible rfl)
  try simp only [Act.put, List.setIfInBounds_toArray, List.set_cons_zero, List.set_cons_succ]
  refine wpAnyH_done (by kernel_rfl) ?_ _
  obtain ⟨gm, hgm⟩ : ∃ gm, gm = t4.heap.size := ⟨_, rfl⟩
  obtain ⟨X5, hX5⟩ : ∃ X5, X5 = t4.alloc (.cells #[.int .i64 5, .int .i64 x, .int .i64 y, .int .i64 cc, .int .i64 d, .slice a' n c', .int .i64 v] 72) := ⟨_, rfl⟩
  rw [← hX5] at hHeld ⊢
  have B5 : Below t4.heap.size t4 X5 := by rw [hX5]; exact box_below _ _ _
  have HM : Hid (MvH w.heap.size gm 5 x y cc d v a' n c' l X5) := Lib.hid ⟨by rw [hX5, hgm]; exact Holds.new _ _ _, own_below hrow.out B5, fun b hb => by have := (hrow.out.lt b hb).2; omega⟩
  have hgm3 : Hid (X3.heap.size ≤ gm) := Lib.hid (by rw [hgm]; exact b4.size)
  rw [← hgm]
  have hXY := Lib.hid hHeld
  clear hX5 B5 hHeld hrow e2 e3 e4 e5 e6 f1 f2 hgm
  have hgb := blkL_not HM.out
  have m0 : ∀ W, BelowE (blkL a' n c') X5.heap.size X5 W → W.cell? ⟨gm, 0, none⟩ = some (.int .i64 5) := fun W hW => (HM.out.blk.belowE hW HM.out.blk.lt hgb).cell 0
  have hix2 := hix.out
  go_wp2
  refine wp_drawn_on (fun W => BelowE (blkL a' n c') X5.heap.size X5 W) (by kernel_rfl) ((BelowE.refl _ _ _).drew) (fun hHeld => ?_)
  refine wpAnyH_take (i := 1) (oi := { dst := some 50, op := Go.Op.move (Go.Operand.tmp 9), type := 70, pos := "run.go:44", after := #[], guard := none }) (v := ?v405) rfl (by kernel_rfl) (by kernel_rfl) (by kernel_rfl) (fun _ _ _ h => h) (Or.inl ⟨by kernel_rfl, ?h405⟩) (by assumption) ?r405
  case h405 => (intro w hSw; (try dsimp only at hSw); go_simp; try with_reducible rfl)
  try simp only [Act.put, List.setIfInBounds_toArray, List.set_cons_zero, List.set_cons_succ]
  refine wpAnyH_take (i := 2) (oi := { dst := some 51, op := Go.Op.nilCheck (Go.Operand.tmp 50), type := 0, pos := "run.go:44", after := #[{ on := 1, ground := Go.Ground.data }], guard := none }) (v := ?v406) rfl (by kernel_rfl) (by kernel_rfl) (by kernel_rfl) (fun _ _ _ h => h) (Or.inl ⟨by kernel_rfl, ?h406⟩) (by assumption) ?r406
  case h406 => (intro w hSw; (try dsimp only at hSw); go_simp; try with_reducible rfl)
  try simp only [Act.put, List.setIfInBounds_toArray, List.set_cons_zero, List.set_cons_succ]
  refine wpAnyH_take (i := 3) (oi := { dst := some 52, op := Go.Op.fieldAddr 72 (Go.Operand.tmp 51) 0, type := 0, pos := "run.go:44", after := #[{ on := 2, ground := Go.Ground.data }], guard := none }) (v := ?v407) rfl (by kernel_rfl) (by kernel_rfl) (by kernel_rfl) (fun _ _ _ h => h) (Or.inl ⟨by kernel_rfl, ?h407⟩) (by assumption) ?r407
  case h407 => (intro w hSw; (try dsimp only at hSw); go_simp; try with_reducible rfl)
  try simp only [Act.put, List.setIfInBounds_toArray, List.set_cons_zero, List.set_cons_succ]
  refine wpAnyH_take (i := 4) (oi := { dst := some 53, op := Go.Op.fieldAddr 51 (Go.Operand.tmp 52) 0, type := 0, pos := "run.go:44", after := #[{ on := 3, ground := Go.Ground.data }], guard := none }) (v := ?v408) rfl (by kernel_rfl) (by kernel_rfl) (by kernel_rfl) (fun _ _ _ h => h) (Or.inl ⟨by kernel_rfl, ?h408⟩) (by assumption) ?r408
  case h408 => (intro w hSw; (try dsimp only at hSw); go_simp; try with_reducible rfl)
  try simp only [Act.put, List.setIfInBounds_toArray, List.set_cons_zero, List.set_cons_succ]
  refine wpAnyH_take (i := 5) (oi := { dst := some 54, op := Go.Op.load 3 (Go.Operand.tmp 53), type := 3, pos := "run.go:44", after := #[{ on := 4, ground := Go.Ground.data }], guard := none }) (v := ?v409) rfl (by kernel_rfl) (by kernel_rfl) (by kernel_rfl) (fun _ _ _ h => h) (Or.inl ⟨by kernel_rfl, ?h409⟩) (by assumption) ?r409
  case h409 => (intro w hSw; (try dsimp only at hSw); go_simp; try with_reducible rfl)
  try simp only [Act.put, List.setIfInBounds_toArray, List.set_cons_zero, List.set_cons_succ]
  refine wpAnyH_take (i := 7) (oi := { dst := some 56, op := Go.Op.move (Go.Operand.tmp 9), type := 70, pos := "run.go:44", after := #[], guard := none }) (v := ?v410) rfl (by kernel_rfl) (by kernel_rfl) (by kernel_rfl) (fun _ _ _ h => h) (Or.inl ⟨by kernel_rfl, ?h410⟩) (by assumption) ?r410
  case h410 => (intro w hSw; (try dsimp only at hSw); go_simp; try with_reducible rfl)
  try simp only [Act.put, List.setIfInBounds_toArray, List.set_cons_zero, List.set_cons_succ]
  refine wpAnyH_ready (rs := [0]) (by kernel_rfl) (by simp) ?_
  refine AllReadyH.cons (o := { dst := some 49, op := Go.Op.call { callee := Go.Callee.value (Go.Operand.func 41), args := #[], argTypes := #[] }, type := 74, pos := "run.go:44", after := #[], guard := none }) rfl (fun K hK => ?_) AllReadyH.nil
  go_simp
  with_reducible refine (moves_any _).mono ?_
  rintro e t0 ⟨rfl, b0⟩
  have HM2 := Lib.hid (HM.out.below (Below.trans ((Below.refl _ _).drew) b0))
  go_simp
  refine hK.out _ _ (hHeld.trans (.of (b0.mono hHeld.size))) (fun hHeld => ?_)
  clear hK K
  try simp only [Act.put, List.setIfInBounds_toArray, List.set_cons_zero, List.set_cons_succ]
  refine wpAnyH_take (i := 6) (oi := { dst := some 55, op := Go.Op.index 74 (Go.Operand.tmp 49) (Go.Operand.tmp 54), type := 73, pos := "run.go:44", after := #[{ on := 0, ground := Go.Ground.data }, { on := 5, ground := Go.Ground.data }], guard := none }) (v := ?v411) rfl (by kernel_rfl) (by kernel_rfl) (by kernel_rfl) (fun _ _ _ h => h) (Or.inl ⟨by kernel_rfl, ?h411⟩) (by assumption) ?r411
  case h411 => (intro w hSw; (try dsimp only at hSw); go_simp; try with_reducible rfl)
  try simp only [Act.put, List.setIfInBounds_toArray, List.set_cons_zero, List.set_cons_succ]
  refine wpAnyH_ready (rs := [8]) (by kernel_rfl) (by simp) ?_
  refine AllReadyH.cons (o := { dst := some 57, op := Go.Op.call { callee := Go.Callee.value (Go.Operand.tmp 55), args := #[Go.Operand.tmp 56], argTypes := #[70] }, type := 4, pos := "run.go:44", after := #[{ on := 6, ground := Go.Ground.data }, { on := 7, ground := Go.Ground.data }, { on := 0, ground := Go.Ground.chain }], guard := none }) rfl (fun K hK => ?_) AllReadyH.nil
  go_simp
  with_reducible refine (hq'.out _ _ _ _ _ _ HM2.out hn hnl.out).mono ?_
  rintro e t8 ⟨rfl, hM8, hBE⟩
  go_simp
  refine hK.out _ _ (hHeld.trans (hBE.mono hHeld.size)) (fun hHeld => ?_)
  clear hK K
  try simp only [Act.put, List.setIfInBounds_toArray, List.set_cons_zero, List.set_cons_succ]
  refine wpAnyH_take (i := 9) (oi := { dst := some 58, op := Go.Op.unOp Go.UnOp.not 4 (Go.Operand.tmp 57), type := 4, pos := "run.go:44", after := #[{ on := 8, ground := Go.Ground.data }], guard := none }) (v := ?v412) rfl (by kernel_rfl) (by kernel_rfl) (by kernel_rfl) (fun _ _ _ h => h) (Or.inl ⟨by kernel_rfl, ?h412⟩) (by assumption) ?r412
  case h412 => (intro w hSw; (try dsimp only at hSw); go_simp; try with_reducible rfl)
  try simp only [Act.put, List.setIfInBounds_toArray, List.set_cons_zero, List.set_cons_succ]
  refine wpAnyH_done (by kernel_rfl) ?_ _
  obtain ⟨X6, hX6⟩ : ∃ X6, X6 = t8 := ⟨_, rfl⟩
  rw [← hX6] at hM8 hHeld ⊢
  have HM6 := Lib.hid hM8
  have h36 := step_far ((BelowE.of hXY.out).trans (hHeld.mono hXY.out.size)) hfresh.out
  replace Z3 := Lib.hid (Z3.out.below h36 Z3.out.lt)
  replace ZE := Lib.hid (ZE.out.below h36 ZE.out.lt)
  replace BL := Lib.hid (BL.out.trans (h36.mono BL.out.size))
  have hz3 := Lib.hid Z3.out.lt
  have hX36 := Lib.hid h36.size
  clear hX6 hHeld h36 m0 hix2 hgb hM8 hBE HM HM2 hXY b0
  have n1 : X2.heap.size ≠ w.heap.size + 3 := by have := hz32.out; omega
  have n2 : gm ≠ w.heap.size + 3 := by have := hgm3.out; have := hz32.out; have := hz23.out; omega
  have p1 : ∀ W, (∃ q, W = X6.drewN q ∨ W = ((X6.drewN q).setCell ⟨w.heap.size + 3, 0, none⟩ (.int .i64 ds)).setCell ⟨w.heap.size + 3, 1, none⟩ (.slice a' n c')) → W.cell? ⟨X2.heap.size, 1, none⟩ = some (.int .i64 ds) := fun W hW => (two_cell ZE.out n1 _ _ W hW).cell 1
  have p2 : ∀ W, (∃ q, W = X6.drewN q ∨ W = ((X6.drewN q).setCell ⟨w.heap.size + 3, 0, none⟩ (.int .i64 ds)).setCell ⟨w.heap.size + 3, 1, none⟩ (.slice a' n c')) → W.cell? ⟨gm, 5, none⟩ = some (.slice a' n c') := fun W hW => (two_cell HM6.out.blk n2 _ _ W hW).cell 5
  have k0 : X6.drew.cell? ⟨w.heap.size + 3, 0, none⟩ = some (.int .i64 0) := Z3.out.cell 0
  have k1 : X6.drew.cell? ⟨w.heap.size + 3, 1, none⟩ = some (.slice none 0 0) := Z3.out.cell 1
  have j0 : X6.drew.frozen? ⟨w.heap.size + 3, 0, none⟩ = false := Z3.out.free 0
  have j1 : X6.drew.frozen? ⟨w.heap.size + 3, 1, none⟩ = false := Z3.out.free 1
  have k2 : X6.cell? ⟨w.heap.size + 3, 1, none⟩ = some (.slice none 0 0) := Z3.out.cell 1
  have j2 : X6.frozen? ⟨w.heap.size + 3, 1, none⟩ = false := Z3.out.free 1
  go_wp2
  refine wp_drawn_on (fun W => ∃ q, W = X6.drewN q ∨ W = ((X6.drewN q).setCell ⟨w.heap.size + 3, 0, none⟩ (.int .i64 ds)).setCell ⟨w.heap.size + 3, 1, none⟩ (.slice a' n c')) (by kernel_rfl) (⟨1, .inl rfl⟩) (fun hHeld => ?_)
  refine wpAnyH_take (i := 0) (oi := { dst := some 65, op := Go.Op.fieldAddr 53 (Go.Operand.tmp 8) 1, type := 0, pos := "run.go:47", after := #[], guard := none }) (v := ?v453) rfl (by kernel_rfl) (by kernel_rfl) (by kernel_rfl) (fun _ _ _ h => h) (Or.inl ⟨by kernel_rfl, ?h453⟩) (by assumption) ?r453
  case h453 => (intro w hSw; (try dsimp only at hSw); go_simp; try with_reducible rfl)
  try simp only [Act.put, List.setIfInBounds_toArray, List.set_cons_zero, List.set_cons_succ]
  refine wpAnyH_take (i := 1) (oi := { dst := some 66, op := Go.Op.load 3 (Go.Operand.tmp 65), type := 3, pos := "run.go:47", after := #[{ on := 0, ground := Go.Ground.data }], guard := none }) (v := ?v454) rfl (by kernel_rfl) (by kernel_rfl) (by kernel_rfl) (fun _ _ _ h => h) (Or.inl ⟨by kernel_rfl, ?h454⟩) (by assumption) ?r454
  case h454 => (intro w hSw; (try dsimp only at hSw); go_simp; try with_reducible rfl)
  try simp only [Act.put, List.setIfInBounds_toArray, List.set_cons_zero, List.set_cons_succ]
  refine wpAnyH_take (i := 2) (oi := { dst := some 67, op := Go.Op.move (Go.Operand.tmp 9), type := 70, pos := "run.go:47", after := #[], guard := none }) (v := ?v455) rfl (by kernel_rfl) (by kernel_rfl) (by kernel_rfl) (fun _ _ _ h => h) (Or.inl ⟨by kernel_rfl, ?h455⟩) (by assumption) ?r455
  case h455 => (intro w hSw; (try dsimp only at hSw); go_simp; try with_reducible rfl)
  try simp only [Act.put, List.setIfInBounds_toArray, List.set_cons_zero, List.set_cons_succ]
  refine wpAnyH_take (i := 3) (oi := { dst := some 68, op := Go.Op.nilCheck (Go.Operand.tmp 67), type := 0, pos := "run.go:47", after := #[{ on := 2, ground := Go.Ground.data }], guard := none }) (v := ?v456) rfl (by kernel_rfl) (by kernel_rfl) (by kernel_rfl) (fun _ _ _ h => h) (Or.inl ⟨by kernel_rfl, ?h456⟩) (by assumption) ?r456
  case h456 => (intro w hSw; (try dsimp only at hSw); go_simp; try with_reducible rfl)
  try simp only [Act.put, List.setIfInBounds_toArray, List.set_cons_zero, List.set_cons_succ]
  refine wpAnyH_take (i := 4) (oi := { dst := some 69, op := Go.Op.fieldAddr 72 (Go.Operand.tmp 68) 1, type := 0, pos := "run.go:47", after := #[{ on := 3, ground := Go.Ground.data }], guard := none }) (v := ?v457) rfl (by kernel_rfl) (by kernel_rfl) (by kernel_rfl) (fun _ _ _ h => h) (Or.inl ⟨by kernel_rfl, ?h457⟩) (by assumption) ?r457
  case h457 => (intro w hSw; (try dsimp only at hSw); go_simp; try with_reducible rfl)
  try simp only [Act.put, List.setIfInBounds_toArray, List.set_cons_zero, List.set_cons_succ]
  refine wpAnyH_take (i := 5) (oi := { dst := some 70, op := Go.Op.load 27 (Go.Operand.tmp 69), type := 27, pos := "run.go:47", after := #[{ on := 4, ground := Go.Ground.data }], guard := none }) (v := ?v458) rfl (by kernel_rfl) (by kernel_rfl) (by kernel_rfl) (fun _ _ _ h => h) (Or.inl ⟨by kernel_rfl, ?h458⟩) (by assumption) ?r458
  case h458 => (intro w hSw; (try dsimp only at hSw); go_simp; try with_reducible rfl)
  try simp only [Act.put, List.setIfInBounds_toArray, List.set_cons_zero, List.set_cons_succ]
  refine wpAnyH_take (i := 6) (oi := { dst := some 71, op := Go.Op.build 39 #[(0, Go.Operand.tmp 66), (1, Go.Operand.tmp 70)], type := 39, pos := "run.go:47", after := #[{ on := 1, ground := Go.Ground.data }, { on := 5, ground := Go.Ground.data }], guard := none }) (v := ?v459) rfl (by kernel_rfl) (by kernel_rfl) (by kernel_rfl) (fun _ _ _ h => h) (Or.inl ⟨by kernel_rfl, ?h459⟩) (by assumption) ?r459
  case h459 => (intro w hSw; (try dsimp only at hSw); go_simp; try with_reducible rfl)
  try simp only [Act.put, List.setIfInBounds_toArray, List.set_cons_zero, List.set_cons_succ]
  refine wpAnyH_ready (rs := [7]) (by kernel_rfl) (by simp) ?_
  refine AllReadyH.cons (o := { dst := none, op := Go.Op.store 39 (Go.Operand.tmp 6) (Go.Operand.tmp 71), type := 0, pos := "run.go:47", after := #[{ on := 6, ground := Go.Ground.data }, { on := 0, ground := Go.Ground.phase }, { on := 1, ground := Go.Ground.phase }, { on := 2, ground := Go.Ground.phase }, { on := 3, ground := Go.Ground.phase }, { on := 4, ground := Go.Ground.phase }, { on := 5, ground := Go.Ground.phase }, { on := 6, ground := Go.Ground.phase }], guard := none }) rfl (fun K hK => ?_) AllReadyH.nil
  go_simp
  go_simp
  refine hK.out _ _ (⟨1, .inr rfl⟩) (fun hHeld => ?_)
  clear hK K
  try simp only [Act.put, List.setIfInBounds_toArray, List.set_cons_zero, List.set_cons_succ]
  refine wpAnyH_take (i := 8) (oi := { dst := some 7, op := Go.Op.assign (Go.Operand.const (Go.Value.int Go.IntKind.i64 0)), type := 34, pos := "run.go:47", after := #[{ on := 7, ground := Go.Ground.chain }, { on := 0, ground := Go.Ground.phase }, { on := 1, ground := Go.Ground.phase }, { on := 2, ground := Go.Ground.phase }, { on := 3, ground := Go.Ground.phase }, { on := 4, ground := Go.Ground.phase }, { on := 5, ground := Go.Ground.phase }, { on := 6, ground := Go.Ground.phase }, { on := 7, ground := Go.Ground.phase }], guard := none }) (v := ?v460) rfl (by kernel_rfl) (by kernel_rfl) (by kernel_rfl) (fun _ _ _ h => h) (Or.inl ⟨by kernel_rfl, ?h460⟩) (by assumption) ?r460
  case h460 => (intro w hSw; (try dsimp only at hSw); go_simp; try with_reducible rfl)
  try simp only [Act.put, List.setIfInBounds_toArray, List.set_cons_zero, List.set_cons_succ]
  refine wpAnyH_done (by kernel_rfl) ?_ _
  go_wp2
  exact state_ret2 (state_set Z3.out _ _).drew ⟨a', n, c', rfl, sl_fin HM6.out _ (fun b hb => by have := hfresh.out b hb; have := hz32.out; have := hz23.out; omega) hn _ _, (belT BL.out (by omega) _ _).drew, fun p hp => by have := hfresh.out p.block (by rw [hp]; rfl); have := hz32.out; have := hz23.out; omega⟩ _ _ 6 7 rfl rfl rfl rfl
end Go.Proofs.YtjdfjekonnkglaaGreatDoor
