/- Zones changed: the document's Itv, Forget. -/
import Derived.Test.YtacbkddkjlnklaaZoneRef2
namespace Go.Proofs.Ytacbkddkjlnklaa
open Go.RowKit
set_option linter.unusedVariables false
set_option linter.unusedSimpArgs false

theorem ritv_nil (n i : Int) (a : Option Addr) (ca : Nat) (w : World) : Calls Try.prog 28 #[.agg #[.int .i64 n, .slice a 0 ca], .int .i64 i] w (Gives (.agg #[.int .i64 1, .int .i64 0]) w) := by
  obtain ⟨W1, hW1⟩ : ∃ W1, W1 = (w.alloc (.cells #[.int .i64 n, .slice a 0 ca] 24)).alloc (.cells #[.int .i64 0, .int .i64 0] 38) := ⟨_, rfl⟩
  have X1 : B1i w W1 (.int .i64 n) (.slice a 0 ca) := by rw [hW1]; exact b1i_new _ _ _
  have hn := Lib.hid (rnone_any W1)
  have hW1' := Lib.hid hW1
  have X1' := Lib.hid X1
  clear hW1 X1
  go_enter Try.func28, Try.ntmps28
  go_wp2_with fail
  rw [← hW1'.out]
  refine hn.out.mono ?_
  rintro e w2 ⟨rfl, b2⟩
  have X2 := Lib.hid (X1'.out.on b2)
  clear b2
  have y0 := X2.out.z2.cell 0
  have y1 := X2.out.z2.cell 1
  have f0 := X2.out.z2.free 0
  have f1 := X2.out.z2.free 1
  have hz := Lib.hid (hi_set X2.out.z2 1 0)
  have hbl := Lib.hid ((X2.out.bl.setCell (p := ⟨w.heap.size + 1, 0, none⟩) (by show _ ≤ _ + 1; omega) (.int .i64 1)).setCell (p := ⟨w.heap.size + 1, 1, none⟩) (by show _ ≤ _ + 1; omega) (.int .i64 0))
  go_wp2
  exact itv_ret hz.out ⟨rfl, hbl.out⟩ _ _ 4 rfl rfl rfl
set_option maxRecDepth 100000 in
set_option maxHeartbeats 1000000 in
theorem ritv_full (n i : Nat) (hi : i ≤ n) (l : List Int) (hF : Full n l) (a : Option Addr) (m ca : Nat) (w : World) (h : SL w a m ca l) : Calls Try.prog 28 #[.agg #[.int .i64 n, .slice a m ca], .int .i64 i] w (Gives (.agg #[.int .i64 (-(mat n l 0 i)), .int .i64 (mat n l i 0)]) w) := by
  obtain ⟨W1, hW1⟩ : ∃ W1, W1 = (w.alloc (.cells #[.int .i64 n, .slice a m ca] 24)).alloc (.cells #[.int .i64 0, .int .i64 0] 38) := ⟨_, rfl⟩
  have X1 : B1i w W1 (.int .i64 n) (.slice a m ca) := by rw [hW1]; exact b1i_new _ _ _
  have hn8 := hF.le
  have hpos := sz_pos n
  have hm : m = sz n := by rw [h.len, hF.len]
  have p1 : ((m : Int) == 0) = false := by simp; omega
  have p2 : ¬ (m : Int) = 0 := by omega
  obtain ⟨p, q, u1, u2, u3, hq, hqs, -, hA, hB⟩ := place_wraps hn8 hi (Nat.zero_le n)
  have hpq : q = p := by clear u1 u2 u3; omega
  subst hpq
  have him : i < sz n := by have := (place_wraps hn8 (Nat.zero_le n) hi); obtain ⟨p', q', -, -, -, hq', hqs', -⟩ := this; omega
  have hqm : (q : Int) < (m : Int) := by omega
  have himm : (i : Int) < (m : Int) := by omega
  have e1 : mat n l 0 i = l.getD i 0 := by unfold mat; simp
  have e2 : mat n l i 0 = l.getD q 0 := by unfold mat; rw [hq]
  have hnr := full_near hF him
  rw [e1, e2]
  have hS := h.below X1.bl
  obtain ⟨b, o, rfl, hbl, d1⟩ := sees_at' h.sees (i := i) (by rw [← h.len]; omega)
  obtain ⟨b', o', hbo, -, d2⟩ := sees_at' h.sees (i := q) (by rw [← h.len]; omega)
  injection hbo with hbo
  injection hbo with hb1 hb2
  subst hb1 hb2
  have hsz : W1.heap.size = w.heap.size + 2 := by rw [hW1]; simp
  have h1 := X1.z1.cell 1
  have k1 := X1.z1.cell 1
  have g0 : ∀ W, BelowE [w.heap.size + 1] W1.heap.size W1 W → W.cell? ⟨w.heap.size, 0, none⟩ = some (.int .i64 n) := fun W hW => (X1.z1.belowE hW X1.z1.lt (by simp)).cell 0
  have g1 : ∀ W, BelowE [w.heap.size + 1] W1.heap.size W1 W → W.cell? ⟨w.heap.size, 1, none⟩ = some (.slice (some ⟨b, o, none⟩) m ca) := fun W hW => (X1.z1.belowE hW X1.z1.lt (by simp)).cell 1
  have c1 : ∀ W, BelowE [w.heap.size + 1] W1.heap.size W1 W → W.cell? ⟨b, o + i, none⟩ = some (.int .i64 (l.getD i 0)) := fun W hW => (hW.cell (p := ⟨b, o + i, none⟩) (by show b < _; omega) (by simp; omega)).trans ((World.cell?_of_block (w := w) (X1.bl.block b hbl)).trans d1)
  have c2 : ∀ W, BelowE [w.heap.size + 1] W1.heap.size W1 W → W.cell? ⟨b, o + q, none⟩ = some (.int .i64 (l.getD q 0)) := fun W hW => (hW.cell (p := ⟨b, o + q, none⟩) (by show b < _; omega) (by simp; omega)).trans ((World.cell?_of_block (w := w) (X1.bl.block b hbl)).trans d2)
  have y0 := X1.z2.cell 0
  have y1 := X1.z2.cell 1
  have f0 := X1.z2.free 0
  have f1 := X1.z2.free 1
  clear d1 d2 h1 hsz hbl
  generalize l.getD i 0 = x at *
  generalize l.getD q 0 = y at *
  have hwx : IntKind.i64.wrap (-x) = -x := wrap_small (by omega) (by omega)
  have hz := Lib.hid (hi_set X1.z2 (-x) y)
  have hfin : Hid (Gives (.agg #[.int .i64 (-x), .int .i64 y]) w (.returned (.agg #[.int .i64 (-x), .int .i64 y])) ((W1.setCell ⟨w.heap.size + 1, 0, none⟩ (.int .i64 (-x))).setCell ⟨w.heap.size + 1, 1, none⟩ (.int .i64 y)).drew) := Lib.hid ⟨rfl, below_drew ((X1.bl.setCell (p := ⟨w.heap.size + 1, 0, none⟩) (by show _ ≤ _ + 1; omega) (.int .i64 (-x))).setCell (p := ⟨w.heap.size + 1, 1, none⟩) (by show _ ≤ _ + 1; omega) (.int .i64 y))⟩
  have hzd : Hid (HI ((W1.setCell ⟨w.heap.size + 1, 0, none⟩ (.int .i64 (-x))).setCell ⟨w.heap.size + 1, 1, none⟩ (.int .i64 y)).drew (w.heap.size + 1) (-x) y) := Lib.hid (by have := hz.out; exact this.drew)
  have hW1' := Lib.hid hW1
  clear hS X1 h hF hm hW1 hq u3 hA hB e1 e2 hqs hn8
  go_enter Try.func28, Try.ntmps28
  go_wp2
  rw [← hW1'.out]
  clear hW1'
  refine wp_drawn_on (fun W => BelowE [w.heap.size + 1] W1.heap.size W1 W) (by kernel_rfl) ((BelowE.refl _ _ _).drew) (fun hHeld => ?_)
  refine wpAnyH_take (i := 0) (oi := { dst := some 10, op := Go.Op.fieldAddr 24 (Go.Operand.tmp 2) 1, type := 0, pos := "ref.go:154", after := #[], guard := none }) (v := ?v1) rfl (by kernel_rfl) (by kernel_rfl) (by kernel_rfl) (fun _ _ _ h => h) (Or.inl ⟨by kernel_rfl, ?h1⟩) (by assumption) ?r1
  case h1 => (intro w hSw; (try dsimp only at hSw); go_simp; try with_reducible rfl)
  try simp only [Act.put, List.setIfInBounds_toArray, List.set_cons_zero, List.set_cons_succ]
  refine wpAnyH_take (i := 1) (oi := { dst := some 11, op := Go.Op.load 22 (Go.Operand.tmp 10), type := 22, pos := "ref.go:154", after := #[{ on := 0, ground := Go.Ground.data }], guard := none }) (v := ?v2) rfl (by kernel_rfl) (by kernel_rfl) (by kernel_rfl) (fun _ _ _ h => h) (Or.inl ⟨by kernel_rfl, ?h2⟩) (by assumption) ?r2
  case h2 => (intro w hSw; (try dsimp only at hSw); go_simp; try with_reducible rfl)
  try simp only [Act.put, List.setIfInBounds_toArray, List.set_cons_zero, List.set_cons_succ]
  refine wpAnyH_take (i := 2) (oi := { dst := some 12, op := Go.Op.move (Go.Operand.tmp 1), type := 3, pos := "ref.go:154", after := #[], guard := none }) (v := ?v3) rfl (by kernel_rfl) (by kernel_rfl) (by kernel_rfl) (fun _ _ _ h => h) (Or.inl ⟨by kernel_rfl, ?h3⟩) (by assumption) ?r3
  case h3 => (intro w hSw; (try dsimp only at hSw); go_simp; try with_reducible rfl)
  try simp only [Act.put, List.setIfInBounds_toArray, List.set_cons_zero, List.set_cons_succ]
  refine wpAnyH_take (i := 3) (oi := { dst := some 13, op := Go.Op.indexAddr 22 (Go.Operand.tmp 11) (Go.Operand.tmp 12), type := 0, pos := "ref.go:154", after := #[{ on := 1, ground := Go.Ground.data }, { on := 2, ground := Go.Ground.data }], guard := none }) (v := ?v4) rfl (by kernel_rfl) (by kernel_rfl) (by kernel_rfl) (fun _ _ _ h => h) (Or.inl ⟨by kernel_rfl, ?h4⟩) (by assumption) ?r4
  case h4 => (intro w hSw; (try dsimp only at hSw); go_simp; try with_reducible rfl)
  try simp only [Act.put, List.setIfInBounds_toArray, List.set_cons_zero, List.set_cons_succ]
  refine wpAnyH_take (i := 4) (oi := { dst := some 14, op := Go.Op.load 3 (Go.Operand.tmp 13), type := 3, pos := "ref.go:154", after := #[{ on := 3, ground := Go.Ground.data }], guard := none }) (v := ?v5) rfl (by kernel_rfl) (by kernel_rfl) (by kernel_rfl) (fun _ _ _ h => h) (Or.inl ⟨by kernel_rfl, ?h5⟩) (by assumption) ?r5
  case h5 => (intro w hSw; (try dsimp only at hSw); go_simp; try with_reducible rfl)
  try simp only [Act.put, List.setIfInBounds_toArray, List.set_cons_zero, List.set_cons_succ]
  refine wpAnyH_take (i := 5) (oi := { dst := some 15, op := Go.Op.unOp Go.UnOp.neg 3 (Go.Operand.tmp 14), type := 3, pos := "ref.go:154", after := #[{ on := 4, ground := Go.Ground.data }], guard := none }) (v := ?v6) rfl (by kernel_rfl) (by kernel_rfl) (by kernel_rfl) (fun _ _ _ h => h) (Or.inl ⟨by kernel_rfl, ?h6⟩) (by assumption) ?r6
  case h6 => (intro w hSw; (try dsimp only at hSw); go_simp; try with_reducible rfl)
  try simp only [Act.put, List.setIfInBounds_toArray, List.set_cons_zero, List.set_cons_succ]
  refine wpAnyH_take (i := 6) (oi := { dst := some 16, op := Go.Op.fieldAddr 24 (Go.Operand.tmp 2) 1, type := 0, pos := "ref.go:154", after := #[], guard := none }) (v := ?v7) rfl (by kernel_rfl) (by kernel_rfl) (by kernel_rfl) (fun _ _ _ h => h) (Or.inl ⟨by kernel_rfl, ?h7⟩) (by assumption) ?r7
  case h7 => (intro w hSw; (try dsimp only at hSw); go_simp; try with_reducible rfl)
  try simp only [Act.put, List.setIfInBounds_toArray, List.set_cons_zero, List.set_cons_succ]
  refine wpAnyH_take (i := 7) (oi := { dst := some 17, op := Go.Op.load 22 (Go.Operand.tmp 16), type := 22, pos := "ref.go:154", after := #[{ on := 6, ground := Go.Ground.data }], guard := none }) (v := ?v8) rfl (by kernel_rfl) (by kernel_rfl) (by kernel_rfl) (fun _ _ _ h => h) (Or.inl ⟨by kernel_rfl, ?h8⟩) (by assumption) ?r8
  case h8 => (intro w hSw; (try dsimp only at hSw); go_simp; try with_reducible rfl)
  try simp only [Act.put, List.setIfInBounds_toArray, List.set_cons_zero, List.set_cons_succ]
  refine wpAnyH_take (i := 8) (oi := { dst := some 18, op := Go.Op.move (Go.Operand.tmp 1), type := 3, pos := "ref.go:154", after := #[], guard := none }) (v := ?v9) rfl (by kernel_rfl) (by kernel_rfl) (by kernel_rfl) (fun _ _ _ h => h) (Or.inl ⟨by kernel_rfl, ?h9⟩) (by assumption) ?r9
  case h9 => (intro w hSw; (try dsimp only at hSw); go_simp; try with_reducible rfl)
  try simp only [Act.put, List.setIfInBounds_toArray, List.set_cons_zero, List.set_cons_succ]
  refine wpAnyH_take (i := 9) (oi := { dst := some 19, op := Go.Op.fieldAddr 24 (Go.Operand.tmp 2) 0, type := 0, pos := "ref.go:154", after := #[], guard := none }) (v := ?v10) rfl (by kernel_rfl) (by kernel_rfl) (by kernel_rfl) (fun _ _ _ h => h) (Or.inl ⟨by kernel_rfl, ?h10⟩) (by assumption) ?r10
  case h10 => (intro w hSw; (try dsimp only at hSw); go_simp; try with_reducible rfl)
  try simp only [Act.put, List.setIfInBounds_toArray, List.set_cons_zero, List.set_cons_succ]
  refine wpAnyH_take (i := 10) (oi := { dst := some 20, op := Go.Op.load 3 (Go.Operand.tmp 19), type := 3, pos := "ref.go:154", after := #[{ on := 9, ground := Go.Ground.data }], guard := none }) (v := ?v11) rfl (by kernel_rfl) (by kernel_rfl) (by kernel_rfl) (fun _ _ _ h => h) (Or.inl ⟨by kernel_rfl, ?h11⟩) (by assumption) ?r11
  case h11 => (intro w hSw; (try dsimp only at hSw); go_simp; try with_reducible rfl)
  try simp only [Act.put, List.setIfInBounds_toArray, List.set_cons_zero, List.set_cons_succ]
  refine wpAnyH_take (i := 11) (oi := { dst := some 21, op := Go.Op.binOp Go.BinOp.add 3 (Go.Operand.tmp 20) (Go.Operand.const (Go.Value.int Go.IntKind.i64 1)) 3, type := 3, pos := "ref.go:154", after := #[{ on := 10, ground := Go.Ground.data }], guard := none }) (v := ?v12) rfl (by kernel_rfl) (by kernel_rfl) (by kernel_rfl) (fun _ _ _ h => h) (Or.inl ⟨by kernel_rfl, ?h12⟩) (by assumption) ?r12
  case h12 => (intro w hSw; (try dsimp only at hSw); go_simp; try with_reducible rfl)
  try simp only [Act.put, List.setIfInBounds_toArray, List.set_cons_zero, List.set_cons_succ]
  refine wpAnyH_take (i := 12) (oi := { dst := some 22, op := Go.Op.binOp Go.BinOp.mul 3 (Go.Operand.tmp 18) (Go.Operand.tmp 21) 3, type := 3, pos := "ref.go:154", after := #[{ on := 8, ground := Go.Ground.data }, { on := 11, ground := Go.Ground.data }], guard := none }) (v := ?v13) rfl (by kernel_rfl) (by kernel_rfl) (by kernel_rfl) (fun _ _ _ h => h) (Or.inl ⟨by kernel_rfl, ?h13⟩) (by assumption) ?r13
  case h13 => (intro w hSw; (try dsimp only at hSw); go_simp; try with_reducible rfl)
  try simp only [Act.put, List.setIfInBounds_toArray, List.set_cons_zero, List.set_cons_succ]
  refine wpAnyH_take (i := 13) (oi := { dst := some 23, op := Go.Op.indexAddr 22 (Go.Operand.tmp 17) (Go.Operand.tmp 22), type := 0, pos := "ref.go:154", after := #[{ on := 7, ground := Go.Ground.data }, { on := 12, ground := Go.Ground.data }], guard := none }) (v := ?v14) rfl (by kernel_rfl) (by kernel_rfl) (by kernel_rfl) (fun _ _ _ h => h) (Or.inl ⟨by kernel_rfl, ?h14⟩) (by assumption) ?r14
  case h14 => (intro w hSw; (try dsimp only at hSw); go_simp; try with_reducible rfl)
  try simp only [Act.put, List.setIfInBounds_toArray, List.set_cons_zero, List.set_cons_succ]
  refine wpAnyH_take (i := 14) (oi := { dst := some 24, op := Go.Op.load 3 (Go.Operand.tmp 23), type := 3, pos := "ref.go:154", after := #[{ on := 13, ground := Go.Ground.data }], guard := none }) (v := ?v15) rfl (by kernel_rfl) (by kernel_rfl) (by kernel_rfl) (fun _ _ _ h => h) (Or.inl ⟨by kernel_rfl, ?h15⟩) (by assumption) ?r15
  case h15 => (intro w hSw; (try dsimp only at hSw); go_simp; try with_reducible rfl)
  try simp only [Act.put, List.setIfInBounds_toArray, List.set_cons_zero, List.set_cons_succ]
  refine wpAnyH_take (i := 15) (oi := { dst := some 25, op := Go.Op.build 38 #[(0, Go.Operand.tmp 15), (1, Go.Operand.tmp 24)], type := 38, pos := "ref.go:154", after := #[{ on := 5, ground := Go.Ground.data }, { on := 14, ground := Go.Ground.data }], guard := none }) (v := ?v16) rfl (by kernel_rfl) (by kernel_rfl) (by kernel_rfl) (fun _ _ _ h => h) (Or.inl ⟨by kernel_rfl, ?h16⟩) (by assumption) ?r16
  case h16 => (intro w hSw; (try dsimp only at hSw); go_simp; try with_reducible rfl)
  try simp only [Act.put, List.setIfInBounds_toArray, List.set_cons_zero, List.set_cons_succ]
  refine wpAnyH_ready (rs := [16]) (by kernel_rfl) (by simp) ?_
  refine AllReadyH.cons (o := { dst := none, op := Go.Op.store 38 (Go.Operand.tmp 4) (Go.Operand.tmp 25), type := 0, pos := "ref.go:154", after := #[{ on := 15, ground := Go.Ground.data }, { on := 0, ground := Go.Ground.phase }, { on := 1, ground := Go.Ground.phase }, { on := 2, ground := Go.Ground.phase }, { on := 3, ground := Go.Ground.phase }, { on := 4, ground := Go.Ground.phase }, { on := 5, ground := Go.Ground.phase }, { on := 6, ground := Go.Ground.phase }, { on := 7, ground := Go.Ground.phase }, { on := 8, ground := Go.Ground.phase }, { on := 9, ground := Go.Ground.phase }, { on := 10, ground := Go.Ground.phase }, { on := 11, ground := Go.Ground.phase }, { on := 12, ground := Go.Ground.phase }, { on := 13, ground := Go.Ground.phase }, { on := 14, ground := Go.Ground.phase }, { on := 15, ground := Go.Ground.phase }], guard := none }) rfl (fun K hK => ?_) AllReadyH.nil
  go_simp
  refine hK.out _ _ (((hHeld.setIn (p := ⟨w.heap.size + 1, 0, none⟩) (by simp) _).setIn (p := ⟨w.heap.size + 1, 1, none⟩) (by simp) _)) (fun hHeld => ?_)
  clear hK K
  try simp only [Act.put, List.setIfInBounds_toArray, List.set_cons_zero, List.set_cons_succ]
  refine wpAnyH_done (by kernel_rfl) ?_ _
  go_wp2
  exact itv_ret hzd.out hfin.out _ _ 4 rfl rfl rfl
end Go.Proofs.Ytacbkddkjlnklaa
