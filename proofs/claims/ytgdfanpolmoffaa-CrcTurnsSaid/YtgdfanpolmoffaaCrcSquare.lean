/- crc's tables: those of twice as many bits. -/
import Derived.Test.YtgdfanpolmoffaaCrcTable
import Derived.Test.YtgdfanpolmoffaaDrawn
import Derived.Laws.Rows
import Derived.Laws.Tables
namespace Go.Proofs.Ytgdfanpolmoffaa
open Go.RowKit
set_option linter.unusedVariables false
set_option linter.unusedSimpArgs false
attribute [local go_sem ↓] Go.wp_at_zero Go.wp_at_succ

/-- A table of which the first k are laid. -/
def part (m k : Nat) : Array Value := (nums .u32 ((tab m).take k ++ List.replicate (32 - k) 0)).toArray
theorem part_size (m k : Nat) (h : k ≤ 32) : (part m k).size = 32 := by simp [part, nums, tab_length]; omega
theorem part_zero (m : Nat) : part m 0 = (nums .u32 (List.replicate 32 0)).toArray := by simp [part]
theorem part_full (m : Nat) : part m 32 = (nums .u32 (tab m)).toArray := by simp [part, List.take_of_length_le, tab_length]
theorem part_set (m k : Nat) (h : k < 32) : (part m k).setIfInBounds k (.int .u32 ((steps m (2 ^ k) : Nat) : Int)) = part m (k + 1) := by
  unfold part
  rw [List.setIfInBounds_toArray]
  congr 1
  have hl : ((tab m).take k).length = k := by simp [tab_length]; omega
  rw [show 32 - k = (32 - (k + 1)) + 1 by omega, List.replicate_succ]
  have e : nums .u32 ((tab m).take k ++ 0 :: List.replicate (32 - (k + 1)) 0) = nums .u32 ((tab m).take k) ++ .int .u32 0 :: nums .u32 (List.replicate (32 - (k + 1)) 0) := by simp [nums]
  have e2 : (nums .u32 ((tab m).take k)).length = k := by rw [nums, List.length_map, hl]
  rw [e, List.set_append_right _ _ (by rw [e2]; omega), e2, Nat.sub_self, List.set_cons_zero, getD_take_snoc (by rw [tab_length]; exact h), tab_at m h]
  simp [nums]
theorem part_at (m k : Nat) (h : k < 32) : (part m k)[k]? = some (.int .u32 0) := by
  have hl : ((tab m).take k).length = k := by simp [tab_length]; omega
  simp only [part, nums, List.getElem?_toArray, List.getElem?_map]
  rw [List.getElem?_append_right (by omega), hl, Nat.sub_self, show 32 - k = (32 - (k + 1)) + 1 by omega, List.replicate_succ]
  rfl
theorem load_row {P : Program} {w : World} {g : Nat} {t : TypeId} {c : Array Value} {fr : Nat × Nat} (hg : w.heap[g]? = some (.cells c t fr)) (n : Nat) (hn : c.size = n) :
    (loadCellsFrom ⟨g, 0, none⟩ 0 n #[]).run P w = .ok c w := by
  subst hn
  have := run_loadCells_list (P := P) w ⟨g, 0, none⟩ c.toList (fun j v hv => by
    have hadd : (⟨g, 0, none⟩ : Addr).add j = ⟨g, j, none⟩ := by unfold Addr.add; split <;> simp_all
    rw [hadd, cell_of_row _ _ j c t fr hg]
    simpa using hv)
  simpa [loadCells] using this
theorem exec_load_row {P : Program} {w : World} {a : Act} {o : Oper} {ty : TypeId} {x : Operand} {g : Nat} {t : TypeId} {cs : Array Value} {fr : Nat × Nat} {d : TypeDesc} (ho : o.op = .load ty x) (hx : a.eval x = .pointer (some ⟨g, 0, none⟩))
    (hg : w.heap[g]? = some (.cells cs t fr)) (hu : P.underlying ty = some d) (hd : (match d with | .struct _ | .array _ _ => true | _ => false) = true) (hi : (P.info? ty).map (·.size) = some cs.size) :
    (execOp a.eval o).run P w = .ok (.value (.agg cs)) w := by
  unfold execOp
  simp only [ho, hx, Instr.loadAt, Instr.sureAddr, Sem.run_bind, Sem.run_pure, Result.andThen_ok, run_loadVar_row w g t ty cs fr d hg hu hd hi]
theorem three_blocks (w : World) (a b : Array Value) (T : TypeId) :
    (((w.alloc (.cells a T)).alloc (.cells b T)).alloc (.cells b T)).heap[w.heap.size]? = some (.cells a T (0, 0)) ∧
    (((w.alloc (.cells a T)).alloc (.cells b T)).alloc (.cells b T)).heap[w.heap.size + 1]? = some (.cells b T (0, 0)) ∧
    (((w.alloc (.cells a T)).alloc (.cells b T)).alloc (.cells b T)).heap[w.heap.size + 1 + 1]? = some (.cells b T (0, 0)) ∧
    Below w.heap.size w (((w.alloc (.cells a T)).alloc (.cells b T)).alloc (.cells b T)) ∧
    (((w.alloc (.cells a T)).alloc (.cells b T)).alloc (.cells b T)).heap.size = w.heap.size + 1 + 1 + 1 := by
  have s1 : (w.alloc (.cells a T)).heap.size = w.heap.size + 1 := by simp
  have s2 : ((w.alloc (.cells a T)).alloc (.cells b T)).heap.size = w.heap.size + 1 + 1 := by simp
  have k1 := heap_alloc_new w (.cells a T)
  have k2 := heap_alloc_new (w.alloc (.cells a T)) (.cells b T)
  have k3 := heap_alloc_new ((w.alloc (.cells a T)).alloc (.cells b T)) (.cells b T)
  have l2 := (Below.refl (w.heap.size + 1) (w.alloc (.cells a T))).alloc (by omega) (.cells b T)
  have l3 := (Below.refl (w.heap.size + 1 + 1) ((w.alloc (.cells a T)).alloc (.cells b T))).alloc (by omega) (.cells b T)
  rw [s1] at k2
  rw [s2] at k3
  refine ⟨(l3.block _ (by omega)).trans ((l2.block _ (by omega)).trans k1), (l3.block _ (by omega)).trans k2, k3, ((((Below.refl _ w).alloc (Nat.le_refl _) _).alloc (by omega) _).alloc (by omega) _), by simp⟩
theorem part_one (m k : Nat) : (part m k).all (·.oneCell') = true := by
  rw [Array.all_eq_true_iff_forall_mem]
  intro x hx
  simp only [part, nums, List.mem_toArray, List.mem_map] at hx
  obtain ⟨y, _, rfl⟩ := hx
  rfl
theorem below_setRow {B : Nat} {w w' : World} (h : Below B w w') {g : Nat} (hg : B ≤ g) (cs : Array Value) : Below B w (w'.setRow g cs) :=
  ⟨h.os, h.tape, h.output, by simpa using h.size, fun k hk => by
    rw [← h.block k hk]
    simp only [World.setRow, Array.getElem?_modify]
    rw [if_neg (by omega)]⟩
theorem info_table : (Try.prog.info? 40).map (·.size) = some 32 := by kernel_rfl

set_option maxRecDepth 100000 in
set_option maxHeartbeats 2000000 in
theorem square_any (m : Nat) (w : World) : Calls Try.prog 23 #[.agg (nums .u32 (tab m)).toArray] w fun e w' => e = .returned (.agg (nums .u32 (tab (2 * m))).toArray) ∧ Below w.heap.size w w' := by
  have hsz : (nums .u32 (tab m)).toArray.size = 32 := by simp [nums, tab_length]
  have hrow : ∀ k, k < 32 → (nums .u32 (tab m)).toArray[k]? = some (.int .u32 ((steps m (2 ^ k) : Nat) : Int)) := fun k hk => by
    rw [← tab_at m hk]; simp [nums, List.getD, tab_length, hk]
  have hfull := part_full (2 * m)
  have hof := fun r hr w => of_any m r hr w
  generalize (nums .u32 (tab m)).toArray = row at *
  generalize (nums .u32 (tab (2 * m))).toArray = row2 at *
  have hrow' := Lib.hid hrow
  have hfull' := Lib.hid hfull
  have hof' := Lib.hid hof
  clear hrow hfull hof
  go_enter Try.func23, Try.ntmps23
  go_wp2
  have hz : part (2 * m) 0 = #[Value.int IntKind.u32 0, .int .u32 0, .int .u32 0, .int .u32 0, .int .u32 0, .int .u32 0, .int .u32 0, .int .u32 0, .int .u32 0, .int .u32 0, .int .u32 0, .int .u32 0, .int .u32 0, .int .u32 0, .int .u32 0, .int .u32 0, .int .u32 0, .int .u32 0, .int .u32 0, .int .u32 0, .int .u32 0, .int .u32 0, .int .u32 0, .int .u32 0, .int .u32 0, .int .u32 0, .int .u32 0, .int .u32 0, .int .u32 0, .int .u32 0, .int .u32 0, .int .u32 0] := by rw [part_zero]; rfl
  rw [← hz]
  have hzs := part_size (2 * m) 0 (by omega)
  obtain ⟨b0, b1, b2, hB, hS⟩ := three_blocks w row (part (2 * m) 0) 40
  generalize ((w.alloc (.cells row 40)).alloc (.cells (part (2 * m) 0) 40)).alloc (.cells (part (2 * m) 0) 40) = w3 at *
  have hp0 := Lib.hid (rfl : part (2 * m) 0 = part (2 * m) 0)
  generalize hZ : part (2 * m) 0 = Z at b1 hz hzs
  clear hz
  generalize hg0 : w.heap.size = g0 at b0 b1 b2 hB hS ⊢
  generalize hg1 : g0 + 1 = g1 at b1 b2 hS ⊢
  generalize hg2 : g1 + 1 = g2 at b2 hS ⊢
  go_loopw [5] (fun y wr => ∃ (k : Nat), k ≤ 32 ∧ wr.heap[g0]? = some (.cells row 40 (0, 0)) ∧ wr.heap[g1]? = some (.cells Z 40 (0, 0)) ∧ wr.heap[g2]? = some (.cells (part (2 * m) k) 40 (0, 0)) ∧ Below g0 w wr ∧ g2 < wr.heap.size ∧ y = .int .i64 k) (fun y _ => 32 - (intOf y).toNat)
  case atStart => exact ⟨0, by omega, b0, b1, b2, hB, by omega, rfl⟩
  case round =>
    obtain ⟨k, hk, c0, c1, c2, hB', hS', rfl⟩ := hrel
    by_cases hlt : k < 32
    · have hcr := hrow'.out k hlt
      have hsv := steps_lt (bit_lt hlt) m
      have hpv : Hid ((part (2 * m) k).setIfInBounds k (.int .u32 ((steps m (steps m (2 ^ k)) : Nat) : Int)) = part (2 * m) (k + 1)) := Lib.hid (by rw [← part_set (2 * m) k hlt, ← steps_add, ← Nat.two_mul])
      have hpa := part_at (2 * m) k hlt
      have hfun := Lib.hid (hof'.out _ hsv)
      have hsv2 := steps_lt hsv m
      generalize steps m (steps m (2 ^ k)) = v2 at *
      generalize steps m (2 ^ k) = v1 at *
      have g01 : g0 < g2 := by omega
      have g12 : g1 < g2 := by omega
      have hld : ∀ W, Below g2 wr W → W.heap[g0]? = some (.cells row 40 (0, 0)) := fun W hW => (hW.block _ g01).trans c0
      have hcl : ∀ W, Below g2 wr W → W.cell? ⟨g0, k, none⟩ = some (.int .u32 (v1 : Int)) := fun W hW => by rw [cell_of_row W _ _ _ _ _ (hld W hW), hcr]
      go_wp2
      refine wp_drawn_at (g2) (by kernel_rfl) (fun hHeld => ?_)
      refine wpAnyH_take (i := 0) (oi := { dst := some 8, op := Go.Op.move (Go.Operand.tmp 4), type := 3, pos := "crc.go:65", after := #[], guard := none }) (v := ?v1) rfl (by kernel_rfl) (by kernel_rfl) (by kernel_rfl) (fun _ _ _ h => h) (Or.inl ⟨by kernel_rfl, ?h1⟩) (by assumption) ?r1
      case h1 => (intro w hSw; (try dsimp only at hSw); go_simp; try with_reducible rfl)
      try simp only [Act.put, List.setIfInBounds_toArray, List.set_cons_zero, List.set_cons_succ]
      refine wpAnyH_take (i := 1) (oi := { dst := some 9, op := Go.Op.load 40 (Go.Operand.tmp 1), type := 40, pos := "crc.go:65", after := #[], guard := none }) (v := ?v2) rfl (by kernel_rfl) (by kernel_rfl) (by kernel_rfl) (fun _ _ _ h => h) (Or.inl ⟨by kernel_rfl, ?h2⟩) (by assumption) ?r2
      case h2 => (intro w hSw; (try dsimp only at hSw); refine Eq.trans (exec_load_row rfl rfl (hld _ hSw) Try.underlying40 rfl (by rw [info_table, hsz])) ?_; with_reducible rfl)
      try simp only [Act.put, List.setIfInBounds_toArray, List.set_cons_zero, List.set_cons_succ]
      refine wpAnyH_take (i := 2) (oi := { dst := some 10, op := Go.Op.move (Go.Operand.tmp 4), type := 3, pos := "crc.go:65", after := #[], guard := none }) (v := ?v3) rfl (by kernel_rfl) (by kernel_rfl) (by kernel_rfl) (fun _ _ _ h => h) (Or.inl ⟨by kernel_rfl, ?h3⟩) (by assumption) ?r3
      case h3 => (intro w hSw; (try dsimp only at hSw); go_simp; try with_reducible rfl)
      try simp only [Act.put, List.setIfInBounds_toArray, List.set_cons_zero, List.set_cons_succ]
      refine wpAnyH_take (i := 3) (oi := { dst := some 11, op := Go.Op.indexAddr 40 (Go.Operand.tmp 1) (Go.Operand.tmp 10), type := 0, pos := "crc.go:65", after := #[{ on := 2, ground := Go.Ground.data }], guard := none }) (v := ?v4) rfl (by kernel_rfl) (by kernel_rfl) (by kernel_rfl) (fun _ _ _ h => h) (Or.inl ⟨by kernel_rfl, ?h4⟩) (by assumption) ?r4
      case h4 => (intro w hSw; (try dsimp only at hSw); go_simp; try with_reducible rfl)
      try simp only [Act.put, List.setIfInBounds_toArray, List.set_cons_zero, List.set_cons_succ]
      refine wpAnyH_take (i := 4) (oi := { dst := some 12, op := Go.Op.load 23 (Go.Operand.tmp 11), type := 23, pos := "crc.go:65", after := #[{ on := 3, ground := Go.Ground.data }], guard := none }) (v := ?v5) rfl (by kernel_rfl) (by kernel_rfl) (by kernel_rfl) (fun _ _ _ h => h) (Or.inl ⟨by kernel_rfl, ?h5⟩) (by assumption) ?r5
      case h5 => (intro w hSw; (try dsimp only at hSw); go_simp; try with_reducible rfl)
      try simp only [Act.put, List.setIfInBounds_toArray, List.set_cons_zero, List.set_cons_succ]
      refine wpAnyH_ready (rs := [5]) (by kernel_rfl) (by simp) ?_
      refine AllReadyH.cons (o := { dst := some 13, op := Go.Op.call { callee := Go.Callee.value (Go.Operand.func 22), args := #[Go.Operand.tmp 9, Go.Operand.tmp 12], argTypes := #[40, 23] }, type := 23, pos := "crc.go:65", after := #[{ on := 1, ground := Go.Ground.data }, { on := 4, ground := Go.Ground.data }], guard := none }) rfl (fun K hK => ?_) AllReadyH.nil
      go_simp
      refine (hfun.out _).mono ?_
      rintro e w5 ⟨rfl, hb5⟩
      have hs5 : wr.drew.heap.size = wr.heap.size := rfl
      have hw5 : Below g2 wr w5 := hHeld.trans (hb5.mono (by omega))
      have d0 := (hb5.block g0 (by omega)).trans c0
      have d1 := (hb5.block g1 (by omega)).trans c1
      have d2 := (hb5.block g2 (by omega)).trans c2
      have hsz5 := hb5.size
      have hcell5 : w5.cell? ⟨g2, k, none⟩ = some (.int .u32 0) := by rw [cell_of_row w5 _ _ _ _ _ d2, hpa]
      have hfz5 := frozen_of_row w5 g2 k _ _ d2
      have f0 := Lib.hid ((heap_setCell_other w5 ⟨g2, k, none⟩ g0 (.int .u32 (v2 : Int)) (by show g0 ≠ g2; omega)).trans d0)
      have f1 := Lib.hid ((heap_setCell_other w5 ⟨g2, k, none⟩ g1 (.int .u32 (v2 : Int)) (by show g1 ≠ g2; omega)).trans d1)
      have f2 := heap_setCell_same w5 g2 k _ _ (.int .u32 (v2 : Int)) d2
      rw [hpv.out] at f2
      have f2' := Lib.hid f2
      have hb6 := Lib.hid ((hB'.trans (hw5.mono (by omega))).setCell (p := ⟨g2, k, none⟩) (by show g0 ≤ g2; omega) (.int .u32 (v2 : Int)))
      have hw6 : Below g2 w5 (w5.setCell ⟨g2, k, none⟩ (.int .u32 (v2 : Int))) := (Below.refl g2 w5).setCell (p := ⟨g2, k, none⟩) (Nat.le_refl _) _
      clear f2 d0 d1 d2
      go_simp
      refine hK.out _ _ (hw5) (fun hHeld => ?_)
      clear hK K
      try simp only [Act.put, List.setIfInBounds_toArray, List.set_cons_zero, List.set_cons_succ]
      refine wpAnyH_now_at hHeld (fun hHeld => ?_)
      replace hld := rebase_at hld (hw5)
      replace hcl := rebase_at hcl (hw5)
      refine wpAnyH_take (i := 6) (oi := { dst := some 14, op := Go.Op.indexAddr 40 (Go.Operand.tmp 3) (Go.Operand.tmp 8), type := 0, pos := "crc.go:65", after := #[{ on := 0, ground := Go.Ground.data }, { on := 0, ground := Go.Ground.phase }, { on := 1, ground := Go.Ground.phase }, { on := 2, ground := Go.Ground.phase }, { on := 3, ground := Go.Ground.phase }, { on := 4, ground := Go.Ground.phase }, { on := 5, ground := Go.Ground.phase }], guard := none }) (v := ?v6) rfl (by kernel_rfl) (by kernel_rfl) (by kernel_rfl) (fun _ _ _ h => h) (Or.inl ⟨by kernel_rfl, ?h6⟩) (by assumption) ?r6
      case h6 => (intro w hSw; (try dsimp only at hSw); go_simp; try with_reducible rfl)
      try simp only [Act.put, List.setIfInBounds_toArray, List.set_cons_zero, List.set_cons_succ]
      refine wpAnyH_ready (rs := [7]) (by kernel_rfl) (by simp) ?_
      refine AllReadyH.cons (o := { dst := none, op := Go.Op.store 23 (Go.Operand.tmp 14) (Go.Operand.tmp 13), type := 0, pos := "crc.go:65", after := #[{ on := 6, ground := Go.Ground.data }, { on := 5, ground := Go.Ground.data }, { on := 5, ground := Go.Ground.chain }, { on := 0, ground := Go.Ground.phase }, { on := 1, ground := Go.Ground.phase }, { on := 2, ground := Go.Ground.phase }, { on := 3, ground := Go.Ground.phase }, { on := 4, ground := Go.Ground.phase }, { on := 5, ground := Go.Ground.phase }], guard := none }) rfl (fun K hK => ?_) AllReadyH.nil
      go_simp
      refine hK.out _ _ (hw6) (fun hHeld => ?_)
      clear hK K
      try simp only [Act.put, List.setIfInBounds_toArray, List.set_cons_zero, List.set_cons_succ]
      refine wpAnyH_now_at hHeld (fun hHeld => ?_)
      replace hld := rebase_at hld (hw6)
      replace hcl := rebase_at hcl (hw6)
      refine wpAnyH_done (by kernel_rfl) ?_ _
      go_wp2
      go_roundw
      case rel => exact ⟨k + 1, by omega, f0.out, f1.out, f2'.out, hb6.out, by simp; omega, by go_num⟩
      case measure => simp [intOf]; omega
    · have hk32 : k = 32 := by omega
      have c2' := c2
      rw [hk32, hfull'.out] at c2'
      have hr2 : row2.size = 32 := by rw [← hfull'.out]; exact part_size _ _ (by omega)
      have hone : row2.all (·.oneCell') = true := by rw [← hfull'.out]; exact part_one _ _
      have c1' := setRow_heap wr g1 Z row2 40 (0, 0) c1
      go_wp2_with (first
        | (refine wpList_load_row rfl 40 (.tmp 3) rfl g2 rfl 40 row2 (0, 0) _ c2' Try.underlying40 rfl (by rw [info_table, hr2]) ?_)
        | (refine wpList_store_row rfl 40 (.tmp 2) (.tmp 16) rfl g1 row2 rfl rfl 40 Z c1 (by rw [info_table, hr2]) (by omega) hone ?_))
      refine bodyPost_ret (v := .agg row2) (results_cell_row rfl _ _ g1 40 row2 (0, 0) _ rfl c1' Try.underlying40 rfl (by rw [info_table, hr2])) rfl ⟨rfl, below_setRow hB' (by omega) _⟩
end Go.Proofs.Ytgdfanpolmoffaa
