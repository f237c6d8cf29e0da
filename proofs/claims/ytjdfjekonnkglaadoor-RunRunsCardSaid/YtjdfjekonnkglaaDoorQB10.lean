/-
  Words and walks under the law's proof.
-/
import Derived.ArgAppend
import Derived.Test.YtjdfjekonnkglaaDoorQB01
import Derived.Test.YtjdfjekonnkglaaDoorQB02
import Derived.Test.YtjdfjekonnkglaaDoorQB09
namespace Go.Proofs.YtjdfjekonnkglaaDoor
open Go.RowKit
set_option linter.unusedVariables false
set_option linter.unusedSimpArgs false
theorem infoIntR : ∃ i, Tryd.prog.info? 3 = some i ∧ i.zero = some (.int .i64 0) ∧ i.size = 1 ∧ i.bytes = 8 := by
  have h := infoInt
  cases hi : Tryd.prog.info? 3 with
  | none => rw [hi] at h; simp at h
  | some i => rw [hi] at h; simp at h; exact ⟨i, rfl, h.1, h.2.1, h.2.2⟩
theorem nums_one (l : List Int) : ∀ u ∈ nums .i64 l, u.oneCell' = true := by
  intro u hu
  unfold nums at hu
  obtain ⟨x, _, rfl⟩ := List.mem_map.1 hu
  rfl
theorem SL.cells {w : World} {a : Option Addr} {n c : Nat} {l : List Int} (h : SL w a n c l) : SeesC w.heap.size w a (nums .i64 l) := by
  rcases h.sees with rfl | ⟨b, off, rfl, hb, hc⟩
  · exact .inl rfl
  · refine .inr ⟨b, off, rfl, hb, fun i u hu => ?_⟩
    unfold nums at hu
    have hi : i < l.length := by have := (List.getElem?_eq_some_iff.1 hu).1; simpa using this
    rw [hc i hi]
    simp [hi] at hu
    simp [List.getD, hi, hu]
theorem own_form {w : World} {base : Nat} {v : Value} {n : Nat} {l : List Int} (h : w.ownsRow base 3 1 v n (nums .i64 l)) : ∃ a' c', v = .slice a' n c' ∧ w.ownsRow base 3 1 (.slice a' n c') n (nums .i64 l) := by
  obtain ⟨a2, c2, rfl, _⟩ := seesC_own h
  exact ⟨a2, c2, rfl, h⟩
theorem clone_sl {n : Nat} {a' : Option Addr} {c' : Nat} {l : List Int} {w w' : World} (h : w'.ownsRow w.heap.size 3 1 (.slice a' n c') n (nums .i64 l)) (hn : n ≤ 1000) : SL w' a' n c' l := by
  obtain ⟨a2, c2, e, he, hs⟩ := sees_own h
  injection e with e1 e2 e3
  subst e1
  exact ⟨he, own_cap h, by omega, hs⟩
set_option maxRecDepth 100000 in
set_option maxHeartbeats 4000000 in
theorem rWith_any (a : Option Addr) (n c : Nat) (l : List Int) (i u : Int) (h0 : 1 ≤ i) (h1 : i ≤ (n : Int)) (hn : n ≤ 1000) (w : World) (h : SL w a n c l) : Calls Tryd.prog 44 #[.slice a n c, .int .i64 i, .int .i64 u] w (CloneS n (withV l i u) w) := by
  obtain ⟨i0, hi, hz0, hz1, hz2⟩ := infoIntR
  obtain ⟨j, hj⟩ := Int.eq_ofNat_of_zero_le (show 0 ≤ i - 1 by omega)
  obtain rfl : i = (j : Int) + 1 := by omega
  have hwv : Hid (withV l ((j : Int) + 1) u = l.set j u) := Lib.hid (by unfold withV; rw [show ((j : Int) + 1).toNat - 1 = j by omega])
  have hll : Hid ((nums .i64 l).length = n * 1) := Lib.hid (by simp [nums, h.len])
  have hsc := Lib.hid ((h.below (box_below w #[] 3)).cells)
  have hro : Hid ((w.alloc (.cells #[] 3)).ownsRow w.heap.size 3 1 (.slice (some ⟨w.heap.size, 0, none⟩) 0 0) 0 []) := Lib.hid (own_cells w 3 1 0 #[] (by simp) (by simp [maxLen]))
  have hb0 : Hid (Below w.heap.size w (w.alloc (.cells #[] 3))) := Lib.hid (box_below _ _ _)
  have hki : (j : Int) < (n : Int) := by omega
  have w1 : IntKind.i64.wrap (j : Int) = j := by rw [IntKind.wrap_i64]; omega
  have hjn : j < n := by omega
  have hsl := Lib.hid h.len
  clear h hj h0 h1
  go_enter Tryd.func44, Tryd.ntmps44
  go_upto_region 2 with (at_builtin; refine wpList_append_cellsB _ rfl _ _ 27 rfl w 3 i0 (.int .i64 0) 1 8 Tryd.underlying27 hi hz0 hz1 hz2 rfl (by omega) (.slice (some ⟨w.heap.size, 0, none⟩) 0 0) 0 [] hro.out hb0.out _ a n c (nums .i64 l) hll.out hsc.out (nums_one _) rfl rfl (by unfold maxLen; omega) (by omega) ?_; intro v' w' o2 b2; simp only [List.nil_append, Nat.zero_add] at o2; obtain ⟨a', c', rfl, o3⟩ := own_form o2; have o3' := Lib.hid o3; have b2' := Lib.hid b2; clear o2 b2 o3)
  obtain ⟨b, rfl, fc, ff, hset⟩ : ∃ b, a' = some ⟨b, 0, none⟩ ∧ w'.cell? ⟨b, j, none⟩ = some (.int .i64 (l.getD j 0)) ∧ w'.frozen? ⟨b, j, none⟩ = false ∧ w.heap.size ≤ b := by
    rcases o3'.out.2 with ⟨e, hz⟩ | ⟨b, cap, cur, e, hb, hh, _⟩
    · omega
    · injection e with e1 e2 e3
      subst e1
      refine ⟨b, rfl, ?_, own_free o3'.out j, hb⟩
      have := o3'.out.cells (g := b) rfl j (.int .i64 (l.getD j 0)) (by simp [nums, List.getD, show j < l.length by have := hsl.out; omega])
      rw [add_at, Nat.zero_add] at this
      exact this
  have hfin : Hid (CloneS n (withV l ((j : Int) + 1) u) w (.returned (.slice (some ⟨b, 0, none⟩) n c')) (w'.setCell ⟨b, j, none⟩ (.int .i64 u))) := Lib.hid ⟨_, _, rfl, by
    rw [hwv.out]
    have q := own_set o3'.out j hjn (.int .i64 u)
    have e2 : nums .i64 (l.set j u) = (nums .i64 l).set j (.int .i64 u) := by simp [nums, List.map_set]
    rw [e2]; exact q, b2'.out.setCell (p := ⟨b, j, none⟩) hset _⟩
  generalize l.getD j 0 = u9 at *
  clear hset hjn
  go_wp2
  go_ret
  exact hfin.out
def DoE (l : List Int) (err : Int) (w : World) (e : Ending) (w' : World) : Prop := ∃ a n c, e = .returned (.tuple #[.slice a n c, .int .i64 err]) ∧ SL w' a n c l ∧ Below w.heap.size w w' ∧ (∀ p : Addr, a = some p → w.heap.size ≤ p.block)
set_option maxRecDepth 100000 in
set_option maxHeartbeats 4000000 in
theorem does_1 (x y cc d : Int) (a : Option Addr) (n c : Nat) (l : List Int) (v : Int)  (hn : n ≤ 1000) (w : World) (h : SL w a n c l) : Calls Tryd.prog 27 #[.agg #[.int .i64 1, .int .i64 x, .int .i64 y, .int .i64 cc, .int .i64 d], .slice a n c, .int .i64 v] w (DoE l 0 w) := by
  obtain ⟨W1, hW1⟩ : ∃ W1, W1 = w.alloc (.cells #[.int .i64 1, .int .i64 x, .int .i64 y, .int .i64 cc, .int .i64 d] 54) := ⟨_, rfl⟩
  have BL := Lib.hid (show Below w.heap.size w W1 by rw [hW1]; exact box_below _ _ _)
  have Z := Lib.hid (show Holds W1 w.heap.size 54 #[.int .i64 1, .int .i64 x, .int .i64 y, .int .i64 cc, .int .i64 d] by rw [hW1]; exact Holds.new w _ _)
  have S := Lib.hid (h.below BL.out)
  have hW1' := Lib.hid hW1
  obtain ⟨i0, hi, hz0, hz1, hz2⟩ := infoIntR
  have hll : Hid ((nums .i64 l).length = n * 1) := Lib.hid (by simp [nums, S.out.len])
  have hsc := Lib.hid ((S.out.below (box_below W1 #[] 3)).cells)
  have hro : Hid ((W1.alloc (.cells #[] 3)).ownsRow W1.heap.size 3 1 (.slice (some ⟨W1.heap.size, 0, none⟩) 0 0) 0 []) := Lib.hid (own_cells W1 3 1 0 #[] (by simp) (by simp [maxLen]))
  have hb0 : Hid (Below W1.heap.size W1 (W1.alloc (.cells #[] 3))) := Lib.hid (box_below _ _ _)
  clear h
  have k0 := Z.out.cell 0
  have k1 := Z.out.cell 1
  have k2 := Z.out.cell 2
  have k3 := Z.out.cell 3
  have k4 := Z.out.cell 4
  simp at k0 k1 k2 k3 k4
  rw [hW1] at k0 k1 k2 k3 k4
  clear hW1
  go_enter Tryd.func27, Tryd.ntmps27
  go_upto_region 17 with (fail)
  rw [← hW1'.out]
  go_wp2_with (at_builtin; refine wpList_append_cellsB _ rfl _ _ 27 rfl W1 3 i0 (.int .i64 0) 1 8 Tryd.underlying27 hi hz0 hz1 hz2 rfl (by omega) (.slice (some ⟨W1.heap.size, 0, none⟩) 0 0) 0 [] hro.out hb0.out _ a n c (nums .i64 l) hll.out hsc.out (nums_one _) rfl rfl (by unfold maxLen; omega) (by omega) ?_; intro v' w' o2 b2; simp only [List.nil_append, Nat.zero_add] at o2; obtain ⟨a', c', rfl, o3⟩ := own_form o2; have o3' := Lib.hid o3; have b2' := Lib.hid b2; clear o2 b2 o3)
  go_ret2
  exact ⟨_, _, _, rfl, clone_sl o3'.out hn, BL.out.trans (b2'.out.mono BL.out.size), fun p hp => Nat.le_trans BL.out.size (o3'.out.lt p.block (by rw [hp]; rfl)).1⟩
set_option maxRecDepth 100000 in
set_option maxHeartbeats 4000000 in
theorem does_4t (x y cc d : Int) (a : Option Addr) (n c : Nat) (l : List Int) (v : Int) (hx0 : 0 ≤ x) (hx : x ≤ (n : Int)) (hy0 : 0 ≤ y) (hy : y ≤ (n : Int)) (hl : l.all isV = true) (ho : valAt l x - valAt l y ≤ cc) (hn : n ≤ 1000) (w : World) (h : SL w a n c l) : Calls Tryd.prog 27 #[.agg #[.int .i64 4, .int .i64 x, .int .i64 y, .int .i64 cc, .int .i64 d], .slice a n c, .int .i64 v] w (DoE l 0 w) := by
  obtain ⟨W1, hW1⟩ : ∃ W1, W1 = w.alloc (.cells #[.int .i64 4, .int .i64 x, .int .i64 y, .int .i64 cc, .int .i64 d] 54) := ⟨_, rfl⟩
  have BL := Lib.hid (show Below w.heap.size w W1 by rw [hW1]; exact box_below _ _ _)
  have Z := Lib.hid (show Holds W1 w.heap.size 54 #[.int .i64 4, .int .i64 x, .int .i64 y, .int .i64 cc, .int .i64 d] by rw [hW1]; exact Holds.new w _ _)
  have S := Lib.hid (h.below BL.out)
  have hW1' := Lib.hid hW1
  have qx := Lib.hid (fun W (hW : Below W1.heap.size W1 W) => rValue_any a n c l x hx0 hx W (S.out.below hW))
  have qy := Lib.hid (fun W (hW : Below W1.heap.size W1 W) => rValue_any a n c l y hy0 hy W (S.out.below hW))
  have b1 := valAt_in hl x
  have b2 := valAt_in hl y
  generalize valAt l x = X at *
  generalize valAt l y = Y at *
  have w1 : IntKind.i64.wrap (X - Y) = X - Y := by rw [IntKind.wrap_i64]; omega
  have d1 : decide (cc < X - Y) = false := by simp; omega
  have g1 : ∀ W, Below W1.heap.size W1 W → W.cell? ⟨w.heap.size, 1, none⟩ = some (.int .i64 x) := fun W hW => (Z.out.below hW Z.out.lt).cell 1
  have g2 : ∀ W, Below W1.heap.size W1 W → W.cell? ⟨w.heap.size, 2, none⟩ = some (.int .i64 y) := fun W hW => (Z.out.below hW Z.out.lt).cell 2
  have g3 : ∀ W, Below W1.heap.size W1 W → W.cell? ⟨w.heap.size, 3, none⟩ = some (.int .i64 cc) := fun W hW => (Z.out.below hW Z.out.lt).cell 3
  clear h hx0 hx hy0 hy hl b1 b2 ho
  have k0 := Z.out.cell 0
  have k1 := Z.out.cell 1
  have k2 := Z.out.cell 2
  have k3 := Z.out.cell 3
  have k4 := Z.out.cell 4
  simp at k0 k1 k2 k3 k4
  rw [hW1] at k0 k1 k2 k3 k4
  clear hW1
  go_enter Tryd.func27, Tryd.ntmps27
  go_wp2
  rw [← hW1'.out]
  clear hW1' k0 k1 k2 k3 k4
  refine wp_drawn_on (fun W => Below W1.heap.size W1 W) (by kernel_rfl) ((Below.refl _ _).drew) (fun hHeld => ?_)
  refine wpAnyH_take (i := 0) (oi := { dst := some 47, op := Go.Op.move (Go.Operand.tmp 1), type := 27, pos := "ref.go:54", after := #[], guard := none }) (v := ?v1) rfl (by kernel_rfl) (by kernel_rfl) (by kernel_rfl) (fun _ _ _ h => h) (Or.inl ⟨by kernel_rfl, ?h1⟩) (by assumption) ?r1
  case h1 => (intro w hSw; (try dsimp only at hSw); go_simp; try with_reducible rfl)
  try simp only [Act.put, List.setIfInBounds_toArray, List.set_cons_zero, List.set_cons_succ]
  refine wpAnyH_take (i := 1) (oi := { dst := some 48, op := Go.Op.fieldAddr 54 (Go.Operand.tmp 3) 1, type := 0, pos := "ref.go:54", after := #[], guard := none }) (v := ?v2) rfl (by kernel_rfl) (by kernel_rfl) (by kernel_rfl) (fun _ _ _ h => h) (Or.inl ⟨by kernel_rfl, ?h2⟩) (by assumption) ?r2
  case h2 => (intro w hSw; (try dsimp only at hSw); go_simp; try with_reducible rfl)
  try simp only [Act.put, List.setIfInBounds_toArray, List.set_cons_zero, List.set_cons_succ]
  refine wpAnyH_take (i := 2) (oi := { dst := some 49, op := Go.Op.load 3 (Go.Operand.tmp 48), type := 3, pos := "ref.go:54", after := #[{ on := 1, ground := Go.Ground.data }], guard := none }) (v := ?v3) rfl (by kernel_rfl) (by kernel_rfl) (by kernel_rfl) (fun _ _ _ h => h) (Or.inl ⟨by kernel_rfl, ?h3⟩) (by assumption) ?r3
  case h3 => (intro w hSw; (try dsimp only at hSw); go_simp; try with_reducible rfl)
  try simp only [Act.put, List.setIfInBounds_toArray, List.set_cons_zero, List.set_cons_succ]
  refine wpAnyH_take (i := 4) (oi := { dst := some 51, op := Go.Op.move (Go.Operand.tmp 1), type := 27, pos := "ref.go:54", after := #[], guard := none }) (v := ?v4) rfl (by kernel_rfl) (by kernel_rfl) (by kernel_rfl) (fun _ _ _ h => h) (Or.inl ⟨by kernel_rfl, ?h4⟩) (by assumption) ?r4
  case h4 => (intro w hSw; (try dsimp only at hSw); go_simp; try with_reducible rfl)
  try simp only [Act.put, List.setIfInBounds_toArray, List.set_cons_zero, List.set_cons_succ]
  refine wpAnyH_take (i := 5) (oi := { dst := some 52, op := Go.Op.fieldAddr 54 (Go.Operand.tmp 3) 2, type := 0, pos := "ref.go:54", after := #[], guard := none }) (v := ?v5) rfl (by kernel_rfl) (by kernel_rfl) (by kernel_rfl) (fun _ _ _ h => h) (Or.inl ⟨by kernel_rfl, ?h5⟩) (by assumption) ?r5
  case h5 => (intro w hSw; (try dsimp only at hSw); go_simp; try with_reducible rfl)
  try simp only [Act.put, List.setIfInBounds_toArray, List.set_cons_zero, List.set_cons_succ]
  refine wpAnyH_take (i := 6) (oi := { dst := some 53, op := Go.Op.load 3 (Go.Operand.tmp 52), type := 3, pos := "ref.go:54", after := #[{ on := 5, ground := Go.Ground.data }], guard := none }) (v := ?v6) rfl (by kernel_rfl) (by kernel_rfl) (by kernel_rfl) (fun _ _ _ h => h) (Or.inl ⟨by kernel_rfl, ?h6⟩) (by assumption) ?r6
  case h6 => (intro w hSw; (try dsimp only at hSw); go_simp; try with_reducible rfl)
  try simp only [Act.put, List.setIfInBounds_toArray, List.set_cons_zero, List.set_cons_succ]
  refine wpAnyH_take (i := 9) (oi := { dst := some 56, op := Go.Op.fieldAddr 54 (Go.Operand.tmp 3) 3, type := 0, pos := "ref.go:54", after := #[], guard := none }) (v := ?v7) rfl (by kernel_rfl) (by kernel_rfl) (by kernel_rfl) (fun _ _ _ h => h) (Or.inl ⟨by kernel_rfl, ?h7⟩) (by assumption) ?r7
  case h7 => (intro w hSw; (try dsimp only at hSw); go_simp; try with_reducible rfl)
  try simp only [Act.put, List.setIfInBounds_toArray, List.set_cons_zero, List.set_cons_succ]
  refine wpAnyH_take (i := 10) (oi := { dst := some 57, op := Go.Op.load 3 (Go.Operand.tmp 56), type := 3, pos := "ref.go:54", after := #[{ on := 9, ground := Go.Ground.data }], guard := none }) (v := ?v8) rfl (by kernel_rfl) (by kernel_rfl) (by kernel_rfl) (fun _ _ _ h => h) (Or.inl ⟨by kernel_rfl, ?h8⟩) (by assumption) ?r8
  case h8 => (intro w hSw; (try dsimp only at hSw); go_simp; try with_reducible rfl)
  try simp only [Act.put, List.setIfInBounds_toArray, List.set_cons_zero, List.set_cons_succ]
  refine wpAnyH_ready (rs := [3]) (by kernel_rfl) (by simp) ?_
  refine AllReadyH.cons (o := { dst := some 50, op := Go.Op.call { callee := Go.Callee.value (Go.Operand.func 43), args := #[Go.Operand.tmp 47, Go.Operand.tmp 49], argTypes := #[27, 3] }, type := 3, pos := "ref.go:54", after := #[{ on := 0, ground := Go.Ground.data }, { on := 2, ground := Go.Ground.data }], guard := none }) rfl (fun K hK => ?_) AllReadyH.nil
  go_simp
  with_reducible refine (qx.out _ hHeld).mono ?_
  rintro e t3 ⟨rfl, rfl⟩
  go_simp
  refine hK.out _ _ (hHeld) (fun hHeld => ?_)
  clear hK K
  try simp only [Act.put, List.setIfInBounds_toArray, List.set_cons_zero, List.set_cons_succ]
  refine wpAnyH_ready (rs := [7]) (by kernel_rfl) (by simp) ?_
  refine AllReadyH.cons (o := { dst := some 54, op := Go.Op.call { callee := Go.Callee.value (Go.Operand.func 43), args := #[Go.Operand.tmp 51, Go.Operand.tmp 53], argTypes := #[27, 3] }, type := 3, pos := "ref.go:54", after := #[{ on := 4, ground := Go.Ground.data }, { on := 6, ground := Go.Ground.data }, { on := 3, ground := Go.Ground.chain }], guard := none }) rfl (fun K hK => ?_) AllReadyH.nil
  go_simp
  with_reducible refine (qy.out _ hHeld).mono ?_
  rintro e t7 ⟨rfl, rfl⟩
  go_simp
  refine hK.out _ _ (hHeld) (fun hHeld => ?_)
  clear hK K
  try simp only [Act.put, List.setIfInBounds_toArray, List.set_cons_zero, List.set_cons_succ]
  refine wpAnyH_take (i := 8) (oi := { dst := some 55, op := Go.Op.binOp Go.BinOp.sub 3 (Go.Operand.tmp 50) (Go.Operand.tmp 54) 3, type := 3, pos := "ref.go:54", after := #[{ on := 3, ground := Go.Ground.data }, { on := 7, ground := Go.Ground.data }], guard := none }) (v := ?v9) rfl (by kernel_rfl) (by kernel_rfl) (by kernel_rfl) (fun _ _ _ h => h) (Or.inl ⟨by kernel_rfl, ?h9⟩) (by assumption) ?r9
  case h9 => (intro w hSw; (try dsimp only at hSw); go_simp; try with_reducible rfl)
  try simp only [Act.put, List.setIfInBounds_toArray, List.set_cons_zero, List.set_cons_succ]
  refine wpAnyH_take (i := 11) (oi := { dst := some 58, op := Go.Op.binOp Go.BinOp.gtr 3 (Go.Operand.tmp 55) (Go.Operand.tmp 57) 3, type := 4, pos := "ref.go:54", after := #[{ on := 8, ground := Go.Ground.data }, { on := 10, ground := Go.Ground.data }], guard := none }) (v := ?v10) rfl (by kernel_rfl) (by kernel_rfl) (by kernel_rfl) (fun _ _ _ h => h) (Or.inl ⟨by kernel_rfl, ?h10⟩) (by assumption) ?r10
  case h10 => (intro w hSw; (try dsimp only at hSw); go_simp; try with_reducible rfl)
  try simp only [Act.put, List.setIfInBounds_toArray, List.set_cons_zero, List.set_cons_succ]
  refine wpAnyH_done (by kernel_rfl) ?_ _
  obtain ⟨W2, hW2⟩ : ∃ W2, W2 = W1.drew := ⟨_, rfl⟩
  rw [← hW2] at hHeld ⊢
  replace S := Lib.hid (S.out.below hHeld)
  replace BL := Lib.hid (BL.out.trans (hHeld.mono BL.out.size))
  clear hW2 hHeld g1 g2 g3 qx qy Z
  obtain ⟨i0, hi, hz0, hz1, hz2⟩ := infoIntR
  have hll : Hid ((nums .i64 l).length = n * 1) := Lib.hid (by simp [nums, S.out.len])
  have hsc := Lib.hid ((S.out.below (box_below W2 #[] 3)).cells)
  have hro : Hid ((W2.alloc (.cells #[] 3)).ownsRow W2.heap.size 3 1 (.slice (some ⟨W2.heap.size, 0, none⟩) 0 0) 0 []) := Lib.hid (own_cells W2 3 1 0 #[] (by simp) (by simp [maxLen]))
  have hb0 : Hid (Below W2.heap.size W2 (W2.alloc (.cells #[] 3))) := Lib.hid (box_below _ _ _)
  go_upto_region 17 with (fail)
  go_wp2_with (at_builtin; refine wpList_append_cellsB _ rfl _ _ 27 rfl W2 3 i0 (.int .i64 0) 1 8 Tryd.underlying27 hi hz0 hz1 hz2 rfl (by omega) (.slice (some ⟨W2.heap.size, 0, none⟩) 0 0) 0 [] hro.out hb0.out _ a n c (nums .i64 l) hll.out hsc.out (nums_one _) rfl rfl (by unfold maxLen; omega) (by omega) ?_; intro v' w' o2 b2; simp only [List.nil_append, Nat.zero_add] at o2; obtain ⟨a', c', rfl, o3⟩ := own_form o2; have o3' := Lib.hid o3; have b2' := Lib.hid b2; clear o2 b2 o3)
  go_ret2
  exact ⟨_, _, _, rfl, clone_sl o3'.out hn, BL.out.trans (b2'.out.mono BL.out.size), fun p hp => Nat.le_trans BL.out.size (o3'.out.lt p.block (by rw [hp]; rfl)).1⟩
set_option maxRecDepth 100000 in
set_option maxHeartbeats 4000000 in
theorem does_4f (x y cc d : Int) (a : Option Addr) (n c : Nat) (l : List Int) (v : Int) (hx0 : 0 ≤ x) (hx : x ≤ (n : Int)) (hy0 : 0 ≤ y) (hy : y ≤ (n : Int)) (hl : l.all isV = true) (ho : ¬ valAt l x - valAt l y ≤ cc) (hn : n ≤ 1000) (w : World) (h : SL w a n c l) : Calls Tryd.prog 27 #[.agg #[.int .i64 4, .int .i64 x, .int .i64 y, .int .i64 cc, .int .i64 d], .slice a n c, .int .i64 v] w (DoE [] 130 w) := by
  obtain ⟨W1, hW1⟩ : ∃ W1, W1 = w.alloc (.cells #[.int .i64 4, .int .i64 x, .int .i64 y, .int .i64 cc, .int .i64 d] 54) := ⟨_, rfl⟩
  have BL := Lib.hid (show Below w.heap.size w W1 by rw [hW1]; exact box_below _ _ _)
  have Z := Lib.hid (show Holds W1 w.heap.size 54 #[.int .i64 4, .int .i64 x, .int .i64 y, .int .i64 cc, .int .i64 d] by rw [hW1]; exact Holds.new w _ _)
  have S := Lib.hid (h.below BL.out)
  have hW1' := Lib.hid hW1
  have qx := Lib.hid (fun W (hW : Below W1.heap.size W1 W) => rValue_any a n c l x hx0 hx W (S.out.below hW))
  have qy := Lib.hid (fun W (hW : Below W1.heap.size W1 W) => rValue_any a n c l y hy0 hy W (S.out.below hW))
  have b1 := valAt_in hl x
  have b2 := valAt_in hl y
  generalize valAt l x = X at *
  generalize valAt l y = Y at *
  have w1 : IntKind.i64.wrap (X - Y) = X - Y := by rw [IntKind.wrap_i64]; omega
  have d1 : decide (cc < X - Y) = true := by simp; omega
  have g1 : ∀ W, Below W1.heap.size W1 W → W.cell? ⟨w.heap.size, 1, none⟩ = some (.int .i64 x) := fun W hW => (Z.out.below hW Z.out.lt).cell 1
  have g2 : ∀ W, Below W1.heap.size W1 W → W.cell? ⟨w.heap.size, 2, none⟩ = some (.int .i64 y) := fun W hW => (Z.out.below hW Z.out.lt).cell 2
  have g3 : ∀ W, Below W1.heap.size W1 W → W.cell? ⟨w.heap.size, 3, none⟩ = some (.int .i64 cc) := fun W hW => (Z.out.below hW Z.out.lt).cell 3
  clear h hx0 hx hy0 hy hl b1 b2 ho
  have k0 := Z.out.cell 0
  have k1 := Z.out.cell 1
  have k2 := Z.out.cell 2
  have k3 := Z.out.cell 3
  have k4 := Z.out.cell 4
  simp at k0 k1 k2 k3 k4
  rw [hW1] at k0 k1 k2 k3 k4
  clear hW1
  go_enter Tryd.func27, Tryd.ntmps27
  go_wp2
  rw [← hW1'.out]
  clear hW1' k0 k1 k2 k3 k4
  refine wp_drawn_on (fun W => Below W1.heap.size W1 W) (by kernel_rfl) ((Below.refl _ _).drew) (fun hHeld => ?_)
  refine wpAnyH_take (i := 0) (oi := { dst := some 47, op := Go.Op.move (Go.Operand.tmp 1), type := 27, pos := "ref.go:54", after := #[], guard := none }) (v := ?v11) rfl (by kernel_rfl) (by kernel_rfl) (by kernel_rfl) (fun _ _ _ h => h) (Or.inl ⟨by kernel_rfl, ?h11⟩) (by assumption) ?r11
  case h11 => (intro w hSw; (try dsimp only at hSw); go_simp; try with_reducible rfl)
  try simp only [Act.put, List.setIfInBounds_toArray, List.set_cons_zero, List.set_cons_succ]
  refine wpAnyH_take (i := 1) (oi := { dst := some 48, op := Go.Op.fieldAddr 54 (Go.Operand.tmp 3) 1, type := 0, pos := "ref.go:54", after := #[], guard := none }) (v := ?v12) rfl (by kernel_rfl) (by kernel_rfl) (by kernel_rfl) (fun _ _ _ h => h) (Or.inl ⟨by kernel_rfl, ?h12⟩) (by assumption) ?r12
  case h12 => (intro w hSw; (try dsimp only at hSw); go_simp; try with_reducible rfl)
  try simp only [Act.put, List.setIfInBounds_toArray, List.set_cons_zero, List.set_cons_succ]
  refine wpAnyH_take (i := 2) (oi := { dst := some 49, op := Go.Op.load 3 (Go.Operand.tmp 48), type := 3, pos := "ref.go:54", after := #[{ on := 1, ground := Go.Ground.data }], guard := none }) (v := ?v13) rfl (by kernel_rfl) (by kernel_rfl) (by kernel_rfl) (fun _ _ _ h => h) (Or.inl ⟨by kernel_rfl, ?h13⟩) (by assumption) ?r13
  case h13 => (intro w hSw; (try dsimp only at hSw); go_simp; try with_reducible rfl)
  try simp only [Act.put, List.setIfInBounds_toArray, List.set_cons_zero, List.set_cons_succ]
  refine wpAnyH_take (i := 4) (oi := { dst := some 51, op := Go.Op.move (Go.Operand.tmp 1), type := 27, pos := "ref.go:54", after := #[], guard := none }) (v := ?v14) rfl (by kernel_rfl) (by kernel_rfl) (by kernel_rfl) (fun _ _ _ h => h) (Or.inl ⟨by kernel_rfl, ?h14⟩) (by assumption) ?r14
  case h14 => (intro w hSw; (try dsimp only at hSw); go_simp; try with_reducible rfl)
  try simp only [Act.put, List.setIfInBounds_toArray, List.set_cons_zero, List.set_cons_succ]
  refine wpAnyH_take (i := 5) (oi := { dst := some 52, op := Go.Op.fieldAddr 54 (Go.Operand.tmp 3) 2, type := 0, pos := "ref.go:54", after := #[], guard := none }) (v := ?v15) rfl (by kernel_rfl) (by kernel_rfl) (by kernel_rfl) (fun _ _ _ h => h) (Or.inl ⟨by kernel_rfl, ?h15⟩) (by assumption) ?r15
  case h15 => (intro w hSw; (try dsimp only at hSw); go_simp; try with_reducible rfl)
  try simp only [Act.put, List.setIfInBounds_toArray, List.set_cons_zero, List.set_cons_succ]
  refine wpAnyH_take (i := 6) (oi := { dst := some 53, op := Go.Op.load 3 (Go.Operand.tmp 52), type := 3, pos := "ref.go:54", after := #[{ on := 5, ground := Go.Ground.data }], guard := none }) (v := ?v16) rfl (by kernel_rfl) (by kernel_rfl) (by kernel_rfl) (fun _ _ _ h => h) (Or.inl ⟨by kernel_rfl, ?h16⟩) (by assumption) ?r16
  case h16 => (intro w hSw; (try dsimp only at hSw); go_simp; try with_reducible rfl)
  try simp only [Act.put, List.setIfInBounds_toArray, List.set_cons_zero, List.set_cons_succ]
  refine wpAnyH_take (i := 9) (oi := { dst := some 56, op := Go.Op.fieldAddr 54 (Go.Operand.tmp 3) 3, type := 0, pos := "ref.go:54", after := #[], guard := none }) (v := ?v17) rfl (by kernel_rfl) (by kernel_rfl) (by kernel_rfl) (fun _ _ _ h => h) (Or.inl ⟨by kernel_rfl, ?h17⟩) (by assumption) ?r17
  case h17 => (intro w hSw; (try dsimp only at hSw); go_simp; try with_reducible rfl)
  try simp only [Act.put, List.setIfInBounds_toArray, List.set_cons_zero, List.set_cons_succ]
  refine wpAnyH_take (i := 10) (oi := { dst := some 57, op := Go.Op.load 3 (Go.Operand.tmp 56), type := 3, pos := "ref.go:54", after := #[{ on := 9, ground := Go.Ground.data }], guard := none }) (v := ?v18) rfl (by kernel_rfl) (by kernel_rfl) (by kernel_rfl) (fun _ _ _ h => h) (Or.inl ⟨by kernel_rfl, ?h18⟩) (by assumption) ?r18
  case h18 => (intro w hSw; (try dsimp only at hSw); go_simp; try with_reducible rfl)
  try simp only [Act.put, List.setIfInBounds_toArray, List.set_cons_zero, List.set_cons_succ]
  refine wpAnyH_ready (rs := [3]) (by kernel_rfl) (by simp) ?_
  refine AllReadyH.cons (o := { dst := some 50, op := Go.Op.call { callee := Go.Callee.value (Go.Operand.func 43), args := #[Go.Operand.tmp 47, Go.Operand.tmp 49], argTypes := #[27, 3] }, type := 3, pos := "ref.go:54", after := #[{ on := 0, ground := Go.Ground.data }, { on := 2, ground := Go.Ground.data }], guard := none }) rfl (fun K hK => ?_) AllReadyH.nil
  go_simp
  with_reducible refine (qx.out _ hHeld).mono ?_
  rintro e t3 ⟨rfl, rfl⟩
  go_simp
  refine hK.out _ _ (hHeld) (fun hHeld => ?_)
  clear hK K
  try simp only [Act.put, List.setIfInBounds_toArray, List.set_cons_zero, List.set_cons_succ]
  refine wpAnyH_ready (rs := [7]) (by kernel_rfl) (by simp) ?_
  refine AllReadyH.cons (o := { dst := some 54, op := Go.Op.call { callee := Go.Callee.value (Go.Operand.func 43), args := #[Go.Operand.tmp 51, Go.Operand.tmp 53], argTypes := #[27, 3] }, type := 3, pos := "ref.go:54", after := #[{ on := 4, ground := Go.Ground.data }, { on := 6, ground := Go.Ground.data }, { on := 3, ground := Go.Ground.chain }], guard := none }) rfl (fun K hK => ?_) AllReadyH.nil
  go_simp
  with_reducible refine (qy.out _ hHeld).mono ?_
  rintro e t7 ⟨rfl, rfl⟩
  go_simp
  refine hK.out _ _ (hHeld) (fun hHeld => ?_)
  clear hK K
  try simp only [Act.put, List.setIfInBounds_toArray, List.set_cons_zero, List.set_cons_succ]
  refine wpAnyH_take (i := 8) (oi := { dst := some 55, op := Go.Op.binOp Go.BinOp.sub 3 (Go.Operand.tmp 50) (Go.Operand.tmp 54) 3, type := 3, pos := "ref.go:54", after := #[{ on := 3, ground := Go.Ground.data }, { on := 7, ground := Go.Ground.data }], guard := none }) (v := ?v19) rfl (by kernel_rfl) (by kernel_rfl) (by kernel_rfl) (fun _ _ _ h => h) (Or.inl ⟨by kernel_rfl, ?h19⟩) (by assumption) ?r19
  case h19 => (intro w hSw; (try dsimp only at hSw); go_simp; try with_reducible rfl)
  try simp only [Act.put, List.setIfInBounds_toArray, List.set_cons_zero, List.set_cons_succ]
  refine wpAnyH_take (i := 11) (oi := { dst := some 58, op := Go.Op.binOp Go.BinOp.gtr 3 (Go.Operand.tmp 55) (Go.Operand.tmp 57) 3, type := 4, pos := "ref.go:54", after := #[{ on := 8, ground := Go.Ground.data }, { on := 10, ground := Go.Ground.data }], guard := none }) (v := ?v20) rfl (by kernel_rfl) (by kernel_rfl) (by kernel_rfl) (fun _ _ _ h => h) (Or.inl ⟨by kernel_rfl, ?h20⟩) (by assumption) ?r20
  case h20 => (intro w hSw; (try dsimp only at hSw); go_simp; try with_reducible rfl)
  try simp only [Act.put, List.setIfInBounds_toArray, List.set_cons_zero, List.set_cons_succ]
  refine wpAnyH_done (by kernel_rfl) ?_ _
  obtain ⟨W2, hW2⟩ : ∃ W2, W2 = W1.drew := ⟨_, rfl⟩
  rw [← hW2] at hHeld ⊢
  replace S := Lib.hid (S.out.below hHeld)
  replace BL := Lib.hid (BL.out.trans (hHeld.mono BL.out.size))
  clear hW2 hHeld g1 g2 g3 qx qy Z
  go_wp2
  go_ret2
  exact ⟨none, 0, 0, rfl, SL.nil _, BL.out, fun p hp => by cases hp⟩
set_option maxRecDepth 100000 in
set_option maxHeartbeats 4000000 in
theorem does_5t (x y cc d : Int) (a : Option Addr) (n c : Nat) (l : List Int) (v : Int) (hx0 : 0 ≤ x) (hx : x ≤ (n : Int)) (hy0 : 0 ≤ y) (hy : y ≤ (n : Int)) (hl : l.all isV = true) (ho : valAt l x - valAt l y ≤ cc) (hn : n ≤ 1000) (w : World) (h : SL w a n c l) : Calls Tryd.prog 27 #[.agg #[.int .i64 5, .int .i64 x, .int .i64 y, .int .i64 cc, .int .i64 d], .slice a n c, .int .i64 v] w (DoE l 0 w) := by
  obtain ⟨W1, hW1⟩ : ∃ W1, W1 = w.alloc (.cells #[.int .i64 5, .int .i64 x, .int .i64 y, .int .i64 cc, .int .i64 d] 54) := ⟨_, rfl⟩
  have BL := Lib.hid (show Below w.heap.size w W1 by rw [hW1]; exact box_below _ _ _)
  have Z := Lib.hid (show Holds W1 w.heap.size 54 #[.int .i64 5, .int .i64 x, .int .i64 y, .int .i64 cc, .int .i64 d] by rw [hW1]; exact Holds.new w _ _)
  have S := Lib.hid (h.below BL.out)
  have hW1' := Lib.hid hW1
  have qx := Lib.hid (fun W (hW : Below W1.heap.size W1 W) => rValue_any a n c l x hx0 hx W (S.out.below hW))
  have qy := Lib.hid (fun W (hW : Below W1.heap.size W1 W) => rValue_any a n c l y hy0 hy W (S.out.below hW))
  have b1 := valAt_in hl x
  have b2 := valAt_in hl y
  generalize valAt l x = X at *
  generalize valAt l y = Y at *
  have w1 : IntKind.i64.wrap (X - Y) = X - Y := by rw [IntKind.wrap_i64]; omega
  have d1 : decide (cc < X - Y) = false := by simp; omega
  have g1 : ∀ W, Below W1.heap.size W1 W → W.cell? ⟨w.heap.size, 1, none⟩ = some (.int .i64 x) := fun W hW => (Z.out.below hW Z.out.lt).cell 1
  have g2 : ∀ W, Below W1.heap.size W1 W → W.cell? ⟨w.heap.size, 2, none⟩ = some (.int .i64 y) := fun W hW => (Z.out.below hW Z.out.lt).cell 2
  have g3 : ∀ W, Below W1.heap.size W1 W → W.cell? ⟨w.heap.size, 3, none⟩ = some (.int .i64 cc) := fun W hW => (Z.out.below hW Z.out.lt).cell 3
  clear h hx0 hx hy0 hy hl b1 b2 ho
  have k0 := Z.out.cell 0
  have k1 := Z.out.cell 1
  have k2 := Z.out.cell 2
  have k3 := Z.out.cell 3
  have k4 := Z.out.cell 4
  simp at k0 k1 k2 k3 k4
  rw [hW1] at k0 k1 k2 k3 k4
  clear hW1
  go_enter Tryd.func27, Tryd.ntmps27
  go_wp2
  rw [← hW1'.out]
  clear hW1' k0 k1 k2 k3 k4
  refine wp_drawn_on (fun W => Below W1.heap.size W1 W) (by kernel_rfl) ((Below.refl _ _).drew) (fun hHeld => ?_)
  refine wpAnyH_take (i := 0) (oi := { dst := some 61, op := Go.Op.move (Go.Operand.tmp 1), type := 27, pos := "ref.go:58", after := #[], guard := none }) (v := ?v21) rfl (by kernel_rfl) (by kernel_rfl) (by kernel_rfl) (fun _ _ _ h => h) (Or.inl ⟨by kernel_rfl, ?h21⟩) (by assumption) ?r21
  case h21 => (intro w hSw; (try dsimp only at hSw); go_simp; try with_reducible rfl)
  try simp only [Act.put, List.setIfInBounds_toArray, List.set_cons_zero, List.set_cons_succ]
  refine wpAnyH_take (i := 1) (oi := { dst := some 62, op := Go.Op.fieldAddr 54 (Go.Operand.tmp 3) 1, type := 0, pos := "ref.go:58", after := #[], guard := none }) (v := ?v22) rfl (by kernel_rfl) (by kernel_rfl) (by kernel_rfl) (fun _ _ _ h => h) (Or.inl ⟨by kernel_rfl, ?h22⟩) (by assumption) ?r22
  case h22 => (intro w hSw; (try dsimp only at hSw); go_simp; try with_reducible rfl)
  try simp only [Act.put, List.setIfInBounds_toArray, List.set_cons_zero, List.set_cons_succ]
  refine wpAnyH_take (i := 2) (oi := { dst := some 63, op := Go.Op.load 3 (Go.Operand.tmp 62), type := 3, pos := "ref.go:58", after := #[{ on := 1, ground := Go.Ground.data }], guard := none }) (v := ?v23) rfl (by kernel_rfl) (by kernel_rfl) (by kernel_rfl) (fun _ _ _ h => h) (Or.inl ⟨by kernel_rfl, ?h23⟩) (by assumption) ?r23
  case h23 => (intro w hSw; (try dsimp only at hSw); go_simp; try with_reducible rfl)
  try simp only [Act.put, List.setIfInBounds_toArray, List.set_cons_zero, List.set_cons_succ]
  refine wpAnyH_take (i := 4) (oi := { dst := some 65, op := Go.Op.move (Go.Operand.tmp 1), type := 27, pos := "ref.go:58", after := #[], guard := none }) (v := ?v24) rfl (by kernel_rfl) (by kernel_rfl) (by kernel_rfl) (fun _ _ _ h => h) (Or.inl ⟨by kernel_rfl, ?h24⟩) (by assumption) ?r24
  case h24 => (intro w hSw; (try dsimp only at hSw); go_simp; try with_reducible rfl)
  try simp only [Act.put, List.setIfInBounds_toArray, List.set_cons_zero, List.set_cons_succ]
  refine wpAnyH_take (i := 5) (oi := { dst := some 66, op := Go.Op.fieldAddr 54 (Go.Operand.tmp 3) 2, type := 0, pos := "ref.go:58", after := #[], guard := none }) (v := ?v25) rfl (by kernel_rfl) (by kernel_rfl) (by kernel_rfl) (fun _ _ _ h => h) (Or.inl ⟨by kernel_rfl, ?h25⟩) (by assumption) ?r25
  case h25 => (intro w hSw; (try dsimp only at hSw); go_simp; try with_reducible rfl)
  try simp only [Act.put, List.setIfInBounds_toArray, List.set_cons_zero, List.set_cons_succ]
  refine wpAnyH_take (i := 6) (oi := { dst := some 67, op := Go.Op.load 3 (Go.Operand.tmp 66), type := 3, pos := "ref.go:58", after := #[{ on := 5, ground := Go.Ground.data }], guard := none }) (v := ?v26) rfl (by kernel_rfl) (by kernel_rfl) (by kernel_rfl) (fun _ _ _ h => h) (Or.inl ⟨by kernel_rfl, ?h26⟩) (by assumption) ?r26
  case h26 => (intro w hSw; (try dsimp only at hSw); go_simp; try with_reducible rfl)
  try simp only [Act.put, List.setIfInBounds_toArray, List.set_cons_zero, List.set_cons_succ]
  refine wpAnyH_take (i := 9) (oi := { dst := some 70, op := Go.Op.fieldAddr 54 (Go.Operand.tmp 3) 3, type := 0, pos := "ref.go:58", after := #[], guard := none }) (v := ?v27) rfl (by kernel_rfl) (by kernel_rfl) (by kernel_rfl) (fun _ _ _ h => h) (Or.inl ⟨by kernel_rfl, ?h27⟩) (by assumption) ?r27
  case h27 => (intro w hSw; (try dsimp only at hSw); go_simp; try with_reducible rfl)
  try simp only [Act.put, List.setIfInBounds_toArray, List.set_cons_zero, List.set_cons_succ]
  refine wpAnyH_take (i := 10) (oi := { dst := some 71, op := Go.Op.load 3 (Go.Operand.tmp 70), type := 3, pos := "ref.go:58", after := #[{ on := 9, ground := Go.Ground.data }], guard := none }) (v := ?v28) rfl (by kernel_rfl) (by kernel_rfl) (by kernel_rfl) (fun _ _ _ h => h) (Or.inl ⟨by kernel_rfl, ?h28⟩) (by assumption) ?r28
  case h28 => (intro w hSw; (try dsimp only at hSw); go_simp; try with_reducible rfl)
  try simp only [Act.put, List.setIfInBounds_toArray, List.set_cons_zero, List.set_cons_succ]
  refine wpAnyH_ready (rs := [3]) (by kernel_rfl) (by simp) ?_
  refine AllReadyH.cons (o := { dst := some 64, op := Go.Op.call { callee := Go.Callee.value (Go.Operand.func 43), args := #[Go.Operand.tmp 61, Go.Operand.tmp 63], argTypes := #[27, 3] }, type := 3, pos := "ref.go:58", after := #[{ on := 0, ground := Go.Ground.data }, { on := 2, ground := Go.Ground.data }], guard := none }) rfl (fun K hK => ?_) AllReadyH.nil
  go_simp
  with_reducible refine (qx.out _ hHeld).mono ?_
  rintro e t3 ⟨rfl, rfl⟩
  go_simp
  refine hK.out _ _ (hHeld) (fun hHeld => ?_)
  clear hK K
  try simp only [Act.put, List.setIfInBounds_toArray, List.set_cons_zero, List.set_cons_succ]
  refine wpAnyH_ready (rs := [7]) (by kernel_rfl) (by simp) ?_
  refine AllReadyH.cons (o := { dst := some 68, op := Go.Op.call { callee := Go.Callee.value (Go.Operand.func 43), args := #[Go.Operand.tmp 65, Go.Operand.tmp 67], argTypes := #[27, 3] }, type := 3, pos := "ref.go:58", after := #[{ on := 4, ground := Go.Ground.data }, { on := 6, ground := Go.Ground.data }, { on := 3, ground := Go.Ground.chain }], guard := none }) rfl (fun K hK => ?_) AllReadyH.nil
  go_simp
  with_reducible refine (qy.out _ hHeld).mono ?_
  rintro e t7 ⟨rfl, rfl⟩
  go_simp
  refine hK.out _ _ (hHeld) (fun hHeld => ?_)
  clear hK K
  try simp only [Act.put, List.setIfInBounds_toArray, List.set_cons_zero, List.set_cons_succ]
  refine wpAnyH_take (i := 8) (oi := { dst := some 69, op := Go.Op.binOp Go.BinOp.sub 3 (Go.Operand.tmp 64) (Go.Operand.tmp 68) 3, type := 3, pos := "ref.go:58", after := #[{ on := 3, ground := Go.Ground.data }, { on := 7, ground := Go.Ground.data }], guard := none }) (v := ?v29) rfl (by kernel_rfl) (by kernel_rfl) (by kernel_rfl) (fun _ _ _ h => h) (Or.inl ⟨by kernel_rfl, ?h29⟩) (by assumption) ?r29
  case h29 => (intro w hSw; (try dsimp only at hSw); go_simp; try with_reducible rfl)
  try simp only [Act.put, List.setIfInBounds_toArray, List.set_cons_zero, List.set_cons_succ]
  refine wpAnyH_take (i := 11) (oi := { dst := some 72, op := Go.Op.binOp Go.BinOp.gtr 3 (Go.Operand.tmp 69) (Go.Operand.tmp 71) 3, type := 4, pos := "ref.go:58", after := #[{ on := 8, ground := Go.Ground.data }, { on := 10, ground := Go.Ground.data }], guard := none }) (v := ?v30) rfl (by kernel_rfl) (by kernel_rfl) (by kernel_rfl) (fun _ _ _ h => h) (Or.inl ⟨by kernel_rfl, ?h30⟩) (by assumption) ?r30
  case h30 => (intro w hSw; (try dsimp only at hSw); go_simp; try with_reducible rfl)
  try simp only [Act.put, List.setIfInBounds_toArray, List.set_cons_zero, List.set_cons_succ]
  refine wpAnyH_done (by kernel_rfl) ?_ _
  obtain ⟨W2, hW2⟩ : ∃ W2, W2 = W1.drew := ⟨_, rfl⟩
  rw [← hW2] at hHeld ⊢
  replace S := Lib.hid (S.out.below hHeld)
  replace BL := Lib.hid (BL.out.trans (hHeld.mono BL.out.size))
  clear hW2 hHeld g1 g2 g3 qx qy Z
  obtain ⟨i0, hi, hz0, hz1, hz2⟩ := infoIntR
  have hll : Hid ((nums .i64 l).length = n * 1) := Lib.hid (by simp [nums, S.out.len])
  have hsc := Lib.hid ((S.out.below (box_below W2 #[] 3)).cells)
  have hro : Hid ((W2.alloc (.cells #[] 3)).ownsRow W2.heap.size 3 1 (.slice (some ⟨W2.heap.size, 0, none⟩) 0 0) 0 []) := Lib.hid (own_cells W2 3 1 0 #[] (by simp) (by simp [maxLen]))
  have hb0 : Hid (Below W2.heap.size W2 (W2.alloc (.cells #[] 3))) := Lib.hid (box_below _ _ _)
  go_upto_region 17 with (fail)
  go_wp2_with (at_builtin; refine wpList_append_cellsB _ rfl _ _ 27 rfl W2 3 i0 (.int .i64 0) 1 8 Tryd.underlying27 hi hz0 hz1 hz2 rfl (by omega) (.slice (some ⟨W2.heap.size, 0, none⟩) 0 0) 0 [] hro.out hb0.out _ a n c (nums .i64 l) hll.out hsc.out (nums_one _) rfl rfl (by unfold maxLen; omega) (by omega) ?_; intro v' w' o2 b2; simp only [List.nil_append, Nat.zero_add] at o2; obtain ⟨a', c', rfl, o3⟩ := own_form o2; have o3' := Lib.hid o3; have b2' := Lib.hid b2; clear o2 b2 o3)
  go_ret2
  exact ⟨_, _, _, rfl, clone_sl o3'.out hn, BL.out.trans (b2'.out.mono BL.out.size), fun p hp => Nat.le_trans BL.out.size (o3'.out.lt p.block (by rw [hp]; rfl)).1⟩
set_option maxRecDepth 100000 in
set_option maxHeartbeats 4000000 in
theorem does_5f (x y cc d : Int) (a : Option Addr) (n c : Nat) (l : List Int) (v : Int) (hx0 : 0 ≤ x) (hx : x ≤ (n : Int)) (hy0 : 0 ≤ y) (hy : y ≤ (n : Int)) (hl : l.all isV = true) (ho : ¬ valAt l x - valAt l y ≤ cc) (hn : n ≤ 1000) (w : World) (h : SL w a n c l) : Calls Tryd.prog 27 #[.agg #[.int .i64 5, .int .i64 x, .int .i64 y, .int .i64 cc, .int .i64 d], .slice a n c, .int .i64 v] w (DoE [] 131 w) := by
  obtain ⟨W1, hW1⟩ : ∃ W1, W1 = w.alloc (.cells #[.int .i64 5, .int .i64 x, .int .i64 y, .int .i64 cc, .int .i64 d] 54) := ⟨_, rfl⟩
  have BL := Lib.hid (show Below w.heap.size w W1 by rw [hW1]; exact box_below _ _ _)
  have Z := Lib.hid (show Holds W1 w.heap.size 54 #[.int .i64 5, .int .i64 x, .int .i64 y, .int .i64 cc, .int .i64 d] by rw [hW1]; exact Holds.new w _ _)
  have S := Lib.hid (h.below BL.out)
  have hW1' := Lib.hid hW1
  have qx := Lib.hid (fun W (hW : Below W1.heap.size W1 W) => rValue_any a n c l x hx0 hx W (S.out.below hW))
  have qy := Lib.hid (fun W (hW : Below W1.heap.size W1 W) => rValue_any a n c l y hy0 hy W (S.out.below hW))
  have b1 := valAt_in hl x
  have b2 := valAt_in hl y
  generalize valAt l x = X at *
  generalize valAt l y = Y at *
  have w1 : IntKind.i64.wrap (X - Y) = X - Y := by rw [IntKind.wrap_i64]; omega
  have d1 : decide (cc < X - Y) = true := by simp; omega
  have g1 : ∀ W, Below W1.heap.size W1 W → W.cell? ⟨w.heap.size, 1, none⟩ = some (.int .i64 x) := fun W hW => (Z.out.below hW Z.out.lt).cell 1
  have g2 : ∀ W, Below W1.heap.size W1 W → W.cell? ⟨w.heap.size, 2, none⟩ = some (.int .i64 y) := fun W hW => (Z.out.below hW Z.out.lt).cell 2
  have g3 : ∀ W, Below W1.heap.size W1 W → W.cell? ⟨w.heap.size, 3, none⟩ = some (.int .i64 cc) := fun W hW => (Z.out.below hW Z.out.lt).cell 3
  clear h hx0 hx hy0 hy hl b1 b2 ho
  have k0 := Z.out.cell 0
  have k1 := Z.out.cell 1
  have k2 := Z.out.cell 2
  have k3 := Z.out.cell 3
  have k4 := Z.out.cell 4
  simp at k0 k1 k2 k3 k4
  rw [hW1] at k0 k1 k2 k3 k4
  clear hW1
  go_enter Tryd.func27, Tryd.ntmps27
  go_wp2
  rw [← hW1'.out]
  clear hW1' k0 k1 k2 k3 k4
  refine wp_drawn_on (fun W => Below W1.heap.size W1 W) (by kernel_rfl) ((Below.refl _ _).drew) (fun hHeld => ?_)
  refine wpAnyH_take (i := 0) (oi := { dst := some 61, op := Go.Op.move (Go.Operand.tmp 1), type := 27, pos := "ref.go:58", after := #[], guard := none }) (v := ?v31) rfl (by kernel_rfl) (by kernel_rfl) (by kernel_rfl) (fun _ _ _ h => h) (Or.inl ⟨by kernel_rfl, ?h31⟩) (by assumption) ?r31
  case h31 => (intro w hSw; (try dsimp only at hSw); go_simp; try with_reducible rfl)
  try simp only [Act.put, List.setIfInBounds_toArray, List.set_cons_zero, List.set_cons_succ]
  refine wpAnyH_take (i := 1) (oi := { dst := some 62, op := Go.Op.fieldAddr 54 (Go.Operand.tmp 3) 1, type := 0, pos := "ref.go:58", after := #[], guard := none }) (v := ?v32) rfl (by kernel_rfl) (by kernel_rfl) (by kernel_rfl) (fun _ _ _ h => h) (Or.inl ⟨by kernel_rfl, ?h32⟩) (by assumption) ?r32
  case h32 => (intro w hSw; (try dsimp only at hSw); go_simp; try with_reducible rfl)
  try simp only [Act.put, List.setIfInBounds_toArray, List.set_cons_zero, List.set_cons_succ]
  refine wpAnyH_take (i := 2) (oi := { dst := some 63, op := Go.Op.load 3 (Go.Operand.tmp 62), type := 3, pos := "ref.go:58", after := #[{ on := 1, ground := Go.Ground.data }], guard := none }) (v := ?v33) rfl (by kernel_rfl) (by kernel_rfl) (by kernel_rfl) (fun _ _ _ h => h) (Or.inl ⟨by kernel_rfl, ?h33⟩) (by assumption) ?r33
  case h33 => (intro w hSw; (try dsimp only at hSw); go_simp; try with_reducible rfl)
  try simp only [Act.put, List.setIfInBounds_toArray, List.set_cons_zero, List.set_cons_succ]
  refine wpAnyH_take (i := 4) (oi := { dst := some 65, op := Go.Op.move (Go.Operand.tmp 1), type := 27, pos := "ref.go:58", after := #[], guard := none }) (v := ?v34) rfl (by kernel_rfl) (by kernel_rfl) (by kernel_rfl) (fun _ _ _ h => h) (Or.inl ⟨by kernel_rfl, ?h34⟩) (by assumption) ?r34
  case h34 => (intro w hSw; (try dsimp only at hSw); go_simp; try with_reducible rfl)
  try simp only [Act.put, List.setIfInBounds_toArray, List.set_cons_zero, List.set_cons_succ]
  refine wpAnyH_take (i := 5) (oi := { dst := some 66, op := Go.Op.fieldAddr 54 (Go.Operand.tmp 3) 2, type := 0, pos := "ref.go:58", after := #[], guard := none }) (v := ?v35) rfl (by kernel_rfl) (by kernel_rfl) (by kernel_rfl) (fun _ _ _ h => h) (Or.inl ⟨by kernel_rfl, ?h35⟩) (by assumption) ?r35
  case h35 => (intro w hSw; (try dsimp only at hSw); go_simp; try with_reducible rfl)
  try simp only [Act.put, List.setIfInBounds_toArray, List.set_cons_zero, List.set_cons_succ]
  refine wpAnyH_take (i := 6) (oi := { dst := some 67, op := Go.Op.load 3 (Go.Operand.tmp 66), type := 3, pos := "ref.go:58", after := #[{ on := 5, ground := Go.Ground.data }], guard := none }) (v := ?v36) rfl (by kernel_rfl) (by kernel_rfl) (by kernel_rfl) (fun _ _ _ h => h) (Or.inl ⟨by kernel_rfl, ?h36⟩) (by assumption) ?r36
  case h36 => (intro w hSw; (try dsimp only at hSw); go_simp; try with_reducible rfl)
  try simp only [Act.put, List.setIfInBounds_toArray, List.set_cons_zero, List.set_cons_succ]
  refine wpAnyH_take (i := 9) (oi := { dst := some 70, op := Go.Op.fieldAddr 54 (Go.Operand.tmp 3) 3, type := 0, pos := "ref.go:58", after := #[], guard := none }) (v := ?v37) rfl (by kernel_rfl) (by kernel_rfl) (by kernel_rfl) (fun _ _ _ h => h) (Or.inl ⟨by kernel_rfl, ?h37⟩) (by assumption) ?r37
  case h37 => (intro w hSw; (try dsimp only at hSw); go_simp; try with_reducible rfl)
  try simp only [Act.put, List.setIfInBounds_toArray, List.set_cons_zero, List.set_cons_succ]
  refine wpAnyH_take (i := 10) (oi := { dst := some 71, op := Go.Op.load 3 (Go.Operand.tmp 70), type := 3, pos := "ref.go:58", after := #[{ on := 9, ground := Go.Ground.data }], guard := none }) (v := ?v38) rfl (by kernel_rfl) (by kernel_rfl) (by kernel_rfl) (fun _ _ _ h => h) (Or.inl ⟨by kernel_rfl, ?h38⟩) (by assumption) ?r38
  case h38 => (intro w hSw; (try dsimp only at hSw); go_simp; try with_reducible rfl)
  try simp only [Act.put, List.setIfInBounds_toArray, List.set_cons_zero, List.set_cons_succ]
  refine wpAnyH_ready (rs := [3]) (by kernel_rfl) (by simp) ?_
  refine AllReadyH.cons (o := { dst := some 64, op := Go.Op.call { callee := Go.Callee.value (Go.Operand.func 43), args := #[Go.Operand.tmp 61, Go.Operand.tmp 63], argTypes := #[27, 3] }, type := 3, pos := "ref.go:58", after := #[{ on := 0, ground := Go.Ground.data }, { on := 2, ground := Go.Ground.data }], guard := none }) rfl (fun K hK => ?_) AllReadyH.nil
  go_simp
  with_reducible refine (qx.out _ hHeld).mono ?_
  rintro e t3 ⟨rfl, rfl⟩
  go_simp
  refine hK.out _ _ (hHeld) (fun hHeld => ?_)
  clear hK K
  try simp only [Act.put, List.setIfInBounds_toArray, List.set_cons_zero, List.set_cons_succ]
  refine wpAnyH_ready (rs := [7]) (by kernel_rfl) (by simp) ?_
  refine AllReadyH.cons (o := { dst := some 68, op := Go.Op.call { callee := Go.Callee.value (Go.Operand.func 43), args := #[Go.Operand.tmp 65, Go.Operand.tmp 67], argTypes := #[27, 3] }, type := 3, pos := "ref.go:58", after := #[{ on := 4, ground := Go.Ground.data }, { on := 6, ground := Go.Ground.data }, { on := 3, ground := Go.Ground.chain }], guard := none }) rfl (fun K hK => ?_) AllReadyH.nil
  go_simp
  with_reducible refine (qy.out _ hHeld).mono ?_
  rintro e t7 ⟨rfl, rfl⟩
  go_simp
  refine hK.out _ _ (hHeld) (fun hHeld => ?_)
  clear hK K
  try simp only [Act.put, List.setIfInBounds_toArray, List.set_cons_zero, List.set_cons_succ]
  refine wpAnyH_take (i := 8) (oi := { dst := some 69, op := Go.Op.binOp Go.BinOp.sub 3 (Go.Operand.tmp 64) (Go.Operand.tmp 68) 3, type := 3, pos := "ref.go:58", after := #[{ on := 3, ground := Go.Ground.data }, { on := 7, ground := Go.Ground.data }], guard := none }) (v := ?v39) rfl (by kernel_rfl) (by kernel_rfl) (by kernel_rfl) (fun _ _ _ h => h) (Or.inl ⟨by kernel_rfl, ?h39⟩) (by assumption) ?r39
  case h39 => (intro w hSw; (try dsimp only at hSw); go_simp; try with_reducible rfl)
  try simp only [Act.put, List.setIfInBounds_toArray, List.set_cons_zero, List.set_cons_succ]
  refine wpAnyH_take (i := 11) (oi := { dst := some 72, op := Go.Op.binOp Go.BinOp.gtr 3 (Go.Operand.tmp 69) (Go.Operand.tmp 71) 3, type := 4, pos := "ref.go:58", after := #[{ on := 8, ground := Go.Ground.data }, { on := 10, ground := Go.Ground.data }], guard := none }) (v := ?v40) rfl (by kernel_rfl) (by kernel_rfl) (by kernel_rfl) (fun _ _ _ h => h) (Or.inl ⟨by kernel_rfl, ?h40⟩) (by assumption) ?r40
  case h40 => (intro w hSw; (try dsimp only at hSw); go_simp; try with_reducible rfl)
  try simp only [Act.put, List.setIfInBounds_toArray, List.set_cons_zero, List.set_cons_succ]
  refine wpAnyH_done (by kernel_rfl) ?_ _
  obtain ⟨W2, hW2⟩ : ∃ W2, W2 = W1.drew := ⟨_, rfl⟩
  rw [← hW2] at hHeld ⊢
  replace S := Lib.hid (S.out.below hHeld)
  replace BL := Lib.hid (BL.out.trans (hHeld.mono BL.out.size))
  clear hW2 hHeld g1 g2 g3 qx qy Z
  go_wp2
  go_ret2
  exact ⟨none, 0, 0, rfl, SL.nil _, BL.out, fun p hp => by cases hp⟩
set_option maxRecDepth 100000 in
set_option maxHeartbeats 4000000 in
theorem does_3t (x y cc d : Int) (a : Option Addr) (n c : Nat) (l : List Int) (v : Int) (hx0 : 1 ≤ x) (hx : x ≤ (n : Int)) (h1 : cc ≤ v) (h2 : v ≤ d) (hn : n ≤ 1000) (w : World) (h : SL w a n c l) : Calls Tryd.prog 27 #[.agg #[.int .i64 3, .int .i64 x, .int .i64 y, .int .i64 cc, .int .i64 d], .slice a n c, .int .i64 v] w (DoE (withV l x v) 0 w) := by
  obtain ⟨W1, hW1⟩ : ∃ W1, W1 = w.alloc (.cells #[.int .i64 3, .int .i64 x, .int .i64 y, .int .i64 cc, .int .i64 d] 54) := ⟨_, rfl⟩
  have BL := Lib.hid (show Below w.heap.size w W1 by rw [hW1]; exact box_below _ _ _)
  have Z := Lib.hid (show Holds W1 w.heap.size 54 #[.int .i64 3, .int .i64 x, .int .i64 y, .int .i64 cc, .int .i64 d] by rw [hW1]; exact Holds.new w _ _)
  have S := Lib.hid (h.below BL.out)
  have hW1' := Lib.hid hW1
  have qw := Lib.hid (fun W hW => rWith_any a n c l x v hx0 hx hn W hW)
  have hwl := Lib.hid (withV_len l x v)
  generalize withV l x v = L2 at *
  clear h hx0 hx
  have k0 := Z.out.cell 0
  have k1 := Z.out.cell 1
  have k2 := Z.out.cell 2
  have k3 := Z.out.cell 3
  have k4 := Z.out.cell 4
  simp at k0 k1 k2 k3 k4
  rw [hW1] at k0 k1 k2 k3 k4
  clear hW1
  have d1 : decide (v < cc) = false := by simp; omega
  have d2 : decide (d < v) = false := by simp; omega
  go_enter Tryd.func27, Tryd.ntmps27
  go_wp2_with fail
  rw [← hW1'.out]
  with_reducible refine (qw.out _ S.out).mono ?_
  rintro e W2 ⟨a', c', rfl, o2, b2⟩
  have o2' := Lib.hid o2
  have b2' := Lib.hid b2
  clear o2 b2 k0 k1 k2 k3 k4
  go_wp2
  go_ret2
  exact ⟨_, _, _, rfl, clone_sl o2'.out hn, BL.out.trans (b2'.out.mono BL.out.size), fun p hp => Nat.le_trans BL.out.size (o2'.out.lt p.block (by rw [hp]; rfl)).1⟩
set_option maxRecDepth 100000 in
set_option maxHeartbeats 4000000 in
theorem does_3f (x y cc d : Int) (a : Option Addr) (n c : Nat) (l : List Int) (v : Int) (hx0 : 1 ≤ x) (hx : x ≤ (n : Int)) (h12 : ¬ (cc ≤ v ∧ v ≤ d)) (hn : n ≤ 1000) (w : World) (h : SL w a n c l) : Calls Tryd.prog 27 #[.agg #[.int .i64 3, .int .i64 x, .int .i64 y, .int .i64 cc, .int .i64 d], .slice a n c, .int .i64 v] w (DoE [] 130 w) := by
  obtain ⟨W1, hW1⟩ : ∃ W1, W1 = w.alloc (.cells #[.int .i64 3, .int .i64 x, .int .i64 y, .int .i64 cc, .int .i64 d] 54) := ⟨_, rfl⟩
  have BL := Lib.hid (show Below w.heap.size w W1 by rw [hW1]; exact box_below _ _ _)
  have Z := Lib.hid (show Holds W1 w.heap.size 54 #[.int .i64 3, .int .i64 x, .int .i64 y, .int .i64 cc, .int .i64 d] by rw [hW1]; exact Holds.new w _ _)
  have S := Lib.hid (h.below BL.out)
  have hW1' := Lib.hid hW1
  have qw := Lib.hid (fun W hW => rWith_any a n c l x v hx0 hx hn W hW)
  have hwl := Lib.hid (withV_len l x v)
  generalize withV l x v = L2 at *
  clear h hx0 hx
  have k0 := Z.out.cell 0
  have k1 := Z.out.cell 1
  have k2 := Z.out.cell 2
  have k3 := Z.out.cell 3
  have k4 := Z.out.cell 4
  simp at k0 k1 k2 k3 k4
  rw [hW1] at k0 k1 k2 k3 k4
  clear hW1
  by_cases h1 : v < cc
  · have d1 : decide (v < cc) = true := decide_eq_true h1
    clear h12
    go_enter Tryd.func27, Tryd.ntmps27
    go_wp2
    go_ret2
    rw [← hW1'.out]
    exact ⟨none, 0, 0, rfl, SL.nil _, BL.out, fun p hp => by cases hp⟩
  · have d1 : decide (v < cc) = false := decide_eq_false h1
    have d2 : decide (d < v) = true := by simp; omega
    clear h12
    go_enter Tryd.func27, Tryd.ntmps27
    go_wp2
    go_ret2
    rw [← hW1'.out]
    exact ⟨none, 0, 0, rfl, SL.nil _, BL.out, fun p hp => by cases hp⟩
set_option maxRecDepth 100000 in
set_option maxHeartbeats 4000000 in
theorem does_2t (x y cc d : Int) (a : Option Addr) (n c : Nat) (l : List Int) (v : Int) (hx0 : 1 ≤ x) (hx : x ≤ (n : Int)) (hy0 : 0 ≤ y) (hy : y ≤ (n : Int)) (hl : l.all isV = true) (hc : isV cc = true) (ho : isV (valAt l y + cc) = true) (hn : n ≤ 1000) (w : World) (h : SL w a n c l) : Calls Tryd.prog 27 #[.agg #[.int .i64 2, .int .i64 x, .int .i64 y, .int .i64 cc, .int .i64 d], .slice a n c, .int .i64 v] w (DoE (withV l x (valAt l y + cc)) 0 w) := by
  obtain ⟨W1, hW1⟩ : ∃ W1, W1 = w.alloc (.cells #[.int .i64 2, .int .i64 x, .int .i64 y, .int .i64 cc, .int .i64 d] 54) := ⟨_, rfl⟩
  have BL := Lib.hid (show Below w.heap.size w W1 by rw [hW1]; exact box_below _ _ _)
  have Z := Lib.hid (show Holds W1 w.heap.size 54 #[.int .i64 2, .int .i64 x, .int .i64 y, .int .i64 cc, .int .i64 d] by rw [hW1]; exact Holds.new w _ _)
  have S := Lib.hid (h.below BL.out)
  have hW1' := Lib.hid hW1
  have qy := Lib.hid (fun W (hW : Below W1.heap.size W1 W) => rValue_any a n c l y hy0 hy W (S.out.below hW))
  have qi := Lib.hid (fun W => refis_any (valAt l y + cc) W)
  rw [ho] at qi
  have qw := Lib.hid (fun W hW => rWith_any a n c l x (valAt l y + cc) hx0 hx hn W hW)
  have b1 := valAt_in hl y
  have b2 := (isV_iff cc).1 hc
  generalize valAt l y = Y at *
  have w1 : IntKind.i64.wrap (Y + cc) = Y + cc := by rw [IntKind.wrap_i64]; omega
  generalize withV l x (Y + cc) = L2 at *
  have g2 : ∀ W, Below W1.heap.size W1 W → W.cell? ⟨w.heap.size, 2, none⟩ = some (.int .i64 y) := fun W hW => (Z.out.below hW Z.out.lt).cell 2
  have g3 : ∀ W, Below W1.heap.size W1 W → W.cell? ⟨w.heap.size, 3, none⟩ = some (.int .i64 cc) := fun W hW => (Z.out.below hW Z.out.lt).cell 3
  clear h hx0 hx hy0 hy hl hc b1 b2 ho
  have k0 := Z.out.cell 0
  have k1 := Z.out.cell 1
  have k2 := Z.out.cell 2
  have k3 := Z.out.cell 3
  have k4 := Z.out.cell 4
  simp at k0 k1 k2 k3 k4
  rw [hW1] at k0 k1 k2 k3 k4
  clear hW1
  go_enter Tryd.func27, Tryd.ntmps27
  go_wp2
  rw [← hW1'.out]
  clear hW1' k0 k1 k2 k3 k4
  refine wp_drawn_on (fun W => Below W1.heap.size W1 W) (by kernel_rfl) ((Below.refl _ _).drew) (fun hHeld => ?_)
  refine wpAnyH_take (i := 0) (oi := { dst := some 13, op := Go.Op.move (Go.Operand.tmp 1), type := 27, pos := "ref.go:43", after := #[], guard := none }) (v := ?v41) rfl (by kernel_rfl) (by kernel_rfl) (by kernel_rfl) (fun _ _ _ h => h) (Or.inl ⟨by kernel_rfl, ?h41⟩) (by assumption) ?r41
  case h41 => (intro w hSw; (try dsimp only at hSw); go_simp; try with_reducible rfl)
  try simp only [Act.put, List.setIfInBounds_toArray, List.set_cons_zero, List.set_cons_succ]
  refine wpAnyH_take (i := 1) (oi := { dst := some 14, op := Go.Op.fieldAddr 54 (Go.Operand.tmp 3) 2, type := 0, pos := "ref.go:43", after := #[], guard := none }) (v := ?v42) rfl (by kernel_rfl) (by kernel_rfl) (by kernel_rfl) (fun _ _ _ h => h) (Or.inl ⟨by kernel_rfl, ?h42⟩) (by assumption) ?r42
  case h42 => (intro w hSw; (try dsimp only at hSw); go_simp; try with_reducible rfl)
  try simp only [Act.put, List.setIfInBounds_toArray, List.set_cons_zero, List.set_cons_succ]
  refine wpAnyH_take (i := 2) (oi := { dst := some 15, op := Go.Op.load 3 (Go.Operand.tmp 14), type := 3, pos := "ref.go:43", after := #[{ on := 1, ground := Go.Ground.data }], guard := none }) (v := ?v43) rfl (by kernel_rfl) (by kernel_rfl) (by kernel_rfl) (fun _ _ _ h => h) (Or.inl ⟨by kernel_rfl, ?h43⟩) (by assumption) ?r43
  case h43 => (intro w hSw; (try dsimp only at hSw); go_simp; try with_reducible rfl)
  try simp only [Act.put, List.setIfInBounds_toArray, List.set_cons_zero, List.set_cons_succ]
  refine wpAnyH_take (i := 4) (oi := { dst := some 17, op := Go.Op.fieldAddr 54 (Go.Operand.tmp 3) 3, type := 0, pos := "ref.go:43", after := #[], guard := none }) (v := ?v44) rfl (by kernel_rfl) (by kernel_rfl) (by kernel_rfl) (fun _ _ _ h => h) (Or.inl ⟨by kernel_rfl, ?h44⟩) (by assumption) ?r44
  case h44 => (intro w hSw; (try dsimp only at hSw); go_simp; try with_reducible rfl)
  try simp only [Act.put, List.setIfInBounds_toArray, List.set_cons_zero, List.set_cons_succ]
  refine wpAnyH_take (i := 5) (oi := { dst := some 18, op := Go.Op.load 3 (Go.Operand.tmp 17), type := 3, pos := "ref.go:43", after := #[{ on := 4, ground := Go.Ground.data }], guard := none }) (v := ?v45) rfl (by kernel_rfl) (by kernel_rfl) (by kernel_rfl) (fun _ _ _ h => h) (Or.inl ⟨by kernel_rfl, ?h45⟩) (by assumption) ?r45
  case h45 => (intro w hSw; (try dsimp only at hSw); go_simp; try with_reducible rfl)
  try simp only [Act.put, List.setIfInBounds_toArray, List.set_cons_zero, List.set_cons_succ]
  refine wpAnyH_ready (rs := [3]) (by kernel_rfl) (by simp) ?_
  refine AllReadyH.cons (o := { dst := some 16, op := Go.Op.call { callee := Go.Callee.value (Go.Operand.func 43), args := #[Go.Operand.tmp 13, Go.Operand.tmp 15], argTypes := #[27, 3] }, type := 3, pos := "ref.go:43", after := #[{ on := 0, ground := Go.Ground.data }, { on := 2, ground := Go.Ground.data }], guard := none }) rfl (fun K hK => ?_) AllReadyH.nil
  go_simp
  with_reducible refine (qy.out _ hHeld).mono ?_
  rintro e t3 ⟨rfl, rfl⟩
  go_simp
  refine hK.out _ _ (hHeld) (fun hHeld => ?_)
  clear hK K
  try simp only [Act.put, List.setIfInBounds_toArray, List.set_cons_zero, List.set_cons_succ]
  refine wpAnyH_take (i := 6) (oi := { dst := some 19, op := Go.Op.binOp Go.BinOp.add 3 (Go.Operand.tmp 16) (Go.Operand.tmp 18) 3, type := 3, pos := "ref.go:43", after := #[{ on := 3, ground := Go.Ground.data }, { on := 5, ground := Go.Ground.data }], guard := none }) (v := ?v46) rfl (by kernel_rfl) (by kernel_rfl) (by kernel_rfl) (fun _ _ _ h => h) (Or.inl ⟨by kernel_rfl, ?h46⟩) (by assumption) ?r46
  case h46 => (intro w hSw; (try dsimp only at hSw); go_simp; try with_reducible rfl)
  try simp only [Act.put, List.setIfInBounds_toArray, List.set_cons_zero, List.set_cons_succ]
  refine wpAnyH_take (i := 7) (oi := { dst := some 8, op := Go.Op.assign (Go.Operand.tmp 19), type := 3, pos := "ref.go:43", after := #[{ on := 6, ground := Go.Ground.data }, { on := 3, ground := Go.Ground.chain }, { on := 0, ground := Go.Ground.phase }, { on := 1, ground := Go.Ground.phase }, { on := 2, ground := Go.Ground.phase }, { on := 3, ground := Go.Ground.phase }, { on := 4, ground := Go.Ground.phase }, { on := 5, ground := Go.Ground.phase }, { on := 6, ground := Go.Ground.phase }], guard := none }) (v := ?v47) rfl (by kernel_rfl) (by kernel_rfl) (by kernel_rfl) (fun _ _ _ h => h) (Or.inl ⟨by kernel_rfl, ?h47⟩) (by assumption) ?r47
  case h47 => (intro w hSw; (try dsimp only at hSw); go_simp; try with_reducible rfl)
  try simp only [Act.put, List.setIfInBounds_toArray, List.set_cons_zero, List.set_cons_succ]
  refine wpAnyH_done (by kernel_rfl) ?_ _
  obtain ⟨W2, hW2⟩ : ∃ W2, W2 = W1.drew := ⟨_, rfl⟩
  rw [← hW2] at hHeld ⊢
  replace S := Lib.hid (S.out.below hHeld)
  replace Z := Lib.hid (Z.out.below hHeld Z.out.lt)
  replace BL := Lib.hid (BL.out.trans (hHeld.mono BL.out.size))
  clear hW2 hHeld g2 g3 qy
  have k0 := Z.out.cell 0
  have k1 := Z.out.cell 1
  have k2 := Z.out.cell 2
  have k3 := Z.out.cell 3
  have k4 := Z.out.cell 4
  simp at k0 k1 k2 k3 k4
  go_wp2_with fail
  with_reducible refine (qi.out _).mono ?_
  rintro e W3 ⟨rfl, rfl⟩
  go_wp2_with fail
  with_reducible refine (qw.out _ S.out).mono ?_
  rintro e W3 ⟨a', c', rfl, o2, b2⟩
  have o2' := Lib.hid o2
  have b2' := Lib.hid b2
  clear o2 b2 k0 k1 k2 k3 k4
  go_wp2
  go_ret2
  exact ⟨_, _, _, rfl, clone_sl o2'.out hn, BL.out.trans (b2'.out.mono BL.out.size), fun p hp => Nat.le_trans BL.out.size (o2'.out.lt p.block (by rw [hp]; rfl)).1⟩
set_option maxRecDepth 100000 in
set_option maxHeartbeats 4000000 in
theorem does_2f (x y cc d : Int) (a : Option Addr) (n c : Nat) (l : List Int) (v : Int) (hx0 : 1 ≤ x) (hx : x ≤ (n : Int)) (hy0 : 0 ≤ y) (hy : y ≤ (n : Int)) (hl : l.all isV = true) (hc : isV cc = true) (ho : isV (valAt l y + cc) = false) (hn : n ≤ 1000) (w : World) (h : SL w a n c l) : Calls Tryd.prog 27 #[.agg #[.int .i64 2, .int .i64 x, .int .i64 y, .int .i64 cc, .int .i64 d], .slice a n c, .int .i64 v] w (DoE [] 130 w) := by
  obtain ⟨W1, hW1⟩ : ∃ W1, W1 = w.alloc (.cells #[.int .i64 2, .int .i64 x, .int .i64 y, .int .i64 cc, .int .i64 d] 54) := ⟨_, rfl⟩
  have BL := Lib.hid (show Below w.heap.size w W1 by rw [hW1]; exact box_below _ _ _)
  have Z := Lib.hid (show Holds W1 w.heap.size 54 #[.int .i64 2, .int .i64 x, .int .i64 y, .int .i64 cc, .int .i64 d] by rw [hW1]; exact Holds.new w _ _)
  have S := Lib.hid (h.below BL.out)
  have hW1' := Lib.hid hW1
  have qy := Lib.hid (fun W (hW : Below W1.heap.size W1 W) => rValue_any a n c l y hy0 hy W (S.out.below hW))
  have qi := Lib.hid (fun W => refis_any (valAt l y + cc) W)
  rw [ho] at qi
  have qw := Lib.hid (fun W hW => rWith_any a n c l x (valAt l y + cc) hx0 hx hn W hW)
  have b1 := valAt_in hl y
  have b2 := (isV_iff cc).1 hc
  generalize valAt l y = Y at *
  have w1 : IntKind.i64.wrap (Y + cc) = Y + cc := by rw [IntKind.wrap_i64]; omega
  generalize withV l x (Y + cc) = L2 at *
  have g2 : ∀ W, Below W1.heap.size W1 W → W.cell? ⟨w.heap.size, 2, none⟩ = some (.int .i64 y) := fun W hW => (Z.out.below hW Z.out.lt).cell 2
  have g3 : ∀ W, Below W1.heap.size W1 W → W.cell? ⟨w.heap.size, 3, none⟩ = some (.int .i64 cc) := fun W hW => (Z.out.below hW Z.out.lt).cell 3
  clear h hx0 hx hy0 hy hl hc b1 b2 ho
  have k0 := Z.out.cell 0
  have k1 := Z.out.cell 1
  have k2 := Z.out.cell 2
  have k3 := Z.out.cell 3
  have k4 := Z.out.cell 4
  simp at k0 k1 k2 k3 k4
  rw [hW1] at k0 k1 k2 k3 k4
  clear hW1
  go_enter Tryd.func27, Tryd.ntmps27
  go_wp2
  rw [← hW1'.out]
  clear hW1' k0 k1 k2 k3 k4
  refine wp_drawn_on (fun W => Below W1.heap.size W1 W) (by kernel_rfl) ((Below.refl _ _).drew) (fun hHeld => ?_)
  refine wpAnyH_take (i := 0) (oi := { dst := some 13, op := Go.Op.move (Go.Operand.tmp 1), type := 27, pos := "ref.go:43", after := #[], guard := none }) (v := ?v48) rfl (by kernel_rfl) (by kernel_rfl) (by kernel_rfl) (fun _ _ _ h => h) (Or.inl ⟨by kernel_rfl, ?h48⟩) (by assumption) ?r48
  case h48 => (intro w hSw; (try dsimp only at hSw); go_simp; try with_reducible rfl)
  try simp only [Act.put, List.setIfInBounds_toArray, List.set_cons_zero, List.set_cons_succ]
  refine wpAnyH_take (i := 1) (oi := { dst := some 14, op := Go.Op.fieldAddr 54 (Go.Operand.tmp 3) 2, type := 0, pos := "ref.go:43", after := #[], guard := none }) (v := ?v49) rfl (by kernel_rfl) (by kernel_rfl) (by kernel_rfl) (fun _ _ _ h => h) (Or.inl ⟨by kernel_rfl, ?h49⟩) (by assumption) ?r49
  case h49 => (intro w hSw; (try dsimp only at hSw); go_simp; try with_reducible rfl)
  try simp only [Act.put, List.setIfInBounds_toArray, List.set_cons_zero, List.set_cons_succ]
  refine wpAnyH_take (i := 2) (oi := { dst := some 15, op := Go.Op.load 3 (Go.Operand.tmp 14), type := 3, pos := "ref.go:43", after := #[{ on := 1, ground := Go.Ground.data }], guard := none }) (v := ?v50) rfl (by kernel_rfl) (by kernel_rfl) (by kernel_rfl) (fun _ _ _ h => h) (Or.inl ⟨by kernel_rfl, ?h50⟩) (by assumption) ?r50
  case h50 => (intro w hSw; (try dsimp only at hSw); go_simp; try with_reducible rfl)
  try simp only [Act.put, List.setIfInBounds_toArray, List.set_cons_zero, List.set_cons_succ]
  refine wpAnyH_take (i := 4) (oi := { dst := some 17, op := Go.Op.fieldAddr 54 (Go.Operand.tmp 3) 3, type := 0, pos := "ref.go:43", after := #[], guard := none }) (v := ?v51) rfl (by kernel_rfl) (by kernel_rfl) (by kernel_rfl) (fun _ _ _ h => h) (Or.inl ⟨by kernel_rfl, ?h51⟩) (by assumption) ?r51
  case h51 => (intro w hSw; (try dsimp only at hSw); go_simp; try with_reducible rfl)
  try simp only [Act.put, List.setIfInBounds_toArray, List.set_cons_zero, List.set_cons_succ]
  refine wpAnyH_take (i := 5) (oi := { dst := some 18, op := Go.Op.load 3 (Go.Operand.tmp 17), type := 3, pos := "ref.go:43", after := #[{ on := 4, ground := Go.Ground.data }], guard := none }) (v := ?v52) rfl (by kernel_rfl) (by kernel_rfl) (by kernel_rfl) (fun _ _ _ h => h) (Or.inl ⟨by kernel_rfl, ?h52⟩) (by assumption) ?r52
  case h52 => (intro w hSw; (try dsimp only at hSw); go_simp; try with_reducible rfl)
  try simp only [Act.put, List.setIfInBounds_toArray, List.set_cons_zero, List.set_cons_succ]
  refine wpAnyH_ready (rs := [3]) (by kernel_rfl) (by simp) ?_
  refine AllReadyH.cons (o := { dst := some 16, op := Go.Op.call { callee := Go.Callee.value (Go.Operand.func 43), args := #[Go.Operand.tmp 13, Go.Operand.tmp 15], argTypes := #[27, 3] }, type := 3, pos := "ref.go:43", after := #[{ on := 0, ground := Go.Ground.data }, { on := 2, ground := Go.Ground.data }], guard := none }) rfl (fun K hK => ?_) AllReadyH.nil
  go_simp
  with_reducible refine (qy.out _ hHeld).mono ?_
  rintro e t3 ⟨rfl, rfl⟩
  go_simp
  refine hK.out _ _ (hHeld) (fun hHeld => ?_)
  clear hK K
  try simp only [Act.put, List.setIfInBounds_toArray, List.set_cons_zero, List.set_cons_succ]
  refine wpAnyH_take (i := 6) (oi := { dst := some 19, op := Go.Op.binOp Go.BinOp.add 3 (Go.Operand.tmp 16) (Go.Operand.tmp 18) 3, type := 3, pos := "ref.go:43", after := #[{ on := 3, ground := Go.Ground.data }, { on := 5, ground := Go.Ground.data }], guard := none }) (v := ?v53) rfl (by kernel_rfl) (by kernel_rfl) (by kernel_rfl) (fun _ _ _ h => h) (Or.inl ⟨by kernel_rfl, ?h53⟩) (by assumption) ?r53
  case h53 => (intro w hSw; (try dsimp only at hSw); go_simp; try with_reducible rfl)
  try simp only [Act.put, List.setIfInBounds_toArray, List.set_cons_zero, List.set_cons_succ]
  refine wpAnyH_take (i := 7) (oi := { dst := some 8, op := Go.Op.assign (Go.Operand.tmp 19), type := 3, pos := "ref.go:43", after := #[{ on := 6, ground := Go.Ground.data }, { on := 3, ground := Go.Ground.chain }, { on := 0, ground := Go.Ground.phase }, { on := 1, ground := Go.Ground.phase }, { on := 2, ground := Go.Ground.phase }, { on := 3, ground := Go.Ground.phase }, { on := 4, ground := Go.Ground.phase }, { on := 5, ground := Go.Ground.phase }, { on := 6, ground := Go.Ground.phase }], guard := none }) (v := ?v54) rfl (by kernel_rfl) (by kernel_rfl) (by kernel_rfl) (fun _ _ _ h => h) (Or.inl ⟨by kernel_rfl, ?h54⟩) (by assumption) ?r54
  case h54 => (intro w hSw; (try dsimp only at hSw); go_simp; try with_reducible rfl)
  try simp only [Act.put, List.setIfInBounds_toArray, List.set_cons_zero, List.set_cons_succ]
  refine wpAnyH_done (by kernel_rfl) ?_ _
  obtain ⟨W2, hW2⟩ : ∃ W2, W2 = W1.drew := ⟨_, rfl⟩
  rw [← hW2] at hHeld ⊢
  replace S := Lib.hid (S.out.below hHeld)
  replace Z := Lib.hid (Z.out.below hHeld Z.out.lt)
  replace BL := Lib.hid (BL.out.trans (hHeld.mono BL.out.size))
  clear hW2 hHeld g2 g3 qy
  have k0 := Z.out.cell 0
  have k1 := Z.out.cell 1
  have k2 := Z.out.cell 2
  have k3 := Z.out.cell 3
  have k4 := Z.out.cell 4
  simp at k0 k1 k2 k3 k4
  go_wp2_with fail
  with_reducible refine (qi.out _).mono ?_
  rintro e W3 ⟨rfl, rfl⟩
  go_wp2
  go_ret2
  exact ⟨none, 0, 0, rfl, SL.nil _, BL.out, fun p hp => by cases hp⟩
theorem rDoes_any (k x y cc d : Int) (a : Option Addr) (n c : Nat) (l : List Int) (v : Int) (hr : rightB k x y cc d (n : Int) = true) (hl : l.all isV = true) (hn : n ≤ 1000) (w : World) (h : SL w a n c l) : Calls Tryd.prog 27 #[.agg #[.int .i64 k, .int .i64 x, .int .i64 y, .int .i64 cc, .int .i64 d], .slice a n c, .int .i64 v] w (DoE (doesR k x y cc d l v).1 (doesR k x y cc d l v).2 w) := by
  obtain ⟨k0, k5⟩ := rr_kind hr
  rcases (show k = 1 ∨ k = 2 ∨ k = 3 ∨ k = 4 ∨ k = 5 by omega) with rfl | rfl | rfl | rfl | rfl
  · exact does_1 x y cc d a n c l v hn w h
  · obtain ⟨r1, r2, r3, r4, r5⟩ := rr_let hr
    unfold doesR
    rw [if_pos rfl]
    by_cases ho : isV (valAt l y + cc) = true
    · rw [if_pos ho]
      exact does_2t x y cc d a n c l v r1 r2 r3 r4 hl r5 ho hn w h
    · rw [if_neg ho]
      exact does_2f x y cc d a n c l v r1 r2 r3 r4 hl r5 (by simpa using ho) hn w h
  · obtain ⟨r1, r2, r5⟩ := rr_any hr
    unfold doesR
    rw [if_neg (by omega), if_pos rfl]
    by_cases ho : cc ≤ v ∧ v ≤ d
    · rw [if_pos ho]
      exact does_3t x y cc d a n c l v r1 r2 ho.1 ho.2 hn w h
    · rw [if_neg ho]
      exact does_3f x y cc d a n c l v r1 r2 ho hn w h
  · obtain ⟨r1, r2, r3, r4, r5⟩ := rr_diff (k := 4) (by omega) hr
    unfold doesR
    rw [if_neg (by omega), if_neg (by omega), if_pos rfl]
    by_cases ho : valAt l x - valAt l y ≤ cc
    · rw [if_pos ho]
      exact does_4t x y cc d a n c l v r1 r2 r3 r4 hl ho hn w h
    · rw [if_neg ho]
      exact does_4f x y cc d a n c l v r1 r2 r3 r4 hl ho hn w h
  · obtain ⟨r1, r2, r3, r4, r5⟩ := rr_diff (k := 5) (by omega) hr
    unfold doesR
    rw [if_neg (by omega), if_neg (by omega), if_neg (by omega), if_pos rfl]
    by_cases ho : valAt l x - valAt l y ≤ cc
    · rw [if_pos ho]
      exact does_5t x y cc d a n c l v r1 r2 r3 r4 hl ho hn w h
    · rw [if_neg ho]
      exact does_5f x y cc d a n c l v r1 r2 r3 r4 hl ho hn w h
end Go.Proofs.YtjdfjekonnkglaaDoor
