/- itv.Show. -/
import Derived.Test.YthjpkbhgpjefpaaDoorItvMove
import Derived.Test.YthjpkbhgpjefpaaDoorValParse
namespace Go.Proofs.YthjpkbhgpjefpaaDoor
open Go.RowKit
set_option linter.unusedVariables false
set_option linter.unusedSimpArgs false

/-- A plain interval's text. -/
def showI (a b : Int) : List UInt8 := if a == 1 && b == 0 then [110, 111, 110, 101] else [91] ++ showV a ++ [44, 32] ++ showV b ++ [93]
theorem strB_app (l r : List UInt8) : strB l ++ strB r = strB (l ++ r) := by
  apply ByteArray.ext
  apply Array.toList_inj.1
  simp [strB]
theorem showV_len {v : Int} (h : -1099511627776 ≤ v ∧ v ≤ 1099511627776) : (showV v).length ≤ 21 := by
  have h1 := Lib.itoa_length_le v (by omega) (by omega)
  unfold showV; split
  · decide
  · split
    · decide
    · exact h1
theorem show_itv (a b : Int) (w : World) (ht : Tab w) : Calls Tryd.prog 34 #[.agg #[.int .i64 a, .int .i64 b]] w (Gives (.string (strB (showI (ofL a b) (ofH a b)))) w) := by
  have hp := Lib.hid (fun w => plain_any a b w)
  have hn := Lib.hid (fun w => none_any w)
  have hi := of_in a b
  have s1 := fun w ht => show_any (ofL a b) w ht
  have s2 := fun w ht => show_any (ofH a b) w ht
  rw [clip_id (by omega) (by omega)] at s1 s2
  have hs : Hid (strB (showI (ofL a b) (ofH a b)) = if ofL a b == 1 && ofH a b == 0 then ⟨#[110, 111, 110, 101]⟩ else (((⟨#[91]⟩ ++ strB (showV (ofL a b))) ++ ⟨#[44, 32]⟩) ++ strB (showV (ofH a b))) ++ ⟨#[93]⟩) := Lib.hid (by
    unfold showI
    split
    · rfl
    · rw [← strB_app, ← strB_app, ← strB_app, ← strB_app]; rfl)
  have l1 : (strB (showV (ofL a b))).size ≤ 21 := by rw [strB_size]; exact showV_len (by omega)
  have l2 : (strB (showV (ofH a b))).size ≤ 21 := by rw [strB_size]; exact showV_len (by omega)
  generalize strB (showI (ofL a b) (ofH a b)) = T at *
  generalize strB (showV (ofL a b)) = t1 at *
  generalize strB (showV (ofH a b)) = t2 at *
  generalize ofL a b = a1 at *
  generalize ofH a b = b1 at *
  have q1 := Lib.hid s1
  have q2 := Lib.hid s2
  clear s1 s2
  obtain ⟨kx, hB, hS⟩ := box1 w a b
  go_enter Tryd.func34, Tryd.ntmps34
  go_wp2_with fail
  refine (hp.out _).mono ?_
  rintro e w1 ⟨rfl, h1⟩
  have jx := kx.on h1 (by omega)
  have jB := hB.trans (h1.mono (by omega))
  have jS := h1.size
  have r0 := jx.c0
  have r1 := jx.c1
  have r2 := jx.f0
  have r3 := jx.f1
  have jx := jx.set a1 b1
  have jB := below_two (h := w.heap.size) jB (by omega) a1 b1
  have jS : w.heap.size < ((w1.setCell ⟨w.heap.size, 0, none⟩ (.int .i64 a1)).setCell ⟨w.heap.size, 1, none⟩ (.int .i64 b1)).heap.size := by rw [size_two]; omega
  go_wp2
  generalize (w1.setCell ⟨w.heap.size, 0, none⟩ (.int .i64 a1)).setCell ⟨w.heap.size, 1, none⟩ (.int .i64 b1) = w3 at *
  clear kx hB hS h1 r0 r1 r2 r3
  have ht3 := ht.on jB
  generalize hg : w.heap.size = g at jx jB jS ⊢
  have hx0 : ∀ W, Below w3.heap.size w3 W → W.cell? ⟨g, 0, none⟩ = some (.int .i64 a1) := fun W hW => (jx.on hW (by omega)).c0
  have hx1 : ∀ W, Below w3.heap.size w3 W → W.cell? ⟨g, 1, none⟩ = some (.int .i64 b1) := fun W hW => (jx.on hW (by omega)).c1
  refine wp_drawn (by kernel_rfl) (fun hHeld => ?_)
  refine wpAnyH_take (i := 0) (oi := { dst := some 5, op := Go.Op.load 23 (Go.Operand.tmp 1), type := 23, pos := "itv.go:119", after := #[], guard := none }) (v := ?v1) rfl (by kernel_rfl) (by kernel_rfl) (by kernel_rfl) (fun _ _ _ h => h) (Or.inl ⟨by kernel_rfl, ?h1⟩) (by assumption) ?r1
  case h1 => (intro w hSw; (try dsimp only at hSw); go_simp; try with_reducible rfl)
  try simp only [Act.put, List.setIfInBounds_toArray, List.set_cons_zero, List.set_cons_succ]
  refine wpAnyH_ready (rs := [1]) (by kernel_rfl) (by simp) ?_
  refine AllReadyH.cons (o := { dst := some 6, op := Go.Op.call { callee := Go.Callee.value (Go.Operand.func 33), args := #[], argTypes := #[] }, type := 23, pos := "itv.go:119", after := #[], guard := none }) rfl (fun K hK => ?_) AllReadyH.nil
  go_simp
  refine (hn.out _).mono ?_
  rintro e w4 ⟨rfl, h4⟩
  have hw4 : Below w3.heap.size w3 w4 := hHeld.trans (h4.mono (Nat.le_refl _))
  go_simp
  refine hK.out _ _ (hw4) (fun hHeld => ?_)
  clear hK K
  try simp only [Act.put, List.setIfInBounds_toArray, List.set_cons_zero, List.set_cons_succ]
  refine wpAnyH_now hHeld (fun hHeld => ?_)
  replace hx0 := rebase hx0 (hw4)
  replace hx1 := rebase hx1 (hw4)
  refine wpAnyH_take (i := 2) (oi := { dst := some 7, op := Go.Op.binOp Go.BinOp.eql 23 (Go.Operand.tmp 5) (Go.Operand.tmp 6) 23, type := 4, pos := "itv.go:119", after := #[{ on := 0, ground := Go.Ground.data }, { on := 1, ground := Go.Ground.data }], guard := none }) (v := ?v2) rfl (by kernel_rfl) (by kernel_rfl) (by kernel_rfl) (fun _ _ _ h => h) (Or.inl ⟨by kernel_rfl, ?h2⟩) (by assumption) ?r2
  case h2 => (intro w hSw; (try dsimp only at hSw); refine Eq.trans (b := Result.ok (Next.value (.bool (a1 == 1 && b1 == 0))) w) (by go_simp; by_cases h1 : a1 = 1 <;> by_cases h2 : b1 = 0 <;> simp [h1, h2]) ?_; with_reducible rfl)
  try simp only [Act.put, List.setIfInBounds_toArray, List.set_cons_zero, List.set_cons_succ]
  refine wpAnyH_done (by kernel_rfl) ?_ _
  have jB4 := jB.trans (hw4.mono (by omega))
  have ht4 := ht3.on hw4
  by_cases e1 : (a1 == 1 && b1 == 0) = true
  · have hs := Lib.hid (hs.out.trans (if_pos e1))
    rw [e1]
    clear e1 hx0 hx1 jx jB jS
    go_wp2
    go_ret
    exact ⟨by rw [hs.out]; rfl, by rw [hg]; exact jB4⟩
  · have hs := Lib.hid (hs.out.trans (if_neg e1))
    have e1 : (a1 == 1 && b1 == 0) = false := by simpa using e1
    rw [e1]
    clear e1
    go_wp2
    have z1 : ¬ 9223372036854775807 < 1 + t1.size := by omega
    have z2 : ¬ 9223372036854775807 < 1 + t1.size + 2 := by omega
    have z3 : ¬ 9223372036854775807 < 1 + t1.size + 2 + t2.size := by omega
    have z4 : ¬ 9223372036854775807 < 1 + t1.size + 2 + t2.size + 1 := by omega
    refine wp_drawn (by kernel_rfl) (fun hHeld => ?_)
    refine wpAnyH_take (i := 0) (oi := { dst := some 8, op := Go.Op.fieldAddr 23 (Go.Operand.tmp 1) 0, type := 0, pos := "itv.go:122", after := #[], guard := none }) (v := ?v3) rfl (by kernel_rfl) (by kernel_rfl) (by kernel_rfl) (fun _ _ _ h => h) (Or.inl ⟨by kernel_rfl, ?h3⟩) (by assumption) ?r3
    case h3 => (intro w hSw; (try dsimp only at hSw); go_simp; try with_reducible rfl)
    try simp only [Act.put, List.setIfInBounds_toArray, List.set_cons_zero, List.set_cons_succ]
    refine wpAnyH_take (i := 1) (oi := { dst := some 9, op := Go.Op.load 3 (Go.Operand.tmp 8), type := 3, pos := "itv.go:122", after := #[{ on := 0, ground := Go.Ground.data }], guard := none }) (v := ?v4) rfl (by kernel_rfl) (by kernel_rfl) (by kernel_rfl) (fun _ _ _ h => h) (Or.inl ⟨by kernel_rfl, ?h4⟩) (by assumption) ?r4
    case h4 => (intro w hSw; (try dsimp only at hSw); go_simp; try with_reducible rfl)
    try simp only [Act.put, List.setIfInBounds_toArray, List.set_cons_zero, List.set_cons_succ]
    refine wpAnyH_take (i := 5) (oi := { dst := some 13, op := Go.Op.fieldAddr 23 (Go.Operand.tmp 1) 1, type := 0, pos := "itv.go:122", after := #[], guard := none }) (v := ?v5) rfl (by kernel_rfl) (by kernel_rfl) (by kernel_rfl) (fun _ _ _ h => h) (Or.inl ⟨by kernel_rfl, ?h5⟩) (by assumption) ?r5
    case h5 => (intro w hSw; (try dsimp only at hSw); go_simp; try with_reducible rfl)
    try simp only [Act.put, List.setIfInBounds_toArray, List.set_cons_zero, List.set_cons_succ]
    refine wpAnyH_take (i := 6) (oi := { dst := some 14, op := Go.Op.load 3 (Go.Operand.tmp 13), type := 3, pos := "itv.go:122", after := #[{ on := 5, ground := Go.Ground.data }], guard := none }) (v := ?v6) rfl (by kernel_rfl) (by kernel_rfl) (by kernel_rfl) (fun _ _ _ h => h) (Or.inl ⟨by kernel_rfl, ?h6⟩) (by assumption) ?r6
    case h6 => (intro w hSw; (try dsimp only at hSw); go_simp; try with_reducible rfl)
    try simp only [Act.put, List.setIfInBounds_toArray, List.set_cons_zero, List.set_cons_succ]
    refine wpAnyH_ready (rs := [2]) (by kernel_rfl) (by simp) ?_
    refine AllReadyH.cons (o := { dst := some 10, op := Go.Op.call { callee := Go.Callee.value (Go.Operand.func 47), args := #[Go.Operand.tmp 9], argTypes := #[3] }, type := 9, pos := "itv.go:122", after := #[{ on := 1, ground := Go.Ground.data }], guard := none }) rfl (fun K hK => ?_) AllReadyH.nil
    go_simp
    refine (q1.out _ (ht4.on hHeld)).mono ?_
    rintro e w5 ⟨rfl, h5⟩
    have hw5 : Below w4.heap.size w4 w5 := hHeld.trans (h5.mono (Nat.le_refl _))
    have ht5 := ht4.on hw5
    go_simp
    refine hK.out _ _ (hw5) (fun hHeld => ?_)
    clear hK K
    try simp only [Act.put, List.setIfInBounds_toArray, List.set_cons_zero, List.set_cons_succ]
    refine wpAnyH_now hHeld (fun hHeld => ?_)
    replace hx0 := rebase hx0 (hw5)
    replace hx1 := rebase hx1 (hw5)
    refine wpAnyH_take (i := 3) (oi := { dst := some 11, op := Go.Op.binOp Go.BinOp.add 9 (Go.Operand.const (Go.Value.string { data := #[91] })) (Go.Operand.tmp 10) 9, type := 9, pos := "itv.go:122", after := #[{ on := 2, ground := Go.Ground.data }], guard := none }) (v := ?v7) rfl (by kernel_rfl) (by kernel_rfl) (by kernel_rfl) (fun _ _ _ h => h) (Or.inl ⟨by kernel_rfl, ?h7⟩) (by assumption) ?r7
    case h7 => (intro w hSw; (try dsimp only at hSw); go_simp; try with_reducible rfl)
    try simp only [Act.put, List.setIfInBounds_toArray, List.set_cons_zero, List.set_cons_succ]
    refine wpAnyH_take (i := 4) (oi := { dst := some 12, op := Go.Op.binOp Go.BinOp.add 9 (Go.Operand.tmp 11) (Go.Operand.const (Go.Value.string { data := #[44, 32] })) 9, type := 9, pos := "itv.go:122", after := #[{ on := 3, ground := Go.Ground.data }], guard := none }) (v := ?v8) rfl (by kernel_rfl) (by kernel_rfl) (by kernel_rfl) (fun _ _ _ h => h) (Or.inl ⟨by kernel_rfl, ?h8⟩) (by assumption) ?r8
    case h8 => (intro w hSw; (try dsimp only at hSw); go_simp; try with_reducible rfl)
    try simp only [Act.put, List.setIfInBounds_toArray, List.set_cons_zero, List.set_cons_succ]
    refine wpAnyH_ready (rs := [7]) (by kernel_rfl) (by simp) ?_
    refine AllReadyH.cons (o := { dst := some 15, op := Go.Op.call { callee := Go.Callee.value (Go.Operand.func 47), args := #[Go.Operand.tmp 14], argTypes := #[3] }, type := 9, pos := "itv.go:122", after := #[{ on := 6, ground := Go.Ground.data }, { on := 2, ground := Go.Ground.chain }], guard := none }) rfl (fun K hK => ?_) AllReadyH.nil
    go_simp
    refine (q2.out _ (ht5.on hHeld)).mono ?_
    rintro e w6 ⟨rfl, h6⟩
    have hw6 : Below w5.heap.size w5 w6 := hHeld.trans (h6.mono (Nat.le_refl _))
    go_simp
    refine hK.out _ _ (hw6) (fun hHeld => ?_)
    clear hK K
    try simp only [Act.put, List.setIfInBounds_toArray, List.set_cons_zero, List.set_cons_succ]
    refine wpAnyH_now hHeld (fun hHeld => ?_)
    replace hx0 := rebase hx0 (hw6)
    replace hx1 := rebase hx1 (hw6)
    refine wpAnyH_take (i := 8) (oi := { dst := some 16, op := Go.Op.binOp Go.BinOp.add 9 (Go.Operand.tmp 12) (Go.Operand.tmp 15) 9, type := 9, pos := "itv.go:122", after := #[{ on := 4, ground := Go.Ground.data }, { on := 7, ground := Go.Ground.data }], guard := none }) (v := ?v9) rfl (by kernel_rfl) (by kernel_rfl) (by kernel_rfl) (fun _ _ _ h => h) (Or.inl ⟨by kernel_rfl, ?h9⟩) (by assumption) ?r9
    case h9 => (intro w hSw; (try dsimp only at hSw); go_simp; try with_reducible rfl)
    try simp only [Act.put, List.setIfInBounds_toArray, List.set_cons_zero, List.set_cons_succ]
    refine wpAnyH_take (i := 9) (oi := { dst := some 17, op := Go.Op.binOp Go.BinOp.add 9 (Go.Operand.tmp 16) (Go.Operand.const (Go.Value.string { data := #[93] })) 9, type := 9, pos := "itv.go:122", after := #[{ on := 8, ground := Go.Ground.data }], guard := none }) (v := ?v10) rfl (by kernel_rfl) (by kernel_rfl) (by kernel_rfl) (fun _ _ _ h => h) (Or.inl ⟨by kernel_rfl, ?h10⟩) (by assumption) ?r10
    case h10 => (intro w hSw; (try dsimp only at hSw); go_simp; try with_reducible rfl)
    try simp only [Act.put, List.setIfInBounds_toArray, List.set_cons_zero, List.set_cons_succ]
    refine wpAnyH_take (i := 10) (oi := { dst := some 2, op := Go.Op.assign (Go.Operand.tmp 17), type := 9, pos := "itv.go:122", after := #[{ on := 9, ground := Go.Ground.data }, { on := 7, ground := Go.Ground.chain }, { on := 0, ground := Go.Ground.phase }, { on := 1, ground := Go.Ground.phase }, { on := 2, ground := Go.Ground.phase }, { on := 3, ground := Go.Ground.phase }, { on := 4, ground := Go.Ground.phase }, { on := 5, ground := Go.Ground.phase }, { on := 6, ground := Go.Ground.phase }, { on := 7, ground := Go.Ground.phase }, { on := 8, ground := Go.Ground.phase }, { on := 9, ground := Go.Ground.phase }], guard := none }) (v := ?v11) rfl (by kernel_rfl) (by kernel_rfl) (by kernel_rfl) (fun _ _ _ h => h) (Or.inl ⟨by kernel_rfl, ?h11⟩) (by assumption) ?r11
    case h11 => (intro w hSw; (try dsimp only at hSw); go_simp; try with_reducible rfl)
    try simp only [Act.put, List.setIfInBounds_toArray, List.set_cons_zero, List.set_cons_succ]
    refine wpAnyH_done (by kernel_rfl) ?_ _
    go_wp2
    go_ret
    exact ⟨by rw [hs.out]; rfl, by rw [hg]; exact (jB4.trans (hw5.mono (by have := hw4.size; omega))).trans (hw6.mono (by have := hw4.size; have := hw5.size; omega))⟩
end Go.Proofs.YthjpkbhgpjefpaaDoor
