/-
  Words and walks under the law's proof.
-/
import Derived.ArgAppend
import Derived.Test.YtgeliikfgnkppaaGreatDoorQP01
import Derived.Test.YtgeliikfgnkppaaGreatDoorQP05
import Derived.Test.YtgeliikfgnkppaaGreatDoorQP07
namespace Go.Proofs.YtgeliikfgnkppaaGreatDoor
open Go.RowKit
set_option linter.unusedVariables false
set_option linter.unusedSimpArgs false
theorem rvshow_any (c : Int) (h0 : -1099511627776 ≤ c) (h1 : c ≤ 1099511627776) (w : World) : Calls Tryz.prog 51 #[.int .i64 c] w (Gives (.string (vT c)) w) := by
  refine (refshow_any c (by omega) (by omega) w).mono ?_
  rintro e w' ⟨rfl, rfl⟩
  exact ⟨by rw [vT_eq h0 h1], Below.refl _ _⟩
set_option maxRecDepth 100000 in
set_option maxHeartbeats 2000000 in
theorem rdifference_any (a : Option Addr) (n cp : Nat) (l : List ByteArray) (hl : ∀ s ∈ l, s.size ≤ 32) (x y : Int) (hx0 : 0 ≤ x) (hx : x ≤ (n : Int)) (hy0 : 0 ≤ y) (hy : y ≤ (n : Int)) (hxy : x ≠ y) (w : World) (h : TT w a n cp l) : Calls Tryz.prog 52 #[.slice a n cp, .int .i64 x, .int .i64 y] w (Gives (.string (diffT l x y)) w) := by
  have s1 := name_sz hl x
  have s2 := name_sz hl y
  have hn : (n : Int) ≤ 9223372036854775807 := by have := h.cap; have := h.max; unfold maxLen at this; omega
  by_cases h1 : y = 0
  · have hR : Hid (diffT l x y = nmV l x) := Lib.hid (by unfold diffT; rw [if_pos h1])
    obtain ⟨i, b, off, rfl, hi, rfl, hb, x0⟩ := name_at h (by omega) hx
    subst h1
    have hii : (i : Int) < (n : Int) := by omega
    generalize nmV l ((i : Int) + 1) = s at *
    generalize diffT l ((i : Int) + 1) 0 = R at *
    clear h hl
    go_enter Tryz.func52, Tryz.ntmps52
    go_wp2
    go_ret
    rw [hR.out]
    exact ⟨rfl, Below.refl _ _⟩
  · by_cases h2 : x = 0
    · have hR : Hid (diffT l x y = (⟨#[45]⟩ : ByteArray) ++ nmV l y) := Lib.hid (by unfold diffT; rw [if_neg h1, if_pos h2])
      obtain ⟨i, b, off, rfl, hi, rfl, hb, x0⟩ := name_at h (by omega) hy
      subst h2
      have hii : (i : Int) < (n : Int) := by omega
      have h1' : ¬ ((i : Int) + 1 = 0) := by omega
      generalize nmV l ((i : Int) + 1) = s at *
      generalize diffT l 0 ((i : Int) + 1) = R at *
      have z1 : ¬ 9223372036854775807 < 1 + s.size := by omega
      clear h hl
      go_enter Tryz.func52, Tryz.ntmps52
      go_wp2
      go_ret
      rw [hR.out]
      exact ⟨rfl, Below.refl _ _⟩
    · have hR : Hid (diffT l x y = (nmV l x ++ (⟨#[32, 45, 32]⟩ : ByteArray)) ++ nmV l y) := Lib.hid (by unfold diffT; rw [if_neg h1, if_neg h2])
      obtain ⟨i, b, off, rfl, hi, rfl, hb, x0⟩ := name_at h (by omega) hx
      obtain ⟨j, b2, off2, rfl, hj, e2, hb2, y0⟩ := name_at h (by omega) hy
      injection e2 with e2
      injection e2 with e3 e4
      subst e3 e4
      have hii : (i : Int) < (n : Int) := by omega
      have hji : (j : Int) < (n : Int) := by omega
      have h1' : ¬ ((j : Int) + 1 = 0) := by omega
      have h2' : ¬ ((i : Int) + 1 = 0) := by omega
      generalize nmV l ((i : Int) + 1) = s at *
      generalize nmV l ((j : Int) + 1) = u at *
      generalize diffT l ((i : Int) + 1) ((j : Int) + 1) = R at *
      have z1 : ¬ 9223372036854775807 < s.size + 3 := by omega
      have z2 : ¬ 9223372036854775807 < s.size + 3 + u.size := by omega
      have w1 : IntKind.i64.wrap (i : Int) = i := by rw [IntKind.wrap_i64]; omega
      have w2 : IntKind.i64.wrap (j : Int) = j := by rw [IntKind.wrap_i64]; omega
      have n1 : 0 ≤ (i : Int) := by omega
      have n2 : 0 ≤ (j : Int) := by omega
      clear h hl hxy
      go_enter Tryz.func52, Tryz.ntmps52
      go_wp2
      go_quiet (fail)
      go_wp2
      go_ret
      rw [hR.out]
      exact ⟨rfl, Below.drewN (Below.refl _ _) nq⟩
def rletT (l : List ByteArray) (y c : Int) : ByteArray := if y = 0 then vT c else if c = 0 then nmV l y else if c < 0 then (nmV l y ++ (⟨#[32, 45, 32]⟩ : ByteArray)) ++ vT (-c) else (nmV l y ++ (⟨#[32, 43, 32]⟩ : ByteArray)) ++ vT c
theorem rlet_sz {l : List ByteArray} (hl : ∀ s ∈ l, s.size ≤ 32) (y c : Int) : (rletT l y c).size ≤ 49 := by
  have v1 := vT_size c
  have v2 := vT_size (-c)
  have n1 := name_sz hl y
  have a2 : (⟨#[32, 45, 32]⟩ : ByteArray).size = 3 := rfl
  have a3 : (⟨#[32, 43, 32]⟩ : ByteArray).size = 3 := rfl
  unfold rletT
  split
  · omega
  · split
    · omega
    · split <;> (simp only [ByteArray.size_append]; omega)
set_option maxRecDepth 100000 in
set_option maxHeartbeats 4000000 in
theorem rlet_any (a : Option Addr) (n cp : Nat) (l : List ByteArray) (hl : ∀ s ∈ l, s.size ≤ 32) (y c : Int) (hy0 : 0 ≤ y) (hy : y ≤ (n : Int)) (h0 : -1099511627776 ≤ c) (h1 : c ≤ 1099511627776) (w : World) (h : TT w a n cp l) : Calls Tryz.prog 50 #[.slice a n cp, .int .i64 y, .int .i64 c] w (Gives (.string (rletT l y c)) w) := by
  have q1 := Lib.hid (fun W => rvshow_any c h0 h1 W)
  have q2 := Lib.hid (fun W => rvshow_any (-c) (by omega) (by omega) W)
  have s1 := vT_size c
  have s2 := vT_size (-c)
  have s3 := name_sz hl y
  have hn : (n : Int) ≤ 9223372036854775807 := by have := h.cap; have := h.max; unfold maxLen at this; omega
  have hL : Hid (rletT l y c = if y = 0 then vT c else if c = 0 then nmV l y else if c < 0 then (nmV l y ++ (⟨#[32, 45, 32]⟩ : ByteArray)) ++ vT (-c) else (nmV l y ++ (⟨#[32, 43, 32]⟩ : ByteArray)) ++ vT c) := Lib.hid rfl
  have w3 : IntKind.i64.wrap (-c) = -c := by rw [IntKind.wrap_i64]; omega
  by_cases hy1 : y = 0
  · have hR : Hid (rletT l y c = vT c) := Lib.hid (by rw [hL.out, if_pos hy1])
    subst hy1
    generalize rletT l 0 c = R at *
    generalize vT c = v at *
    clear hL h hl q2
    go_enter Tryz.func50, Tryz.ntmps50
    go_wp2_with fail
    refine (q1.out _).mono ?_
    rintro e w2 ⟨rfl, b2⟩
    go_wp2
    go_ret
    rw [hR.out]
    exact ⟨rfl, b2⟩
  obtain ⟨j, b, off, rfl, hj, rfl, hbj, y0⟩ := name_at h (by omega) hy
  have hji : (j : Int) < (n : Int) := by omega
  have w2 : IntKind.i64.wrap (j : Int) = j := by rw [IntKind.wrap_i64]; omega
  have n2 : 0 ≤ (j : Int) := by omega
  have hy1' : ¬ ((j : Int) + 1 = 0) := by omega
  have hL2 : Hid (rletT l ((j : Int) + 1) c = if c = 0 then nmV l ((j : Int) + 1) else if c < 0 then (nmV l ((j : Int) + 1) ++ (⟨#[32, 45, 32]⟩ : ByteArray)) ++ vT (-c) else (nmV l ((j : Int) + 1) ++ (⟨#[32, 43, 32]⟩ : ByteArray)) ++ vT c) := Lib.hid (by rw [hL.out, if_neg hy1])
  clear hL hy1
  generalize rletT l ((j : Int) + 1) c = R at *
  have gy : ∀ W, Below w.heap.size w W → W.cell? ⟨b, off + j, none⟩ = some (.string (nmV l ((j : Int) + 1))) := fun W hW => (hW.cell (p := ⟨b, off + j, none⟩) hbj).trans y0
  generalize nmV l ((j : Int) + 1) = r at *
  generalize vT c = v at *
  generalize vT (-c) = u at *
  have z3 : ¬ 9223372036854775807 < r.size + 3 := by omega
  have z4 : ¬ 9223372036854775807 < r.size + 3 + v.size := by omega
  have z5 : ¬ 9223372036854775807 < r.size + 3 + u.size := by omega
  by_cases hc0 : c = 0
  · have hR : Hid (R = r) := Lib.hid (by rw [hL2.out, if_pos hc0])
    subst hc0
    clear hL2 h hl q1 q2 gy
    go_enter Tryz.func50, Tryz.ntmps50
    go_wp2
    go_ret
    rw [hR.out]
    exact ⟨rfl, Below.refl _ _⟩
  by_cases hcn : c < 0
  · have hR : Hid (R = (r ++ (⟨#[32, 45, 32]⟩ : ByteArray)) ++ u) := Lib.hid (by rw [hL2.out, if_neg hc0, if_pos hcn])
    clear hL2 h hl y0
    go_enter Tryz.func50, Tryz.ntmps50
    go_wp2
    refine wp_drawn_on (fun W => Below w.heap.size w W) (by kernel_rfl) ((Below.refl _ _).drew) (fun hHeld => ?_)
    refine wpAnyH_take (i := 0) (oi := { dst := some 23, op := Go.Op.move (Go.Operand.tmp 0), type := 22, pos := "ref.go:156", after := #[], guard := none }) (v := ?v1) rfl (by kernel_rfl) (by kernel_rfl) (by kernel_rfl) (fun _ _ _ h => h) (Or.inl ⟨by kernel_rfl, ?h1⟩) (by assumption) ?r1
    case h1 => (intro w hSw; (try dsimp only at hSw); go_simp; try with_reducible rfl)
    try simp only [Act.put, List.setIfInBounds_toArray, List.set_cons_zero, List.set_cons_succ]
    refine wpAnyH_take (i := 1) (oi := { dst := some 24, op := Go.Op.move (Go.Operand.tmp 1), type := 3, pos := "ref.go:156", after := #[], guard := none }) (v := ?v2) rfl (by kernel_rfl) (by kernel_rfl) (by kernel_rfl) (fun _ _ _ h => h) (Or.inl ⟨by kernel_rfl, ?h2⟩) (by assumption) ?r2
    case h2 => (intro w hSw; (try dsimp only at hSw); go_simp; try with_reducible rfl)
    try simp only [Act.put, List.setIfInBounds_toArray, List.set_cons_zero, List.set_cons_succ]
    refine wpAnyH_take (i := 2) (oi := { dst := some 25, op := Go.Op.binOp Go.BinOp.sub 3 (Go.Operand.tmp 24) (Go.Operand.const (Go.Value.int Go.IntKind.i64 1)) 3, type := 3, pos := "ref.go:156", after := #[{ on := 1, ground := Go.Ground.data }], guard := none }) (v := ?v3) rfl (by kernel_rfl) (by kernel_rfl) (by kernel_rfl) (fun _ _ _ h => h) (Or.inl ⟨by kernel_rfl, ?h3⟩) (by assumption) ?r3
    case h3 => (intro w hSw; (try dsimp only at hSw); go_simp; try with_reducible rfl)
    try simp only [Act.put, List.setIfInBounds_toArray, List.set_cons_zero, List.set_cons_succ]
    refine wpAnyH_take (i := 3) (oi := { dst := some 26, op := Go.Op.indexAddr 22 (Go.Operand.tmp 23) (Go.Operand.tmp 25), type := 0, pos := "ref.go:156", after := #[{ on := 0, ground := Go.Ground.data }, { on := 2, ground := Go.Ground.data }], guard := none }) (v := ?v4) rfl (by kernel_rfl) (by kernel_rfl) (by kernel_rfl) (fun _ _ _ h => h) (Or.inl ⟨by kernel_rfl, ?h4⟩) (by assumption) ?r4
    case h4 => (intro w hSw; (try dsimp only at hSw); go_simp; try with_reducible rfl)
    try simp only [Act.put, List.setIfInBounds_toArray, List.set_cons_zero, List.set_cons_succ]
    refine wpAnyH_take (i := 4) (oi := { dst := some 27, op := Go.Op.load 9 (Go.Operand.tmp 26), type := 9, pos := "ref.go:156", after := #[{ on := 3, ground := Go.Ground.data }], guard := none }) (v := ?v5) rfl (by kernel_rfl) (by kernel_rfl) (by kernel_rfl) (fun _ _ _ h => h) (Or.inl ⟨by kernel_rfl, ?h5⟩) (by assumption) ?r5
    case h5 => (intro w hSw; (try dsimp only at hSw); go_simp; try with_reducible rfl)
    try simp only [Act.put, List.setIfInBounds_toArray, List.set_cons_zero, List.set_cons_succ]
    refine wpAnyH_take (i := 5) (oi := { dst := some 28, op := Go.Op.binOp Go.BinOp.add 9 (Go.Operand.tmp 27) (Go.Operand.const (Go.Value.string { data := #[32, 45, 32] })) 9, type := 9, pos := "ref.go:156", after := #[{ on := 4, ground := Go.Ground.data }], guard := none }) (v := ?v6) rfl (by kernel_rfl) (by kernel_rfl) (by kernel_rfl) (fun _ _ _ h => h) (Or.inl ⟨by kernel_rfl, ?h6⟩) (by assumption) ?r6
    case h6 => (intro w hSw; (try dsimp only at hSw); go_simp; try with_reducible rfl)
    try simp only [Act.put, List.setIfInBounds_toArray, List.set_cons_zero, List.set_cons_succ]
    refine wpAnyH_take (i := 6) (oi := { dst := some 29, op := Go.Op.move (Go.Operand.tmp 2), type := 3, pos := "ref.go:156", after := #[], guard := none }) (v := ?v7) rfl (by kernel_rfl) (by kernel_rfl) (by kernel_rfl) (fun _ _ _ h => h) (Or.inl ⟨by kernel_rfl, ?h7⟩) (by assumption) ?r7
    case h7 => (intro w hSw; (try dsimp only at hSw); go_simp; try with_reducible rfl)
    try simp only [Act.put, List.setIfInBounds_toArray, List.set_cons_zero, List.set_cons_succ]
    refine wpAnyH_take (i := 7) (oi := { dst := some 30, op := Go.Op.unOp Go.UnOp.neg 3 (Go.Operand.tmp 29), type := 3, pos := "ref.go:156", after := #[{ on := 6, ground := Go.Ground.data }], guard := none }) (v := ?v8) rfl (by kernel_rfl) (by kernel_rfl) (by kernel_rfl) (fun _ _ _ h => h) (Or.inl ⟨by kernel_rfl, ?h8⟩) (by assumption) ?r8
    case h8 => (intro w hSw; (try dsimp only at hSw); go_simp; try with_reducible rfl)
    try simp only [Act.put, List.setIfInBounds_toArray, List.set_cons_zero, List.set_cons_succ]
    refine wpAnyH_ready (rs := [8]) (by kernel_rfl) (by simp) ?_
    refine AllReadyH.cons (o := { dst := some 31, op := Go.Op.call { callee := Go.Callee.value (Go.Operand.func 51), args := #[Go.Operand.tmp 30], argTypes := #[3] }, type := 9, pos := "ref.go:156", after := #[{ on := 7, ground := Go.Ground.data }], guard := none }) rfl (fun K hK => ?_) AllReadyH.nil
    go_simp
    with_reducible refine (q2.out _).mono ?_
    rintro e t8 ⟨rfl, b8⟩
    go_simp
    refine hK.out _ _ (hHeld.trans (b8.mono hHeld.size)) (fun hHeld => ?_)
    clear hK K
    try simp only [Act.put, List.setIfInBounds_toArray, List.set_cons_zero, List.set_cons_succ]
    refine wpAnyH_take (i := 9) (oi := { dst := some 32, op := Go.Op.binOp Go.BinOp.add 9 (Go.Operand.tmp 28) (Go.Operand.tmp 31) 9, type := 9, pos := "ref.go:156", after := #[{ on := 5, ground := Go.Ground.data }, { on := 8, ground := Go.Ground.data }], guard := none }) (v := ?v9) rfl (by kernel_rfl) (by kernel_rfl) (by kernel_rfl) (fun _ _ _ h => h) (Or.inl ⟨by kernel_rfl, ?h9⟩) (by assumption) ?r9
    case h9 => (intro w hSw; (try dsimp only at hSw); go_simp; try with_reducible rfl)
    try simp only [Act.put, List.setIfInBounds_toArray, List.set_cons_zero, List.set_cons_succ]
    refine wpAnyH_take (i := 10) (oi := { dst := some 6, op := Go.Op.assign (Go.Operand.tmp 32), type := 9, pos := "ref.go:156", after := #[{ on := 9, ground := Go.Ground.data }, { on := 8, ground := Go.Ground.chain }, { on := 0, ground := Go.Ground.phase }, { on := 1, ground := Go.Ground.phase }, { on := 2, ground := Go.Ground.phase }, { on := 3, ground := Go.Ground.phase }, { on := 4, ground := Go.Ground.phase }, { on := 5, ground := Go.Ground.phase }, { on := 6, ground := Go.Ground.phase }, { on := 7, ground := Go.Ground.phase }, { on := 8, ground := Go.Ground.phase }, { on := 9, ground := Go.Ground.phase }], guard := none }) (v := ?v10) rfl (by kernel_rfl) (by kernel_rfl) (by kernel_rfl) (fun _ _ _ h => h) (Or.inl ⟨by kernel_rfl, ?h10⟩) (by assumption) ?r10
    case h10 => (intro w hSw; (try dsimp only at hSw); go_simp; try with_reducible rfl)
    try simp only [Act.put, List.setIfInBounds_toArray, List.set_cons_zero, List.set_cons_succ]
    refine wpAnyH_done (by kernel_rfl) ?_ _
    go_wp2
    go_ret
    rw [hR.out]
    exact ⟨rfl, hHeld⟩
  have hR : Hid (R = (r ++ (⟨#[32, 43, 32]⟩ : ByteArray)) ++ v) := Lib.hid (by rw [hL2.out, if_neg hc0, if_neg hcn])
  clear hL2 h hl y0
  go_enter Tryz.func50, Tryz.ntmps50
  go_wp2
  refine wp_drawn_on (fun W => Below w.heap.size w W) (by kernel_rfl) ((Below.refl _ _).drew) (fun hHeld => ?_)
  refine wpAnyH_take (i := 0) (oi := { dst := some 33, op := Go.Op.move (Go.Operand.tmp 0), type := 22, pos := "ref.go:158", after := #[], guard := none }) (v := ?v11) rfl (by kernel_rfl) (by kernel_rfl) (by kernel_rfl) (fun _ _ _ h => h) (Or.inl ⟨by kernel_rfl, ?h11⟩) (by assumption) ?r11
  case h11 => (intro w hSw; (try dsimp only at hSw); go_simp; try with_reducible rfl)
  try simp only [Act.put, List.setIfInBounds_toArray, List.set_cons_zero, List.set_cons_succ]
  refine wpAnyH_take (i := 1) (oi := { dst := some 34, op := Go.Op.move (Go.Operand.tmp 1), type := 3, pos := "ref.go:158", after := #[], guard := none }) (v := ?v12) rfl (by kernel_rfl) (by kernel_rfl) (by kernel_rfl) (fun _ _ _ h => h) (Or.inl ⟨by kernel_rfl, ?h12⟩) (by assumption) ?r12
  case h12 => (intro w hSw; (try dsimp only at hSw); go_simp; try with_reducible rfl)
  try simp only [Act.put, List.setIfInBounds_toArray, List.set_cons_zero, List.set_cons_succ]
  refine wpAnyH_take (i := 2) (oi := { dst := some 35, op := Go.Op.binOp Go.BinOp.sub 3 (Go.Operand.tmp 34) (Go.Operand.const (Go.Value.int Go.IntKind.i64 1)) 3, type := 3, pos := "ref.go:158", after := #[{ on := 1, ground := Go.Ground.data }], guard := none }) (v := ?v13) rfl (by kernel_rfl) (by kernel_rfl) (by kernel_rfl) (fun _ _ _ h => h) (Or.inl ⟨by kernel_rfl, ?h13⟩) (by assumption) ?r13
  case h13 => (intro w hSw; (try dsimp only at hSw); go_simp; try with_reducible rfl)
  try simp only [Act.put, List.setIfInBounds_toArray, List.set_cons_zero, List.set_cons_succ]
  refine wpAnyH_take (i := 3) (oi := { dst := some 36, op := Go.Op.indexAddr 22 (Go.Operand.tmp 33) (Go.Operand.tmp 35), type := 0, pos := "ref.go:158", after := #[{ on := 0, ground := Go.Ground.data }, { on := 2, ground := Go.Ground.data }], guard := none }) (v := ?v14) rfl (by kernel_rfl) (by kernel_rfl) (by kernel_rfl) (fun _ _ _ h => h) (Or.inl ⟨by kernel_rfl, ?h14⟩) (by assumption) ?r14
  case h14 => (intro w hSw; (try dsimp only at hSw); go_simp; try with_reducible rfl)
  try simp only [Act.put, List.setIfInBounds_toArray, List.set_cons_zero, List.set_cons_succ]
  refine wpAnyH_take (i := 4) (oi := { dst := some 37, op := Go.Op.load 9 (Go.Operand.tmp 36), type := 9, pos := "ref.go:158", after := #[{ on := 3, ground := Go.Ground.data }], guard := none }) (v := ?v15) rfl (by kernel_rfl) (by kernel_rfl) (by kernel_rfl) (fun _ _ _ h => h) (Or.inl ⟨by kernel_rfl, ?h15⟩) (by assumption) ?r15
  case h15 => (intro w hSw; (try dsimp only at hSw); go_simp; try with_reducible rfl)
  try simp only [Act.put, List.setIfInBounds_toArray, List.set_cons_zero, List.set_cons_succ]
  refine wpAnyH_take (i := 5) (oi := { dst := some 38, op := Go.Op.binOp Go.BinOp.add 9 (Go.Operand.tmp 37) (Go.Operand.const (Go.Value.string { data := #[32, 43, 32] })) 9, type := 9, pos := "ref.go:158", after := #[{ on := 4, ground := Go.Ground.data }], guard := none }) (v := ?v16) rfl (by kernel_rfl) (by kernel_rfl) (by kernel_rfl) (fun _ _ _ h => h) (Or.inl ⟨by kernel_rfl, ?h16⟩) (by assumption) ?r16
  case h16 => (intro w hSw; (try dsimp only at hSw); go_simp; try with_reducible rfl)
  try simp only [Act.put, List.setIfInBounds_toArray, List.set_cons_zero, List.set_cons_succ]
  refine wpAnyH_take (i := 6) (oi := { dst := some 39, op := Go.Op.move (Go.Operand.tmp 2), type := 3, pos := "ref.go:158", after := #[], guard := none }) (v := ?v17) rfl (by kernel_rfl) (by kernel_rfl) (by kernel_rfl) (fun _ _ _ h => h) (Or.inl ⟨by kernel_rfl, ?h17⟩) (by assumption) ?r17
  case h17 => (intro w hSw; (try dsimp only at hSw); go_simp; try with_reducible rfl)
  try simp only [Act.put, List.setIfInBounds_toArray, List.set_cons_zero, List.set_cons_succ]
  refine wpAnyH_ready (rs := [7]) (by kernel_rfl) (by simp) ?_
  refine AllReadyH.cons (o := { dst := some 40, op := Go.Op.call { callee := Go.Callee.value (Go.Operand.func 51), args := #[Go.Operand.tmp 39], argTypes := #[3] }, type := 9, pos := "ref.go:158", after := #[{ on := 6, ground := Go.Ground.data }], guard := none }) rfl (fun K hK => ?_) AllReadyH.nil
  go_simp
  with_reducible refine (q1.out _).mono ?_
  rintro e t7 ⟨rfl, b7⟩
  go_simp
  refine hK.out _ _ (hHeld.trans (b7.mono hHeld.size)) (fun hHeld => ?_)
  clear hK K
  try simp only [Act.put, List.setIfInBounds_toArray, List.set_cons_zero, List.set_cons_succ]
  refine wpAnyH_take (i := 8) (oi := { dst := some 41, op := Go.Op.binOp Go.BinOp.add 9 (Go.Operand.tmp 38) (Go.Operand.tmp 40) 9, type := 9, pos := "ref.go:158", after := #[{ on := 5, ground := Go.Ground.data }, { on := 7, ground := Go.Ground.data }], guard := none }) (v := ?v18) rfl (by kernel_rfl) (by kernel_rfl) (by kernel_rfl) (fun _ _ _ h => h) (Or.inl ⟨by kernel_rfl, ?h18⟩) (by assumption) ?r18
  case h18 => (intro w hSw; (try dsimp only at hSw); go_simp; try with_reducible rfl)
  try simp only [Act.put, List.setIfInBounds_toArray, List.set_cons_zero, List.set_cons_succ]
  refine wpAnyH_take (i := 9) (oi := { dst := some 6, op := Go.Op.assign (Go.Operand.tmp 41), type := 9, pos := "ref.go:158", after := #[{ on := 8, ground := Go.Ground.data }, { on := 7, ground := Go.Ground.chain }, { on := 0, ground := Go.Ground.phase }, { on := 1, ground := Go.Ground.phase }, { on := 2, ground := Go.Ground.phase }, { on := 3, ground := Go.Ground.phase }, { on := 4, ground := Go.Ground.phase }, { on := 5, ground := Go.Ground.phase }, { on := 6, ground := Go.Ground.phase }, { on := 7, ground := Go.Ground.phase }, { on := 8, ground := Go.Ground.phase }], guard := none }) (v := ?v19) rfl (by kernel_rfl) (by kernel_rfl) (by kernel_rfl) (fun _ _ _ h => h) (Or.inl ⟨by kernel_rfl, ?h19⟩) (by assumption) ?r19
  case h19 => (intro w hSw; (try dsimp only at hSw); go_simp; try with_reducible rfl)
  try simp only [Act.put, List.setIfInBounds_toArray, List.set_cons_zero, List.set_cons_succ]
  refine wpAnyH_done (by kernel_rfl) ?_ _
  go_wp2
  go_ret
  rw [hR.out]
  exact ⟨rfl, hHeld⟩
set_option maxRecDepth 100000 in
theorem rshow_1 (a : Option Addr) (n cp : Nat) (l : List ByteArray) (hl : ∀ s ∈ l, s.size ≤ 32) (x y c d : Int) (hr : rightB 1 x y c d (n : Int) = true) (w : World) (h : TT w a n cp l) : Calls Tryz.prog 25 #[.slice a n cp, .agg #[.int .i64 1, .int .i64 x, .int .i64 y, .int .i64 c, .int .i64 d]] w (Gives (.string (stmtT l 1 x y c d)) w) := by
  have hB := Lib.hid (box_below w #[.int .i64 1, .int .i64 x, .int .i64 y, .int .i64 c, .int .i64 d] 38)
  have hR : Hid (stmtT l 1 x y c d = ⟨#[115, 107, 105, 112]⟩) := Lib.hid rfl
  generalize stmtT l 1 x y c d = R at *
  clear h hl hr
  go_enter Tryz.func25, Tryz.ntmps25
  go_wp2
  go_ret
  rw [hR.out]
  exact ⟨rfl, hB.out⟩
set_option maxRecDepth 100000 in
set_option maxHeartbeats 4000000 in
theorem rshow_2 (a : Option Addr) (n cp : Nat) (l : List ByteArray) (hl : ∀ s ∈ l, s.size ≤ 32) (x y c d : Int) (hr : rightB 2 x y c d (n : Int) = true) (w : World) (h : TT w a n cp l) : Calls Tryz.prog 25 #[.slice a n cp, .agg #[.int .i64 2, .int .i64 x, .int .i64 y, .int .i64 c, .int .i64 d]] w (Gives (.string (stmtT l 2 x y c d)) w) := by
  obtain ⟨hx0, hx, hy0, hy, ⟨hc0, hc1⟩, rfl⟩ := right_let hr
  have hR : Hid (stmtT l 2 x y c 0 = (nmV l x ++ (⟨#[32, 58, 61, 32]⟩ : ByteArray)) ++ rletT l y c) := Lib.hid (by
    show letT l x y c = _
    unfold letT rletT
    split
    · rfl
    · split
      · rfl
      · split <;> simp only [ByteArray.append_assoc])
  have q := Lib.hid (fun W hW => rlet_any a n cp l hl y c hy0 hy hc0 hc1 W hW)
  have s0 := name_sz hl x
  have s1 := rlet_sz hl y c
  have hn : (n : Int) ≤ 9223372036854775807 := by have := h.cap; have := h.max; unfold maxLen at this; omega
  obtain ⟨i, b, off, rfl, hi, rfl, hbw, x0w⟩ := name_at h hx0 hx
  obtain ⟨W1, hW1⟩ : ∃ W1, W1 = w.alloc (.cells #[.int .i64 2, .int .i64 ((i : Int) + 1), .int .i64 y, .int .i64 c, .int .i64 0] 38) := ⟨_, rfl⟩
  have BL := Lib.hid (show Below w.heap.size w W1 by rw [hW1]; exact box_below _ _ _)
  have HZ : Hid (Holds W1 w.heap.size 38 #[.int .i64 2, .int .i64 ((i : Int) + 1), .int .i64 y, .int .i64 c, .int .i64 0]) := Lib.hid (by rw [hW1]; exact Holds.new w _ _)
  have V := Lib.hid (h.below BL.out)
  have hW1' := Lib.hid hW1
  have hbl : b < W1.heap.size := by have := BL.out.size; omega
  have x0 : W1.cell? ⟨b, off + i, none⟩ = some (.string (nmV l ((i : Int) + 1))) := (BL.out.cell (p := ⟨b, off + i, none⟩) hbw).trans x0w
  have hii : (i : Int) < (n : Int) := by omega
  have w1 : IntKind.i64.wrap (i : Int) = i := by rw [IntKind.wrap_i64]; omega
  have n1 : 0 ≤ (i : Int) := by omega
  have gx : ∀ W, Below W1.heap.size W1 W → W.cell? ⟨b, off + i, none⟩ = some (.string (nmV l ((i : Int) + 1))) := fun W hW => (hW.cell (p := ⟨b, off + i, none⟩) hbl).trans x0
  clear x0w x0 hbw
  generalize nmV l ((i : Int) + 1) = s at *
  generalize rletT l y c = v at *
  generalize stmtT l 2 ((i : Int) + 1) y c 0 = R at *
  have zz1 : ¬ 9223372036854775807 < s.size + 4 := by omega
  have zz2 : ¬ 9223372036854775807 < s.size + 4 + v.size := by omega
  clear h hl hW1 hx0 hx hr
  go_enter Tryz.func25, Tryz.ntmps25
  have k0 := HZ.out.cell 0
  have k1 := HZ.out.cell 1
  have k2 := HZ.out.cell 2
  have k3 := HZ.out.cell 3
  rw [hW1'.out] at k0 k1 k2 k3
  go_wp2
  rw [← hW1'.out]
  clear hW1' k0 k1 k2 k3
  have g0 : ∀ W, Below W1.heap.size W1 W → W.cell? ⟨w.heap.size, 0, none⟩ = some (.int .i64 2) := fun W hW => (HZ.out.below hW HZ.out.lt).cell 0
  have g1 : ∀ W, Below W1.heap.size W1 W → W.cell? ⟨w.heap.size, 1, none⟩ = some (.int .i64 ((i : Int) + 1)) := fun W hW => (HZ.out.below hW HZ.out.lt).cell 1
  have g2 : ∀ W, Below W1.heap.size W1 W → W.cell? ⟨w.heap.size, 2, none⟩ = some (.int .i64 y) := fun W hW => (HZ.out.below hW HZ.out.lt).cell 2
  have g3 : ∀ W, Below W1.heap.size W1 W → W.cell? ⟨w.heap.size, 3, none⟩ = some (.int .i64 c) := fun W hW => (HZ.out.below hW HZ.out.lt).cell 3
  have g4 : ∀ W, Below W1.heap.size W1 W → W.cell? ⟨w.heap.size, 4, none⟩ = some (.int .i64 0) := fun W hW => (HZ.out.below hW HZ.out.lt).cell 4
  refine wp_drawn_on (fun W => Below W1.heap.size W1 W) (by kernel_rfl) ((Below.refl _ _).drew) (fun hHeld => ?_)
  refine wpAnyH_take (i := 0) (oi := { dst := some 11, op := Go.Op.move (Go.Operand.tmp 0), type := 22, pos := "ref.go:167", after := #[], guard := none }) (v := ?v20) rfl (by kernel_rfl) (by kernel_rfl) (by kernel_rfl) (fun _ _ _ h => h) (Or.inl ⟨by kernel_rfl, ?h20⟩) (by assumption) ?r20
  case h20 => (intro w hSw; (try dsimp only at hSw); go_simp; try with_reducible rfl)
  try simp only [Act.put, List.setIfInBounds_toArray, List.set_cons_zero, List.set_cons_succ]
  refine wpAnyH_take (i := 1) (oi := { dst := some 12, op := Go.Op.fieldAddr 38 (Go.Operand.tmp 3) 1, type := 0, pos := "ref.go:167", after := #[], guard := none }) (v := ?v21) rfl (by kernel_rfl) (by kernel_rfl) (by kernel_rfl) (fun _ _ _ h => h) (Or.inl ⟨by kernel_rfl, ?h21⟩) (by assumption) ?r21
  case h21 => (intro w hSw; (try dsimp only at hSw); go_simp; try with_reducible rfl)
  try simp only [Act.put, List.setIfInBounds_toArray, List.set_cons_zero, List.set_cons_succ]
  refine wpAnyH_take (i := 2) (oi := { dst := some 13, op := Go.Op.load 3 (Go.Operand.tmp 12), type := 3, pos := "ref.go:167", after := #[{ on := 1, ground := Go.Ground.data }], guard := none }) (v := ?v22) rfl (by kernel_rfl) (by kernel_rfl) (by kernel_rfl) (fun _ _ _ h => h) (Or.inl ⟨by kernel_rfl, ?h22⟩) (by assumption) ?r22
  case h22 => (intro w hSw; (try dsimp only at hSw); go_simp; try with_reducible rfl)
  try simp only [Act.put, List.setIfInBounds_toArray, List.set_cons_zero, List.set_cons_succ]
  refine wpAnyH_take (i := 3) (oi := { dst := some 14, op := Go.Op.binOp Go.BinOp.sub 3 (Go.Operand.tmp 13) (Go.Operand.const (Go.Value.int Go.IntKind.i64 1)) 3, type := 3, pos := "ref.go:167", after := #[{ on := 2, ground := Go.Ground.data }], guard := none }) (v := ?v23) rfl (by kernel_rfl) (by kernel_rfl) (by kernel_rfl) (fun _ _ _ h => h) (Or.inl ⟨by kernel_rfl, ?h23⟩) (by assumption) ?r23
  case h23 => (intro w hSw; (try dsimp only at hSw); go_simp; try with_reducible rfl)
  try simp only [Act.put, List.setIfInBounds_toArray, List.set_cons_zero, List.set_cons_succ]
  refine wpAnyH_take (i := 4) (oi := { dst := some 15, op := Go.Op.indexAddr 22 (Go.Operand.tmp 11) (Go.Operand.tmp 14), type := 0, pos := "ref.go:167", after := #[{ on := 0, ground := Go.Ground.data }, { on := 3, ground := Go.Ground.data }], guard := none }) (v := ?v24) rfl (by kernel_rfl) (by kernel_rfl) (by kernel_rfl) (fun _ _ _ h => h) (Or.inl ⟨by kernel_rfl, ?h24⟩) (by assumption) ?r24
  case h24 => (intro w hSw; (try dsimp only at hSw); go_simp; try with_reducible rfl)
  try simp only [Act.put, List.setIfInBounds_toArray, List.set_cons_zero, List.set_cons_succ]
  refine wpAnyH_take (i := 5) (oi := { dst := some 16, op := Go.Op.load 9 (Go.Operand.tmp 15), type := 9, pos := "ref.go:167", after := #[{ on := 4, ground := Go.Ground.data }], guard := none }) (v := ?v25) rfl (by kernel_rfl) (by kernel_rfl) (by kernel_rfl) (fun _ _ _ h => h) (Or.inl ⟨by kernel_rfl, ?h25⟩) (by assumption) ?r25
  case h25 => (intro w hSw; (try dsimp only at hSw); go_simp; try with_reducible rfl)
  try simp only [Act.put, List.setIfInBounds_toArray, List.set_cons_zero, List.set_cons_succ]
  refine wpAnyH_take (i := 6) (oi := { dst := some 17, op := Go.Op.binOp Go.BinOp.add 9 (Go.Operand.tmp 16) (Go.Operand.const (Go.Value.string { data := #[32, 58, 61, 32] })) 9, type := 9, pos := "ref.go:167", after := #[{ on := 5, ground := Go.Ground.data }], guard := none }) (v := ?v26) rfl (by kernel_rfl) (by kernel_rfl) (by kernel_rfl) (fun _ _ _ h => h) (Or.inl ⟨by kernel_rfl, ?h26⟩) (by assumption) ?r26
  case h26 => (intro w hSw; (try dsimp only at hSw); go_simp; try with_reducible rfl)
  try simp only [Act.put, List.setIfInBounds_toArray, List.set_cons_zero, List.set_cons_succ]
  refine wpAnyH_take (i := 7) (oi := { dst := some 18, op := Go.Op.move (Go.Operand.tmp 0), type := 22, pos := "ref.go:167", after := #[], guard := none }) (v := ?v27) rfl (by kernel_rfl) (by kernel_rfl) (by kernel_rfl) (fun _ _ _ h => h) (Or.inl ⟨by kernel_rfl, ?h27⟩) (by assumption) ?r27
  case h27 => (intro w hSw; (try dsimp only at hSw); go_simp; try with_reducible rfl)
  try simp only [Act.put, List.setIfInBounds_toArray, List.set_cons_zero, List.set_cons_succ]
  refine wpAnyH_take (i := 8) (oi := { dst := some 19, op := Go.Op.fieldAddr 38 (Go.Operand.tmp 3) 2, type := 0, pos := "ref.go:167", after := #[], guard := none }) (v := ?v28) rfl (by kernel_rfl) (by kernel_rfl) (by kernel_rfl) (fun _ _ _ h => h) (Or.inl ⟨by kernel_rfl, ?h28⟩) (by assumption) ?r28
  case h28 => (intro w hSw; (try dsimp only at hSw); go_simp; try with_reducible rfl)
  try simp only [Act.put, List.setIfInBounds_toArray, List.set_cons_zero, List.set_cons_succ]
  refine wpAnyH_take (i := 9) (oi := { dst := some 20, op := Go.Op.load 3 (Go.Operand.tmp 19), type := 3, pos := "ref.go:167", after := #[{ on := 8, ground := Go.Ground.data }], guard := none }) (v := ?v29) rfl (by kernel_rfl) (by kernel_rfl) (by kernel_rfl) (fun _ _ _ h => h) (Or.inl ⟨by kernel_rfl, ?h29⟩) (by assumption) ?r29
  case h29 => (intro w hSw; (try dsimp only at hSw); go_simp; try with_reducible rfl)
  try simp only [Act.put, List.setIfInBounds_toArray, List.set_cons_zero, List.set_cons_succ]
  refine wpAnyH_take (i := 10) (oi := { dst := some 21, op := Go.Op.fieldAddr 38 (Go.Operand.tmp 3) 3, type := 0, pos := "ref.go:167", after := #[], guard := none }) (v := ?v30) rfl (by kernel_rfl) (by kernel_rfl) (by kernel_rfl) (fun _ _ _ h => h) (Or.inl ⟨by kernel_rfl, ?h30⟩) (by assumption) ?r30
  case h30 => (intro w hSw; (try dsimp only at hSw); go_simp; try with_reducible rfl)
  try simp only [Act.put, List.setIfInBounds_toArray, List.set_cons_zero, List.set_cons_succ]
  refine wpAnyH_take (i := 11) (oi := { dst := some 22, op := Go.Op.load 3 (Go.Operand.tmp 21), type := 3, pos := "ref.go:167", after := #[{ on := 10, ground := Go.Ground.data }], guard := none }) (v := ?v31) rfl (by kernel_rfl) (by kernel_rfl) (by kernel_rfl) (fun _ _ _ h => h) (Or.inl ⟨by kernel_rfl, ?h31⟩) (by assumption) ?r31
  case h31 => (intro w hSw; (try dsimp only at hSw); go_simp; try with_reducible rfl)
  try simp only [Act.put, List.setIfInBounds_toArray, List.set_cons_zero, List.set_cons_succ]
  refine wpAnyH_ready (rs := [12]) (by kernel_rfl) (by simp) ?_
  refine AllReadyH.cons (o := { dst := some 23, op := Go.Op.call { callee := Go.Callee.value (Go.Operand.func 50), args := #[Go.Operand.tmp 18, Go.Operand.tmp 20, Go.Operand.tmp 22], argTypes := #[22, 3, 3] }, type := 9, pos := "ref.go:167", after := #[{ on := 7, ground := Go.Ground.data }, { on := 9, ground := Go.Ground.data }, { on := 11, ground := Go.Ground.data }], guard := none }) rfl (fun K hK => ?_) AllReadyH.nil
  go_simp
  with_reducible refine (q.out _ (V.out.below hHeld)).mono ?_
  rintro e t12 ⟨rfl, b12⟩
  go_simp
  refine hK.out _ _ (hHeld.trans (b12.mono hHeld.size)) (fun hHeld => ?_)
  clear hK K
  try simp only [Act.put, List.setIfInBounds_toArray, List.set_cons_zero, List.set_cons_succ]
  refine wpAnyH_take (i := 13) (oi := { dst := some 24, op := Go.Op.binOp Go.BinOp.add 9 (Go.Operand.tmp 17) (Go.Operand.tmp 23) 9, type := 9, pos := "ref.go:167", after := #[{ on := 6, ground := Go.Ground.data }, { on := 12, ground := Go.Ground.data }], guard := none }) (v := ?v32) rfl (by kernel_rfl) (by kernel_rfl) (by kernel_rfl) (fun _ _ _ h => h) (Or.inl ⟨by kernel_rfl, ?h32⟩) (by assumption) ?r32
  case h32 => (intro w hSw; (try dsimp only at hSw); go_simp; try with_reducible rfl)
  try simp only [Act.put, List.setIfInBounds_toArray, List.set_cons_zero, List.set_cons_succ]
  refine wpAnyH_take (i := 14) (oi := { dst := some 4, op := Go.Op.assign (Go.Operand.tmp 24), type := 9, pos := "ref.go:167", after := #[{ on := 13, ground := Go.Ground.data }, { on := 12, ground := Go.Ground.chain }, { on := 0, ground := Go.Ground.phase }, { on := 1, ground := Go.Ground.phase }, { on := 2, ground := Go.Ground.phase }, { on := 3, ground := Go.Ground.phase }, { on := 4, ground := Go.Ground.phase }, { on := 5, ground := Go.Ground.phase }, { on := 6, ground := Go.Ground.phase }, { on := 7, ground := Go.Ground.phase }, { on := 8, ground := Go.Ground.phase }, { on := 9, ground := Go.Ground.phase }, { on := 10, ground := Go.Ground.phase }, { on := 11, ground := Go.Ground.phase }, { on := 12, ground := Go.Ground.phase }, { on := 13, ground := Go.Ground.phase }], guard := none }) (v := ?v33) rfl (by kernel_rfl) (by kernel_rfl) (by kernel_rfl) (fun _ _ _ h => h) (Or.inl ⟨by kernel_rfl, ?h33⟩) (by assumption) ?r33
  case h33 => (intro w hSw; (try dsimp only at hSw); go_simp; try with_reducible rfl)
  try simp only [Act.put, List.setIfInBounds_toArray, List.set_cons_zero, List.set_cons_succ]
  refine wpAnyH_done (by kernel_rfl) ?_ _
  go_wp2
  go_ret
  rw [hR.out]
  exact ⟨rfl, BL.out.trans (hHeld.mono BL.out.size)⟩
set_option maxRecDepth 100000 in
set_option maxHeartbeats 4000000 in
theorem rshow_3 (a : Option Addr) (n cp : Nat) (l : List ByteArray) (hl : ∀ s ∈ l, s.size ≤ 32) (x y c d : Int) (hr : rightB 3 x y c d (n : Int) = true) (w : World) (h : TT w a n cp l) : Calls Tryz.prog 25 #[.slice a n cp, .agg #[.int .i64 3, .int .i64 x, .int .i64 y, .int .i64 c, .int .i64 d]] w (Gives (.string (stmtT l 3 x y c d)) w) := by
  obtain ⟨hx0, hx, rfl, ⟨hc0, hc1⟩, ⟨hd0, hd1⟩, _⟩ := right_any' hr
  have hR : Hid (stmtT l 3 x 0 c d = ((((nmV l x ++ (⟨#[32, 58, 61, 32, 97, 110, 121, 32, 91]⟩ : ByteArray)) ++ vT c) ++ (⟨#[44, 32]⟩ : ByteArray)) ++ vT d) ++ (⟨#[93]⟩ : ByteArray)) := Lib.hid (by
    show anyT l x c d = _
    unfold anyT
    apply bytes_ext
    simp only [app_list, List.append_assoc]
    rfl)
  have q1 := Lib.hid (fun W => rvshow_any c hc0 hc1 W)
  have q2 := Lib.hid (fun W => rvshow_any d hd0 hd1 W)
  have s0 := name_sz hl x
  have s1 := vT_size c
  have s2 := vT_size d
  have hn : (n : Int) ≤ 9223372036854775807 := by have := h.cap; have := h.max; unfold maxLen at this; omega
  obtain ⟨i, b, off, rfl, hi, rfl, hbw, x0w⟩ := name_at h hx0 hx
  obtain ⟨W1, hW1⟩ : ∃ W1, W1 = w.alloc (.cells #[.int .i64 3, .int .i64 ((i : Int) + 1), .int .i64 0, .int .i64 c, .int .i64 d] 38) := ⟨_, rfl⟩
  have BL := Lib.hid (show Below w.heap.size w W1 by rw [hW1]; exact box_below _ _ _)
  have HZ : Hid (Holds W1 w.heap.size 38 #[.int .i64 3, .int .i64 ((i : Int) + 1), .int .i64 0, .int .i64 c, .int .i64 d]) := Lib.hid (by rw [hW1]; exact Holds.new w _ _)
  have V := Lib.hid (h.below BL.out)
  have hW1' := Lib.hid hW1
  have hbl : b < W1.heap.size := by have := BL.out.size; omega
  have x0 : W1.cell? ⟨b, off + i, none⟩ = some (.string (nmV l ((i : Int) + 1))) := (BL.out.cell (p := ⟨b, off + i, none⟩) hbw).trans x0w
  have hii : (i : Int) < (n : Int) := by omega
  have w1 : IntKind.i64.wrap (i : Int) = i := by rw [IntKind.wrap_i64]; omega
  have n1 : 0 ≤ (i : Int) := by omega
  have gx : ∀ W, Below W1.heap.size W1 W → W.cell? ⟨b, off + i, none⟩ = some (.string (nmV l ((i : Int) + 1))) := fun W hW => (hW.cell (p := ⟨b, off + i, none⟩) hbl).trans x0
  clear x0w x0 hbw
  generalize nmV l ((i : Int) + 1) = s at *
  generalize vT c = v at *
  generalize vT d = u at *
  generalize stmtT l 3 ((i : Int) + 1) 0 c d = R at *
  have zz1 : ¬ 9223372036854775807 < s.size + 9 := by omega
  have zz2 : ¬ 9223372036854775807 < s.size + 9 + v.size := by omega
  have zz3 : ¬ 9223372036854775807 < s.size + 9 + v.size + 2 := by omega
  have zz4 : ¬ 9223372036854775807 < s.size + 9 + v.size + 2 + u.size := by omega
  have zz5 : ¬ 9223372036854775807 < s.size + 9 + v.size + 2 + u.size + 1 := by omega
  clear h hl hW1 hx0 hx hr
  go_enter Tryz.func25, Tryz.ntmps25
  have k0 := HZ.out.cell 0
  have k1 := HZ.out.cell 1
  have k2 := HZ.out.cell 2
  have k3 := HZ.out.cell 3
  rw [hW1'.out] at k0 k1 k2 k3
  go_wp2
  rw [← hW1'.out]
  clear hW1' k0 k1 k2 k3
  have g0 : ∀ W, Below W1.heap.size W1 W → W.cell? ⟨w.heap.size, 0, none⟩ = some (.int .i64 3) := fun W hW => (HZ.out.below hW HZ.out.lt).cell 0
  have g1 : ∀ W, Below W1.heap.size W1 W → W.cell? ⟨w.heap.size, 1, none⟩ = some (.int .i64 ((i : Int) + 1)) := fun W hW => (HZ.out.below hW HZ.out.lt).cell 1
  have g2 : ∀ W, Below W1.heap.size W1 W → W.cell? ⟨w.heap.size, 2, none⟩ = some (.int .i64 0) := fun W hW => (HZ.out.below hW HZ.out.lt).cell 2
  have g3 : ∀ W, Below W1.heap.size W1 W → W.cell? ⟨w.heap.size, 3, none⟩ = some (.int .i64 c) := fun W hW => (HZ.out.below hW HZ.out.lt).cell 3
  have g4 : ∀ W, Below W1.heap.size W1 W → W.cell? ⟨w.heap.size, 4, none⟩ = some (.int .i64 d) := fun W hW => (HZ.out.below hW HZ.out.lt).cell 4
  refine wp_drawn_on (fun W => Below W1.heap.size W1 W) (by kernel_rfl) ((Below.refl _ _).drew) (fun hHeld => ?_)
  refine wpAnyH_take (i := 0) (oi := { dst := some 27, op := Go.Op.move (Go.Operand.tmp 0), type := 22, pos := "ref.go:169", after := #[], guard := none }) (v := ?v34) rfl (by kernel_rfl) (by kernel_rfl) (by kernel_rfl) (fun _ _ _ h => h) (Or.inl ⟨by kernel_rfl, ?h34⟩) (by assumption) ?r34
  case h34 => (intro w hSw; (try dsimp only at hSw); go_simp; try with_reducible rfl)
  try simp only [Act.put, List.setIfInBounds_toArray, List.set_cons_zero, List.set_cons_succ]
  refine wpAnyH_take (i := 1) (oi := { dst := some 28, op := Go.Op.fieldAddr 38 (Go.Operand.tmp 3) 1, type := 0, pos := "ref.go:169", after := #[], guard := none }) (v := ?v35) rfl (by kernel_rfl) (by kernel_rfl) (by kernel_rfl) (fun _ _ _ h => h) (Or.inl ⟨by kernel_rfl, ?h35⟩) (by assumption) ?r35
  case h35 => (intro w hSw; (try dsimp only at hSw); go_simp; try with_reducible rfl)
  try simp only [Act.put, List.setIfInBounds_toArray, List.set_cons_zero, List.set_cons_succ]
  refine wpAnyH_take (i := 2) (oi := { dst := some 29, op := Go.Op.load 3 (Go.Operand.tmp 28), type := 3, pos := "ref.go:169", after := #[{ on := 1, ground := Go.Ground.data }], guard := none }) (v := ?v36) rfl (by kernel_rfl) (by kernel_rfl) (by kernel_rfl) (fun _ _ _ h => h) (Or.inl ⟨by kernel_rfl, ?h36⟩) (by assumption) ?r36
  case h36 => (intro w hSw; (try dsimp only at hSw); go_simp; try with_reducible rfl)
  try simp only [Act.put, List.setIfInBounds_toArray, List.set_cons_zero, List.set_cons_succ]
  refine wpAnyH_take (i := 3) (oi := { dst := some 30, op := Go.Op.binOp Go.BinOp.sub 3 (Go.Operand.tmp 29) (Go.Operand.const (Go.Value.int Go.IntKind.i64 1)) 3, type := 3, pos := "ref.go:169", after := #[{ on := 2, ground := Go.Ground.data }], guard := none }) (v := ?v37) rfl (by kernel_rfl) (by kernel_rfl) (by kernel_rfl) (fun _ _ _ h => h) (Or.inl ⟨by kernel_rfl, ?h37⟩) (by assumption) ?r37
  case h37 => (intro w hSw; (try dsimp only at hSw); go_simp; try with_reducible rfl)
  try simp only [Act.put, List.setIfInBounds_toArray, List.set_cons_zero, List.set_cons_succ]
  refine wpAnyH_take (i := 4) (oi := { dst := some 31, op := Go.Op.indexAddr 22 (Go.Operand.tmp 27) (Go.Operand.tmp 30), type := 0, pos := "ref.go:169", after := #[{ on := 0, ground := Go.Ground.data }, { on := 3, ground := Go.Ground.data }], guard := none }) (v := ?v38) rfl (by kernel_rfl) (by kernel_rfl) (by kernel_rfl) (fun _ _ _ h => h) (Or.inl ⟨by kernel_rfl, ?h38⟩) (by assumption) ?r38
  case h38 => (intro w hSw; (try dsimp only at hSw); go_simp; try with_reducible rfl)
  try simp only [Act.put, List.setIfInBounds_toArray, List.set_cons_zero, List.set_cons_succ]
  refine wpAnyH_take (i := 5) (oi := { dst := some 32, op := Go.Op.load 9 (Go.Operand.tmp 31), type := 9, pos := "ref.go:169", after := #[{ on := 4, ground := Go.Ground.data }], guard := none }) (v := ?v39) rfl (by kernel_rfl) (by kernel_rfl) (by kernel_rfl) (fun _ _ _ h => h) (Or.inl ⟨by kernel_rfl, ?h39⟩) (by assumption) ?r39
  case h39 => (intro w hSw; (try dsimp only at hSw); go_simp; try with_reducible rfl)
  try simp only [Act.put, List.setIfInBounds_toArray, List.set_cons_zero, List.set_cons_succ]
  refine wpAnyH_take (i := 6) (oi := { dst := some 33, op := Go.Op.binOp Go.BinOp.add 9 (Go.Operand.tmp 32) (Go.Operand.const (Go.Value.string { data := #[32, 58, 61, 32, 97, 110, 121, 32, 91] })) 9, type := 9, pos := "ref.go:169", after := #[{ on := 5, ground := Go.Ground.data }], guard := none }) (v := ?v40) rfl (by kernel_rfl) (by kernel_rfl) (by kernel_rfl) (fun _ _ _ h => h) (Or.inl ⟨by kernel_rfl, ?h40⟩) (by assumption) ?r40
  case h40 => (intro w hSw; (try dsimp only at hSw); go_simp; try with_reducible rfl)
  try simp only [Act.put, List.setIfInBounds_toArray, List.set_cons_zero, List.set_cons_succ]
  refine wpAnyH_take (i := 7) (oi := { dst := some 34, op := Go.Op.fieldAddr 38 (Go.Operand.tmp 3) 3, type := 0, pos := "ref.go:169", after := #[], guard := none }) (v := ?v41) rfl (by kernel_rfl) (by kernel_rfl) (by kernel_rfl) (fun _ _ _ h => h) (Or.inl ⟨by kernel_rfl, ?h41⟩) (by assumption) ?r41
  case h41 => (intro w hSw; (try dsimp only at hSw); go_simp; try with_reducible rfl)
  try simp only [Act.put, List.setIfInBounds_toArray, List.set_cons_zero, List.set_cons_succ]
  refine wpAnyH_take (i := 8) (oi := { dst := some 35, op := Go.Op.load 3 (Go.Operand.tmp 34), type := 3, pos := "ref.go:169", after := #[{ on := 7, ground := Go.Ground.data }], guard := none }) (v := ?v42) rfl (by kernel_rfl) (by kernel_rfl) (by kernel_rfl) (fun _ _ _ h => h) (Or.inl ⟨by kernel_rfl, ?h42⟩) (by assumption) ?r42
  case h42 => (intro w hSw; (try dsimp only at hSw); go_simp; try with_reducible rfl)
  try simp only [Act.put, List.setIfInBounds_toArray, List.set_cons_zero, List.set_cons_succ]
  refine wpAnyH_take (i := 12) (oi := { dst := some 39, op := Go.Op.fieldAddr 38 (Go.Operand.tmp 3) 4, type := 0, pos := "ref.go:169", after := #[], guard := none }) (v := ?v43) rfl (by kernel_rfl) (by kernel_rfl) (by kernel_rfl) (fun _ _ _ h => h) (Or.inl ⟨by kernel_rfl, ?h43⟩) (by assumption) ?r43
  case h43 => (intro w hSw; (try dsimp only at hSw); go_simp; try with_reducible rfl)
  try simp only [Act.put, List.setIfInBounds_toArray, List.set_cons_zero, List.set_cons_succ]
  refine wpAnyH_take (i := 13) (oi := { dst := some 40, op := Go.Op.load 3 (Go.Operand.tmp 39), type := 3, pos := "ref.go:169", after := #[{ on := 12, ground := Go.Ground.data }], guard := none }) (v := ?v44) rfl (by kernel_rfl) (by kernel_rfl) (by kernel_rfl) (fun _ _ _ h => h) (Or.inl ⟨by kernel_rfl, ?h44⟩) (by assumption) ?r44
  case h44 => (intro w hSw; (try dsimp only at hSw); go_simp; try with_reducible rfl)
  try simp only [Act.put, List.setIfInBounds_toArray, List.set_cons_zero, List.set_cons_succ]
  refine wpAnyH_ready (rs := [9]) (by kernel_rfl) (by simp) ?_
  refine AllReadyH.cons (o := { dst := some 36, op := Go.Op.call { callee := Go.Callee.value (Go.Operand.func 51), args := #[Go.Operand.tmp 35], argTypes := #[3] }, type := 9, pos := "ref.go:169", after := #[{ on := 8, ground := Go.Ground.data }], guard := none }) rfl (fun K hK => ?_) AllReadyH.nil
  go_simp
  with_reducible refine (q1.out _).mono ?_
  rintro e t9 ⟨rfl, b9⟩
  go_simp
  refine hK.out _ _ (hHeld.trans (b9.mono hHeld.size)) (fun hHeld => ?_)
  clear hK K
  try simp only [Act.put, List.setIfInBounds_toArray, List.set_cons_zero, List.set_cons_succ]
  refine wpAnyH_take (i := 10) (oi := { dst := some 37, op := Go.Op.binOp Go.BinOp.add 9 (Go.Operand.tmp 33) (Go.Operand.tmp 36) 9, type := 9, pos := "ref.go:169", after := #[{ on := 6, ground := Go.Ground.data }, { on := 9, ground := Go.Ground.data }], guard := none }) (v := ?v45) rfl (by kernel_rfl) (by kernel_rfl) (by kernel_rfl) (fun _ _ _ h => h) (Or.inl ⟨by kernel_rfl, ?h45⟩) (by assumption) ?r45
  case h45 => (intro w hSw; (try dsimp only at hSw); go_simp; try with_reducible rfl)
  try simp only [Act.put, List.setIfInBounds_toArray, List.set_cons_zero, List.set_cons_succ]
  refine wpAnyH_take (i := 11) (oi := { dst := some 38, op := Go.Op.binOp Go.BinOp.add 9 (Go.Operand.tmp 37) (Go.Operand.const (Go.Value.string { data := #[44, 32] })) 9, type := 9, pos := "ref.go:169", after := #[{ on := 10, ground := Go.Ground.data }], guard := none }) (v := ?v46) rfl (by kernel_rfl) (by kernel_rfl) (by kernel_rfl) (fun _ _ _ h => h) (Or.inl ⟨by kernel_rfl, ?h46⟩) (by assumption) ?r46
  case h46 => (intro w hSw; (try dsimp only at hSw); go_simp; try with_reducible rfl)
  try simp only [Act.put, List.setIfInBounds_toArray, List.set_cons_zero, List.set_cons_succ]
  refine wpAnyH_ready (rs := [14]) (by kernel_rfl) (by simp) ?_
  refine AllReadyH.cons (o := { dst := some 41, op := Go.Op.call { callee := Go.Callee.value (Go.Operand.func 51), args := #[Go.Operand.tmp 40], argTypes := #[3] }, type := 9, pos := "ref.go:169", after := #[{ on := 13, ground := Go.Ground.data }, { on := 9, ground := Go.Ground.chain }], guard := none }) rfl (fun K hK => ?_) AllReadyH.nil
  go_simp
  with_reducible refine (q2.out _).mono ?_
  rintro e t14 ⟨rfl, b14⟩
  go_simp
  refine hK.out _ _ (hHeld.trans (b14.mono hHeld.size)) (fun hHeld => ?_)
  clear hK K
  try simp only [Act.put, List.setIfInBounds_toArray, List.set_cons_zero, List.set_cons_succ]
  refine wpAnyH_take (i := 15) (oi := { dst := some 42, op := Go.Op.binOp Go.BinOp.add 9 (Go.Operand.tmp 38) (Go.Operand.tmp 41) 9, type := 9, pos := "ref.go:169", after := #[{ on := 11, ground := Go.Ground.data }, { on := 14, ground := Go.Ground.data }], guard := none }) (v := ?v47) rfl (by kernel_rfl) (by kernel_rfl) (by kernel_rfl) (fun _ _ _ h => h) (Or.inl ⟨by kernel_rfl, ?h47⟩) (by assumption) ?r47
  case h47 => (intro w hSw; (try dsimp only at hSw); go_simp; try with_reducible rfl)
  try simp only [Act.put, List.setIfInBounds_toArray, List.set_cons_zero, List.set_cons_succ]
  refine wpAnyH_take (i := 16) (oi := { dst := some 43, op := Go.Op.binOp Go.BinOp.add 9 (Go.Operand.tmp 42) (Go.Operand.const (Go.Value.string { data := #[93] })) 9, type := 9, pos := "ref.go:169", after := #[{ on := 15, ground := Go.Ground.data }], guard := none }) (v := ?v48) rfl (by kernel_rfl) (by kernel_rfl) (by kernel_rfl) (fun _ _ _ h => h) (Or.inl ⟨by kernel_rfl, ?h48⟩) (by assumption) ?r48
  case h48 => (intro w hSw; (try dsimp only at hSw); go_simp; try with_reducible rfl)
  try simp only [Act.put, List.setIfInBounds_toArray, List.set_cons_zero, List.set_cons_succ]
  refine wpAnyH_take (i := 17) (oi := { dst := some 4, op := Go.Op.assign (Go.Operand.tmp 43), type := 9, pos := "ref.go:169", after := #[{ on := 16, ground := Go.Ground.data }, { on := 14, ground := Go.Ground.chain }, { on := 0, ground := Go.Ground.phase }, { on := 1, ground := Go.Ground.phase }, { on := 2, ground := Go.Ground.phase }, { on := 3, ground := Go.Ground.phase }, { on := 4, ground := Go.Ground.phase }, { on := 5, ground := Go.Ground.phase }, { on := 6, ground := Go.Ground.phase }, { on := 7, ground := Go.Ground.phase }, { on := 8, ground := Go.Ground.phase }, { on := 9, ground := Go.Ground.phase }, { on := 10, ground := Go.Ground.phase }, { on := 11, ground := Go.Ground.phase }, { on := 12, ground := Go.Ground.phase }, { on := 13, ground := Go.Ground.phase }, { on := 14, ground := Go.Ground.phase }, { on := 15, ground := Go.Ground.phase }, { on := 16, ground := Go.Ground.phase }], guard := none }) (v := ?v49) rfl (by kernel_rfl) (by kernel_rfl) (by kernel_rfl) (fun _ _ _ h => h) (Or.inl ⟨by kernel_rfl, ?h49⟩) (by assumption) ?r49
  case h49 => (intro w hSw; (try dsimp only at hSw); go_simp; try with_reducible rfl)
  try simp only [Act.put, List.setIfInBounds_toArray, List.set_cons_zero, List.set_cons_succ]
  refine wpAnyH_done (by kernel_rfl) ?_ _
  go_wp2
  go_ret
  rw [hR.out]
  exact ⟨rfl, BL.out.trans (hHeld.mono BL.out.size)⟩
set_option maxRecDepth 100000 in
set_option maxHeartbeats 4000000 in
theorem rshow_4 (a : Option Addr) (n cp : Nat) (l : List ByteArray) (hl : ∀ s ∈ l, s.size ≤ 32) (x y c d : Int) (hr : rightB 4 x y c d (n : Int) = true) (w : World) (h : TT w a n cp l) : Calls Tryz.prog 25 #[.slice a n cp, .agg #[.int .i64 4, .int .i64 x, .int .i64 y, .int .i64 c, .int .i64 d]] w (Gives (.string (stmtT l 4 x y c d)) w) := by
  obtain ⟨hx0, hx, hy0, hy, hxy, ⟨hc0, hc1⟩, rfl⟩ := right_diff (by omega) hr
  have hR : Hid (stmtT l 4 x y c 0 = (((⟨#[108, 105, 109, 105, 116, 32]⟩ : ByteArray) ++ diffT l x y) ++ (⟨#[32, 60, 61, 32]⟩ : ByteArray)) ++ vT c) := Lib.hid (by
    show limT ⟨#[108, 105, 109, 105, 116]⟩ l x y c = _
    unfold limT
    apply bytes_ext
    simp only [app_list, List.append_assoc]
    rfl)
  have q1 := Lib.hid (fun W hW => rdifference_any a n cp l hl x y hx0 hx hy0 hy hxy W hW)
  have q2 := Lib.hid (fun W => rvshow_any c hc0 hc1 W)
  have s1 := diff_sz hl x y
  have s2 := vT_size c
  obtain ⟨W1, hW1⟩ : ∃ W1, W1 = w.alloc (.cells #[.int .i64 4, .int .i64 x, .int .i64 y, .int .i64 c, .int .i64 0] 38) := ⟨_, rfl⟩
  have BL := Lib.hid (show Below w.heap.size w W1 by rw [hW1]; exact box_below _ _ _)
  have HZ : Hid (Holds W1 w.heap.size 38 #[.int .i64 4, .int .i64 x, .int .i64 y, .int .i64 c, .int .i64 0]) := Lib.hid (by rw [hW1]; exact Holds.new w _ _)
  have V := Lib.hid (h.below BL.out)
  have hW1' := Lib.hid hW1
  generalize diffT l x y = v at *
  generalize vT c = u at *
  generalize stmtT l 4 x y c 0 = R at *
  have zz1 : ¬ 9223372036854775807 < 6 + v.size := by omega
  have zz2 : ¬ 9223372036854775807 < 6 + v.size + 4 := by omega
  have zz3 : ¬ 9223372036854775807 < 6 + v.size + 4 + u.size := by omega
  clear h hl hW1 hx0 hx hr hxy hy0 hy
  go_enter Tryz.func25, Tryz.ntmps25
  have k0 := HZ.out.cell 0
  have k1 := HZ.out.cell 1
  have k2 := HZ.out.cell 2
  have k3 := HZ.out.cell 3
  rw [hW1'.out] at k0 k1 k2 k3
  go_wp2
  rw [← hW1'.out]
  clear hW1' k0 k1 k2 k3
  have g0 : ∀ W, Below W1.heap.size W1 W → W.cell? ⟨w.heap.size, 0, none⟩ = some (.int .i64 4) := fun W hW => (HZ.out.below hW HZ.out.lt).cell 0
  have g1 : ∀ W, Below W1.heap.size W1 W → W.cell? ⟨w.heap.size, 1, none⟩ = some (.int .i64 x) := fun W hW => (HZ.out.below hW HZ.out.lt).cell 1
  have g2 : ∀ W, Below W1.heap.size W1 W → W.cell? ⟨w.heap.size, 2, none⟩ = some (.int .i64 y) := fun W hW => (HZ.out.below hW HZ.out.lt).cell 2
  have g3 : ∀ W, Below W1.heap.size W1 W → W.cell? ⟨w.heap.size, 3, none⟩ = some (.int .i64 c) := fun W hW => (HZ.out.below hW HZ.out.lt).cell 3
  have g4 : ∀ W, Below W1.heap.size W1 W → W.cell? ⟨w.heap.size, 4, none⟩ = some (.int .i64 0) := fun W hW => (HZ.out.below hW HZ.out.lt).cell 4
  refine wp_drawn_on (fun W => Below W1.heap.size W1 W) (by kernel_rfl) ((Below.refl _ _).drew) (fun hHeld => ?_)
  refine wpAnyH_take (i := 0) (oi := { dst := some 46, op := Go.Op.move (Go.Operand.tmp 0), type := 22, pos := "ref.go:171", after := #[], guard := none }) (v := ?v50) rfl (by kernel_rfl) (by kernel_rfl) (by kernel_rfl) (fun _ _ _ h => h) (Or.inl ⟨by kernel_rfl, ?h50⟩) (by assumption) ?r50
  case h50 => (intro w hSw; (try dsimp only at hSw); go_simp; try with_reducible rfl)
  try simp only [Act.put, List.setIfInBounds_toArray, List.set_cons_zero, List.set_cons_succ]
  refine wpAnyH_take (i := 1) (oi := { dst := some 47, op := Go.Op.fieldAddr 38 (Go.Operand.tmp 3) 1, type := 0, pos := "ref.go:171", after := #[], guard := none }) (v := ?v51) rfl (by kernel_rfl) (by kernel_rfl) (by kernel_rfl) (fun _ _ _ h => h) (Or.inl ⟨by kernel_rfl, ?h51⟩) (by assumption) ?r51
  case h51 => (intro w hSw; (try dsimp only at hSw); go_simp; try with_reducible rfl)
  try simp only [Act.put, List.setIfInBounds_toArray, List.set_cons_zero, List.set_cons_succ]
  refine wpAnyH_take (i := 2) (oi := { dst := some 48, op := Go.Op.load 3 (Go.Operand.tmp 47), type := 3, pos := "ref.go:171", after := #[{ on := 1, ground := Go.Ground.data }], guard := none }) (v := ?v52) rfl (by kernel_rfl) (by kernel_rfl) (by kernel_rfl) (fun _ _ _ h => h) (Or.inl ⟨by kernel_rfl, ?h52⟩) (by assumption) ?r52
  case h52 => (intro w hSw; (try dsimp only at hSw); go_simp; try with_reducible rfl)
  try simp only [Act.put, List.setIfInBounds_toArray, List.set_cons_zero, List.set_cons_succ]
  refine wpAnyH_take (i := 3) (oi := { dst := some 49, op := Go.Op.fieldAddr 38 (Go.Operand.tmp 3) 2, type := 0, pos := "ref.go:171", after := #[], guard := none }) (v := ?v53) rfl (by kernel_rfl) (by kernel_rfl) (by kernel_rfl) (fun _ _ _ h => h) (Or.inl ⟨by kernel_rfl, ?h53⟩) (by assumption) ?r53
  case h53 => (intro w hSw; (try dsimp only at hSw); go_simp; try with_reducible rfl)
  try simp only [Act.put, List.setIfInBounds_toArray, List.set_cons_zero, List.set_cons_succ]
  refine wpAnyH_take (i := 4) (oi := { dst := some 50, op := Go.Op.load 3 (Go.Operand.tmp 49), type := 3, pos := "ref.go:171", after := #[{ on := 3, ground := Go.Ground.data }], guard := none }) (v := ?v54) rfl (by kernel_rfl) (by kernel_rfl) (by kernel_rfl) (fun _ _ _ h => h) (Or.inl ⟨by kernel_rfl, ?h54⟩) (by assumption) ?r54
  case h54 => (intro w hSw; (try dsimp only at hSw); go_simp; try with_reducible rfl)
  try simp only [Act.put, List.setIfInBounds_toArray, List.set_cons_zero, List.set_cons_succ]
  refine wpAnyH_take (i := 8) (oi := { dst := some 54, op := Go.Op.fieldAddr 38 (Go.Operand.tmp 3) 3, type := 0, pos := "ref.go:171", after := #[], guard := none }) (v := ?v55) rfl (by kernel_rfl) (by kernel_rfl) (by kernel_rfl) (fun _ _ _ h => h) (Or.inl ⟨by kernel_rfl, ?h55⟩) (by assumption) ?r55
  case h55 => (intro w hSw; (try dsimp only at hSw); go_simp; try with_reducible rfl)
  try simp only [Act.put, List.setIfInBounds_toArray, List.set_cons_zero, List.set_cons_succ]
  refine wpAnyH_take (i := 9) (oi := { dst := some 55, op := Go.Op.load 3 (Go.Operand.tmp 54), type := 3, pos := "ref.go:171", after := #[{ on := 8, ground := Go.Ground.data }], guard := none }) (v := ?v56) rfl (by kernel_rfl) (by kernel_rfl) (by kernel_rfl) (fun _ _ _ h => h) (Or.inl ⟨by kernel_rfl, ?h56⟩) (by assumption) ?r56
  case h56 => (intro w hSw; (try dsimp only at hSw); go_simp; try with_reducible rfl)
  try simp only [Act.put, List.setIfInBounds_toArray, List.set_cons_zero, List.set_cons_succ]
  refine wpAnyH_ready (rs := [5]) (by kernel_rfl) (by simp) ?_
  refine AllReadyH.cons (o := { dst := some 51, op := Go.Op.call { callee := Go.Callee.value (Go.Operand.func 52), args := #[Go.Operand.tmp 46, Go.Operand.tmp 48, Go.Operand.tmp 50], argTypes := #[22, 3, 3] }, type := 9, pos := "ref.go:171", after := #[{ on := 0, ground := Go.Ground.data }, { on := 2, ground := Go.Ground.data }, { on := 4, ground := Go.Ground.data }], guard := none }) rfl (fun K hK => ?_) AllReadyH.nil
  go_simp
  with_reducible refine (q1.out _ (V.out.below hHeld)).mono ?_
  rintro e t5 ⟨rfl, b5⟩
  go_simp
  refine hK.out _ _ (hHeld.trans (b5.mono hHeld.size)) (fun hHeld => ?_)
  clear hK K
  try simp only [Act.put, List.setIfInBounds_toArray, List.set_cons_zero, List.set_cons_succ]
  refine wpAnyH_take (i := 6) (oi := { dst := some 52, op := Go.Op.binOp Go.BinOp.add 9 (Go.Operand.const (Go.Value.string { data := #[108, 105, 109, 105, 116, 32] })) (Go.Operand.tmp 51) 9, type := 9, pos := "ref.go:171", after := #[{ on := 5, ground := Go.Ground.data }], guard := none }) (v := ?v57) rfl (by kernel_rfl) (by kernel_rfl) (by kernel_rfl) (fun _ _ _ h => h) (Or.inl ⟨by kernel_rfl, ?h57⟩) (by assumption) ?r57
  case h57 => (intro w hSw; (try dsimp only at hSw); go_simp; try with_reducible rfl)
  try simp only [Act.put, List.setIfInBounds_toArray, List.set_cons_zero, List.set_cons_succ]
  refine wpAnyH_take (i := 7) (oi := { dst := some 53, op := Go.Op.binOp Go.BinOp.add 9 (Go.Operand.tmp 52) (Go.Operand.const (Go.Value.string { data := #[32, 60, 61, 32] })) 9, type := 9, pos := "ref.go:171", after := #[{ on := 6, ground := Go.Ground.data }], guard := none }) (v := ?v58) rfl (by kernel_rfl) (by kernel_rfl) (by kernel_rfl) (fun _ _ _ h => h) (Or.inl ⟨by kernel_rfl, ?h58⟩) (by assumption) ?r58
  case h58 => (intro w hSw; (try dsimp only at hSw); go_simp; try with_reducible rfl)
  try simp only [Act.put, List.setIfInBounds_toArray, List.set_cons_zero, List.set_cons_succ]
  refine wpAnyH_ready (rs := [10]) (by kernel_rfl) (by simp) ?_
  refine AllReadyH.cons (o := { dst := some 56, op := Go.Op.call { callee := Go.Callee.value (Go.Operand.func 51), args := #[Go.Operand.tmp 55], argTypes := #[3] }, type := 9, pos := "ref.go:171", after := #[{ on := 9, ground := Go.Ground.data }, { on := 5, ground := Go.Ground.chain }], guard := none }) rfl (fun K hK => ?_) AllReadyH.nil
  go_simp
  with_reducible refine (q2.out _).mono ?_
  rintro e t10 ⟨rfl, b10⟩
  go_simp
  refine hK.out _ _ (hHeld.trans (b10.mono hHeld.size)) (fun hHeld => ?_)
  clear hK K
  try simp only [Act.put, List.setIfInBounds_toArray, List.set_cons_zero, List.set_cons_succ]
  refine wpAnyH_take (i := 11) (oi := { dst := some 57, op := Go.Op.binOp Go.BinOp.add 9 (Go.Operand.tmp 53) (Go.Operand.tmp 56) 9, type := 9, pos := "ref.go:171", after := #[{ on := 7, ground := Go.Ground.data }, { on := 10, ground := Go.Ground.data }], guard := none }) (v := ?v59) rfl (by kernel_rfl) (by kernel_rfl) (by kernel_rfl) (fun _ _ _ h => h) (Or.inl ⟨by kernel_rfl, ?h59⟩) (by assumption) ?r59
  case h59 => (intro w hSw; (try dsimp only at hSw); go_simp; try with_reducible rfl)
  try simp only [Act.put, List.setIfInBounds_toArray, List.set_cons_zero, List.set_cons_succ]
  refine wpAnyH_take (i := 12) (oi := { dst := some 4, op := Go.Op.assign (Go.Operand.tmp 57), type := 9, pos := "ref.go:171", after := #[{ on := 11, ground := Go.Ground.data }, { on := 10, ground := Go.Ground.chain }, { on := 0, ground := Go.Ground.phase }, { on := 1, ground := Go.Ground.phase }, { on := 2, ground := Go.Ground.phase }, { on := 3, ground := Go.Ground.phase }, { on := 4, ground := Go.Ground.phase }, { on := 5, ground := Go.Ground.phase }, { on := 6, ground := Go.Ground.phase }, { on := 7, ground := Go.Ground.phase }, { on := 8, ground := Go.Ground.phase }, { on := 9, ground := Go.Ground.phase }, { on := 10, ground := Go.Ground.phase }, { on := 11, ground := Go.Ground.phase }], guard := none }) (v := ?v60) rfl (by kernel_rfl) (by kernel_rfl) (by kernel_rfl) (fun _ _ _ h => h) (Or.inl ⟨by kernel_rfl, ?h60⟩) (by assumption) ?r60
  case h60 => (intro w hSw; (try dsimp only at hSw); go_simp; try with_reducible rfl)
  try simp only [Act.put, List.setIfInBounds_toArray, List.set_cons_zero, List.set_cons_succ]
  refine wpAnyH_done (by kernel_rfl) ?_ _
  go_wp2
  go_ret
  rw [hR.out]
  exact ⟨rfl, BL.out.trans (hHeld.mono BL.out.size)⟩
set_option maxRecDepth 100000 in
set_option maxHeartbeats 4000000 in
theorem rshow_5 (a : Option Addr) (n cp : Nat) (l : List ByteArray) (hl : ∀ s ∈ l, s.size ≤ 32) (x y c d : Int) (hr : rightB 5 x y c d (n : Int) = true) (w : World) (h : TT w a n cp l) : Calls Tryz.prog 25 #[.slice a n cp, .agg #[.int .i64 5, .int .i64 x, .int .i64 y, .int .i64 c, .int .i64 d]] w (Gives (.string (stmtT l 5 x y c d)) w) := by
  obtain ⟨hx0, hx, hy0, hy, hxy, ⟨hc0, hc1⟩, rfl⟩ := right_diff (by omega) hr
  have hR : Hid (stmtT l 5 x y c 0 = (((⟨#[99, 104, 101, 99, 107, 32]⟩ : ByteArray) ++ diffT l x y) ++ (⟨#[32, 60, 61, 32]⟩ : ByteArray)) ++ vT c) := Lib.hid (by
    show limT ⟨#[99, 104, 101, 99, 107]⟩ l x y c = _
    unfold limT
    apply bytes_ext
    simp only [app_list, List.append_assoc]
    rfl)
  have q1 := Lib.hid (fun W hW => rdifference_any a n cp l hl x y hx0 hx hy0 hy hxy W hW)
  have q2 := Lib.hid (fun W => rvshow_any c hc0 hc1 W)
  have s1 := diff_sz hl x y
  have s2 := vT_size c
  obtain ⟨W1, hW1⟩ : ∃ W1, W1 = w.alloc (.cells #[.int .i64 5, .int .i64 x, .int .i64 y, .int .i64 c, .int .i64 0] 38) := ⟨_, rfl⟩
  have BL := Lib.hid (show Below w.heap.size w W1 by rw [hW1]; exact box_below _ _ _)
  have HZ : Hid (Holds W1 w.heap.size 38 #[.int .i64 5, .int .i64 x, .int .i64 y, .int .i64 c, .int .i64 0]) := Lib.hid (by rw [hW1]; exact Holds.new w _ _)
  have V := Lib.hid (h.below BL.out)
  have hW1' := Lib.hid hW1
  generalize diffT l x y = v at *
  generalize vT c = u at *
  generalize stmtT l 5 x y c 0 = R at *
  have zz1 : ¬ 9223372036854775807 < 6 + v.size := by omega
  have zz2 : ¬ 9223372036854775807 < 6 + v.size + 4 := by omega
  have zz3 : ¬ 9223372036854775807 < 6 + v.size + 4 + u.size := by omega
  clear h hl hW1 hx0 hx hr hxy hy0 hy
  go_enter Tryz.func25, Tryz.ntmps25
  have k0 := HZ.out.cell 0
  have k1 := HZ.out.cell 1
  have k2 := HZ.out.cell 2
  have k3 := HZ.out.cell 3
  rw [hW1'.out] at k0 k1 k2 k3
  go_wp2
  rw [← hW1'.out]
  clear hW1' k0 k1 k2 k3
  have g0 : ∀ W, Below W1.heap.size W1 W → W.cell? ⟨w.heap.size, 0, none⟩ = some (.int .i64 5) := fun W hW => (HZ.out.below hW HZ.out.lt).cell 0
  have g1 : ∀ W, Below W1.heap.size W1 W → W.cell? ⟨w.heap.size, 1, none⟩ = some (.int .i64 x) := fun W hW => (HZ.out.below hW HZ.out.lt).cell 1
  have g2 : ∀ W, Below W1.heap.size W1 W → W.cell? ⟨w.heap.size, 2, none⟩ = some (.int .i64 y) := fun W hW => (HZ.out.below hW HZ.out.lt).cell 2
  have g3 : ∀ W, Below W1.heap.size W1 W → W.cell? ⟨w.heap.size, 3, none⟩ = some (.int .i64 c) := fun W hW => (HZ.out.below hW HZ.out.lt).cell 3
  have g4 : ∀ W, Below W1.heap.size W1 W → W.cell? ⟨w.heap.size, 4, none⟩ = some (.int .i64 0) := fun W hW => (HZ.out.below hW HZ.out.lt).cell 4
  refine wp_drawn_on (fun W => Below W1.heap.size W1 W) (by kernel_rfl) ((Below.refl _ _).drew) (fun hHeld => ?_)
  refine wpAnyH_take (i := 0) (oi := { dst := some 58, op := Go.Op.move (Go.Operand.tmp 0), type := 22, pos := "ref.go:173", after := #[], guard := none }) (v := ?v61) rfl (by kernel_rfl) (by kernel_rfl) (by kernel_rfl) (fun _ _ _ h => h) (Or.inl ⟨by kernel_rfl, ?h61⟩) (by assumption) ?r61
  case h61 => (intro w hSw; (try dsimp only at hSw); go_simp; try with_reducible rfl)
  try simp only [Act.put, List.setIfInBounds_toArray, List.set_cons_zero, List.set_cons_succ]
  refine wpAnyH_take (i := 1) (oi := { dst := some 59, op := Go.Op.fieldAddr 38 (Go.Operand.tmp 3) 1, type := 0, pos := "ref.go:173", after := #[], guard := none }) (v := ?v62) rfl (by kernel_rfl) (by kernel_rfl) (by kernel_rfl) (fun _ _ _ h => h) (Or.inl ⟨by kernel_rfl, ?h62⟩) (by assumption) ?r62
  case h62 => (intro w hSw; (try dsimp only at hSw); go_simp; try with_reducible rfl)
  try simp only [Act.put, List.setIfInBounds_toArray, List.set_cons_zero, List.set_cons_succ]
  refine wpAnyH_take (i := 2) (oi := { dst := some 60, op := Go.Op.load 3 (Go.Operand.tmp 59), type := 3, pos := "ref.go:173", after := #[{ on := 1, ground := Go.Ground.data }], guard := none }) (v := ?v63) rfl (by kernel_rfl) (by kernel_rfl) (by kernel_rfl) (fun _ _ _ h => h) (Or.inl ⟨by kernel_rfl, ?h63⟩) (by assumption) ?r63
  case h63 => (intro w hSw; (try dsimp only at hSw); go_simp; try with_reducible rfl)
  try simp only [Act.put, List.setIfInBounds_toArray, List.set_cons_zero, List.set_cons_succ]
  refine wpAnyH_take (i := 3) (oi := { dst := some 61, op := Go.Op.fieldAddr 38 (Go.Operand.tmp 3) 2, type := 0, pos := "ref.go:173", after := #[], guard := none }) (v := ?v64) rfl (by kernel_rfl) (by kernel_rfl) (by kernel_rfl) (fun _ _ _ h => h) (Or.inl ⟨by kernel_rfl, ?h64⟩) (by assumption) ?r64
  case h64 => (intro w hSw; (try dsimp only at hSw); go_simp; try with_reducible rfl)
  try simp only [Act.put, List.setIfInBounds_toArray, List.set_cons_zero, List.set_cons_succ]
  refine wpAnyH_take (i := 4) (oi := { dst := some 62, op := Go.Op.load 3 (Go.Operand.tmp 61), type := 3, pos := "ref.go:173", after := #[{ on := 3, ground := Go.Ground.data }], guard := none }) (v := ?v65) rfl (by kernel_rfl) (by kernel_rfl) (by kernel_rfl) (fun _ _ _ h => h) (Or.inl ⟨by kernel_rfl, ?h65⟩) (by assumption) ?r65
  case h65 => (intro w hSw; (try dsimp only at hSw); go_simp; try with_reducible rfl)
  try simp only [Act.put, List.setIfInBounds_toArray, List.set_cons_zero, List.set_cons_succ]
  refine wpAnyH_take (i := 8) (oi := { dst := some 66, op := Go.Op.fieldAddr 38 (Go.Operand.tmp 3) 3, type := 0, pos := "ref.go:173", after := #[], guard := none }) (v := ?v66) rfl (by kernel_rfl) (by kernel_rfl) (by kernel_rfl) (fun _ _ _ h => h) (Or.inl ⟨by kernel_rfl, ?h66⟩) (by assumption) ?r66
  case h66 => (intro w hSw; (try dsimp only at hSw); go_simp; try with_reducible rfl)
  try simp only [Act.put, List.setIfInBounds_toArray, List.set_cons_zero, List.set_cons_succ]
  refine wpAnyH_take (i := 9) (oi := { dst := some 67, op := Go.Op.load 3 (Go.Operand.tmp 66), type := 3, pos := "ref.go:173", after := #[{ on := 8, ground := Go.Ground.data }], guard := none }) (v := ?v67) rfl (by kernel_rfl) (by kernel_rfl) (by kernel_rfl) (fun _ _ _ h => h) (Or.inl ⟨by kernel_rfl, ?h67⟩) (by assumption) ?r67
  case h67 => (intro w hSw; (try dsimp only at hSw); go_simp; try with_reducible rfl)
  try simp only [Act.put, List.setIfInBounds_toArray, List.set_cons_zero, List.set_cons_succ]
  refine wpAnyH_ready (rs := [5]) (by kernel_rfl) (by simp) ?_
  refine AllReadyH.cons (o := { dst := some 63, op := Go.Op.call { callee := Go.Callee.value (Go.Operand.func 52), args := #[Go.Operand.tmp 58, Go.Operand.tmp 60, Go.Operand.tmp 62], argTypes := #[22, 3, 3] }, type := 9, pos := "ref.go:173", after := #[{ on := 0, ground := Go.Ground.data }, { on := 2, ground := Go.Ground.data }, { on := 4, ground := Go.Ground.data }], guard := none }) rfl (fun K hK => ?_) AllReadyH.nil
  go_simp
  with_reducible refine (q1.out _ (V.out.below hHeld)).mono ?_
  rintro e t5 ⟨rfl, b5⟩
  go_simp
  refine hK.out _ _ (hHeld.trans (b5.mono hHeld.size)) (fun hHeld => ?_)
  clear hK K
  try simp only [Act.put, List.setIfInBounds_toArray, List.set_cons_zero, List.set_cons_succ]
  refine wpAnyH_take (i := 6) (oi := { dst := some 64, op := Go.Op.binOp Go.BinOp.add 9 (Go.Operand.const (Go.Value.string { data := #[99, 104, 101, 99, 107, 32] })) (Go.Operand.tmp 63) 9, type := 9, pos := "ref.go:173", after := #[{ on := 5, ground := Go.Ground.data }], guard := none }) (v := ?v68) rfl (by kernel_rfl) (by kernel_rfl) (by kernel_rfl) (fun _ _ _ h => h) (Or.inl ⟨by kernel_rfl, ?h68⟩) (by assumption) ?r68
  case h68 => (intro w hSw; (try dsimp only at hSw); go_simp; try with_reducible rfl)
  try simp only [Act.put, List.setIfInBounds_toArray, List.set_cons_zero, List.set_cons_succ]
  refine wpAnyH_take (i := 7) (oi := { dst := some 65, op := Go.Op.binOp Go.BinOp.add 9 (Go.Operand.tmp 64) (Go.Operand.const (Go.Value.string { data := #[32, 60, 61, 32] })) 9, type := 9, pos := "ref.go:173", after := #[{ on := 6, ground := Go.Ground.data }], guard := none }) (v := ?v69) rfl (by kernel_rfl) (by kernel_rfl) (by kernel_rfl) (fun _ _ _ h => h) (Or.inl ⟨by kernel_rfl, ?h69⟩) (by assumption) ?r69
  case h69 => (intro w hSw; (try dsimp only at hSw); go_simp; try with_reducible rfl)
  try simp only [Act.put, List.setIfInBounds_toArray, List.set_cons_zero, List.set_cons_succ]
  refine wpAnyH_ready (rs := [10]) (by kernel_rfl) (by simp) ?_
  refine AllReadyH.cons (o := { dst := some 68, op := Go.Op.call { callee := Go.Callee.value (Go.Operand.func 51), args := #[Go.Operand.tmp 67], argTypes := #[3] }, type := 9, pos := "ref.go:173", after := #[{ on := 9, ground := Go.Ground.data }, { on := 5, ground := Go.Ground.chain }], guard := none }) rfl (fun K hK => ?_) AllReadyH.nil
  go_simp
  with_reducible refine (q2.out _).mono ?_
  rintro e t10 ⟨rfl, b10⟩
  go_simp
  refine hK.out _ _ (hHeld.trans (b10.mono hHeld.size)) (fun hHeld => ?_)
  clear hK K
  try simp only [Act.put, List.setIfInBounds_toArray, List.set_cons_zero, List.set_cons_succ]
  refine wpAnyH_take (i := 11) (oi := { dst := some 69, op := Go.Op.binOp Go.BinOp.add 9 (Go.Operand.tmp 65) (Go.Operand.tmp 68) 9, type := 9, pos := "ref.go:173", after := #[{ on := 7, ground := Go.Ground.data }, { on := 10, ground := Go.Ground.data }], guard := none }) (v := ?v70) rfl (by kernel_rfl) (by kernel_rfl) (by kernel_rfl) (fun _ _ _ h => h) (Or.inl ⟨by kernel_rfl, ?h70⟩) (by assumption) ?r70
  case h70 => (intro w hSw; (try dsimp only at hSw); go_simp; try with_reducible rfl)
  try simp only [Act.put, List.setIfInBounds_toArray, List.set_cons_zero, List.set_cons_succ]
  refine wpAnyH_take (i := 12) (oi := { dst := some 4, op := Go.Op.assign (Go.Operand.tmp 69), type := 9, pos := "ref.go:173", after := #[{ on := 11, ground := Go.Ground.data }, { on := 10, ground := Go.Ground.chain }, { on := 0, ground := Go.Ground.phase }, { on := 1, ground := Go.Ground.phase }, { on := 2, ground := Go.Ground.phase }, { on := 3, ground := Go.Ground.phase }, { on := 4, ground := Go.Ground.phase }, { on := 5, ground := Go.Ground.phase }, { on := 6, ground := Go.Ground.phase }, { on := 7, ground := Go.Ground.phase }, { on := 8, ground := Go.Ground.phase }, { on := 9, ground := Go.Ground.phase }, { on := 10, ground := Go.Ground.phase }, { on := 11, ground := Go.Ground.phase }], guard := none }) (v := ?v71) rfl (by kernel_rfl) (by kernel_rfl) (by kernel_rfl) (fun _ _ _ h => h) (Or.inl ⟨by kernel_rfl, ?h71⟩) (by assumption) ?r71
  case h71 => (intro w hSw; (try dsimp only at hSw); go_simp; try with_reducible rfl)
  try simp only [Act.put, List.setIfInBounds_toArray, List.set_cons_zero, List.set_cons_succ]
  refine wpAnyH_done (by kernel_rfl) ?_ _
  go_wp2
  go_ret
  rw [hR.out]
  exact ⟨rfl, BL.out.trans (hHeld.mono BL.out.size)⟩
theorem rshow_any (a : Option Addr) (n cp : Nat) (l : List ByteArray) (hl : ∀ s ∈ l, s.size ≤ 32) (k x y c d : Int) (hr : rightB k x y c d (n : Int) = true) (w : World) (h : TT w a n cp l) : Calls Tryz.prog 25 #[.slice a n cp, .agg #[.int .i64 k, .int .i64 x, .int .i64 y, .int .i64 c, .int .i64 d]] w (Gives (.string (stmtT l k x y c d)) w) := by
  obtain ⟨k0, k5⟩ := right_kind hr
  rcases (show k = 1 ∨ k = 2 ∨ k = 3 ∨ k = 4 ∨ k = 5 by omega) with rfl | rfl | rfl | rfl | rfl
  · exact rshow_1 a n cp l hl x y c d hr w h
  · exact rshow_2 a n cp l hl x y c d hr w h
  · exact rshow_3 a n cp l hl x y c d hr w h
  · exact rshow_4 a n cp l hl x y c d hr w h
  · exact rshow_5 a n cp l hl x y c d hr w h
end Go.Proofs.YtgeliikfgnkppaaGreatDoor
namespace Go.Proofs.YtgeliikfgnkppaaGreatDoor
open Go.RowKit
set_option linter.unusedVariables false
def SeesC (B : Nat) (w : World) (a : Option Addr) (cs : List Value) : Prop :=
  cs = [] ∨ ∃ b off, a = some ⟨b, off, none⟩ ∧ b < B ∧ ∀ i u, cs[i]? = some u → w.cell? ⟨b, off + i, none⟩ = some u
theorem SeesC.below {B : Nat} {w w' : World} {a : Option Addr} {cs : List Value} (h : SeesC B w a cs) (hb : Below B w w') : SeesC B w' a cs := by
  rcases h with h | ⟨b, off, rfl, hB, hc⟩
  · exact .inl h
  · exact .inr ⟨b, off, rfl, hB, fun i u hu => (hb.cell (p := ⟨b, off + i, none⟩) hB).trans (hc i u hu)⟩
theorem SeesC.mono {B B' : Nat} {w : World} {a : Option Addr} {cs : List Value} (h : SeesC B w a cs) (hb : B ≤ B') : SeesC B' w a cs := by
  rcases h with h | ⟨b, off, rfl, hB, hc⟩
  · exact .inl h
  · exact .inr ⟨b, off, rfl, by omega, hc⟩
theorem add_at (b off i : Nat) : (⟨b, off, none⟩ : Addr).add i = ⟨b, off + i, none⟩ := by unfold Addr.add; split <;> simp_all
theorem seesC_own {w : World} {base : Nat} {e : TypeId} {size : Nat} {v : Value} {n : Nat} {cs : List Value} (h : w.ownsRow base e size v n cs) :
    ∃ a cap, v = .slice a n cap ∧ n ≤ cap ∧ cap ≤ maxLen ∧ SeesC w.heap.size w a cs := by
  rcases h.2 with ⟨rfl, h0⟩ | ⟨g, cap, cur, rfl, _, hg, hc1, hc2, _⟩
  · subst h0
    have : cs = [] := List.eq_nil_of_length_eq_zero (by have := h.1; omega)
    exact ⟨none, 0, rfl, Nat.le_refl _, by simp, .inl this⟩
  · refine ⟨_, cap, rfl, hc1, hc2, .inr ⟨g, 0, rfl, (Array.getElem?_eq_some_iff.1 hg).1, fun i u hu => ?_⟩⟩
    have := h.cells (g := g) rfl i u hu
    rw [add_at] at this
    exact this
theorem seesC_lit (w : World) (e : TypeId) (cs : Array Value) (fr : Nat × Nat := (0, 0)) : SeesC (w.alloc (.cells cs e fr)).heap.size (w.alloc (.cells cs e fr)) (some ⟨w.heap.size, 0, none⟩) cs.toList := by
  refine .inr ⟨w.heap.size, 0, rfl, by simp, fun i u hu => ?_⟩
  rw [cell_of_row _ _ _ _ _ _ (heap_alloc_new w _)]
  simpa using hu
theorem flat_at {α : Type} {f : α → List Value} {k : Nat} (hk : ∀ x, (f x).length = k) : ∀ (l : List α) (i j : Nat), j < k → (l.flatMap f)[i * k + j]? = (l[i]?).bind fun x => (f x)[j]?
  | [], i, j, _ => by simp
  | x :: l, 0, j, hj => by simp [List.getElem?_append, hk, hj]
  | x :: l, i + 1, j, hj => by
    have ih := flat_at hk l i j hj
    rw [List.flatMap_cons, List.getElem?_append_right (by rw [hk, Nat.succ_mul]; omega), hk, show (i + 1) * k + j - k = i * k + j by rw [Nat.succ_mul]; omega, ih]
    simp
theorem flat_len {α : Type} {f : α → List Value} {k : Nat} (hk : ∀ x, (f x).length = k) : ∀ (l : List α), (l.flatMap f).length = l.length * k
  | [] => by simp
  | x :: l => by rw [List.flatMap_cons, List.length_append, flat_len hk l, hk, List.length_cons, Nat.succ_mul]; omega
theorem run_append_cellsB {P : Program} (w : World) (base : Nat) (t ty e : TypeId) (i : TypeInfo) (z : Value) (size bytes : Nat) (ht : P.underlying t = some (.slice e)) (hi : P.info? e = some i) (hz : i.zero = some z)
    (hsize : i.size = size) (hby : i.bytes = bytes) (hzs : z.cells.size = size) (hsz : 0 < size)
    (v : Value) (n : Nat) (xs : List Value) (hown : w.ownsRow base e size v n xs) (B : Nat) (A : Option Addr) (m c : Nat) (news : List Value) (hl : news.length = m * size) (hs : SeesC B w A news) (h1 : ∀ u ∈ news, u.oneCell' = true)
    (hn : n + m ≤ maxLen) (hby2 : (n + m) * bytes ≤ 140737488355328) (hbase : base ≤ w.heap.size) :
    ∃ v' w', (Builtin.append_ #[t, t] ty #[v, .slice A m c]).run P w = .ok v' w' ∧ w'.ownsRow base e size v' (n + m) (xs ++ news) ∧ w.grownBy w' v.ownBlock ∧ (v'.ownBlock = v.ownBlock ∨ v'.ownBlock = some w.heap.size) := by
  cases A with
  | none =>
    have hnews : news = [] := by
      rcases hs with h | ⟨b, off, h, _⟩
      · exact h
      · cases h
    subst hnews
    have hm : m = 0 := by
      cases m with
      | zero => rfl
      | succ m => rw [Nat.succ_mul] at hl; simp at hl; omega
    subst hm
    exact ⟨v, w, run_append_none w base t ty e i size ht hi v n xs hown c, by simpa using hown, World.grownBy.refl w _, .inl rfl⟩
  | some ad =>
    have hc : ∀ j u, news[j]? = some u → w.cell? (ad.add j) = some u := by
      rcases hs with rfl | ⟨b, off, h, _, hc⟩
      · intro j u hj; simp at hj
      · injection h with h; subst h; intro j u hj; rw [add_at]; exact hc j u hj
    obtain ⟨v', w', hrun, h2, h3, _, h5⟩ := run_append_own_at (P := P) w base t ty e i z size bytes ht hi hz hsize hby hzs hsz v n xs hown ad m c news hl hc h1 hn hby2 hbase
    exact ⟨v', w', hrun, h2, h3, h5⟩
theorem wpList_append_cellsB {P : Program} (w : World) {ops : Array Oper} {rest : List Oper} {o : Oper} {a : Act} {Q : Exit → Act → World → Prop}
    (hg : o.guard = none) (s x : Operand) (t : TypeId) (hop : o.op = Op.call { callee := Callee.builtin Builtin.append, args := #[s, x], argTypes := #[t, t] })
    (w0 : World) (e : TypeId) (i : TypeInfo) (z : Value) (size bytes : Nat) (ht : P.underlying t = some (.slice e)) (hi : P.info? e = some i) (hz : i.zero = some z)
    (hsize : i.size = size) (hby : i.bytes = bytes) (hzs : z.cells.size = size) (hsz : 0 < size)
    (v : Value) (n : Nat) (xs : List Value) (hown : w.ownsRow w0.heap.size e size v n xs) (hb : Below w0.heap.size w0 w) (B : Nat) (A : Option Addr) (m c : Nat) (news : List Value) (hl : news.length = m * size) (hs : SeesC B w A news) (h1 : ∀ u ∈ news, u.oneCell' = true)
    (hsv : a.eval s = v) (hx : a.eval x = .slice A m c) (hn : n + m ≤ maxLen) (hby2 : (n + m) * bytes ≤ 140737488355328)
    (hK : ∀ v' w', w'.ownsRow w0.heap.size e size v' (n + m) (xs ++ news) → Below w0.heap.size w0 w' → wpList P ops Q rest (a.put o.dst v') w') :
    wpList P ops Q (o :: rest) a w := by
  obtain ⟨v', w', hrun, g1, g2, g3⟩ := run_append_cellsB (P := P) w w0.heap.size t o.type e i z size bytes ht hi hz hsize hby hzs hsz v n xs hown B A m c news hl hs h1 hn hby2 hb.size
  refine wpList_plain hg fun K hK' => ?_
  unfold Oper.wp
  simp [execOp, hop, resolve, invoke, builtin, hsv, hx, hrun, Result.andThen]
  exact hK' _ _ (hK v' w' g1 (hb.grown g2 hb.size fun k hk => (hown.lt k hk).1))
theorem own_cells (w : World) (e : TypeId) (size n : Nat) (cs : Array Value) (hn : cs.size = n * size) (hm : n ≤ maxLen) : (w.alloc (.cells cs e)).ownsRow w.heap.size e size (.slice (some ⟨w.heap.size, 0, none⟩) n n) n cs.toList :=
  ⟨by simpa using hn, .inr ⟨w.heap.size, n, cs, rfl, Nat.le_refl _, heap_alloc_new w _, Nat.le_refl _, hm, hn, by rw [List.take_of_length_le (by simp; omega)]⟩⟩
end Go.Proofs.YtgeliikfgnkppaaGreatDoor
namespace Go.Proofs.YtgeliikfgnkppaaGreatDoor
open Go.RowKit
set_option linter.unusedVariables false
theorem wp_append_cellsB {P : Program} (w : World) {o : Oper} {a : Act} {K : Act → World → Prop} {Q : Exit → Act → World → Prop}
    (s x : Operand) (t : TypeId) (hop : o.op = Op.call { callee := Callee.builtin Builtin.append, args := #[s, x], argTypes := #[t, t] })
    (base : Nat) (e : TypeId) (i : TypeInfo) (z : Value) (size bytes : Nat) (ht : P.underlying t = some (.slice e)) (hi : P.info? e = some i) (hz : i.zero = some z)
    (hsize : i.size = size) (hby : i.bytes = bytes) (hzs : z.cells.size = size) (hsz : 0 < size)
    (v : Value) (n : Nat) (xs : List Value) (hown : w.ownsRow base e size v n xs) (hb : base ≤ w.heap.size) (B : Nat) (A : Option Addr) (m c : Nat) (news : List Value) (hl : news.length = m * size) (hs : SeesC B w A news) (h1 : ∀ u ∈ news, u.oneCell' = true)
    (hsv : a.eval s = v) (hx : a.eval x = .slice A m c) (hn : n + m ≤ maxLen) (hby2 : (n + m) * bytes ≤ 140737488355328)
    (hK : ∀ v' w', w'.ownsRow base e size v' (n + m) (xs ++ news) → w.grownBy w' v.ownBlock → K (a.put o.dst v') w') : o.wp P a w K Q := by
  obtain ⟨v', w', hrun, g1, g2, g3⟩ := run_append_cellsB (P := P) w base t o.type e i z size bytes ht hi hz hsize hby hzs hsz v n xs hown B A m c news hl hs h1 hn hby2 hb
  unfold Oper.wp
  simp [execOp, hop, resolve, invoke, builtin, hsv, hx, hrun, Result.andThen]
  exact hK v' w' g1 g2
end Go.Proofs.YtgeliikfgnkppaaGreatDoor
namespace Go.Proofs.YtgeliikfgnkppaaGreatDoor
open Go.RowKit
set_option linter.unusedVariables false
set_option linter.unusedSimpArgs false
theorem numQ_yes {l : List ByteArray} {s : ByteArray} {k : Nat} (hk : k < l.length) (h : ∀ j, j < k → l.getD j e0 ≠ s) (e : l.getD k e0 = s) : numQ l s = (k : Int) + 1 := by
  have h8 : Lib.idxOfS l s = ((k : Nat) : Int) := by
    have := Lib.idxFromS_hit s l k 0 hk e h
    simpa [Lib.idxOfS] using this
  unfold numQ
  rw [h8, if_neg (by omega)]
theorem numQ_no {l : List ByteArray} {s : ByteArray} (h : ∀ j, j < l.length → l.getD j e0 ≠ s) : numQ l s = -1 := by
  have hm : s ∉ l := by
    intro hm
    obtain ⟨j, hj, e⟩ := List.getElem_of_mem hm
    exact h j hj (by simp [List.getD, hj, e])
  unfold numQ
  rw [if_pos]
  have : Lib.containsS l s = false := by
    cases hc : Lib.containsS l s
    · rfl
    · exact absurd ((Lib.containsS_iff l s).1 hc) hm
  unfold Lib.containsS at this
  simpa using this
set_option maxRecDepth 100000 in
set_option maxHeartbeats 2000000 in
theorem rnumber_any (a : Option Addr) (n cp : Nat) (l : List ByteArray) (s : ByteArray) (w : World) (h : TT w a n cp l) : Calls Tryz.prog 55 #[.slice a n cp, .string s] w (Gives (.int .i64 (numQ l s)) w) := by
  have hl := Lib.hid h.len
  have hT := Lib.hid h
  have hm : n ≤ 9223372036854775806 ∨ n = 9223372036854775807 := by have := h.cap; have := h.max; unfold maxLen at this; omega
  have hy := Lib.hid (fun (k : Nat) h1 h2 h3 => numQ_yes (l := l) (s := s) (k := k) h1 h2 h3)
  have hn := Lib.hid (fun h1 => numQ_no (l := l) (s := s) h1)
  have hn9 : n ≤ 9223372036854775807 := by omega
  clear h hm
  generalize numQ l s = R at *
  go_enter Tryz.func55, Tryz.ntmps55
  go_wp2
  go_loop [5] (fun y => ∃ k : Nat, k ≤ n ∧ y = .int .i64 k ∧ Hid (∀ j, j < k → l.getD j e0 ≠ s)) (fun y => n - (intOf y).toNat)
  case atStart => exact ⟨0, Nat.zero_le _, rfl, Lib.hid (fun t ht => by omega)⟩
  case round =>
    obtain ⟨k, hk, rfl, hal⟩ := hrel
    by_cases hlt : k < n
    · have hki : (k : Int) < (n : Int) := by omega
      have hkl : k < l.length := by rw [← hl.out]; exact hlt
      obtain ⟨b, off, rfl, -, hc⟩ := hT.out.at_ hkl
      have x0 := hc k hkl
      have hy2 := Lib.hid (fun h3 => hy.out k hkl hal.out h3)
      have hn2 : Hid (l.getD k e0 ≠ s → ∀ t, t < k + 1 → l.getD t e0 ≠ s) := Lib.hid (fun h t ht => by
        by_cases e : t = k
        · rw [e]; exact h
        · exact hal.out t (by omega))
      clear hc hal hy hn
      generalize l.getD k e0 = u at *
      by_cases hs : u = s
      · have d : (u.toList == s.toList) = true := by rw [ptxt_eq]; exact decide_eq_true hs
        have hR := Lib.hid (hy2.out hs)
        clear hs hy2 hn2
        go_wp2
        go_ret
        exact ⟨by rw [hR.out]; rfl, Below.refl _ _⟩
      · have d : (u.toList == s.toList) = false := by rw [ptxt_eq]; exact decide_eq_false hs
        have hR := Lib.hid (hn2.out hs)
        clear hs hy2 hn2
        go_wp2
        go_round
        case rel => exact ⟨k + 1, by omega, by go_num, hR⟩
        case measure => simp [intOf]; omega
    · have hki : ¬ (k : Int) < (n : Int) := by omega
      have hR := Lib.hid (hn.out (fun j hj => hal.out j (by have := hl.out; omega)))
      go_wp2
      go_ret
      exact ⟨by rw [hR.out]; rfl, Below.refl _ _⟩
set_option maxRecDepth 100000 in
theorem rtrim_any (s : ByteArray) (hs : s.size ≤ 4611686018427387904) (w : World) : Calls Tryz.prog 56 #[.string s] w (Gives (.string (trimB s)) w) := by
  by_cases h : s.size < 2
  · have hR : Hid (trimB s = ⟨#[]⟩) := Lib.hid (by unfold trimB; rw [if_pos h])
    have d : (s.size : Int) < 2 := by omega
    generalize trimB s = R at *
    go_enter Tryz.func56, Tryz.ntmps56
    go_wp2
    go_ret
    exact ⟨by rw [hR.out]; rfl, Below.refl _ _⟩
  · obtain ⟨m, hm⟩ : ∃ m, s.size = m + 1 := ⟨s.size - 1, by omega⟩
    have hR : Hid (trimB s = s.extract 1 m) := Lib.hid (by unfold trimB; rw [if_neg h, hm]; rfl)
    have d : ¬ (s.size : Int) < 2 := by omega
    have e1 : (s.size : Int) - 1 = (m : Int) := by omega
    have hmi : (1 : Int) ≤ (m : Int) := by omega
    have hms : (m : Int) ≤ (s.size : Int) := by omega
    have w1 : IntKind.i64.wrap (m : Int) = (m : Int) := by rw [IntKind.wrap_i64]; omega
    have s1 : ∀ W, (Instr.slice 9 (.string s) (some (.int .i64 1)) (some (.int .i64 (m : Int))) none).run Tryz.prog W = .ok (.string (s.extract 1 m)) W := fun W => by
      have := run_slice_string (P := Tryz.prog) W 9 s .i64 .i64 1 (m : Int) Tryz.underlying9 (by omega) (by omega) (by omega)
      simpa using this
    clear hm
    generalize trimB s = R at *
    go_enter Tryz.func56, Tryz.ntmps56
    go_wp2
    go_ret
    exact ⟨by rw [hR.out]; rfl, Below.refl _ _⟩
def SpI (s : ByteArray) (acc : List ByteArray) (p k : Nat) : Prop := splitB s = acc ++ (splitL (s.data.toList.drop p)).map strB ∧ ∀ c ∈ (s.data.toList.drop p).take (k - p), c ≠ 32
theorem spi_start (s : ByteArray) : SpI s [] 0 0 := ⟨rfl, by simp⟩
theorem spi_go {s : ByteArray} {acc : List ByteArray} {p k : Nat} (h : SpI s acc p k) (hp : p ≤ k) (hk : k < s.size) (hc : ¬ (s[k]'hk).toNat = 32) : SpI s acc p (k + 1) := by
  refine ⟨h.1, fun c hcm => ?_⟩
  have hb := byte_at s k hk
  rw [show k + 1 - p = (k - p) + 1 by omega, List.take_add_one] at hcm
  rcases List.mem_append.1 hcm with hcm | hcm
  · exact h.2 c hcm
  · rw [List.getElem?_drop, show p + (k - p) = k by omega, hb] at hcm
    simp at hcm
    subst hcm
    intro e
    exact hc (by rw [e]; rfl)
theorem piece_list (s : ByteArray) (p k : Nat) : s.extract p k = strB ((s.data.toList.drop p).take (k - p)) := by
  apply bytes_ext
  rw [strB_list, ByteArray.data_extract, Array.toList_extract]
theorem spi_cut {s : ByteArray} {acc : List ByteArray} {p k : Nat} (h : SpI s acc p k) (hp : p ≤ k) (hk : k < s.size) (hc : (s[k]'hk).toNat = 32) : SpI s (acc ++ [s.extract p k]) (k + 1) (k + 1) := by
  have hb := byte_at s k hk
  have hlen : s.data.toList.length = s.size := Array.length_toList
  have e : s.data.toList.drop p = (s.data.toList.drop p).take (k - p) ++ 32 :: s.data.toList.drop (k + 1) := by
    have h1 : (s.data.toList.drop p).drop (k - p) = 32 :: s.data.toList.drop (k + 1) := by
      rw [List.drop_drop, show p + (k - p) = k by omega, List.drop_eq_getElem_cons (by omega)]
      congr 1
      have h2 : s.data.toList[k]'(by omega) = s[k]'hk := by
        rw [List.getElem?_eq_getElem (by omega)] at hb
        exact Option.some.inj hb
      rw [h2]
      apply UInt8.toNat_inj.1
      exact hc
    conv => lhs; rw [← List.take_append_drop (k - p) (s.data.toList.drop p), h1]
  refine ⟨?_, by simp⟩
  have h1 := h.1
  rw [e, split_at _ h.2] at h1
  rw [h1, piece_list]
  simp
theorem spi_end {s : ByteArray} {acc : List ByteArray} {p : Nat} (h : SpI s acc p s.size) (hp : p ≤ s.size) : splitB s = acc ++ [s.extract p s.size] := by
  have hlen : s.data.toList.length = s.size := Array.length_toList
  have e : (s.data.toList.drop p).take (s.size - p) = s.data.toList.drop p := List.take_of_length_le (by rw [List.length_drop]; omega)
  have h1 := h.1
  have h2 := h.2
  rw [e] at h2
  rw [split_plain h2] at h1
  rw [h1, piece_list, e]
  rfl
theorem ptt_own {w : World} {base n : Nat} {v : Value} {l : List ByteArray} (h : w.ownsRow base 9 1 v n (txts l)) : ∃ a c, v = .slice a n c ∧ TT w a n c l := by
  obtain ⟨a, c, e, h1, h2, _⟩ := seesC_own h
  obtain ⟨a2, c2, e2, h3, h4⟩ := sees_ownT h
  rw [e] at e2
  injection e2 with e3 e4 e5
  subst e3 e5
  exact ⟨a, c, e, h3, h1, h2, h4⟩
def SpS (l : List ByteArray) (w : World) (e : Ending) (w' : World) : Prop := ∃ a n c, e = .returned (.slice a n c) ∧ TT w' a n c l ∧ Below w.heap.size w w'
theorem one_txt (s : ByteArray) : ∀ u ∈ [Value.string s], u.oneCell' = true := by intro u hu; simp at hu; subst hu; rfl
theorem infoStrP : ∃ i, Tryz.prog.info? 9 = some i ∧ i.zero = some (.string ⟨#[]⟩) ∧ i.size = 1 ∧ i.bytes = 16 := by
  have h := infoStr
  cases hi : Tryz.prog.info? 9 with
  | none => rw [hi] at h; simp at h
  | some i => rw [hi] at h; simp at h; exact ⟨i, rfl, h.1, h.2.1, h.2.2⟩
set_option maxRecDepth 100000 in
set_option maxHeartbeats 4000000 in
theorem rsplit_any (s : ByteArray) (hs : s.size ≤ 1000) (w : World) : Calls Tryz.prog 53 #[.string s] w (SpS (splitB s) w) := by
  obtain ⟨i0, hi, hz0, hz1, hz2⟩ := infoStrP
  have hgo := Lib.hid (fun acc p k h hp hk hc => spi_go (s := s) (acc := acc) (p := p) (k := k) h hp hk hc)
  have hcut := Lib.hid (fun acc p k h hp hk hc => spi_cut (s := s) (acc := acc) (p := p) (k := k) h hp hk hc)
  have hend := Lib.hid (fun acc p h hp => spi_end (s := s) (acc := acc) (p := p) h hp)
  have hst := Lib.hid (spi_start s)
  have hap : Hid (∀ (x : List ByteArray) (y : ByteArray), txts x ++ [Value.string y] = txts (x ++ [y])) := Lib.hid (fun x y => by rw [txts_add]; rfl)
  have hsl : ∀ (p k : Nat), p ≤ k → k ≤ s.size → ∀ W, (Instr.slice 9 (.string s) (some (.int .i64 (p : Int))) (some (.int .i64 (k : Int))) none).run Tryz.prog W = .ok (.string (s.extract p k)) W := fun p k h1 h2 W => by
    have := run_slice_string (P := Tryz.prog) W 9 s .i64 .i64 (p : Int) (k : Int) Tryz.underlying9 (by omega) (by omega) (by omega)
    simpa using this
  have hsl' := Lib.hid hsl
  clear hsl
  go_enter Tryz.func53, Tryz.ntmps53
  go_wp2
  go_loopw [3, 4, 5] (fun v f i wr => ∃ (acc : List ByteArray) (p k : Nat), k ≤ s.size + 1 ∧ f = .int .i64 p ∧ i = .int .i64 k ∧ acc.length ≤ k ∧ Hid (wr.ownsRow w.heap.size 9 1 v acc.length (txts acc)) ∧ Hid (Below w.heap.size w wr) ∧ Hid (k ≤ s.size → p ≤ k ∧ SpI s acc p k) ∧ Hid (k = s.size + 1 → splitB s = acc)) (fun _ _ i _ => s.size + 1 - (intOf i).toNat)
  case atStart => exact ⟨[], 0, 0, by omega, rfl, rfl, Nat.le_refl _, Lib.hid (World.ownsRow_nil _ _ _ _), Lib.hid (Below.refl _ _), Lib.hid (fun _ => ⟨Nat.le_refl _, hst.out⟩), Lib.hid (fun h => by omega)⟩
  case round =>
    obtain ⟨acc, p, k, hk, rfl, rfl, hal, hown, hB, hI, hF⟩ := hrel
    by_cases hlt : k < s.size
    · have hki : (k : Int) < (s.size : Int) := by omega
      have hkl : (k : Int) ≤ (s.size : Int) := by omega
      have hke : ((k : Int) == (s.size : Int)) = false := by simp; omega
      obtain ⟨hpk, hS⟩ := hI.out (by omega)
      have hS' := Lib.hid hS
      clear hI hF hS
      by_cases hc : (s[k]'hlt).toNat = 32
      · have d : (((s[k]'hlt).toNat : Int) == 32) = true := by simp [hc]
        have hS2 := Lib.hid (hcut.out acc p k hS'.out hpk hlt hc)
        have s1 := hsl'.out p k hpk (by omega)
        have hlen : (acc ++ [s.extract p k]).length = acc.length + 1 := by simp
        have hown1 := Lib.hid (own_below hown.out (box_below wr #[.string (s.extract p k)] 9))
        have hB1 := Lib.hid (hB.out.trans ((box_below wr #[.string (s.extract p k)] 9).mono hB.out.size))
        have hse := Lib.hid (seesC_lit wr 9 #[.string (s.extract p k)])
        have hone := one_txt (s.extract p k)
        have hap2 := Lib.hid (hap.out acc (s.extract p k))
        clear hc hS' hown hB
        generalize s.extract p k = y at *
        go_wp2_with (at_builtin; refine wpList_append_cellsB _ rfl _ _ 22 rfl w 9 i0 (.string ⟨#[]⟩) 1 16 Tryz.underlying22 hi hz0 hz1 hz2 rfl (by omega) _ _ _ hown1.out hB1.out _ _ 1 1 [.string y] (by simp) hse.out hone rfl rfl (by simp [maxLen]; omega) (by omega) ?_; intro v' w' o2 b2; rw [hap2.out, ← hlen] at o2; have o2' := Lib.hid o2; have b2' := Lib.hid b2; clear o2 b2)
        go_roundw
        case rel => exact ⟨acc ++ [y], k + 1, k + 1, by omega, by go_num, by go_num, by omega, o2', b2', Lib.hid (fun _ => ⟨Nat.le_refl _, hS2.out⟩), Lib.hid (fun h => by omega)⟩
        case measure => simp [intOf]; omega
      · have d : (((s[k]'hlt).toNat : Int) == 32) = false := by simp; omega
        have hS2 := Lib.hid (hgo.out acc p k hS'.out hpk hlt hc)
        clear hc hS'
        go_wp2
        go_roundw
        case rel => exact ⟨acc, p, k + 1, by omega, rfl, by go_num, by omega, hown, hB, Lib.hid (fun _ => ⟨by omega, hS2.out⟩), Lib.hid (fun h => by omega)⟩
        case measure => simp [intOf]; omega
    · by_cases heq : k = s.size
      · have hkl : (k : Int) ≤ (s.size : Int) := by omega
        have hke : ((k : Int) == (s.size : Int)) = true := by simp; omega
        obtain ⟨hpk, hS⟩ := hI.out (by omega)
        rw [heq] at hS
        have hS2 := Lib.hid (hend.out acc p hS (by omega))
        have s1 := hsl'.out p k hpk (by omega)
        rw [← heq] at hS2
        have hlen : (acc ++ [s.extract p k]).length = acc.length + 1 := by simp
        have hown1 := Lib.hid (own_below hown.out (box_below wr #[.string (s.extract p k)] 9))
        have hB1 := Lib.hid (hB.out.trans ((box_below wr #[.string (s.extract p k)] 9).mono hB.out.size))
        have hse := Lib.hid (seesC_lit wr 9 #[.string (s.extract p k)])
        have hone := one_txt (s.extract p k)
        have hap2 := Lib.hid (hap.out acc (s.extract p k))
        have hks : k + 1 ≤ s.size + 1 ∧ ¬ k + 1 ≤ s.size := by omega
        clear hS hown hB hI hF heq
        generalize s.extract p k = y at *
        go_wp2_with (at_builtin; refine wpList_append_cellsB _ rfl _ _ 22 rfl w 9 i0 (.string ⟨#[]⟩) 1 16 Tryz.underlying22 hi hz0 hz1 hz2 rfl (by omega) _ _ _ hown1.out hB1.out _ _ 1 1 [.string y] (by simp) hse.out hone rfl rfl (by simp [maxLen]; omega) (by omega) ?_; intro v' w' o2 b2; rw [hap2.out, ← hlen] at o2; have o2' := Lib.hid o2; have b2' := Lib.hid b2; clear o2 b2)
        go_roundw
        case rel => exact ⟨acc ++ [y], k + 1, k + 1, hks.1, by go_num, by go_num, by omega, o2', b2', Lib.hid (fun h => absurd h hks.2), Lib.hid (fun h => hS2.out)⟩
        case measure => simp [intOf]; omega
      · have hkl : ¬ (k : Int) ≤ (s.size : Int) := by omega
        have hR := Lib.hid (hF.out (by omega))
        obtain ⟨a, c, rfl, hT⟩ := ptt_own hown.out
        have hT' := Lib.hid hT
        clear hT heq hI hF hlt
        go_wp2
        go_ret
        exact ⟨a, _, c, rfl, by rw [hR.out]; exact hT'.out, hB.out⟩
theorem split_sz : ∀ (s : List UInt8) (w : List UInt8), w ∈ splitL s → w.length ≤ s.length
  | [], w, h => by simp [splitL] at h; subst h; simp
  | c :: s, w, h => by
    have ih := split_sz s
    unfold splitL at h
    split at h
    · rcases List.mem_cons.1 h with rfl | h
      · simp
      · have := ih w h; simp; omega
    · split at h
      · simp at h; subst h; simp
      · next v vs e =>
        rw [e] at ih
        rcases List.mem_cons.1 h with rfl | h
        · have := ih v (by simp); simp; omega
        · have := ih w (by simp [h]); simp; omega
theorem word_sz (s : ByteArray) (i : Nat) : (wd (splitB s) i).size ≤ s.size := by
  unfold wd
  by_cases hi : i < (splitB s).length
  · have h1 : (splitB s).getD i e0 ∈ splitB s := by simp only [List.getD, List.getElem?_eq_getElem hi, Option.getD_some]; exact List.getElem_mem _
    generalize (splitB s).getD i e0 = x at h1
    unfold splitB at h1
    obtain ⟨l, hl, rfl⟩ := List.mem_map.1 h1
    have := split_sz _ _ hl
    rw [strB_size]
    rw [Array.length_toList] at this
    exact this
  · rw [show (splitB s).getD i e0 = e0 by simp [List.getD, hi]]
    exact Nat.zero_le _
theorem splitB_len (s : ByteArray) : 1 ≤ (splitB s).length ∧ (splitB s).length ≤ s.size + 1 := by
  unfold splitB
  rw [List.length_map]
  have h1 := split_le s.data.toList
  have h2 : s.data.toList.length = s.size := Array.length_toList
  have h3 := split_ne s.data.toList
  cases hl : splitL s.data.toList with
  | nil => exact absurd hl h3
  | cons x l => rw [hl] at h1; simp at h1 ⊢; omega
theorem trimB_sz (s : ByteArray) : (trimB s).size ≤ s.size - 2 := by
  unfold trimB
  split
  · exact Nat.zero_le _
  · simp; omega
end Go.Proofs.YtgeliikfgnkppaaGreatDoor
namespace Go.Proofs.YtgeliikfgnkppaaGreatDoor
open Go.RowKit
set_option linter.unusedVariables false
def negS (s : List UInt8) : Bool := s.head? == some 45
def numS (s : List UInt8) : Option Int :=
  if s.length = 0 ∨ 17 < s.length then none
  else if negS s then (if ∀ c ∈ s.drop 1, isDig c then some (-(val10 (s.drop 1) : Int)) else none)
  else (if ∀ c ∈ s.drop 0, isDig c then some (val10 (s.drop 0) : Int) else none)
def numN (s : List UInt8) : Int := (numS s).getD 0
def numOK (s : List UInt8) : Bool := match numS s with | some n => decide (Lib.itoa n = s) | none => false
theorem num_none {s : List UInt8} (h : numS s = none) : numN s = 0 ∧ numOK s = false := by unfold numN numOK; rw [h]; exact ⟨rfl, rfl⟩
theorem num_some {s : List UInt8} {n : Int} (h : numS s = some n) : numN s = n ∧ numOK s = decide (Lib.itoa n = s) := by unfold numN numOK; rw [h]; exact ⟨rfl, rfl⟩
theorem numS_long {s : List UInt8} (h : s.length = 0 ∨ 17 < s.length) : numS s = none := by unfold numS; rw [if_pos h]
theorem numS_neg {s : List UInt8} (h : ¬ (s.length = 0 ∨ 17 < s.length)) (h2 : negS s = true) : numS s = if ∀ c ∈ s.drop 1, isDig c then some (-(val10 (s.drop 1) : Int)) else none := by unfold numS; rw [if_neg h, if_pos h2]
theorem numS_pos {s : List UInt8} (h : ¬ (s.length = 0 ∨ 17 < s.length)) (h2 : negS s = false) : numS s = if ∀ c ∈ s.drop 0, isDig c then some (val10 (s.drop 0) : Int) else none := by unfold numS; rw [if_neg h, if_neg (by rw [h2]; decide)]
theorem str_beq (a b : ByteArray) : (a.toList == b.toList) = decide (a.data.toList = b.data.toList) := by
  rw [ByteArray.toList_eq, ByteArray.toList_eq, Bool.eq_iff_iff, beq_iff_eq, decide_eq_true_iff]
theorem p10 {n k : Nat} (hk : k ≤ 17) (h : n < 10 ^ k) : n < 100000000000000000 := Nat.lt_of_lt_of_le h (Nat.le_trans (Nat.pow_le_pow_right (by omega) hk) (by decide))
set_option maxHeartbeats 1000000 in
theorem number_any (s : ByteArray) (hm : s.size ≤ 1000) (w : World) : Calls Tryz.prog 84 #[.string s] w fun e w' => e = .returned (.tuple #[.int .i64 (numN s.data.toList), .bool (numOK s.data.toList)]) ∧ w = w' := by
  have hlen : s.data.toList.length = s.size := by rw [Array.length_toList]; rfl
  by_cases hlong : s.size = 0 ∨ 17 < s.size
  · have hz := Lib.hid (num_none (numS_long (show s.data.toList.length = 0 ∨ 17 < s.data.toList.length by omega)))
    generalize numN s.data.toList = N at *
    generalize numOK s.data.toList = O at *
    rcases hlong with h | h
    · have d1 : ((s.size : Int) == 0) = true := by rw [beq_iff_eq]; omega
      go_enter Tryz.func84, Tryz.ntmps84
      go_wp2
      go_ret2
      exact ⟨by rw [hz.out.1, hz.out.2]; rfl, rfl⟩
    · have d1 : ((s.size : Int) == 0) = false := by rw [beq_eq_false_iff_ne]; omega
      have d2 : decide ((17 : Int) < (s.size : Int)) = true := by simp; omega
      go_enter Tryz.func84, Tryz.ntmps84
      go_wp2
      go_ret2
      exact ⟨by rw [hz.out.1, hz.out.2]; rfl, rfl⟩
  · have h0 : 0 < s.size := by omega
    have h17 : s.size ≤ 17 := by omega
    have d1 : ((s.size : Int) == 0) = false := by rw [beq_eq_false_iff_ne]; omega
    have d2 : decide ((17 : Int) < (s.size : Int)) = false := by simp; omega
    have hb := byte_at s
    have hlong2 : ¬ (s.data.toList.length = 0 ∨ 17 < s.data.toList.length) := by omega
    have hn : negS s.data.toList = (((s[0]'h0).toNat : Int) == 45) := by
      have h1 := hb 0 h0
      unfold negS
      rw [List.head?_eq_getElem?, h1, Bool.eq_iff_iff, beq_iff_eq, beq_iff_eq, Option.some.injEq]
      constructor
      · intro h; rw [h]; rfl
      · intro h; apply UInt8.toNat_inj.1; show _ = 45; omega
    have hN := Lib.hid hlong2
    by_cases hneg : ((s[0]'h0).toNat : Int) = 45
    · have d3 : (((s[0]'h0).toNat : Int) == 45) = true := by simp [hneg]
      have hS := numS_neg hlong2 (hn.trans d3)
      have hno := fun (k : Nat) (c : UInt8) (h1 : s.data.toList[k]? = some c) (hk : 1 ≤ k) (h2 : ¬ isDig c) => num_none (hS.trans (if_neg fun h => h2 (h c (by
        have : c ∈ s.data.toList.drop 1 := List.mem_of_getElem? (i := k - 1) (by rw [List.getElem?_drop, show 1 + (k - 1) = k by omega]; exact h1)
        exact this))))
      have hyes := fun (h : ∀ c ∈ s.data.toList.drop 1, isDig c) => num_some (hS.trans (if_pos h))
      have hsb := str_beq
      have hdl : (s.data.toList.drop 1).length = s.size - 1 := by rw [List.length_drop, hlen]
      have hstep := fun (k : Nat) (c : UInt8) (h1 : s.data.toList[k]? = some c) (hk : 1 ≤ k) => take_snoc (l := s.data.toList.drop 1) (k := k - 1) (c := c) (by rw [List.getElem?_drop, show 1 + (k - 1) = k by omega]; exact h1)
      generalize numN s.data.toList = N at *
      generalize numOK s.data.toList = O at *
      have hno' := Lib.hid hno
      have hyes' := Lib.hid hyes
      have hsb' := Lib.hid hsb
      have hstep' := Lib.hid hstep
      have hb' := Lib.hid hb
      have hdl' := Lib.hid hdl
      clear hno hyes hsb hstep hb hS hn hlong2 hlong hdl hlen
      generalize hR : s.data.toList.drop 1 = R at *
      go_enter Tryz.func84, Tryz.ntmps84
      go_wp2
      go_loop [5, 6] (fun a i => ∃ (k n : Nat), 1 ≤ k ∧ k ≤ s.size ∧ Hid (n = val10 (R.take (k - 1))) ∧ Hid (n < 10 ^ (k - 1)) ∧ Hid (∀ c ∈ R.take (k - 1), isDig c) ∧ n < 100000000000000000 ∧ a = .int .i64 n ∧ i = .int .i64 k) (fun _ i => s.size - (intOf i).toNat)
      case atStart => exact ⟨1, 0, by omega, by omega, Lib.hid (by simp [val10]), Lib.hid (by simp), Lib.hid (by simp), by omega, rfl, rfl⟩
      case round =>
        obtain ⟨k, n, hfk, hk, hv, hp, hd, hnb, rfl, rfl⟩ := hrel
        by_cases hlt : k < s.size
        · have hc := hb'.out k hlt
          have hst := hstep'.out k _ hc hfk
          have hnn := hno'.out k _ hc hfk
          obtain ⟨c, hcE⟩ : ∃ c, c = s[k]'hlt := ⟨_, rfl⟩
          rw [← hcE] at hc hst hnn
          obtain ⟨x, hx⟩ : ∃ x, x = c.toNat := ⟨_, rfl⟩
          have hcx : ((s[k]'hlt).toNat : Int) = (x : Int) := by rw [← hcE, hx]
          have hx' := Lib.hid hx
          have hnat : x ≤ 255 := by rw [hx]; have := c.toNat_lt; omega
          by_cases hdig : isDig c
          · have hxd : 48 ≤ x ∧ x ≤ 57 := by rw [hx]; exact hdig
            have e1 : k + 1 - 1 = k - 1 + 1 := by omega
            have hd2 := Lib.hid (show ∀ z ∈ R.take (k + 1 - 1), isDig z by
              rw [e1, hst]
              intro z hz
              rcases List.mem_append.1 hz with hz | hz
              · exact hd.out z hz
              · rw [List.mem_singleton] at hz; subst hz; exact hdig)
            have hv2 := Lib.hid (show 10 * n + (x - 48) = val10 (R.take (k + 1 - 1)) by rw [e1, hst, val10_snoc, ← hv.out, hx'.out])
            have hp2 := Lib.hid (show 10 * n + (x - 48) < 10 ^ (k + 1 - 1) by rw [e1, Nat.pow_succ]; have := hp.out; omega)
            have hnb2 : 10 * n + (x - 48) < 100000000000000000 := p10 (k := k + 1 - 1) (by omega) hp2.out
            clear hc hst hnn hdig hx e1 hcE
            go_wp2
            go_round
            case rel => exact ⟨k + 1, 10 * n + (x - 48), by omega, by omega, hv2, hp2, hd2, hnb2, by go_num, by go_num⟩
            case measure => simp [intOf]; omega
          · have hz := Lib.hid (hnn hdig)
            have hxd : x < 48 ∨ 57 < x := by rw [hx]; unfold isDig at hdig; omega
            clear hc hst hnn hdig hx hcE
            rcases hxd with hxd | hxd
            · have d4 : decide ((x : Int) < 48) = true := by simp; omega
              go_wp2
              go_ret2
              exact ⟨by rw [hz.out.1, hz.out.2]; rfl, rfl⟩
            · have d4 : decide ((x : Int) < 48) = false := by simp; omega
              have d5 : decide ((57 : Int) < (x : Int)) = true := by simp; omega
              go_wp2
              go_ret2
              exact ⟨by rw [hz.out.1, hz.out.2]; rfl, rfl⟩
        · have htk : R.take (k - 1) = R := List.take_of_length_le (by rw [hdl'.out]; omega)
          rw [htk] at hd hv
          have hy := Lib.hid (hyes'.out hd.out)
          have hit := Lib.hid (fun w => digits_any (-(n : Int)) (by omega) (by omega) w)
          have hsb2 := Lib.hid (hsb'.out (strB (Lib.itoa (-(n : Int)))) s)
          rw [← hv.out] at hy
          clear htk
          go_wp2_with fail
          refine (hit.out _).mono ?_
          rintro e w' ⟨rfl, rfl⟩
          go_wp2
          go_ret2
          exact ⟨by rw [hy.out.1, hy.out.2]; exact congrArg (fun b => Ending.returned (.tuple #[.int .i64 (-(n : Int)), .bool b])) hsb2.out, rfl⟩
    · have d3 : (((s[0]'h0).toNat : Int) == 45) = false := by simp [hneg]
      have hS := numS_pos hlong2 (hn.trans d3)
      have hno := fun (k : Nat) (c : UInt8) (h1 : s.data.toList[k]? = some c) (hk : 0 ≤ k) (h2 : ¬ isDig c) => num_none (hS.trans (if_neg fun h => h2 (h c (by
        have : c ∈ s.data.toList.drop 0 := List.mem_of_getElem? (i := k - 0) (by rw [List.getElem?_drop, show 0 + (k - 0) = k by omega]; exact h1)
        exact this))))
      have hyes := fun (h : ∀ c ∈ s.data.toList.drop 0, isDig c) => num_some (hS.trans (if_pos h))
      have hsb := str_beq
      have hdl : (s.data.toList.drop 0).length = s.size - 0 := by rw [List.length_drop, hlen]
      have hstep := fun (k : Nat) (c : UInt8) (h1 : s.data.toList[k]? = some c) (hk : 0 ≤ k) => take_snoc (l := s.data.toList.drop 0) (k := k - 0) (c := c) (by rw [List.getElem?_drop, show 0 + (k - 0) = k by omega]; exact h1)
      generalize numN s.data.toList = N at *
      generalize numOK s.data.toList = O at *
      have hno' := Lib.hid hno
      have hyes' := Lib.hid hyes
      have hsb' := Lib.hid hsb
      have hstep' := Lib.hid hstep
      have hb' := Lib.hid hb
      have hdl' := Lib.hid hdl
      clear hno hyes hsb hstep hb hS hn hlong2 hlong hdl hlen
      generalize hR : s.data.toList.drop 0 = R at *
      go_enter Tryz.func84, Tryz.ntmps84
      go_wp2
      go_loop [5, 6] (fun a i => ∃ (k n : Nat), 0 ≤ k ∧ k ≤ s.size ∧ Hid (n = val10 (R.take (k - 0))) ∧ Hid (n < 10 ^ (k - 0)) ∧ Hid (∀ c ∈ R.take (k - 0), isDig c) ∧ n < 100000000000000000 ∧ a = .int .i64 n ∧ i = .int .i64 k) (fun _ i => s.size - (intOf i).toNat)
      case atStart => exact ⟨0, 0, by omega, by omega, Lib.hid (by simp [val10]), Lib.hid (by simp), Lib.hid (by simp), by omega, rfl, rfl⟩
      case round =>
        obtain ⟨k, n, hfk, hk, hv, hp, hd, hnb, rfl, rfl⟩ := hrel
        by_cases hlt : k < s.size
        · have hc := hb'.out k hlt
          have hst := hstep'.out k _ hc hfk
          have hnn := hno'.out k _ hc hfk
          obtain ⟨c, hcE⟩ : ∃ c, c = s[k]'hlt := ⟨_, rfl⟩
          rw [← hcE] at hc hst hnn
          obtain ⟨x, hx⟩ : ∃ x, x = c.toNat := ⟨_, rfl⟩
          have hcx : ((s[k]'hlt).toNat : Int) = (x : Int) := by rw [← hcE, hx]
          have hx' := Lib.hid hx
          have hnat : x ≤ 255 := by rw [hx]; have := c.toNat_lt; omega
          by_cases hdig : isDig c
          · have hxd : 48 ≤ x ∧ x ≤ 57 := by rw [hx]; exact hdig
            have e1 : k + 1 - 0 = k - 0 + 1 := by omega
            have hd2 := Lib.hid (show ∀ z ∈ R.take (k + 1 - 0), isDig z by
              rw [e1, hst]
              intro z hz
              rcases List.mem_append.1 hz with hz | hz
              · exact hd.out z hz
              · rw [List.mem_singleton] at hz; subst hz; exact hdig)
            have hv2 := Lib.hid (show 10 * n + (x - 48) = val10 (R.take (k + 1 - 0)) by rw [e1, hst, val10_snoc, ← hv.out, hx'.out])
            have hp2 := Lib.hid (show 10 * n + (x - 48) < 10 ^ (k + 1 - 0) by rw [e1, Nat.pow_succ]; have := hp.out; omega)
            have hnb2 : 10 * n + (x - 48) < 100000000000000000 := p10 (k := k + 1 - 0) (by omega) hp2.out
            clear hc hst hnn hdig hx e1 hcE
            go_wp2
            go_round
            case rel => exact ⟨k + 1, 10 * n + (x - 48), by omega, by omega, hv2, hp2, hd2, hnb2, by go_num, by go_num⟩
            case measure => simp [intOf]; omega
          · have hz := Lib.hid (hnn hdig)
            have hxd : x < 48 ∨ 57 < x := by rw [hx]; unfold isDig at hdig; omega
            clear hc hst hnn hdig hx hcE
            rcases hxd with hxd | hxd
            · have d4 : decide ((x : Int) < 48) = true := by simp; omega
              go_wp2
              go_ret2
              exact ⟨by rw [hz.out.1, hz.out.2]; rfl, rfl⟩
            · have d4 : decide ((x : Int) < 48) = false := by simp; omega
              have d5 : decide ((57 : Int) < (x : Int)) = true := by simp; omega
              go_wp2
              go_ret2
              exact ⟨by rw [hz.out.1, hz.out.2]; rfl, rfl⟩
        · have htk : R.take (k - 0) = R := List.take_of_length_le (by rw [hdl'.out]; omega)
          rw [htk] at hd hv
          have hy := Lib.hid (hyes'.out hd.out)
          have hit := Lib.hid (fun w => digits_any ((n : Int)) (by omega) (by omega) w)
          have hsb2 := Lib.hid (hsb'.out (strB (Lib.itoa ((n : Int)))) s)
          rw [← hv.out] at hy
          clear htk
          go_wp2_with fail
          refine (hit.out _).mono ?_
          rintro e w' ⟨rfl, rfl⟩
          go_wp2
          go_ret2
          exact ⟨by rw [hy.out.1, hy.out.2]; exact congrArg (fun b => Ending.returned (.tuple #[.int .i64 ((n : Int)), .bool b])) hsb2.out, rfl⟩
end Go.Proofs.YtgeliikfgnkppaaGreatDoor
