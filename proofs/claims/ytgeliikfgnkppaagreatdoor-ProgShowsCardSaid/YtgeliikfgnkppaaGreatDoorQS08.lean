/-
  Words and walks under the law's proof.
-/
import Derived.Test.YtgeliikfgnkppaaGreatDoorQS01
import Derived.Test.YtgeliikfgnkppaaGreatDoorQS02
import Derived.Test.YtgeliikfgnkppaaGreatDoorQS03
import Derived.Test.YtgeliikfgnkppaaGreatDoorQS04
import Derived.Test.YtgeliikfgnkppaaGreatDoorQS07
namespace Go.Proofs.YtgeliikfgnkppaaGreatDoor
open Go.RowKit
set_option linter.unusedVariables false
set_option linter.unusedSimpArgs false
theorem rvshow_any (c : Int) (h0 : -1099511627776 ≤ c) (h1 : c ≤ 1099511627776) (w : World) : Calls Tryz.prog 51 #[.int .i64 c] w (Gives (.string (vT c)) w) := by
  refine (refshow_any c (by omega) (by omega) w).mono ?_
  rintro e w' ⟨rfl, rfl⟩
  exact ⟨by rw [vT_eq h0 h1], Below.refl _ _⟩
set_option maxRecDepth 100000 in
set_option maxHeartbeats 2000000 in
theorem rdifference_any (a : Option Addr) (n cp : Nat) (l : List ByteArray) (hl : ∀ s ∈ l, s.size ≤ 32) (x y : Int) (hx0 : 0 ≤ x) (hx : x ≤ (n : Int)) (hy0 : 0 ≤ y) (hy : y ≤ (n : Int)) (hxy : x ≠ y) (w : World) (h : TT w a n cp l) : Calls Tryz.prog 52 #[.slice a n cp, .int .i64 x, .int .i64 y] w (Gives (.string (diffT l x y)) w) := by
  have s1 := name_sz hl x
  have s2 := name_sz hl y
  have hn : (n : Int) ≤ 9223372036854775807 := by have := h.cap; have := h.max; unfold maxLen at this; omega
  by_cases h1 : y = 0
  · have hR : Hid (diffT l x y = nmV l x) := Lib.hid (by unfold diffT; rw [if_pos h1])
    obtain ⟨i, b, off, rfl, hi, rfl, hb, x0⟩ := name_at h (by omega) hx
    subst h1
    have hii : (i : Int) < (n : Int) := by omega
    generalize nmV l ((i : Int) + 1) = s at *
    generalize diffT l ((i : Int) + 1) 0 = R at *
    clear h hl
    go_enter Tryz.func52, Tryz.ntmps52
    go_wp2
    go_ret
    rw [hR.out]
    exact ⟨rfl, Below.refl _ _⟩
  · by_cases h2 : x = 0
    · have hR : Hid (diffT l x y = (⟨#[45]⟩ : ByteArray) ++ nmV l y) := Lib.hid (by unfold diffT; rw [if_neg h1, if_pos h2])
      obtain ⟨i, b, off, rfl, hi, rfl, hb, x0⟩ := name_at h (by omega) hy
      subst h2
      have hii : (i : Int) < (n : Int) := by omega
      have h1' : ¬ ((i : Int) + 1 = 0) := by omega
      generalize nmV l ((i : Int) + 1) = s at *
      generalize diffT l 0 ((i : Int) + 1) = R at *
      have z1 : ¬ 9223372036854775807 < 1 + s.size := by omega
      clear h hl
      go_enter Tryz.func52, Tryz.ntmps52
      go_wp2
      go_ret
      rw [hR.out]
      exact ⟨rfl, Below.refl _ _⟩
    · have hR : Hid (diffT l x y = (nmV l x ++ (⟨#[32, 45, 32]⟩ : ByteArray)) ++ nmV l y) := Lib.hid (by unfold diffT; rw [if_neg h1, if_neg h2])
      obtain ⟨i, b, off, rfl, hi, rfl, hb, x0⟩ := name_at h (by omega) hx
      obtain ⟨j, b2, off2, rfl, hj, e2, hb2, y0⟩ := name_at h (by omega) hy
      injection e2 with e2
      injection e2 with e3 e4
      subst e3 e4
      have hii : (i : Int) < (n : Int) := by omega
      have hji : (j : Int) < (n : Int) := by omega
      have h1' : ¬ ((j : Int) + 1 = 0) := by omega
      have h2' : ¬ ((i : Int) + 1 = 0) := by omega
      generalize nmV l ((i : Int) + 1) = s at *
      generalize nmV l ((j : Int) + 1) = u at *
      generalize diffT l ((i : Int) + 1) ((j : Int) + 1) = R at *
      have z1 : ¬ 9223372036854775807 < s.size + 3 := by omega
      have z2 : ¬ 9223372036854775807 < s.size + 3 + u.size := by omega
      have w1 : IntKind.i64.wrap (i : Int) = i := by rw [IntKind.wrap_i64]; omega
      have w2 : IntKind.i64.wrap (j : Int) = j := by rw [IntKind.wrap_i64]; omega
      have n1 : 0 ≤ (i : Int) := by omega
      have n2 : 0 ≤ (j : Int) := by omega
      clear h hl hxy
      go_enter Tryz.func52, Tryz.ntmps52
      go_wp2
      go_quiet (fail)
      go_wp2
      go_ret
      rw [hR.out]
      exact ⟨rfl, Below.drewN (Below.refl _ _) nq⟩
def rletT (l : List ByteArray) (y c : Int) : ByteArray := if y = 0 then vT c else if c = 0 then nmV l y else if c < 0 then (nmV l y ++ (⟨#[32, 45, 32]⟩ : ByteArray)) ++ vT (-c) else (nmV l y ++ (⟨#[32, 43, 32]⟩ : ByteArray)) ++ vT c
theorem rlet_sz {l : List ByteArray} (hl : ∀ s ∈ l, s.size ≤ 32) (y c : Int) : (rletT l y c).size ≤ 49 := by
  have v1 := vT_size c
  have v2 := vT_size (-c)
  have n1 := name_sz hl y
  have a2 : (⟨#[32, 45, 32]⟩ : ByteArray).size = 3 := rfl
  have a3 : (⟨#[32, 43, 32]⟩ : ByteArray).size = 3 := rfl
  unfold rletT
  split
  · omega
  · split
    · omega
    · split <;> (simp only [ByteArray.size_append]; omega)
set_option maxRecDepth 100000 in
set_option maxHeartbeats 4000000 in
theorem rlet_any (a : Option Addr) (n cp : Nat) (l : List ByteArray) (hl : ∀ s ∈ l, s.size ≤ 32) (y c : Int) (hy0 : 0 ≤ y) (hy : y ≤ (n : Int)) (h0 : -1099511627776 ≤ c) (h1 : c ≤ 1099511627776) (w : World) (h : TT w a n cp l) : Calls Tryz.prog 50 #[.slice a n cp, .int .i64 y, .int .i64 c] w (Gives (.string (rletT l y c)) w) := by
  have q1 := Lib.hid (fun W => rvshow_any c h0 h1 W)
  have q2 := Lib.hid (fun W => rvshow_any (-c) (by omega) (by omega) W)
  have s1 := vT_size c
  have s2 := vT_size (-c)
  have s3 := name_sz hl y
  have hn : (n : Int) ≤ 9223372036854775807 := by have := h.cap; have := h.max; unfold maxLen at this; omega
  have hL : Hid (rletT l y c = if y = 0 then vT c else if c = 0 then nmV l y else if c < 0 then (nmV l y ++ (⟨#[32, 45, 32]⟩ : ByteArray)) ++ vT (-c) else (nmV l y ++ (⟨#[32, 43, 32]⟩ : ByteArray)) ++ vT c) := Lib.hid rfl
  have w3 : IntKind.i64.wrap (-c) = -c := by rw [IntKind.wrap_i64]; omega
  by_cases hy1 : y = 0
  · have hR : Hid (rletT l y c = vT c) := Lib.hid (by rw [hL.out, if_pos hy1])
    subst hy1
    generalize rletT l 0 c = R at *
    generalize vT c = v at *
    clear hL h hl q2
    go_enter Tryz.func50, Tryz.ntmps50
    go_wp2_with fail
    refine (q1.out _).mono ?_
    rintro e w2 ⟨rfl, b2⟩
    go_wp2
    go_ret
    rw [hR.out]
    exact ⟨rfl, b2⟩
  obtain ⟨j, b, off, rfl, hj, rfl, hbj, y0⟩ := name_at h (by omega) hy
  have hji : (j : Int) < (n : Int) := by omega
  have w2 : IntKind.i64.wrap (j : Int) = j := by rw [IntKind.wrap_i64]; omega
  have n2 : 0 ≤ (j : Int) := by omega
  have hy1' : ¬ ((j : Int) + 1 = 0) := by omega
  have hL2 : Hid (rletT l ((j : Int) + 1) c = if c = 0 then nmV l ((j : Int) + 1) else if c < 0 then (nmV l ((j : Int) + 1) ++ (⟨#[32, 45, 32]⟩ : ByteArray)) ++ vT (-c) else (nmV l ((j : Int) + 1) ++ (⟨#[32, 43, 32]⟩ : ByteArray)) ++ vT c) := Lib.hid (by rw [hL.out, if_neg hy1])
  clear hL hy1
  generalize rletT l ((j : Int) + 1) c = R at *
  have gy : ∀ W, Below w.heap.size w W → W.cell? ⟨b, off + j, none⟩ = some (.string (nmV l ((j : Int) + 1))) := fun W hW => (hW.cell (p := ⟨b, off + j, none⟩) hbj).trans y0
  generalize nmV l ((j : Int) + 1) = r at *
  generalize vT c = v at *
  generalize vT (-c) = u at *
  have z3 : ¬ 9223372036854775807 < r.size + 3 := by omega
  have z4 : ¬ 9223372036854775807 < r.size + 3 + v.size := by omega
  have z5 : ¬ 9223372036854775807 < r.size + 3 + u.size := by omega
  by_cases hc0 : c = 0
  · have hR : Hid (R = r) := Lib.hid (by rw [hL2.out, if_pos hc0])
    subst hc0
    clear hL2 h hl q1 q2 gy
    go_enter Tryz.func50, Tryz.ntmps50
    go_wp2
    go_ret
    rw [hR.out]
    exact ⟨rfl, Below.refl _ _⟩
  by_cases hcn : c < 0
  · have hR : Hid (R = (r ++ (⟨#[32, 45, 32]⟩ : ByteArray)) ++ u) := Lib.hid (by rw [hL2.out, if_neg hc0, if_pos hcn])
    clear hL2 h hl y0
    go_enter Tryz.func50, Tryz.ntmps50
    go_wp2
    refine wp_drawn_on (fun W => Below w.heap.size w W) (by kernel_rfl) ((Below.refl _ _).drew) (fun hHeld => ?_)
    refine wpAnyH_take (i := 0) (oi := { dst := some 23, op := Go.Op.move (Go.Operand.tmp 0), type := 22, pos := "ref.go:156", after := #[], guard := none }) (v := ?v1) rfl (by kernel_rfl) (by kernel_rfl) (by kernel_rfl) (fun _ _ _ h => h) (Or.inl ⟨by kernel_rfl, ?h1⟩) (by assumption) ?r1
    case h1 => (intro w hSw; (try dsimp only at hSw); go_simp; try with_reducible rfl)
    try simp only [Act.put, List.setIfInBounds_toArray, List.set_cons_zero, List.set_cons_succ]
    refine wpAnyH_take (i := 1) (oi := { dst := some 24, op := Go.Op.move (Go.Operand.tmp 1), type := 3, pos := "ref.go:156", after := #[], guard := none }) (v := ?v2) rfl (by kernel_rfl) (by kernel_rfl) (by kernel_rfl) (fun _ _ _ h => h) (Or.inl ⟨by kernel_rfl, ?h2⟩) (by assumption) ?r2
    case h2 => (intro w hSw; (try dsimp only at hSw); go_simp; try with_reducible rfl)
    try simp only [Act.put, List.setIfInBounds_toArray, List.set_cons_zero, List.set_cons_succ]
    refine wpAnyH_take (i := 2) (oi := { dst := some 25, op := Go.Op.binOp Go.BinOp.sub 3 (Go.Operand.tmp 24) (Go.Operand.const (Go.Value.int Go.IntKind.i64 1)) 3, type := 3, pos := "ref.go:156", after := #[{ on := 1, ground := Go.Ground.data }], guard := none }) (v := ?v3) rfl (by kernel_rfl) (by kernel_rfl) (by kernel_rfl) (fun _ _ _ h => h) (Or.inl ⟨by kernel_rfl, ?h3⟩) (by assumption) ?r3
    case h3 => (intro w hSw; (try dsimp only at hSw); go_simp; try with_reducible rfl)
    try simp only [Act.put, List.setIfInBounds_toArray, List.set_cons_zero, List.set_cons_succ]
    refine wpAnyH_take (i := 3) (oi := { dst := some 26, op := Go.Op.indexAddr 22 (Go.Operand.tmp 23) (Go.Operand.tmp 25), type := 0, pos := "ref.go:156", after := #[{ on := 0, ground := Go.Ground.data }, { on := 2, ground := Go.Ground.data }], guard := none }) (v := ?v4) rfl (by kernel_rfl) (by kernel_rfl) (by kernel_rfl) (fun _ _ _ h => h) (Or.inl ⟨by kernel_rfl, ?h4⟩) (by assumption) ?r4
    case h4 => (intro w hSw; (try dsimp only at hSw); go_simp; try with_reducible rfl)
    try simp only [Act.put, List.setIfInBounds_toArray, List.set_cons_zero, List.set_cons_succ]
    refine wpAnyH_take (i := 4) (oi := { dst := some 27, op := Go.Op.load 9 (Go.Operand.tmp 26), type := 9, pos := "ref.go:156", after := #[{ on := 3, ground := Go.Ground.data }], guard := none }) (v := ?v5) rfl (by kernel_rfl) (by kernel_rfl) (by kernel_rfl) (fun _ _ _ h => h) (Or.inl ⟨by kernel_rfl, ?h5⟩) (by assumption) ?r5
    case h5 => (intro w hSw; (try dsimp only at hSw); go_simp; try with_reducible rfl)
    try simp only [Act.put, List.setIfInBounds_toArray, List.set_cons_zero, List.set_cons_succ]
    refine wpAnyH_take (i := 5) (oi := { dst := some 28, op := Go.Op.binOp Go.BinOp.add 9 (Go.Operand.tmp 27) (Go.Operand.const (Go.Value.string { data := #[32, 45, 32] })) 9, type := 9, pos := "ref.go:156", after := #[{ on := 4, ground := Go.Ground.data }], guard := none }) (v := ?v6) rfl (by kernel_rfl) (by kernel_rfl) (by kernel_rfl) (fun _ _ _ h => h) (Or.inl ⟨by kernel_rfl, ?h6⟩) (by assumption) ?r6
    case h6 => (intro w hSw; (try dsimp only at hSw); go_simp; try with_reducible rfl)
    try simp only [Act.put, List.setIfInBounds_toArray, List.set_cons_zero, List.set_cons_succ]
    refine wpAnyH_take (i := 6) (oi := { dst := some 29, op := Go.Op.move (Go.Operand.tmp 2), type := 3, pos := "ref.go:156", after := #[], guard := none }) (v := ?v7) rfl (by kernel_rfl) (by kernel_rfl) (by kernel_rfl) (fun _ _ _ h => h) (Or.inl ⟨by kernel_rfl, ?h7⟩) (by assumption) ?r7
    case h7 => (intro w hSw; (try dsimp only at hSw); go_simp; try with_reducible rfl)
    try simp only [Act.put, List.setIfInBounds_toArray, List.set_cons_zero, List.set_cons_succ]
    refine wpAnyH_take (i := 7) (oi := { dst := some 30, op := Go.Op.unOp Go.UnOp.neg 3 (Go.Operand.tmp 29), type := 3, pos := "ref.go:156", after := #[{ on := 6, ground := Go.Ground.data }], guard := none }) (v := ?v8) rfl (by kernel_rfl) (by kernel_rfl) (by kernel_rfl) (fun _ _ _ h => h) (Or.inl ⟨by kernel_rfl, ?h8⟩) (by assumption) ?r8
    case h8 => (intro w hSw; (try dsimp only at hSw); go_simp; try with_reducible rfl)
    try simp only [Act.put, List.setIfInBounds_toArray, List.set_cons_zero, List.set_cons_succ]
    refine wpAnyH_ready (rs := [8]) (by kernel_rfl) (by simp) ?_
    refine AllReadyH.cons (o := { dst := some 31, op := Go.Op.call { callee := Go.Callee.value (Go.Operand.func 51), args := #[Go.Operand.tmp 30], argTypes := #[3] }, type := 9, pos := "ref.go:156", after := #[{ on := 7, ground := Go.Ground.data }], guard := none }) rfl (fun K hK => ?_) AllReadyH.nil
    go_simp
    with_reducible refine (q2.out _).mono ?_
    rintro e t8 ⟨rfl, b8⟩
    go_simp
    refine hK.out _ _ (hHeld.trans (b8.mono hHeld.size)) (fun hHeld => ?_)
    clear hK K
    try simp only [Act.put, List.setIfInBounds_toArray, List.set_cons_zero, List.set_cons_succ]
    refine wpAnyH_take (i := 9) (oi := { dst := some 32, op := Go.Op.binOp Go.BinOp.add 9 (Go.Operand.tmp 28) (Go.Operand.tmp 31) 9, type := 9, pos := "ref.go:156", after := #[{ on := 5, ground := Go.Ground.data }, { on := 8, ground := Go.Ground.data }], guard := none }) (v := ?v9) rfl (by kernel_rfl) (by kernel_rfl) (by kernel_rfl) (fun _ _ _ h => h) (Or.inl ⟨by kernel_rfl, ?h9⟩) (by assumption) ?r9
    case h9 => (intro w hSw; (try dsimp only at hSw); go_simp; try with_reducible rfl)
    try simp only [Act.put, List.setIfInBounds_toArray, List.set_cons_zero, List.set_cons_succ]
    refine wpAnyH_take (i := 10) (oi := { dst := some 6, op := Go.Op.assign (Go.Operand.tmp 32), type := 9, pos := "ref.go:156", after := #[{ on := 9, ground := Go.Ground.data }, { on := 8, ground := Go.Ground.chain }, { on := 0, ground := Go.Ground.phase }, { on := 1, ground := Go.Ground.phase }, { on := 2, ground := Go.Ground.phase }, { on := 3, ground := Go.Ground.phase }, { on := 4, ground := Go.Ground.phase }, { on := 5, ground := Go.Ground.phase }, { on := 6, ground := Go.Ground.phase }, { on := 7, ground := Go.Ground.phase }, { on := 8, ground := Go.Ground.phase }, { on := 9, ground := Go.Ground.phase }], guard := none }) (v := ?v10) rfl (by kernel_rfl) (by kernel_rfl) (by kernel_rfl) (fun _ _ _ h => h) (Or.inl ⟨by kernel_rfl, ?h10⟩) (by assumption) ?r10
    case h10 => (intro w hSw; (try dsimp only at hSw); go_simp; try with_reducible rfl)
    try simp only [Act.put, List.setIfInBounds_toArray, List.set_cons_zero, List.set_cons_succ]
    refine wpAnyH_done (by kernel_rfl) ?_ _
    go_wp2
    go_ret
    rw [hR.out]
    exact ⟨rfl, hHeld⟩
  have hR : Hid (R = (r ++ (⟨#[32, 43, 32]⟩ : ByteArray)) ++ v) := Lib.hid (by rw [hL2.out, if_neg hc0, if_neg hcn])
  clear hL2 h hl y0
  go_enter Tryz.func50, Tryz.ntmps50
  go_wp2
  refine wp_drawn_on (fun W => Below w.heap.size w W) (by kernel_rfl) ((Below.refl _ _).drew) (fun hHeld => ?_)
  refine wpAnyH_take (i := 0) (oi := { dst := some 33, op := Go.Op.move (Go.Operand.tmp 0), type := 22, pos := "ref.go:158", after := #[], guard := none }) (v := ?v11) rfl (by kernel_rfl) (by kernel_rfl) (by kernel_rfl) (fun _ _ _ h => h) (Or.inl ⟨by kernel_rfl, ?h11⟩) (by assumption) ?r11
  case h11 => (intro w hSw; (try dsimp only at hSw); go_simp; try with_reducible rfl)
  try simp only [Act.put, List.setIfInBounds_toArray, List.set_cons_zero, List.set_cons_succ]
  refine wpAnyH_take (i := 1) (oi := { dst := some 34, op := Go.Op.move (Go.Operand.tmp 1), type := 3, pos := "ref.go:158", after := #[], guard := none }) (v := ?v12) rfl (by kernel_rfl) (by kernel_rfl) (by kernel_rfl) (fun _ _ _ h => h) (Or.inl ⟨by kernel_rfl, ?h12⟩) (by assumption) ?r12
  case h12 => (intro w hSw; (try dsimp only at hSw); go_simp; try with_reducible rfl)
  try simp only [Act.put, List.setIfInBounds_toArray, List.set_cons_zero, List.set_cons_succ]
  refine wpAnyH_take (i := 2) (oi := { dst := some 35, op := Go.Op.binOp Go.BinOp.sub 3 (Go.Operand.tmp 34) (Go.Operand.const (Go.Value.int Go.IntKind.i64 1)) 3, type := 3, pos := "ref.go:158", after := #[{ on := 1, ground := Go.Ground.data }], guard := none }) (v := ?v13) rfl (by kernel_rfl) (by kernel_rfl) (by kernel_rfl) (fun _ _ _ h => h) (Or.inl ⟨by kernel_rfl, ?h13⟩) (by assumption) ?r13
  case h13 => (intro w hSw; (try dsimp only at hSw); go_simp; try with_reducible rfl)
  try simp only [Act.put, List.setIfInBounds_toArray, List.set_cons_zero, List.set_cons_succ]
  refine wpAnyH_take (i := 3) (oi := { dst := some 36, op := Go.Op.indexAddr 22 (Go.Operand.tmp 33) (Go.Operand.tmp 35), type := 0, pos := "ref.go:158", after := #[{ on := 0, ground := Go.Ground.data }, { on := 2, ground := Go.Ground.data }], guard := none }) (v := ?v14) rfl (by kernel_rfl) (by kernel_rfl) (by kernel_rfl) (fun _ _ _ h => h) (Or.inl ⟨by kernel_rfl, ?h14⟩) (by assumption) ?r14
  case h14 => (intro w hSw; (try dsimp only at hSw); go_simp; try with_reducible rfl)
  try simp only [Act.put, List.setIfInBounds_toArray, List.set_cons_zero, List.set_cons_succ]
  refine wpAnyH_take (i := 4) (oi := { dst := some 37, op := Go.Op.load 9 (Go.Operand.tmp 36), type := 9, pos := "ref.go:158", after := #[{ on := 3, ground := Go.Ground.data }], guard := none }) (v := ?v15) rfl (by kernel_rfl) (by kernel_rfl) (by kernel_rfl) (fun _ _ _ h => h) (Or.inl ⟨by kernel_rfl, ?h15⟩) (by assumption) ?r15
  case h15 => (intro w hSw; (try dsimp only at hSw); go_simp; try with_reducible rfl)
  try simp only [Act.put, List.setIfInBounds_toArray, List.set_cons_zero, List.set_cons_succ]
  refine wpAnyH_take (i := 5) (oi := { dst := some 38, op := Go.Op.binOp Go.BinOp.add 9 (Go.Operand.tmp 37) (Go.Operand.const (Go.Value.string { data := #[32, 43, 32] })) 9, type := 9, pos := "ref.go:158", after := #[{ on := 4, ground := Go.Ground.data }], guard := none }) (v := ?v16) rfl (by kernel_rfl) (by kernel_rfl) (by kernel_rfl) (fun _ _ _ h => h) (Or.inl ⟨by kernel_rfl, ?h16⟩) (by assumption) ?r16
  case h16 => (intro w hSw; (try dsimp only at hSw); go_simp; try with_reducible rfl)
  try simp only [Act.put, List.setIfInBounds_toArray, List.set_cons_zero, List.set_cons_succ]
  refine wpAnyH_take (i := 6) (oi := { dst := some 39, op := Go.Op.move (Go.Operand.tmp 2), type := 3, pos := "ref.go:158", after := #[], guard := none }) (v := ?v17) rfl (by kernel_rfl) (by kernel_rfl) (by kernel_rfl) (fun _ _ _ h => h) (Or.inl ⟨by kernel_rfl, ?h17⟩) (by assumption) ?r17
  case h17 => (intro w hSw; (try dsimp only at hSw); go_simp; try with_reducible rfl)
  try simp only [Act.put, List.setIfInBounds_toArray, List.set_cons_zero, List.set_cons_succ]
  refine wpAnyH_ready (rs := [7]) (by kernel_rfl) (by simp) ?_
  refine AllReadyH.cons (o := { dst := some 40, op := Go.Op.call { callee := Go.Callee.value (Go.Operand.func 51), args := #[Go.Operand.tmp 39], argTypes := #[3] }, type := 9, pos := "ref.go:158", after := #[{ on := 6, ground := Go.Ground.data }], guard := none }) rfl (fun K hK => ?_) AllReadyH.nil
  go_simp
  with_reducible refine (q1.out _).mono ?_
  rintro e t7 ⟨rfl, b7⟩
  go_simp
  refine hK.out _ _ (hHeld.trans (b7.mono hHeld.size)) (fun hHeld => ?_)
  clear hK K
  try simp only [Act.put, List.setIfInBounds_toArray, List.set_cons_zero, List.set_cons_succ]
  refine wpAnyH_take (i := 8) (oi := { dst := some 41, op := Go.Op.binOp Go.BinOp.add 9 (Go.Operand.tmp 38) (Go.Operand.tmp 40) 9, type := 9, pos := "ref.go:158", after := #[{ on := 5, ground := Go.Ground.data }, { on := 7, ground := Go.Ground.data }], guard := none }) (v := ?v18) rfl (by kernel_rfl) (by kernel_rfl) (by kernel_rfl) (fun _ _ _ h => h) (Or.inl ⟨by kernel_rfl, ?h18⟩) (by assumption) ?r18
  case h18 => (intro w hSw; (try dsimp only at hSw); go_simp; try with_reducible rfl)
  try simp only [Act.put, List.setIfInBounds_toArray, List.set_cons_zero, List.set_cons_succ]
  refine wpAnyH_take (i := 9) (oi := { dst := some 6, op := Go.Op.assign (Go.Operand.tmp 41), type := 9, pos := "ref.go:158", after := #[{ on := 8, ground := Go.Ground.data }, { on := 7, ground := Go.Ground.chain }, { on := 0, ground := Go.Ground.phase }, { on := 1, ground := Go.Ground.phase }, { on := 2, ground := Go.Ground.phase }, { on := 3, ground := Go.Ground.phase }, { on := 4, ground := Go.Ground.phase }, { on := 5, ground := Go.Ground.phase }, { on := 6, ground := Go.Ground.phase }, { on := 7, ground := Go.Ground.phase }, { on := 8, ground := Go.Ground.phase }], guard := none }) (v := ?v19) rfl (by kernel_rfl) (by kernel_rfl) (by kernel_rfl) (fun _ _ _ h => h) (Or.inl ⟨by kernel_rfl, ?h19⟩) (by assumption) ?r19
  case h19 => (intro w hSw; (try dsimp only at hSw); go_simp; try with_reducible rfl)
  try simp only [Act.put, List.setIfInBounds_toArray, List.set_cons_zero, List.set_cons_succ]
  refine wpAnyH_done (by kernel_rfl) ?_ _
  go_wp2
  go_ret
  rw [hR.out]
  exact ⟨rfl, hHeld⟩
set_option maxRecDepth 100000 in
theorem rshow_1 (a : Option Addr) (n cp : Nat) (l : List ByteArray) (hl : ∀ s ∈ l, s.size ≤ 32) (x y c d : Int) (hr : rightB 1 x y c d (n : Int) = true) (w : World) (h : TT w a n cp l) : Calls Tryz.prog 25 #[.slice a n cp, .agg #[.int .i64 1, .int .i64 x, .int .i64 y, .int .i64 c, .int .i64 d]] w (Gives (.string (stmtT l 1 x y c d)) w) := by
  have hB := Lib.hid (box_below w #[.int .i64 1, .int .i64 x, .int .i64 y, .int .i64 c, .int .i64 d] 38)
  have hR : Hid (stmtT l 1 x y c d = ⟨#[115, 107, 105, 112]⟩) := Lib.hid rfl
  generalize stmtT l 1 x y c d = R at *
  clear h hl hr
  go_enter Tryz.func25, Tryz.ntmps25
  go_wp2
  go_ret
  rw [hR.out]
  exact ⟨rfl, hB.out⟩
set_option maxRecDepth 100000 in
set_option maxHeartbeats 4000000 in
theorem rshow_2 (a : Option Addr) (n cp : Nat) (l : List ByteArray) (hl : ∀ s ∈ l, s.size ≤ 32) (x y c d : Int) (hr : rightB 2 x y c d (n : Int) = true) (w : World) (h : TT w a n cp l) : Calls Tryz.prog 25 #[.slice a n cp, .agg #[.int .i64 2, .int .i64 x, .int .i64 y, .int .i64 c, .int .i64 d]] w (Gives (.string (stmtT l 2 x y c d)) w) := by
  obtain ⟨hx0, hx, hy0, hy, ⟨hc0, hc1⟩, rfl⟩ := right_let hr
  have hR : Hid (stmtT l 2 x y c 0 = (nmV l x ++ (⟨#[32, 58, 61, 32]⟩ : ByteArray)) ++ rletT l y c) := Lib.hid (by
    show letT l x y c = _
    unfold letT rletT
    split
    · rfl
    · split
      · rfl
      · split <;> simp only [ByteArray.append_assoc])
  have q := Lib.hid (fun W hW => rlet_any a n cp l hl y c hy0 hy hc0 hc1 W hW)
  have s0 := name_sz hl x
  have s1 := rlet_sz hl y c
  have hn : (n : Int) ≤ 9223372036854775807 := by have := h.cap; have := h.max; unfold maxLen at this; omega
  obtain ⟨i, b, off, rfl, hi, rfl, hbw, x0w⟩ := name_at h hx0 hx
  obtain ⟨W1, hW1⟩ : ∃ W1, W1 = w.alloc (.cells #[.int .i64 2, .int .i64 ((i : Int) + 1), .int .i64 y, .int .i64 c, .int .i64 0] 38) := ⟨_, rfl⟩
  have BL := Lib.hid (show Below w.heap.size w W1 by rw [hW1]; exact box_below _ _ _)
  have HZ : Hid (Holds W1 w.heap.size 38 #[.int .i64 2, .int .i64 ((i : Int) + 1), .int .i64 y, .int .i64 c, .int .i64 0]) := Lib.hid (by rw [hW1]; exact Holds.new w _ _)
  have V := Lib.hid (h.below BL.out)
  have hW1' := Lib.hid hW1
  have hbl : b < W1.heap.size := by have := BL.out.size; omega
  have x0 : W1.cell? ⟨b, off + i, none⟩ = some (.string (nmV l ((i : Int) + 1))) := (BL.out.cell (p := ⟨b, off + i, none⟩) hbw).trans x0w
  have hii : (i : Int) < (n : Int) := by omega
  have w1 : IntKind.i64.wrap (i : Int) = i := by rw [IntKind.wrap_i64]; omega
  have n1 : 0 ≤ (i : Int) := by omega
  have gx : ∀ W, Below W1.heap.size W1 W → W.cell? ⟨b, off + i, none⟩ = some (.string (nmV l ((i : Int) + 1))) := fun W hW => (hW.cell (p := ⟨b, off + i, none⟩) hbl).trans x0
  clear x0w x0 hbw
  generalize nmV l ((i : Int) + 1) = s at *
  generalize rletT l y c = v at *
  generalize stmtT l 2 ((i : Int) + 1) y c 0 = R at *
  have zz1 : ¬ 9223372036854775807 < s.size + 4 := by omega
  have zz2 : ¬ 9223372036854775807 < s.size + 4 + v.size := by omega
  clear h hl hW1 hx0 hx hr
  go_enter Tryz.func25, Tryz.ntmps25
  have k0 := HZ.out.cell 0
  have k1 := HZ.out.cell 1
  have k2 := HZ.out.cell 2
  have k3 := HZ.out.cell 3
  rw [hW1'.out] at k0 k1 k2 k3
  go_wp2
  rw [← hW1'.out]
  clear hW1' k0 k1 k2 k3
  have g0 : ∀ W, Below W1.heap.size W1 W → W.cell? ⟨w.heap.size, 0, none⟩ = some (.int .i64 2) := fun W hW => (HZ.out.below hW HZ.out.lt).cell 0
  have g1 : ∀ W, Below W1.heap.size W1 W → W.cell? ⟨w.heap.size, 1, none⟩ = some (.int .i64 ((i : Int) + 1)) := fun W hW => (HZ.out.below hW HZ.out.lt).cell 1
  have g2 : ∀ W, Below W1.heap.size W1 W → W.cell? ⟨w.heap.size, 2, none⟩ = some (.int .i64 y) := fun W hW => (HZ.out.below hW HZ.out.lt).cell 2
  have g3 : ∀ W, Below W1.heap.size W1 W → W.cell? ⟨w.heap.size, 3, none⟩ = some (.int .i64 c) := fun W hW => (HZ.out.below hW HZ.out.lt).cell 3
  have g4 : ∀ W, Below W1.heap.size W1 W → W.cell? ⟨w.heap.size, 4, none⟩ = some (.int .i64 0) := fun W hW => (HZ.out.below hW HZ.out.lt).cell 4
  refine wp_drawn_on (fun W => Below W1.heap.size W1 W) (by kernel_rfl) ((Below.refl _ _).drew) (fun hHeld => ?_)
  refine wpAnyH_take (i := 0) (oi := { dst := some 11, op := Go.Op.move (Go.Operand.tmp 0), type := 22, pos := "ref.go:167", after := #[], guard := none }) (v := ?v20) rfl (by kernel_rfl) (by kernel_rfl) (by kernel_rfl) (fun _ _ _ h => h) (Or.inl ⟨by kernel_rfl, ?h20⟩) (by assumption) ?r20
  case h20 => (intro w hSw; (try dsimp only at hSw); go_simp; try with_reducible rfl)
  try simp only [Act.put, List.setIfInBounds_toArray, List.set_cons_zero, List.set_cons_succ]
  refine wpAnyH_take (i := 1) (oi := { dst := some 12, op := Go.Op.fieldAddr 38 (Go.Operand.tmp 3) 1, type := 0, pos := "ref.go:167", after := #[], guard := none }) (v := ?v21) rfl (by kernel_rfl) (by kernel_rfl) (by kernel_rfl) (fun _ _ _ h => h) (Or.inl ⟨by kernel_rfl, ?h21⟩) (by assumption) ?r21
  case h21 => (intro w hSw; (try dsimp only at hSw); go_simp; try with_reducible rfl)
  try simp only [Act.put, List.setIfInBounds_toArray, List.set_cons_zero, List.set_cons_succ]
  refine wpAnyH_take (i := 2) (oi := { dst := some 13, op := Go.Op.load 3 (Go.Operand.tmp 12), type := 3, pos := "ref.go:167", after := #[{ on := 1, ground := Go.Ground.data }], guard := none }) (v := ?v22) rfl (by kernel_rfl) (by kernel_rfl) (by kernel_rfl) (fun _ _ _ h => h) (Or.inl ⟨by kernel_rfl, ?h22⟩) (by assumption) ?r22
  case h22 => (intro w hSw; (try dsimp only at hSw); go_simp; try with_reducible rfl)
  try simp only [Act.put, List.setIfInBounds_toArray, List.set_cons_zero, List.set_cons_succ]
  refine wpAnyH_take (i := 3) (oi := { dst := some 14, op := Go.Op.binOp Go.BinOp.sub 3 (Go.Operand.tmp 13) (Go.Operand.const (Go.Value.int Go.IntKind.i64 1)) 3, type := 3, pos := "ref.go:167", after := #[{ on := 2, ground := Go.Ground.data }], guard := none }) (v := ?v23) rfl (by kernel_rfl) (by kernel_rfl) (by kernel_rfl) (fun _ _ _ h => h) (Or.inl ⟨by kernel_rfl, ?h23⟩) (by assumption) ?r23
  case h23 => (intro w hSw; (try dsimp only at hSw); go_simp; try with_reducible rfl)
  try simp only [Act.put, List.setIfInBounds_toArray, List.set_cons_zero, List.set_cons_succ]
  refine wpAnyH_take (i := 4) (oi := { dst := some 15, op := Go.Op.indexAddr 22 (Go.Operand.tmp 11) (Go.Operand.tmp 14), type := 0, pos := "ref.go:167", after := #[{ on := 0, ground := Go.Ground.data }, { on := 3, ground := Go.Ground.data }], guard := none }) (v := ?v24) rfl (by kernel_rfl) (by kernel_rfl) (by kernel_rfl) (fun _ _ _ h => h) (Or.inl ⟨by kernel_rfl, ?h24⟩) (by assumption) ?r24
  case h24 => (intro w hSw; (try dsimp only at hSw); go_simp; try with_reducible rfl)
  try simp only [Act.put, List.setIfInBounds_toArray, List.set_cons_zero, List.set_cons_succ]
  refine wpAnyH_take (i := 5) (oi := { dst := some 16, op := Go.Op.load 9 (Go.Operand.tmp 15), type := 9, pos := "ref.go:167", after := #[{ on := 4, ground := Go.Ground.data }], guard := none }) (v := ?v25) rfl (by kernel_rfl) (by kernel_rfl) (by kernel_rfl) (fun _ _ _ h => h) (Or.inl ⟨by kernel_rfl, ?h25⟩) (by assumption) ?r25
  case h25 => (intro w hSw; (try dsimp only at hSw); go_simp; try with_reducible rfl)
  try simp only [Act.put, List.setIfInBounds_toArray, List.set_cons_zero, List.set_cons_succ]
  refine wpAnyH_take (i := 6) (oi := { dst := some 17, op := Go.Op.binOp Go.BinOp.add 9 (Go.Operand.tmp 16) (Go.Operand.const (Go.Value.string { data := #[32, 58, 61, 32] })) 9, type := 9, pos := "ref.go:167", after := #[{ on := 5, ground := Go.Ground.data }], guard := none }) (v := ?v26) rfl (by kernel_rfl) (by kernel_rfl) (by kernel_rfl) (fun _ _ _ h => h) (Or.inl ⟨by kernel_rfl, ?h26⟩) (by assumption) ?r26
  case h26 => (intro w hSw; (try dsimp only at hSw); go_simp; try with_reducible rfl)
  try simp only [Act.put, List.setIfInBounds_toArray, List.set_cons_zero, List.set_cons_succ]
  refine wpAnyH_take (i := 7) (oi := { dst := some 18, op := Go.Op.move (Go.Operand.tmp 0), type := 22, pos := "ref.go:167", after := #[], guard := none }) (v := ?v27) rfl (by kernel_rfl) (by kernel_rfl) (by kernel_rfl) (fun _ _ _ h => h) (Or.inl ⟨by kernel_rfl, ?h27⟩) (by assumption) ?r27
  case h27 => (intro w hSw; (try dsimp only at hSw); go_simp; try with_reducible rfl)
  try simp only [Act.put, List.setIfInBounds_toArray, List.set_cons_zero, List.set_cons_succ]
  refine wpAnyH_take (i := 8) (oi := { dst := some 19, op := Go.Op.fieldAddr 38 (Go.Operand.tmp 3) 2, type := 0, pos := "ref.go:167", after := #[], guard := none }) (v := ?v28) rfl (by kernel_rfl) (by kernel_rfl) (by kernel_rfl) (fun _ _ _ h => h) (Or.inl ⟨by kernel_rfl, ?h28⟩) (by assumption) ?r28
  case h28 => (intro w hSw; (try dsimp only at hSw); go_simp; try with_reducible rfl)
  try simp only [Act.put, List.setIfInBounds_toArray, List.set_cons_zero, List.set_cons_succ]
  refine wpAnyH_take (i := 9) (oi := { dst := some 20, op := Go.Op.load 3 (Go.Operand.tmp 19), type := 3, pos := "ref.go:167", after := #[{ on := 8, ground := Go.Ground.data }], guard := none }) (v := ?v29) rfl (by kernel_rfl) (by kernel_rfl) (by kernel_rfl) (fun _ _ _ h => h) (Or.inl ⟨by kernel_rfl, ?h29⟩) (by assumption) ?r29
  case h29 => (intro w hSw; (try dsimp only at hSw); go_simp; try with_reducible rfl)
  try simp only [Act.put, List.setIfInBounds_toArray, List.set_cons_zero, List.set_cons_succ]
  refine wpAnyH_take (i := 10) (oi := { dst := some 21, op := Go.Op.fieldAddr 38 (Go.Operand.tmp 3) 3, type := 0, pos := "ref.go:167", after := #[], guard := none }) (v := ?v30) rfl (by kernel_rfl) (by kernel_rfl) (by kernel_rfl) (fun _ _ _ h => h) (Or.inl ⟨by kernel_rfl, ?h30⟩) (by assumption) ?r30
  case h30 => (intro w hSw; (try dsimp only at hSw); go_simp; try with_reducible rfl)
  try simp only [Act.put, List.setIfInBounds_toArray, List.set_cons_zero, List.set_cons_succ]
  refine wpAnyH_take (i := 11) (oi := { dst := some 22, op := Go.Op.load 3 (Go.Operand.tmp 21), type := 3, pos := "ref.go:167", after := #[{ on := 10, ground := Go.Ground.data }], guard := none }) (v := ?v31) rfl (by kernel_rfl) (by kernel_rfl) (by kernel_rfl) (fun _ _ _ h => h) (Or.inl ⟨by kernel_rfl, ?h31⟩) (by assumption) ?r31
  case h31 => (intro w hSw; (try dsimp only at hSw); go_simp; try with_reducible rfl)
  try simp only [Act.put, List.setIfInBounds_toArray, List.set_cons_zero, List.set_cons_succ]
  refine wpAnyH_ready (rs := [12]) (by kernel_rfl) (by simp) ?_
  refine AllReadyH.cons (o := { dst := some 23, op := Go.Op.call { callee := Go.Callee.value (Go.Operand.func 50), args := #[Go.Operand.tmp 18, Go.Operand.tmp 20, Go.Operand.tmp 22], argTypes := #[22, 3, 3] }, type := 9, pos := "ref.go:167", after := #[{ on := 7, ground := Go.Ground.data }, { on := 9, ground := Go.Ground.data }, { on := 11, ground := Go.Ground.data }], guard := none }) rfl (fun K hK => ?_) AllReadyH.nil
  go_simp
  with_reducible refine (q.out _ (V.out.below hHeld)).mono ?_
  rintro e t12 ⟨rfl, b12⟩
  go_simp
  refine hK.out _ _ (hHeld.trans (b12.mono hHeld.size)) (fun hHeld => ?_)
  clear hK K
  try simp only [Act.put, List.setIfInBounds_toArray, List.set_cons_zero, List.set_cons_succ]
  refine wpAnyH_take (i := 13) (oi := { dst := some 24, op := Go.Op.binOp Go.BinOp.add 9 (Go.Operand.tmp 17) (Go.Operand.tmp 23) 9, type := 9, pos := "ref.go:167", after := #[{ on := 6, ground := Go.Ground.data }, { on := 12, ground := Go.Ground.data }], guard := none }) (v := ?v32) rfl (by kernel_rfl) (by kernel_rfl) (by kernel_rfl) (fun _ _ _ h => h) (Or.inl ⟨by kernel_rfl, ?h32⟩) (by assumption) ?r32
  case h32 => (intro w hSw; (try dsimp only at hSw); go_simp; try with_reducible rfl)
  try simp only [Act.put, List.setIfInBounds_toArray, List.set_cons_zero, List.set_cons_succ]
  refine wpAnyH_take (i := 14) (oi := { dst := some 4, op := Go.Op.assign (Go.Operand.tmp 24), type := 9, pos := "ref.go:167", after := #[{ on := 13, ground := Go.Ground.data }, { on := 12, ground := Go.Ground.chain }, { on := 0, ground := Go.Ground.phase }, { on := 1, ground := Go.Ground.phase }, { on := 2, ground := Go.Ground.phase }, { on := 3, ground := Go.Ground.phase }, { on := 4, ground := Go.Ground.phase }, { on := 5, ground := Go.Ground.phase }, { on := 6, ground := Go.Ground.phase }, { on := 7, ground := Go.Ground.phase }, { on := 8, ground := Go.Ground.phase }, { on := 9, ground := Go.Ground.phase }, { on := 10, ground := Go.Ground.phase }, { on := 11, ground := Go.Ground.phase }, { on := 12, ground := Go.Ground.phase }, { on := 13, ground := Go.Ground.phase }], guard := none }) (v := ?v33) rfl (by kernel_rfl) (by kernel_rfl) (by kernel_rfl) (fun _ _ _ h => h) (Or.inl ⟨by kernel_rfl, ?h33⟩) (by assumption) ?r33
  case h33 => (intro w hSw; (try dsimp only at hSw); go_simp; try with_reducible rfl)
  try simp only [Act.put, List.setIfInBounds_toArray, List.set_cons_zero, List.set_cons_succ]
  refine wpAnyH_done (by kernel_rfl) ?_ _
  go_wp2
  go_ret
  rw [hR.out]
  exact ⟨rfl, BL.out.trans (hHeld.mono BL.out.size)⟩
set_option maxRecDepth 100000 in
set_option maxHeartbeats 4000000 in
theorem rshow_3 (a : Option Addr) (n cp : Nat) (l : List ByteArray) (hl : ∀ s ∈ l, s.size ≤ 32) (x y c d : Int) (hr : rightB 3 x y c d (n : Int) = true) (w : World) (h : TT w a n cp l) : Calls Tryz.prog 25 #[.slice a n cp, .agg #[.int .i64 3, .int .i64 x, .int .i64 y, .int .i64 c, .int .i64 d]] w (Gives (.string (stmtT l 3 x y c d)) w) := by
  obtain ⟨hx0, hx, rfl, ⟨hc0, hc1⟩, ⟨hd0, hd1⟩, _⟩ := right_any' hr
  have hR : Hid (stmtT l 3 x 0 c d = ((((nmV l x ++ (⟨#[32, 58, 61, 32, 97, 110, 121, 32, 91]⟩ : ByteArray)) ++ vT c) ++ (⟨#[44, 32]⟩ : ByteArray)) ++ vT d) ++ (⟨#[93]⟩ : ByteArray)) := Lib.hid (by
    show anyT l x c d = _
    unfold anyT
    apply bytes_ext
    simp only [app_list, List.append_assoc]
    rfl)
  have q1 := Lib.hid (fun W => rvshow_any c hc0 hc1 W)
  have q2 := Lib.hid (fun W => rvshow_any d hd0 hd1 W)
  have s0 := name_sz hl x
  have s1 := vT_size c
  have s2 := vT_size d
  have hn : (n : Int) ≤ 9223372036854775807 := by have := h.cap; have := h.max; unfold maxLen at this; omega
  obtain ⟨i, b, off, rfl, hi, rfl, hbw, x0w⟩ := name_at h hx0 hx
  obtain ⟨W1, hW1⟩ : ∃ W1, W1 = w.alloc (.cells #[.int .i64 3, .int .i64 ((i : Int) + 1), .int .i64 0, .int .i64 c, .int .i64 d] 38) := ⟨_, rfl⟩
  have BL := Lib.hid (show Below w.heap.size w W1 by rw [hW1]; exact box_below _ _ _)
  have HZ : Hid (Holds W1 w.heap.size 38 #[.int .i64 3, .int .i64 ((i : Int) + 1), .int .i64 0, .int .i64 c, .int .i64 d]) := Lib.hid (by rw [hW1]; exact Holds.new w _ _)
  have V := Lib.hid (h.below BL.out)
  have hW1' := Lib.hid hW1
  have hbl : b < W1.heap.size := by have := BL.out.size; omega
  have x0 : W1.cell? ⟨b, off + i, none⟩ = some (.string (nmV l ((i : Int) + 1))) := (BL.out.cell (p := ⟨b, off + i, none⟩) hbw).trans x0w
  have hii : (i : Int) < (n : Int) := by omega
  have w1 : IntKind.i64.wrap (i : Int) = i := by rw [IntKind.wrap_i64]; omega
  have n1 : 0 ≤ (i : Int) := by omega
  have gx : ∀ W, Below W1.heap.size W1 W → W.cell? ⟨b, off + i, none⟩ = some (.string (nmV l ((i : Int) + 1))) := fun W hW => (hW.cell (p := ⟨b, off + i, none⟩) hbl).trans x0
  clear x0w x0 hbw
  generalize nmV l ((i : Int) + 1) = s at *
  generalize vT c = v at *
  generalize vT d = u at *
  generalize stmtT l 3 ((i : Int) + 1) 0 c d = R at *
  have zz1 : ¬ 9223372036854775807 < s.size + 9 := by omega
  have zz2 : ¬ 9223372036854775807 < s.size + 9 + v.size := by omega
  have zz3 : ¬ 9223372036854775807 < s.size + 9 + v.size + 2 := by omega
  have zz4 : ¬ 9223372036854775807 < s.size + 9 + v.size + 2 + u.size := by omega
  have zz5 : ¬ 9223372036854775807 < s.size + 9 + v.size + 2 + u.size + 1 := by omega
  clear h hl hW1 hx0 hx hr
  go_enter Tryz.func25, Tryz.ntmps25
  have k0 := HZ.out.cell 0
  have k1 := HZ.out.cell 1
  have k2 := HZ.out.cell 2
  have k3 := HZ.out.cell 3
  rw [hW1'.out] at k0 k1 k2 k3
  go_wp2
  rw [← hW1'.out]
  clear hW1' k0 k1 k2 k3
  have g0 : ∀ W, Below W1.heap.size W1 W → W.cell? ⟨w.heap.size, 0, none⟩ = some (.int .i64 3) := fun W hW => (HZ.out.below hW HZ.out.lt).cell 0
  have g1 : ∀ W, Below W1.heap.size W1 W → W.cell? ⟨w.heap.size, 1, none⟩ = some (.int .i64 ((i : Int) + 1)) := fun W hW => (HZ.out.below hW HZ.out.lt).cell 1
  have g2 : ∀ W, Below W1.heap.size W1 W → W.cell? ⟨w.heap.size, 2, none⟩ = some (.int .i64 0) := fun W hW => (HZ.out.below hW HZ.out.lt).cell 2
  have g3 : ∀ W, Below W1.heap.size W1 W → W.cell? ⟨w.heap.size, 3, none⟩ = some (.int .i64 c) := fun W hW => (HZ.out.below hW HZ.out.lt).cell 3
  have g4 : ∀ W, Below W1.heap.size W1 W → W.cell? ⟨w.heap.size, 4, none⟩ = some (.int .i64 d) := fun W hW => (HZ.out.below hW HZ.out.lt).cell 4
  refine wp_drawn_on (fun W => Below W1.heap.size W1 W) (by kernel_rfl) ((Below.refl _ _).drew) (fun hHeld => ?_)
  refine wpAnyH_take (i := 0) (oi := { dst := some 27, op := Go.Op.move (Go.Operand.tmp 0), type := 22, pos := "ref.go:169", after := #[], guard := none }) (v := ?v34) rfl (by kernel_rfl) (by kernel_rfl) (by kernel_rfl) (fun _ _ _ h => h) (Or.inl ⟨by kernel_rfl, ?h34⟩) (by assumption) ?r34
  case h34 => (intro w hSw; (try dsimp only at hSw); go_simp; try with_reducible rfl)
  try simp only [Act.put, List.setIfInBounds_toArray, List.set_cons_zero, List.set_cons_succ]
  refine wpAnyH_take (i := 1) (oi := { dst := some 28, op := Go.Op.fieldAddr 38 (Go.Operand.tmp 3) 1, type := 0, pos := "ref.go:169", after := #[], guard := none }) (v := ?v35) rfl (by kernel_rfl) (by kernel_rfl) (by kernel_rfl) (fun _ _ _ h => h) (Or.inl ⟨by kernel_rfl, ?h35⟩) (by assumption) ?r35
  case h35 => (intro w hSw; (try dsimp only at hSw); go_simp; try with_reducible rfl)
  try simp only [Act.put, List.setIfInBounds_toArray, List.set_cons_zero, List.set_cons_succ]
  refine wpAnyH_take (i := 2) (oi := { dst := some 29, op := Go.Op.load 3 (Go.Operand.tmp 28), type := 3, pos := "ref.go:169", after := #[{ on := 1, ground := Go.Ground.data }], guard := none }) (v := ?v36) rfl (by kernel_rfl) (by kernel_rfl) (by kernel_rfl) (fun _ _ _ h => h) (Or.inl ⟨by kernel_rfl, ?h36⟩) (by assumption) ?r36
  case h36 => (intro w hSw; (try dsimp only at hSw); go_simp; try with_reducible rfl)
  try simp only [Act.put, List.setIfInBounds_toArray, List.set_cons_zero, List.set_cons_succ]
  refine wpAnyH_take (i := 3) (oi := { dst := some 30, op := Go.Op.binOp Go.BinOp.sub 3 (Go.Operand.tmp 29) (Go.Operand.const (Go.Value.int Go.IntKind.i64 1)) 3, type := 3, pos := "ref.go:169", after := #[{ on := 2, ground := Go.Ground.data }], guard := none }) (v := ?v37) rfl (by kernel_rfl) (by kernel_rfl) (by kernel_rfl) (fun _ _ _ h => h) (Or.inl ⟨by kernel_rfl, ?h37⟩) (by assumption) ?r37
  case h37 => (intro w hSw; (try dsimp only at hSw); go_simp; try with_reducible rfl)
  try simp only [Act.put, List.setIfInBounds_toArray, List.set_cons_zero, List.set_cons_succ]
  refine wpAnyH_take (i := 4) (oi := { dst := some 31, op := Go.Op.indexAddr 22 (Go.Operand.tmp 27) (Go.Operand.tmp 30), type := 0, pos := "ref.go:169", after := #[{ on := 0, ground := Go.Ground.data }, { on := 3, ground := Go.Ground.data }], guard := none }) (v := ?v38) rfl (by kernel_rfl) (by kernel_rfl) (by kernel_rfl) (fun _ _ _ h => h) (Or.inl ⟨by kernel_rfl, ?h38⟩) (by assumption) ?r38
  case h38 => (intro w hSw; (try dsimp only at hSw); go_simp; try with_reducible rfl)
  try simp only [Act.put, List.setIfInBounds_toArray, List.set_cons_zero, List.set_cons_succ]
  refine wpAnyH_take (i := 5) (oi := { dst := some 32, op := Go.Op.load 9 (Go.Operand.tmp 31), type := 9, pos := "ref.go:169", after := #[{ on := 4, ground := Go.Ground.data }], guard := none }) (v := ?v39) rfl (by kernel_rfl) (by kernel_rfl) (by kernel_rfl) (fun _ _ _ h => h) (Or.inl ⟨by kernel_rfl, ?h39⟩) (by assumption) ?r39
  case h39 => (intro w hSw; (try dsimp only at hSw); go_simp; try with_reducible rfl)
  try simp only [Act.put, List.setIfInBounds_toArray, List.set_cons_zero, List.set_cons_succ]
  refine wpAnyH_take (i := 6) (oi := { dst := some 33, op := Go.Op.binOp Go.BinOp.add 9 (Go.Operand.tmp 32) (Go.Operand.const (Go.Value.string { data := #[32, 58, 61, 32, 97, 110, 121, 32, 91] })) 9, type := 9, pos := "ref.go:169", after := #[{ on := 5, ground := Go.Ground.data }], guard := none }) (v := ?v40) rfl (by kernel_rfl) (by kernel_rfl) (by kernel_rfl) (fun _ _ _ h => h) (Or.inl ⟨by kernel_rfl, ?h40⟩) (by assumption) ?r40
  case h40 => (intro w hSw; (try dsimp only at hSw); go_simp; try with_reducible rfl)
  try simp only [Act.put, List.setIfInBounds_toArray, List.set_cons_zero, List.set_cons_succ]
  refine wpAnyH_take (i := 7) (oi := { dst := some 34, op := Go.Op.fieldAddr 38 (Go.Operand.tmp 3) 3, type := 0, pos := "ref.go:169", after := #[], guard := none }) (v := ?v41) rfl (by kernel_rfl) (by kernel_rfl) (by kernel_rfl) (fun _ _ _ h => h) (Or.inl ⟨by kernel_rfl, ?h41⟩) (by assumption) ?r41
  case h41 => (intro w hSw; (try dsimp only at hSw); go_simp; try with_reducible rfl)
  try simp only [Act.put, List.setIfInBounds_toArray, List.set_cons_zero, List.set_cons_succ]
  refine wpAnyH_take (i := 8) (oi := { dst := some 35, op := Go.Op.load 3 (Go.Operand.tmp 34), type := 3, pos := "ref.go:169", after := #[{ on := 7, ground := Go.Ground.data }], guard := none }) (v := ?v42) rfl (by kernel_rfl) (by kernel_rfl) (by kernel_rfl) (fun _ _ _ h => h) (Or.inl ⟨by kernel_rfl, ?h42⟩) (by assumption) ?r42
  case h42 => (intro w hSw; (try dsimp only at hSw); go_simp; try with_reducible rfl)
  try simp only [Act.put, List.setIfInBounds_toArray, List.set_cons_zero, List.set_cons_succ]
  refine wpAnyH_take (i := 12) (oi := { dst := some 39, op := Go.Op.fieldAddr 38 (Go.Operand.tmp 3) 4, type := 0, pos := "ref.go:169", after := #[], guard := none }) (v := ?v43) rfl (by kernel_rfl) (by kernel_rfl) (by kernel_rfl) (fun _ _ _ h => h) (Or.inl ⟨by kernel_rfl, ?h43⟩) (by assumption) ?r43
  case h43 => (intro w hSw; (try dsimp only at hSw); go_simp; try with_reducible rfl)
  try simp only [Act.put, List.setIfInBounds_toArray, List.set_cons_zero, List.set_cons_succ]
  refine wpAnyH_take (i := 13) (oi := { dst := some 40, op := Go.Op.load 3 (Go.Operand.tmp 39), type := 3, pos := "ref.go:169", after := #[{ on := 12, ground := Go.Ground.data }], guard := none }) (v := ?v44) rfl (by kernel_rfl) (by kernel_rfl) (by kernel_rfl) (fun _ _ _ h => h) (Or.inl ⟨by kernel_rfl, ?h44⟩) (by assumption) ?r44
  case h44 => (intro w hSw; (try dsimp only at hSw); go_simp; try with_reducible rfl)
  try simp only [Act.put, List.setIfInBounds_toArray, List.set_cons_zero, List.set_cons_succ]
  refine wpAnyH_ready (rs := [9]) (by kernel_rfl) (by simp) ?_
  refine AllReadyH.cons (o := { dst := some 36, op := Go.Op.call { callee := Go.Callee.value (Go.Operand.func 51), args := #[Go.Operand.tmp 35], argTypes := #[3] }, type := 9, pos := "ref.go:169", after := #[{ on := 8, ground := Go.Ground.data }], guard := none }) rfl (fun K hK => ?_) AllReadyH.nil
  go_simp
  with_reducible refine (q1.out _).mono ?_
  rintro e t9 ⟨rfl, b9⟩
  go_simp
  refine hK.out _ _ (hHeld.trans (b9.mono hHeld.size)) (fun hHeld => ?_)
  clear hK K
  try simp only [Act.put, List.setIfInBounds_toArray, List.set_cons_zero, List.set_cons_succ]
  refine wpAnyH_take (i := 10) (oi := { dst := some 37, op := Go.Op.binOp Go.BinOp.add 9 (Go.Operand.tmp 33) (Go.Operand.tmp 36) 9, type := 9, pos := "ref.go:169", after := #[{ on := 6, ground := Go.Ground.data }, { on := 9, ground := Go.Ground.data }], guard := none }) (v := ?v45) rfl (by kernel_rfl) (by kernel_rfl) (by kernel_rfl) (fun _ _ _ h => h) (Or.inl ⟨by kernel_rfl, ?h45⟩) (by assumption) ?r45
  case h45 => (intro w hSw; (try dsimp only at hSw); go_simp; try with_reducible rfl)
  try simp only [Act.put, List.setIfInBounds_toArray, List.set_cons_zero, List.set_cons_succ]
  refine wpAnyH_take (i := 11) (oi := { dst := some 38, op := Go.Op.binOp Go.BinOp.add 9 (Go.Operand.tmp 37) (Go.Operand.const (Go.Value.string { data := #[44, 32] })) 9, type := 9, pos := "ref.go:169", after := #[{ on := 10, ground := Go.Ground.data }], guard := none }) (v := ?v46) rfl (by kernel_rfl) (by kernel_rfl) (by kernel_rfl) (fun _ _ _ h => h) (Or.inl ⟨by kernel_rfl, ?h46⟩) (by assumption) ?r46
  case h46 => (intro w hSw; (try dsimp only at hSw); go_simp; try with_reducible rfl)
  try simp only [Act.put, List.setIfInBounds_toArray, List.set_cons_zero, List.set_cons_succ]
  refine wpAnyH_ready (rs := [14]) (by kernel_rfl) (by simp) ?_
  refine AllReadyH.cons (o := { dst := some 41, op := Go.Op.call { callee := Go.Callee.value (Go.Operand.func 51), args := #[Go.Operand.tmp 40], argTypes := #[3] }, type := 9, pos := "ref.go:169", after := #[{ on := 13, ground := Go.Ground.data }, { on := 9, ground := Go.Ground.chain }], guard := none }) rfl (fun K hK => ?_) AllReadyH.nil
  go_simp
  with_reducible refine (q2.out _).mono ?_
  rintro e t14 ⟨rfl, b14⟩
  go_simp
  refine hK.out _ _ (hHeld.trans (b14.mono hHeld.size)) (fun hHeld => ?_)
  clear hK K
  try simp only [Act.put, List.setIfInBounds_toArray, List.set_cons_zero, List.set_cons_succ]
  refine wpAnyH_take (i := 15) (oi := { dst := some 42, op := Go.Op.binOp Go.BinOp.add 9 (Go.Operand.tmp 38) (Go.Operand.tmp 41) 9, type := 9, pos := "ref.go:169", after := #[{ on := 11, ground := Go.Ground.data }, { on := 14, ground := Go.Ground.data }], guard := none }) (v := ?v47) rfl (by kernel_rfl) (by kernel_rfl) (by kernel_rfl) (fun _ _ _ h => h) (Or.inl ⟨by kernel_rfl, ?h47⟩) (by assumption) ?r47
  case h47 => (intro w hSw; (try dsimp only at hSw); go_simp; try with_reducible rfl)
  try simp only [Act.put, List.setIfInBounds_toArray, List.set_cons_zero, List.set_cons_succ]
  refine wpAnyH_take (i := 16) (oi := { dst := some 43, op := Go.Op.binOp Go.BinOp.add 9 (Go.Operand.tmp 42) (Go.Operand.const (Go.Value.string { data := #[93] })) 9, type := 9, pos := "ref.go:169", after := #[{ on := 15, ground := Go.Ground.data }], guard := none }) (v := ?v48) rfl (by kernel_rfl) (by kernel_rfl) (by kernel_rfl) (fun _ _ _ h => h) (Or.inl ⟨by kernel_rfl, ?h48⟩) (by assumption) ?r48
  case h48 => (intro w hSw; (try dsimp only at hSw); go_simp; try with_reducible rfl)
  try simp only [Act.put, List.setIfInBounds_toArray, List.set_cons_zero, List.set_cons_succ]
  refine wpAnyH_take (i := 17) (oi := { dst := some 4, op := Go.Op.assign (Go.Operand.tmp 43), type := 9, pos := "ref.go:169", after := #[{ on := 16, ground := Go.Ground.data }, { on := 14, ground := Go.Ground.chain }, { on := 0, ground := Go.Ground.phase }, { on := 1, ground := Go.Ground.phase }, { on := 2, ground := Go.Ground.phase }, { on := 3, ground := Go.Ground.phase }, { on := 4, ground := Go.Ground.phase }, { on := 5, ground := Go.Ground.phase }, { on := 6, ground := Go.Ground.phase }, { on := 7, ground := Go.Ground.phase }, { on := 8, ground := Go.Ground.phase }, { on := 9, ground := Go.Ground.phase }, { on := 10, ground := Go.Ground.phase }, { on := 11, ground := Go.Ground.phase }, { on := 12, ground := Go.Ground.phase }, { on := 13, ground := Go.Ground.phase }, { on := 14, ground := Go.Ground.phase }, { on := 15, ground := Go.Ground.phase }, { on := 16, ground := Go.Ground.phase }], guard := none }) (v := ?v49) rfl (by kernel_rfl) (by kernel_rfl) (by kernel_rfl) (fun _ _ _ h => h) (Or.inl ⟨by kernel_rfl, ?h49⟩) (by assumption) ?r49
  case h49 => (intro w hSw; (try dsimp only at hSw); go_simp; try with_reducible rfl)
  try simp only [Act.put, List.setIfInBounds_toArray, List.set_cons_zero, List.set_cons_succ]
  refine wpAnyH_done (by kernel_rfl) ?_ _
  go_wp2
  go_ret
  rw [hR.out]
  exact ⟨rfl, BL.out.trans (hHeld.mono BL.out.size)⟩
set_option maxRecDepth 100000 in
set_option maxHeartbeats 4000000 in
theorem rshow_4 (a : Option Addr) (n cp : Nat) (l : List ByteArray) (hl : ∀ s ∈ l, s.size ≤ 32) (x y c d : Int) (hr : rightB 4 x y c d (n : Int) = true) (w : World) (h : TT w a n cp l) : Calls Tryz.prog 25 #[.slice a n cp, .agg #[.int .i64 4, .int .i64 x, .int .i64 y, .int .i64 c, .int .i64 d]] w (Gives (.string (stmtT l 4 x y c d)) w) := by
  obtain ⟨hx0, hx, hy0, hy, hxy, ⟨hc0, hc1⟩, rfl⟩ := right_diff (by omega) hr
  have hR : Hid (stmtT l 4 x y c 0 = (((⟨#[108, 105, 109, 105, 116, 32]⟩ : ByteArray) ++ diffT l x y) ++ (⟨#[32, 60, 61, 32]⟩ : ByteArray)) ++ vT c) := Lib.hid (by
    show limT ⟨#[108, 105, 109, 105, 116]⟩ l x y c = _
    unfold limT
    apply bytes_ext
    simp only [app_list, List.append_assoc]
    rfl)
  have q1 := Lib.hid (fun W hW => rdifference_any a n cp l hl x y hx0 hx hy0 hy hxy W hW)
  have q2 := Lib.hid (fun W => rvshow_any c hc0 hc1 W)
  have s1 := diff_sz hl x y
  have s2 := vT_size c
  obtain ⟨W1, hW1⟩ : ∃ W1, W1 = w.alloc (.cells #[.int .i64 4, .int .i64 x, .int .i64 y, .int .i64 c, .int .i64 0] 38) := ⟨_, rfl⟩
  have BL := Lib.hid (show Below w.heap.size w W1 by rw [hW1]; exact box_below _ _ _)
  have HZ : Hid (Holds W1 w.heap.size 38 #[.int .i64 4, .int .i64 x, .int .i64 y, .int .i64 c, .int .i64 0]) := Lib.hid (by rw [hW1]; exact Holds.new w _ _)
  have V := Lib.hid (h.below BL.out)
  have hW1' := Lib.hid hW1
  generalize diffT l x y = v at *
  generalize vT c = u at *
  generalize stmtT l 4 x y c 0 = R at *
  have zz1 : ¬ 9223372036854775807 < 6 + v.size := by omega
  have zz2 : ¬ 9223372036854775807 < 6 + v.size + 4 := by omega
  have zz3 : ¬ 9223372036854775807 < 6 + v.size + 4 + u.size := by omega
  clear h hl hW1 hx0 hx hr hxy hy0 hy
  go_enter Tryz.func25, Tryz.ntmps25
  have k0 := HZ.out.cell 0
  have k1 := HZ.out.cell 1
  have k2 := HZ.out.cell 2
  have k3 := HZ.out.cell 3
  rw [hW1'.out] at k0 k1 k2 k3
  go_wp2
  rw [← hW1'.out]
  clear hW1' k0 k1 k2 k3
  have g0 : ∀ W, Below W1.heap.size W1 W → W.cell? ⟨w.heap.size, 0, none⟩ = some (.int .i64 4) := fun W hW => (HZ.out.below hW HZ.out.lt).cell 0
  have g1 : ∀ W, Below W1.heap.size W1 W → W.cell? ⟨w.heap.size, 1, none⟩ = some (.int .i64 x) := fun W hW => (HZ.out.below hW HZ.out.lt).cell 1
  have g2 : ∀ W, Below W1.heap.size W1 W → W.cell? ⟨w.heap.size, 2, none⟩ = some (.int .i64 y) := fun W hW => (HZ.out.below hW HZ.out.lt).cell 2
  have g3 : ∀ W, Below W1.heap.size W1 W → W.cell? ⟨w.heap.size, 3, none⟩ = some (.int .i64 c) := fun W hW => (HZ.out.below hW HZ.out.lt).cell 3
  have g4 : ∀ W, Below W1.heap.size W1 W → W.cell? ⟨w.heap.size, 4, none⟩ = some (.int .i64 0) := fun W hW => (HZ.out.below hW HZ.out.lt).cell 4
  refine wp_drawn_on (fun W => Below W1.heap.size W1 W) (by kernel_rfl) ((Below.refl _ _).drew) (fun hHeld => ?_)
  refine wpAnyH_take (i := 0) (oi := { dst := some 46, op := Go.Op.move (Go.Operand.tmp 0), type := 22, pos := "ref.go:171", after := #[], guard := none }) (v := ?v50) rfl (by kernel_rfl) (by kernel_rfl) (by kernel_rfl) (fun _ _ _ h => h) (Or.inl ⟨by kernel_rfl, ?h50⟩) (by assumption) ?r50
  case h50 => (intro w hSw; (try dsimp only at hSw); go_simp; try with_reducible rfl)
  try simp only [Act.put, List.setIfInBounds_toArray, List.set_cons_zero, List.set_cons_succ]
  refine wpAnyH_take (i := 1) (oi := { dst := some 47, op := Go.Op.fieldAddr 38 (Go.Operand.tmp 3) 1, type := 0, pos := "ref.go:171", after := #[], guard := none }) (v := ?v51) rfl (by kernel_rfl) (by kernel_rfl) (by kernel_rfl) (fun _ _ _ h => h) (Or.inl ⟨by kernel_rfl, ?h51⟩) (by assumption) ?r51
  case h51 => (intro w hSw; (try dsimp only at hSw); go_simp; try with_reducible rfl)
  try simp only [Act.put, List.setIfInBounds_toArray, List.set_cons_zero, List.set_cons_succ]
  refine wpAnyH_take (i := 2) (oi := { dst := some 48, op := Go.Op.load 3 (Go.Operand.tmp 47), type := 3, pos := "ref.go:171", after := #[{ on := 1, ground := Go.Ground.data }], guard := none }) (v := ?v52) rfl (by kernel_rfl) (by kernel_rfl) (by kernel_rfl) (fun _ _ _ h => h) (Or.inl ⟨by kernel_rfl, ?h52⟩) (by assumption) ?r52
  case h52 => (intro w hSw; (try dsimp only at hSw); go_simp; try with_reducible rfl)
  try simp only [Act.put, List.setIfInBounds_toArray, List.set_cons_zero, List.set_cons_succ]
  refine wpAnyH_take (i := 3) (oi := { dst := some 49, op := Go.Op.fieldAddr 38 (Go.Operand.tmp 3) 2, type := 0, pos := "ref.go:171", after := #[], guard := none }) (v := ?v53) rfl (by kernel_rfl) (by kernel_rfl) (by kernel_rfl) (fun _ _ _ h => h) (Or.inl ⟨by kernel_rfl, ?h53⟩) (by assumption) ?r53
  case h53 => (intro w hSw; (try dsimp only at hSw); go_simp; try with_reducible rfl)
  try simp only [Act.put, List.setIfInBounds_toArray, List.set_cons_zero, List.set_cons_succ]
  refine wpAnyH_take (i := 4) (oi := { dst := some 50, op := Go.Op.load 3 (Go.Operand.tmp 49), type := 3, pos := "ref.go:171", after := #[{ on := 3, ground := Go.Ground.data }], guard := none }) (v := ?v54) rfl (by kernel_rfl) (by kernel_rfl) (by kernel_rfl) (fun _ _ _ h => h) (Or.inl ⟨by kernel_rfl, ?h54⟩) (by assumption) ?r54
  case h54 => (intro w hSw; (try dsimp only at hSw); go_simp; try with_reducible rfl)
  try simp only [Act.put, List.setIfInBounds_toArray, List.set_cons_zero, List.set_cons_succ]
  refine wpAnyH_take (i := 8) (oi := { dst := some 54, op := Go.Op.fieldAddr 38 (Go.Operand.tmp 3) 3, type := 0, pos := "ref.go:171", after := #[], guard := none }) (v := ?v55) rfl (by kernel_rfl) (by kernel_rfl) (by kernel_rfl) (fun _ _ _ h => h) (Or.inl ⟨by kernel_rfl, ?h55⟩) (by assumption) ?r55
  case h55 => (intro w hSw; (try dsimp only at hSw); go_simp; try with_reducible rfl)
  try simp only [Act.put, List.setIfInBounds_toArray, List.set_cons_zero, List.set_cons_succ]
  refine wpAnyH_take (i := 9) (oi := { dst := some 55, op := Go.Op.load 3 (Go.Operand.tmp 54), type := 3, pos := "ref.go:171", after := #[{ on := 8, ground := Go.Ground.data }], guard := none }) (v := ?v56) rfl (by kernel_rfl) (by kernel_rfl) (by kernel_rfl) (fun _ _ _ h => h) (Or.inl ⟨by kernel_rfl, ?h56⟩) (by assumption) ?r56
  case h56 => (intro w hSw; (try dsimp only at hSw); go_simp; try with_reducible rfl)
  try simp only [Act.put, List.setIfInBounds_toArray, List.set_cons_zero, List.set_cons_succ]
  refine wpAnyH_ready (rs := [5]) (by kernel_rfl) (by simp) ?_
  refine AllReadyH.cons (o := { dst := some 51, op := Go.Op.call { callee := Go.Callee.value (Go.Operand.func 52), args := #[Go.Operand.tmp 46, Go.Operand.tmp 48, Go.Operand.tmp 50], argTypes := #[22, 3, 3] }, type := 9, pos := "ref.go:171", after := #[{ on := 0, ground := Go.Ground.data }, { on := 2, ground := Go.Ground.data }, { on := 4, ground := Go.Ground.data }], guard := none }) rfl (fun K hK => ?_) AllReadyH.nil
  go_simp
  with_reducible refine (q1.out _ (V.out.below hHeld)).mono ?_
  rintro e t5 ⟨rfl, b5⟩
  go_simp
  refine hK.out _ _ (hHeld.trans (b5.mono hHeld.size)) (fun hHeld => ?_)
  clear hK K
  try simp only [Act.put, List.setIfInBounds_toArray, List.set_cons_zero, List.set_cons_succ]
  refine wpAnyH_take (i := 6) (oi := { dst := some 52, op := Go.Op.binOp Go.BinOp.add 9 (Go.Operand.const (Go.Value.string { data := #[108, 105, 109, 105, 116, 32] })) (Go.Operand.tmp 51) 9, type := 9, pos := "ref.go:171", after := #[{ on := 5, ground := Go.Ground.data }], guard := none }) (v := ?v57) rfl (by kernel_rfl) (by kernel_rfl) (by kernel_rfl) (fun _ _ _ h => h) (Or.inl ⟨by kernel_rfl, ?h57⟩) (by assumption) ?r57
  case h57 => (intro w hSw; (try dsimp only at hSw); go_simp; try with_reducible rfl)
  try simp only [Act.put, List.setIfInBounds_toArray, List.set_cons_zero, List.set_cons_succ]
  refine wpAnyH_take (i := 7) (oi := { dst := some 53, op := Go.Op.binOp Go.BinOp.add 9 (Go.Operand.tmp 52) (Go.Operand.const (Go.Value.string { data := #[32, 60, 61, 32] })) 9, type := 9, pos := "ref.go:171", after := #[{ on := 6, ground := Go.Ground.data }], guard := none }) (v := ?v58) rfl (by kernel_rfl) (by kernel_rfl) (by kernel_rfl) (fun _ _ _ h => h) (Or.inl ⟨by kernel_rfl, ?h58⟩) (by assumption) ?r58
  case h58 => (intro w hSw; (try dsimp only at hSw); go_simp; try with_reducible rfl)
  try simp only [Act.put, List.setIfInBounds_toArray, List.set_cons_zero, List.set_cons_succ]
  refine wpAnyH_ready (rs := [10]) (by kernel_rfl) (by simp) ?_
  refine AllReadyH.cons (o := { dst := some 56, op := Go.Op.call { callee := Go.Callee.value (Go.Operand.func 51), args := #[Go.Operand.tmp 55], argTypes := #[3] }, type := 9, pos := "ref.go:171", after := #[{ on := 9, ground := Go.Ground.data }, { on := 5, ground := Go.Ground.chain }], guard := none }) rfl (fun K hK => ?_) AllReadyH.nil
  go_simp
  with_reducible refine (q2.out _).mono ?_
  rintro e t10 ⟨rfl, b10⟩
  go_simp
  refine hK.out _ _ (hHeld.trans (b10.mono hHeld.size)) (fun hHeld => ?_)
  clear hK K
  try simp only [Act.put, List.setIfInBounds_toArray, List.set_cons_zero, List.set_cons_succ]
  refine wpAnyH_take (i := 11) (oi := { dst := some 57, op := Go.Op.binOp Go.BinOp.add 9 (Go.Operand.tmp 53) (Go.Operand.tmp 56) 9, type := 9, pos := "ref.go:171", after := #[{ on := 7, ground := Go.Ground.data }, { on := 10, ground := Go.Ground.data }], guard := none }) (v := ?v59) rfl (by kernel_rfl) (by kernel_rfl) (by kernel_rfl) (fun _ _ _ h => h) (Or.inl ⟨by kernel_rfl, ?h59⟩) (by assumption) ?r59
  case h59 => (intro w hSw; (try dsimp only at hSw); go_simp; try with_reducible rfl)
  try simp only [Act.put, List.setIfInBounds_toArray, List.set_cons_zero, List.set_cons_succ]
  refine wpAnyH_take (i := 12) (oi := { dst := some 4, op := Go.Op.assign (Go.Operand.tmp 57), type := 9, pos := "ref.go:171", after := #[{ on := 11, ground := Go.Ground.data }, { on := 10, ground := Go.Ground.chain }, { on := 0, ground := Go.Ground.phase }, { on := 1, ground := Go.Ground.phase }, { on := 2, ground := Go.Ground.phase }, { on := 3, ground := Go.Ground.phase }, { on := 4, ground := Go.Ground.phase }, { on := 5, ground := Go.Ground.phase }, { on := 6, ground := Go.Ground.phase }, { on := 7, ground := Go.Ground.phase }, { on := 8, ground := Go.Ground.phase }, { on := 9, ground := Go.Ground.phase }, { on := 10, ground := Go.Ground.phase }, { on := 11, ground := Go.Ground.phase }], guard := none }) (v := ?v60) rfl (by kernel_rfl) (by kernel_rfl) (by kernel_rfl) (fun _ _ _ h => h) (Or.inl ⟨by kernel_rfl, ?h60⟩) (by assumption) ?r60
  case h60 => (intro w hSw; (try dsimp only at hSw); go_simp; try with_reducible rfl)
  try simp only [Act.put, List.setIfInBounds_toArray, List.set_cons_zero, List.set_cons_succ]
  refine wpAnyH_done (by kernel_rfl) ?_ _
  go_wp2
  go_ret
  rw [hR.out]
  exact ⟨rfl, BL.out.trans (hHeld.mono BL.out.size)⟩
set_option maxRecDepth 100000 in
set_option maxHeartbeats 4000000 in
theorem rshow_5 (a : Option Addr) (n cp : Nat) (l : List ByteArray) (hl : ∀ s ∈ l, s.size ≤ 32) (x y c d : Int) (hr : rightB 5 x y c d (n : Int) = true) (w : World) (h : TT w a n cp l) : Calls Tryz.prog 25 #[.slice a n cp, .agg #[.int .i64 5, .int .i64 x, .int .i64 y, .int .i64 c, .int .i64 d]] w (Gives (.string (stmtT l 5 x y c d)) w) := by
  obtain ⟨hx0, hx, hy0, hy, hxy, ⟨hc0, hc1⟩, rfl⟩ := right_diff (by omega) hr
  have hR : Hid (stmtT l 5 x y c 0 = (((⟨#[99, 104, 101, 99, 107, 32]⟩ : ByteArray) ++ diffT l x y) ++ (⟨#[32, 60, 61, 32]⟩ : ByteArray)) ++ vT c) := Lib.hid (by
    show limT ⟨#[99, 104, 101, 99, 107]⟩ l x y c = _
    unfold limT
    apply bytes_ext
    simp only [app_list, List.append_assoc]
    rfl)
  have q1 := Lib.hid (fun W hW => rdifference_any a n cp l hl x y hx0 hx hy0 hy hxy W hW)
  have q2 := Lib.hid (fun W => rvshow_any c hc0 hc1 W)
  have s1 := diff_sz hl x y
  have s2 := vT_size c
  obtain ⟨W1, hW1⟩ : ∃ W1, W1 = w.alloc (.cells #[.int .i64 5, .int .i64 x, .int .i64 y, .int .i64 c, .int .i64 0] 38) := ⟨_, rfl⟩
  have BL := Lib.hid (show Below w.heap.size w W1 by rw [hW1]; exact box_below _ _ _)
  have HZ : Hid (Holds W1 w.heap.size 38 #[.int .i64 5, .int .i64 x, .int .i64 y, .int .i64 c, .int .i64 0]) := Lib.hid (by rw [hW1]; exact Holds.new w _ _)
  have V := Lib.hid (h.below BL.out)
  have hW1' := Lib.hid hW1
  generalize diffT l x y = v at *
  generalize vT c = u at *
  generalize stmtT l 5 x y c 0 = R at *
  have zz1 : ¬ 9223372036854775807 < 6 + v.size := by omega
  have zz2 : ¬ 9223372036854775807 < 6 + v.size + 4 := by omega
  have zz3 : ¬ 9223372036854775807 < 6 + v.size + 4 + u.size := by omega
  clear h hl hW1 hx0 hx hr hxy hy0 hy
  go_enter Tryz.func25, Tryz.ntmps25
  have k0 := HZ.out.cell 0
  have k1 := HZ.out.cell 1
  have k2 := HZ.out.cell 2
  have k3 := HZ.out.cell 3
  rw [hW1'.out] at k0 k1 k2 k3
  go_wp2
  rw [← hW1'.out]
  clear hW1' k0 k1 k2 k3
  have g0 : ∀ W, Below W1.heap.size W1 W → W.cell? ⟨w.heap.size, 0, none⟩ = some (.int .i64 5) := fun W hW => (HZ.out.below hW HZ.out.lt).cell 0
  have g1 : ∀ W, Below W1.heap.size W1 W → W.cell? ⟨w.heap.size, 1, none⟩ = some (.int .i64 x) := fun W hW => (HZ.out.below hW HZ.out.lt).cell 1
  have g2 : ∀ W, Below W1.heap.size W1 W → W.cell? ⟨w.heap.size, 2, none⟩ = some (.int .i64 y) := fun W hW => (HZ.out.below hW HZ.out.lt).cell 2
  have g3 : ∀ W, Below W1.heap.size W1 W → W.cell? ⟨w.heap.size, 3, none⟩ = some (.int .i64 c) := fun W hW => (HZ.out.below hW HZ.out.lt).cell 3
  have g4 : ∀ W, Below W1.heap.size W1 W → W.cell? ⟨w.heap.size, 4, none⟩ = some (.int .i64 0) := fun W hW => (HZ.out.below hW HZ.out.lt).cell 4
  refine wp_drawn_on (fun W => Below W1.heap.size W1 W) (by kernel_rfl) ((Below.refl _ _).drew) (fun hHeld => ?_)
  refine wpAnyH_take (i := 0) (oi := { dst := some 58, op := Go.Op.move (Go.Operand.tmp 0), type := 22, pos := "ref.go:173", after := #[], guard := none }) (v := ?v61) rfl (by kernel_rfl) (by kernel_rfl) (by kernel_rfl) (fun _ _ _ h => h) (Or.inl ⟨by kernel_rfl, ?h61⟩) (by assumption) ?r61
  case h61 => (intro w hSw; (try dsimp only at hSw); go_simp; try with_reducible rfl)
  try simp only [Act.put, List.setIfInBounds_toArray, List.set_cons_zero, List.set_cons_succ]
  refine wpAnyH_take (i := 1) (oi := { dst := some 59, op := Go.Op.fieldAddr 38 (Go.Operand.tmp 3) 1, type := 0, pos := "ref.go:173", after := #[], guard := none }) (v := ?v62) rfl (by kernel_rfl) (by kernel_rfl) (by kernel_rfl) (fun _ _ _ h => h) (Or.inl ⟨by kernel_rfl, ?h62⟩) (by assumption) ?r62
  case h62 => (intro w hSw; (try dsimp only at hSw); go_simp; try with_reducible rfl)
  try simp only [Act.put, List.setIfInBounds_toArray, List.set_cons_zero, List.set_cons_succ]
  refine wpAnyH_take (i := 2) (oi := { dst := some 60, op := Go.Op.load 3 (Go.Operand.tmp 59), type := 3, pos := "ref.go:173", after := #[{ on := 1, ground := Go.Ground.data }], guard := none }) (v := ?v63) rfl (by kernel_rfl) (by kernel_rfl) (by kernel_rfl) (fun _ _ _ h => h) (Or.inl ⟨by kernel_rfl, ?h63⟩) (by assumption) ?r63
  case h63 => (intro w hSw; (try dsimp only at hSw); go_simp; try with_reducible rfl)
  try simp only [Act.put, List.setIfInBounds_toArray, List.set_cons_zero, List.set_cons_succ]
  refine wpAnyH_take (i := 3) (oi := { dst := some 61, op := Go.Op.fieldAddr 38 (Go.Operand.tmp 3) 2, type := 0, pos := "ref.go:173", after := #[], guard := none }) (v := ?v64) rfl (by kernel_rfl) (by kernel_rfl) (by kernel_rfl) (fun _ _ _ h => h) (Or.inl ⟨by kernel_rfl, ?h64⟩) (by assumption) ?r64
  case h64 => (intro w hSw; (try dsimp only at hSw); go_simp; try with_reducible rfl)
  try simp only [Act.put, List.setIfInBounds_toArray, List.set_cons_zero, List.set_cons_succ]
  refine wpAnyH_take (i := 4) (oi := { dst := some 62, op := Go.Op.load 3 (Go.Operand.tmp 61), type := 3, pos := "ref.go:173", after := #[{ on := 3, ground := Go.Ground.data }], guard := none }) (v := ?v65) rfl (by kernel_rfl) (by kernel_rfl) (by kernel_rfl) (fun _ _ _ h => h) (Or.inl ⟨by kernel_rfl, ?h65⟩) (by assumption) ?r65
  case h65 => (intro w hSw; (try dsimp only at hSw); go_simp; try with_reducible rfl)
  try simp only [Act.put, List.setIfInBounds_toArray, List.set_cons_zero, List.set_cons_succ]
  refine wpAnyH_take (i := 8) (oi := { dst := some 66, op := Go.Op.fieldAddr 38 (Go.Operand.tmp 3) 3, type := 0, pos := "ref.go:173", after := #[], guard := none }) (v := ?v66) rfl (by kernel_rfl) (by kernel_rfl) (by kernel_rfl) (fun _ _ _ h => h) (Or.inl ⟨by kernel_rfl, ?h66⟩) (by assumption) ?r66
  case h66 => (intro w hSw; (try dsimp only at hSw); go_simp; try with_reducible rfl)
  try simp only [Act.put, List.setIfInBounds_toArray, List.set_cons_zero, List.set_cons_succ]
  refine wpAnyH_take (i := 9) (oi := { dst := some 67, op := Go.Op.load 3 (Go.Operand.tmp 66), type := 3, pos := "ref.go:173", after := #[{ on := 8, ground := Go.Ground.data }], guard := none }) (v := ?v67) rfl (by kernel_rfl) (by kernel_rfl) (by kernel_rfl) (fun _ _ _ h => h) (Or.inl ⟨by kernel_rfl, ?h67⟩) (by assumption) ?r67
  case h67 => (intro w hSw; (try dsimp only at hSw); go_simp; try with_reducible rfl)
  try simp only [Act.put, List.setIfInBounds_toArray, List.set_cons_zero, List.set_cons_succ]
  refine wpAnyH_ready (rs := [5]) (by kernel_rfl) (by simp) ?_
  refine AllReadyH.cons (o := { dst := some 63, op := Go.Op.call { callee := Go.Callee.value (Go.Operand.func 52), args := #[Go.Operand.tmp 58, Go.Operand.tmp 60, Go.Operand.tmp 62], argTypes := #[22, 3, 3] }, type := 9, pos := "ref.go:173", after := #[{ on := 0, ground := Go.Ground.data }, { on := 2, ground := Go.Ground.data }, { on := 4, ground := Go.Ground.data }], guard := none }) rfl (fun K hK => ?_) AllReadyH.nil
  go_simp
  with_reducible refine (q1.out _ (V.out.below hHeld)).mono ?_
  rintro e t5 ⟨rfl, b5⟩
  go_simp
  refine hK.out _ _ (hHeld.trans (b5.mono hHeld.size)) (fun hHeld => ?_)
  clear hK K
  try simp only [Act.put, List.setIfInBounds_toArray, List.set_cons_zero, List.set_cons_succ]
  refine wpAnyH_take (i := 6) (oi := { dst := some 64, op := Go.Op.binOp Go.BinOp.add 9 (Go.Operand.const (Go.Value.string { data := #[99, 104, 101, 99, 107, 32] })) (Go.Operand.tmp 63) 9, type := 9, pos := "ref.go:173", after := #[{ on := 5, ground := Go.Ground.data }], guard := none }) (v := ?v68) rfl (by kernel_rfl) (by kernel_rfl) (by kernel_rfl) (fun _ _ _ h => h) (Or.inl ⟨by kernel_rfl, ?h68⟩) (by assumption) ?r68
  case h68 => (intro w hSw; (try dsimp only at hSw); go_simp; try with_reducible rfl)
  try simp only [Act.put, List.setIfInBounds_toArray, List.set_cons_zero, List.set_cons_succ]
  refine wpAnyH_take (i := 7) (oi := { dst := some 65, op := Go.Op.binOp Go.BinOp.add 9 (Go.Operand.tmp 64) (Go.Operand.const (Go.Value.string { data := #[32, 60, 61, 32] })) 9, type := 9, pos := "ref.go:173", after := #[{ on := 6, ground := Go.Ground.data }], guard := none }) (v := ?v69) rfl (by kernel_rfl) (by kernel_rfl) (by kernel_rfl) (fun _ _ _ h => h) (Or.inl ⟨by kernel_rfl, ?h69⟩) (by assumption) ?r69
  case h69 => (intro w hSw; (try dsimp only at hSw); go_simp; try with_reducible rfl)
  try simp only [Act.put, List.setIfInBounds_toArray, List.set_cons_zero, List.set_cons_succ]
  refine wpAnyH_ready (rs := [10]) (by kernel_rfl) (by simp) ?_
  refine AllReadyH.cons (o := { dst := some 68, op := Go.Op.call { callee := Go.Callee.value (Go.Operand.func 51), args := #[Go.Operand.tmp 67], argTypes := #[3] }, type := 9, pos := "ref.go:173", after := #[{ on := 9, ground := Go.Ground.data }, { on := 5, ground := Go.Ground.chain }], guard := none }) rfl (fun K hK => ?_) AllReadyH.nil
  go_simp
  with_reducible refine (q2.out _).mono ?_
  rintro e t10 ⟨rfl, b10⟩
  go_simp
  refine hK.out _ _ (hHeld.trans (b10.mono hHeld.size)) (fun hHeld => ?_)
  clear hK K
  try simp only [Act.put, List.setIfInBounds_toArray, List.set_cons_zero, List.set_cons_succ]
  refine wpAnyH_take (i := 11) (oi := { dst := some 69, op := Go.Op.binOp Go.BinOp.add 9 (Go.Operand.tmp 65) (Go.Operand.tmp 68) 9, type := 9, pos := "ref.go:173", after := #[{ on := 7, ground := Go.Ground.data }, { on := 10, ground := Go.Ground.data }], guard := none }) (v := ?v70) rfl (by kernel_rfl) (by kernel_rfl) (by kernel_rfl) (fun _ _ _ h => h) (Or.inl ⟨by kernel_rfl, ?h70⟩) (by assumption) ?r70
  case h70 => (intro w hSw; (try dsimp only at hSw); go_simp; try with_reducible rfl)
  try simp only [Act.put, List.setIfInBounds_toArray, List.set_cons_zero, List.set_cons_succ]
  refine wpAnyH_take (i := 12) (oi := { dst := some 4, op := Go.Op.assign (Go.Operand.tmp 69), type := 9, pos := "ref.go:173", after := #[{ on := 11, ground := Go.Ground.data }, { on := 10, ground := Go.Ground.chain }, { on := 0, ground := Go.Ground.phase }, { on := 1, ground := Go.Ground.phase }, { on := 2, ground := Go.Ground.phase }, { on := 3, ground := Go.Ground.phase }, { on := 4, ground := Go.Ground.phase }, { on := 5, ground := Go.Ground.phase }, { on := 6, ground := Go.Ground.phase }, { on := 7, ground := Go.Ground.phase }, { on := 8, ground := Go.Ground.phase }, { on := 9, ground := Go.Ground.phase }, { on := 10, ground := Go.Ground.phase }, { on := 11, ground := Go.Ground.phase }], guard := none }) (v := ?v71) rfl (by kernel_rfl) (by kernel_rfl) (by kernel_rfl) (fun _ _ _ h => h) (Or.inl ⟨by kernel_rfl, ?h71⟩) (by assumption) ?r71
  case h71 => (intro w hSw; (try dsimp only at hSw); go_simp; try with_reducible rfl)
  try simp only [Act.put, List.setIfInBounds_toArray, List.set_cons_zero, List.set_cons_succ]
  refine wpAnyH_done (by kernel_rfl) ?_ _
  go_wp2
  go_ret
  rw [hR.out]
  exact ⟨rfl, BL.out.trans (hHeld.mono BL.out.size)⟩
theorem rshow_any (a : Option Addr) (n cp : Nat) (l : List ByteArray) (hl : ∀ s ∈ l, s.size ≤ 32) (k x y c d : Int) (hr : rightB k x y c d (n : Int) = true) (w : World) (h : TT w a n cp l) : Calls Tryz.prog 25 #[.slice a n cp, .agg #[.int .i64 k, .int .i64 x, .int .i64 y, .int .i64 c, .int .i64 d]] w (Gives (.string (stmtT l k x y c d)) w) := by
  obtain ⟨k0, k5⟩ := right_kind hr
  rcases (show k = 1 ∨ k = 2 ∨ k = 3 ∨ k = 4 ∨ k = 5 by omega) with rfl | rfl | rfl | rfl | rfl
  · exact rshow_1 a n cp l hl x y c d hr w h
  · exact rshow_2 a n cp l hl x y c d hr w h
  · exact rshow_3 a n cp l hl x y c d hr w h
  · exact rshow_4 a n cp l hl x y c d hr w h
  · exact rshow_5 a n cp l hl x y c d hr w h
end Go.Proofs.YtgeliikfgnkppaaGreatDoor
namespace Go.Proofs.YtgeliikfgnkppaaGreatDoor
open Go.RowKit
set_option linter.unusedVariables false
def SeesC (B : Nat) (w : World) (a : Option Addr) (cs : List Value) : Prop :=
  cs = [] ∨ ∃ b off, a = some ⟨b, off, none⟩ ∧ b < B ∧ ∀ i u, cs[i]? = some u → w.cell? ⟨b, off + i, none⟩ = some u
theorem SeesC.below {B : Nat} {w w' : World} {a : Option Addr} {cs : List Value} (h : SeesC B w a cs) (hb : Below B w w') : SeesC B w' a cs := by
  rcases h with h | ⟨b, off, rfl, hB, hc⟩
  · exact .inl h
  · exact .inr ⟨b, off, rfl, hB, fun i u hu => (hb.cell (p := ⟨b, off + i, none⟩) hB).trans (hc i u hu)⟩
theorem SeesC.mono {B B' : Nat} {w : World} {a : Option Addr} {cs : List Value} (h : SeesC B w a cs) (hb : B ≤ B') : SeesC B' w a cs := by
  rcases h with h | ⟨b, off, rfl, hB, hc⟩
  · exact .inl h
  · exact .inr ⟨b, off, rfl, by omega, hc⟩
theorem add_at (b off i : Nat) : (⟨b, off, none⟩ : Addr).add i = ⟨b, off + i, none⟩ := by unfold Addr.add; split <;> simp_all
theorem seesC_lit (w : World) (e : TypeId) (cs : Array Value) (fr : Nat × Nat := (0, 0)) : SeesC (w.alloc (.cells cs e fr)).heap.size (w.alloc (.cells cs e fr)) (some ⟨w.heap.size, 0, none⟩) cs.toList := by
  refine .inr ⟨w.heap.size, 0, rfl, by simp, fun i u hu => ?_⟩
  rw [cell_of_row _ _ _ _ _ _ (heap_alloc_new w _)]
  simpa using hu
theorem flat_at {α : Type} {f : α → List Value} {k : Nat} (hk : ∀ x, (f x).length = k) : ∀ (l : List α) (i j : Nat), j < k → (l.flatMap f)[i * k + j]? = (l[i]?).bind fun x => (f x)[j]?
  | [], i, j, _ => by simp
  | x :: l, 0, j, hj => by simp [List.getElem?_append, hk, hj]
  | x :: l, i + 1, j, hj => by
    have ih := flat_at hk l i j hj
    rw [List.flatMap_cons, List.getElem?_append_right (by rw [hk, Nat.succ_mul]; omega), hk, show (i + 1) * k + j - k = i * k + j by rw [Nat.succ_mul]; omega, ih]
    simp
theorem flat_len {α : Type} {f : α → List Value} {k : Nat} (hk : ∀ x, (f x).length = k) : ∀ (l : List α), (l.flatMap f).length = l.length * k
  | [] => by simp
  | x :: l => by rw [List.flatMap_cons, List.length_append, flat_len hk l, hk, List.length_cons, Nat.succ_mul]; omega
theorem own_cells (w : World) (e : TypeId) (size n : Nat) (cs : Array Value) (hn : cs.size = n * size) (hm : n ≤ maxLen) : (w.alloc (.cells cs e)).ownsRow w.heap.size e size (.slice (some ⟨w.heap.size, 0, none⟩) n n) n cs.toList :=
  ⟨by simpa using hn, .inr ⟨w.heap.size, n, cs, rfl, Nat.le_refl _, heap_alloc_new w _, Nat.le_refl _, hm, hn, by rw [List.take_of_length_le (by simp; omega)]⟩⟩
end Go.Proofs.YtgeliikfgnkppaaGreatDoor
namespace Go.Proofs.YtgeliikfgnkppaaGreatDoor
open Go.RowKit
set_option linter.unusedVariables false
set_option linter.unusedSimpArgs false
def otherR (r : Nat) : Bool := !fileI (r : Int)
theorem idx_file (s : ByteArray) : ∀ f pos, s.size ≤ pos + f → (∀ t, t < pos → fileI ((codes s).getD t 0) = true) → decide (0 ≤ Lib.idxFuncFrom otherR true s f pos) = !allF s
  | 0, pos, hf, hal => by
    rw [allF_yes (fun t ht => hal t (by omega))]
    unfold Lib.idxFuncFrom
    rfl
  | f + 1, pos, hf, hal => by
    unfold Lib.idxFuncFrom
    by_cases hp : pos < s.size
    · rw [if_pos hp]
      have hat := codes_at s pos hp
      by_cases ha : (s[pos]'hp).toNat < 128
      · rw [decode_ascii s pos hp ha]
        cases hfi : fileI ((codes s).getD pos 0)
        · have h1 : otherR (s[pos]'hp).toNat = true := by unfold otherR; rw [← hat, hfi]; rfl
          rw [allF_no hp hfi]; simp [h1]
        · have h1 : otherR (s[pos]'hp).toNat = false := by unfold otherR; rw [← hat, hfi]; rfl
          have hn : ∀ t, t < pos + 1 → fileI ((codes s).getD t 0) = true := fun t ht => by
            by_cases e : t = pos
            · rw [e]; exact hfi
            · exact hal t (by omega)
          have ih := idx_file s f (pos + 1) (by omega) hn
          simp [ih, h1]
      · have hd := (decode_high s pos hp (by omega)).1
        have h1 : otherR (Utf8.decode s pos).1 = true := by unfold otherR; rw [file_high (by omega)]; rfl
        rw [h1, allF_no hp (file_high (by rw [hat]; omega))]
        simp
    · rw [if_neg hp, allF_yes (fun t ht => hal t (by omega))]
      rfl
set_option maxRecDepth 100000 in
theorem other_any (c : Int) (w : World) : Calls Tryz.prog 85 #[.int .i32 c] w (SetTo (.bool (!fileI c)) w) := by
  have q := Lib.hid (nameRune_any c w)
  cases hm : moreI c
  · have hR : Hid (fileI c = (decide (c = 45) || decide (c = 47))) := Lib.hid (by unfold fileI; rw [hm, Bool.false_or])
    rw [hm] at q
    clear hm
    generalize fileI c = R at *
    by_cases h1 : c = 45
    · have hF : Hid ((!R) = false) := Lib.hid (by rw [hR.out, decide_eq_true h1]; rfl)
      have h1b : (c != 45) = false := by simpa using h1
      clear hR h1
      go_enter Tryz.func85, Tryz.ntmps85
      go_wp2_with fail
      refine q.out.mono ?_
      rintro e w1 ⟨rfl, rfl⟩
      go_wp2
      go_ret
      exact ⟨ret_bool hF.out.symm, rfl⟩
    · have hF : Hid ((c != 47) = !R) := Lib.hid (by rw [hR.out, decide_eq_false h1, Bool.false_or, Bool.eq_iff_iff]; simp)
      have h1b : (c != 45) = true := by simpa using h1
      clear hR h1
      go_enter Tryz.func85, Tryz.ntmps85
      go_wp2_with fail
      refine q.out.mono ?_
      rintro e w1 ⟨rfl, rfl⟩
      go_wp2
      go_ret
      exact ⟨ret_bool hF.out, rfl⟩
  · have hR : Hid ((!fileI c) = false) := Lib.hid (by unfold fileI; rw [hm, Bool.true_or]; rfl)
    rw [hm] at q
    clear hm
    generalize (!fileI c) = R at *
    go_enter Tryz.func85, Tryz.ntmps85
    go_wp2_with fail
    refine q.out.mono ?_
    rintro e w1 ⟨rfl, rfl⟩
    go_wp2
    go_ret
    exact ⟨ret_bool hR.out.symm, rfl⟩
theorem contains_file (s : ByteArray) (w : World) : Calls Tryz.prog 87 #[.string s, .func (.func 85) #[] #[]] w (Gives (.bool (!allF s)) w) := by
  have h := Tryz.strings_ContainsFunc_grows 85 #[] (fun args w => by kernel_rfl) otherR s w (fun W x hx hb => (other_any (x : Int) W).mono (fun e w' h => ⟨h.1, by rw [← h.2]; exact Below.refl _ _⟩))
  rw [show decide (0 ≤ Lib.idxFunc otherR true s) = !allF s from idx_file s s.size 0 (by omega) (fun t ht => by omega)] at h
  exact h
set_option maxRecDepth 100000 in
theorem fileName_any (s : ByteArray) (w : World) : Calls Tryz.prog 57 #[.string s] w (Gives (.bool (fileB s)) w) := by
  by_cases h0 : s.size ≤ 64
  · have h0i : (s.size : Int) ≤ 64 := by omega
    have q1 := Lib.hid (begins_any s w)
    have q2 := Lib.hid (contains_file s w)
    cases hb : begB s
    · have hR : Hid (fileB s = false) := Lib.hid (by unfold fileB; rw [hb, Bool.false_and, Bool.and_false])
      rw [hb] at q1
      clear hb
      go_enter Tryz.func57, Tryz.ntmps57
      go_wp2_with fail
      refine q1.out.mono ?_
      rintro e w1 ⟨rfl, rfl⟩
      go_wp2
      go_ret
      exact ⟨ret_bool hR.out.symm, Below.refl _ _⟩
    · have hR : Hid (fileB s = allF s) := Lib.hid (by unfold fileB; rw [hb, decide_eq_true h0, Bool.true_and, Bool.true_and])
      rw [hb] at q1
      clear hb
      generalize fileB s = R at *
      generalize allF s = k at *
      go_enter Tryz.func57, Tryz.ntmps57
      go_wp2_with fail
      refine q1.out.mono ?_
      rintro e w1 ⟨rfl, rfl⟩
      go_wp2_with fail
      refine q2.out.mono ?_
      rintro e w2 ⟨rfl, hb2⟩
      go_wp2
      go_ret
      exact ⟨ret_bool (by rw [hR.out]; try (cases k <;> rfl)), hb2⟩
  · have h0i : ¬ (s.size : Int) ≤ 64 := by omega
    have hR : Hid (fileB s = false) := Lib.hid (by unfold fileB; rw [decide_eq_false h0, Bool.false_and])
    go_enter Tryz.func57, Tryz.ntmps57
    go_wp2
    go_ret
    exact ⟨ret_bool hR.out.symm, Below.refl _ _⟩
end Go.Proofs.YtgeliikfgnkppaaGreatDoor
namespace Go.Proofs.YtgeliikfgnkppaaGreatDoor
open Go.RowKit
set_option linter.unusedVariables false
structure RO {α : Type} (f : α → List Value) (w : World) (a : Option Addr) (n c : Nat) (l : List α) : Prop where
  len : n = l.length
  cap : n ≤ c
  max : c ≤ maxLen
  sees : SeesC w.heap.size w a (l.flatMap f)
theorem RO.below {α : Type} {f : α → List Value} {w w' : World} {a : Option Addr} {n c : Nat} {l : List α} (h : RO f w a n c l) (hb : Below w.heap.size w w') : RO f w' a n c l := ⟨h.len, h.cap, h.max, (h.sees.below hb).mono hb.size⟩
theorem RO.drewN {α : Type} {f : α → List Value} {w : World} {a : Option Addr} {n c : Nat} {l : List α} (h : RO f w a n c l) (m : Nat) : RO f (w.drewN m) a n c l := ⟨h.len, h.cap, h.max, h.sees⟩
theorem RO.nil {α : Type} {f : α → List Value} (w : World) : RO f w none 0 0 [] := ⟨rfl, Nat.le_refl _, by simp, .inl rfl⟩
theorem RO.max' {α : Type} {f : α → List Value} {w : World} {a : Option Addr} {n c : Nat} {l : List α} (h : RO f w a n c l) : n ≤ 9223372036854775807 := by
  have h1 := h.cap
  have h2 := h.max
  unfold maxLen at h2
  omega
theorem RO.at_ {α : Type} {f : α → List Value} {k : Nat} (hk : ∀ x, (f x).length = k) (h0 : 0 < k) {w : World} {a : Option Addr} {n c : Nat} {l : List α} (h : RO f w a n c l) (d : α) {i : Nat} (hi : i < n) :
    ∃ b off, a = some ⟨b, off, none⟩ ∧ b < w.heap.size ∧ ∀ j, j < k → w.cell? ⟨b, off + (i * k + j), none⟩ = (f (l.getD i d))[j]? := by
  have hl : i < l.length := by rw [← h.len]; exact hi
  rcases h.sees with e | ⟨b, off, rfl, hB, hc⟩
  · have h1 := congrArg List.length e
    rw [flat_len hk] at h1
    have h2 : 0 < l.length * k := Nat.mul_pos (by omega) h0
    simp at h1
    have : l.length * k = 0 := by simp [h1]
    omega
  · refine ⟨b, off, rfl, hB, fun j hj => ?_⟩
    have h1 : (l.flatMap f)[i * k + j]? = (f (l.getD i d))[j]? := by
      rw [flat_at hk l i j hj]
      simp [List.getD, hl]
    have h2 : j < (f (l.getD i d)).length := by rw [hk]; exact hj
    rw [List.getElem?_eq_getElem h2] at h1 ⊢
    exact hc _ _ h1
end Go.Proofs.YtgeliikfgnkppaaGreatDoor
namespace Go.Proofs.YtgeliikfgnkppaaGreatDoor
open Go.RowKit Go.ChangeShapes Go.WideShapes Go.Deep
set_option linter.unusedVariables false
set_option linter.unusedSimpArgs false
structure SpotD where
  fn : ByteArray
  file : ByteArray
  line : Int
structure EdgeD where
  frm : Int
  dst : Int
  k : Int
  x : Int
  y : Int
  c : Int
  d : Int
deriving DecidableEq
structure PD where
  nm : ByteArray
  vars : List ByteArray
  spots : List SpotD
  edges : List EdgeD
def spot0 : SpotD := ⟨e0, e0, 0⟩
def edge0 : EdgeD := ⟨0, 0, 0, 0, 0, 0, 0⟩
def spotC (s : SpotD) : List Value := [.string s.fn, .string s.file, .int .i64 s.line]
def edgeC (e : EdgeD) : List Value := [.int .i64 e.frm, .int .i64 e.dst, .int .i64 e.k, .int .i64 e.x, .int .i64 e.y, .int .i64 e.c, .int .i64 e.d]
theorem spotC_len (s : SpotD) : (spotC s).length = 3 := rfl
theorem edgeC_len (e : EdgeD) : (edgeC e).length = 7 := rfl
structure PV where
  nm : ByteArray
  a1 : Option Addr
  n1 : Nat
  c1 : Nat
  a2 : Option Addr
  n2 : Nat
  c2 : Nat
  a3 : Option Addr
  n3 : Nat
  c3 : Nat
abbrev PV.cells (p : PV) : Array Value := #[.string p.nm, .slice p.a1 p.n1 p.c1, .slice p.a2 p.n2 p.c2, .slice p.a3 p.n3 p.c3]
structure PrA (w : World) (p : PV) (D : PD) : Prop where
  nm : p.nm = D.nm
  vars : TT w p.a1 p.n1 p.c1 D.vars
  spots : RO spotC w p.a2 p.n2 p.c2 D.spots
  edges : RO edgeC w p.a3 p.n3 p.c3 D.edges
theorem PrA.below {w w' : World} {p : PV} {D : PD} (h : PrA w p D) (hb : Below w.heap.size w w') : PrA w' p D := ⟨h.nm, h.vars.below hb, h.spots.below hb, h.edges.below hb⟩
theorem PrA.drewN {w : World} {p : PV} {D : PD} (h : PrA w p D) (n : Nat) : PrA (w.drewN n) p D := h.below (Below.drewN (Below.refl _ _) n)
end Go.Proofs.YtgeliikfgnkppaaGreatDoor
namespace Go.Proofs.YtgeliikfgnkppaaGreatDoor
open Go.RowKit
set_option linter.unusedVariables false
set_option linter.unusedSimpArgs false
def spotB (s : SpotD) : Bool := nameB s.fn && (fileB s.file && (decide (1 ≤ s.line) && decide (s.line ≤ 1048576)))
def pointB (n : Nat) (x : Int) : Bool := decide (0 ≤ x) && decide (x < (n : Int))
def edgeB (n m : Nat) (e : EdgeD) : Bool := pointB n e.frm && (pointB n e.dst && rightB e.k e.x e.y e.c e.d (m : Int))
set_option maxRecDepth 100000 in
set_option maxHeartbeats 1000000 in
theorem rightSpot_any (s f : ByteArray) (x : Int) (w : World) : Calls Tryz.prog 29 #[.agg #[.string s, .string f, .int .i64 x]] w (Gives (.bool (spotB ⟨s, f, x⟩)) w) := by
  have hR : Hid (spotB ⟨s, f, x⟩ = (nameB s && (fileB f && (decide (1 ≤ x) && decide (x ≤ 1048576))))) := Lib.hid rfl
  have q1 := Lib.hid (fun W => name_any s W)
  have q2 := Lib.hid (fun W => fileName_any f W)
  generalize spotB ⟨s, f, x⟩ = R at *
  cases e1 : nameB s
  · rw [e1] at q1
    have hF : Hid (R = false) := Lib.hid (by rw [hR.out]; rw [e1]; rfl)
    clear hR
    obtain ⟨W1, hW1⟩ : ∃ W1, W1 = w.alloc (.cells #[.string s, .string f, .int .i64 x] 54) := ⟨_, rfl⟩
    have Z : Hid (Holds W1 (w.heap.size) 54 #[.string s, .string f, .int .i64 x]) := Lib.hid (by rw [hW1]; exact Holds.new w _ _)
    have BL := Lib.hid (show Below w.heap.size w W1 by rw [hW1]; exact box_below _ _ _)
    have hW1' := Lib.hid hW1
    clear hW1
    go_enter Tryz.func29, Tryz.ntmps29
    have k1 := Z.out.cell 0
    have k2 := Z.out.cell 1
    have k3 := Z.out.cell 2
    have q := Lib.hid (q1.out W1)
    go_wp2_with fail
    rw [← hW1'.out]
    with_reducible refine q.out.mono ?_
    rintro e u1 ⟨rfl, b1⟩
    clear k1 k2 k3
    clear hW1'
    clear q
    have k4 : u1.cell? ⟨w.heap.size, 0, none⟩ = some (.string s) := (Z.out.below b1 Z.out.lt).cell 0
    have k5 : u1.cell? ⟨w.heap.size, 1, none⟩ = some (.string f) := (Z.out.below b1 Z.out.lt).cell 1
    have k6 : u1.cell? ⟨w.heap.size, 2, none⟩ = some (.int .i64 x) := (Z.out.below b1 Z.out.lt).cell 2
    replace Z := Lib.hid (Z.out.below b1 Z.out.lt)
    replace BL := Lib.hid (BL.out.trans (b1.mono BL.out.size))
    clear b1
    go_wp2
    go_ret
    exact ⟨ret_bool hF.out.symm, BL.out⟩
  rw [e1] at q1
  cases e2 : fileB f
  · rw [e2] at q2
    have hF : Hid (R = false) := Lib.hid (by rw [hR.out]; rw [e1, e2]; rfl)
    clear hR
    obtain ⟨W1, hW1⟩ : ∃ W1, W1 = w.alloc (.cells #[.string s, .string f, .int .i64 x] 54) := ⟨_, rfl⟩
    have Z : Hid (Holds W1 (w.heap.size) 54 #[.string s, .string f, .int .i64 x]) := Lib.hid (by rw [hW1]; exact Holds.new w _ _)
    have BL := Lib.hid (show Below w.heap.size w W1 by rw [hW1]; exact box_below _ _ _)
    have hW1' := Lib.hid hW1
    clear hW1
    go_enter Tryz.func29, Tryz.ntmps29
    have k1 := Z.out.cell 0
    have k2 := Z.out.cell 1
    have k3 := Z.out.cell 2
    have q := Lib.hid (q1.out W1)
    go_wp2_with fail
    rw [← hW1'.out]
    with_reducible refine q.out.mono ?_
    rintro e u1 ⟨rfl, b1⟩
    clear k1 k2 k3
    clear hW1'
    clear q
    have k4 : u1.cell? ⟨w.heap.size, 0, none⟩ = some (.string s) := (Z.out.below b1 Z.out.lt).cell 0
    have k5 : u1.cell? ⟨w.heap.size, 1, none⟩ = some (.string f) := (Z.out.below b1 Z.out.lt).cell 1
    have k6 : u1.cell? ⟨w.heap.size, 2, none⟩ = some (.int .i64 x) := (Z.out.below b1 Z.out.lt).cell 2
    replace Z := Lib.hid (Z.out.below b1 Z.out.lt)
    replace BL := Lib.hid (BL.out.trans (b1.mono BL.out.size))
    clear b1
    have q := Lib.hid (q2.out u1)
    go_wp2_with fail
    with_reducible refine q.out.mono ?_
    rintro e u2 ⟨rfl, b2⟩
    clear k4 k5 k6
    clear q
    have k7 : u2.cell? ⟨w.heap.size, 0, none⟩ = some (.string s) := (Z.out.below b2 Z.out.lt).cell 0
    have k8 : u2.cell? ⟨w.heap.size, 1, none⟩ = some (.string f) := (Z.out.below b2 Z.out.lt).cell 1
    have k9 : u2.cell? ⟨w.heap.size, 2, none⟩ = some (.int .i64 x) := (Z.out.below b2 Z.out.lt).cell 2
    replace Z := Lib.hid (Z.out.below b2 Z.out.lt)
    replace BL := Lib.hid (BL.out.trans (b2.mono BL.out.size))
    clear b2
    go_wp2
    go_ret
    exact ⟨ret_bool hF.out.symm, BL.out⟩
  rw [e2] at q2
  by_cases h1 : 1 ≤ x
  · have hF : Hid (R = decide (x ≤ 1048576)) := Lib.hid (by rw [hR.out]; rw [e1, e2, decide_eq_true h1]; rfl)
    clear hR
    obtain ⟨W1, hW1⟩ : ∃ W1, W1 = w.alloc (.cells #[.string s, .string f, .int .i64 x] 54) := ⟨_, rfl⟩
    have Z : Hid (Holds W1 (w.heap.size) 54 #[.string s, .string f, .int .i64 x]) := Lib.hid (by rw [hW1]; exact Holds.new w _ _)
    have BL := Lib.hid (show Below w.heap.size w W1 by rw [hW1]; exact box_below _ _ _)
    have hW1' := Lib.hid hW1
    clear hW1
    go_enter Tryz.func29, Tryz.ntmps29
    have k1 := Z.out.cell 0
    have k2 := Z.out.cell 1
    have k3 := Z.out.cell 2
    have q := Lib.hid (q1.out W1)
    go_wp2_with fail
    rw [← hW1'.out]
    with_reducible refine q.out.mono ?_
    rintro e u1 ⟨rfl, b1⟩
    clear k1 k2 k3
    clear hW1'
    clear q
    have k4 : u1.cell? ⟨w.heap.size, 0, none⟩ = some (.string s) := (Z.out.below b1 Z.out.lt).cell 0
    have k5 : u1.cell? ⟨w.heap.size, 1, none⟩ = some (.string f) := (Z.out.below b1 Z.out.lt).cell 1
    have k6 : u1.cell? ⟨w.heap.size, 2, none⟩ = some (.int .i64 x) := (Z.out.below b1 Z.out.lt).cell 2
    replace Z := Lib.hid (Z.out.below b1 Z.out.lt)
    replace BL := Lib.hid (BL.out.trans (b1.mono BL.out.size))
    clear b1
    have q := Lib.hid (q2.out u1)
    go_wp2_with fail
    with_reducible refine q.out.mono ?_
    rintro e u2 ⟨rfl, b2⟩
    clear k4 k5 k6
    clear q
    have k7 : u2.cell? ⟨w.heap.size, 0, none⟩ = some (.string s) := (Z.out.below b2 Z.out.lt).cell 0
    have k8 : u2.cell? ⟨w.heap.size, 1, none⟩ = some (.string f) := (Z.out.below b2 Z.out.lt).cell 1
    have k9 : u2.cell? ⟨w.heap.size, 2, none⟩ = some (.int .i64 x) := (Z.out.below b2 Z.out.lt).cell 2
    replace Z := Lib.hid (Z.out.below b2 Z.out.lt)
    replace BL := Lib.hid (BL.out.trans (b2.mono BL.out.size))
    clear b2
    go_wp2
    go_ret
    exact ⟨ret_bool hF.out.symm, BL.out⟩
  · have hF : Hid (R = false) := Lib.hid (by rw [hR.out]; rw [e1, e2, decide_eq_false h1]; rfl)
    clear hR
    obtain ⟨W1, hW1⟩ : ∃ W1, W1 = w.alloc (.cells #[.string s, .string f, .int .i64 x] 54) := ⟨_, rfl⟩
    have Z : Hid (Holds W1 (w.heap.size) 54 #[.string s, .string f, .int .i64 x]) := Lib.hid (by rw [hW1]; exact Holds.new w _ _)
    have BL := Lib.hid (show Below w.heap.size w W1 by rw [hW1]; exact box_below _ _ _)
    have hW1' := Lib.hid hW1
    clear hW1
    go_enter Tryz.func29, Tryz.ntmps29
    have k1 := Z.out.cell 0
    have k2 := Z.out.cell 1
    have k3 := Z.out.cell 2
    have q := Lib.hid (q1.out W1)
    go_wp2_with fail
    rw [← hW1'.out]
    with_reducible refine q.out.mono ?_
    rintro e u1 ⟨rfl, b1⟩
    clear k1 k2 k3
    clear hW1'
    clear q
    have k4 : u1.cell? ⟨w.heap.size, 0, none⟩ = some (.string s) := (Z.out.below b1 Z.out.lt).cell 0
    have k5 : u1.cell? ⟨w.heap.size, 1, none⟩ = some (.string f) := (Z.out.below b1 Z.out.lt).cell 1
    have k6 : u1.cell? ⟨w.heap.size, 2, none⟩ = some (.int .i64 x) := (Z.out.below b1 Z.out.lt).cell 2
    replace Z := Lib.hid (Z.out.below b1 Z.out.lt)
    replace BL := Lib.hid (BL.out.trans (b1.mono BL.out.size))
    clear b1
    have q := Lib.hid (q2.out u1)
    go_wp2_with fail
    with_reducible refine q.out.mono ?_
    rintro e u2 ⟨rfl, b2⟩
    clear k4 k5 k6
    clear q
    have k7 : u2.cell? ⟨w.heap.size, 0, none⟩ = some (.string s) := (Z.out.below b2 Z.out.lt).cell 0
    have k8 : u2.cell? ⟨w.heap.size, 1, none⟩ = some (.string f) := (Z.out.below b2 Z.out.lt).cell 1
    have k9 : u2.cell? ⟨w.heap.size, 2, none⟩ = some (.int .i64 x) := (Z.out.below b2 Z.out.lt).cell 2
    replace Z := Lib.hid (Z.out.below b2 Z.out.lt)
    replace BL := Lib.hid (BL.out.trans (b2.mono BL.out.size))
    clear b2
    go_wp2
    go_ret
    exact ⟨ret_bool hF.out.symm, BL.out⟩
set_option maxRecDepth 100000 in
set_option maxHeartbeats 1000000 in
theorem badSpot_any (s f : ByteArray) (x : Int) (w : World) : Calls Tryz.prog 28 #[.agg #[.string s, .string f, .int .i64 x]] w (Gives (.bool (!spotB ⟨s, f, x⟩)) w) := by
  have q1 := Lib.hid (fun W => rightSpot_any s f x W)
  generalize spotB ⟨s, f, x⟩ = R at *
  obtain ⟨W1, hW1⟩ : ∃ W1, W1 = w.alloc (.cells #[.string s, .string f, .int .i64 x] 54) := ⟨_, rfl⟩
  have Z : Hid (Holds W1 (w.heap.size) 54 #[.string s, .string f, .int .i64 x]) := Lib.hid (by rw [hW1]; exact Holds.new w _ _)
  have BL := Lib.hid (show Below w.heap.size w W1 by rw [hW1]; exact box_below _ _ _)
  have hW1' := Lib.hid hW1
  clear hW1
  go_enter Tryz.func28, Tryz.ntmps28
  have k1 := Z.out.cell 0
  have k2 := Z.out.cell 1
  have k3 := Z.out.cell 2
  have q := Lib.hid (q1.out W1)
  go_wp2_with fail
  rw [← hW1'.out]
  with_reducible refine q.out.mono ?_
  rintro e u1 ⟨rfl, b1⟩
  clear k1 k2 k3
  clear hW1'
  clear q
  replace Z := Lib.hid (Z.out.below b1 Z.out.lt)
  replace BL := Lib.hid (BL.out.trans (b1.mono BL.out.size))
  clear b1
  go_wp2
  go_ret
  exact ⟨rfl, BL.out⟩
set_option maxRecDepth 100000 in
theorem isPoint_any (p : PV) (x : Int) (w : World) : Calls Tryz.prog 58 #[.agg #[.string p.nm, .slice p.a1 p.n1 p.c1, .slice p.a2 p.n2 p.c2, .slice p.a3 p.n3 p.c3], .int .i64 x] w (Gives (.bool (pointB p.n2 x)) w) := by
  have hR : Hid (pointB p.n2 x = (decide (0 ≤ x) && decide (x < (p.n2 : Int)))) := Lib.hid rfl
  have hB := Lib.hid (box_below w #[.string p.nm, .slice p.a1 p.n1 p.c1, .slice p.a2 p.n2 p.c2, .slice p.a3 p.n3 p.c3] 26)
  by_cases h : 0 ≤ x
  · have hF : Hid (pointB p.n2 x = decide (x < (p.n2 : Int))) := Lib.hid (by rw [hR.out, decide_eq_true h]; rfl)
    go_enter Tryz.func58, Tryz.ntmps58
    go_wp2
    go_ret
    exact ⟨ret_bool hF.out.symm, hB.out⟩
  · have hF : Hid (pointB p.n2 x = false) := Lib.hid (by rw [hR.out, decide_eq_false h]; rfl)
    go_enter Tryz.func58, Tryz.ntmps58
    go_wp2
    go_ret
    exact ⟨ret_bool hF.out.symm, hB.out⟩
set_option maxRecDepth 100000 in
set_option maxHeartbeats 1000000 in
theorem rightEdge_any (p : PV) (fr ds k x y c d : Int) (w : World) : Calls Tryz.prog 31 #[.agg #[.string p.nm, .slice p.a1 p.n1 p.c1, .slice p.a2 p.n2 p.c2, .slice p.a3 p.n3 p.c3], .agg #[.int .i64 fr, .int .i64 ds, .int .i64 k, .int .i64 x, .int .i64 y, .int .i64 c, .int .i64 d]] w (Gives (.bool (edgeB p.n2 p.n1 ⟨fr, ds, k, x, y, c, d⟩)) w) := by
  have hR : Hid (edgeB p.n2 p.n1 ⟨fr, ds, k, x, y, c, d⟩ = (pointB p.n2 fr && (pointB p.n2 ds && rightB k x y c d (p.n1 : Int)))) := Lib.hid rfl
  have q1 := Lib.hid (fun W => isPoint_any p fr W)
  have q2 := Lib.hid (fun W => isPoint_any p ds W)
  have q3 := Lib.hid (fun W => right_any k x y c d (p.n1 : Int) W)
  generalize edgeB p.n2 p.n1 ⟨fr, ds, k, x, y, c, d⟩ = R at *
  generalize rightB k x y c d (p.n1 : Int) = b3 at *
  generalize pointB p.n2 fr = b1 at *
  generalize pointB p.n2 ds = b2 at *
  cases b1
  · have hF : Hid (R = false) := Lib.hid (by rw [hR.out]; rfl)
    clear hR
    obtain ⟨W1, hW1⟩ : ∃ W1, W1 = (w.alloc (.cells #[.string p.nm, .slice p.a1 p.n1 p.c1, .slice p.a2 p.n2 p.c2, .slice p.a3 p.n3 p.c3] 26)).alloc (.cells #[.int .i64 fr, .int .i64 ds, .int .i64 k, .int .i64 x, .int .i64 y, .int .i64 c, .int .i64 d] 52) := ⟨_, rfl⟩
    have Z : Hid (Holds W1 (w.heap.size) 26 #[.string p.nm, .slice p.a1 p.n1 p.c1, .slice p.a2 p.n2 p.c2, .slice p.a3 p.n3 p.c3]) := Lib.hid (by rw [hW1]; exact (Holds.new w _ _).alloc _)
    have V : Hid (Holds W1 (w.heap.size + 1) 52 #[.int .i64 fr, .int .i64 ds, .int .i64 k, .int .i64 x, .int .i64 y, .int .i64 c, .int .i64 d]) := Lib.hid (by rw [hW1]; have := Holds.new (w.alloc (.cells #[.string p.nm, .slice p.a1 p.n1 p.c1, .slice p.a2 p.n2 p.c2, .slice p.a3 p.n3 p.c3] 26)) 52 #[.int .i64 fr, .int .i64 ds, .int .i64 k, .int .i64 x, .int .i64 y, .int .i64 c, .int .i64 d]; simpa using this)
    have BL := Lib.hid (show Below w.heap.size w W1 by rw [hW1]; exact box2_below _ _ _ _ _)
    have hW1' := Lib.hid hW1
    clear hW1
    go_enter Tryz.func31, Tryz.ntmps31
    have k1 := Z.out.cell 0
    have k2 := Z.out.cell 1
    have k3 := Z.out.cell 2
    have k4 := Z.out.cell 3
    have k5 := V.out.cell 0
    have k6 := V.out.cell 1
    have k7 := V.out.cell 2
    have k8 := V.out.cell 3
    have k9 := V.out.cell 4
    have k10 := V.out.cell 5
    have k11 := V.out.cell 6
    have q := Lib.hid (q1.out W1)
    go_wp2_with fail
    rw [← hW1'.out]
    with_reducible refine q.out.mono ?_
    rintro e u1 ⟨rfl, b1⟩
    clear k1 k2 k3 k4 k5 k6 k7 k8 k9 k10 k11
    clear hW1'
    clear q
    have k12 : u1.cell? ⟨w.heap.size, 0, none⟩ = some (.string p.nm) := (Z.out.below b1 Z.out.lt).cell 0
    have k13 : u1.cell? ⟨w.heap.size, 1, none⟩ = some (.slice p.a1 p.n1 p.c1) := (Z.out.below b1 Z.out.lt).cell 1
    have k14 : u1.cell? ⟨w.heap.size, 2, none⟩ = some (.slice p.a2 p.n2 p.c2) := (Z.out.below b1 Z.out.lt).cell 2
    have k15 : u1.cell? ⟨w.heap.size, 3, none⟩ = some (.slice p.a3 p.n3 p.c3) := (Z.out.below b1 Z.out.lt).cell 3
    have k16 : u1.cell? ⟨w.heap.size + 1, 0, none⟩ = some (.int .i64 fr) := (V.out.below b1 V.out.lt).cell 0
    have k17 : u1.cell? ⟨w.heap.size + 1, 1, none⟩ = some (.int .i64 ds) := (V.out.below b1 V.out.lt).cell 1
    have k18 : u1.cell? ⟨w.heap.size + 1, 2, none⟩ = some (.int .i64 k) := (V.out.below b1 V.out.lt).cell 2
    have k19 : u1.cell? ⟨w.heap.size + 1, 3, none⟩ = some (.int .i64 x) := (V.out.below b1 V.out.lt).cell 3
    have k20 : u1.cell? ⟨w.heap.size + 1, 4, none⟩ = some (.int .i64 y) := (V.out.below b1 V.out.lt).cell 4
    have k21 : u1.cell? ⟨w.heap.size + 1, 5, none⟩ = some (.int .i64 c) := (V.out.below b1 V.out.lt).cell 5
    have k22 : u1.cell? ⟨w.heap.size + 1, 6, none⟩ = some (.int .i64 d) := (V.out.below b1 V.out.lt).cell 6
    replace Z := Lib.hid (Z.out.below b1 Z.out.lt)
    replace V := Lib.hid (V.out.below b1 V.out.lt)
    replace BL := Lib.hid (BL.out.trans (b1.mono BL.out.size))
    clear b1
    go_wp2
    go_ret
    exact ⟨ret_bool hF.out.symm, BL.out⟩
  cases b2
  · have hF : Hid (R = false) := Lib.hid (by rw [hR.out]; rfl)
    clear hR
    obtain ⟨W1, hW1⟩ : ∃ W1, W1 = (w.alloc (.cells #[.string p.nm, .slice p.a1 p.n1 p.c1, .slice p.a2 p.n2 p.c2, .slice p.a3 p.n3 p.c3] 26)).alloc (.cells #[.int .i64 fr, .int .i64 ds, .int .i64 k, .int .i64 x, .int .i64 y, .int .i64 c, .int .i64 d] 52) := ⟨_, rfl⟩
    have Z : Hid (Holds W1 (w.heap.size) 26 #[.string p.nm, .slice p.a1 p.n1 p.c1, .slice p.a2 p.n2 p.c2, .slice p.a3 p.n3 p.c3]) := Lib.hid (by rw [hW1]; exact (Holds.new w _ _).alloc _)
    have V : Hid (Holds W1 (w.heap.size + 1) 52 #[.int .i64 fr, .int .i64 ds, .int .i64 k, .int .i64 x, .int .i64 y, .int .i64 c, .int .i64 d]) := Lib.hid (by rw [hW1]; have := Holds.new (w.alloc (.cells #[.string p.nm, .slice p.a1 p.n1 p.c1, .slice p.a2 p.n2 p.c2, .slice p.a3 p.n3 p.c3] 26)) 52 #[.int .i64 fr, .int .i64 ds, .int .i64 k, .int .i64 x, .int .i64 y, .int .i64 c, .int .i64 d]; simpa using this)
    have BL := Lib.hid (show Below w.heap.size w W1 by rw [hW1]; exact box2_below _ _ _ _ _)
    have hW1' := Lib.hid hW1
    clear hW1
    go_enter Tryz.func31, Tryz.ntmps31
    have k1 := Z.out.cell 0
    have k2 := Z.out.cell 1
    have k3 := Z.out.cell 2
    have k4 := Z.out.cell 3
    have k5 := V.out.cell 0
    have k6 := V.out.cell 1
    have k7 := V.out.cell 2
    have k8 := V.out.cell 3
    have k9 := V.out.cell 4
    have k10 := V.out.cell 5
    have k11 := V.out.cell 6
    have q := Lib.hid (q1.out W1)
    go_wp2_with fail
    rw [← hW1'.out]
    with_reducible refine q.out.mono ?_
    rintro e u1 ⟨rfl, b1⟩
    clear k1 k2 k3 k4 k5 k6 k7 k8 k9 k10 k11
    clear hW1'
    clear q
    have k12 : u1.cell? ⟨w.heap.size, 0, none⟩ = some (.string p.nm) := (Z.out.below b1 Z.out.lt).cell 0
    have k13 : u1.cell? ⟨w.heap.size, 1, none⟩ = some (.slice p.a1 p.n1 p.c1) := (Z.out.below b1 Z.out.lt).cell 1
    have k14 : u1.cell? ⟨w.heap.size, 2, none⟩ = some (.slice p.a2 p.n2 p.c2) := (Z.out.below b1 Z.out.lt).cell 2
    have k15 : u1.cell? ⟨w.heap.size, 3, none⟩ = some (.slice p.a3 p.n3 p.c3) := (Z.out.below b1 Z.out.lt).cell 3
    have k16 : u1.cell? ⟨w.heap.size + 1, 0, none⟩ = some (.int .i64 fr) := (V.out.below b1 V.out.lt).cell 0
    have k17 : u1.cell? ⟨w.heap.size + 1, 1, none⟩ = some (.int .i64 ds) := (V.out.below b1 V.out.lt).cell 1
    have k18 : u1.cell? ⟨w.heap.size + 1, 2, none⟩ = some (.int .i64 k) := (V.out.below b1 V.out.lt).cell 2
    have k19 : u1.cell? ⟨w.heap.size + 1, 3, none⟩ = some (.int .i64 x) := (V.out.below b1 V.out.lt).cell 3
    have k20 : u1.cell? ⟨w.heap.size + 1, 4, none⟩ = some (.int .i64 y) := (V.out.below b1 V.out.lt).cell 4
    have k21 : u1.cell? ⟨w.heap.size + 1, 5, none⟩ = some (.int .i64 c) := (V.out.below b1 V.out.lt).cell 5
    have k22 : u1.cell? ⟨w.heap.size + 1, 6, none⟩ = some (.int .i64 d) := (V.out.below b1 V.out.lt).cell 6
    replace Z := Lib.hid (Z.out.below b1 Z.out.lt)
    replace V := Lib.hid (V.out.below b1 V.out.lt)
    replace BL := Lib.hid (BL.out.trans (b1.mono BL.out.size))
    clear b1
    have q := Lib.hid (q2.out u1)
    go_wp2_with fail
    with_reducible refine q.out.mono ?_
    rintro e u2 ⟨rfl, b2⟩
    clear k12 k13 k14 k15 k16 k17 k18 k19 k20 k21 k22
    clear q
    have k23 : u2.cell? ⟨w.heap.size, 0, none⟩ = some (.string p.nm) := (Z.out.below b2 Z.out.lt).cell 0
    have k24 : u2.cell? ⟨w.heap.size, 1, none⟩ = some (.slice p.a1 p.n1 p.c1) := (Z.out.below b2 Z.out.lt).cell 1
    have k25 : u2.cell? ⟨w.heap.size, 2, none⟩ = some (.slice p.a2 p.n2 p.c2) := (Z.out.below b2 Z.out.lt).cell 2
    have k26 : u2.cell? ⟨w.heap.size, 3, none⟩ = some (.slice p.a3 p.n3 p.c3) := (Z.out.below b2 Z.out.lt).cell 3
    have k27 : u2.cell? ⟨w.heap.size + 1, 0, none⟩ = some (.int .i64 fr) := (V.out.below b2 V.out.lt).cell 0
    have k28 : u2.cell? ⟨w.heap.size + 1, 1, none⟩ = some (.int .i64 ds) := (V.out.below b2 V.out.lt).cell 1
    have k29 : u2.cell? ⟨w.heap.size + 1, 2, none⟩ = some (.int .i64 k) := (V.out.below b2 V.out.lt).cell 2
    have k30 : u2.cell? ⟨w.heap.size + 1, 3, none⟩ = some (.int .i64 x) := (V.out.below b2 V.out.lt).cell 3
    have k31 : u2.cell? ⟨w.heap.size + 1, 4, none⟩ = some (.int .i64 y) := (V.out.below b2 V.out.lt).cell 4
    have k32 : u2.cell? ⟨w.heap.size + 1, 5, none⟩ = some (.int .i64 c) := (V.out.below b2 V.out.lt).cell 5
    have k33 : u2.cell? ⟨w.heap.size + 1, 6, none⟩ = some (.int .i64 d) := (V.out.below b2 V.out.lt).cell 6
    replace Z := Lib.hid (Z.out.below b2 Z.out.lt)
    replace V := Lib.hid (V.out.below b2 V.out.lt)
    replace BL := Lib.hid (BL.out.trans (b2.mono BL.out.size))
    clear b2
    go_wp2
    go_ret
    exact ⟨ret_bool hF.out.symm, BL.out⟩
  have hF : Hid (R = b3) := Lib.hid (by rw [hR.out]; rfl)
  clear hR
  obtain ⟨W1, hW1⟩ : ∃ W1, W1 = (w.alloc (.cells #[.string p.nm, .slice p.a1 p.n1 p.c1, .slice p.a2 p.n2 p.c2, .slice p.a3 p.n3 p.c3] 26)).alloc (.cells #[.int .i64 fr, .int .i64 ds, .int .i64 k, .int .i64 x, .int .i64 y, .int .i64 c, .int .i64 d] 52) := ⟨_, rfl⟩
  have Z : Hid (Holds W1 (w.heap.size) 26 #[.string p.nm, .slice p.a1 p.n1 p.c1, .slice p.a2 p.n2 p.c2, .slice p.a3 p.n3 p.c3]) := Lib.hid (by rw [hW1]; exact (Holds.new w _ _).alloc _)
  have V : Hid (Holds W1 (w.heap.size + 1) 52 #[.int .i64 fr, .int .i64 ds, .int .i64 k, .int .i64 x, .int .i64 y, .int .i64 c, .int .i64 d]) := Lib.hid (by rw [hW1]; have := Holds.new (w.alloc (.cells #[.string p.nm, .slice p.a1 p.n1 p.c1, .slice p.a2 p.n2 p.c2, .slice p.a3 p.n3 p.c3] 26)) 52 #[.int .i64 fr, .int .i64 ds, .int .i64 k, .int .i64 x, .int .i64 y, .int .i64 c, .int .i64 d]; simpa using this)
  have BL := Lib.hid (show Below w.heap.size w W1 by rw [hW1]; exact box2_below _ _ _ _ _)
  have hW1' := Lib.hid hW1
  clear hW1
  go_enter Tryz.func31, Tryz.ntmps31
  have k1 := Z.out.cell 0
  have k2 := Z.out.cell 1
  have k3 := Z.out.cell 2
  have k4 := Z.out.cell 3
  have k5 := V.out.cell 0
  have k6 := V.out.cell 1
  have k7 := V.out.cell 2
  have k8 := V.out.cell 3
  have k9 := V.out.cell 4
  have k10 := V.out.cell 5
  have k11 := V.out.cell 6
  have q := Lib.hid (q1.out W1)
  go_wp2_with fail
  rw [← hW1'.out]
  with_reducible refine q.out.mono ?_
  rintro e u1 ⟨rfl, b1⟩
  clear k1 k2 k3 k4 k5 k6 k7 k8 k9 k10 k11
  clear hW1'
  clear q
  have k12 : u1.cell? ⟨w.heap.size, 0, none⟩ = some (.string p.nm) := (Z.out.below b1 Z.out.lt).cell 0
  have k13 : u1.cell? ⟨w.heap.size, 1, none⟩ = some (.slice p.a1 p.n1 p.c1) := (Z.out.below b1 Z.out.lt).cell 1
  have k14 : u1.cell? ⟨w.heap.size, 2, none⟩ = some (.slice p.a2 p.n2 p.c2) := (Z.out.below b1 Z.out.lt).cell 2
  have k15 : u1.cell? ⟨w.heap.size, 3, none⟩ = some (.slice p.a3 p.n3 p.c3) := (Z.out.below b1 Z.out.lt).cell 3
  have k16 : u1.cell? ⟨w.heap.size + 1, 0, none⟩ = some (.int .i64 fr) := (V.out.below b1 V.out.lt).cell 0
  have k17 : u1.cell? ⟨w.heap.size + 1, 1, none⟩ = some (.int .i64 ds) := (V.out.below b1 V.out.lt).cell 1
  have k18 : u1.cell? ⟨w.heap.size + 1, 2, none⟩ = some (.int .i64 k) := (V.out.below b1 V.out.lt).cell 2
  have k19 : u1.cell? ⟨w.heap.size + 1, 3, none⟩ = some (.int .i64 x) := (V.out.below b1 V.out.lt).cell 3
  have k20 : u1.cell? ⟨w.heap.size + 1, 4, none⟩ = some (.int .i64 y) := (V.out.below b1 V.out.lt).cell 4
  have k21 : u1.cell? ⟨w.heap.size + 1, 5, none⟩ = some (.int .i64 c) := (V.out.below b1 V.out.lt).cell 5
  have k22 : u1.cell? ⟨w.heap.size + 1, 6, none⟩ = some (.int .i64 d) := (V.out.below b1 V.out.lt).cell 6
  replace Z := Lib.hid (Z.out.below b1 Z.out.lt)
  replace V := Lib.hid (V.out.below b1 V.out.lt)
  replace BL := Lib.hid (BL.out.trans (b1.mono BL.out.size))
  clear b1
  have q := Lib.hid (q2.out u1)
  go_wp2_with fail
  with_reducible refine q.out.mono ?_
  rintro e u2 ⟨rfl, b2⟩
  clear k12 k13 k14 k15 k16 k17 k18 k19 k20 k21 k22
  clear q
  have k23 : u2.cell? ⟨w.heap.size, 0, none⟩ = some (.string p.nm) := (Z.out.below b2 Z.out.lt).cell 0
  have k24 : u2.cell? ⟨w.heap.size, 1, none⟩ = some (.slice p.a1 p.n1 p.c1) := (Z.out.below b2 Z.out.lt).cell 1
  have k25 : u2.cell? ⟨w.heap.size, 2, none⟩ = some (.slice p.a2 p.n2 p.c2) := (Z.out.below b2 Z.out.lt).cell 2
  have k26 : u2.cell? ⟨w.heap.size, 3, none⟩ = some (.slice p.a3 p.n3 p.c3) := (Z.out.below b2 Z.out.lt).cell 3
  have k27 : u2.cell? ⟨w.heap.size + 1, 0, none⟩ = some (.int .i64 fr) := (V.out.below b2 V.out.lt).cell 0
  have k28 : u2.cell? ⟨w.heap.size + 1, 1, none⟩ = some (.int .i64 ds) := (V.out.below b2 V.out.lt).cell 1
  have k29 : u2.cell? ⟨w.heap.size + 1, 2, none⟩ = some (.int .i64 k) := (V.out.below b2 V.out.lt).cell 2
  have k30 : u2.cell? ⟨w.heap.size + 1, 3, none⟩ = some (.int .i64 x) := (V.out.below b2 V.out.lt).cell 3
  have k31 : u2.cell? ⟨w.heap.size + 1, 4, none⟩ = some (.int .i64 y) := (V.out.below b2 V.out.lt).cell 4
  have k32 : u2.cell? ⟨w.heap.size + 1, 5, none⟩ = some (.int .i64 c) := (V.out.below b2 V.out.lt).cell 5
  have k33 : u2.cell? ⟨w.heap.size + 1, 6, none⟩ = some (.int .i64 d) := (V.out.below b2 V.out.lt).cell 6
  replace Z := Lib.hid (Z.out.below b2 Z.out.lt)
  replace V := Lib.hid (V.out.below b2 V.out.lt)
  replace BL := Lib.hid (BL.out.trans (b2.mono BL.out.size))
  clear b2
  have q := Lib.hid (q3.out u2)
  go_wp2_with fail
  with_reducible refine q.out.mono ?_
  rintro e u3 ⟨rfl, b3⟩
  clear k23 k24 k25 k26 k27 k28 k29 k30 k31 k32 k33
  clear q
  replace Z := Lib.hid (Z.out.below b3 Z.out.lt)
  replace V := Lib.hid (V.out.below b3 V.out.lt)
  replace BL := Lib.hid (BL.out.trans (b3.mono BL.out.size))
  clear b3
  go_wp2
  go_ret
  exact ⟨ret_bool hF.out.symm, BL.out⟩
set_option maxRecDepth 100000 in
set_option maxHeartbeats 1000000 in
theorem badEdge_any (p : PV) (g : Nat) (fr ds k x y c d : Int) (w : World) (h : Holds w g 26 p.cells) : Calls Tryz.prog 30 #[.agg #[.int .i64 fr, .int .i64 ds, .int .i64 k, .int .i64 x, .int .i64 y, .int .i64 c, .int .i64 d], .pointer (some ⟨g, 0, none⟩)] w (Gives (.bool (!edgeB p.n2 p.n1 ⟨fr, ds, k, x, y, c, d⟩)) w) := by
  have q1 := Lib.hid (fun W => rightEdge_any p fr ds k x y c d W)
  generalize edgeB p.n2 p.n1 ⟨fr, ds, k, x, y, c, d⟩ = R at *
  have hg := h.lt
  obtain ⟨W1, hW1⟩ : ∃ W1, W1 = w.alloc (.cells #[.int .i64 fr, .int .i64 ds, .int .i64 k, .int .i64 x, .int .i64 y, .int .i64 c, .int .i64 d] 52) := ⟨_, rfl⟩
  have V : Hid (Holds W1 (w.heap.size) 52 #[.int .i64 fr, .int .i64 ds, .int .i64 k, .int .i64 x, .int .i64 y, .int .i64 c, .int .i64 d]) := Lib.hid (by rw [hW1]; exact Holds.new w _ _)
  have Z : Hid (Holds W1 (g) 26 #[.string p.nm, .slice p.a1 p.n1 p.c1, .slice p.a2 p.n2 p.c2, .slice p.a3 p.n3 p.c3]) := Lib.hid (by rw [hW1]; exact h.alloc _)
  have BL := Lib.hid (show Below w.heap.size w W1 by rw [hW1]; exact box_below _ _ _)
  have hW1' := Lib.hid hW1
  clear hW1
  have g0 := h.cell 0
  have g1 := h.cell 1
  have g2 := h.cell 2
  have g3 := h.cell 3
  clear h
  go_enter Tryz.func30, Tryz.ntmps30
  have k1 := V.out.cell 0
  have k2 := V.out.cell 1
  have k3 := V.out.cell 2
  have k4 := V.out.cell 3
  have k5 := V.out.cell 4
  have k6 := V.out.cell 5
  have k7 := V.out.cell 6
  have q := Lib.hid (q1.out W1)
  go_wp2_with fail
  rw [← hW1'.out]
  with_reducible refine q.out.mono ?_
  rintro e u1 ⟨rfl, b1⟩
  clear k1 k2 k3 k4 k5 k6 k7
  clear hW1'
  clear q
  replace V := Lib.hid (V.out.below b1 V.out.lt)
  replace Z := Lib.hid (Z.out.below b1 Z.out.lt)
  replace BL := Lib.hid (BL.out.trans (b1.mono BL.out.size))
  clear b1
  go_wp2
  go_ret
  exact ⟨rfl, BL.out⟩
end Go.Proofs.YtgeliikfgnkppaaGreatDoor
