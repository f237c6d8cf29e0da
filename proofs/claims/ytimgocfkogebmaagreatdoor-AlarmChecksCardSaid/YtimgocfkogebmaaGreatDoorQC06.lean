/-
  Words and walks under the law's proof.
-/
import Derived.Lib.Hide
import Derived.Test.YtimgocfkogebmaaGreatDoorRows
import Derived.IntWalk
import Derived.Deep.QuietTactic
import Derived.BigQuiet
import Derived.Deep.WholeRow
import Derived.Laws.Tables
import Derived.Laws.Rows
import Derived.Laws.ResultCell
import Derived.Test.YtimgocfkogebmaaGreatDoorQC01
import Derived.Test.YtimgocfkogebmaaGreatDoorQC02
import Derived.Test.YtimgocfkogebmaaGreatDoorQC03
import Derived.Test.YtimgocfkogebmaaGreatDoorQC05
namespace Go.Proofs.YtimgocfkogebmaaGreatDoor
open Go.RowKit
set_option linter.unusedVariables false
set_option linter.unusedSimpArgs false
theorem mat_at (n i j : Nat) (hn : n ≤ 8) (hi : i ≤ n) (hj : j ≤ n) (a : Option Addr) (m c : Nat) (w : World) :
    Calls Tryz.prog 221 #[.agg #[.int .i64 n, .slice a m c], .int .i64 i, .int .i64 j] w (Gives (.int .i64 ((i * (n + 1) + j : Nat) : Int)) w) := by
  obtain ⟨p, q, u1, u2, u3, hq, -, -, -, -⟩ := place_wraps hn hi hj
  rw [← hq]
  have hB := Lib.hid (box_below w #[.int .i64 n, .slice a m c] 201)
  clear hq
  go_enter Tryz.func221, Tryz.ntmps221
  go_wp2
  go_ret
  exact ⟨rfl, hB.out⟩
def MatS (s g cap base : Nat) (R : List Int) (w : World) (e : Ending) (w' : World) : Prop :=
  e = .returned (.tuple #[]) ∧ w'.ownsRow base 3 1 (.slice (some ⟨g, 0, none⟩) s cap) s (nums .i64 R) ∧ BelowE [g] w.heap.size w w'
def limL (n : Nat) (l : List Int) (i j : Nat) (c : Int) : List Int := l.set (i * (n + 1) + j) (min (l.getD (i * (n + 1) + j) 0) c)
theorem limL_len (n : Nat) (l : List Int) (i j : Nat) (c : Int) : (limL n l i j c).length = l.length := by simp [limL]
set_option maxRecDepth 100000 in
set_option maxHeartbeats 1000000 in
theorem mlimit_any (n : Nat) (hn : n ≤ 8) (i j : Nat) (hi : i ≤ n) (hj : j ≤ n) (c : Int) (g cap base : Nat) (l : List Int) (hl : l.length = sz n) (w : World)
    (hown : w.ownsRow base 3 1 (.slice (some ⟨g, 0, none⟩) (sz n) cap) (sz n) (nums .i64 l)) :
    Calls Tryz.prog 214 #[.agg #[.int .i64 n, .slice (some ⟨g, 0, none⟩) (sz n) cap], .agg #[.int .i64 i, .int .i64 j, .int .i64 c]] w (MatS (sz n) g cap base (limL n l i j c) w) := by
  have hs81 := sz_le hn
  have hq : i * (n + 1) + j < sz n := place_lt hi hj
  have hat := Lib.hid (fun W => mat_at n i j hn hi hj (some ⟨g, 0, none⟩) (sz n) cap W)
  have hR : limL n l i j c = l.set (i * (n + 1) + j) (min (l.getD (i * (n + 1) + j) 0) c) := rfl
  generalize limL n l i j c = R at *
  generalize i * (n + 1) + j = q at *
  generalize sz n = s at *
  have hsi : (q : Int) < (s : Int) := by omega
  have hgl := own_at hown (i := q) (by omega)
  have hglt : g < w.heap.size := World.block_lt_of_cell? _ _ hgl
  obtain ⟨W1, hW1⟩ : ∃ W1, W1 = (w.alloc (.cells #[.int .i64 n, .slice (some ⟨g, 0, none⟩) s cap] 201)).alloc (.cells #[.int .i64 i, .int .i64 j, .int .i64 c] 196) := ⟨_, rfl⟩
  have hB : Below w.heap.size w W1 := by rw [hW1]; exact box2_below _ _ _ _ _
  have Z1 : Holds W1 w.heap.size 201 #[.int .i64 n, .slice (some ⟨g, 0, none⟩) s cap] := by rw [hW1]; exact (Holds.new w _ _).alloc _
  have Z2 : Holds W1 (w.heap.size + 1) 196 #[.int .i64 i, .int .i64 j, .int .i64 c] := by
    rw [hW1]
    have := Holds.new (w.alloc (.cells #[.int .i64 n, .slice (some ⟨g, 0, none⟩) s cap] 201)) 196 #[.int .i64 i, .int .i64 j, .int .i64 c]
    simpa using this
  have hR' := Lib.hid hR
  clear hR
  have O1 := Lib.hid (own_below hown hB)
  have hW1' := Lib.hid hW1
  have hB' := Lib.hid hB
  have Z1' := Lib.hid Z1
  have Z2' := Lib.hid Z2
  have hl' := Lib.hid hl
  have hglt' := Lib.hid hglt
  clear hW1 hB Z1 Z2 hown hl hgl hglt hq
  go_enter Tryz.func214, Tryz.ntmps214
  go_wp2_with fail
  rw [← hW1'.out]
  refine (hat.out _).mono ?_
  rintro e w2 ⟨rfl, b2⟩
  have O2 := Lib.hid (own_below O1.out b2)
  have Y1 := Lib.hid (Z1'.out.below b2 Z1'.out.lt)
  have Y2 := Lib.hid (Z2'.out.below b2 Z2'.out.lt)
  have B2' := Lib.hid (hB'.out.trans (b2.mono hB'.out.size))
  have m0 := own_at O2.out (i := q) (by have := hl'.out; omega)
  have mf := O2.out.frozenAt q
  have hx0 : w.heap.size ∉ [g] := by have := hglt'.out; simp; omega
  have hx1 : w.heap.size + 1 ∉ [g] := by have := hglt'.out; simp; omega
  have f1 : ∀ W, BelowE [g] w2.heap.size w2 W → W.cell? ⟨w.heap.size, 1, none⟩ = some (.slice (some ⟨g, 0, none⟩) s cap) := fun W hW => (Y1.out.belowE hW Y1.out.lt hx0).cell 1
  have f2 : ∀ W, BelowE [g] w2.heap.size w2 W → W.cell? ⟨w.heap.size + 1, 2, none⟩ = some (.int .i64 c) := fun W hW => (Y2.out.belowE hW Y2.out.lt hx1).cell 2
  have hnx : Hid (∀ z, z = min (l.getD q 0) c → MatS s g cap base R w (.returned (.tuple #[])) (w2.setCell ⟨g, q, none⟩ (.int .i64 z)).drew) := Lib.hid (by
    rintro z rfl
    rw [hR'.out]
    exact ⟨rfl, own_put O2.out q _, ((BelowE.of B2'.out).setIn (p := ⟨g, q, none⟩) (by simp) _).drew⟩)
  clear b2 O1 O2 Z1' Z2' Y1 Y2 B2' hat hx0 hx1 hl' hglt' hR'
  generalize l.getD q 0 = x at *
  by_cases hcx : c < x
  · have hfin := Lib.hid (hnx.out c (by omega))
    clear hnx
    go_wp2
    refine wp_drawn_on (fun W => BelowE [g] w2.heap.size w2 W) (by kernel_rfl) ((BelowE.refl _ _ _).drew) (fun hHeld => ?_)
    refine wpAnyH_take (i := 0) (oi := { dst := some 11, op := Go.Op.fieldAddr 201 (Go.Operand.tmp 2) 1, type := 0, pos := "zone.go:113", after := #[], guard := none }) (v := ?v1) rfl (by kernel_rfl) (by kernel_rfl) (by kernel_rfl) (fun _ _ _ h => h) (Or.inl ⟨by kernel_rfl, ?h1⟩) (by assumption) ?r1
    case h1 => (intro w hSw; (try dsimp only at hSw); go_simp; try with_reducible rfl)
    try simp only [Act.put, List.setIfInBounds_toArray, List.set_cons_zero, List.set_cons_succ]
    refine wpAnyH_take (i := 1) (oi := { dst := some 12, op := Go.Op.load 49 (Go.Operand.tmp 11), type := 49, pos := "zone.go:113", after := #[{ on := 0, ground := Go.Ground.data }], guard := none }) (v := ?v2) rfl (by kernel_rfl) (by kernel_rfl) (by kernel_rfl) (fun _ _ _ h => h) (Or.inl ⟨by kernel_rfl, ?h2⟩) (by assumption) ?r2
    case h2 => (intro w hSw; (try dsimp only at hSw); go_simp; try with_reducible rfl)
    try simp only [Act.put, List.setIfInBounds_toArray, List.set_cons_zero, List.set_cons_succ]
    refine wpAnyH_take (i := 2) (oi := { dst := some 13, op := Go.Op.move (Go.Operand.tmp 4), type := 3, pos := "zone.go:113", after := #[], guard := none }) (v := ?v3) rfl (by kernel_rfl) (by kernel_rfl) (by kernel_rfl) (fun _ _ _ h => h) (Or.inl ⟨by kernel_rfl, ?h3⟩) (by assumption) ?r3
    case h3 => (intro w hSw; (try dsimp only at hSw); go_simp; try with_reducible rfl)
    try simp only [Act.put, List.setIfInBounds_toArray, List.set_cons_zero, List.set_cons_succ]
    refine wpAnyH_take (i := 3) (oi := { dst := some 14, op := Go.Op.fieldAddr 201 (Go.Operand.tmp 2) 1, type := 0, pos := "zone.go:113", after := #[], guard := none }) (v := ?v4) rfl (by kernel_rfl) (by kernel_rfl) (by kernel_rfl) (fun _ _ _ h => h) (Or.inl ⟨by kernel_rfl, ?h4⟩) (by assumption) ?r4
    case h4 => (intro w hSw; (try dsimp only at hSw); go_simp; try with_reducible rfl)
    try simp only [Act.put, List.setIfInBounds_toArray, List.set_cons_zero, List.set_cons_succ]
    refine wpAnyH_take (i := 4) (oi := { dst := some 15, op := Go.Op.load 49 (Go.Operand.tmp 14), type := 49, pos := "zone.go:113", after := #[{ on := 3, ground := Go.Ground.data }], guard := none }) (v := ?v5) rfl (by kernel_rfl) (by kernel_rfl) (by kernel_rfl) (fun _ _ _ h => h) (Or.inl ⟨by kernel_rfl, ?h5⟩) (by assumption) ?r5
    case h5 => (intro w hSw; (try dsimp only at hSw); go_simp; try with_reducible rfl)
    try simp only [Act.put, List.setIfInBounds_toArray, List.set_cons_zero, List.set_cons_succ]
    refine wpAnyH_take (i := 5) (oi := { dst := some 16, op := Go.Op.move (Go.Operand.tmp 4), type := 3, pos := "zone.go:113", after := #[], guard := none }) (v := ?v6) rfl (by kernel_rfl) (by kernel_rfl) (by kernel_rfl) (fun _ _ _ h => h) (Or.inl ⟨by kernel_rfl, ?h6⟩) (by assumption) ?r6
    case h6 => (intro w hSw; (try dsimp only at hSw); go_simp; try with_reducible rfl)
    try simp only [Act.put, List.setIfInBounds_toArray, List.set_cons_zero, List.set_cons_succ]
    refine wpAnyH_take (i := 6) (oi := { dst := some 17, op := Go.Op.indexAddr 49 (Go.Operand.tmp 15) (Go.Operand.tmp 16), type := 0, pos := "zone.go:113", after := #[{ on := 4, ground := Go.Ground.data }, { on := 5, ground := Go.Ground.data }], guard := none }) (v := ?v7) rfl (by kernel_rfl) (by kernel_rfl) (by kernel_rfl) (fun _ _ _ h => h) (Or.inl ⟨by kernel_rfl, ?h7⟩) (by assumption) ?r7
    case h7 => (intro w hSw; (try dsimp only at hSw); go_simp; try with_reducible rfl)
    try simp only [Act.put, List.setIfInBounds_toArray, List.set_cons_zero, List.set_cons_succ]
    refine wpAnyH_take (i := 8) (oi := { dst := some 19, op := Go.Op.fieldAddr 196 (Go.Operand.tmp 3) 2, type := 0, pos := "zone.go:113", after := #[], guard := none }) (v := ?v8) rfl (by kernel_rfl) (by kernel_rfl) (by kernel_rfl) (fun _ _ _ h => h) (Or.inl ⟨by kernel_rfl, ?h8⟩) (by assumption) ?r8
    case h8 => (intro w hSw; (try dsimp only at hSw); go_simp; try with_reducible rfl)
    try simp only [Act.put, List.setIfInBounds_toArray, List.set_cons_zero, List.set_cons_succ]
    refine wpAnyH_take (i := 9) (oi := { dst := some 20, op := Go.Op.load 3 (Go.Operand.tmp 19), type := 3, pos := "zone.go:113", after := #[{ on := 8, ground := Go.Ground.data }], guard := none }) (v := ?v9) rfl (by kernel_rfl) (by kernel_rfl) (by kernel_rfl) (fun _ _ _ h => h) (Or.inl ⟨by kernel_rfl, ?h9⟩) (by assumption) ?r9
    case h9 => (intro w hSw; (try dsimp only at hSw); go_simp; try with_reducible rfl)
    try simp only [Act.put, List.setIfInBounds_toArray, List.set_cons_zero, List.set_cons_succ]
    refine wpAnyH_ready (rs := [7]) (by kernel_rfl) (by simp) ?_
    refine AllReadyH.cons (o := { dst := some 18, op := Go.Op.load 3 (Go.Operand.tmp 17), type := 3, pos := "zone.go:113", after := #[{ on := 6, ground := Go.Ground.data }], guard := none }) rfl (fun K hK => ?_) AllReadyH.nil
    go_simp
    refine hK.out _ _ (hHeld) (fun hHeld => ?_)
    clear hK K
    try simp only [Act.put, List.setIfInBounds_toArray, List.set_cons_zero, List.set_cons_succ]
    refine wpAnyH_take (i := 10) (oi := { dst := some 21, op := Go.Op.call { callee := Go.Callee.builtin Go.Builtin.min, args := #[Go.Operand.tmp 18, Go.Operand.tmp 20], argTypes := #[3, 3] }, type := 3, pos := "zone.go:113", after := #[{ on := 7, ground := Go.Ground.data }, { on := 9, ground := Go.Ground.data }], guard := none }) (v := ?v10) rfl (by kernel_rfl) (by kernel_rfl) (by kernel_rfl) (fun _ _ _ h => h) (Or.inl ⟨by kernel_rfl, ?h10⟩) (by assumption) ?r10
    case h10 => (intro w hSw; (try dsimp only at hSw); go_simp; try with_reducible rfl)
    try simp only [Act.put, List.setIfInBounds_toArray, List.set_cons_zero, List.set_cons_succ]
    refine wpAnyH_take (i := 11) (oi := { dst := some 22, op := Go.Op.indexAddr 49 (Go.Operand.tmp 12) (Go.Operand.tmp 13), type := 0, pos := "zone.go:113", after := #[{ on := 1, ground := Go.Ground.data }, { on := 2, ground := Go.Ground.data }, { on := 0, ground := Go.Ground.phase }, { on := 1, ground := Go.Ground.phase }, { on := 2, ground := Go.Ground.phase }, { on := 3, ground := Go.Ground.phase }, { on := 4, ground := Go.Ground.phase }, { on := 5, ground := Go.Ground.phase }, { on := 6, ground := Go.Ground.phase }, { on := 7, ground := Go.Ground.phase }, { on := 8, ground := Go.Ground.phase }, { on := 9, ground := Go.Ground.phase }, { on := 10, ground := Go.Ground.phase }], guard := none }) (v := ?v11) rfl (by kernel_rfl) (by kernel_rfl) (by kernel_rfl) (fun _ _ _ h => h) (Or.inl ⟨by kernel_rfl, ?h11⟩) (by assumption) ?r11
    case h11 => (intro w hSw; (try dsimp only at hSw); go_simp; try with_reducible rfl)
    try simp only [Act.put, List.setIfInBounds_toArray, List.set_cons_zero, List.set_cons_succ]
    refine wpAnyH_ready (rs := [12]) (by kernel_rfl) (by simp) ?_
    refine AllReadyH.cons (o := { dst := none, op := Go.Op.store 3 (Go.Operand.tmp 22) (Go.Operand.tmp 21), type := 0, pos := "zone.go:113", after := #[{ on := 11, ground := Go.Ground.data }, { on := 10, ground := Go.Ground.data }, { on := 0, ground := Go.Ground.phase }, { on := 1, ground := Go.Ground.phase }, { on := 2, ground := Go.Ground.phase }, { on := 3, ground := Go.Ground.phase }, { on := 4, ground := Go.Ground.phase }, { on := 5, ground := Go.Ground.phase }, { on := 6, ground := Go.Ground.phase }, { on := 7, ground := Go.Ground.phase }, { on := 8, ground := Go.Ground.phase }, { on := 9, ground := Go.Ground.phase }, { on := 10, ground := Go.Ground.phase }], guard := none }) rfl (fun K hK => ?_) AllReadyH.nil
    go_simp
    refine hK.out _ _ (hHeld.setIn (p := ⟨g, q, none⟩) (by simp) _) (fun hHeld => ?_)
    clear hK K
    try simp only [Act.put, List.setIfInBounds_toArray, List.set_cons_zero, List.set_cons_succ]
    refine wpAnyH_done (by kernel_rfl) ?_ _
    go_wp2
    go_end0
    exact hfin.out
  · have hfin := Lib.hid (hnx.out x (by omega))
    clear hnx
    go_wp2
    refine wp_drawn_on (fun W => BelowE [g] w2.heap.size w2 W) (by kernel_rfl) ((BelowE.refl _ _ _).drew) (fun hHeld => ?_)
    refine wpAnyH_take (i := 0) (oi := { dst := some 11, op := Go.Op.fieldAddr 201 (Go.Operand.tmp 2) 1, type := 0, pos := "zone.go:113", after := #[], guard := none }) (v := ?v12) rfl (by kernel_rfl) (by kernel_rfl) (by kernel_rfl) (fun _ _ _ h => h) (Or.inl ⟨by kernel_rfl, ?h12⟩) (by assumption) ?r12
    case h12 => (intro w hSw; (try dsimp only at hSw); go_simp; try with_reducible rfl)
    try simp only [Act.put, List.setIfInBounds_toArray, List.set_cons_zero, List.set_cons_succ]
    refine wpAnyH_take (i := 1) (oi := { dst := some 12, op := Go.Op.load 49 (Go.Operand.tmp 11), type := 49, pos := "zone.go:113", after := #[{ on := 0, ground := Go.Ground.data }], guard := none }) (v := ?v13) rfl (by kernel_rfl) (by kernel_rfl) (by kernel_rfl) (fun _ _ _ h => h) (Or.inl ⟨by kernel_rfl, ?h13⟩) (by assumption) ?r13
    case h13 => (intro w hSw; (try dsimp only at hSw); go_simp; try with_reducible rfl)
    try simp only [Act.put, List.setIfInBounds_toArray, List.set_cons_zero, List.set_cons_succ]
    refine wpAnyH_take (i := 2) (oi := { dst := some 13, op := Go.Op.move (Go.Operand.tmp 4), type := 3, pos := "zone.go:113", after := #[], guard := none }) (v := ?v14) rfl (by kernel_rfl) (by kernel_rfl) (by kernel_rfl) (fun _ _ _ h => h) (Or.inl ⟨by kernel_rfl, ?h14⟩) (by assumption) ?r14
    case h14 => (intro w hSw; (try dsimp only at hSw); go_simp; try with_reducible rfl)
    try simp only [Act.put, List.setIfInBounds_toArray, List.set_cons_zero, List.set_cons_succ]
    refine wpAnyH_take (i := 3) (oi := { dst := some 14, op := Go.Op.fieldAddr 201 (Go.Operand.tmp 2) 1, type := 0, pos := "zone.go:113", after := #[], guard := none }) (v := ?v15) rfl (by kernel_rfl) (by kernel_rfl) (by kernel_rfl) (fun _ _ _ h => h) (Or.inl ⟨by kernel_rfl, ?h15⟩) (by assumption) ?r15
    case h15 => (intro w hSw; (try dsimp only at hSw); go_simp; try with_reducible rfl)
    try simp only [Act.put, List.setIfInBounds_toArray, List.set_cons_zero, List.set_cons_succ]
    refine wpAnyH_take (i := 4) (oi := { dst := some 15, op := Go.Op.load 49 (Go.Operand.tmp 14), type := 49, pos := "zone.go:113", after := #[{ on := 3, ground := Go.Ground.data }], guard := none }) (v := ?v16) rfl (by kernel_rfl) (by kernel_rfl) (by kernel_rfl) (fun _ _ _ h => h) (Or.inl ⟨by kernel_rfl, ?h16⟩) (by assumption) ?r16
    case h16 => (intro w hSw; (try dsimp only at hSw); go_simp; try with_reducible rfl)
    try simp only [Act.put, List.setIfInBounds_toArray, List.set_cons_zero, List.set_cons_succ]
    refine wpAnyH_take (i := 5) (oi := { dst := some 16, op := Go.Op.move (Go.Operand.tmp 4), type := 3, pos := "zone.go:113", after := #[], guard := none }) (v := ?v17) rfl (by kernel_rfl) (by kernel_rfl) (by kernel_rfl) (fun _ _ _ h => h) (Or.inl ⟨by kernel_rfl, ?h17⟩) (by assumption) ?r17
    case h17 => (intro w hSw; (try dsimp only at hSw); go_simp; try with_reducible rfl)
    try simp only [Act.put, List.setIfInBounds_toArray, List.set_cons_zero, List.set_cons_succ]
    refine wpAnyH_take (i := 6) (oi := { dst := some 17, op := Go.Op.indexAddr 49 (Go.Operand.tmp 15) (Go.Operand.tmp 16), type := 0, pos := "zone.go:113", after := #[{ on := 4, ground := Go.Ground.data }, { on := 5, ground := Go.Ground.data }], guard := none }) (v := ?v18) rfl (by kernel_rfl) (by kernel_rfl) (by kernel_rfl) (fun _ _ _ h => h) (Or.inl ⟨by kernel_rfl, ?h18⟩) (by assumption) ?r18
    case h18 => (intro w hSw; (try dsimp only at hSw); go_simp; try with_reducible rfl)
    try simp only [Act.put, List.setIfInBounds_toArray, List.set_cons_zero, List.set_cons_succ]
    refine wpAnyH_take (i := 8) (oi := { dst := some 19, op := Go.Op.fieldAddr 196 (Go.Operand.tmp 3) 2, type := 0, pos := "zone.go:113", after := #[], guard := none }) (v := ?v19) rfl (by kernel_rfl) (by kernel_rfl) (by kernel_rfl) (fun _ _ _ h => h) (Or.inl ⟨by kernel_rfl, ?h19⟩) (by assumption) ?r19
    case h19 => (intro w hSw; (try dsimp only at hSw); go_simp; try with_reducible rfl)
    try simp only [Act.put, List.setIfInBounds_toArray, List.set_cons_zero, List.set_cons_succ]
    refine wpAnyH_take (i := 9) (oi := { dst := some 20, op := Go.Op.load 3 (Go.Operand.tmp 19), type := 3, pos := "zone.go:113", after := #[{ on := 8, ground := Go.Ground.data }], guard := none }) (v := ?v20) rfl (by kernel_rfl) (by kernel_rfl) (by kernel_rfl) (fun _ _ _ h => h) (Or.inl ⟨by kernel_rfl, ?h20⟩) (by assumption) ?r20
    case h20 => (intro w hSw; (try dsimp only at hSw); go_simp; try with_reducible rfl)
    try simp only [Act.put, List.setIfInBounds_toArray, List.set_cons_zero, List.set_cons_succ]
    refine wpAnyH_ready (rs := [7]) (by kernel_rfl) (by simp) ?_
    refine AllReadyH.cons (o := { dst := some 18, op := Go.Op.load 3 (Go.Operand.tmp 17), type := 3, pos := "zone.go:113", after := #[{ on := 6, ground := Go.Ground.data }], guard := none }) rfl (fun K hK => ?_) AllReadyH.nil
    go_simp
    refine hK.out _ _ (hHeld) (fun hHeld => ?_)
    clear hK K
    try simp only [Act.put, List.setIfInBounds_toArray, List.set_cons_zero, List.set_cons_succ]
    refine wpAnyH_take (i := 10) (oi := { dst := some 21, op := Go.Op.call { callee := Go.Callee.builtin Go.Builtin.min, args := #[Go.Operand.tmp 18, Go.Operand.tmp 20], argTypes := #[3, 3] }, type := 3, pos := "zone.go:113", after := #[{ on := 7, ground := Go.Ground.data }, { on := 9, ground := Go.Ground.data }], guard := none }) (v := ?v21) rfl (by kernel_rfl) (by kernel_rfl) (by kernel_rfl) (fun _ _ _ h => h) (Or.inl ⟨by kernel_rfl, ?h21⟩) (by assumption) ?r21
    case h21 => (intro w hSw; (try dsimp only at hSw); go_simp; try with_reducible rfl)
    try simp only [Act.put, List.setIfInBounds_toArray, List.set_cons_zero, List.set_cons_succ]
    refine wpAnyH_take (i := 11) (oi := { dst := some 22, op := Go.Op.indexAddr 49 (Go.Operand.tmp 12) (Go.Operand.tmp 13), type := 0, pos := "zone.go:113", after := #[{ on := 1, ground := Go.Ground.data }, { on := 2, ground := Go.Ground.data }, { on := 0, ground := Go.Ground.phase }, { on := 1, ground := Go.Ground.phase }, { on := 2, ground := Go.Ground.phase }, { on := 3, ground := Go.Ground.phase }, { on := 4, ground := Go.Ground.phase }, { on := 5, ground := Go.Ground.phase }, { on := 6, ground := Go.Ground.phase }, { on := 7, ground := Go.Ground.phase }, { on := 8, ground := Go.Ground.phase }, { on := 9, ground := Go.Ground.phase }, { on := 10, ground := Go.Ground.phase }], guard := none }) (v := ?v22) rfl (by kernel_rfl) (by kernel_rfl) (by kernel_rfl) (fun _ _ _ h => h) (Or.inl ⟨by kernel_rfl, ?h22⟩) (by assumption) ?r22
    case h22 => (intro w hSw; (try dsimp only at hSw); go_simp; try with_reducible rfl)
    try simp only [Act.put, List.setIfInBounds_toArray, List.set_cons_zero, List.set_cons_succ]
    refine wpAnyH_ready (rs := [12]) (by kernel_rfl) (by simp) ?_
    refine AllReadyH.cons (o := { dst := none, op := Go.Op.store 3 (Go.Operand.tmp 22) (Go.Operand.tmp 21), type := 0, pos := "zone.go:113", after := #[{ on := 11, ground := Go.Ground.data }, { on := 10, ground := Go.Ground.data }, { on := 0, ground := Go.Ground.phase }, { on := 1, ground := Go.Ground.phase }, { on := 2, ground := Go.Ground.phase }, { on := 3, ground := Go.Ground.phase }, { on := 4, ground := Go.Ground.phase }, { on := 5, ground := Go.Ground.phase }, { on := 6, ground := Go.Ground.phase }, { on := 7, ground := Go.Ground.phase }, { on := 8, ground := Go.Ground.phase }, { on := 9, ground := Go.Ground.phase }, { on := 10, ground := Go.Ground.phase }], guard := none }) rfl (fun K hK => ?_) AllReadyH.nil
    go_simp
    refine hK.out _ _ (hHeld.setIn (p := ⟨g, q, none⟩) (by simp) _) (fun hHeld => ?_)
    clear hK K
    try simp only [Act.put, List.setIfInBounds_toArray, List.set_cons_zero, List.set_cons_succ]
    refine wpAnyH_done (by kernel_rfl) ?_ _
    go_wp2
    go_end0
    exact hfin.out
end Go.Proofs.YtimgocfkogebmaaGreatDoor
namespace Go.Proofs.YtimgocfkogebmaaGreatDoor
open Go.RowKit
set_option linter.unusedVariables false
set_option linter.unusedSimpArgs false
def pairL (F G : Int → Int) (l : List Int) (p q : Nat) : List Int := (l.set p (F (l.getD p 0))).set q (G (l.getD q 0))
def othK (F G : Int → Int) (n i : Nat) (l : List Int) : Nat → List Int
  | 0 => l
  | k + 1 => if k = i then othK F G n i l k else pairL F G (othK F G n i l k) (i * (n + 1) + k) (k * (n + 1) + i)
def forL (n : Nat) (l : List Int) (i : Nat) : List Int := othK (fun _ => 4398046511104) (fun _ => 4398046511104) n i l (n + 1)
def movL (n : Nat) (l : List Int) (i : Nat) (c : Int) : List Int := othK (fun x => x + c) (fun x => x - c) n i l (n + 1)
def tieL (n : Nat) (l : List Int) (i j : Nat) (c : Int) : List Int := limL n (limL n l i j c) j i (-c)
end Go.Proofs.YtimgocfkogebmaaGreatDoor
namespace Go.Proofs.YtimgocfkogebmaaGreatDoor
open Go.RowKit
set_option linter.unusedVariables false
set_option linter.unusedSimpArgs false
def ZoneO (n : Int) (l : List Int) (err : Int) (w : World) (e : Ending) (w' : World) : Prop :=
  ∃ a c, e = .returned (.tuple #[.agg #[.int .i64 n, .slice a l.length c], .int .i64 err]) ∧ w'.ownsRow w.heap.size 3 1 (.slice a l.length c) l.length (nums .i64 l) ∧ Below w.heap.size w w'
def ZoneOS (n : Int) (l : List Int) (w : World) (e : Ending) (w' : World) : Prop :=
  ∃ a c, e = .returned (.agg #[.int .i64 n, .slice a l.length c]) ∧ w'.ownsRow w.heap.size 3 1 (.slice a l.length c) l.length (nums .i64 l) ∧ Below w.heap.size w w'
theorem zone_endO {w W1 w3 : World} {g : Nat} {z0 z1 : Value} {R : List Int} {e : Ending} (hB : Below w.heap.size w W1) (hg : w.heap.size ≤ g) (hz : ZH W1 g z0 z1) (hm : Made 3 .i64 W1 R e w3) :
    ∃ a c, e = .returned (.slice a R.length c) ∧ ZH w3 g z0 z1 ∧ ∀ n err : Int, ZH ((w3.setCell ⟨g, 0, none⟩ (.int .i64 n)).setCell ⟨g, 1, none⟩ (.slice a R.length c)) g (.int .i64 n) (.slice a R.length c) ∧
      ZoneO n R err w (.returned (.tuple #[.agg #[.int .i64 n, .slice a R.length c], .int .i64 err])) ((w3.setCell ⟨g, 0, none⟩ (.int .i64 n)).setCell ⟨g, 1, none⟩ (.slice a R.length c)) ∧
      ZoneOS n R w (.returned (.agg #[.int .i64 n, .slice a R.length c])) ((w3.setCell ⟨g, 0, none⟩ (.int .i64 n)).setCell ⟨g, 1, none⟩ (.slice a R.length c)) := by
  obtain ⟨v, rfl, hown, hb⟩ := hm
  have hlt := hz.lt
  obtain ⟨a, c, rfl, -, -⟩ := sees_own hown
  have hz3 := hz.below hb hlt
  refine ⟨a, c, rfl, hz3, fun n err => ?_⟩
  have hE : BelowE [g] w3.heap.size w3 ((w3.setCell ⟨g, 0, none⟩ (.int .i64 n)).setCell ⟨g, 1, none⟩ (.slice a R.length c)) := ((BelowE.refl _ _ _).setIn (p := ⟨g, 0, none⟩) (by simp) _).setIn (p := ⟨g, 1, none⟩) (by simp) _
  have hown2 := own_belowE hown hE (fun k hk => by
    have := (hown.lt k hk).1
    simp only [List.mem_singleton]
    omega)
  have hown3 := own_from (B := w.heap.size) hown2 (fun k hk => by have := (hown.lt k hk).1; have := hB.size; omega)
  have hbb : Below w.heap.size w ((w3.setCell ⟨g, 0, none⟩ (.int .i64 n)).setCell ⟨g, 1, none⟩ (.slice a R.length c)) := ((hB.trans (hb.mono hB.size)).setCell (p := ⟨g, 0, none⟩) hg _).setCell (p := ⟨g, 1, none⟩) hg _
  exact ⟨zh_set hz3 _ _, ⟨a, c, rfl, hown3, hbb⟩, ⟨a, c, rfl, hown3, hbb⟩⟩
theorem dclose_own (n : Nat) (hn : n ≤ 8) (a : Option Addr) (M : List Int) (len c : Nat) (hM : len = M.length) (hl : len = sz n) (w : World) (h : Sees .i64 w.heap.size w a M) :
    Calls Tryz.prog 217 #[.int .i64 n, .slice a len c] w (ZoneO n (closedL n M) 0 w) := by
  obtain ⟨W1, hW1⟩ : ∃ W1, W1 = w.alloc (.cells #[.int .i64 0, .slice none 0 0] 51) := ⟨_, rfl⟩
  have hB : Below w.heap.size w W1 := by rw [hW1]; exact (Below.refl _ _).alloc (Nat.le_refl _) _
  have hz : ZH W1 w.heap.size (.int .i64 0) (.slice none 0 0) := by rw [hW1]; exact Holds.new w _ _
  have hmay := Lib.hid (fun W => may_any n W)
  have hsize := Lib.hid (fun W => zsize_any n hn W)
  have hcl := Lib.hid (closed_any n hn a M len c hM hl W1 ((h.below hB).mono hB.size))
  rw [mayB_nat hn] at hmay
  have hle : ((sz n : Nat) : Int) = (len : Int) := by rw [hl]
  rw [hle] at hsize
  have hB' := Lib.hid hB
  have hz' := Lib.hid hz
  have hW1' := Lib.hid hW1
  clear hW1 hB hz hle h hM hl
  generalize closedL n M = R at *
  go_enter Tryz.func217, Tryz.ntmps217
  go_wp2_with fail
  refine (hmay.out _).mono ?_
  rintro e w2 ⟨rfl, rfl⟩
  go_wp2_with fail
  refine (hsize.out _).mono ?_
  rintro e w2 ⟨rfl, rfl⟩
  go_wp2_with fail
  rw [← hW1'.out]
  refine hcl.out.mono ?_
  intro e w3 hm
  obtain ⟨a3, c3, rfl, hz3, hall⟩ := zone_endO hB'.out (Nat.le_refl _) hz'.out hm
  have hfin := Lib.hid (hall n 0)
  have k0 := hz3.cell 0
  have k1 := hz3.cell 1
  have f0 := hz3.free 0
  have f1 := hz3.free 1
  clear hz3 hm hall
  go_wp2
  exact zone_ret2 hfin.out.1 hfin.out.2.1 _ _ 4 5 rfl rfl rfl rfl
set_option maxRecDepth 100000 in
set_option maxHeartbeats 1000000 in
theorem zclone_own (n : Int) (a : Option Addr) (m c : Nat) (l : List Int) (hm : m ≤ 1000) (w : World) (h : SL w a m c l) :
    Calls Tryz.prog 216 #[.agg #[.int .i64 n, .slice a m c]] w (ZoneOS n l w) := by
  obtain ⟨W1, hW1⟩ : ∃ W1, W1 = (w.alloc (.cells #[.int .i64 n, .slice a m c] 51)).alloc (.cells #[.int .i64 0, .slice none 0 0] 51) := ⟨_, rfl⟩
  have hB : Below w.heap.size w W1 := by rw [hW1]; exact box2_below _ _ _ _ _
  have Z1 : ZH W1 w.heap.size (.int .i64 n) (.slice a m c) := by rw [hW1]; exact (Holds.new w _ _).alloc _
  have Z2 : ZH W1 (w.heap.size + 1) (.int .i64 0) (.slice none 0 0) := by
    rw [hW1]
    have := Holds.new (w.alloc (.cells #[.int .i64 n, .slice a m c] 51)) 51 #[.int .i64 0, .slice none 0 0]
    simpa using this
  have hcl := Lib.hid (fun W (hs : Sees .i64 W.heap.size W a l) => iclone_any a l m c h.len (by have := h.len; omega) W hs)
  have hs1 := Lib.hid ((h.below hB).below (below_drew (Below.refl W1.heap.size W1))).sees
  have hc0 : ∀ W, BelowE [w.heap.size + 1] W1.heap.size W1 W → W.cell? ⟨w.heap.size, 0, none⟩ = some (.int .i64 n) := fun W hW => (Z1.belowE hW Z1.lt (by simp)).cell 0
  have hc1 : ∀ W, BelowE [w.heap.size + 1] W1.heap.size W1 W → W.cell? ⟨w.heap.size, 1, none⟩ = some (.slice a m c) := fun W hW => (Z1.belowE hW Z1.lt (by simp)).cell 1
  have hW1' := Lib.hid hW1
  have hB' := Lib.hid hB
  have Z2' := Lib.hid Z2
  clear hW1 hB Z1 Z2 h
  go_enter Tryz.func216, Tryz.ntmps216
  go_wp2
  rw [← hW1'.out]
  clear hW1'
  refine wp_drawn_on (fun W => BelowE [w.heap.size + 1] W1.heap.size W1 W) (by kernel_rfl) ((BelowE.refl _ _ _).drew) (fun hHeld => ?_)
  refine wpAnyH_take (i := 0) (oi := { dst := some 3, op := Go.Op.fieldAddr 51 (Go.Operand.tmp 1) 0, type := 0, pos := "zone.go:31", after := #[], guard := none }) (v := ?v1) rfl (by kernel_rfl) (by kernel_rfl) (by kernel_rfl) (fun _ _ _ h => h) (Or.inl ⟨by kernel_rfl, ?h1⟩) (by assumption) ?r1
  case h1 => (intro w hSw; (try dsimp only at hSw); go_simp; try with_reducible rfl)
  try simp only [Act.put, List.setIfInBounds_toArray, List.set_cons_zero, List.set_cons_succ]
  refine wpAnyH_take (i := 1) (oi := { dst := some 4, op := Go.Op.load 3 (Go.Operand.tmp 3), type := 3, pos := "zone.go:31", after := #[{ on := 0, ground := Go.Ground.data }], guard := none }) (v := ?v2) rfl (by kernel_rfl) (by kernel_rfl) (by kernel_rfl) (fun _ _ _ h => h) (Or.inl ⟨by kernel_rfl, ?h2⟩) (by assumption) ?r2
  case h2 => (intro w hSw; (try dsimp only at hSw); go_simp; try with_reducible rfl)
  try simp only [Act.put, List.setIfInBounds_toArray, List.set_cons_zero, List.set_cons_succ]
  refine wpAnyH_take (i := 2) (oi := { dst := some 5, op := Go.Op.fieldAddr 51 (Go.Operand.tmp 1) 1, type := 0, pos := "zone.go:31", after := #[], guard := none }) (v := ?v3) rfl (by kernel_rfl) (by kernel_rfl) (by kernel_rfl) (fun _ _ _ h => h) (Or.inl ⟨by kernel_rfl, ?h3⟩) (by assumption) ?r3
  case h3 => (intro w hSw; (try dsimp only at hSw); go_simp; try with_reducible rfl)
  try simp only [Act.put, List.setIfInBounds_toArray, List.set_cons_zero, List.set_cons_succ]
  refine wpAnyH_take (i := 3) (oi := { dst := some 6, op := Go.Op.load 49 (Go.Operand.tmp 5), type := 49, pos := "zone.go:31", after := #[{ on := 2, ground := Go.Ground.data }], guard := none }) (v := ?v4) rfl (by kernel_rfl) (by kernel_rfl) (by kernel_rfl) (fun _ _ _ h => h) (Or.inl ⟨by kernel_rfl, ?h4⟩) (by assumption) ?r4
  case h4 => (intro w hSw; (try dsimp only at hSw); go_simp; try with_reducible rfl)
  try simp only [Act.put, List.setIfInBounds_toArray, List.set_cons_zero, List.set_cons_succ]
  refine wpAnyH_ready (rs := [4]) (by kernel_rfl) (by simp) ?_
  refine AllReadyH.cons (o := { dst := some 7, op := Go.Op.call { callee := Go.Callee.value (Go.Operand.func 63), args := #[Go.Operand.tmp 6], argTypes := #[49] }, type := 49, pos := "zone.go:31", after := #[{ on := 3, ground := Go.Ground.data }], guard := none }) rfl (fun K hK => ?_) AllReadyH.nil
  go_simp
  refine (hcl.out _ hs1.out).mono ?_
  intro e w3 hmd
  have b3 : Below W1.heap.size W1.drew w3 := by obtain ⟨v3, -, -, b3⟩ := hmd; exact b3
  obtain ⟨a3, c3, rfl, hz3, hall⟩ := zone_endO (hB'.out.trans ((below_drew (Below.refl _ _)).mono hB'.out.size)) (g := w.heap.size + 1) (by omega) (Z2'.out.below (below_drew (Below.refl _ _)) Z2'.out.lt) hmd
  have hfin := Lib.hid (hall n 0)
  have j0 := hz3.cell 0
  have j1 := hz3.cell 1
  have f0 := hz3.free 0
  have f1 := hz3.free 1
  clear hmd hall
  go_simp
  refine hK.out _ _ (hHeld.trans (BelowE.of b3)) (fun hHeld => ?_)
  clear hK K
  try simp only [Act.put, List.setIfInBounds_toArray, List.set_cons_zero, List.set_cons_succ]
  refine wpAnyH_take (i := 5) (oi := { dst := some 8, op := Go.Op.build 51 #[(0, Go.Operand.tmp 4), (1, Go.Operand.tmp 7)], type := 51, pos := "zone.go:31", after := #[{ on := 1, ground := Go.Ground.data }, { on := 4, ground := Go.Ground.data }], guard := none }) (v := ?v5) rfl (by kernel_rfl) (by kernel_rfl) (by kernel_rfl) (fun _ _ _ h => h) (Or.inl ⟨by kernel_rfl, ?h5⟩) (by assumption) ?r5
  case h5 => (intro w hSw; (try dsimp only at hSw); go_simp; try with_reducible rfl)
  try simp only [Act.put, List.setIfInBounds_toArray, List.set_cons_zero, List.set_cons_succ]
  refine wpAnyH_ready (rs := [6]) (by kernel_rfl) (by simp) ?_
  refine AllReadyH.cons (o := { dst := none, op := Go.Op.store 51 (Go.Operand.tmp 2) (Go.Operand.tmp 8), type := 0, pos := "zone.go:31", after := #[{ on := 5, ground := Go.Ground.data }, { on := 4, ground := Go.Ground.chain }, { on := 0, ground := Go.Ground.phase }, { on := 1, ground := Go.Ground.phase }, { on := 2, ground := Go.Ground.phase }, { on := 3, ground := Go.Ground.phase }, { on := 4, ground := Go.Ground.phase }, { on := 5, ground := Go.Ground.phase }], guard := none }) rfl (fun K hK => ?_) AllReadyH.nil
  go_simp
  refine hK.out _ _ (((hHeld.setIn (p := ⟨w.heap.size + 1, 0, none⟩) (by simp) _).setIn (p := ⟨w.heap.size + 1, 1, none⟩) (by simp) _)) (fun hHeld => ?_)
  clear hK K
  try simp only [Act.put, List.setIfInBounds_toArray, List.set_cons_zero, List.set_cons_succ]
  refine wpAnyH_done (by kernel_rfl) ?_ _
  go_wp2
  exact zone_ret hfin.out.1 hfin.out.2.2 _ _ 2 rfl rfl rfl
end Go.Proofs.YtimgocfkogebmaaGreatDoor
namespace Go.Proofs.YtimgocfkogebmaaGreatDoor
open Go.RowKit
set_option linter.unusedVariables false
set_option linter.unusedSimpArgs false
structure Cg (w W : World) (B n : Nat) (x y : Value) (i j c : Int) : Prop where
  bl : Below w.heap.size w W
  sz : B ≤ W.heap.size
  zb : ZH W w.heap.size x y
  wb : Holds W (w.heap.size + 1) 196 #[.int .i64 i, .int .i64 j, .int .i64 c]
  rb : ZH W (w.heap.size + 1 + 1) (.int .i64 0) (.slice none 0 0)
theorem Cg.on {w W W' : World} {B n : Nat} {x y : Value} {i j c : Int} (h : Cg w W B n x y i j c) (hb : Below W.heap.size W W') : Cg w W' B n x y i j c := ⟨h.bl.trans (hb.mono h.bl.size), Nat.le_trans h.sz hb.size, h.zb.below hb h.zb.lt, h.wb.below hb h.wb.lt, h.rb.below hb h.rb.lt⟩
theorem Cg.onE {w W W' : World} {B n g : Nat} {x y : Value} {i j c : Int} (h : Cg w W B n x y i j c) (hB : w.heap.size + 3 ≤ B) (hg : B ≤ g) (hb : BelowE [g] W.heap.size W W') : Cg w W' B n x y i j c :=
  ⟨h.bl.trans (BelowE.none ((hb.mono h.bl.size).less (by intro x hx hlt; simp at hx; omega))), Nat.le_trans h.sz hb.size, h.zb.belowE hb h.zb.lt (by simp; omega), h.wb.belowE hb h.wb.lt (by simp; omega), h.rb.belowE hb h.rb.lt (by simp; omega)⟩
theorem Cg.set {w W : World} {B n : Nat} {x y : Value} {i j c : Int} (h : Cg w W B n x y i j c) (u v : Value) : Cg w ((W.setCell ⟨w.heap.size, 0, none⟩ u).setCell ⟨w.heap.size, 1, none⟩ v) B n u v i j c :=
  ⟨(h.bl.setCell (p := ⟨w.heap.size, 0, none⟩) (Nat.le_refl _) _).setCell (p := ⟨w.heap.size, 1, none⟩) (Nat.le_refl _) _, by simpa using h.sz, zh_set h.zb _ _, (h.wb.far (p := ⟨w.heap.size, 0, none⟩) (by simp) _).far (p := ⟨w.heap.size, 1, none⟩) (by simp) _, (h.rb.far (p := ⟨w.heap.size, 0, none⟩) (by simp; omega) _).far (p := ⟨w.heap.size, 1, none⟩) (by simp; omega) _⟩
theorem zown_set {w : World} {base g : Nat} {e : TypeId} {m n c : Nat} {a : Option Addr} {xs : List Value} (h : w.ownsRow base e 1 (.slice a m c) n xs) (hg : g < base) (u v : Value) : ((w.setCell ⟨g, 0, none⟩ u).setCell ⟨g, 1, none⟩ v).ownsRow base e 1 (.slice a m c) n xs := by
  have hE : BelowE [g] w.heap.size w ((w.setCell ⟨g, 0, none⟩ u).setCell ⟨g, 1, none⟩ v) := ((BelowE.refl _ _ _).setIn (p := ⟨g, 0, none⟩) (by simp) _).setIn (p := ⟨g, 1, none⟩) (by simp) _
  exact own_belowE h hE (fun k hk => by have := (h.lt k hk).1; simp only [List.mem_singleton]; omega)
def stepL (n : Nat) (f : List Int → List Int) (l : List Int) : List Int := if l = [] then [] else closedL n (f l)
theorem stepL_isz {n : Nat} (hn : n ≤ 8) (f : List Int → List Int) (l : List Int) : IsZ n (stepL n f l) := by
  refine ⟨hn, ?_⟩
  unfold stepL
  split
  · exact .inl rfl
  · by_cases h : closedL n (f l) = []
    · exact .inl h
    · exact .inr (closed_full hn h)
set_option maxRecDepth 100000 in
set_option maxHeartbeats 4000000 in
theorem change_lim (n : Nat) (hn : n ≤ 8) (l : List Int) (hz : IsZ n l) (a : Option Addr) (m ca : Nat) (i j c : Int) (hs0 : ∀ (L : List Int) (g cap base : Nat) (W : World), Full n L → L.length = sz n → W.ownsRow base 3 1 (.slice (some ⟨g, 0, none⟩) (sz n) cap) (sz n) (nums .i64 L) → Calls Tryz.prog 214 #[.agg #[.int .i64 n, .slice (some ⟨g, 0, none⟩) (sz n) cap], .agg #[.int .i64 i, .int .i64 j, .int .i64 c]] W (MatS (sz n) g cap base (limL n L i.toNat j.toNat c) W)) (w : World) (h : SL w a m ca l) (gs : Nat) (hgs : gs < w.heap.size) (hcs : ∀ W, Below w.heap.size w W → W.cell? ⟨gs, 0, none⟩ = some (.func (.func 214) #[] #[])) :
    Calls Tryz.prog 210 #[.agg #[.int .i64 n, .slice a m ca], .agg #[.int .i64 i, .int .i64 j, .int .i64 c], .slice (some ⟨gs, 0, none⟩) 1 1] w (ZoneE n (stepL n (fun l => limL n l i.toNat j.toNat c) l) 0 w) := by
  obtain ⟨W1, hW1⟩ : ∃ W1, W1 = ((w.alloc (.cells #[.int .i64 n, .slice a m ca] 51)).alloc (.cells #[.int .i64 i, .int .i64 j, .int .i64 c] 196)).alloc (.cells #[.int .i64 0, .slice none 0 0] 51) := ⟨_, rfl⟩
  have hsz1 : W1.heap.size = w.heap.size + 3 := by rw [hW1]; simp
  have X1 : Cg w W1 (w.heap.size + 3) n (.int .i64 n) (.slice a m ca) i j c := by
    rw [hW1]
    refine ⟨(box2_below _ _ _ _ _).alloc (by simp; omega) _, by simp, ((Holds.new w _ _).alloc _).alloc _, ?_, ?_⟩
    · have := (Holds.new (w.alloc (.cells #[.int .i64 n, .slice a m ca] 51)) 196 #[.int .i64 i, .int .i64 j, .int .i64 c]).alloc (.cells #[.int .i64 0, .slice none 0 0] 51)
      simpa using this
    · have := Holds.new ((w.alloc (.cells #[.int .i64 n, .slice a m ca] 51)).alloc (.cells #[.int .i64 i, .int .i64 j, .int .i64 c] 196)) 51 #[.int .i64 0, .slice none 0 0]
      simpa using this
  have hsm := hz.small
  have q1 := Lib.hid (zclone_own n a m ca l (by have := h.len; omega) W1 (h.below X1.bl))
  have hcl := Lib.hid (fun (L : List Int) (W : World) (g cap : Nat) (hL : L.length = sz n) (hs : Sees .i64 W.heap.size W (some ⟨g, 0, none⟩) L) => dclose_own n hn (some ⟨g, 0, none⟩) L (sz n) cap hL.symm rfl W hs)
  have hem := Lib.hid (fun (L : List Int) (W : World) (b : Option Addr) (cb : Nat) (hs : SL W b L.length cb L) => zempty_any n b L.length cb L W hs)
  have hW1' := Lib.hid hW1
  have X1' := Lib.hid X1
  have hn' := Lib.hid hn
  have hgs' := Lib.hid hgs
  have hcs' := Lib.hid hcs
  have hz' := Lib.hid hz
  have hsz1' := Lib.hid hsz1
  have hfinal : Hid (∀ (L : List Int) (W : World) (b : Option Addr) (cb : Nat), Cg w W (w.heap.size + 3) n (.int .i64 n) (.slice b L.length cb) i j c → W.ownsRow (w.heap.size + 3) 3 1 (.slice b L.length cb) L.length (nums .i64 L) →
      ZH ((W.setCell ⟨w.heap.size + 1 + 1, 0, none⟩ (.int .i64 n)).setCell ⟨w.heap.size + 1 + 1, 1, none⟩ (.slice b L.length cb)) (w.heap.size + 1 + 1) (.int .i64 n) (.slice b L.length cb) ∧ ZoneE n L 0 w (.returned (.tuple #[.agg #[.int .i64 n, .slice b L.length cb], .int .i64 0])) ((W.setCell ⟨w.heap.size + 1 + 1, 0, none⟩ (.int .i64 n)).setCell ⟨w.heap.size + 1 + 1, 1, none⟩ (.slice b L.length cb))) := Lib.hid (fun L W b cb hC hO => by
    have hO2 := zown_set hO (g := w.heap.size + 1 + 1) (by omega) (.int .i64 n) (.slice b L.length cb)
    obtain ⟨b2, c2, hv, -, ss⟩ := sees_own hO2
    injection hv with e1 _ e3
    subst e1 e3
    exact ⟨zh_set hC.rb _ _, b, cb, rfl, own_cap hO, ss, (hC.bl.setCell (p := ⟨w.heap.size + 1 + 1, 0, none⟩) (by show _ ≤ _ + 1 + 1; omega) _).setCell (p := ⟨w.heap.size + 1 + 1, 1, none⟩) (by show _ ≤ _ + 1 + 1; omega) _, New.own hO (by omega)⟩)
  have hs0' := Lib.hid hs0
  obtain ⟨Q, hQ⟩ : ∃ Q : Nat → List Int, Q 0 = l ∧ Q 1 = (stepL n (fun l => limL n l i.toNat j.toNat c) l) := ⟨fun k => match k with | 0 => l | _ => (stepL n (fun l => limL n l i.toNat j.toNat c) l), rfl, rfl⟩
  have hQ0 : Hid (Q 0 = l) := Lib.hid hQ.1
  have hQ1 : Hid (Q 1 = if Q 0 = [] then [] else closedL n (limL n (Q 0) i.toNat j.toNat c)) := Lib.hid (by rw [hQ.2, hQ.1]; rfl)
  have hZ : Hid (∀ k, k ≤ 1 → IsZ n (Q k)) := Lib.hid (fun k hk => by
    match k, hk with
    | 0, _ => rw [hQ.1]; exact hz
    | 1, _ => rw [hQ.2]; exact stepL_isz hn _ _
    | k + 2, hk => omega)
  have hres : Hid ((stepL n (fun l => limL n l i.toNat j.toNat c) l) = Q 1) := Lib.hid hQ.2.symm
  rw [hres.out]
  clear hW1 X1 h hgs hcs hz hsz1 hn hQ hs0 hres
  go_enter Tryz.func210, Tryz.ntmps210
  go_wp2_with fail
  rw [← hW1'.out]
  refine q1.out.mono ?_
  rintro e w2 ⟨a2, c2, rfl, o2, b2⟩
  have C2 := X1'.out.on b2
  have z0 := C2.zb.cell 0
  have z1 := C2.zb.cell 1
  have f0 := C2.zb.free 0
  have f1 := C2.zb.free 1
  have C3 := Lib.hid (C2.set (.int .i64 n) (.slice a2 l.length c2))
  have O3 := Lib.hid (zown_set (own_from (B := w.heap.size + 3) o2 (fun k hk => by have := (o2.lt k hk).1; have := hsz1'.out; omega)) (g := w.heap.size) (by omega) (.int .i64 n) (.slice a2 l.length c2))
  rw [← hQ0.out] at C3 O3
  rw [← hQ0.out]
  clear C2 o2 b2 q1
  generalize hG : ((w2.setCell ⟨w.heap.size, 0, none⟩ (.int .i64 n)).setCell ⟨w.heap.size, 1, none⟩ (.slice a2 (Q 0).length c2)) = w3 at C3 O3
  have hG' := Lib.hid hG
  clear hG
  go_wp2
  rw [hG'.out]
  clear z0 z1 f0 f1 hG'
  go_loopw [14] (fun x wr => ∃ (k : Nat) (b : Option Addr) (cb : Nat), k ≤ 1 ∧ x = .int .i64 k ∧ Hid (Cg w wr (w.heap.size + 3) n (.int .i64 n) (.slice b (Q k).length cb) i j c) ∧ Hid (wr.ownsRow (w.heap.size + 3) 3 1 (.slice b (Q k).length cb) (Q k).length (nums .i64 (Q k)))) (fun x _ => 1 - (intOf x).toNat)
  case atStart => exact ⟨0, a2, c2, by omega, rfl, C3, O3⟩
  case round =>
    clear C3 O3
    obtain ⟨k, b, cb, hk, rfl, hC, hO⟩ := hrel
    by_cases hlt : k < 1
    · have hki : (k : Int) < 1 := by omega
      obtain rfl : k = 0 := by omega
      have hcell := (hcs'.out wr hC.out.bl)
      obtain ⟨b', cb', hv, -, ss⟩ := sees_own hO.out
      injection hv with e1 _ e3
      subst e1 e3
      have hcap := own_cap hO.out
      have hsmk := (hZ.out 0 (by omega)).small
      have S : Hid (SL wr b (Q 0).length cb (Q 0)) := Lib.hid ⟨rfl, hcap, by omega, ss⟩
      have z0 := hC.out.zb.cell 0
      have z1 := hC.out.zb.cell 1
      have p1 := Lib.hid (hem.out (Q 0) wr b cb S.out)
      clear ss hcap
      by_cases hnil : Q 0 = []
      · have hend : Hid (Q 1 = Q 0) := Lib.hid (by rw [hQ1.out, if_pos hnil, hnil])
        rw [decide_eq_true hnil] at p1
        clear hnil
        go_wp2_with fail
        refine p1.out.mono ?_
        rintro e w5 ⟨rfl, b5⟩
        have C5 := hC.out.on b5
        have O5 := own_below hO.out b5
        have y0 := C5.zb.cell 0
        have y1 := C5.zb.cell 1
        have r0 := C5.rb.cell 0
        have r1 := C5.rb.cell 1
        have g0 := C5.rb.free 0
        have g1 := C5.rb.free 1
        have hfin := Lib.hid (hfinal.out _ _ _ _ C5 O5)
        clear C5 O5 b5 p1 z0 z1
        go_wp2
        rw [hend.out]
        exact zone_ret2 hfin.out.1 hfin.out.2 _ _ 6 7 rfl rfl rfl rfl
      · have hF := ((hZ.out 0 (by omega)).2).resolve_left hnil
        rw [decide_eq_false hnil] at p1
        have hlk := hF.len
        obtain ⟨g, cap, hv, hg⟩ := own_some hO.out (by rw [hlk]; exact sz_pos n)
        injection hv with e1 _ e3
        subst e1 e3
        have hnx : Hid (closedL n (limL n (Q 0) i.toNat j.toNat c) = Q 1) := Lib.hid (by rw [hQ1.out, if_neg hnil])
        rw [hlk] at p1 z1 S hO hC
        try rw [hlk]
        have hst := Lib.hid (fun W hW => hs0'.out (Q 0) g cb (w.heap.size + 3) W hF hlk hW)
        have hflen : Hid ((limL n (Q 0) i.toNat j.toNat c).length = sz n) := Lib.hid (by unfold limL; rw [List.length_set]; exact hlk)
        have hcl2 := Lib.hid (fun W cap hs => hcl.out (limL n (Q 0) i.toNat j.toNat c) W g cap hflen.out hs)
        rw [hnx.out] at hcl2
        go_wp2_with fail
        refine p1.out.mono ?_
        rintro e w5 ⟨rfl, b5⟩
        have C5 := Lib.hid (hC.out.on b5)
        have O5 := Lib.hid (own_below hO.out b5)
        clear b5 p1 z0 z1 hcell
        have z0 := C5.out.zb.cell 0
        have z1 := C5.out.zb.cell 1
        have w0 := C5.out.wb.cell 0
        have w1 := C5.out.wb.cell 1
        have w2' := C5.out.wb.cell 2
        have p5 := Lib.hid (hst.out w5 O5.out)
        go_wp2_with fail
        refine p5.out.mono ?_
        rintro e w6 ⟨rfl, o6, b6⟩
        have C6 := Lib.hid (C5.out.onE (by omega) hg b6)
        obtain ⟨b7, c7, hv7, -, ss⟩ := sees_own o6
        have hlen6 := hflen.out
        rw [hlen6] at hv7
        injection hv7 with e1 _ e3
        subst e1 e3
        clear z0 z1 w0 w1 w2' b6 p5
        have z0 := C6.out.zb.cell 0
        have z1 := C6.out.zb.cell 1
        have p6 := Lib.hid (hcl2.out w6 cb ss)
        go_wp2_with fail
        refine p6.out.mono ?_
        rintro e w8 ⟨a8, c8, rfl, o8, b8⟩
        have C8 := C6.out.on b8
        have y0 := C8.zb.cell 0
        have y1 := C8.zb.cell 1
        have f0 := C8.zb.free 0
        have f1 := C8.zb.free 1
        have C9 := Lib.hid (C8.set (.int .i64 n) (.slice a8 (Q 1).length c8))
        have O9 := Lib.hid (zown_set (own_from (B := w.heap.size + 3) o8 (fun kk hk => by have := (o8.lt kk hk).1; have := C6.out.sz; omega)) (g := w.heap.size) (by omega) (.int .i64 n) (.slice a8 (Q 1).length c8))
        clear C8 o8 b8 p6 z0 z1
        go_wp2
        go_roundw
        case rel => exact ⟨1, a8, c8, by omega, by go_num, C9, O9⟩
        case measure => simp [intOf]
    · have hke : k = 1 := by omega
      subst hke
      have y0 := hC.out.zb.cell 0
      have y1 := hC.out.zb.cell 1
      have r0 := hC.out.rb.cell 0
      have r1 := hC.out.rb.cell 1
      have g0 := hC.out.rb.free 0
      have g1 := hC.out.rb.free 1
      have hfin := Lib.hid (hfinal.out _ _ _ _ hC.out hO.out)
      go_wp2
      exact zone_ret2 hfin.out.1 hfin.out.2 _ _ 6 7 rfl rfl rfl rfl
end Go.Proofs.YtimgocfkogebmaaGreatDoor
namespace Go.Proofs.YtimgocfkogebmaaGreatDoor
open Go.RowKit
set_option linter.unusedVariables false
set_option linter.unusedSimpArgs false
def chkE (n : Int) (l : List Int) (least i j : Int) : Int := if checkB n l = false then 80 else if i < least ∨ n < i ∨ j < 0 ∨ n < j then 1 else 0
theorem zcheck_bad (n least i j : Int) (a : Option Addr) (m c : Nat) (l : List Int) (w : World) (h : SL w a m c l) (hk : checkB n l = false) : Calls Tryz.prog 209 #[.agg #[.int .i64 n, .slice a m c], .int .i64 least, .int .i64 i, .int .i64 j] w (Gives (.int .i64 80) w) := by
  obtain ⟨W1, hW1⟩ : ∃ W1, W1 = w.alloc (.cells #[.int .i64 n, .slice a m c] 51) := ⟨_, rfl⟩
  have hB : Below w.heap.size w W1 := by rw [hW1]; exact box_below _ _ _
  have Z1 : ZH W1 w.heap.size (.int .i64 n) (.slice a m c) := by rw [hW1]; exact Holds.new w _ _
  have q1 := Lib.hid (dcheck_any n a m c l W1 (h.below hB))
  have hW1' := Lib.hid hW1
  have hB' := Lib.hid hB
  have Z1' := Lib.hid Z1
  clear hW1 hB Z1 h
  rw [show chk n l = 80 by unfold chk; rw [hk]; rfl] at q1
  clear hk
  go_enter Tryz.func209, Tryz.ntmps209
  go_wp2_with fail
  rw [← hW1'.out]
  refine q1.out.mono ?_
  rintro e w2 ⟨rfl, b2⟩
  have k0 := (Z1'.out.below b2 Z1'.out.lt).cell 0
  have bl := Lib.hid (hB'.out.trans (b2.mono hB'.out.size))
  clear b2 q1 Z1' hW1'
  go_wp2
  go_ret
  exact ⟨rfl, bl.out⟩
theorem zcheck_c0 (n least i j : Int) (a : Option Addr) (m c : Nat) (l : List Int) (w : World) (h : SL w a m c l) (hk : checkB n l = true) (d1 : i < least) : Calls Tryz.prog 209 #[.agg #[.int .i64 n, .slice a m c], .int .i64 least, .int .i64 i, .int .i64 j] w (Gives (.int .i64 1) w) := by
  obtain ⟨W1, hW1⟩ : ∃ W1, W1 = w.alloc (.cells #[.int .i64 n, .slice a m c] 51) := ⟨_, rfl⟩
  have hB : Below w.heap.size w W1 := by rw [hW1]; exact box_below _ _ _
  have Z1 : ZH W1 w.heap.size (.int .i64 n) (.slice a m c) := by rw [hW1]; exact Holds.new w _ _
  have q1 := Lib.hid (dcheck_any n a m c l W1 (h.below hB))
  have hW1' := Lib.hid hW1
  have hB' := Lib.hid hB
  have Z1' := Lib.hid Z1
  clear hW1 hB Z1 h
  rw [show chk n l = 0 by unfold chk; rw [hk]; rfl] at q1
  clear hk
  go_enter Tryz.func209, Tryz.ntmps209
  go_wp2_with fail
  rw [← hW1'.out]
  refine q1.out.mono ?_
  rintro e w2 ⟨rfl, b2⟩
  have k0 := (Z1'.out.below b2 Z1'.out.lt).cell 0
  have bl := Lib.hid (hB'.out.trans (b2.mono hB'.out.size))
  clear b2 q1 Z1' hW1'
  go_wp2
  go_ret
  exact ⟨rfl, bl.out⟩
theorem zcheck_c1 (n least i j : Int) (a : Option Addr) (m c : Nat) (l : List Int) (w : World) (h : SL w a m c l) (hk : checkB n l = true) (d1 : ¬ i < least) (d2 : n < i) : Calls Tryz.prog 209 #[.agg #[.int .i64 n, .slice a m c], .int .i64 least, .int .i64 i, .int .i64 j] w (Gives (.int .i64 1) w) := by
  obtain ⟨W1, hW1⟩ : ∃ W1, W1 = w.alloc (.cells #[.int .i64 n, .slice a m c] 51) := ⟨_, rfl⟩
  have hB : Below w.heap.size w W1 := by rw [hW1]; exact box_below _ _ _
  have Z1 : ZH W1 w.heap.size (.int .i64 n) (.slice a m c) := by rw [hW1]; exact Holds.new w _ _
  have q1 := Lib.hid (dcheck_any n a m c l W1 (h.below hB))
  have hW1' := Lib.hid hW1
  have hB' := Lib.hid hB
  have Z1' := Lib.hid Z1
  clear hW1 hB Z1 h
  rw [show chk n l = 0 by unfold chk; rw [hk]; rfl] at q1
  clear hk
  go_enter Tryz.func209, Tryz.ntmps209
  go_wp2_with fail
  rw [← hW1'.out]
  refine q1.out.mono ?_
  rintro e w2 ⟨rfl, b2⟩
  have k0 := (Z1'.out.below b2 Z1'.out.lt).cell 0
  have bl := Lib.hid (hB'.out.trans (b2.mono hB'.out.size))
  clear b2 q1 Z1' hW1'
  go_wp2
  go_ret
  exact ⟨rfl, bl.out⟩
theorem zcheck_c2 (n least i j : Int) (a : Option Addr) (m c : Nat) (l : List Int) (w : World) (h : SL w a m c l) (hk : checkB n l = true) (d1 : ¬ i < least) (d2 : ¬ n < i) (d3 : j < 0) : Calls Tryz.prog 209 #[.agg #[.int .i64 n, .slice a m c], .int .i64 least, .int .i64 i, .int .i64 j] w (Gives (.int .i64 1) w) := by
  obtain ⟨W1, hW1⟩ : ∃ W1, W1 = w.alloc (.cells #[.int .i64 n, .slice a m c] 51) := ⟨_, rfl⟩
  have hB : Below w.heap.size w W1 := by rw [hW1]; exact box_below _ _ _
  have Z1 : ZH W1 w.heap.size (.int .i64 n) (.slice a m c) := by rw [hW1]; exact Holds.new w _ _
  have q1 := Lib.hid (dcheck_any n a m c l W1 (h.below hB))
  have hW1' := Lib.hid hW1
  have hB' := Lib.hid hB
  have Z1' := Lib.hid Z1
  clear hW1 hB Z1 h
  rw [show chk n l = 0 by unfold chk; rw [hk]; rfl] at q1
  clear hk
  go_enter Tryz.func209, Tryz.ntmps209
  go_wp2_with fail
  rw [← hW1'.out]
  refine q1.out.mono ?_
  rintro e w2 ⟨rfl, b2⟩
  have k0 := (Z1'.out.below b2 Z1'.out.lt).cell 0
  have bl := Lib.hid (hB'.out.trans (b2.mono hB'.out.size))
  clear b2 q1 Z1' hW1'
  go_wp2
  go_ret
  exact ⟨rfl, bl.out⟩
theorem zcheck_c3 (n least i j : Int) (a : Option Addr) (m c : Nat) (l : List Int) (w : World) (h : SL w a m c l) (hk : checkB n l = true) (d1 : ¬ i < least) (d2 : ¬ n < i) (d3 : ¬ j < 0) (d4 : n < j) : Calls Tryz.prog 209 #[.agg #[.int .i64 n, .slice a m c], .int .i64 least, .int .i64 i, .int .i64 j] w (Gives (.int .i64 1) w) := by
  obtain ⟨W1, hW1⟩ : ∃ W1, W1 = w.alloc (.cells #[.int .i64 n, .slice a m c] 51) := ⟨_, rfl⟩
  have hB : Below w.heap.size w W1 := by rw [hW1]; exact box_below _ _ _
  have Z1 : ZH W1 w.heap.size (.int .i64 n) (.slice a m c) := by rw [hW1]; exact Holds.new w _ _
  have q1 := Lib.hid (dcheck_any n a m c l W1 (h.below hB))
  have hW1' := Lib.hid hW1
  have hB' := Lib.hid hB
  have Z1' := Lib.hid Z1
  clear hW1 hB Z1 h
  rw [show chk n l = 0 by unfold chk; rw [hk]; rfl] at q1
  clear hk
  go_enter Tryz.func209, Tryz.ntmps209
  go_wp2_with fail
  rw [← hW1'.out]
  refine q1.out.mono ?_
  rintro e w2 ⟨rfl, b2⟩
  have k0 := (Z1'.out.below b2 Z1'.out.lt).cell 0
  have bl := Lib.hid (hB'.out.trans (b2.mono hB'.out.size))
  clear b2 q1 Z1' hW1'
  go_wp2
  go_ret
  exact ⟨rfl, bl.out⟩
theorem zcheck_ok (n least i j : Int) (a : Option Addr) (m c : Nat) (l : List Int) (w : World) (h : SL w a m c l) (hk : checkB n l = true) (d1 : ¬ i < least) (d2 : ¬ n < i) (d3 : ¬ j < 0) (d4 : ¬ n < j) : Calls Tryz.prog 209 #[.agg #[.int .i64 n, .slice a m c], .int .i64 least, .int .i64 i, .int .i64 j] w (Gives (.int .i64 0) w) := by
  obtain ⟨W1, hW1⟩ : ∃ W1, W1 = w.alloc (.cells #[.int .i64 n, .slice a m c] 51) := ⟨_, rfl⟩
  have hB : Below w.heap.size w W1 := by rw [hW1]; exact box_below _ _ _
  have Z1 : ZH W1 w.heap.size (.int .i64 n) (.slice a m c) := by rw [hW1]; exact Holds.new w _ _
  have q1 := Lib.hid (dcheck_any n a m c l W1 (h.below hB))
  have hW1' := Lib.hid hW1
  have hB' := Lib.hid hB
  have Z1' := Lib.hid Z1
  clear hW1 hB Z1 h
  rw [show chk n l = 0 by unfold chk; rw [hk]; rfl] at q1
  clear hk
  go_enter Tryz.func209, Tryz.ntmps209
  go_wp2_with fail
  rw [← hW1'.out]
  refine q1.out.mono ?_
  rintro e w2 ⟨rfl, b2⟩
  have k0 := (Z1'.out.below b2 Z1'.out.lt).cell 0
  have bl := Lib.hid (hB'.out.trans (b2.mono hB'.out.size))
  clear b2 q1 Z1' hW1'
  go_wp2
  go_ret
  exact ⟨rfl, bl.out⟩
theorem zcheck_any (n least i j : Int) (a : Option Addr) (m c : Nat) (l : List Int) (w : World) (h : SL w a m c l) : Calls Tryz.prog 209 #[.agg #[.int .i64 n, .slice a m c], .int .i64 least, .int .i64 i, .int .i64 j] w (Gives (.int .i64 (chkE n l least i j)) w) := by
  unfold chkE
  cases hk : checkB n l
  · rw [if_pos rfl]; exact zcheck_bad n least i j a m c l w h hk
  · rw [if_neg (by decide)]
    by_cases d1 : i < least
    · rw [if_pos (.inl d1)]; exact zcheck_c0 n least i j a m c l w h hk d1
    by_cases d2 : n < i
    · rw [if_pos (.inr (.inl d2))]; exact zcheck_c1 n least i j a m c l w h hk d1 d2
    by_cases d3 : j < 0
    · rw [if_pos (.inr (.inr (.inl d3)))]; exact zcheck_c2 n least i j a m c l w h hk d1 d2 d3
    by_cases d4 : n < j
    · rw [if_pos (.inr (.inr (.inr d4)))]; exact zcheck_c3 n least i j a m c l w h hk d1 d2 d3 d4
    · rw [if_neg (by omega)]; exact zcheck_ok n least i j a m c l w h hk d1 d2 d3 d4
theorem chkE_ok {n : Nat} {l : List Int} (hz : IsZ n l) {least i j : Int} (h1 : least ≤ i) (h2 : i ≤ n) (h3 : 0 ≤ j) (h4 : j ≤ n) : chkE n l least i j = 0 := by
  unfold chkE
  rw [hz.check, if_neg (by decide), if_neg (by omega)]
structure B1 (w W : World) (x y : Value) : Prop where
  bl : Below w.heap.size w W
  z1 : ZH W w.heap.size x y
  z2 : ZH W (w.heap.size + 1) (.int .i64 0) (.slice none 0 0)
theorem B1.on {w W W' : World} {x y : Value} (h : B1 w W x y) (hb : Below W.heap.size W W') : B1 w W' x y := ⟨h.bl.trans (hb.mono h.bl.size), h.z1.below hb h.z1.lt, h.z2.below hb h.z2.lt⟩
theorem b1_new (w : World) (x y : Value) : B1 w ((w.alloc (.cells #[x, y] 51)).alloc (.cells #[.int .i64 0, .slice none 0 0] 51)) x y := by
  refine ⟨box2_below _ _ _ _ _, (Holds.new w _ _).alloc _, ?_⟩
  have := Holds.new (w.alloc (.cells #[x, y] 51)) 51 #[.int .i64 0, .slice none 0 0]
  simpa using this
theorem fun_row (W : World) (t : TypeId) (cs : Array Value) : ∀ W', Below (W.alloc (.cells cs t)).heap.size (W.alloc (.cells cs t)) W' → ∀ k v, cs[k]? = some v → W'.cell? ⟨W.heap.size, k, none⟩ = some v := by
  intro W' hW' k v hk
  have := ((Holds.new W t cs).below hW' (by simp)).cell k
  rw [this, hk]
def limitL (n : Nat) (l : List Int) (i j : Nat) (c : Int) : List Int := stepL n (fun l => limL n l i j c) l
set_option maxRecDepth 100000 in
set_option maxHeartbeats 400000 in
theorem zlimit_ok (n : Nat) (l : List Int) (hz : IsZ n l) (i j : Nat) (hi : i ≤ n) (hj : j ≤ n) (c : Int) (a : Option Addr) (m ca : Nat) (w : World) (h : SL w a m ca l)  : Calls Tryz.prog 206 #[.agg #[.int .i64 n, .slice a m ca], .int .i64 i, .int .i64 j, .int .i64 c] w (ZoneE n (limitL n l i j c) 0 w) := by
  obtain ⟨W1, hW1⟩ : ∃ W1, W1 = (w.alloc (.cells #[.int .i64 n, .slice a m ca] 51)).alloc (.cells #[.int .i64 0, .slice none 0 0] 51) := ⟨_, rfl⟩
  have X1 : B1 w W1 (.int .i64 n) (.slice a m ca) := by rw [hW1]; exact b1_new _ _ _
  have q1 := Lib.hid (zcheck_any n 0 i j a m ca l W1 (h.below X1.bl))
  rw [chkE_ok hz (by omega) (by omega) (by omega) (by omega)] at q1
  have hn := hz.1
  have hS := Lib.hid h
  have q2 := Lib.hid (fun W (hW : Below w.heap.size w W) => change_lim n hn l hz a m ca i j c (fun L g cap base W hF hl ho => by simpa using mlimit_any n hn i j hi hj c g cap base L hl W ho) (W.alloc (.cells #[.func (.func 214) #[] #[]] 198)) ((hS.out.below hW).below (box_below _ _ _)) W.heap.size (by simp) (fun W2 hW2 => fun_row _ _ _ W2 hW2 0 _ rfl))
  rw [show stepL n (fun l => limL n l ((i : Int)).toNat ((j : Int)).toNat c) l = limitL n l i j c from rfl] at q2
  have hW1' := Lib.hid hW1
  have X1' := Lib.hid X1
  have hbb := Lib.hid (fun (W : World) => box_below W #[.func (.func 214) #[] #[]] 198)
  clear hW1 X1 h hz
  generalize (limitL n l i j c) = R at *
  go_enter Tryz.func206, Tryz.ntmps206
  go_wp2_with fail
  rw [← hW1'.out]
  refine q1.out.mono ?_
  rintro e w2 ⟨rfl, b2⟩
  have X2 := Lib.hid (X1'.out.on b2)
  clear b2 X1' q1
  have k0 := X2.out.z1.cell 0
  have k1 := X2.out.z1.cell 1
  have kl := X2.out.z1.lt
  have p2 := Lib.hid (q2.out w2 X2.out.bl)
  go_wp2_with fail
  refine p2.out.mono ?_
  rintro e w7 ⟨a7, c7, rfl, hc7, s7, b7, nw7⟩
  have X3 := X2.out.on (hbb.out w2)
  have Zd := X3.z2.below b7 X3.z2.lt
  have y0 := Zd.cell 0
  have y1 := Zd.cell 1
  have f0 := Zd.free 0
  have f1 := Zd.free 1
  have hfin := Lib.hid (zone_put (n := n) (err := 0) X3.bl (by omega) X3.z2 hc7 s7 b7 nw7)
  clear Zd X3 p2
  go_wp2
  exact zone_ret2 hfin.out.1 hfin.out.2.1 _ _ 8 9 rfl rfl rfl rfl
def forgetL (n : Nat) (l : List Int) (i : Nat) : List Int := stepL n (fun l => forL n l i) l
def letMovL (n : Nat) (l : List Int) (i : Nat) (c : Int) : List Int := stepL n (fun l => movL n l i c) l
def letTieL (n : Nat) (l : List Int) (i j : Nat) (c : Int) : List Int := stepL n (fun l => tieL n l i j c) (stepL n (fun l => forL n l i) l)
end Go.Proofs.YtimgocfkogebmaaGreatDoor
namespace Go.Proofs.YtimgocfkogebmaaGreatDoor
open Go.RowKit
set_option linter.unusedVariables false
set_option linter.unusedSimpArgs false
def clipV (n : Int) : Int := if 1099511627776 < n then 1099511627776 else if n < -1099511627776 then -1099511627776 else n
theorem clipV_id {n : Int} (h0 : -1099511627776 ≤ n) (h1 : n ≤ 1099511627776) : clipV n = n := by unfold clipV; rw [if_neg (by omega), if_neg (by omega)]
theorem clipV_in (n : Int) : -1099511627776 ≤ clipV n ∧ clipV n ≤ 1099511627776 := by unfold clipV; split <;> (try split) <;> omega
theorem info_itv : (Tryz.prog.info? 101).map (·.size) = some 2 := by kernel_rfl
abbrev HI (w : World) (g : Nat) (x y : Int) : Prop := Holds w g 101 #[.int .i64 x, .int .i64 y]
theorem hi_set {w : World} {g : Nat} {a b : Int} (h : HI w g a b) (x y : Int) : HI ((w.setCell ⟨g, 0, none⟩ (.int .i64 x)).setCell ⟨g, 1, none⟩ (.int .i64 y)) g x y := by
  have h1 := (h.set 0 (.int .i64 x)).set 1 (.int .i64 y)
  simpa using h1
theorem itv_ret {Q : Ending → World → Prop} {w : World} {g : Nat} {x y : Int} (hg : HI w g x y) (hQ : Q (.returned (.agg #[.int .i64 x, .int .i64 y])) w) (act : Act) (f : Func) (n : Nat) (hf : f.results = #[.cell n 101]) (ha : act.tmps.getD n undef = .pointer (some ⟨g, 0, none⟩)) (hd : act.defers = []) :
    bodyPost Tryz.prog f Q Exit.ret act w :=
  bodyPost_ret (results_cell_row hf _ _ g 101 #[.int .i64 x, .int .i64 y] (0, 0) _ ha hg Tryz.underlying101 rfl (by rw [info_itv]; rfl)) hd hQ
def ofP (a b : Int) : Int × Int := if b < a ∨ 1099511627776 < a ∨ b < -1099511627776 then (1, 0) else (clipV a, clipV b)
structure B1i (w W : World) (x y : Value) : Prop where
  bl : Below w.heap.size w W
  z1 : ZH W w.heap.size x y
  z2 : HI W (w.heap.size + 1) 0 0
theorem B1i.on {w W W' : World} {x y : Value} (h : B1i w W x y) (hb : Below W.heap.size W W') : B1i w W' x y := ⟨h.bl.trans (hb.mono h.bl.size), h.z1.below hb h.z1.lt, h.z2.below hb h.z2.lt⟩
end Go.Proofs.YtimgocfkogebmaaGreatDoor
namespace Go.Proofs.YtimgocfkogebmaaGreatDoor
open Go.RowKit
set_option linter.unusedVariables false
set_option linter.unusedSimpArgs false
def ItS (B : Nat) (w : World) (a : Option Addr) (xs : List (Int × Int)) : Prop :=
  xs = [] ∨ ∃ b off, a = some ⟨b, off, none⟩ ∧ b < B ∧ ∀ k, k < xs.length → w.cell? ⟨b, off + k * 2, none⟩ = some (.int .i64 (xs.getD k (0, 0)).1) ∧ w.cell? ⟨b, off + k * 2 + 1, none⟩ = some (.int .i64 (xs.getD k (0, 0)).2)
theorem ItS.below {B : Nat} {w w' : World} {a : Option Addr} {xs : List (Int × Int)} (h : ItS B w a xs) (hb : Below B w w') : ItS B w' a xs := by
  rcases h with h | ⟨b, off, e, hB, h⟩
  · exact .inl h
  · exact .inr ⟨b, off, e, hB, fun k hk => ⟨(hb.cell (p := ⟨b, _, none⟩) hB).trans (h k hk).1, (hb.cell (p := ⟨b, _, none⟩) hB).trans (h k hk).2⟩⟩
theorem ItS.at_ {B : Nat} {w : World} {a : Option Addr} {xs : List (Int × Int)} (h : ItS B w a xs) {k : Nat} (hk : k < xs.length) : ∃ b off, a = some ⟨b, off, none⟩ ∧ b < B ∧ w.cell? ⟨b, off + k * 2, none⟩ = some (.int .i64 (xs.getD k (0, 0)).1) ∧ w.cell? ⟨b, off + k * 2 + 1, none⟩ = some (.int .i64 (xs.getD k (0, 0)).2) := by
  rcases h with h | ⟨b, off, e, hB, h⟩
  · rw [h] at hk; simp at hk
  · exact ⟨b, off, e, hB, (h k hk).1, (h k hk).2⟩
def boxP (xs : List (Int × Int)) (k : Nat) : Int × Int := ofP (xs.getD k (0, 0)).1 (xs.getD k (0, 0)).2
def boxK (n : Nat) (xs : List (Int × Int)) : Nat → List Int
  | 0 => allL n
  | k + 1 => limL n (limL n (boxK n xs k) (k + 1) 0 (boxP xs k).2) 0 (k + 1) (-(clipV (boxP xs k).1))
theorem boxK_len (n : Nat) (xs : List (Int × Int)) (k : Nat) : (boxK n xs k).length = sz n := by
  induction k with
  | zero => exact matL_len _ _
  | succ k ih => simp only [boxK]; rw [limL_len, limL_len, ih]
structure Bq (w W : World) (g gz : Nat) (n : Nat) (s cap : Nat) : Prop where
  bl : Below w.heap.size w W
  hgz : w.heap.size < gz
  hsz : gz + 2 ≤ W.heap.size
  rb : ZH W w.heap.size (.int .i64 0) (.slice none 0 0)
  zb : ZH W gz (.int .i64 n) (.slice (some ⟨g, 0, none⟩) s cap)
  mb : Holds W (gz + 1) 201 #[.int .i64 n, .slice (some ⟨g, 0, none⟩) s cap]
theorem Bq.on {w W W' : World} {g gz n s cap : Nat} (h : Bq w W g gz n s cap) (hb : Below W.heap.size W W') : Bq w W' g gz n s cap := ⟨h.bl.trans (hb.mono h.bl.size), h.hgz, Nat.le_trans h.hsz hb.size, h.rb.below hb h.rb.lt, h.zb.below hb h.zb.lt, h.mb.below hb h.mb.lt⟩
theorem Bq.onE {w W W' : World} {g gz n s cap : Nat} (h : Bq w W g gz n s cap) (hg : w.heap.size < g) (hgz : g < gz) (hb : BelowE [g] W.heap.size W W') : Bq w W' g gz n s cap :=
  ⟨h.bl.trans (BelowE.none ((hb.mono h.bl.size).less (by intro x hx hlt; simp at hx; omega))), h.hgz, Nat.le_trans h.hsz hb.size, h.rb.belowE hb h.rb.lt (by simp; omega), h.zb.belowE hb h.zb.lt (by simp; omega), h.mb.belowE hb h.mb.lt (by simp; omega)⟩
theorem Bq.set {w W : World} {g gz n s cap q : Nat} (h : Bq w W g gz n s cap) (hq : gz + 2 ≤ q) (u v : Value) : Bq w ((W.setCell ⟨q, 0, none⟩ u).setCell ⟨q, 1, none⟩ v) g gz n s cap :=
  ⟨(h.bl.setCell (p := ⟨q, 0, none⟩) (by have := h.hgz; show _ ≤ q; omega) _).setCell (p := ⟨q, 1, none⟩) (by have := h.hgz; show _ ≤ q; omega) _, h.hgz, by simpa using h.hsz,
   (h.rb.far (p := ⟨q, 0, none⟩) (by have := h.hgz; show _ ≠ q; omega) _).far (p := ⟨q, 1, none⟩) (by have := h.hgz; show _ ≠ q; omega) _, (h.zb.far (p := ⟨q, 0, none⟩) (by show _ ≠ q; omega) _).far (p := ⟨q, 1, none⟩) (by show _ ≠ q; omega) _, (h.mb.far (p := ⟨q, 0, none⟩) (by show _ ≠ q; omega) _).far (p := ⟨q, 1, none⟩) (by show _ ≠ q; omega) _⟩
end Go.Proofs.YtimgocfkogebmaaGreatDoor
namespace Go.Proofs.YtimgocfkogebmaaGreatDoor
open Go.RowKit
set_option linter.unusedVariables false
set_option linter.unusedSimpArgs false
theorem b1_new2 (w : World) (x y x2 y2 : Value) : Below w.heap.size w ((w.alloc (.cells #[x, y] 51)).alloc (.cells #[x2, y2] 51)) ∧ ZH ((w.alloc (.cells #[x, y] 51)).alloc (.cells #[x2, y2] 51)) (w.heap.size + 1) x2 y2 := by
  refine ⟨box2_below _ _ _ _ _, ?_⟩
  have := Holds.new (w.alloc (.cells #[x, y] 51)) 51 #[x2, y2]
  simpa using this
theorem rlim_nil (n : Nat) (i j c : Int) (a : Option Addr) (ca : Nat) (w : World) : Calls Tryz.prog 92 #[.agg #[.int .i64 n, .slice a 0 ca], .int .i64 i, .int .i64 j, .int .i64 c] w (ZoneN n [] w) := by
  obtain ⟨hb, hz⟩ := b1_new2 w (.int .i64 n) (.slice a 0 ca) (.int .i64 n) (.slice a 0 ca)
  have hb' := Lib.hid hb
  have hz' := Lib.hid hz
  clear hb hz
  go_enter Tryz.func92, Tryz.ntmps92
  go_wp2
  exact zone_ret hz'.out ⟨a, 0, ca, rfl, ⟨rfl, Nat.zero_le _, by omega, .inl rfl⟩, hb'.out, .inl rfl⟩ _ _ 8 rfl rfl rfl
set_option maxRecDepth 100000 in
set_option maxHeartbeats 1000000 in
theorem rlim_full (n : Nat) (l : List Int) (hF : Full n l) (i j : Nat) (hi : i ≤ n) (hj : j ≤ n) (c : Int) (a : Option Addr) (m ca : Nat) (w : World) (h : SL w a m ca l) : Calls Tryz.prog 92 #[.agg #[.int .i64 n, .slice a m ca], .int .i64 i, .int .i64 j, .int .i64 c] w (ZoneN n (closedL n (limL n l i j c)) w) := by
  obtain ⟨i0, hii, hz0, hz1, hz2⟩ := info_parts zinfoInt
  obtain ⟨W1, hW1⟩ : ∃ W1, W1 = (w.alloc (.cells #[.int .i64 n, .slice a m ca] 51)).alloc (.cells #[.int .i64 0, .slice none 0 0] 51) := ⟨_, rfl⟩
  have X1 : B1 w W1 (.int .i64 n) (.slice a m ca) := by rw [hW1]; exact b1_new _ _ _
  have hpos := sz_pos n
  have hs81 := sz_le hF.le
  have hm : m = sz n := by rw [h.len, hF.len]
  have p1 : ((m : Int) == 0) = false := by simp; omega
  have p2 : ¬ (m : Int) = 0 := by omega
  obtain ⟨p, q, u1, u2, u3, hq, hqs, -, -, -⟩ := place_wraps hF.le hi hj
  have hqm : (q : Int) < (m : Int) := by omega
  have hL : limL n l i j c = l.set q (min (l.getD q 0) c) := by unfold limL; rw [hq]
  have hrc := Lib.hid (fun b cb W (hs : Sees .i64 W.heap.size W b (limL n l i j c)) => rclose_any n hF.le b (limL n l i j c) m cb (by rw [limL_len, hF.len, hm]) hm W hs)
  have hsm : Hid ((closedL n (limL n l i j c)).length ≤ 1000) := Lib.hid (by have := closed_small hF.le (limL n l i j c); omega)
  have hlm := Lib.hid (show l.length = m by rw [hF.len, hm])
  have hmb : m ≤ 81 := by omega
  have hS := Lib.hid (h.below X1.bl)
  have X1' := Lib.hid X1
  have k0 := X1.z1.cell 0
  have k1 := X1.z1.cell 1
  have hW1' := Lib.hid hW1
  have hbe : Hid (Below W1.heap.size W1 (W1.alloc (.cells #[] 3))) := Lib.hid (box_below _ _ _)
  have hsz1 : Hid (W1.heap.size = w.heap.size + 1 + 1) := Lib.hid (by rw [hW1]; simp)
  have hm0 : Hid (m ≠ 0) := Lib.hid (by omega)
  obtain ⟨x, hx⟩ : ∃ x, x = l.getD q 0 := ⟨_, rfl⟩
  have hxl : Hid (l.getD q 0 = x) := Lib.hid hx.symm
  have hLlt : Hid (c < x → limL n l i j c = l.set q c) := Lib.hid (fun hc => by rw [hL, ← hx, show min x c = c by omega])
  have hLge : Hid (¬ c < x → limL n l i j c = l) := Lib.hid (fun hc => by
    rw [hL, ← hx, show min x c = x by omega, hx]
    apply List.ext_getElem (by simp)
    intro t h1 h2
    rw [List.getElem_set]
    split
    · rename_i e; subst e; simp [List.getD, h2]
    · rfl)
  have hgoal : Hid (∀ (g cap : Nat) (W : World), B1 w W (.int .i64 n) (.slice a m ca) → W.ownsRow W1.heap.size 3 1 (.slice (some ⟨g, 0, none⟩) m cap) m (nums .i64 (limL n l i j c)) → Calls Tryz.prog 116 #[.int .i64 n, .slice (some ⟨g, 0, none⟩) m cap] W (fun e w' => ∃ a7 m7 c7, e = .returned (.agg #[.int .i64 n, .slice a7 m7 c7]) ∧ B1 w w' (.int .i64 n) (.slice a m ca) ∧ SL w' a7 m7 c7 (closedL n (limL n l i j c)) ∧ ZH ((w'.setCell ⟨w.heap.size + 1, 0, none⟩ (.int .i64 n)).setCell ⟨w.heap.size + 1, 1, none⟩ (.slice a7 m7 c7)) (w.heap.size + 1) (.int .i64 n) (.slice a7 m7 c7) ∧ ZoneN n (closedL n (limL n l i j c)) w (.returned (.agg #[.int .i64 n, .slice a7 m7 c7])) ((w'.setCell ⟨w.heap.size + 1, 0, none⟩ (.int .i64 n)).setCell ⟨w.heap.size + 1, 1, none⟩ (.slice a7 m7 c7)))) := Lib.hid (fun g cap W hX hO => by
    obtain ⟨b, cb, hv, -, ss⟩ := sees_own hO
    injection hv with e1 e2 e3
    subst e1 e3
    refine (hrc.out _ cap W ss).mono ?_
    intro e w7 hz7
    obtain ⟨a7, m7, c7, rfl, s7, b7, nw7⟩ := zoneN_of hsm.out hz7
    obtain ⟨f1, f2⟩ := zone_putN (n := n) hX.bl (by omega) hX.z2 s7 b7 nw7
    exact ⟨a7, m7, c7, rfl, hX.on b7, s7, f1, f2⟩)
  clear hW1 X1 h hF hm hpos hq hqs hL hx hrc hsm
  generalize limL n l i j c = L at *
  generalize closedL n L = R at *
  by_cases hc : c < x
  · have hLe := Lib.hid (hLlt.out hc)
    clear hLlt hLge
    go_enter Tryz.func92, Tryz.ntmps92
    go_wp2_with (at_builtin; rw [← hW1'.out]; refine wpList_append_sees _ rfl (.tmp 16) (.tmp 18) 49 rfl W1 3 i0 (.int .i64 0) 8 Tryz.underlying49 hii hz0 hz1 hz2 rfl .i64 _ [] (by exact own_empty 3 .i64 (Below.refl _ W1)) (by exact hbe.out) W1.heap.size a l (by exact hS.out.sees.below hbe.out) m ca hS.out.len (by rw [hsz1.out]; rfl) rfl (by have := hlm.out; simp; omega) (by omega) ?_; intro v2 w2 hown2 hw2; simp only [List.nil_append] at hown2; rw [hlm.out] at hown2; obtain ⟨g, cap, rfl, hg⟩ := own_some hown2 hm0.out; have m0 := own_at hown2 (i := q) (by have := hlm.out; omega); rw [hxl.out] at m0; have mf := hown2.frozenAt q; have X2 := Lib.hid (X1'.out.on hw2); have d0 := X2.out.z1.cell 0; have d1 := X2.out.z1.cell 1; have O2 := Lib.hid hown2; have d2 : (w2.setCell ⟨g, q, none⟩ (.int .i64 c)).cell? ⟨w.heap.size, 0, none⟩ = some (.int .i64 n) := (World.cell?_setCell_far w2 ⟨g, q, none⟩ ⟨w.heap.size, 0, none⟩ (.int .i64 c) (by have := hsz1.out; show g ≠ w.heap.size; omega)).trans d0; clear hown2 hw2 k0 k1)
    have hB1 : Hid (B1 w (w2.setCell ⟨g, q, none⟩ (.int .i64 c)) (.int .i64 n) (.slice a m ca)) := Lib.hid (by
      have hE : BelowE [g] w2.heap.size w2 (w2.setCell ⟨g, q, none⟩ (.int .i64 c)) := (BelowE.refl _ _ _).setIn (p := ⟨g, q, none⟩) (by simp) _
      have := hsz1.out
      exact ⟨X2.out.bl.setCell (p := ⟨g, q, none⟩) (by show _ ≤ g; omega) _, X2.out.z1.belowE hE X2.out.z1.lt (by simp; omega), X2.out.z2.belowE hE X2.out.z2.lt (by simp; omega)⟩)
    have hcall := Lib.hid (hgoal.out g cap _ hB1.out (by rw [hLe.out]; exact own_put O2.out q c))
    refine hcall.out.mono ?_
    rintro e w7 ⟨a7, m7, c7, rfl, Y, s7, z1, z2⟩
    have y0 := Y.z2.cell 0
    have y1 := Y.z2.cell 1
    have f0 := Y.z2.free 0
    have f1 := Y.z2.free 1
    have z1' := Lib.hid z1
    have z2' := Lib.hid z2
    clear Y s7 z1 z2
    go_wp2
    exact zone_ret z1'.out z2'.out _ _ 8 rfl rfl rfl
  · have hLe := Lib.hid (hLge.out hc)
    clear hLlt hLge
    go_enter Tryz.func92, Tryz.ntmps92
    go_wp2_with (at_builtin; rw [← hW1'.out]; refine wpList_append_sees _ rfl (.tmp 16) (.tmp 18) 49 rfl W1 3 i0 (.int .i64 0) 8 Tryz.underlying49 hii hz0 hz1 hz2 rfl .i64 _ [] (by exact own_empty 3 .i64 (Below.refl _ W1)) (by exact hbe.out) W1.heap.size a l (by exact hS.out.sees.below hbe.out) m ca hS.out.len (by rw [hsz1.out]; rfl) rfl (by have := hlm.out; simp; omega) (by omega) ?_; intro v2 w2 hown2 hw2; simp only [List.nil_append] at hown2; rw [hlm.out] at hown2; obtain ⟨g, cap, rfl, hg⟩ := own_some hown2 hm0.out; have m0 := own_at hown2 (i := q) (by have := hlm.out; omega); rw [hxl.out] at m0; have mf := hown2.frozenAt q; have X2 := Lib.hid (X1'.out.on hw2); have d0 := X2.out.z1.cell 0; have d1 := X2.out.z1.cell 1; have O2 := Lib.hid hown2; have B2' := Lib.hid hw2; clear hown2 hw2 k0 k1)
    have hcall := Lib.hid (hgoal.out g cap _ X2.out (by rw [hLe.out]; exact O2.out))
    refine hcall.out.mono ?_
    rintro e w7 ⟨a7, m7, c7, rfl, Y, s7, z1, z2⟩
    have y0 := Y.z2.cell 0
    have y1 := Y.z2.cell 1
    have f0 := Y.z2.free 0
    have f1 := Y.z2.free 1
    have z1' := Lib.hid z1
    have z2' := Lib.hid z2
    clear Y s7 z1 z2
    go_wp2
    exact zone_ret z1'.out z2'.out _ _ 8 rfl rfl rfl
theorem rnone_any (w : World) : Calls Tryz.prog 194 #[] w (Gives (.agg #[.int .i64 1, .int .i64 0]) w) := by
  go_enter Tryz.func194, Tryz.ntmps194
  go_wp2
  exact itv_ret (Holds.new w _ _) ⟨rfl, box_below _ _ _⟩ _ _ 0 rfl rfl rfl
end Go.Proofs.YtimgocfkogebmaaGreatDoor
namespace Go.Proofs.YtimgocfkogebmaaGreatDoor
open Go.RowKit
set_option linter.unusedVariables false
set_option linter.unusedSimpArgs false
theorem rlim_any (n : Nat) (l : List Int) (hz : IsZ n l) (i j : Nat) (hi : i ≤ n) (hj : j ≤ n) (c : Int) (a : Option Addr) (m ca : Nat) (w : World) (h : SL w a m ca l) : Calls Tryz.prog 92 #[.agg #[.int .i64 n, .slice a m ca], .int .i64 i, .int .i64 j, .int .i64 c] w (ZoneN n (limitL n l i j c) w) := by
  unfold limitL stepL
  rcases hz.2 with e | hF
  · subst e
    have hm : m = 0 := by rw [h.len]; rfl
    subst hm
    rw [if_pos rfl]
    exact rlim_nil n i j c a ca w
  · rw [if_neg hF.ne]
    exact rlim_full n l hF i j hi hj c a m ca w h
end Go.Proofs.YtimgocfkogebmaaGreatDoor
namespace Go.Proofs.YtimgocfkogebmaaGreatDoor
open Go.RowKit
set_option linter.unusedVariables false
set_option linter.unusedSimpArgs false
theorem B1.set {w W : World} {x y : Value} (h : B1 w W x y) {g : Nat} (hg : w.heap.size + 2 ≤ g) (o : Nat) (u : Value) : B1 w (W.setCell ⟨g, o, none⟩ u) x y := by
  have hE : BelowE [g] W.heap.size W (W.setCell ⟨g, o, none⟩ u) := (BelowE.refl _ _ _).setIn (p := ⟨g, o, none⟩) (by simp) _
  exact ⟨h.bl.setCell (p := ⟨g, o, none⟩) (by show _ ≤ g; omega) _, h.z1.belowE hE h.z1.lt (by simp; omega), h.z2.belowE hE h.z2.lt (by simp; omega)⟩
end Go.Proofs.YtimgocfkogebmaaGreatDoor
namespace Go.Proofs.YtimgocfkogebmaaGreatDoor
open Go.RowKit
set_option linter.unusedVariables false
set_option linter.unusedSimpArgs false
theorem limL_at {n : Nat} {l : List Int} (hl : l.length = sz n) {i j : Nat} (hi : i ≤ n) (hj : j ≤ n) (c : Int) {a b : Nat} (ha : a ≤ n) (hb : b ≤ n) : mat n (limL n l i j c) a b = if a = i ∧ b = j then min (mat n l i j) c else mat n l a b := by
  have hp : i * (n + 1) + j < l.length := by rw [hl]; exact place_lt hi hj
  by_cases e : a = i ∧ b = j
  · obtain ⟨rfl, rfl⟩ := e
    rw [if_pos ⟨rfl, rfl⟩]
    unfold mat limL
    simp [List.getD, hp]
  · rw [if_neg e]
    have hne : i * (n + 1) + j ≠ a * (n + 1) + b := by
      intro h
      have h1 := congrArg (fun x => x % (n + 1)) h
      have h2 := congrArg (fun x => x / (n + 1)) h
      simp only [place_mod hj, place_mod hb] at h1
      simp only [place_div hj, place_div hb] at h2
      exact e ⟨h2.symm, h1.symm⟩
    unfold mat limL
    simp [List.getD, List.getElem?_set, hne]
def Lies (n : Nat) (D A : List Int) : Prop := A ≠ [] ∧ Leq n (mat n D) (mat n A)
theorem lies_ext {n : Nat} {A B : List Int} (hA : IsZ n A) (hB : IsZ n B) (h : ∀ D, Full n D → (Lies n D A ↔ Lies n D B)) : A = B := by
  rcases hA.2 with eA | fA
  · rcases hB.2 with eB | fB
    · rw [eA, eB]
    · have := ((h B fB).2 ⟨fB.ne, fun i j _ _ => Int.le_refl _⟩).1
      exact absurd eA this
  · have h1 := (h A fA).1 ⟨fA.ne, fun i j _ _ => Int.le_refl _⟩
    have fB := hB.2.resolve_left h1.1
    have h2 := (h B fB).2 ⟨fB.ne, fun i j _ _ => Int.le_refl _⟩
    exact mat_ext fA.len fB.len (fun i j hi hj => Int.le_antisymm (h1.2 i j hi hj) (h2.2 i j hi hj))
theorem full_in {n : Nat} {D : List Int} (hD : Full n D) {i j : Nat} (hi : i ≤ n) (hj : j ≤ n) : mat n D i j ≤ widestF i j ∧ -2199023255552 ≤ mat n D i j := by
  have a := hD.up hi hj
  have b := hD.low hi hj
  have c := widestF_le j i
  omega
theorem lies_step {n : Nat} {D X : List Int} (hD : Full n D) (hX : IsZ n X) (f : List Int → List Int) (P : Prop) (hf : X ≠ [] → ((∀ i j, i ≤ n → j ≤ n → mat n D i j ≤ mat n (f X) i j) ↔ Leq n (mat n D) (mat n X) ∧ P)) : Lies n D (stepL n f X) ↔ Lies n D X ∧ P := by
  unfold stepL
  by_cases e : X = []
  · rw [if_pos e]
    constructor
    · intro h; exact absurd rfl h.1
    · intro h; exact absurd e h.1.1
  · rw [if_neg e]
    have hc : Leq n (mat n D) (mat n (clipL n (f X))) ↔ ∀ i j, i ≤ n → j ≤ n → mat n D i j ≤ mat n (f X) i j := by
      constructor
      · intro h i j hi hj
        have a := h i j hi hj
        unfold clipL at a
        rw [mat_matL _ hi hj] at a
        unfold clipF at a
        have := full_in hD hi hj
        omega
      · intro h i j hi hj
        have a := h i j hi hj
        have := full_in hD hi hj
        unfold clipL
        rw [mat_matL _ hi hj]
        unfold clipF
        omega
    constructor
    · intro h
      obtain ⟨-, -, h5⟩ := closedL_is h.1
      obtain ⟨q1, q2⟩ := (hf e).1 (hc.1 (fun i j hi hj => Int.le_trans (h.2 i j hi hj) (h5 i j hi hj)))
      exact ⟨⟨e, q1⟩, q2⟩
    · rintro ⟨⟨-, h1⟩, h2⟩
      obtain ⟨q1, q2⟩ := closedL_max hD.closed (hc.2 ((hf e).2 ⟨h1, h2⟩))
      exact ⟨closedL_ne q1, q2⟩
theorem lim_leq {n : Nat} {D l : List Int} (hl : l.length = sz n) {i j : Nat} (hi : i ≤ n) (hj : j ≤ n) (c : Int) : (∀ a b, a ≤ n → b ≤ n → mat n D a b ≤ mat n (limL n l i j c) a b) ↔ Leq n (mat n D) (mat n l) ∧ mat n D i j ≤ c := by
  constructor
  · intro h
    refine ⟨fun a b ha hb => ?_, ?_⟩
    · have q := h a b ha hb
      rw [limL_at hl hi hj c ha hb] at q
      split at q
      · rename_i e; obtain ⟨rfl, rfl⟩ := e; omega
      · exact q
    · have q := h i j hi hj
      rw [limL_at hl hi hj c hi hj, if_pos ⟨rfl, rfl⟩] at q
      omega
  · rintro ⟨h1, h2⟩ a b ha hb
    have q := h1 a b ha hb
    rw [limL_at hl hi hj c ha hb]
    split
    · rename_i e; obtain ⟨rfl, rfl⟩ := e; omega
    · exact q
theorem lies_limit {n : Nat} {D X : List Int} (hD : Full n D) (hX : IsZ n X) {i j : Nat} (hi : i ≤ n) (hj : j ≤ n) (c : Int) : Lies n D (limitL n X i j c) ↔ Lies n D X ∧ mat n D i j ≤ c :=
  lies_step hD hX _ _ (fun e => lim_leq (hX.2.resolve_left e).len hi hj c)
end Go.Proofs.YtimgocfkogebmaaGreatDoor
namespace Go.Proofs.YtimgocfkogebmaaGreatDoor
open Go.RowKit
set_option linter.unusedVariables false
set_option linter.unusedSimpArgs false
def letL (n : Nat) (l : List Int) (i j : Nat) (c : Int) : List Int := if i = j then letMovL n l i c else letTieL n l i j c
theorem letL_isz {n : Nat} (hn : n ≤ 8) (l : List Int) (i j : Nat) (c : Int) : IsZ n (letL n l i j c) := by
  unfold letL
  split
  · exact stepL_isz hn _ _
  · exact stepL_isz hn _ _
end Go.Proofs.YtimgocfkogebmaaGreatDoor
namespace Go.Proofs.YtimgocfkogebmaaGreatDoor
open Go.RowKit
set_option linter.unusedVariables false
set_option linter.unusedSimpArgs false
theorem lim_leqF {n : Nat} {D : Nat → Nat → Int} {l : List Int} (hl : l.length = sz n) {i j : Nat} (hi : i ≤ n) (hj : j ≤ n) (c : Int) : Leq n D (mat n (limL n l i j c)) ↔ Leq n D (mat n l) ∧ D i j ≤ c := by
  constructor
  · intro h
    refine ⟨fun a b ha hb => ?_, ?_⟩
    · have q := h a b ha hb
      rw [limL_at hl hi hj c ha hb] at q
      split at q
      · rename_i e; obtain ⟨rfl, rfl⟩ := e; omega
      · exact q
    · have q := h i j hi hj
      rw [limL_at hl hi hj c hi hj, if_pos ⟨rfl, rfl⟩] at q
      omega
  · rintro ⟨h1, h2⟩ a b ha hb
    have q := h1 a b ha hb
    rw [limL_at hl hi hj c ha hb]
    split
    · rename_i e; obtain ⟨rfl, rfl⟩ := e; omega
    · exact q
end Go.Proofs.YtimgocfkogebmaaGreatDoor
namespace Go.Proofs.YtimgocfkogebmaaGreatDoor
open Go.RowKit
set_option linter.unusedVariables false
set_option linter.unusedSimpArgs false
theorem limitL_isz {n : Nat} (hn : n ≤ 8) (l : List Int) (i j : Nat) (c : Int) : IsZ n (limitL n l i j c) := stepL_isz hn _ _
end Go.Proofs.YtimgocfkogebmaaGreatDoor
namespace Go.Proofs.YtimgocfkogebmaaGreatDoor
open Go.RowKit
set_option linter.unusedVariables false
set_option linter.unusedSimpArgs false
theorem rclipV_any (n : Int) (w : World) : Calls Tryz.prog 195 #[.int .i64 n] w (Tells (.int .i64 (clipV n)) w) := by
  unfold clipV
  go_enter Tryz.func195, Tryz.ntmps195
  by_cases h1 : 1099511627776 < n
  · rw [if_pos h1]
    go_wp2
    go_ret
    exact ⟨rfl, rfl⟩
  · rw [if_neg h1]
    by_cases h2 : n < -1099511627776
    · rw [if_pos h2]
      go_wp2
      go_ret
      exact ⟨rfl, rfl⟩
    · rw [if_neg h2]
      go_wp2
      go_ret
      exact ⟨rfl, rfl⟩
theorem new_far {w : World} {a : Option Addr} {l : List Int} {g : Nat} (h : New w a) (hg : g < w.heap.size) : l = [] ∨ ∀ p, a = some p → g ≠ p.block := by
  right
  intro p hp
  have := h p hp
  omega
end Go.Proofs.YtimgocfkogebmaaGreatDoor
namespace Go.Proofs.YtimgocfkogebmaaGreatDoor
open Go.RowKit
set_option linter.unusedVariables false
set_option linter.unusedSimpArgs false
theorem ofP_in (a b : Int) : (-1099511627776 ≤ (ofP a b).1 ∧ (ofP a b).1 ≤ 1099511627776) ∧ (-1099511627776 ≤ (ofP a b).2 ∧ (ofP a b).2 ≤ 1099511627776) := by
  unfold ofP
  split
  · exact ⟨⟨by decide, by decide⟩, by decide, by decide⟩
  · exact ⟨clipV_in a, clipV_in b⟩
theorem boxP_in (xs : List (Int × Int)) (k : Nat) : (-1099511627776 ≤ (boxP xs k).1 ∧ (boxP xs k).1 ≤ 1099511627776) ∧ (-1099511627776 ≤ (boxP xs k).2 ∧ (boxP xs k).2 ≤ 1099511627776) := ofP_in _ _
theorem boxK_leq {n : Nat} {D : Nat → Nat → Int} (xs : List (Int × Int)) : ∀ k, k ≤ n → (Leq n D (mat n (boxK n xs k)) ↔ Leq n D (mat n (allL n)) ∧ ∀ t, t < k → D (t + 1) 0 ≤ (boxP xs t).2 ∧ D 0 (t + 1) ≤ -(boxP xs t).1) := by
  intro k
  induction k with
  | zero =>
    intro _
    constructor
    · intro h; exact ⟨h, fun t ht => by omega⟩
    · intro h; exact h.1
  | succ k ih =>
    intro hk
    have h := ih (by omega)
    have hl := boxK_len n xs k
    have e : boxK n xs (k + 1) = limL n (limL n (boxK n xs k) (k + 1) 0 (boxP xs k).2) 0 (k + 1) (-(clipV (boxP xs k).1)) := rfl
    rw [e, lim_leqF (by rw [limL_len, hl]) (Nat.zero_le _) hk, lim_leqF hl hk (Nat.zero_le _), h, clipV_id (boxP_in xs k).1.1 (boxP_in xs k).1.2]
    constructor
    · rintro ⟨⟨⟨q1, q2⟩, q3⟩, q4⟩
      refine ⟨q1, fun t ht => ?_⟩
      by_cases e2 : t = k
      · subst e2; exact ⟨q3, q4⟩
      · exact q2 t (by omega)
    · rintro ⟨q1, q2⟩
      exact ⟨⟨⟨q1, fun t ht => q2 t (by omega)⟩, (q2 k (by omega)).1⟩, (q2 k (by omega)).2⟩
theorem allL_full {n : Nat} (hn : n ≤ 8) : Full n (allL n) := by
  have e : closedL n (allL n) = allL n := by
    refine closedL_fix (matL_len _ _) ⟨fun i hi => ?_, fun i j k hi hj hk => ?_⟩ (fun i j hi hj => ?_)
    · unfold allL; rw [mat_matL _ hi hi]; unfold widestF; rw [if_pos rfl]
    · unfold allL
      rw [mat_matL _ hi hj, mat_matL _ hi hk, mat_matL _ hk hj]
      unfold widestF
      (repeat' split) <;> omega
    · unfold allL; rw [mat_matL _ hi hj]; exact Int.le_refl _
  have hl : (allL n).length = sz n := matL_len _ _
  exact ⟨hn, hl, by intro q; rw [q] at hl; exact sz_pos n hl.symm, e.symm⟩
def rbxK (n : Nat) (xs : List (Int × Int)) : Nat → List Int
  | 0 => allL n
  | k + 1 => limitL n (limitL n (rbxK n xs k) (k + 1) 0 (boxP xs k).2) 0 (k + 1) (-(boxP xs k).1)
theorem rbxK_isz {n : Nat} (hn : n ≤ 8) (xs : List (Int × Int)) (k : Nat) : IsZ n (rbxK n xs k) := by
  cases k with
  | zero => exact ⟨hn, .inr (allL_full hn)⟩
  | succ k => exact limitL_isz hn _ _ _ _
theorem lies_rbx {n : Nat} (hn : n ≤ 8) (xs : List (Int × Int)) {D : List Int} (hD : Full n D) : ∀ k, k ≤ n → (Lies n D (rbxK n xs k) ↔ Lies n D (allL n) ∧ ∀ t, t < k → mat n D (t + 1) 0 ≤ (boxP xs t).2 ∧ mat n D 0 (t + 1) ≤ -(boxP xs t).1) := by
  intro k
  induction k with
  | zero =>
    intro _
    constructor
    · intro h; exact ⟨h, fun t ht => by omega⟩
    · intro h; exact h.1
  | succ k ih =>
    intro hk
    have h := ih (by omega)
    have e : rbxK n xs (k + 1) = limitL n (limitL n (rbxK n xs k) (k + 1) 0 (boxP xs k).2) 0 (k + 1) (-(boxP xs k).1) := rfl
    rw [e, lies_limit hD (limitL_isz hn _ _ _ _) (Nat.zero_le _) hk, lies_limit hD (rbxK_isz hn xs k) hk (Nat.zero_le _), h]
    constructor
    · rintro ⟨⟨⟨q1, q2⟩, q3⟩, q4⟩
      refine ⟨q1, fun t ht => ?_⟩
      by_cases e2 : t = k
      · subst e2; exact ⟨q3, q4⟩
      · exact q2 t (by omega)
    · rintro ⟨q1, q2⟩
      exact ⟨⟨⟨q1, fun t ht => q2 t (by omega)⟩, (q2 k (by omega)).1⟩, (q2 k (by omega)).2⟩
def boxL (n : Nat) (xs : List (Int × Int)) : List Int := closedL n (boxK n xs n)
theorem boxL_isz {n : Nat} (hn : n ≤ 8) (xs : List (Int × Int)) : IsZ n (boxL n xs) := by
  unfold boxL
  by_cases h : closedL n (boxK n xs n) = []
  · rw [h]; exact ⟨hn, .inl rfl⟩
  · exact ⟨hn, .inr (closed_full hn h)⟩
theorem box_both {n : Nat} (hn : n ≤ 8) (xs : List (Int × Int)) : boxL n xs = rbxK n xs n := by
  have hA := allL_full hn
  refine lies_ext (boxL_isz hn xs) (rbxK_isz hn xs n) (fun D hD => ?_)
  rw [lies_rbx hn xs hD n (Nat.le_refl _)]
  have e : boxL n xs = stepL n (fun _ => boxK n xs n) (allL n) := by unfold boxL stepL; rw [if_neg hA.ne]
  rw [e]
  exact lies_step hD ⟨hn, .inr hA⟩ _ _ (fun _ => boxK_leq xs n (Nat.le_refl _))
end Go.Proofs.YtimgocfkogebmaaGreatDoor
namespace Go.Proofs.YtimgocfkogebmaaGreatDoor
open Go.RowKit
set_option linter.unusedVariables false
set_option linter.unusedSimpArgs false
theorem rofZ_any (a b : Int) (w : World) : Calls Tryz.prog 159 #[.int .i64 a, .int .i64 b] w (Gives (.agg #[.int .i64 (ofP a b).1, .int .i64 (ofP a b).2]) w) := by
  have hn := Lib.hid (fun w => rnone_any w)
  have c1 := Lib.hid (fun w => rclipV_any a w)
  have c2 := Lib.hid (fun w => rclipV_any b w)
  have hB := Lib.hid (box_below w #[.int .i64 0, .int .i64 0] 101)
  have hr := Lib.hid (show HI _ w.heap.size 0 0 from Holds.new w 101 #[.int .i64 0, .int .i64 0])
  unfold ofP
  by_cases h : b < a ∨ 1099511627776 < a ∨ b < -1099511627776
  · rw [if_pos h]
    have hd : (decide (b < a) || decide (1099511627776 < a) || decide (b < -1099511627776)) = true := by simp; omega
    clear h
    go_enter Tryz.func159, Tryz.ntmps159
    go_wp2_with fail
    all_goals (
      refine (hn.out _).mono ?_
      rintro e w1 ⟨rfl, h1⟩
      have k := hr.out.below h1 hr.out.lt
      have c0 := k.cell 0
      have c1 := k.cell 1
      have f0 := k.free 0
      have f1 := k.free 1
      have hfin := Lib.hid (hi_set k 1 0)
      have kb := Lib.hid (((hB.out.trans (h1.mono hB.out.size)).setCell (p := ⟨w.heap.size, 0, none⟩) (Nat.le_refl _) (.int .i64 1)).setCell (p := ⟨w.heap.size, 1, none⟩) (Nat.le_refl _) (.int .i64 0))
      clear k h1
      go_wp2
      exact itv_ret hfin.out ⟨rfl, kb.out⟩ _ _ 4 rfl rfl rfl)
  · rw [if_neg h]
    have d1 : decide (b < a) = false := by simp; omega
    have d2 : decide (1099511627776 < a) = false := by simp; omega
    have d3 : decide (b < -1099511627776) = false := by simp; omega
    generalize clipV a = x at *
    generalize clipV b = y at *
    clear h
    go_enter Tryz.func159, Tryz.ntmps159
    go_wp2_with fail
    refine (c1.out _).mono ?_
    rintro e w' ⟨rfl, rfl⟩
    go_wp2_with fail
    refine (c2.out _).mono ?_
    rintro e w' ⟨rfl, rfl⟩
    go_wp2
    exact itv_ret (Holds.new w _ _) ⟨rfl, box_below _ _ _⟩ _ _ 4 rfl rfl rfl
theorem rplainZ_any (a b : Int) (w : World) : Calls Tryz.prog 115 #[.agg #[.int .i64 a, .int .i64 b]] w (Gives (.agg #[.int .i64 (ofP a b).1, .int .i64 (ofP a b).2]) w) := by
  have c1 := Lib.hid (fun w => rofZ_any a b w)
  generalize ofP a b = P at *
  obtain ⟨W1, hW1⟩ : ∃ W1, W1 = (w.alloc (.cells #[.int .i64 a, .int .i64 b] 101)).alloc (.cells #[.int .i64 0, .int .i64 0] 101) := ⟨_, rfl⟩
  have hB : Below w.heap.size w W1 := by rw [hW1]; exact box2_below _ _ _ _ _
  have Z2 : HI W1 (w.heap.size + 1) 0 0 := by
    rw [hW1]
    have := Holds.new (w.alloc (.cells #[.int .i64 a, .int .i64 b] 101)) 101 #[.int .i64 0, .int .i64 0]
    simpa using this
  have hW1' := Lib.hid hW1
  have hB' := Lib.hid hB
  have Z2' := Lib.hid Z2
  clear hW1 hB Z2
  go_enter Tryz.func115, Tryz.ntmps115
  go_wp2_with fail
  rw [← hW1'.out]
  refine (c1.out _).mono ?_
  rintro e w1 ⟨rfl, b1⟩
  have k := Z2'.out.below b1 Z2'.out.lt
  have c0 := k.cell 0
  have c1 := k.cell 1
  have f0 := k.free 0
  have f1 := k.free 1
  have hfin := Lib.hid (hi_set k P.1 P.2)
  have kb := Lib.hid (((hB'.out.trans (b1.mono hB'.out.size)).setCell (p := ⟨w.heap.size + 1, 0, none⟩) (by show _ ≤ _ + 1; omega) (.int .i64 P.1)).setCell (p := ⟨w.heap.size + 1, 1, none⟩) (by show _ ≤ _ + 1; omega) (.int .i64 P.2))
  clear k b1
  go_wp2
  exact itv_ret hfin.out ⟨rfl, kb.out⟩ _ _ 2 rfl rfl rfl
theorem new_far2 {w : World} {a : Option Addr} {l : List Int} {g : Nat} (h : l = [] ∨ New w a) (hg : g < w.heap.size) : l = [] ∨ ∀ p, a = some p → g ≠ p.block := by
  rcases h with e | h
  · exact .inl e
  · exact new_far h hg
end Go.Proofs.YtimgocfkogebmaaGreatDoor
namespace Go.Proofs.YtimgocfkogebmaaGreatDoor
open Go.RowKit
set_option linter.unusedVariables false
set_option linter.unusedSimpArgs false
structure Rb (w W : World) (gz n : Nat) (a : Option Addr) (m c : Nat) : Prop where
  bl : Below w.heap.size w W
  rb : ZH W w.heap.size (.int .i64 0) (.slice none 0 0)
  zb : ZH W gz (.int .i64 n) (.slice a m c)
theorem Rb.on {w W W' : World} {gz n : Nat} {a : Option Addr} {m c : Nat} (h : Rb w W gz n a m c) (hb : Below W.heap.size W W') : Rb w W' gz n a m c := ⟨h.bl.trans (hb.mono h.bl.size), h.rb.below hb h.rb.lt, h.zb.below hb h.zb.lt⟩
theorem rb_set {w W : World} {gz n : Nat} {a : Option Addr} {m c : Nat} (h : Rb w W gz n a m c) (hg : w.heap.size < gz) (m2 : Nat) (a2 : Option Addr) (c2 : Nat) : Rb w ((W.setCell ⟨gz, 0, none⟩ (.int .i64 n)).setCell ⟨gz, 1, none⟩ (.slice a2 m2 c2)) gz n a2 m2 c2 :=
  ⟨(h.bl.setCell (p := ⟨gz, 0, none⟩) (by show _ ≤ gz; omega) _).setCell (p := ⟨gz, 1, none⟩) (by show _ ≤ gz; omega) _, (h.rb.far (p := ⟨gz, 0, none⟩) (by show _ ≠ gz; omega) _).far (p := ⟨gz, 1, none⟩) (by show _ ≠ gz; omega) _, zh_set h.zb _ _⟩
set_option maxRecDepth 100000 in
set_option maxHeartbeats 2000000 in
theorem rbox_any (n : Nat) (hn : n ≤ 8) (xs : List (Int × Int)) (hx : xs.length = n) (a : Option Addr) (c : Nat) (w : World) (h : ItS w.heap.size w a xs) : Calls Tryz.prog 65 #[.slice a n c] w (ZoneR n (boxL n xs) w) := by
  rw [box_both hn xs]
  obtain ⟨W1, hW1⟩ : ∃ W1, W1 = w.alloc (.cells #[.int .i64 0, .slice none 0 0] 51) := ⟨_, rfl⟩
  obtain ⟨hB, hz⟩ : Below w.heap.size w W1 ∧ ZH W1 w.heap.size (.int .i64 0) (.slice none 0 0) := by rw [hW1]; exact zone_new
  have q1 := Lib.hid (rall_any n hn W1)
  have hal : Hid ((allL n).length ≤ 81) := Lib.hid (rbxK_isz hn xs 0).small
  have hst : Hid (∀ k, rbxK n xs (k + 1) = limitL n (limitL n (rbxK n xs k) (k + 1) 0 (boxP xs k).2) 0 (k + 1) (-(boxP xs k).1)) := Lib.hid (fun k => rfl)
  have hlk := Lib.hid (fun k => rbxK_isz hn xs k)
  have l1 := Lib.hid (fun L (hL : IsZ n L) k (hk : k + 1 ≤ n) cc a m ca W hS => (rlim_any n L hL (k + 1) 0 hk (Nat.zero_le _) cc a m ca W hS).mono (fun e w' h => h.r))
  have l2 := Lib.hid (fun L (hL : IsZ n L) k (hk : k + 1 ≤ n) cc a m ca W hS => rlim_any n L hL 0 (k + 1) (Nat.zero_le _) hk cc a m ca W hS)
  have h12 := Lib.hid (fun L i j cc => limitL_isz hn L i j cc)
  have hpi := Lib.hid (boxP_in xs)
  have hW1' := Lib.hid hW1
  have hB' := Lib.hid hB
  have hz' := Lib.hid hz
  have hx' := Lib.hid hx
  have hI := Lib.hid h
  have hni : (n : Int) ≤ 8 := by omega
  clear hW1 hB hz h hx hn
  go_enter Tryz.func65, Tryz.ntmps65
  go_wp2_with fail
  rw [← hW1'.out]
  refine q1.out.mono ?_
  rintro e w2 ⟨a2, c2, rfl, hc2, s2, b2, n2⟩
  obtain ⟨m2, hm2⟩ : ∃ m, m = (allL n).length := ⟨_, rfl⟩
  rw [← hm2] at hc2 ⊢
  have S2 : SL w2 a2 m2 c2 (rbxK n xs 0) := ⟨hm2, hc2, by have := hal.out; omega, s2⟩
  obtain ⟨W3, hW3⟩ : ∃ W3, W3 = w2.alloc (.cells #[.int .i64 n, .slice a2 m2 c2] 51) := ⟨_, rfl⟩
  have b3 : Below w2.heap.size w2 W3 := by rw [hW3]; exact box_below _ _ _
  have R3 : Rb w W3 w2.heap.size n a2 m2 c2 := ⟨(hB'.out.trans (b2.mono hB'.out.size)).trans (b3.mono (Nat.le_trans hB'.out.size b2.size)), (hz'.out.below b2 hz'.out.lt).below b3 (hz'.out.below b2 hz'.out.lt).lt, by rw [hW3]; exact Holds.new _ _ _⟩
  have hgz : w.heap.size < w2.heap.size := (hz'.out.below b2 hz'.out.lt).lt
  have S3 := Lib.hid (S2.below b3)
  have N3 := Lib.hid (new_far (l := rbxK n xs 0) (g := w.heap.size) n2 hz'.out.lt)
  have R3' := Lib.hid R3
  have hW3' := Lib.hid hW3
  clear hW3 R3 S2 s2 n2 b2 b3 hc2 hm2 q1 hal hB' hz'
  generalize hgzz : w2.heap.size = gz at *
  have hgz2 := Lib.hid hgzz
  clear hgzz
  go_wp2
  rw [hgz2.out]
  rw [← hW3'.out]
  go_loopw [4] (fun x wr => ∃ (k : Nat) (a : Option Addr) (m c : Nat), k ≤ n ∧ x = .int .i64 k ∧ Hid (Rb w wr gz n a m c) ∧ Hid (SL wr a m c (rbxK n xs k)) ∧ Hid (rbxK n xs k = [] ∨ ∀ p, a = some p → w.heap.size ≠ p.block)) (fun x _ => n - (intOf x).toNat)
  case atStart => exact ⟨0, a2, m2, c2, by omega, rfl, R3', S3, N3⟩
  case round =>
    clear S3 R3' N3 hW3' hgz2
    obtain ⟨k, az, mz, cz, hk, rfl, hR, hS, hN⟩ := hrel
    by_cases hlt : k < n
    · have hki : (k : Int) < (n : Int) := by omega
      have ku : IntKind.i64.wrap ((k : Int) + 1) = (k : Int) + 1 := wrap_small (by omega) (by omega)
      obtain ⟨b, off, rfl, -, i0, i1⟩ := (hI.out.below hR.out.bl).at_ (k := k) (by have := hx'.out; omega)
      have hpl := Lib.hid (fun W => rplainZ_any (xs.getD k (0, 0)).1 (xs.getD k (0, 0)).2 W)
      have hP : Hid (ofP (xs.getD k (0, 0)).1 (xs.getD k (0, 0)).2 = boxP xs k) := Lib.hid rfl
      rw [hP.out] at hpl
      have p1 := Lib.hid (l1.out (rbxK n xs k) (hlk.out k) k (by omega) (boxP xs k).2)
      have p2 := Lib.hid (l2.out (limitL n (rbxK n xs k) (k + 1) 0 (boxP xs k).2) (h12.out _ _ _ _) k (by omega) (-(boxP xs k).1))
      rw [← hst.out k] at p2
      have hkn : ((k + 1 : Nat) : Int) = (k : Int) + 1 := by omega
      rw [hkn] at p1 p2
      rw [show ((0 : Nat) : Int) = 0 from rfl] at p1 p2
      have pin := (hpi.out k).1
      have hw1 : IntKind.i64.wrap (-(boxP xs k).1) = -(boxP xs k).1 := IntWalk.i64_in _ (by omega)
      obtain ⟨L2, hL2⟩ : ∃ L, rbxK n xs (k + 1) = L := ⟨_, rfl⟩
      rw [hL2] at p2
      have hL := Lib.hid hL2
      clear hL2
      generalize limitL n (rbxK n xs k) (k + 1) 0 (boxP xs k).2 = L1 at *
      generalize rbxK n xs k = L0 at *
      generalize boxP xs k = P at *
      generalize (xs.getD k (0, 0)).1 = x at *
      generalize (xs.getD k (0, 0)).2 = y at *
      clear hP hkn
      go_wp2_with fail
      refine (hpl.out _).mono ?_
      rintro e v1 ⟨rfl, b1⟩
      have b2 := box_below v1 #[.int .i64 P.1, .int .i64 P.2] 101
      have R5 := Lib.hid ((hR.out.on b1).on b2)
      have S5 := Lib.hid ((hS.out.below b1).below b2)
      have Z5 := Lib.hid (Holds.new v1 101 #[.int .i64 P.1, .int .i64 P.2])
      have hlt5 : gz < v1.heap.size := (hR.out.on b1).zb.lt
      clear b1 b2 hR hS hN
      generalize P.1 = P1 at *
      generalize P.2 = P2 at *
      go_wp2
      generalize v1.alloc (.cells #[.int .i64 P1, .int .i64 P2] 101) = V at *
      generalize v1.heap.size = g5 at *
      have k0 := R5.out.zb.cell 0
      have k1 := R5.out.zb.cell 1
      have hx5 : g5 ∉ [gz] := by simp; omega
      have f0 : ∀ W, BelowE [gz] V.heap.size V W → W.cell? ⟨g5, 0, none⟩ = some (.int .i64 P1) := fun W hW => (Z5.out.belowE hW Z5.out.lt hx5).cell 0
      have f1 : ∀ W, BelowE [gz] V.heap.size V W → W.cell? ⟨g5, 1, none⟩ = some (.int .i64 P2) := fun W hW => (Z5.out.belowE hW Z5.out.lt hx5).cell 1
      refine wp_drawn_on (fun W => BelowE [gz] V.heap.size V W) (by kernel_rfl) ((BelowE.refl _ _ _).drew) (fun hHeld => ?_)
      refine wpAnyH_take (i := 1) (oi := { dst := some 21, op := Go.Op.move (Go.Operand.tmp 4), type := 3, pos := "ref.go:162", after := #[], guard := none }) (v := ?v1) rfl (by kernel_rfl) (by kernel_rfl) (by kernel_rfl) (fun _ _ _ h => h) (Or.inl ⟨by kernel_rfl, ?h1⟩) (by assumption) ?r1
      case h1 => (intro w hSw; (try dsimp only at hSw); go_simp; try with_reducible rfl)
      try simp only [Act.put, List.setIfInBounds_toArray, List.set_cons_zero, List.set_cons_succ]
      refine wpAnyH_take (i := 2) (oi := { dst := some 22, op := Go.Op.binOp Go.BinOp.add 3 (Go.Operand.tmp 21) (Go.Operand.const (Go.Value.int Go.IntKind.i64 1)) 3, type := 3, pos := "ref.go:162", after := #[{ on := 1, ground := Go.Ground.data }], guard := none }) (v := ?v2) rfl (by kernel_rfl) (by kernel_rfl) (by kernel_rfl) (fun _ _ _ h => h) (Or.inl ⟨by kernel_rfl, ?h2⟩) (by assumption) ?r2
      case h2 => (intro w hSw; (try dsimp only at hSw); go_simp; try with_reducible rfl)
      try simp only [Act.put, List.setIfInBounds_toArray, List.set_cons_zero, List.set_cons_succ]
      refine wpAnyH_take (i := 3) (oi := { dst := some 23, op := Go.Op.fieldAddr 101 (Go.Operand.tmp 5) 1, type := 0, pos := "ref.go:162", after := #[], guard := none }) (v := ?v3) rfl (by kernel_rfl) (by kernel_rfl) (by kernel_rfl) (fun _ _ _ h => h) (Or.inl ⟨by kernel_rfl, ?h3⟩) (by assumption) ?r3
      case h3 => (intro w hSw; (try dsimp only at hSw); go_simp; try with_reducible rfl)
      try simp only [Act.put, List.setIfInBounds_toArray, List.set_cons_zero, List.set_cons_succ]
      refine wpAnyH_take (i := 4) (oi := { dst := some 24, op := Go.Op.load 3 (Go.Operand.tmp 23), type := 3, pos := "ref.go:162", after := #[{ on := 3, ground := Go.Ground.data }], guard := none }) (v := ?v4) rfl (by kernel_rfl) (by kernel_rfl) (by kernel_rfl) (fun _ _ _ h => h) (Or.inl ⟨by kernel_rfl, ?h4⟩) (by assumption) ?r4
      case h4 => (intro w hSw; (try dsimp only at hSw); go_simp; try with_reducible rfl)
      try simp only [Act.put, List.setIfInBounds_toArray, List.set_cons_zero, List.set_cons_succ]
      refine wpAnyH_take (i := 6) (oi := { dst := some 26, op := Go.Op.move (Go.Operand.tmp 4), type := 3, pos := "ref.go:162", after := #[], guard := none }) (v := ?v5) rfl (by kernel_rfl) (by kernel_rfl) (by kernel_rfl) (fun _ _ _ h => h) (Or.inl ⟨by kernel_rfl, ?h5⟩) (by assumption) ?r5
      case h5 => (intro w hSw; (try dsimp only at hSw); go_simp; try with_reducible rfl)
      try simp only [Act.put, List.setIfInBounds_toArray, List.set_cons_zero, List.set_cons_succ]
      refine wpAnyH_take (i := 7) (oi := { dst := some 27, op := Go.Op.binOp Go.BinOp.add 3 (Go.Operand.tmp 26) (Go.Operand.const (Go.Value.int Go.IntKind.i64 1)) 3, type := 3, pos := "ref.go:162", after := #[{ on := 6, ground := Go.Ground.data }], guard := none }) (v := ?v6) rfl (by kernel_rfl) (by kernel_rfl) (by kernel_rfl) (fun _ _ _ h => h) (Or.inl ⟨by kernel_rfl, ?h6⟩) (by assumption) ?r6
      case h6 => (intro w hSw; (try dsimp only at hSw); go_simp; try with_reducible rfl)
      try simp only [Act.put, List.setIfInBounds_toArray, List.set_cons_zero, List.set_cons_succ]
      refine wpAnyH_take (i := 8) (oi := { dst := some 28, op := Go.Op.fieldAddr 101 (Go.Operand.tmp 5) 0, type := 0, pos := "ref.go:162", after := #[], guard := none }) (v := ?v7) rfl (by kernel_rfl) (by kernel_rfl) (by kernel_rfl) (fun _ _ _ h => h) (Or.inl ⟨by kernel_rfl, ?h7⟩) (by assumption) ?r7
      case h7 => (intro w hSw; (try dsimp only at hSw); go_simp; try with_reducible rfl)
      try simp only [Act.put, List.setIfInBounds_toArray, List.set_cons_zero, List.set_cons_succ]
      refine wpAnyH_take (i := 9) (oi := { dst := some 29, op := Go.Op.load 3 (Go.Operand.tmp 28), type := 3, pos := "ref.go:162", after := #[{ on := 8, ground := Go.Ground.data }], guard := none }) (v := ?v8) rfl (by kernel_rfl) (by kernel_rfl) (by kernel_rfl) (fun _ _ _ h => h) (Or.inl ⟨by kernel_rfl, ?h8⟩) (by assumption) ?r8
      case h8 => (intro w hSw; (try dsimp only at hSw); go_simp; try with_reducible rfl)
      try simp only [Act.put, List.setIfInBounds_toArray, List.set_cons_zero, List.set_cons_succ]
      refine wpAnyH_take (i := 10) (oi := { dst := some 30, op := Go.Op.unOp Go.UnOp.neg 3 (Go.Operand.tmp 29), type := 3, pos := "ref.go:162", after := #[{ on := 9, ground := Go.Ground.data }], guard := none }) (v := ?v9) rfl (by kernel_rfl) (by kernel_rfl) (by kernel_rfl) (fun _ _ _ h => h) (Or.inl ⟨by kernel_rfl, ?h9⟩) (by assumption) ?r9
      case h9 => (intro w hSw; (try dsimp only at hSw); go_simp; try with_reducible rfl)
      try simp only [Act.put, List.setIfInBounds_toArray, List.set_cons_zero, List.set_cons_succ]
      refine wpAnyH_ready (rs := [0]) (by kernel_rfl) (by simp) ?_
      refine AllReadyH.cons (o := { dst := some 20, op := Go.Op.load 51 (Go.Operand.tmp 3), type := 51, pos := "ref.go:162", after := #[], guard := none }) rfl (fun K hK => ?_) AllReadyH.nil
      go_simp
      refine hK.out _ _ (hHeld) (fun hHeld => ?_)
      clear hK K
      try simp only [Act.put, List.setIfInBounds_toArray, List.set_cons_zero, List.set_cons_succ]
      refine wpAnyH_ready (rs := [5]) (by kernel_rfl) (by simp) ?_
      refine AllReadyH.cons (o := { dst := some 25, op := Go.Op.call { callee := Go.Callee.value (Go.Operand.func 92), args := #[Go.Operand.tmp 20, Go.Operand.tmp 22, Go.Operand.const (Go.Value.int Go.IntKind.i64 0), Go.Operand.tmp 24], argTypes := #[51, 3, 3, 3] }, type := 51, pos := "ref.go:162", after := #[{ on := 0, ground := Go.Ground.data }, { on := 2, ground := Go.Ground.data }, { on := 4, ground := Go.Ground.data }], guard := none }) rfl (fun K hK => ?_) AllReadyH.nil
      go_simp
      have S6 : SL V.drew az mz cz L0 := S5.out.drewN 1
      with_reducible refine (p1.out az mz cz V.drew S6).mono ?_
      clear S6
      rintro e u5 ⟨aa, ma, ca, rfl, sa, ba⟩
      have hx6 := hHeld.trans (.of ba)
      have R6 := Lib.hid (R5.out.on (Below.fromDrew ba))
      clear ba
      go_simp
      refine hK.out _ _ (hx6) (fun hHeld => ?_)
      clear hK K
      try simp only [Act.put, List.setIfInBounds_toArray, List.set_cons_zero, List.set_cons_succ]
      refine wpAnyH_ready (rs := [11]) (by kernel_rfl) (by simp) ?_
      refine AllReadyH.cons (o := { dst := some 31, op := Go.Op.call { callee := Go.Callee.value (Go.Operand.func 92), args := #[Go.Operand.tmp 25, Go.Operand.const (Go.Value.int Go.IntKind.i64 0), Go.Operand.tmp 27, Go.Operand.tmp 30], argTypes := #[51, 3, 3, 3] }, type := 51, pos := "ref.go:162", after := #[{ on := 5, ground := Go.Ground.data }, { on := 7, ground := Go.Ground.data }, { on := 10, ground := Go.Ground.data }, { on := 5, ground := Go.Ground.chain }], guard := none }) rfl (fun K hK => ?_) AllReadyH.nil
      go_simp
      with_reducible refine (p2.out aa ma ca _ sa).mono ?_
      rintro e u11 ⟨ab, mb, cb, rfl, sb, bb, nb⟩
      have hx7 := hHeld.trans (.of (bb.mono hHeld.size))
      have R7 := Lib.hid (R6.out.on bb)
      have nb' := new_far2 nb R6.out.zb.lt
      have nr := Lib.hid (new_far2 nb R6.out.rb.lt)
      have z0 := R7.out.zb.cell 0
      have z1 := R7.out.zb.cell 1
      have zf0 := R7.out.zb.free 0
      have zf1 := R7.out.zb.free 1
      clear bb nb sa R6
      go_simp
      refine hK.out _ _ (hx7) (fun hHeld => ?_)
      clear hK K
      try simp only [Act.put, List.setIfInBounds_toArray, List.set_cons_zero, List.set_cons_succ]
      refine wpAnyH_ready (rs := [12]) (by kernel_rfl) (by simp) ?_
      refine AllReadyH.cons (o := { dst := none, op := Go.Op.store 51 (Go.Operand.tmp 3) (Go.Operand.tmp 31), type := 0, pos := "ref.go:162", after := #[{ on := 11, ground := Go.Ground.data }, { on := 11, ground := Go.Ground.chain }, { on := 0, ground := Go.Ground.phase }, { on := 1, ground := Go.Ground.phase }, { on := 2, ground := Go.Ground.phase }, { on := 3, ground := Go.Ground.phase }, { on := 4, ground := Go.Ground.phase }, { on := 5, ground := Go.Ground.phase }, { on := 6, ground := Go.Ground.phase }, { on := 7, ground := Go.Ground.phase }, { on := 8, ground := Go.Ground.phase }, { on := 9, ground := Go.Ground.phase }, { on := 10, ground := Go.Ground.phase }, { on := 11, ground := Go.Ground.phase }], guard := none }) rfl (fun K hK => ?_) AllReadyH.nil
      go_simp
      have R8 := rb_set R7.out hgz mb ab cb
      have S8 := sl_set sb gz nb' (.int .i64 n) (.slice ab mb cb)
      have hx8 := (hHeld.setIn (p := ⟨gz, 0, none⟩) (by simp) (.int .i64 n)).setIn (p := ⟨gz, 1, none⟩) (by simp) (.slice ab mb cb)
      clear z0 z1 zf0 zf1 R7
      refine hK.out _ _ (hx8) (fun hHeld => ?_)
      clear hK K
      try simp only [Act.put, List.setIfInBounds_toArray, List.set_cons_zero, List.set_cons_succ]
      refine wpAnyH_done (by kernel_rfl) ?_ _
      clear k0 k1 f0 f1
      have R9 := Lib.hid R8
      have S9 := Lib.hid S8
      clear R8 S8 hHeld
      go_wp2
      go_roundw
      case rel => exact ⟨k + 1, ab, mb, cb, by omega, by go_num, R9, by rw [hL.out]; exact S9, by rw [hL.out]; exact nr⟩
      case measure => simp [intOf]; omega
    · have hke : k = n := by omega
      subst hke
      have k0 := hR.out.zb.cell 0
      have k1 := hR.out.zb.cell 1
      have r0 := hR.out.rb.cell 0
      have r1 := hR.out.rb.cell 1
      have f0 := hR.out.rb.free 0
      have f1 := hR.out.rb.free 1
      generalize rbxK k xs k = L at *
      have hfin := Lib.hid (zh_set hR.out.rb (.int .i64 k) (.slice az mz cz))
      have hsl := Lib.hid (sl_set hS.out w.heap.size hN.out (.int .i64 k) (.slice az mz cz))
      have kb := Lib.hid ((hR.out.bl.setCell (p := ⟨w.heap.size, 0, none⟩) (Nat.le_refl _) (.int .i64 k)).setCell (p := ⟨w.heap.size, 1, none⟩) (Nat.le_refl _) (.slice az mz cz))
      go_wp2
      exact zone_ret hfin.out (show ZoneR k L w _ _ from ⟨az, mz, cz, rfl, hsl.out, kb.out⟩) _ _ 2 rfl rfl rfl
end Go.Proofs.YtimgocfkogebmaaGreatDoor
namespace Go.Proofs.YtimgocfkogebmaaGreatDoor
set_option linter.unusedVariables false
set_option linter.unusedSimpArgs false
def okA (S : List Int) (i : Nat) : Prop := 0 ≤ S.getD i 0 ∧ S.getD i 0 ≤ (S.length : Int) - i ∧ ∀ k, k < i → (i : Int) - k < S.getD k 0 → S.getD i 0 ≤ S.getD k 0 - ((i : Int) - k)
def preA (S : List Int) (i : Nat) : Prop := ∀ j, j < i → okA S j
instance (S : List Int) (i : Nat) : Decidable (okA S i) := by unfold okA; infer_instance
instance (S : List Int) (i : Nat) : Decidable (preA S i) := by unfold preA; infer_instance
def onceP (P : List Int) (m : Nat) : Prop := ∀ i, i < m → 0 ≤ P.getD i 0 ∧ P.getD i 0 ≤ 127 ∧ ∀ k, k < i → P.getD k 0 ≠ P.getD i 0
instance (P : List Int) (m : Nat) : Decidable (onceP P m) := by unfold onceP; infer_instance
end Go.Proofs.YtimgocfkogebmaaGreatDoor
namespace Go.Proofs.YtimgocfkogebmaaGreatDoor
open Go.RowKit
set_option linter.unusedVariables false
set_option linter.unusedSimpArgs false
structure WA (w : World) (a1 : Option Addr) (n1 c1 : Nat) (P : List Int) (a2 : Option Addr) (n2 c2 : Nat) (S : List Int) : Prop where
  p : SL w a1 n1 c1 P
  s : SL w a2 n2 c2 S
theorem WA.below {w w' : World} {a1 a2 : Option Addr} {n1 c1 n2 c2 : Nat} {P S : List Int} (h : WA w a1 n1 c1 P a2 n2 c2 S) (hb : Below w.heap.size w w') : WA w' a1 n1 c1 P a2 n2 c2 S := ⟨h.p.below hb, h.s.below hb⟩
end Go.Proofs.YtimgocfkogebmaaGreatDoor
namespace Go.Proofs.YtimgocfkogebmaaGreatDoor
open Go.RowKit
set_option linter.unusedVariables false
set_option linter.unusedSimpArgs false
theorem seesT_cells {B : Nat} {w : World} {a : Option Addr} {l : List ByteArray} (h : SeesC B w a (txts l)) : SeesT B w a l := by
  rcases h with h | ⟨b, off, rfl, hB, hc⟩
  · left
    cases l with
    | nil => rfl
    | cons x l => cases h
  · exact .inr ⟨b, off, rfl, hB, fun i hi => hc i _ (by simp [txts, List.getD, hi])⟩
end Go.Proofs.YtimgocfkogebmaaGreatDoor
