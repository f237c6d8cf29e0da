/-
  Words and walks under the law's proof.
-/
import Derived.Laws.ResultCell
import Derived.Test.YtjdfjekonnkglaaGreatDoorQD01
import Derived.Test.YtjdfjekonnkglaaGreatDoorQD02
import Derived.Test.YtjdfjekonnkglaaGreatDoorQD04
namespace Go.Proofs.YtjdfjekonnkglaaGreatDoor
open Go.RowKit
set_option linter.unusedVariables false
def addN (a b : Int) : Int := if isV (clip a + clip b) then clip a + clip b else 0
theorem add_any (a b : Int) (w : World) : Calls Tryz.prog 77 #[.int .i64 a, .int .i64 b] w fun e w' => e = .returned (.tuple #[.int .i64 (addN a b), .bool (isV (clip a + clip b))]) ∧ w = w' := by
  have ha := clip_in a
  have hb := clip_in b
  have hf : Hid (addN a b = if isV (clip a + clip b) then clip a + clip b else 0) := Lib.hid rfl
  have hc := Lib.hid (clip_any a)
  have hd := Lib.hid (clip_any b)
  have hs := Lib.hid (is_any (clip a + clip b))
  generalize addN a b = F at *
  generalize clip a = x at *
  generalize clip b = y at *
  generalize isV (x + y) = V at *
  go_enter Tryz.func77, Tryz.ntmps77
  cases V
  · go_wp2_with fail
    refine (hc.out _).mono ?_
    rintro e w' ⟨rfl, rfl⟩
    go_wp2_with fail
    refine (hd.out _).mono ?_
    rintro e w' ⟨rfl, rfl⟩
    go_wp2_with fail
    refine (hs.out _).mono ?_
    rintro e w' ⟨rfl, rfl⟩
    go_wp2
    go_ret2
    exact ⟨by rw [hf.out]; rfl, rfl⟩
  · go_wp2_with fail
    refine (hc.out _).mono ?_
    rintro e w' ⟨rfl, rfl⟩
    go_wp2_with fail
    refine (hd.out _).mono ?_
    rintro e w' ⟨rfl, rfl⟩
    go_wp2_with fail
    refine (hs.out _).mono ?_
    rintro e w' ⟨rfl, rfl⟩
    go_wp2
    go_ret2
    exact ⟨by rw [hf.out]; rfl, rfl⟩
end Go.Proofs.YtjdfjekonnkglaaGreatDoor
namespace Go.Proofs.YtjdfjekonnkglaaGreatDoor
open Go.RowKit
set_option linter.unusedVariables false
set_option linter.unusedSimpArgs false
def withV (l : List Int) (i u : Int) : List Int := l.set (i.toNat - 1) u
def doesR (k x y c d : Int) (l : List Int) (v : Int) : List Int × Int :=
  if k = 2 then (if isV (valAt l y + c) = true then (withV l x (valAt l y + c), 0) else ([], 130))
  else if k = 3 then (if c ≤ v ∧ v ≤ d then (withV l x v, 0) else ([], 130))
  else if k = 4 then (if valAt l x - valAt l y ≤ c then (l, 0) else ([], 130))
  else if k = 5 then (if valAt l x - valAt l y ≤ c then (l, 0) else ([], 131))
  else (l, 0)
theorem valAt_in {l : List Int} (h : l.all isV = true) (i : Int) : -1099511627776 ≤ valAt l i ∧ valAt l i ≤ 1099511627776 := by
  unfold valAt
  split
  · omega
  · by_cases hi : i.toNat - 1 < l.length
    · have := List.all_eq_true.1 h (l.getD (i.toNat - 1) 0) (by simp [List.getD, hi])
      exact (isV_iff _).1 this
    · rw [show l.getD (i.toNat - 1) 0 = 0 by simp [List.getD, hi]]; omega
structure MvH (B g : Nat) (k x y c d v : Int) (a : Option Addr) (n cp : Nat) (l : List Int) (w : World) : Prop where
  blk : Holds w g 72 #[.int .i64 k, .int .i64 x, .int .i64 y, .int .i64 c, .int .i64 d, .slice a n cp, .int .i64 v]
  row : w.ownsRow B 3 1 (.slice a n cp) n (nums .i64 l)
  apart : ∀ b, (Value.slice a n cp).ownBlock = some b → b ≠ g
theorem MvH.below {B g : Nat} {k x y c d v : Int} {a : Option Addr} {n cp : Nat} {l : List Int} {w w' : World} (h : MvH B g k x y c d v a n cp l w) (hb : Below w.heap.size w w') : MvH B g k x y c d v a n cp l w' :=
  ⟨h.blk.below hb h.blk.lt, own_below h.row hb, h.apart⟩
theorem MvH.drewN {B g : Nat} {k x y c d v : Int} {a : Option Addr} {n cp : Nat} {l : List Int} {w : World} (h : MvH B g k x y c d v a n cp l w) (m : Nat) : MvH B g k x y c d v a n cp l (w.drewN m) := h.below (Below.drewN (Below.refl _ _) m)
theorem MvH.len {B g : Nat} {k x y c d v : Int} {a : Option Addr} {n cp : Nat} {l : List Int} {w : World} (h : MvH B g k x y c d v a n cp l w) : n = l.length := by have := h.row.1; simpa [nums] using this.symm
theorem MvH.sees {B g : Nat} {k x y c d v : Int} {a : Option Addr} {n cp : Nat} {l : List Int} {w : World} (h : MvH B g k x y c d v a n cp l w) : Sees .i64 w.heap.size w a l := by
  obtain ⟨a2, c2, e, _, hs⟩ := sees_own h.row
  injection e with e1 e2 e3
  subst e1
  exact hs
def blkL (a : Option Addr) (n cp : Nat) : List Nat := (Value.slice a n cp).ownBlock.toList
def MvE (B g : Nat) (k x y c d v : Int) (a : Option Addr) (n cp : Nat) (ok : Bool) (l' : List Int) (w : World) (e : Ending) (w' : World) : Prop :=
  e = .returned (.bool ok) ∧ MvH B g k x y c d v a n cp l' w' ∧ BelowE (blkL a n cp) w.heap.size w w'
theorem MvH.at_ {B g : Nat} {k x y c d v : Int} {a : Option Addr} {n cp : Nat} {l : List Int} {w : World} (h : MvH B g k x y c d v a n cp l w) {j : Nat} (hj : j < n) : ∃ b, a = some ⟨b, 0, none⟩ ∧ b ≠ g ∧ b < w.heap.size ∧ w.cell? ⟨b, j, none⟩ = some (.int .i64 (l.getD j 0)) ∧ w.frozen? ⟨b, j, none⟩ = false ∧ b ∈ blkL a n cp ∧
    ∀ u, MvH B g k x y c d v a n cp (l.set j u) (w.setCell ⟨b, j, none⟩ (.int .i64 u)) := by
  have hl := h.len
  rcases h.row.2 with ⟨e, h0⟩ | ⟨b, cap, cur, e, hb, hh, h1, h2, h3, h4⟩
  · omega
  · injection e with e1 e2 e3
    subst e1 e3
    have hg := h.apart b rfl
    have row := h.row
    refine ⟨b, rfl, hg, (row.lt b rfl).2, ?_, own_free row j, by simp [blkL, Value.ownBlock], fun u => ⟨h.blk.far (p := ⟨b, j, none⟩) (fun e => hg e.symm) _, ?_, h.apart⟩⟩
    · have := row.cells (g := b) rfl j (.int .i64 (l.getD j 0)) (by simp [nums, List.getD, show j < l.length by omega])
      rw [add_at, Nat.zero_add] at this
      exact this
    · have := own_set row j hj (.int .i64 u)
      have e2 : nums .i64 (l.set j u) = (nums .i64 l).set j (.int .i64 u) := by simp [nums, List.map_set]
      rw [e2]
      exact this
set_option maxRecDepth 100000 in
theorem of_any (B g : Nat) (k x y c d v : Int) (a : Option Addr) (n cp : Nat) (l : List Int) (w : World) (h : MvH B g k x y c d v a n cp l w) (z : Int) (hz0 : 0 ≤ z) (hz : z ≤ (n : Int)) (hn : n ≤ 1000) : Calls Tryz.prog 78 #[.pointer (some ⟨g, 0, none⟩), .int .i64 z] w (SetTo (.int .i64 (valAt l z)) w) := by
  have k5 := h.blk.cell 5
  simp at k5
  by_cases h0 : z = 0
  · subst h0
    have hR := Lib.hid (valAt_zero l)
    generalize valAt l 0 = R at *
    clear h
    go_enter Tryz.func78, Tryz.ntmps78
    go_wp2
    go_ret
    exact ⟨by rw [hR.out]; rfl, rfl⟩
  · obtain ⟨j, hj⟩ := Int.eq_ofNat_of_zero_le (show 0 ≤ z - 1 by omega)
    obtain rfl : z = (j : Int) + 1 := by omega
    have hR := Lib.hid (valAt_succ l j)
    obtain ⟨b, rfl, -, -, x0, -⟩ := h.at_ (j := j) (by omega)
    have hki : (j : Int) < (n : Int) := by omega
    have h0' : ((j : Int) + 1 == 0) = false := by simp; omega
    have w1 : IntKind.i64.wrap (j : Int) = j := by rw [IntKind.wrap_i64]; omega
    clear h hj h0
    generalize valAt l ((j : Int) + 1) = R at *
    generalize l.getD j 0 = u at *
    go_enter Tryz.func78, Tryz.ntmps78
    go_wp2
    go_ret
    exact ⟨by rw [hR.out]; rfl, rfl⟩
theorem mskip_any (B g : Nat) (k x y c d v : Int) (a : Option Addr) (n cp : Nat) (l : List Int) (w : World) (h : MvH B g k x y c d v a n cp l w) : Calls Tryz.prog 56 #[.pointer (some ⟨g, 0, none⟩)] w (MvE B g k x y c d v a n cp true l w) := by
  have H := Lib.hid h
  clear h
  go_enter Tryz.func56, Tryz.ntmps56
  go_wp2
  go_ret
  exact ⟨rfl, H.out, BelowE.refl _ _ _⟩
set_option maxRecDepth 100000 in
set_option maxHeartbeats 4000000 in
theorem mlimit_any' (B g : Nat) (k x y c d v : Int) (a : Option Addr) (n cp : Nat) (l : List Int) (w : World) (h : MvH B g k x y c d v a n cp l w) (hx0 : 0 ≤ x) (hx : x ≤ (n : Int)) (hy0 : 0 ≤ y) (hy : y ≤ (n : Int)) (hn : n ≤ 1000) (hl : l.all isV = true) : Calls Tryz.prog 59 #[.pointer (some ⟨g, 0, none⟩)] w (MvE B g k x y c d v a n cp (decide (valAt l x - valAt l y ≤ c)) l w) := by
  have H := Lib.hid h
  have qx := Lib.hid (fun W (hW : Below w.heap.size w W) => of_any B g k x y c d v a n cp l W (H.out.below hW) x hx0 hx hn)
  have qy := Lib.hid (fun W (hW : Below w.heap.size w W) => of_any B g k x y c d v a n cp l W (H.out.below hW) y hy0 hy hn)
  have b1 := valAt_in hl x
  have b2 := valAt_in hl y
  have HQ : Hid (∀ W, Below w.heap.size w W → Holds W g 72 #[.int .i64 k, .int .i64 x, .int .i64 y, .int .i64 c, .int .i64 d, .slice a n cp, .int .i64 v]) := Lib.hid (fun W hW => H.out.blk.below hW H.out.blk.lt)
  have g0 : ∀ W, Below w.heap.size w W → W.cell? ⟨g, 0, none⟩ = some (.int .i64 k) := fun W hW => (HQ.out W hW).cell 0
  have g1 : ∀ W, Below w.heap.size w W → W.cell? ⟨g, 1, none⟩ = some (.int .i64 x) := fun W hW => (HQ.out W hW).cell 1
  have g2 : ∀ W, Below w.heap.size w W → W.cell? ⟨g, 2, none⟩ = some (.int .i64 y) := fun W hW => (HQ.out W hW).cell 2
  have g3 : ∀ W, Below w.heap.size w W → W.cell? ⟨g, 3, none⟩ = some (.int .i64 c) := fun W hW => (HQ.out W hW).cell 3
  have g4 : ∀ W, Below w.heap.size w W → W.cell? ⟨g, 4, none⟩ = some (.int .i64 d) := fun W hW => (HQ.out W hW).cell 4
  have g5 : ∀ W, Below w.heap.size w W → W.cell? ⟨g, 5, none⟩ = some (.slice a n cp) := fun W hW => (HQ.out W hW).cell 5
  have g6 : ∀ W, Below w.heap.size w W → W.cell? ⟨g, 6, none⟩ = some (.int .i64 v) := fun W hW => (HQ.out W hW).cell 6
  generalize valAt l x = X at *
  generalize valAt l y = Y at *
  have w1 : IntKind.i64.wrap (X - Y) = X - Y := by rw [IntKind.wrap_i64]; omega
  clear h hl hx0 hx hy0 hy b1 b2
  go_enter Tryz.func59, Tryz.ntmps59
  go_wp2
  refine wp_drawn_on (fun W => Below w.heap.size w W) (by kernel_rfl) ((Below.refl _ _).drew) (fun hHeld => ?_)
  refine wpAnyH_take (i := 0) (oi := { dst := some 3, op := Go.Op.move (Go.Operand.tmp 0), type := 70, pos := "run.go:97", after := #[], guard := none }) (v := ?v1) rfl (by kernel_rfl) (by kernel_rfl) (by kernel_rfl) (fun _ _ _ h => h) (Or.inl ⟨by kernel_rfl, ?h1⟩) (by assumption) ?r1
  case h1 => (intro w hSw; (try dsimp only at hSw); go_simp; try with_reducible rfl)
  try simp only [Act.put, List.setIfInBounds_toArray, List.set_cons_zero, List.set_cons_succ]
  refine wpAnyH_take (i := 1) (oi := { dst := some 4, op := Go.Op.move (Go.Operand.tmp 0), type := 70, pos := "run.go:97", after := #[], guard := none }) (v := ?v2) rfl (by kernel_rfl) (by kernel_rfl) (by kernel_rfl) (fun _ _ _ h => h) (Or.inl ⟨by kernel_rfl, ?h2⟩) (by assumption) ?r2
  case h2 => (intro w hSw; (try dsimp only at hSw); go_simp; try with_reducible rfl)
  try simp only [Act.put, List.setIfInBounds_toArray, List.set_cons_zero, List.set_cons_succ]
  refine wpAnyH_take (i := 2) (oi := { dst := some 5, op := Go.Op.nilCheck (Go.Operand.tmp 4), type := 0, pos := "run.go:97", after := #[{ on := 1, ground := Go.Ground.data }], guard := none }) (v := ?v3) rfl (by kernel_rfl) (by kernel_rfl) (by kernel_rfl) (fun _ _ _ h => h) (Or.inl ⟨by kernel_rfl, ?h3⟩) (by assumption) ?r3
  case h3 => (intro w hSw; (try dsimp only at hSw); go_simp; try with_reducible rfl)
  try simp only [Act.put, List.setIfInBounds_toArray, List.set_cons_zero, List.set_cons_succ]
  refine wpAnyH_take (i := 3) (oi := { dst := some 6, op := Go.Op.fieldAddr 72 (Go.Operand.tmp 5) 0, type := 0, pos := "run.go:97", after := #[{ on := 2, ground := Go.Ground.data }], guard := none }) (v := ?v4) rfl (by kernel_rfl) (by kernel_rfl) (by kernel_rfl) (fun _ _ _ h => h) (Or.inl ⟨by kernel_rfl, ?h4⟩) (by assumption) ?r4
  case h4 => (intro w hSw; (try dsimp only at hSw); go_simp; try with_reducible rfl)
  try simp only [Act.put, List.setIfInBounds_toArray, List.set_cons_zero, List.set_cons_succ]
  refine wpAnyH_take (i := 4) (oi := { dst := some 7, op := Go.Op.fieldAddr 51 (Go.Operand.tmp 6) 1, type := 0, pos := "run.go:97", after := #[{ on := 3, ground := Go.Ground.data }], guard := none }) (v := ?v5) rfl (by kernel_rfl) (by kernel_rfl) (by kernel_rfl) (fun _ _ _ h => h) (Or.inl ⟨by kernel_rfl, ?h5⟩) (by assumption) ?r5
  case h5 => (intro w hSw; (try dsimp only at hSw); go_simp; try with_reducible rfl)
  try simp only [Act.put, List.setIfInBounds_toArray, List.set_cons_zero, List.set_cons_succ]
  refine wpAnyH_take (i := 5) (oi := { dst := some 8, op := Go.Op.load 3 (Go.Operand.tmp 7), type := 3, pos := "run.go:97", after := #[{ on := 4, ground := Go.Ground.data }], guard := none }) (v := ?v6) rfl (by kernel_rfl) (by kernel_rfl) (by kernel_rfl) (fun _ _ _ h => h) (Or.inl ⟨by kernel_rfl, ?h6⟩) (by assumption) ?r6
  case h6 => (intro w hSw; (try dsimp only at hSw); go_simp; try with_reducible rfl)
  try simp only [Act.put, List.setIfInBounds_toArray, List.set_cons_zero, List.set_cons_succ]
  refine wpAnyH_take (i := 7) (oi := { dst := some 10, op := Go.Op.move (Go.Operand.tmp 0), type := 70, pos := "run.go:97", after := #[], guard := none }) (v := ?v7) rfl (by kernel_rfl) (by kernel_rfl) (by kernel_rfl) (fun _ _ _ h => h) (Or.inl ⟨by kernel_rfl, ?h7⟩) (by assumption) ?r7
  case h7 => (intro w hSw; (try dsimp only at hSw); go_simp; try with_reducible rfl)
  try simp only [Act.put, List.setIfInBounds_toArray, List.set_cons_zero, List.set_cons_succ]
  refine wpAnyH_take (i := 8) (oi := { dst := some 11, op := Go.Op.move (Go.Operand.tmp 0), type := 70, pos := "run.go:97", after := #[], guard := none }) (v := ?v8) rfl (by kernel_rfl) (by kernel_rfl) (by kernel_rfl) (fun _ _ _ h => h) (Or.inl ⟨by kernel_rfl, ?h8⟩) (by assumption) ?r8
  case h8 => (intro w hSw; (try dsimp only at hSw); go_simp; try with_reducible rfl)
  try simp only [Act.put, List.setIfInBounds_toArray, List.set_cons_zero, List.set_cons_succ]
  refine wpAnyH_take (i := 9) (oi := { dst := some 12, op := Go.Op.nilCheck (Go.Operand.tmp 11), type := 0, pos := "run.go:97", after := #[{ on := 8, ground := Go.Ground.data }], guard := none }) (v := ?v9) rfl (by kernel_rfl) (by kernel_rfl) (by kernel_rfl) (fun _ _ _ h => h) (Or.inl ⟨by kernel_rfl, ?h9⟩) (by assumption) ?r9
  case h9 => (intro w hSw; (try dsimp only at hSw); go_simp; try with_reducible rfl)
  try simp only [Act.put, List.setIfInBounds_toArray, List.set_cons_zero, List.set_cons_succ]
  refine wpAnyH_take (i := 10) (oi := { dst := some 13, op := Go.Op.fieldAddr 72 (Go.Operand.tmp 12) 0, type := 0, pos := "run.go:97", after := #[{ on := 9, ground := Go.Ground.data }], guard := none }) (v := ?v10) rfl (by kernel_rfl) (by kernel_rfl) (by kernel_rfl) (fun _ _ _ h => h) (Or.inl ⟨by kernel_rfl, ?h10⟩) (by assumption) ?r10
  case h10 => (intro w hSw; (try dsimp only at hSw); go_simp; try with_reducible rfl)
  try simp only [Act.put, List.setIfInBounds_toArray, List.set_cons_zero, List.set_cons_succ]
  refine wpAnyH_take (i := 11) (oi := { dst := some 14, op := Go.Op.fieldAddr 51 (Go.Operand.tmp 13) 2, type := 0, pos := "run.go:97", after := #[{ on := 10, ground := Go.Ground.data }], guard := none }) (v := ?v11) rfl (by kernel_rfl) (by kernel_rfl) (by kernel_rfl) (fun _ _ _ h => h) (Or.inl ⟨by kernel_rfl, ?h11⟩) (by assumption) ?r11
  case h11 => (intro w hSw; (try dsimp only at hSw); go_simp; try with_reducible rfl)
  try simp only [Act.put, List.setIfInBounds_toArray, List.set_cons_zero, List.set_cons_succ]
  refine wpAnyH_take (i := 12) (oi := { dst := some 15, op := Go.Op.load 3 (Go.Operand.tmp 14), type := 3, pos := "run.go:97", after := #[{ on := 11, ground := Go.Ground.data }], guard := none }) (v := ?v12) rfl (by kernel_rfl) (by kernel_rfl) (by kernel_rfl) (fun _ _ _ h => h) (Or.inl ⟨by kernel_rfl, ?h12⟩) (by assumption) ?r12
  case h12 => (intro w hSw; (try dsimp only at hSw); go_simp; try with_reducible rfl)
  try simp only [Act.put, List.setIfInBounds_toArray, List.set_cons_zero, List.set_cons_succ]
  refine wpAnyH_take (i := 15) (oi := { dst := some 18, op := Go.Op.move (Go.Operand.tmp 0), type := 70, pos := "run.go:97", after := #[], guard := none }) (v := ?v13) rfl (by kernel_rfl) (by kernel_rfl) (by kernel_rfl) (fun _ _ _ h => h) (Or.inl ⟨by kernel_rfl, ?h13⟩) (by assumption) ?r13
  case h13 => (intro w hSw; (try dsimp only at hSw); go_simp; try with_reducible rfl)
  try simp only [Act.put, List.setIfInBounds_toArray, List.set_cons_zero, List.set_cons_succ]
  refine wpAnyH_take (i := 16) (oi := { dst := some 19, op := Go.Op.nilCheck (Go.Operand.tmp 18), type := 0, pos := "run.go:97", after := #[{ on := 15, ground := Go.Ground.data }], guard := none }) (v := ?v14) rfl (by kernel_rfl) (by kernel_rfl) (by kernel_rfl) (fun _ _ _ h => h) (Or.inl ⟨by kernel_rfl, ?h14⟩) (by assumption) ?r14
  case h14 => (intro w hSw; (try dsimp only at hSw); go_simp; try with_reducible rfl)
  try simp only [Act.put, List.setIfInBounds_toArray, List.set_cons_zero, List.set_cons_succ]
  refine wpAnyH_take (i := 17) (oi := { dst := some 20, op := Go.Op.fieldAddr 72 (Go.Operand.tmp 19) 0, type := 0, pos := "run.go:97", after := #[{ on := 16, ground := Go.Ground.data }], guard := none }) (v := ?v15) rfl (by kernel_rfl) (by kernel_rfl) (by kernel_rfl) (fun _ _ _ h => h) (Or.inl ⟨by kernel_rfl, ?h15⟩) (by assumption) ?r15
  case h15 => (intro w hSw; (try dsimp only at hSw); go_simp; try with_reducible rfl)
  try simp only [Act.put, List.setIfInBounds_toArray, List.set_cons_zero, List.set_cons_succ]
  refine wpAnyH_take (i := 18) (oi := { dst := some 21, op := Go.Op.fieldAddr 51 (Go.Operand.tmp 20) 3, type := 0, pos := "run.go:97", after := #[{ on := 17, ground := Go.Ground.data }], guard := none }) (v := ?v16) rfl (by kernel_rfl) (by kernel_rfl) (by kernel_rfl) (fun _ _ _ h => h) (Or.inl ⟨by kernel_rfl, ?h16⟩) (by assumption) ?r16
  case h16 => (intro w hSw; (try dsimp only at hSw); go_simp; try with_reducible rfl)
  try simp only [Act.put, List.setIfInBounds_toArray, List.set_cons_zero, List.set_cons_succ]
  refine wpAnyH_take (i := 19) (oi := { dst := some 22, op := Go.Op.load 3 (Go.Operand.tmp 21), type := 3, pos := "run.go:97", after := #[{ on := 18, ground := Go.Ground.data }], guard := none }) (v := ?v17) rfl (by kernel_rfl) (by kernel_rfl) (by kernel_rfl) (fun _ _ _ h => h) (Or.inl ⟨by kernel_rfl, ?h17⟩) (by assumption) ?r17
  case h17 => (intro w hSw; (try dsimp only at hSw); go_simp; try with_reducible rfl)
  try simp only [Act.put, List.setIfInBounds_toArray, List.set_cons_zero, List.set_cons_succ]
  refine wpAnyH_ready (rs := [6]) (by kernel_rfl) (by simp) ?_
  refine AllReadyH.cons (o := { dst := some 9, op := Go.Op.call { callee := Go.Callee.value (Go.Operand.func 78), args := #[Go.Operand.tmp 3, Go.Operand.tmp 8], argTypes := #[70, 3] }, type := 3, pos := "run.go:97", after := #[{ on := 0, ground := Go.Ground.data }, { on := 5, ground := Go.Ground.data }], guard := none }) rfl (fun K hK => ?_) AllReadyH.nil
  go_simp
  with_reducible refine (qx.out _ hHeld).mono ?_
  rintro e t6 ⟨rfl, rfl⟩
  go_simp
  refine hK.out _ _ (hHeld) (fun hHeld => ?_)
  clear hK K
  try simp only [Act.put, List.setIfInBounds_toArray, List.set_cons_zero, List.set_cons_succ]
  refine wpAnyH_ready (rs := [13]) (by kernel_rfl) (by simp) ?_
  refine AllReadyH.cons (o := { dst := some 16, op := Go.Op.call { callee := Go.Callee.value (Go.Operand.func 78), args := #[Go.Operand.tmp 10, Go.Operand.tmp 15], argTypes := #[70, 3] }, type := 3, pos := "run.go:97", after := #[{ on := 7, ground := Go.Ground.data }, { on := 12, ground := Go.Ground.data }, { on := 6, ground := Go.Ground.chain }], guard := none }) rfl (fun K hK => ?_) AllReadyH.nil
  go_simp
  with_reducible refine (qy.out _ hHeld).mono ?_
  rintro e t13 ⟨rfl, rfl⟩
  go_simp
  refine hK.out _ _ (hHeld) (fun hHeld => ?_)
  clear hK K
  try simp only [Act.put, List.setIfInBounds_toArray, List.set_cons_zero, List.set_cons_succ]
  refine wpAnyH_take (i := 14) (oi := { dst := some 17, op := Go.Op.binOp Go.BinOp.sub 3 (Go.Operand.tmp 9) (Go.Operand.tmp 16) 3, type := 3, pos := "run.go:97", after := #[{ on := 6, ground := Go.Ground.data }, { on := 13, ground := Go.Ground.data }], guard := none }) (v := ?v18) rfl (by kernel_rfl) (by kernel_rfl) (by kernel_rfl) (fun _ _ _ h => h) (Or.inl ⟨by kernel_rfl, ?h18⟩) (by assumption) ?r18
  case h18 => (intro w hSw; (try dsimp only at hSw); go_simp; try with_reducible rfl)
  try simp only [Act.put, List.setIfInBounds_toArray, List.set_cons_zero, List.set_cons_succ]
  refine wpAnyH_take (i := 20) (oi := { dst := some 23, op := Go.Op.binOp Go.BinOp.leq 3 (Go.Operand.tmp 17) (Go.Operand.tmp 22) 3, type := 4, pos := "run.go:97", after := #[{ on := 14, ground := Go.Ground.data }, { on := 19, ground := Go.Ground.data }], guard := none }) (v := ?v19) rfl (by kernel_rfl) (by kernel_rfl) (by kernel_rfl) (fun _ _ _ h => h) (Or.inl ⟨by kernel_rfl, ?h19⟩) (by assumption) ?r19
  case h19 => (intro w hSw; (try dsimp only at hSw); go_simp; try with_reducible rfl)
  try simp only [Act.put, List.setIfInBounds_toArray, List.set_cons_zero, List.set_cons_succ]
  refine wpAnyH_take (i := 21) (oi := { dst := some 2, op := Go.Op.assign (Go.Operand.tmp 23), type := 4, pos := "run.go:97", after := #[{ on := 20, ground := Go.Ground.data }, { on := 13, ground := Go.Ground.chain }, { on := 0, ground := Go.Ground.phase }, { on := 1, ground := Go.Ground.phase }, { on := 2, ground := Go.Ground.phase }, { on := 3, ground := Go.Ground.phase }, { on := 4, ground := Go.Ground.phase }, { on := 5, ground := Go.Ground.phase }, { on := 6, ground := Go.Ground.phase }, { on := 7, ground := Go.Ground.phase }, { on := 8, ground := Go.Ground.phase }, { on := 9, ground := Go.Ground.phase }, { on := 10, ground := Go.Ground.phase }, { on := 11, ground := Go.Ground.phase }, { on := 12, ground := Go.Ground.phase }, { on := 13, ground := Go.Ground.phase }, { on := 14, ground := Go.Ground.phase }, { on := 15, ground := Go.Ground.phase }, { on := 16, ground := Go.Ground.phase }, { on := 17, ground := Go.Ground.phase }, { on := 18, ground := Go.Ground.phase }, { on := 19, ground := Go.Ground.phase }, { on := 20, ground := Go.Ground.phase }], guard := none }) (v := ?v20) rfl (by kernel_rfl) (by kernel_rfl) (by kernel_rfl) (fun _ _ _ h => h) (Or.inl ⟨by kernel_rfl, ?h20⟩) (by assumption) ?r20
  case h20 => (intro w hSw; (try dsimp only at hSw); go_simp; try with_reducible rfl)
  try simp only [Act.put, List.setIfInBounds_toArray, List.set_cons_zero, List.set_cons_succ]
  refine wpAnyH_done (by kernel_rfl) ?_ _
  go_wp2
  go_ret
  exact ⟨rfl, H.out.below hHeld, .of hHeld⟩
set_option maxRecDepth 100000 in
set_option maxHeartbeats 4000000 in
theorem mpick_any (B g : Nat) (k x y c d v : Int) (a : Option Addr) (n cp : Nat) (l : List Int) (wq : World) (h : MvH B g k x y c d v a n cp l wq) (hx0 : 1 ≤ x) (hx : x ≤ (n : Int)) (hn : n ≤ 1000) : Calls Tryz.prog 58 #[.pointer (some ⟨g, 0, none⟩)] wq (MvE B g k x y c d v a n cp (decide (c ≤ v ∧ v ≤ d)) (withV l x v) wq) := by
  obtain ⟨j, hj⟩ := Int.eq_ofNat_of_zero_le (show 0 ≤ x - 1 by omega)
  obtain rfl : x = (j : Int) + 1 := by omega
  have hwv : Hid (withV l ((j : Int) + 1) (v) = l.set j (v)) := Lib.hid (by unfold withV; rw [show ((j : Int) + 1).toNat - 1 = j by omega])
  obtain ⟨b, rfl, hbg, hblt, fc, ff, hmem, hset⟩ := h.at_ (j := j) (by omega)
  have hki : (j : Int) < (n : Int) := by omega
  have w1 : IntKind.i64.wrap (j : Int) = j := by rw [IntKind.wrap_i64]; omega
  have n1 : 0 ≤ (j : Int) := by omega
  generalize l.getD j 0 = u9 at *
  have H := Lib.hid h
  have hmem' := Lib.hid hmem
  have hset' := Lib.hid hset
  have hf1 : (wq.drew).cell? ⟨b, j, none⟩ = some (.int .i64 u9) := fc
  have hf2 : (wq.drew).frozen? ⟨b, j, none⟩ = false := ff
  clear h hj hmem hset fc ff hx0 hx hblt
  have g0 : ∀ W, (∃ q, W = wq.drewN q ∨ W = (wq.drewN q).setCell ⟨b, j, none⟩ (.int .i64 (v))) → W.cell? ⟨g, 0, none⟩ = some (.int .i64 k) := fun W hW => by rcases hW with ⟨q, rfl | rfl⟩ <;> first | exact ((H.out.drewN q).blk).cell 0 | exact (((H.out.drewN q).blk).far (p := ⟨b, j, none⟩) (fun e => hbg e.symm) _).cell 0
  have g1 : ∀ W, (∃ q, W = wq.drewN q ∨ W = (wq.drewN q).setCell ⟨b, j, none⟩ (.int .i64 (v))) → W.cell? ⟨g, 1, none⟩ = some (.int .i64 ((j : Int) + 1)) := fun W hW => by rcases hW with ⟨q, rfl | rfl⟩ <;> first | exact ((H.out.drewN q).blk).cell 1 | exact (((H.out.drewN q).blk).far (p := ⟨b, j, none⟩) (fun e => hbg e.symm) _).cell 1
  have g2 : ∀ W, (∃ q, W = wq.drewN q ∨ W = (wq.drewN q).setCell ⟨b, j, none⟩ (.int .i64 (v))) → W.cell? ⟨g, 2, none⟩ = some (.int .i64 y) := fun W hW => by rcases hW with ⟨q, rfl | rfl⟩ <;> first | exact ((H.out.drewN q).blk).cell 2 | exact (((H.out.drewN q).blk).far (p := ⟨b, j, none⟩) (fun e => hbg e.symm) _).cell 2
  have g3 : ∀ W, (∃ q, W = wq.drewN q ∨ W = (wq.drewN q).setCell ⟨b, j, none⟩ (.int .i64 (v))) → W.cell? ⟨g, 3, none⟩ = some (.int .i64 c) := fun W hW => by rcases hW with ⟨q, rfl | rfl⟩ <;> first | exact ((H.out.drewN q).blk).cell 3 | exact (((H.out.drewN q).blk).far (p := ⟨b, j, none⟩) (fun e => hbg e.symm) _).cell 3
  have g4 : ∀ W, (∃ q, W = wq.drewN q ∨ W = (wq.drewN q).setCell ⟨b, j, none⟩ (.int .i64 (v))) → W.cell? ⟨g, 4, none⟩ = some (.int .i64 d) := fun W hW => by rcases hW with ⟨q, rfl | rfl⟩ <;> first | exact ((H.out.drewN q).blk).cell 4 | exact (((H.out.drewN q).blk).far (p := ⟨b, j, none⟩) (fun e => hbg e.symm) _).cell 4
  have g5 : ∀ W, (∃ q, W = wq.drewN q ∨ W = (wq.drewN q).setCell ⟨b, j, none⟩ (.int .i64 (v))) → W.cell? ⟨g, 5, none⟩ = some (.slice (some ⟨b, 0, none⟩) n cp) := fun W hW => by rcases hW with ⟨q, rfl | rfl⟩ <;> first | exact ((H.out.drewN q).blk).cell 5 | exact (((H.out.drewN q).blk).far (p := ⟨b, j, none⟩) (fun e => hbg e.symm) _).cell 5
  have g6 : ∀ W, (∃ q, W = wq.drewN q ∨ W = (wq.drewN q).setCell ⟨b, j, none⟩ (.int .i64 (v))) → W.cell? ⟨g, 6, none⟩ = some (.int .i64 v) := fun W hW => by rcases hW with ⟨q, rfl | rfl⟩ <;> first | exact ((H.out.drewN q).blk).cell 6 | exact (((H.out.drewN q).blk).far (p := ⟨b, j, none⟩) (fun e => hbg e.symm) _).cell 6
  generalize withV l ((j : Int) + 1) v = R at *
  go_enter Tryz.func58, Tryz.ntmps58
  go_wp2
  refine wp_drawn_on (fun W => ∃ q, W = wq.drewN q ∨ W = (wq.drewN q).setCell ⟨b, j, none⟩ (.int .i64 (v))) (by kernel_rfl) (⟨1, .inl rfl⟩) (fun hHeld => ?_)
  refine wpAnyH_take (i := 0) (oi := { dst := some 3, op := Go.Op.move (Go.Operand.tmp 0), type := 70, pos := "run.go:93", after := #[], guard := none }) (v := ?v21) rfl (by kernel_rfl) (by kernel_rfl) (by kernel_rfl) (fun _ _ _ h => h) (Or.inl ⟨by kernel_rfl, ?h21⟩) (by assumption) ?r21
  case h21 => (intro w hSw; (try dsimp only at hSw); go_simp; try with_reducible rfl)
  try simp only [Act.put, List.setIfInBounds_toArray, List.set_cons_zero, List.set_cons_succ]
  refine wpAnyH_take (i := 1) (oi := { dst := some 4, op := Go.Op.nilCheck (Go.Operand.tmp 3), type := 0, pos := "run.go:93", after := #[{ on := 0, ground := Go.Ground.data }], guard := none }) (v := ?v22) rfl (by kernel_rfl) (by kernel_rfl) (by kernel_rfl) (fun _ _ _ h => h) (Or.inl ⟨by kernel_rfl, ?h22⟩) (by assumption) ?r22
  case h22 => (intro w hSw; (try dsimp only at hSw); go_simp; try with_reducible rfl)
  try simp only [Act.put, List.setIfInBounds_toArray, List.set_cons_zero, List.set_cons_succ]
  refine wpAnyH_take (i := 2) (oi := { dst := some 5, op := Go.Op.fieldAddr 72 (Go.Operand.tmp 4) 1, type := 0, pos := "run.go:93", after := #[{ on := 1, ground := Go.Ground.data }], guard := none }) (v := ?v23) rfl (by kernel_rfl) (by kernel_rfl) (by kernel_rfl) (fun _ _ _ h => h) (Or.inl ⟨by kernel_rfl, ?h23⟩) (by assumption) ?r23
  case h23 => (intro w hSw; (try dsimp only at hSw); go_simp; try with_reducible rfl)
  try simp only [Act.put, List.setIfInBounds_toArray, List.set_cons_zero, List.set_cons_succ]
  refine wpAnyH_take (i := 3) (oi := { dst := some 6, op := Go.Op.load 27 (Go.Operand.tmp 5), type := 27, pos := "run.go:93", after := #[{ on := 2, ground := Go.Ground.data }], guard := none }) (v := ?v24) rfl (by kernel_rfl) (by kernel_rfl) (by kernel_rfl) (fun _ _ _ h => h) (Or.inl ⟨by kernel_rfl, ?h24⟩) (by assumption) ?r24
  case h24 => (intro w hSw; (try dsimp only at hSw); go_simp; try with_reducible rfl)
  try simp only [Act.put, List.setIfInBounds_toArray, List.set_cons_zero, List.set_cons_succ]
  refine wpAnyH_take (i := 4) (oi := { dst := some 7, op := Go.Op.move (Go.Operand.tmp 0), type := 70, pos := "run.go:93", after := #[], guard := none }) (v := ?v25) rfl (by kernel_rfl) (by kernel_rfl) (by kernel_rfl) (fun _ _ _ h => h) (Or.inl ⟨by kernel_rfl, ?h25⟩) (by assumption) ?r25
  case h25 => (intro w hSw; (try dsimp only at hSw); go_simp; try with_reducible rfl)
  try simp only [Act.put, List.setIfInBounds_toArray, List.set_cons_zero, List.set_cons_succ]
  refine wpAnyH_take (i := 5) (oi := { dst := some 8, op := Go.Op.nilCheck (Go.Operand.tmp 7), type := 0, pos := "run.go:93", after := #[{ on := 4, ground := Go.Ground.data }], guard := none }) (v := ?v26) rfl (by kernel_rfl) (by kernel_rfl) (by kernel_rfl) (fun _ _ _ h => h) (Or.inl ⟨by kernel_rfl, ?h26⟩) (by assumption) ?r26
  case h26 => (intro w hSw; (try dsimp only at hSw); go_simp; try with_reducible rfl)
  try simp only [Act.put, List.setIfInBounds_toArray, List.set_cons_zero, List.set_cons_succ]
  refine wpAnyH_take (i := 6) (oi := { dst := some 9, op := Go.Op.fieldAddr 72 (Go.Operand.tmp 8) 0, type := 0, pos := "run.go:93", after := #[{ on := 5, ground := Go.Ground.data }], guard := none }) (v := ?v27) rfl (by kernel_rfl) (by kernel_rfl) (by kernel_rfl) (fun _ _ _ h => h) (Or.inl ⟨by kernel_rfl, ?h27⟩) (by assumption) ?r27
  case h27 => (intro w hSw; (try dsimp only at hSw); go_simp; try with_reducible rfl)
  try simp only [Act.put, List.setIfInBounds_toArray, List.set_cons_zero, List.set_cons_succ]
  refine wpAnyH_take (i := 7) (oi := { dst := some 10, op := Go.Op.fieldAddr 51 (Go.Operand.tmp 9) 1, type := 0, pos := "run.go:93", after := #[{ on := 6, ground := Go.Ground.data }], guard := none }) (v := ?v28) rfl (by kernel_rfl) (by kernel_rfl) (by kernel_rfl) (fun _ _ _ h => h) (Or.inl ⟨by kernel_rfl, ?h28⟩) (by assumption) ?r28
  case h28 => (intro w hSw; (try dsimp only at hSw); go_simp; try with_reducible rfl)
  try simp only [Act.put, List.setIfInBounds_toArray, List.set_cons_zero, List.set_cons_succ]
  refine wpAnyH_take (i := 8) (oi := { dst := some 11, op := Go.Op.load 3 (Go.Operand.tmp 10), type := 3, pos := "run.go:93", after := #[{ on := 7, ground := Go.Ground.data }], guard := none }) (v := ?v29) rfl (by kernel_rfl) (by kernel_rfl) (by kernel_rfl) (fun _ _ _ h => h) (Or.inl ⟨by kernel_rfl, ?h29⟩) (by assumption) ?r29
  case h29 => (intro w hSw; (try dsimp only at hSw); go_simp; try with_reducible rfl)
  try simp only [Act.put, List.setIfInBounds_toArray, List.set_cons_zero, List.set_cons_succ]
  refine wpAnyH_take (i := 9) (oi := { dst := some 12, op := Go.Op.binOp Go.BinOp.sub 3 (Go.Operand.tmp 11) (Go.Operand.const (Go.Value.int Go.IntKind.i64 1)) 3, type := 3, pos := "run.go:93", after := #[{ on := 8, ground := Go.Ground.data }], guard := none }) (v := ?v30) rfl (by kernel_rfl) (by kernel_rfl) (by kernel_rfl) (fun _ _ _ h => h) (Or.inl ⟨by kernel_rfl, ?h30⟩) (by assumption) ?r30
  case h30 => (intro w hSw; (try dsimp only at hSw); go_simp; try with_reducible rfl)
  try simp only [Act.put, List.setIfInBounds_toArray, List.set_cons_zero, List.set_cons_succ]
  refine wpAnyH_take (i := 10) (oi := { dst := some 13, op := Go.Op.move (Go.Operand.tmp 0), type := 70, pos := "run.go:93", after := #[], guard := none }) (v := ?v31) rfl (by kernel_rfl) (by kernel_rfl) (by kernel_rfl) (fun _ _ _ h => h) (Or.inl ⟨by kernel_rfl, ?h31⟩) (by assumption) ?r31
  case h31 => (intro w hSw; (try dsimp only at hSw); go_simp; try with_reducible rfl)
  try simp only [Act.put, List.setIfInBounds_toArray, List.set_cons_zero, List.set_cons_succ]
  refine wpAnyH_take (i := 11) (oi := { dst := some 14, op := Go.Op.nilCheck (Go.Operand.tmp 13), type := 0, pos := "run.go:93", after := #[{ on := 10, ground := Go.Ground.data }], guard := none }) (v := ?v32) rfl (by kernel_rfl) (by kernel_rfl) (by kernel_rfl) (fun _ _ _ h => h) (Or.inl ⟨by kernel_rfl, ?h32⟩) (by assumption) ?r32
  case h32 => (intro w hSw; (try dsimp only at hSw); go_simp; try with_reducible rfl)
  try simp only [Act.put, List.setIfInBounds_toArray, List.set_cons_zero, List.set_cons_succ]
  refine wpAnyH_take (i := 12) (oi := { dst := some 15, op := Go.Op.fieldAddr 72 (Go.Operand.tmp 14) 2, type := 0, pos := "run.go:93", after := #[{ on := 11, ground := Go.Ground.data }], guard := none }) (v := ?v33) rfl (by kernel_rfl) (by kernel_rfl) (by kernel_rfl) (fun _ _ _ h => h) (Or.inl ⟨by kernel_rfl, ?h33⟩) (by assumption) ?r33
  case h33 => (intro w hSw; (try dsimp only at hSw); go_simp; try with_reducible rfl)
  try simp only [Act.put, List.setIfInBounds_toArray, List.set_cons_zero, List.set_cons_succ]
  refine wpAnyH_take (i := 13) (oi := { dst := some 16, op := Go.Op.load 3 (Go.Operand.tmp 15), type := 3, pos := "run.go:93", after := #[{ on := 12, ground := Go.Ground.data }], guard := none }) (v := ?v34) rfl (by kernel_rfl) (by kernel_rfl) (by kernel_rfl) (fun _ _ _ h => h) (Or.inl ⟨by kernel_rfl, ?h34⟩) (by assumption) ?r34
  case h34 => (intro w hSw; (try dsimp only at hSw); go_simp; try with_reducible rfl)
  try simp only [Act.put, List.setIfInBounds_toArray, List.set_cons_zero, List.set_cons_succ]
  refine wpAnyH_take (i := 14) (oi := { dst := some 17, op := Go.Op.indexAddr 27 (Go.Operand.tmp 6) (Go.Operand.tmp 12), type := 0, pos := "run.go:93", after := #[{ on := 3, ground := Go.Ground.data }, { on := 9, ground := Go.Ground.data }, { on := 0, ground := Go.Ground.phase }, { on := 1, ground := Go.Ground.phase }, { on := 2, ground := Go.Ground.phase }, { on := 3, ground := Go.Ground.phase }, { on := 4, ground := Go.Ground.phase }, { on := 5, ground := Go.Ground.phase }, { on := 6, ground := Go.Ground.phase }, { on := 7, ground := Go.Ground.phase }, { on := 8, ground := Go.Ground.phase }, { on := 9, ground := Go.Ground.phase }, { on := 10, ground := Go.Ground.phase }, { on := 11, ground := Go.Ground.phase }, { on := 12, ground := Go.Ground.phase }, { on := 13, ground := Go.Ground.phase }], guard := none }) (v := ?v35) rfl (by kernel_rfl) (by kernel_rfl) (by kernel_rfl) (fun _ _ _ h => h) (Or.inl ⟨by kernel_rfl, ?h35⟩) (by assumption) ?r35
  case h35 => (intro w hSw; (try dsimp only at hSw); go_simp; try with_reducible rfl)
  try simp only [Act.put, List.setIfInBounds_toArray, List.set_cons_zero, List.set_cons_succ]
  refine wpAnyH_ready (rs := [15]) (by kernel_rfl) (by simp) ?_
  refine AllReadyH.cons (o := { dst := none, op := Go.Op.store 3 (Go.Operand.tmp 17) (Go.Operand.tmp 16), type := 0, pos := "run.go:93", after := #[{ on := 14, ground := Go.Ground.data }, { on := 13, ground := Go.Ground.data }, { on := 0, ground := Go.Ground.phase }, { on := 1, ground := Go.Ground.phase }, { on := 2, ground := Go.Ground.phase }, { on := 3, ground := Go.Ground.phase }, { on := 4, ground := Go.Ground.phase }, { on := 5, ground := Go.Ground.phase }, { on := 6, ground := Go.Ground.phase }, { on := 7, ground := Go.Ground.phase }, { on := 8, ground := Go.Ground.phase }, { on := 9, ground := Go.Ground.phase }, { on := 10, ground := Go.Ground.phase }, { on := 11, ground := Go.Ground.phase }, { on := 12, ground := Go.Ground.phase }, { on := 13, ground := Go.Ground.phase }], guard := none }) rfl (fun K hK => ?_) AllReadyH.nil
  go_simp
  go_simp
  refine hK.out _ _ (⟨1, .inr rfl⟩) (fun hHeld => ?_)
  clear hK K
  try simp only [Act.put, List.setIfInBounds_toArray, List.set_cons_zero, List.set_cons_succ]
  refine wpAnyH_done (by kernel_rfl) ?_ _
  obtain ⟨w2, hw2⟩ : ∃ w2, w2 = (wq.setCell ⟨b, j, none⟩ (.int .i64 (v))).drew := ⟨_, rfl⟩
  rw [← hw2]
  have H2 : Hid (MvH B g k ((j : Int) + 1) y c d v (some ⟨b, 0, none⟩) n cp R w2) := Lib.hid (by rw [hwv.out, hw2]; exact (hset'.out (v)).drewN 1)
  have B2 : Hid (BelowE (blkL (some ⟨b, 0, none⟩) n cp) wq.heap.size wq w2) := Lib.hid (by rw [hw2]; exact ((BelowE.refl _ _ _).setIn (p := ⟨b, j, none⟩) hmem'.out _).drew)
  clear hw2 hHeld hf1 hf2 g0 g1 g2 g3 g4 g5 g6
  have f0 : ∀ W, Below w2.heap.size w2 W → W.cell? ⟨g, 3, none⟩ = some (.int .i64 c) := fun W hW => (H2.out.below hW).blk.cell 3
  have f1 : ∀ W, Below w2.heap.size w2 W → W.cell? ⟨g, 4, none⟩ = some (.int .i64 d) := fun W hW => (H2.out.below hW).blk.cell 4
  have f2 : ∀ W, Below w2.heap.size w2 W → W.cell? ⟨g, 6, none⟩ = some (.int .i64 v) := fun W hW => (H2.out.below hW).blk.cell 6
  by_cases h1 : c ≤ v
  · have d1 : decide (c ≤ v) = true := decide_eq_true h1
    have hok : Hid (decide (c ≤ v ∧ v ≤ d) = decide (v ≤ d)) := Lib.hid (by rw [decide_eq_decide]; omega)
    generalize decide (c ≤ v ∧ v ≤ d) = OK at *
    go_wp2
    refine wp_drawn_on (fun W => Below w2.heap.size w2 W) (by kernel_rfl) ((Below.refl _ _).drew) (fun hHeld => ?_)
    refine wpAnyH_take (i := 0) (oi := { dst := some 18, op := Go.Op.move (Go.Operand.tmp 0), type := 70, pos := "run.go:94", after := #[], guard := none }) (v := ?v36) rfl (by kernel_rfl) (by kernel_rfl) (by kernel_rfl) (fun _ _ _ h => h) (Or.inl ⟨by kernel_rfl, ?h36⟩) (by assumption) ?r36
    case h36 => (intro w hSw; (try dsimp only at hSw); go_simp; try with_reducible rfl)
    try simp only [Act.put, List.setIfInBounds_toArray, List.set_cons_zero, List.set_cons_succ]
    refine wpAnyH_take (i := 1) (oi := { dst := some 19, op := Go.Op.nilCheck (Go.Operand.tmp 18), type := 0, pos := "run.go:94", after := #[{ on := 0, ground := Go.Ground.data }], guard := none }) (v := ?v37) rfl (by kernel_rfl) (by kernel_rfl) (by kernel_rfl) (fun _ _ _ h => h) (Or.inl ⟨by kernel_rfl, ?h37⟩) (by assumption) ?r37
    case h37 => (intro w hSw; (try dsimp only at hSw); go_simp; try with_reducible rfl)
    try simp only [Act.put, List.setIfInBounds_toArray, List.set_cons_zero, List.set_cons_succ]
    refine wpAnyH_take (i := 2) (oi := { dst := some 20, op := Go.Op.fieldAddr 72 (Go.Operand.tmp 19) 0, type := 0, pos := "run.go:94", after := #[{ on := 1, ground := Go.Ground.data }], guard := none }) (v := ?v38) rfl (by kernel_rfl) (by kernel_rfl) (by kernel_rfl) (fun _ _ _ h => h) (Or.inl ⟨by kernel_rfl, ?h38⟩) (by assumption) ?r38
    case h38 => (intro w hSw; (try dsimp only at hSw); go_simp; try with_reducible rfl)
    try simp only [Act.put, List.setIfInBounds_toArray, List.set_cons_zero, List.set_cons_succ]
    refine wpAnyH_take (i := 3) (oi := { dst := some 21, op := Go.Op.fieldAddr 51 (Go.Operand.tmp 20) 3, type := 0, pos := "run.go:94", after := #[{ on := 2, ground := Go.Ground.data }], guard := none }) (v := ?v39) rfl (by kernel_rfl) (by kernel_rfl) (by kernel_rfl) (fun _ _ _ h => h) (Or.inl ⟨by kernel_rfl, ?h39⟩) (by assumption) ?r39
    case h39 => (intro w hSw; (try dsimp only at hSw); go_simp; try with_reducible rfl)
    try simp only [Act.put, List.setIfInBounds_toArray, List.set_cons_zero, List.set_cons_succ]
    refine wpAnyH_take (i := 4) (oi := { dst := some 22, op := Go.Op.load 3 (Go.Operand.tmp 21), type := 3, pos := "run.go:94", after := #[{ on := 3, ground := Go.Ground.data }], guard := none }) (v := ?v40) rfl (by kernel_rfl) (by kernel_rfl) (by kernel_rfl) (fun _ _ _ h => h) (Or.inl ⟨by kernel_rfl, ?h40⟩) (by assumption) ?r40
    case h40 => (intro w hSw; (try dsimp only at hSw); go_simp; try with_reducible rfl)
    try simp only [Act.put, List.setIfInBounds_toArray, List.set_cons_zero, List.set_cons_succ]
    refine wpAnyH_take (i := 5) (oi := { dst := some 23, op := Go.Op.move (Go.Operand.tmp 0), type := 70, pos := "run.go:94", after := #[], guard := none }) (v := ?v41) rfl (by kernel_rfl) (by kernel_rfl) (by kernel_rfl) (fun _ _ _ h => h) (Or.inl ⟨by kernel_rfl, ?h41⟩) (by assumption) ?r41
    case h41 => (intro w hSw; (try dsimp only at hSw); go_simp; try with_reducible rfl)
    try simp only [Act.put, List.setIfInBounds_toArray, List.set_cons_zero, List.set_cons_succ]
    refine wpAnyH_take (i := 6) (oi := { dst := some 24, op := Go.Op.nilCheck (Go.Operand.tmp 23), type := 0, pos := "run.go:94", after := #[{ on := 5, ground := Go.Ground.data }], guard := none }) (v := ?v42) rfl (by kernel_rfl) (by kernel_rfl) (by kernel_rfl) (fun _ _ _ h => h) (Or.inl ⟨by kernel_rfl, ?h42⟩) (by assumption) ?r42
    case h42 => (intro w hSw; (try dsimp only at hSw); go_simp; try with_reducible rfl)
    try simp only [Act.put, List.setIfInBounds_toArray, List.set_cons_zero, List.set_cons_succ]
    refine wpAnyH_take (i := 7) (oi := { dst := some 25, op := Go.Op.fieldAddr 72 (Go.Operand.tmp 24) 2, type := 0, pos := "run.go:94", after := #[{ on := 6, ground := Go.Ground.data }], guard := none }) (v := ?v43) rfl (by kernel_rfl) (by kernel_rfl) (by kernel_rfl) (fun _ _ _ h => h) (Or.inl ⟨by kernel_rfl, ?h43⟩) (by assumption) ?r43
    case h43 => (intro w hSw; (try dsimp only at hSw); go_simp; try with_reducible rfl)
    try simp only [Act.put, List.setIfInBounds_toArray, List.set_cons_zero, List.set_cons_succ]
    refine wpAnyH_take (i := 8) (oi := { dst := some 26, op := Go.Op.load 3 (Go.Operand.tmp 25), type := 3, pos := "run.go:94", after := #[{ on := 7, ground := Go.Ground.data }], guard := none }) (v := ?v44) rfl (by kernel_rfl) (by kernel_rfl) (by kernel_rfl) (fun _ _ _ h => h) (Or.inl ⟨by kernel_rfl, ?h44⟩) (by assumption) ?r44
    case h44 => (intro w hSw; (try dsimp only at hSw); go_simp; try with_reducible rfl)
    try simp only [Act.put, List.setIfInBounds_toArray, List.set_cons_zero, List.set_cons_succ]
    refine wpAnyH_take (i := 9) (oi := { dst := some 27, op := Go.Op.binOp Go.BinOp.leq 3 (Go.Operand.tmp 22) (Go.Operand.tmp 26) 3, type := 4, pos := "run.go:94", after := #[{ on := 4, ground := Go.Ground.data }, { on := 8, ground := Go.Ground.data }], guard := none }) (v := ?v45) rfl (by kernel_rfl) (by kernel_rfl) (by kernel_rfl) (fun _ _ _ h => h) (Or.inl ⟨by kernel_rfl, ?h45⟩) (by assumption) ?r45
    case h45 => (intro w hSw; (try dsimp only at hSw); go_simp; try with_reducible rfl)
    try simp only [Act.put, List.setIfInBounds_toArray, List.set_cons_zero, List.set_cons_succ]
    refine wpAnyH_take (i := 10) (oi := { dst := some 28, op := Go.Op.move (Go.Operand.tmp 27), type := 4, pos := "run.go:94", after := #[{ on := 9, ground := Go.Ground.data }], guard := none }) (v := ?v46) rfl (by kernel_rfl) (by kernel_rfl) (by kernel_rfl) (fun _ _ _ h => h) (Or.inl ⟨by kernel_rfl, ?h46⟩) (by assumption) ?r46
    case h46 => (intro w hSw; (try dsimp only at hSw); go_simp; try with_reducible rfl)
    try simp only [Act.put, List.setIfInBounds_toArray, List.set_cons_zero, List.set_cons_succ]
    refine wpAnyH_take (i := 11) (oi := { dst := some 29, op := Go.Op.move (Go.Operand.tmp 0), type := 70, pos := "run.go:94", after := #[{ on := 10, ground := Go.Ground.guard }], guard := some (10, true) }) (v := ?v47) rfl (by kernel_rfl) (by kernel_rfl) (by kernel_rfl) (fun _ _ _ h => h) (Or.inl ⟨by kernel_rfl, ?h47⟩) (by assumption) ?r47
    case h47 => (intro w hSw; (try dsimp only at hSw); go_simp; try with_reducible rfl)
    try simp only [Act.put, List.setIfInBounds_toArray, List.set_cons_zero, List.set_cons_succ]
    refine wpAnyH_take (i := 12) (oi := { dst := some 30, op := Go.Op.nilCheck (Go.Operand.tmp 29), type := 0, pos := "run.go:94", after := #[{ on := 11, ground := Go.Ground.data }, { on := 10, ground := Go.Ground.guard }], guard := some (10, true) }) (v := ?v48) rfl (by kernel_rfl) (by kernel_rfl) (by kernel_rfl) (fun _ _ _ h => h) (Or.inl ⟨by kernel_rfl, ?h48⟩) (by assumption) ?r48
    case h48 => (intro w hSw; (try dsimp only at hSw); go_simp; try with_reducible rfl)
    try simp only [Act.put, List.setIfInBounds_toArray, List.set_cons_zero, List.set_cons_succ]
    refine wpAnyH_take (i := 13) (oi := { dst := some 31, op := Go.Op.fieldAddr 72 (Go.Operand.tmp 30) 2, type := 0, pos := "run.go:94", after := #[{ on := 12, ground := Go.Ground.data }, { on := 10, ground := Go.Ground.guard }], guard := some (10, true) }) (v := ?v49) rfl (by kernel_rfl) (by kernel_rfl) (by kernel_rfl) (fun _ _ _ h => h) (Or.inl ⟨by kernel_rfl, ?h49⟩) (by assumption) ?r49
    case h49 => (intro w hSw; (try dsimp only at hSw); go_simp; try with_reducible rfl)
    try simp only [Act.put, List.setIfInBounds_toArray, List.set_cons_zero, List.set_cons_succ]
    refine wpAnyH_take (i := 14) (oi := { dst := some 32, op := Go.Op.load 3 (Go.Operand.tmp 31), type := 3, pos := "run.go:94", after := #[{ on := 13, ground := Go.Ground.data }, { on := 10, ground := Go.Ground.guard }], guard := some (10, true) }) (v := ?v50) rfl (by kernel_rfl) (by kernel_rfl) (by kernel_rfl) (fun _ _ _ h => h) (Or.inl ⟨by kernel_rfl, ?h50⟩) (by assumption) ?r50
    case h50 => (intro w hSw; (try dsimp only at hSw); go_simp; try with_reducible rfl)
    try simp only [Act.put, List.setIfInBounds_toArray, List.set_cons_zero, List.set_cons_succ]
    refine wpAnyH_take (i := 15) (oi := { dst := some 33, op := Go.Op.move (Go.Operand.tmp 0), type := 70, pos := "run.go:94", after := #[{ on := 10, ground := Go.Ground.guard }], guard := some (10, true) }) (v := ?v51) rfl (by kernel_rfl) (by kernel_rfl) (by kernel_rfl) (fun _ _ _ h => h) (Or.inl ⟨by kernel_rfl, ?h51⟩) (by assumption) ?r51
    case h51 => (intro w hSw; (try dsimp only at hSw); go_simp; try with_reducible rfl)
    try simp only [Act.put, List.setIfInBounds_toArray, List.set_cons_zero, List.set_cons_succ]
    refine wpAnyH_take (i := 16) (oi := { dst := some 34, op := Go.Op.nilCheck (Go.Operand.tmp 33), type := 0, pos := "run.go:94", after := #[{ on := 15, ground := Go.Ground.data }, { on := 10, ground := Go.Ground.guard }], guard := some (10, true) }) (v := ?v52) rfl (by kernel_rfl) (by kernel_rfl) (by kernel_rfl) (fun _ _ _ h => h) (Or.inl ⟨by kernel_rfl, ?h52⟩) (by assumption) ?r52
    case h52 => (intro w hSw; (try dsimp only at hSw); go_simp; try with_reducible rfl)
    try simp only [Act.put, List.setIfInBounds_toArray, List.set_cons_zero, List.set_cons_succ]
    refine wpAnyH_take (i := 17) (oi := { dst := some 35, op := Go.Op.fieldAddr 72 (Go.Operand.tmp 34) 0, type := 0, pos := "run.go:94", after := #[{ on := 16, ground := Go.Ground.data }, { on := 10, ground := Go.Ground.guard }], guard := some (10, true) }) (v := ?v53) rfl (by kernel_rfl) (by kernel_rfl) (by kernel_rfl) (fun _ _ _ h => h) (Or.inl ⟨by kernel_rfl, ?h53⟩) (by assumption) ?r53
    case h53 => (intro w hSw; (try dsimp only at hSw); go_simp; try with_reducible rfl)
    try simp only [Act.put, List.setIfInBounds_toArray, List.set_cons_zero, List.set_cons_succ]
    refine wpAnyH_take (i := 18) (oi := { dst := some 36, op := Go.Op.fieldAddr 51 (Go.Operand.tmp 35) 4, type := 0, pos := "run.go:94", after := #[{ on := 17, ground := Go.Ground.data }, { on := 10, ground := Go.Ground.guard }], guard := some (10, true) }) (v := ?v54) rfl (by kernel_rfl) (by kernel_rfl) (by kernel_rfl) (fun _ _ _ h => h) (Or.inl ⟨by kernel_rfl, ?h54⟩) (by assumption) ?r54
    case h54 => (intro w hSw; (try dsimp only at hSw); go_simp; try with_reducible rfl)
    try simp only [Act.put, List.setIfInBounds_toArray, List.set_cons_zero, List.set_cons_succ]
    refine wpAnyH_take (i := 19) (oi := { dst := some 37, op := Go.Op.load 3 (Go.Operand.tmp 36), type := 3, pos := "run.go:94", after := #[{ on := 18, ground := Go.Ground.data }, { on := 10, ground := Go.Ground.guard }], guard := some (10, true) }) (v := ?v55) rfl (by kernel_rfl) (by kernel_rfl) (by kernel_rfl) (fun _ _ _ h => h) (Or.inl ⟨by kernel_rfl, ?h55⟩) (by assumption) ?r55
    case h55 => (intro w hSw; (try dsimp only at hSw); go_simp; try with_reducible rfl)
    try simp only [Act.put, List.setIfInBounds_toArray, List.set_cons_zero, List.set_cons_succ]
    refine wpAnyH_take (i := 20) (oi := { dst := some 38, op := Go.Op.binOp Go.BinOp.leq 3 (Go.Operand.tmp 32) (Go.Operand.tmp 37) 3, type := 4, pos := "run.go:94", after := #[{ on := 14, ground := Go.Ground.data }, { on := 19, ground := Go.Ground.data }, { on := 10, ground := Go.Ground.guard }], guard := some (10, true) }) (v := ?v56) rfl (by kernel_rfl) (by kernel_rfl) (by kernel_rfl) (fun _ _ _ h => h) (Or.inl ⟨by kernel_rfl, ?h56⟩) (by assumption) ?r56
    case h56 => (intro w hSw; (try dsimp only at hSw); go_simp; try with_reducible rfl)
    try simp only [Act.put, List.setIfInBounds_toArray, List.set_cons_zero, List.set_cons_succ]
    refine wpAnyH_take (i := 21) (oi := { dst := some 39, op := Go.Op.pick (Go.Operand.tmp 28) (Go.Operand.tmp 38) (Go.Operand.const (Go.Value.bool false)), type := 4, pos := "run.go:94", after := #[{ on := 10, ground := Go.Ground.data }, { on := 20, ground := Go.Ground.data }], guard := none }) (v := ?v57) rfl (by kernel_rfl) (by kernel_rfl) (by kernel_rfl) (fun _ _ _ h => h) (Or.inl ⟨by kernel_rfl, ?h57⟩) (by assumption) ?r57
    case h57 => (intro w hSw; (try dsimp only at hSw); go_simp; try with_reducible rfl)
    try simp only [Act.put, List.setIfInBounds_toArray, List.set_cons_zero, List.set_cons_succ]
    refine wpAnyH_take (i := 22) (oi := { dst := some 2, op := Go.Op.assign (Go.Operand.tmp 39), type := 4, pos := "run.go:94", after := #[{ on := 21, ground := Go.Ground.data }, { on := 10, ground := Go.Ground.chain }, { on := 0, ground := Go.Ground.phase }, { on := 1, ground := Go.Ground.phase }, { on := 2, ground := Go.Ground.phase }, { on := 3, ground := Go.Ground.phase }, { on := 4, ground := Go.Ground.phase }, { on := 5, ground := Go.Ground.phase }, { on := 6, ground := Go.Ground.phase }, { on := 7, ground := Go.Ground.phase }, { on := 8, ground := Go.Ground.phase }, { on := 9, ground := Go.Ground.phase }, { on := 10, ground := Go.Ground.phase }, { on := 11, ground := Go.Ground.phase }, { on := 12, ground := Go.Ground.phase }, { on := 13, ground := Go.Ground.phase }, { on := 14, ground := Go.Ground.phase }, { on := 15, ground := Go.Ground.phase }, { on := 16, ground := Go.Ground.phase }, { on := 17, ground := Go.Ground.phase }, { on := 18, ground := Go.Ground.phase }, { on := 19, ground := Go.Ground.phase }, { on := 20, ground := Go.Ground.phase }, { on := 21, ground := Go.Ground.phase }], guard := none }) (v := ?v58) rfl (by kernel_rfl) (by kernel_rfl) (by kernel_rfl) (fun _ _ _ h => h) (Or.inl ⟨by kernel_rfl, ?h58⟩) (by assumption) ?r58
    case h58 => (intro w hSw; (try dsimp only at hSw); go_simp; try with_reducible rfl)
    try simp only [Act.put, List.setIfInBounds_toArray, List.set_cons_zero, List.set_cons_succ]
    refine wpAnyH_done (by kernel_rfl) ?_ _
    go_wp2
    go_ret
    exact ⟨by rw [hok.out]; rfl, H2.out.below hHeld, B2.out.trans (.of (hHeld.mono B2.out.size))⟩
  · have d1 : decide (c ≤ v) = false := decide_eq_false h1
    have hok : Hid (decide (c ≤ v ∧ v ≤ d) = false) := Lib.hid (by rw [decide_eq_false_iff_not]; omega)
    generalize decide (c ≤ v ∧ v ≤ d) = OK at *
    go_wp2
    refine wp_drawn_on (fun W => Below w2.heap.size w2 W) (by kernel_rfl) ((Below.refl _ _).drew) (fun hHeld => ?_)
    refine wpAnyH_take (i := 0) (oi := { dst := some 18, op := Go.Op.move (Go.Operand.tmp 0), type := 70, pos := "run.go:94", after := #[], guard := none }) (v := ?v59) rfl (by kernel_rfl) (by kernel_rfl) (by kernel_rfl) (fun _ _ _ h => h) (Or.inl ⟨by kernel_rfl, ?h59⟩) (by assumption) ?r59
    case h59 => (intro w hSw; (try dsimp only at hSw); go_simp; try with_reducible rfl)
    try simp only [Act.put, List.setIfInBounds_toArray, List.set_cons_zero, List.set_cons_succ]
    refine wpAnyH_take (i := 1) (oi := { dst := some 19, op := Go.Op.nilCheck (Go.Operand.tmp 18), type := 0, pos := "run.go:94", after := #[{ on := 0, ground := Go.Ground.data }], guard := none }) (v := ?v60) rfl (by kernel_rfl) (by kernel_rfl) (by kernel_rfl) (fun _ _ _ h => h) (Or.inl ⟨by kernel_rfl, ?h60⟩) (by assumption) ?r60
    case h60 => (intro w hSw; (try dsimp only at hSw); go_simp; try with_reducible rfl)
    try simp only [Act.put, List.setIfInBounds_toArray, List.set_cons_zero, List.set_cons_succ]
    refine wpAnyH_take (i := 2) (oi := { dst := some 20, op := Go.Op.fieldAddr 72 (Go.Operand.tmp 19) 0, type := 0, pos := "run.go:94", after := #[{ on := 1, ground := Go.Ground.data }], guard := none }) (v := ?v61) rfl (by kernel_rfl) (by kernel_rfl) (by kernel_rfl) (fun _ _ _ h => h) (Or.inl ⟨by kernel_rfl, ?h61⟩) (by assumption) ?r61
    case h61 => (intro w hSw; (try dsimp only at hSw); go_simp; try with_reducible rfl)
    try simp only [Act.put, List.setIfInBounds_toArray, List.set_cons_zero, List.set_cons_succ]
    refine wpAnyH_take (i := 3) (oi := { dst := some 21, op := Go.Op.fieldAddr 51 (Go.Operand.tmp 20) 3, type := 0, pos := "run.go:94", after := #[{ on := 2, ground := Go.Ground.data }], guard := none }) (v := ?v62) rfl (by kernel_rfl) (by kernel_rfl) (by kernel_rfl) (fun _ _ _ h => h) (Or.inl ⟨by kernel_rfl, ?h62⟩) (by assumption) ?r62
    case h62 => (intro w hSw; (try dsimp only at hSw); go_simp; try with_reducible rfl)
    try simp only [Act.put, List.setIfInBounds_toArray, List.set_cons_zero, List.set_cons_succ]
    refine wpAnyH_take (i := 4) (oi := { dst := some 22, op := Go.Op.load 3 (Go.Operand.tmp 21), type := 3, pos := "run.go:94", after := #[{ on := 3, ground := Go.Ground.data }], guard := none }) (v := ?v63) rfl (by kernel_rfl) (by kernel_rfl) (by kernel_rfl) (fun _ _ _ h => h) (Or.inl ⟨by kernel_rfl, ?h63⟩) (by assumption) ?r63
    case h63 => (intro w hSw; (try dsimp only at hSw); go_simp; try with_reducible rfl)
    try simp only [Act.put, List.setIfInBounds_toArray, List.set_cons_zero, List.set_cons_succ]
    refine wpAnyH_take (i := 5) (oi := { dst := some 23, op := Go.Op.move (Go.Operand.tmp 0), type := 70, pos := "run.go:94", after := #[], guard := none }) (v := ?v64) rfl (by kernel_rfl) (by kernel_rfl) (by kernel_rfl) (fun _ _ _ h => h) (Or.inl ⟨by kernel_rfl, ?h64⟩) (by assumption) ?r64
    case h64 => (intro w hSw; (try dsimp only at hSw); go_simp; try with_reducible rfl)
    try simp only [Act.put, List.setIfInBounds_toArray, List.set_cons_zero, List.set_cons_succ]
    refine wpAnyH_take (i := 6) (oi := { dst := some 24, op := Go.Op.nilCheck (Go.Operand.tmp 23), type := 0, pos := "run.go:94", after := #[{ on := 5, ground := Go.Ground.data }], guard := none }) (v := ?v65) rfl (by kernel_rfl) (by kernel_rfl) (by kernel_rfl) (fun _ _ _ h => h) (Or.inl ⟨by kernel_rfl, ?h65⟩) (by assumption) ?r65
    case h65 => (intro w hSw; (try dsimp only at hSw); go_simp; try with_reducible rfl)
    try simp only [Act.put, List.setIfInBounds_toArray, List.set_cons_zero, List.set_cons_succ]
    refine wpAnyH_take (i := 7) (oi := { dst := some 25, op := Go.Op.fieldAddr 72 (Go.Operand.tmp 24) 2, type := 0, pos := "run.go:94", after := #[{ on := 6, ground := Go.Ground.data }], guard := none }) (v := ?v66) rfl (by kernel_rfl) (by kernel_rfl) (by kernel_rfl) (fun _ _ _ h => h) (Or.inl ⟨by kernel_rfl, ?h66⟩) (by assumption) ?r66
    case h66 => (intro w hSw; (try dsimp only at hSw); go_simp; try with_reducible rfl)
    try simp only [Act.put, List.setIfInBounds_toArray, List.set_cons_zero, List.set_cons_succ]
    refine wpAnyH_take (i := 8) (oi := { dst := some 26, op := Go.Op.load 3 (Go.Operand.tmp 25), type := 3, pos := "run.go:94", after := #[{ on := 7, ground := Go.Ground.data }], guard := none }) (v := ?v67) rfl (by kernel_rfl) (by kernel_rfl) (by kernel_rfl) (fun _ _ _ h => h) (Or.inl ⟨by kernel_rfl, ?h67⟩) (by assumption) ?r67
    case h67 => (intro w hSw; (try dsimp only at hSw); go_simp; try with_reducible rfl)
    try simp only [Act.put, List.setIfInBounds_toArray, List.set_cons_zero, List.set_cons_succ]
    refine wpAnyH_take (i := 9) (oi := { dst := some 27, op := Go.Op.binOp Go.BinOp.leq 3 (Go.Operand.tmp 22) (Go.Operand.tmp 26) 3, type := 4, pos := "run.go:94", after := #[{ on := 4, ground := Go.Ground.data }, { on := 8, ground := Go.Ground.data }], guard := none }) (v := ?v68) rfl (by kernel_rfl) (by kernel_rfl) (by kernel_rfl) (fun _ _ _ h => h) (Or.inl ⟨by kernel_rfl, ?h68⟩) (by assumption) ?r68
    case h68 => (intro w hSw; (try dsimp only at hSw); go_simp; try with_reducible rfl)
    try simp only [Act.put, List.setIfInBounds_toArray, List.set_cons_zero, List.set_cons_succ]
    refine wpAnyH_take (i := 10) (oi := { dst := some 28, op := Go.Op.move (Go.Operand.tmp 27), type := 4, pos := "run.go:94", after := #[{ on := 9, ground := Go.Ground.data }], guard := none }) (v := ?v69) rfl (by kernel_rfl) (by kernel_rfl) (by kernel_rfl) (fun _ _ _ h => h) (Or.inl ⟨by kernel_rfl, ?h69⟩) (by assumption) ?r69
    case h69 => (intro w hSw; (try dsimp only at hSw); go_simp; try with_reducible rfl)
    try simp only [Act.put, List.setIfInBounds_toArray, List.set_cons_zero, List.set_cons_succ]
    refine wpAnyH_take (i := 11) (oi := { dst := some 29, op := Go.Op.move (Go.Operand.tmp 0), type := 70, pos := "run.go:94", after := #[{ on := 10, ground := Go.Ground.guard }], guard := some (10, true) }) (v := undef) rfl (by kernel_rfl) (by kernel_rfl) (by kernel_rfl) (fun _ _ _ h => h) (Or.inr ⟨by kernel_rfl, rfl⟩) (by assumption) ?_
    try simp only [Act.put, List.setIfInBounds_toArray, List.set_cons_zero, List.set_cons_succ]
    refine wpAnyH_take (i := 12) (oi := { dst := some 30, op := Go.Op.nilCheck (Go.Operand.tmp 29), type := 0, pos := "run.go:94", after := #[{ on := 11, ground := Go.Ground.data }, { on := 10, ground := Go.Ground.guard }], guard := some (10, true) }) (v := undef) rfl (by kernel_rfl) (by kernel_rfl) (by kernel_rfl) (fun _ _ _ h => h) (Or.inr ⟨by kernel_rfl, rfl⟩) (by assumption) ?_
    try simp only [Act.put, List.setIfInBounds_toArray, List.set_cons_zero, List.set_cons_succ]
    refine wpAnyH_take (i := 13) (oi := { dst := some 31, op := Go.Op.fieldAddr 72 (Go.Operand.tmp 30) 2, type := 0, pos := "run.go:94", after := #[{ on := 12, ground := Go.Ground.data }, { on := 10, ground := Go.Ground.guard }], guard := some (10, true) }) (v := undef) rfl (by kernel_rfl) (by kernel_rfl) (by kernel_rfl) (fun _ _ _ h => h) (Or.inr ⟨by kernel_rfl, rfl⟩) (by assumption) ?_
    try simp only [Act.put, List.setIfInBounds_toArray, List.set_cons_zero, List.set_cons_succ]
    refine wpAnyH_take (i := 14) (oi := { dst := some 32, op := Go.Op.load 3 (Go.Operand.tmp 31), type := 3, pos := "run.go:94", after := #[{ on := 13, ground := Go.Ground.data }, { on := 10, ground := Go.Ground.guard }], guard := some (10, true) }) (v := undef) rfl (by kernel_rfl) (by kernel_rfl) (by kernel_rfl) (fun _ _ _ h => h) (Or.inr ⟨by kernel_rfl, rfl⟩) (by assumption) ?_
    try simp only [Act.put, List.setIfInBounds_toArray, List.set_cons_zero, List.set_cons_succ]
    refine wpAnyH_take (i := 15) (oi := { dst := some 33, op := Go.Op.move (Go.Operand.tmp 0), type := 70, pos := "run.go:94", after := #[{ on := 10, ground := Go.Ground.guard }], guard := some (10, true) }) (v := undef) rfl (by kernel_rfl) (by kernel_rfl) (by kernel_rfl) (fun _ _ _ h => h) (Or.inr ⟨by kernel_rfl, rfl⟩) (by assumption) ?_
    try simp only [Act.put, List.setIfInBounds_toArray, List.set_cons_zero, List.set_cons_succ]
    refine wpAnyH_take (i := 16) (oi := { dst := some 34, op := Go.Op.nilCheck (Go.Operand.tmp 33), type := 0, pos := "run.go:94", after := #[{ on := 15, ground := Go.Ground.data }, { on := 10, ground := Go.Ground.guard }], guard := some (10, true) }) (v := undef) rfl (by kernel_rfl) (by kernel_rfl) (by kernel_rfl) (fun _ _ _ h => h) (Or.inr ⟨by kernel_rfl, rfl⟩) (by assumption) ?_
    try simp only [Act.put, List.setIfInBounds_toArray, List.set_cons_zero, List.set_cons_succ]
    refine wpAnyH_take (i := 17) (oi := { dst := some 35, op := Go.Op.fieldAddr 72 (Go.Operand.tmp 34) 0, type := 0, pos := "run.go:94", after := #[{ on := 16, ground := Go.Ground.data }, { on := 10, ground := Go.Ground.guard }], guard := some (10, true) }) (v := undef) rfl (by kernel_rfl) (by kernel_rfl) (by kernel_rfl) (fun _ _ _ h => h) (Or.inr ⟨by kernel_rfl, rfl⟩) (by assumption) ?_
    try simp only [Act.put, List.setIfInBounds_toArray, List.set_cons_zero, List.set_cons_succ]
    refine wpAnyH_take (i := 18) (oi := { dst := some 36, op := Go.Op.fieldAddr 51 (Go.Operand.tmp 35) 4, type := 0, pos := "run.go:94", after := #[{ on := 17, ground := Go.Ground.data }, { on := 10, ground := Go.Ground.guard }], guard := some (10, true) }) (v := undef) rfl (by kernel_rfl) (by kernel_rfl) (by kernel_rfl) (fun _ _ _ h => h) (Or.inr ⟨by kernel_rfl, rfl⟩) (by assumption) ?_
    try simp only [Act.put, List.setIfInBounds_toArray, List.set_cons_zero, List.set_cons_succ]
    refine wpAnyH_take (i := 19) (oi := { dst := some 37, op := Go.Op.load 3 (Go.Operand.tmp 36), type := 3, pos := "run.go:94", after := #[{ on := 18, ground := Go.Ground.data }, { on := 10, ground := Go.Ground.guard }], guard := some (10, true) }) (v := undef) rfl (by kernel_rfl) (by kernel_rfl) (by kernel_rfl) (fun _ _ _ h => h) (Or.inr ⟨by kernel_rfl, rfl⟩) (by assumption) ?_
    try simp only [Act.put, List.setIfInBounds_toArray, List.set_cons_zero, List.set_cons_succ]
    refine wpAnyH_take (i := 20) (oi := { dst := some 38, op := Go.Op.binOp Go.BinOp.leq 3 (Go.Operand.tmp 32) (Go.Operand.tmp 37) 3, type := 4, pos := "run.go:94", after := #[{ on := 14, ground := Go.Ground.data }, { on := 19, ground := Go.Ground.data }, { on := 10, ground := Go.Ground.guard }], guard := some (10, true) }) (v := undef) rfl (by kernel_rfl) (by kernel_rfl) (by kernel_rfl) (fun _ _ _ h => h) (Or.inr ⟨by kernel_rfl, rfl⟩) (by assumption) ?_
    try simp only [Act.put, List.setIfInBounds_toArray, List.set_cons_zero, List.set_cons_succ]
    refine wpAnyH_take (i := 21) (oi := { dst := some 39, op := Go.Op.pick (Go.Operand.tmp 28) (Go.Operand.tmp 38) (Go.Operand.const (Go.Value.bool false)), type := 4, pos := "run.go:94", after := #[{ on := 10, ground := Go.Ground.data }, { on := 20, ground := Go.Ground.data }], guard := none }) (v := ?v80) rfl (by kernel_rfl) (by kernel_rfl) (by kernel_rfl) (fun _ _ _ h => h) (Or.inl ⟨by kernel_rfl, ?h80⟩) (by assumption) ?r80
    case h80 => (intro w hSw; (try dsimp only at hSw); go_simp; try with_reducible rfl)
    try simp only [Act.put, List.setIfInBounds_toArray, List.set_cons_zero, List.set_cons_succ]
    refine wpAnyH_take (i := 22) (oi := { dst := some 2, op := Go.Op.assign (Go.Operand.tmp 39), type := 4, pos := "run.go:94", after := #[{ on := 21, ground := Go.Ground.data }, { on := 10, ground := Go.Ground.chain }, { on := 0, ground := Go.Ground.phase }, { on := 1, ground := Go.Ground.phase }, { on := 2, ground := Go.Ground.phase }, { on := 3, ground := Go.Ground.phase }, { on := 4, ground := Go.Ground.phase }, { on := 5, ground := Go.Ground.phase }, { on := 6, ground := Go.Ground.phase }, { on := 7, ground := Go.Ground.phase }, { on := 8, ground := Go.Ground.phase }, { on := 9, ground := Go.Ground.phase }, { on := 10, ground := Go.Ground.phase }, { on := 11, ground := Go.Ground.phase }, { on := 12, ground := Go.Ground.phase }, { on := 13, ground := Go.Ground.phase }, { on := 14, ground := Go.Ground.phase }, { on := 15, ground := Go.Ground.phase }, { on := 16, ground := Go.Ground.phase }, { on := 17, ground := Go.Ground.phase }, { on := 18, ground := Go.Ground.phase }, { on := 19, ground := Go.Ground.phase }, { on := 20, ground := Go.Ground.phase }, { on := 21, ground := Go.Ground.phase }], guard := none }) (v := ?v81) rfl (by kernel_rfl) (by kernel_rfl) (by kernel_rfl) (fun _ _ _ h => h) (Or.inl ⟨by kernel_rfl, ?h81⟩) (by assumption) ?r81
    case h81 => (intro w hSw; (try dsimp only at hSw); go_simp; try with_reducible rfl)
    try simp only [Act.put, List.setIfInBounds_toArray, List.set_cons_zero, List.set_cons_succ]
    refine wpAnyH_done (by kernel_rfl) ?_ _
    go_wp2
    go_ret
    exact ⟨by rw [hok.out]; rfl, H2.out.below hHeld, B2.out.trans (.of (hHeld.mono B2.out.size))⟩
set_option maxRecDepth 100000 in
set_option maxHeartbeats 4000000 in
theorem mlet_any (B g : Nat) (k x y c d v : Int) (a : Option Addr) (n cp : Nat) (l : List Int) (wq : World) (h : MvH B g k x y c d v a n cp l wq) (hx0 : 1 ≤ x) (hx : x ≤ (n : Int)) (hy0 : 0 ≤ y) (hy : y ≤ (n : Int)) (hn : n ≤ 1000) (hl : l.all isV = true) (hc : isV c = true) : Calls Tryz.prog 57 #[.pointer (some ⟨g, 0, none⟩)] wq (MvE B g k x y c d v a n cp (isV (valAt l y + c)) (withV l x (addN (valAt l y) c)) wq) := by
  have b1 := valAt_in hl y
  have b2 := (isV_iff c).1 hc
  have hcl : Hid (isV (clip (valAt l y) + clip c) = isV (valAt l y + c)) := Lib.hid (by rw [clip_id b1.1 b1.2, clip_id b2.1 b2.2])
  have qy := Lib.hid (fun W (hW : Below wq.heap.size wq W) => of_any B g k x y c d v a n cp l W (h.below hW) y hy0 hy hn)
  have qa := Lib.hid (fun W => add_any (valAt l y) c W)
  rw [hcl.out] at qa
  clear hcl hl hc hy0 hy b1 b2
  have e0 : ∀ W, Below wq.heap.size wq W → W.cell? ⟨g, 2, none⟩ = some (.int .i64 y) := fun W hW => (h.below hW).blk.cell 2
  have e1 : ∀ W, Below wq.heap.size wq W → W.cell? ⟨g, 3, none⟩ = some (.int .i64 c) := fun W hW => (h.below hW).blk.cell 3
  generalize addN (valAt l y) c = S at *
  generalize isV (valAt l y + c) = OK at *
  generalize valAt l y = Y at *
  obtain ⟨j, hj⟩ := Int.eq_ofNat_of_zero_le (show 0 ≤ x - 1 by omega)
  obtain rfl : x = (j : Int) + 1 := by omega
  have hwv : Hid (withV l ((j : Int) + 1) (S) = l.set j (S)) := Lib.hid (by unfold withV; rw [show ((j : Int) + 1).toNat - 1 = j by omega])
  go_enter Tryz.func57, Tryz.ntmps57
  go_wp2
  refine wp_drawn_on (fun W => Below wq.heap.size wq W) (by kernel_rfl) ((Below.refl _ _).drew) (fun hHeld => ?_)
  refine wpAnyH_take (i := 0) (oi := { dst := some 6, op := Go.Op.move (Go.Operand.tmp 0), type := 70, pos := "run.go:87", after := #[], guard := none }) (v := ?v82) rfl (by kernel_rfl) (by kernel_rfl) (by kernel_rfl) (fun _ _ _ h => h) (Or.inl ⟨by kernel_rfl, ?h82⟩) (by assumption) ?r82
  case h82 => (intro w hSw; (try dsimp only at hSw); go_simp; try with_reducible rfl)
  try simp only [Act.put, List.setIfInBounds_toArray, List.set_cons_zero, List.set_cons_succ]
  refine wpAnyH_take (i := 1) (oi := { dst := some 7, op := Go.Op.move (Go.Operand.tmp 0), type := 70, pos := "run.go:87", after := #[], guard := none }) (v := ?v83) rfl (by kernel_rfl) (by kernel_rfl) (by kernel_rfl) (fun _ _ _ h => h) (Or.inl ⟨by kernel_rfl, ?h83⟩) (by assumption) ?r83
  case h83 => (intro w hSw; (try dsimp only at hSw); go_simp; try with_reducible rfl)
  try simp only [Act.put, List.setIfInBounds_toArray, List.set_cons_zero, List.set_cons_succ]
  refine wpAnyH_take (i := 2) (oi := { dst := some 8, op := Go.Op.nilCheck (Go.Operand.tmp 7), type := 0, pos := "run.go:87", after := #[{ on := 1, ground := Go.Ground.data }], guard := none }) (v := ?v84) rfl (by kernel_rfl) (by kernel_rfl) (by kernel_rfl) (fun _ _ _ h => h) (Or.inl ⟨by kernel_rfl, ?h84⟩) (by assumption) ?r84
  case h84 => (intro w hSw; (try dsimp only at hSw); go_simp; try with_reducible rfl)
  try simp only [Act.put, List.setIfInBounds_toArray, List.set_cons_zero, List.set_cons_succ]
  refine wpAnyH_take (i := 3) (oi := { dst := some 9, op := Go.Op.fieldAddr 72 (Go.Operand.tmp 8) 0, type := 0, pos := "run.go:87", after := #[{ on := 2, ground := Go.Ground.data }], guard := none }) (v := ?v85) rfl (by kernel_rfl) (by kernel_rfl) (by kernel_rfl) (fun _ _ _ h => h) (Or.inl ⟨by kernel_rfl, ?h85⟩) (by assumption) ?r85
  case h85 => (intro w hSw; (try dsimp only at hSw); go_simp; try with_reducible rfl)
  try simp only [Act.put, List.setIfInBounds_toArray, List.set_cons_zero, List.set_cons_succ]
  refine wpAnyH_take (i := 4) (oi := { dst := some 10, op := Go.Op.fieldAddr 51 (Go.Operand.tmp 9) 2, type := 0, pos := "run.go:87", after := #[{ on := 3, ground := Go.Ground.data }], guard := none }) (v := ?v86) rfl (by kernel_rfl) (by kernel_rfl) (by kernel_rfl) (fun _ _ _ h => h) (Or.inl ⟨by kernel_rfl, ?h86⟩) (by assumption) ?r86
  case h86 => (intro w hSw; (try dsimp only at hSw); go_simp; try with_reducible rfl)
  try simp only [Act.put, List.setIfInBounds_toArray, List.set_cons_zero, List.set_cons_succ]
  refine wpAnyH_take (i := 5) (oi := { dst := some 11, op := Go.Op.load 3 (Go.Operand.tmp 10), type := 3, pos := "run.go:87", after := #[{ on := 4, ground := Go.Ground.data }], guard := none }) (v := ?v87) rfl (by kernel_rfl) (by kernel_rfl) (by kernel_rfl) (fun _ _ _ h => h) (Or.inl ⟨by kernel_rfl, ?h87⟩) (by assumption) ?r87
  case h87 => (intro w hSw; (try dsimp only at hSw); go_simp; try with_reducible rfl)
  try simp only [Act.put, List.setIfInBounds_toArray, List.set_cons_zero, List.set_cons_succ]
  refine wpAnyH_take (i := 7) (oi := { dst := some 13, op := Go.Op.move (Go.Operand.tmp 0), type := 70, pos := "run.go:87", after := #[], guard := none }) (v := ?v88) rfl (by kernel_rfl) (by kernel_rfl) (by kernel_rfl) (fun _ _ _ h => h) (Or.inl ⟨by kernel_rfl, ?h88⟩) (by assumption) ?r88
  case h88 => (intro w hSw; (try dsimp only at hSw); go_simp; try with_reducible rfl)
  try simp only [Act.put, List.setIfInBounds_toArray, List.set_cons_zero, List.set_cons_succ]
  refine wpAnyH_take (i := 8) (oi := { dst := some 14, op := Go.Op.nilCheck (Go.Operand.tmp 13), type := 0, pos := "run.go:87", after := #[{ on := 7, ground := Go.Ground.data }], guard := none }) (v := ?v89) rfl (by kernel_rfl) (by kernel_rfl) (by kernel_rfl) (fun _ _ _ h => h) (Or.inl ⟨by kernel_rfl, ?h89⟩) (by assumption) ?r89
  case h89 => (intro w hSw; (try dsimp only at hSw); go_simp; try with_reducible rfl)
  try simp only [Act.put, List.setIfInBounds_toArray, List.set_cons_zero, List.set_cons_succ]
  refine wpAnyH_take (i := 9) (oi := { dst := some 15, op := Go.Op.fieldAddr 72 (Go.Operand.tmp 14) 0, type := 0, pos := "run.go:87", after := #[{ on := 8, ground := Go.Ground.data }], guard := none }) (v := ?v90) rfl (by kernel_rfl) (by kernel_rfl) (by kernel_rfl) (fun _ _ _ h => h) (Or.inl ⟨by kernel_rfl, ?h90⟩) (by assumption) ?r90
  case h90 => (intro w hSw; (try dsimp only at hSw); go_simp; try with_reducible rfl)
  try simp only [Act.put, List.setIfInBounds_toArray, List.set_cons_zero, List.set_cons_succ]
  refine wpAnyH_take (i := 10) (oi := { dst := some 16, op := Go.Op.fieldAddr 51 (Go.Operand.tmp 15) 3, type := 0, pos := "run.go:87", after := #[{ on := 9, ground := Go.Ground.data }], guard := none }) (v := ?v91) rfl (by kernel_rfl) (by kernel_rfl) (by kernel_rfl) (fun _ _ _ h => h) (Or.inl ⟨by kernel_rfl, ?h91⟩) (by assumption) ?r91
  case h91 => (intro w hSw; (try dsimp only at hSw); go_simp; try with_reducible rfl)
  try simp only [Act.put, List.setIfInBounds_toArray, List.set_cons_zero, List.set_cons_succ]
  refine wpAnyH_take (i := 11) (oi := { dst := some 17, op := Go.Op.load 3 (Go.Operand.tmp 16), type := 3, pos := "run.go:87", after := #[{ on := 10, ground := Go.Ground.data }], guard := none }) (v := ?v92) rfl (by kernel_rfl) (by kernel_rfl) (by kernel_rfl) (fun _ _ _ h => h) (Or.inl ⟨by kernel_rfl, ?h92⟩) (by assumption) ?r92
  case h92 => (intro w hSw; (try dsimp only at hSw); go_simp; try with_reducible rfl)
  try simp only [Act.put, List.setIfInBounds_toArray, List.set_cons_zero, List.set_cons_succ]
  refine wpAnyH_ready (rs := [6]) (by kernel_rfl) (by simp) ?_
  refine AllReadyH.cons (o := { dst := some 12, op := Go.Op.call { callee := Go.Callee.value (Go.Operand.func 78), args := #[Go.Operand.tmp 6, Go.Operand.tmp 11], argTypes := #[70, 3] }, type := 3, pos := "run.go:87", after := #[{ on := 0, ground := Go.Ground.data }, { on := 5, ground := Go.Ground.data }], guard := none }) rfl (fun K hK => ?_) AllReadyH.nil
  go_simp
  with_reducible refine (qy.out _ hHeld).mono ?_
  rintro e t6 ⟨rfl, rfl⟩
  go_simp
  refine hK.out _ _ (hHeld) (fun hHeld => ?_)
  clear hK K
  try simp only [Act.put, List.setIfInBounds_toArray, List.set_cons_zero, List.set_cons_succ]
  refine wpAnyH_ready (rs := [12]) (by kernel_rfl) (by simp) ?_
  refine AllReadyH.cons (o := { dst := some 18, op := Go.Op.call { callee := Go.Callee.value (Go.Operand.func 77), args := #[Go.Operand.tmp 12, Go.Operand.tmp 17], argTypes := #[3, 3] }, type := 94, pos := "run.go:87", after := #[{ on := 6, ground := Go.Ground.data }, { on := 11, ground := Go.Ground.data }, { on := 6, ground := Go.Ground.chain }], guard := none }) rfl (fun K hK => ?_) AllReadyH.nil
  go_simp
  with_reducible refine (qa.out _).mono ?_
  rintro e t12 ⟨rfl, rfl⟩
  go_simp
  refine hK.out _ _ (hHeld) (fun hHeld => ?_)
  clear hK K
  try simp only [Act.put, List.setIfInBounds_toArray, List.set_cons_zero, List.set_cons_succ]
  refine wpAnyH_take (i := 13) (oi := { dst := some 5, op := Go.Op.move (Go.Operand.tmp 18), type := 94, pos := "run.go:87", after := #[{ on := 12, ground := Go.Ground.data }], guard := none }) (v := ?v93) rfl (by kernel_rfl) (by kernel_rfl) (by kernel_rfl) (fun _ _ _ h => h) (Or.inl ⟨by kernel_rfl, ?h93⟩) (by assumption) ?r93
  case h93 => (intro w hSw; (try dsimp only at hSw); go_simp; try with_reducible rfl)
  try simp only [Act.put, List.setIfInBounds_toArray, List.set_cons_zero, List.set_cons_succ]
  refine wpAnyH_take (i := 14) (oi := { dst := some 19, op := Go.Op.extract (Go.Operand.tmp 5) 0, type := 3, pos := "run.go:87", after := #[{ on := 13, ground := Go.Ground.data }], guard := none }) (v := ?v94) rfl (by kernel_rfl) (by kernel_rfl) (by kernel_rfl) (fun _ _ _ h => h) (Or.inl ⟨by kernel_rfl, ?h94⟩) (by assumption) ?r94
  case h94 => (intro w hSw; (try dsimp only at hSw); go_simp; try with_reducible rfl)
  try simp only [Act.put, List.setIfInBounds_toArray, List.set_cons_zero, List.set_cons_succ]
  refine wpAnyH_take (i := 15) (oi := { dst := some 20, op := Go.Op.extract (Go.Operand.tmp 5) 1, type := 4, pos := "run.go:87", after := #[{ on := 13, ground := Go.Ground.data }, { on := 16, ground := Go.Ground.gcOnly Go.Departure.lateStores }], guard := none }) (v := ?v95) rfl (by kernel_rfl) (by kernel_rfl) (by kernel_rfl) (fun _ _ _ h => h) (Or.inl ⟨by kernel_rfl, ?h95⟩) (by assumption) ?r95
  case h95 => (intro w hSw; (try dsimp only at hSw); go_simp; try with_reducible rfl)
  try simp only [Act.put, List.setIfInBounds_toArray, List.set_cons_zero, List.set_cons_succ]
  refine wpAnyH_take (i := 16) (oi := { dst := some 3, op := Go.Op.assign (Go.Operand.tmp 19), type := 3, pos := "run.go:87", after := #[{ on := 14, ground := Go.Ground.data }, { on := 12, ground := Go.Ground.chain }, { on := 0, ground := Go.Ground.phase }, { on := 1, ground := Go.Ground.phase }, { on := 2, ground := Go.Ground.phase }, { on := 3, ground := Go.Ground.phase }, { on := 4, ground := Go.Ground.phase }, { on := 5, ground := Go.Ground.phase }, { on := 6, ground := Go.Ground.phase }, { on := 7, ground := Go.Ground.phase }, { on := 8, ground := Go.Ground.phase }, { on := 9, ground := Go.Ground.phase }, { on := 10, ground := Go.Ground.phase }, { on := 11, ground := Go.Ground.phase }, { on := 12, ground := Go.Ground.phase }, { on := 13, ground := Go.Ground.phase }, { on := 14, ground := Go.Ground.phase }, { on := 15, ground := Go.Ground.textOnly Go.Departure.lateStores }], guard := none }) (v := ?v96) rfl (by kernel_rfl) (by kernel_rfl) (by kernel_rfl) (fun _ _ _ h => h) (Or.inl ⟨by kernel_rfl, ?h96⟩) (by assumption) ?r96
  case h96 => (intro w hSw; (try dsimp only at hSw); go_simp; try with_reducible rfl)
  try simp only [Act.put, List.setIfInBounds_toArray, List.set_cons_zero, List.set_cons_succ]
  refine wpAnyH_take (i := 17) (oi := { dst := some 4, op := Go.Op.assign (Go.Operand.tmp 20), type := 4, pos := "run.go:87", after := #[{ on := 15, ground := Go.Ground.data }, { on := 16, ground := Go.Ground.chain }, { on := 0, ground := Go.Ground.phase }, { on := 1, ground := Go.Ground.phase }, { on := 2, ground := Go.Ground.phase }, { on := 3, ground := Go.Ground.phase }, { on := 4, ground := Go.Ground.phase }, { on := 5, ground := Go.Ground.phase }, { on := 6, ground := Go.Ground.phase }, { on := 7, ground := Go.Ground.phase }, { on := 8, ground := Go.Ground.phase }, { on := 9, ground := Go.Ground.phase }, { on := 10, ground := Go.Ground.phase }, { on := 11, ground := Go.Ground.phase }, { on := 12, ground := Go.Ground.phase }, { on := 13, ground := Go.Ground.phase }, { on := 14, ground := Go.Ground.phase }, { on := 15, ground := Go.Ground.phase }, { on := 16, ground := Go.Ground.phase }], guard := none }) (v := ?v97) rfl (by kernel_rfl) (by kernel_rfl) (by kernel_rfl) (fun _ _ _ h => h) (Or.inl ⟨by kernel_rfl, ?h97⟩) (by assumption) ?r97
  case h97 => (intro w hSw; (try dsimp only at hSw); go_simp; try with_reducible rfl)
  try simp only [Act.put, List.setIfInBounds_toArray, List.set_cons_zero, List.set_cons_succ]
  refine wpAnyH_done (by kernel_rfl) ?_ _
  clear e0 e1 qy qa
  replace h := h.below hHeld
  have hBw := Lib.hid hHeld
  obtain ⟨wp, hwp⟩ : ∃ wp, wp = wq.drew := ⟨_, rfl⟩
  rw [← hwp] at h hBw ⊢
  clear hwp hHeld
  obtain ⟨b, rfl, hbg, hblt, fc, ff, hmem, hset⟩ := h.at_ (j := j) (by omega)
  have hki : (j : Int) < (n : Int) := by omega
  have w1 : IntKind.i64.wrap (j : Int) = j := by rw [IntKind.wrap_i64]; omega
  have n1 : 0 ≤ (j : Int) := by omega
  generalize l.getD j 0 = u9 at *
  have H := Lib.hid h
  have hmem' := Lib.hid hmem
  have hset' := Lib.hid hset
  have hf1 : (wp.drew).cell? ⟨b, j, none⟩ = some (.int .i64 u9) := fc
  have hf2 : (wp.drew).frozen? ⟨b, j, none⟩ = false := ff
  clear h hj hmem hset fc ff hx0 hx hblt
  have g0 : ∀ W, (∃ q, W = wp.drewN q ∨ W = (wp.drewN q).setCell ⟨b, j, none⟩ (.int .i64 (S))) → W.cell? ⟨g, 0, none⟩ = some (.int .i64 k) := fun W hW => by rcases hW with ⟨q, rfl | rfl⟩ <;> first | exact ((H.out.drewN q).blk).cell 0 | exact (((H.out.drewN q).blk).far (p := ⟨b, j, none⟩) (fun e => hbg e.symm) _).cell 0
  have g1 : ∀ W, (∃ q, W = wp.drewN q ∨ W = (wp.drewN q).setCell ⟨b, j, none⟩ (.int .i64 (S))) → W.cell? ⟨g, 1, none⟩ = some (.int .i64 ((j : Int) + 1)) := fun W hW => by rcases hW with ⟨q, rfl | rfl⟩ <;> first | exact ((H.out.drewN q).blk).cell 1 | exact (((H.out.drewN q).blk).far (p := ⟨b, j, none⟩) (fun e => hbg e.symm) _).cell 1
  have g2 : ∀ W, (∃ q, W = wp.drewN q ∨ W = (wp.drewN q).setCell ⟨b, j, none⟩ (.int .i64 (S))) → W.cell? ⟨g, 2, none⟩ = some (.int .i64 y) := fun W hW => by rcases hW with ⟨q, rfl | rfl⟩ <;> first | exact ((H.out.drewN q).blk).cell 2 | exact (((H.out.drewN q).blk).far (p := ⟨b, j, none⟩) (fun e => hbg e.symm) _).cell 2
  have g3 : ∀ W, (∃ q, W = wp.drewN q ∨ W = (wp.drewN q).setCell ⟨b, j, none⟩ (.int .i64 (S))) → W.cell? ⟨g, 3, none⟩ = some (.int .i64 c) := fun W hW => by rcases hW with ⟨q, rfl | rfl⟩ <;> first | exact ((H.out.drewN q).blk).cell 3 | exact (((H.out.drewN q).blk).far (p := ⟨b, j, none⟩) (fun e => hbg e.symm) _).cell 3
  have g4 : ∀ W, (∃ q, W = wp.drewN q ∨ W = (wp.drewN q).setCell ⟨b, j, none⟩ (.int .i64 (S))) → W.cell? ⟨g, 4, none⟩ = some (.int .i64 d) := fun W hW => by rcases hW with ⟨q, rfl | rfl⟩ <;> first | exact ((H.out.drewN q).blk).cell 4 | exact (((H.out.drewN q).blk).far (p := ⟨b, j, none⟩) (fun e => hbg e.symm) _).cell 4
  have g5 : ∀ W, (∃ q, W = wp.drewN q ∨ W = (wp.drewN q).setCell ⟨b, j, none⟩ (.int .i64 (S))) → W.cell? ⟨g, 5, none⟩ = some (.slice (some ⟨b, 0, none⟩) n cp) := fun W hW => by rcases hW with ⟨q, rfl | rfl⟩ <;> first | exact ((H.out.drewN q).blk).cell 5 | exact (((H.out.drewN q).blk).far (p := ⟨b, j, none⟩) (fun e => hbg e.symm) _).cell 5
  have g6 : ∀ W, (∃ q, W = wp.drewN q ∨ W = (wp.drewN q).setCell ⟨b, j, none⟩ (.int .i64 (S))) → W.cell? ⟨g, 6, none⟩ = some (.int .i64 v) := fun W hW => by rcases hW with ⟨q, rfl | rfl⟩ <;> first | exact ((H.out.drewN q).blk).cell 6 | exact (((H.out.drewN q).blk).far (p := ⟨b, j, none⟩) (fun e => hbg e.symm) _).cell 6
  generalize withV l ((j : Int) + 1) S = R at *
  go_wp2
  refine wp_drawn_on (fun W => ∃ q, W = wp.drewN q ∨ W = (wp.drewN q).setCell ⟨b, j, none⟩ (.int .i64 (S))) (by kernel_rfl) (⟨1, .inl rfl⟩) (fun hHeld => ?_)
  refine wpAnyH_take (i := 0) (oi := { dst := some 21, op := Go.Op.move (Go.Operand.tmp 0), type := 70, pos := "run.go:88", after := #[], guard := none }) (v := ?v98) rfl (by kernel_rfl) (by kernel_rfl) (by kernel_rfl) (fun _ _ _ h => h) (Or.inl ⟨by kernel_rfl, ?h98⟩) (by assumption) ?r98
  case h98 => (intro w hSw; (try dsimp only at hSw); go_simp; try with_reducible rfl)
  try simp only [Act.put, List.setIfInBounds_toArray, List.set_cons_zero, List.set_cons_succ]
  refine wpAnyH_take (i := 1) (oi := { dst := some 22, op := Go.Op.nilCheck (Go.Operand.tmp 21), type := 0, pos := "run.go:88", after := #[{ on := 0, ground := Go.Ground.data }], guard := none }) (v := ?v99) rfl (by kernel_rfl) (by kernel_rfl) (by kernel_rfl) (fun _ _ _ h => h) (Or.inl ⟨by kernel_rfl, ?h99⟩) (by assumption) ?r99
  case h99 => (intro w hSw; (try dsimp only at hSw); go_simp; try with_reducible rfl)
  try simp only [Act.put, List.setIfInBounds_toArray, List.set_cons_zero, List.set_cons_succ]
  refine wpAnyH_take (i := 2) (oi := { dst := some 23, op := Go.Op.fieldAddr 72 (Go.Operand.tmp 22) 1, type := 0, pos := "run.go:88", after := #[{ on := 1, ground := Go.Ground.data }], guard := none }) (v := ?v100) rfl (by kernel_rfl) (by kernel_rfl) (by kernel_rfl) (fun _ _ _ h => h) (Or.inl ⟨by kernel_rfl, ?h100⟩) (by assumption) ?r100
  case h100 => (intro w hSw; (try dsimp only at hSw); go_simp; try with_reducible rfl)
  try simp only [Act.put, List.setIfInBounds_toArray, List.set_cons_zero, List.set_cons_succ]
  refine wpAnyH_take (i := 3) (oi := { dst := some 24, op := Go.Op.load 27 (Go.Operand.tmp 23), type := 27, pos := "run.go:88", after := #[{ on := 2, ground := Go.Ground.data }], guard := none }) (v := ?v101) rfl (by kernel_rfl) (by kernel_rfl) (by kernel_rfl) (fun _ _ _ h => h) (Or.inl ⟨by kernel_rfl, ?h101⟩) (by assumption) ?r101
  case h101 => (intro w hSw; (try dsimp only at hSw); go_simp; try with_reducible rfl)
  try simp only [Act.put, List.setIfInBounds_toArray, List.set_cons_zero, List.set_cons_succ]
  refine wpAnyH_take (i := 4) (oi := { dst := some 25, op := Go.Op.move (Go.Operand.tmp 0), type := 70, pos := "run.go:88", after := #[], guard := none }) (v := ?v102) rfl (by kernel_rfl) (by kernel_rfl) (by kernel_rfl) (fun _ _ _ h => h) (Or.inl ⟨by kernel_rfl, ?h102⟩) (by assumption) ?r102
  case h102 => (intro w hSw; (try dsimp only at hSw); go_simp; try with_reducible rfl)
  try simp only [Act.put, List.setIfInBounds_toArray, List.set_cons_zero, List.set_cons_succ]
  refine wpAnyH_take (i := 5) (oi := { dst := some 26, op := Go.Op.nilCheck (Go.Operand.tmp 25), type := 0, pos := "run.go:88", after := #[{ on := 4, ground := Go.Ground.data }], guard := none }) (v := ?v103) rfl (by kernel_rfl) (by kernel_rfl) (by kernel_rfl) (fun _ _ _ h => h) (Or.inl ⟨by kernel_rfl, ?h103⟩) (by assumption) ?r103
  case h103 => (intro w hSw; (try dsimp only at hSw); go_simp; try with_reducible rfl)
  try simp only [Act.put, List.setIfInBounds_toArray, List.set_cons_zero, List.set_cons_succ]
  refine wpAnyH_take (i := 6) (oi := { dst := some 27, op := Go.Op.fieldAddr 72 (Go.Operand.tmp 26) 0, type := 0, pos := "run.go:88", after := #[{ on := 5, ground := Go.Ground.data }], guard := none }) (v := ?v104) rfl (by kernel_rfl) (by kernel_rfl) (by kernel_rfl) (fun _ _ _ h => h) (Or.inl ⟨by kernel_rfl, ?h104⟩) (by assumption) ?r104
  case h104 => (intro w hSw; (try dsimp only at hSw); go_simp; try with_reducible rfl)
  try simp only [Act.put, List.setIfInBounds_toArray, List.set_cons_zero, List.set_cons_succ]
  refine wpAnyH_take (i := 7) (oi := { dst := some 28, op := Go.Op.fieldAddr 51 (Go.Operand.tmp 27) 1, type := 0, pos := "run.go:88", after := #[{ on := 6, ground := Go.Ground.data }], guard := none }) (v := ?v105) rfl (by kernel_rfl) (by kernel_rfl) (by kernel_rfl) (fun _ _ _ h => h) (Or.inl ⟨by kernel_rfl, ?h105⟩) (by assumption) ?r105
  case h105 => (intro w hSw; (try dsimp only at hSw); go_simp; try with_reducible rfl)
  try simp only [Act.put, List.setIfInBounds_toArray, List.set_cons_zero, List.set_cons_succ]
  refine wpAnyH_take (i := 8) (oi := { dst := some 29, op := Go.Op.load 3 (Go.Operand.tmp 28), type := 3, pos := "run.go:88", after := #[{ on := 7, ground := Go.Ground.data }], guard := none }) (v := ?v106) rfl (by kernel_rfl) (by kernel_rfl) (by kernel_rfl) (fun _ _ _ h => h) (Or.inl ⟨by kernel_rfl, ?h106⟩) (by assumption) ?r106
  case h106 => (intro w hSw; (try dsimp only at hSw); go_simp; try with_reducible rfl)
  try simp only [Act.put, List.setIfInBounds_toArray, List.set_cons_zero, List.set_cons_succ]
  refine wpAnyH_take (i := 9) (oi := { dst := some 30, op := Go.Op.binOp Go.BinOp.sub 3 (Go.Operand.tmp 29) (Go.Operand.const (Go.Value.int Go.IntKind.i64 1)) 3, type := 3, pos := "run.go:88", after := #[{ on := 8, ground := Go.Ground.data }], guard := none }) (v := ?v107) rfl (by kernel_rfl) (by kernel_rfl) (by kernel_rfl) (fun _ _ _ h => h) (Or.inl ⟨by kernel_rfl, ?h107⟩) (by assumption) ?r107
  case h107 => (intro w hSw; (try dsimp only at hSw); go_simp; try with_reducible rfl)
  try simp only [Act.put, List.setIfInBounds_toArray, List.set_cons_zero, List.set_cons_succ]
  refine wpAnyH_take (i := 10) (oi := { dst := some 31, op := Go.Op.move (Go.Operand.tmp 3), type := 3, pos := "run.go:88", after := #[], guard := none }) (v := ?v108) rfl (by kernel_rfl) (by kernel_rfl) (by kernel_rfl) (fun _ _ _ h => h) (Or.inl ⟨by kernel_rfl, ?h108⟩) (by assumption) ?r108
  case h108 => (intro w hSw; (try dsimp only at hSw); go_simp; try with_reducible rfl)
  try simp only [Act.put, List.setIfInBounds_toArray, List.set_cons_zero, List.set_cons_succ]
  refine wpAnyH_take (i := 11) (oi := { dst := some 32, op := Go.Op.indexAddr 27 (Go.Operand.tmp 24) (Go.Operand.tmp 30), type := 0, pos := "run.go:88", after := #[{ on := 3, ground := Go.Ground.data }, { on := 9, ground := Go.Ground.data }, { on := 0, ground := Go.Ground.phase }, { on := 1, ground := Go.Ground.phase }, { on := 2, ground := Go.Ground.phase }, { on := 3, ground := Go.Ground.phase }, { on := 4, ground := Go.Ground.phase }, { on := 5, ground := Go.Ground.phase }, { on := 6, ground := Go.Ground.phase }, { on := 7, ground := Go.Ground.phase }, { on := 8, ground := Go.Ground.phase }, { on := 9, ground := Go.Ground.phase }, { on := 10, ground := Go.Ground.phase }], guard := none }) (v := ?v109) rfl (by kernel_rfl) (by kernel_rfl) (by kernel_rfl) (fun _ _ _ h => h) (Or.inl ⟨by kernel_rfl, ?h109⟩) (by assumption) ?r109
  case h109 => (intro w hSw; (try dsimp only at hSw); go_simp; try with_reducible rfl)
  try simp only [Act.put, List.setIfInBounds_toArray, List.set_cons_zero, List.set_cons_succ]
  refine wpAnyH_ready (rs := [12]) (by kernel_rfl) (by simp) ?_
  refine AllReadyH.cons (o := { dst := none, op := Go.Op.store 3 (Go.Operand.tmp 32) (Go.Operand.tmp 31), type := 0, pos := "run.go:88", after := #[{ on := 11, ground := Go.Ground.data }, { on := 10, ground := Go.Ground.data }, { on := 0, ground := Go.Ground.phase }, { on := 1, ground := Go.Ground.phase }, { on := 2, ground := Go.Ground.phase }, { on := 3, ground := Go.Ground.phase }, { on := 4, ground := Go.Ground.phase }, { on := 5, ground := Go.Ground.phase }, { on := 6, ground := Go.Ground.phase }, { on := 7, ground := Go.Ground.phase }, { on := 8, ground := Go.Ground.phase }, { on := 9, ground := Go.Ground.phase }, { on := 10, ground := Go.Ground.phase }], guard := none }) rfl (fun K hK => ?_) AllReadyH.nil
  go_simp
  go_simp
  refine hK.out _ _ (⟨1, .inr rfl⟩) (fun hHeld => ?_)
  clear hK K
  try simp only [Act.put, List.setIfInBounds_toArray, List.set_cons_zero, List.set_cons_succ]
  refine wpAnyH_done (by kernel_rfl) ?_ _
  obtain ⟨w2, hw2⟩ : ∃ w2, w2 = (wp.setCell ⟨b, j, none⟩ (.int .i64 (S))).drew := ⟨_, rfl⟩
  rw [← hw2]
  have H2 : Hid (MvH B g k ((j : Int) + 1) y c d v (some ⟨b, 0, none⟩) n cp R w2) := Lib.hid (by rw [hwv.out, hw2]; exact (hset'.out (S)).drewN 1)
  have B2 : Hid (BelowE (blkL (some ⟨b, 0, none⟩) n cp) wp.heap.size wp w2) := Lib.hid (by rw [hw2]; exact ((BelowE.refl _ _ _).setIn (p := ⟨b, j, none⟩) hmem'.out _).drew)
  clear hw2 hHeld hf1 hf2 g0 g1 g2 g3 g4 g5 g6
  go_wp2
  go_ret
  exact ⟨rfl, H2.out, (BelowE.of hBw.out).trans (B2.out.mono hBw.out.size)⟩
def movesA : Array Value := #[.nilFunc, .func (.func 56) #[] #[], .func (.func 57) #[] #[], .func (.func 58) #[] #[], .func (.func 59) #[] #[], .func (.func 59) #[] #[]]
theorem info_moves : (Tryz.prog.info? 74).map (·.size) = some 6 := by kernel_rfl
theorem moves_any (w : World) : Calls Tryz.prog 41 #[] w (Gives (.agg movesA) w) := by
  go_enter Tryz.func41, Tryz.ntmps41
  go_wp2
  exact bodyPost_ret (v := .agg movesA) (results_cell_row rfl _ _ w.heap.size 74 movesA (0, 0) _ rfl (heap_alloc_new w (.cells movesA 74)) Tryz.underlying74 rfl (by rw [info_moves]; rfl)) rfl ⟨rfl, (Below.refl _ _).alloc (Nat.le_refl _) _⟩
def refN (k : Int) : Int := if k = 5 then 131 else 130
set_option maxRecDepth 100000 in
theorem refusal_any (k x y c d : Int) (w : World) : Calls Tryz.prog 42 #[.agg #[.int .i64 k, .int .i64 x, .int .i64 y, .int .i64 c, .int .i64 d]] w (Gives (.int .i64 (refN k)) w) := by
  have hB := Lib.hid (box_below w #[.int .i64 k, .int .i64 x, .int .i64 y, .int .i64 c, .int .i64 d] 51)
  by_cases hk : k = 5
  · have hR : Hid (refN k = 131) := Lib.hid (by unfold refN; rw [if_pos hk])
    have dk : (k == 5) = true := by simp [hk]
    generalize refN k = R at *
    clear hk
    go_enter Tryz.func42, Tryz.ntmps42
    go_wp2
    go_ret
    exact ⟨by rw [hR.out]; rfl, hB.out⟩
  · have hR : Hid (refN k = 130) := Lib.hid (by unfold refN; rw [if_neg hk])
    have dk : (k == 5) = false := by simp [hk]
    generalize refN k = R at *
    clear hk
    go_enter Tryz.func42, Tryz.ntmps42
    go_wp2
    go_ret
    exact ⟨by rw [hR.out]; rfl, hB.out⟩
end Go.Proofs.YtjdfjekonnkglaaGreatDoor
namespace Go.Proofs.YtjdfjekonnkglaaGreatDoor
open Go.RowKit
set_option linter.unusedVariables false
set_option linter.unusedSimpArgs false
def CloneS (n : Nat) (l : List Int) (w : World) (e : Ending) (w' : World) : Prop := ∃ a' c', e = .returned (.slice a' n c') ∧ w'.ownsRow w.heap.size 3 1 (.slice a' n c') n (nums .i64 l) ∧ Below w.heap.size w w'
theorem clone_any (a : Option Addr) (n c : Nat) (l : List Int) (hn : n ≤ 1000) (w : World) (h : SL w a n c l) : Calls Tryz.prog 23 #[.slice a n c] w (CloneS n l w) := by
  have hl := h.len
  have shape : ∀ (v' : Value) (w' : World), w'.ownsRow w.heap.size 3 1 v' n (nums .i64 l) → ∃ a' c', v' = .slice a' n c' := by
    intro v' w' ho
    obtain ⟨a2, c2, e2, _⟩ := seesC_own ho
    exact ⟨a2, c2, e2⟩
  rcases h.sees with hnil | ⟨b, off, ha, hb, hc⟩
  · subst hnil
    obtain rfl : n = 0 := hl
    cases a with
    | none =>
      refine (Tryz.slices_Clone_int_nil 0 c w).mono ?_
      rintro e w' ⟨rfl, rfl⟩
      exact ⟨none, 0, rfl, World.ownsRow_nil _ _ _ _, Below.refl _ _⟩
    | some ad =>
      refine (Tryz.slices_Clone_int_zero ad c w).mono ?_
      rintro e w' ⟨v', rfl, ho, _, hb⟩
      obtain ⟨a2, c2, rfl⟩ := shape v' w' ho
      exact ⟨a2, c2, rfl, ho, hb⟩
  · subst ha
    refine (Tryz.slices_Clone_int b off n c l w (by omega) (by omega) (fun j hj => hc j hj)).mono ?_
    rintro e w' ⟨v', rfl, ho, _, hb⟩
    rw [List.take_of_length_le (by omega)] at ho
    obtain ⟨a2, c2, rfl⟩ := shape v' w' ho
    exact ⟨a2, c2, rfl, ho, hb⟩
theorem info_state : (Tryz.prog.info? 39).map (·.size) = some 2 := by kernel_rfl
theorem state_res2 {fn : Func} {p q : Tmp} (h : fn.results = #[.cell p 39, .tmp q]) (tmps : Array Value) (w : World) (g : Nat) (x y u : Value)
    (hp : tmps.getD p undef = .pointer (some ⟨g, 0, none⟩)) (hq : tmps.getD q undef = u) (hg : Holds w g 39 #[x, y]) : (results fn tmps).run Tryz.prog w = .ok (.tuple #[.agg #[x, y], u]) w := by
  rw [results_cell_tmp h, hp, hq]
  simp [asAddr, run_loadVar_row w g 39 39 #[x, y] (0, 0) _ hg Tryz.underlying39 rfl (by rw [info_state]; rfl), Result.andThen]
theorem state_ret2 {Q : Ending → World → Prop} {w : World} {g : Nat} {x y u : Value} (hg : Holds w g 39 #[x, y]) (hQ : Q (.returned (.tuple #[.agg #[x, y], u])) w) (act : Act) (f : Func) (n m : Nat) (hf : f.results = #[.cell n 39, .tmp m]) (ha : act.tmps.getD n undef = .pointer (some ⟨g, 0, none⟩)) (hm : act.tmps.getD m undef = u) (hd : act.defers = []) :
    bodyPost Tryz.prog f Q Exit.ret act w :=
  bodyPost_ret (state_res2 hf _ _ g x y u ha hm hg) hd hQ
theorem state_set {w : World} {g : Nat} {a b : Value} (h : Holds w g 39 #[a, b]) (x y : Value) : Holds ((w.setCell ⟨g, 0, none⟩ x).setCell ⟨g, 1, none⟩ y) g 39 #[x, y] := by
  have h1 := (h.set 0 x).set 1 y
  simpa using h1
def StE (pt : Int) (l : List Int) (err : Int) (w : World) (e : Ending) (w' : World) : Prop := ∃ a n c, e = .returned (.tuple #[.agg #[.int .i64 pt, .slice a n c], .int .i64 err]) ∧ SL w' a n c l ∧ Below w.heap.size w w' ∧ (∀ p : Addr, a = some p → w.heap.size ≤ p.block)
def okR (k x y c d : Int) (l : List Int) (v : Int) : Bool := if k = 2 then isV (valAt l y + c) else if k = 3 then decide (c ≤ v ∧ v ≤ d) else if k = 4 ∨ k = 5 then decide (valAt l x - valAt l y ≤ c) else true
def newR (k x y c d : Int) (l : List Int) (v : Int) : List Int := if k = 2 then withV l x (addN (valAt l y) c) else if k = 3 then withV l x v else l
theorem does_eq {k x y c d : Int} {l : List Int} {v : Int} (hl : l.all isV = true) (hc : isV c = true) : doesR k x y c d l v = if okR k x y c d l v = true then (newR k x y c d l v, 0) else ([], refN k) := by
  have b1 := valAt_in hl y
  have b2 := (isV_iff c).1 hc
  unfold doesR okR newR refN
  by_cases h2 : k = 2
  · subst h2
    simp only [if_true]
    by_cases h : isV (valAt l y + c) = true
    · rw [if_pos h, if_pos h]
      have ea : addN (valAt l y) c = valAt l y + c := by unfold addN; rw [clip_id b1.1 b1.2, clip_id b2.1 b2.2, if_pos h]
      rw [ea]
    · rw [if_neg h, if_neg h, if_neg (show ¬ (2 : Int) = 5 by omega)]
  · rw [if_neg h2, if_neg h2, if_neg h2]
    by_cases h3 : k = 3
    · subst h3
      simp
    · rw [if_neg h3, if_neg h3, if_neg h3]
      by_cases h4 : k = 4
      · subst h4; simp
      · by_cases h5 : k = 5
        · subst h5; simp
        · simp [h4, h5]
theorem blkL_not {B g : Nat} {k x y c d v : Int} {a : Option Addr} {n cp : Nat} {l : List Int} {w : World} (h : MvH B g k x y c d v a n cp l w) : g ∉ blkL a n cp := by
  intro hm
  unfold blkL at hm
  simp only [Option.mem_toList] at hm
  exact h.apart g hm rfl
theorem step_far {a : Option Addr} {n cp : Nat} {X Y : World} (hE : BelowE (blkL a n cp) X.heap.size X Y) (hf : ∀ b, (Value.slice a n cp).ownBlock = some b → X.heap.size ≤ b) : Below X.heap.size X Y := by
  refine (hE.less (Y := []) (fun x hx hlt => ?_)).none
  unfold blkL at hx
  simp only [Option.mem_toList] at hx
  have := hf x hx
  omega
theorem two_cell {X : World} {g h : Nat} {t : TypeId} {cs : Array Value} (hg : Holds X h t cs) (hne : h ≠ g) (u v : Value) (W : World) (hW : ∃ q, W = X.drewN q ∨ W = ((X.drewN q).setCell ⟨g, 0, none⟩ u).setCell ⟨g, 1, none⟩ v) : Holds W h t cs := by
  rcases hW with ⟨q, rfl | rfl⟩
  · exact hg.drewN q
  · exact ((hg.drewN q).far (p := ⟨g, 0, none⟩) hne _).far (p := ⟨g, 1, none⟩) hne _
theorem sl_fin {B gm : Nat} {k x y c d v : Int} {a : Option Addr} {n cp : Nat} {l : List Int} {w : World} (hM : MvH B gm k x y c d v a n cp l w) (gz : Nat) (hz : ∀ b, (Value.slice a n cp).ownBlock = some b → b ≠ gz) (hn : n ≤ 1000) (u1 u2 : Value) : SL (((w.setCell ⟨gz, 0, none⟩ u1).setCell ⟨gz, 1, none⟩ u2).drew) a n cp l := by
  have hE : SeesE [gz] .i64 w.heap.size w a l := by
    rcases hM.sees with h | ⟨b, off, rfl, h2, h3⟩
    · exact .inl h
    · exact .inr ⟨b, off, rfl, h2, (fun hm => hz b rfl (by simpa using hm)), h3⟩
  have hb : BelowE [gz] w.heap.size w (((w.setCell ⟨gz, 0, none⟩ u1).setCell ⟨gz, 1, none⟩ u2).drew) := (((BelowE.refl _ _ _).setIn (p := ⟨gz, 0, none⟩) (by simp) _).setIn (p := ⟨gz, 1, none⟩) (by simp) _).drew
  exact ⟨hM.len, own_cap hM.row, by omega, ((hE.belowE hb).mono hb.size).sees⟩
def stepR (D : PD) (pt : Int) (l : List Int) (e v : Int) : (Int × List Int) × Int :=
  if 0 ≤ e ∧ e < (D.edges.length : Int) then
    (if (D.edges.getD e.toNat edge0).frm = pt then
      (if (doesR (D.edges.getD e.toNat edge0).k (D.edges.getD e.toNat edge0).x (D.edges.getD e.toNat edge0).y (D.edges.getD e.toNat edge0).c (D.edges.getD e.toNat edge0).d l v).2 = 0
        then (((D.edges.getD e.toNat edge0).dst, (doesR (D.edges.getD e.toNat edge0).k (D.edges.getD e.toNat edge0).x (D.edges.getD e.toNat edge0).y (D.edges.getD e.toNat edge0).c (D.edges.getD e.toNat edge0).d l v).1), 0)
        else ((0, []), (doesR (D.edges.getD e.toNat edge0).k (D.edges.getD e.toNat edge0).x (D.edges.getD e.toNat edge0).y (D.edges.getD e.toNat edge0).c (D.edges.getD e.toNat edge0).d l v).2))
      else ((0, []), 1))
  else ((0, []), 1)
end Go.Proofs.YtjdfjekonnkglaaGreatDoor
