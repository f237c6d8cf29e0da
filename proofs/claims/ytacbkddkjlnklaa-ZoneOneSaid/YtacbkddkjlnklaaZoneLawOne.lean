/- ZoneOne: the walk of the statement's function: large zones, bad zones, numbers of no variable. -/
import Derived.Test.YtacbkddkjlnklaaZoneLawTwo
import Derived.Test.YtacbkddkjlnklaaZoneLetBoth
namespace Go.Proofs.Ytacbkddkjlnklaa
open Go.RowKit
set_option linter.unusedVariables false
set_option linter.unusedSimpArgs false

/-- The block of one zone. -/
structure Bz (w W : World) (x y : Value) : Prop where
  bl : Below w.heap.size w W
  z1 : ZH W w.heap.size x y
theorem Bz.on {w W W' : World} {x y : Value} (h : Bz w W x y) (hb : Below W.heap.size W W') : Bz w W' x y := ⟨h.bl.trans (hb.mono h.bl.size), h.z1.below hb h.z1.lt⟩
theorem bz_new (w : World) (x y : Value) : Bz w (w.alloc (.cells #[x, y] 24)) x y := ⟨box_below _ _ _, Holds.new w _ _⟩
set_option maxRecDepth 100000 in
set_option maxHeartbeats 1000000 in
theorem one_large (n i j c : Int) (a : Option Addr) (m ca : Nat) (l : List Int) (w : World) (h : SL w a m ca l) (hl : 200 < m) : Calls Try.prog 4 #[.agg #[.int .i64 n, .slice a m ca], .int .i64 i, .int .i64 j, .int .i64 c] w (Gives (.bool true) w) := by
  obtain ⟨W1, hW1⟩ : ∃ W1, W1 = w.alloc (.cells #[.int .i64 n, .slice a m ca] 24) := ⟨_, rfl⟩
  have X1 : Bz w W1 (.int .i64 n) (.slice a m ca) := by rw [hW1]; exact bz_new _ _ _
  have hW1' := Lib.hid hW1
  have k1 := X1.z1.cell 1
  have hl1 := Lib.hid (large_any a m ca h.max W1)
  have hlv := Lib.hid (zlivesAt w W1 X1.bl)
  rw [decide_eq_true (show (200 : Int) < (m : Int) by omega)] at hl1
  clear hW1 X1 h
  go_enter Try.func4, Try.ntmps4
  go_wp2_with fail
  rw [← hW1'.out]
  refine hl1.out.mono ?_
  rintro e w1 ⟨rfl, rfl⟩
  go_wp2_with fail
  refine hlv.out.mono ?_
  rintro e w1 ⟨rfl, b1, bw1⟩
  have bw := Lib.hid bw1
  clear b1 bw1 hl1 hlv
  go_wp2
  go_ret
  exact ⟨rfl, bw.out⟩
set_option maxRecDepth 100000 in
set_option maxHeartbeats 4000000 in
theorem one_bad (n i j c : Int) (a : Option Addr) (m ca : Nat) (l : List Int) (w : World) (h : SL w a m ca l) (hs : ¬ 200 < m) (hk : checkB n l = false) : Calls Try.prog 4 #[.agg #[.int .i64 n, .slice a m ca], .int .i64 i, .int .i64 j, .int .i64 c] w (Gives (.bool true) w) := by
  obtain ⟨W1, hW1⟩ : ∃ W1, W1 = w.alloc (.cells #[.int .i64 n, .slice a m ca] 24) := ⟨_, rfl⟩
  have X1 : Bz w W1 (.int .i64 n) (.slice a m ca) := by rw [hW1]; exact bz_new _ _ _
  have hW1' := Lib.hid hW1
  have H1 := Lib.hid h
  have X := Lib.hid X1
  have k1 := X1.z1.cell 1
  have hl1 := Lib.hid (large_any a m ca h.max W1)
  rw [decide_eq_false (show ¬ (200 : Int) < (m : Int) by omega)] at hl1
  have hE : ∀ b p q, chkE n l b p q = 80 := fun b p q => by unfold chkE; rw [if_pos hk]
  have Q1 := Lib.hid (fun W (hW : Below w.heap.size w W) => (zlimit_bad n i j c a m ca l W (H1.out.below hW) (by rw [hE]; decide)).mono (fun e w' h => ends_of (m := 0) rfl (by decide) h))
  have Q2 := Lib.hid (fun W (hW : Below w.heap.size w W) => (zforget_bad n i a m ca l W (H1.out.below hW) (by rw [hE]; decide)).mono (fun e w' h => ends_of (m := 0) rfl (by decide) h))
  have Q3 := Lib.hid (fun W (hW : Below w.heap.size w W) => (zlet_bad n i j c a m ca l W (H1.out.below hW) (by rw [hE]; decide)).mono (fun e w' h => ends_of (m := 0) rfl (by decide) h))
  have Q4 := Lib.hid (fun W (hW : Below w.heap.size w W) => zitv_bad n i a m ca l W (H1.out.below hW) (by rw [hE]; decide))
  have Q5 := Lib.hid (fun W (hW : Below w.heap.size w W) => rcheck_any n a m ca l W (H1.out.below hW))
  simp only [hE] at Q1 Q2 Q3 Q4
  rw [hk] at Q5
  clear hW1 X1 h H1 hE hk
  go_enter Try.func4, Try.ntmps4
  go_wp2_with fail
  rw [← hW1'.out]
  refine hl1.out.mono ?_
  rintro e w1 ⟨rfl, rfl⟩
  clear hl1 hW1' k1
  have k0 := X.out.z1.cell 0
  have k1 := X.out.z1.cell 1
  have q := Lib.hid (Q1.out _ X.out.bl)
  go_wp2_with fail
  refine q.out.mono ?_
  rintro e v1 ⟨a1, c1, rfl, s1, b1⟩
  clear q Q1 k0 k1
  have k0 : v1.cell? ⟨w.heap.size, 0, none⟩ = some (.int .i64 n) := (X.out.z1.below b1 X.out.z1.lt).cell 0
  have k1 : v1.cell? ⟨w.heap.size, 1, none⟩ = some (.slice a m ca) := (X.out.z1.below b1 X.out.z1.lt).cell 1
  have k2 : w.heap.size < v1.heap.size := (X.out.z1.below b1 X.out.z1.lt).lt
  have B := b1.trans ((box_below v1 #[.int .i64 0, .slice a1 0 c1] 24).mono b1.size)
  replace X := Lib.hid (X.out.on B)
  have Z1 := Lib.hid (Holds.new v1 24 #[.int .i64 0, .slice a1 0 c1])
  clear b1 s1 B
  have q := Lib.hid (Q2.out _ X.out.bl)
  go_wp2_with fail
  refine q.out.mono ?_
  rintro e v2 ⟨a2, c2, rfl, s2, b2⟩
  clear q Q2 k0 k1 k2
  have k0 : v2.cell? ⟨w.heap.size, 0, none⟩ = some (.int .i64 n) := (X.out.z1.below b2 X.out.z1.lt).cell 0
  have k1 : v2.cell? ⟨w.heap.size, 1, none⟩ = some (.slice a m ca) := (X.out.z1.below b2 X.out.z1.lt).cell 1
  have k2 : w.heap.size < v2.heap.size := (X.out.z1.below b2 X.out.z1.lt).lt
  have B := b2.trans ((box_below v2 #[.int .i64 0, .slice a2 0 c2] 24).mono b2.size)
  replace X := Lib.hid (X.out.on B)
  replace Z1 := Lib.hid (Z1.out.below B Z1.out.lt)
  have Z2 := Lib.hid (Holds.new v2 24 #[.int .i64 0, .slice a2 0 c2])
  clear b2 s2 B
  have q := Lib.hid (Q3.out _ X.out.bl)
  go_wp2_with fail
  refine q.out.mono ?_
  rintro e v3 ⟨a3, c3, rfl, s3, b3⟩
  clear q Q3 k0 k1 k2
  have k0 : v3.cell? ⟨w.heap.size, 0, none⟩ = some (.int .i64 n) := (X.out.z1.below b3 X.out.z1.lt).cell 0
  have k1 : v3.cell? ⟨w.heap.size, 1, none⟩ = some (.slice a m ca) := (X.out.z1.below b3 X.out.z1.lt).cell 1
  have k2 : w.heap.size < v3.heap.size := (X.out.z1.below b3 X.out.z1.lt).lt
  have B := b3.trans ((box_below v3 #[.int .i64 0, .slice a3 0 c3] 24).mono b3.size)
  replace X := Lib.hid (X.out.on B)
  replace Z1 := Lib.hid (Z1.out.below B Z1.out.lt)
  replace Z2 := Lib.hid (Z2.out.below B Z2.out.lt)
  have Z3 := Lib.hid (Holds.new v3 24 #[.int .i64 0, .slice a3 0 c3])
  clear b3 s3 B
  have q := Lib.hid (Q4.out _ X.out.bl)
  go_wp2_with fail
  refine q.out.mono ?_
  rintro e v4 ⟨rfl, b4⟩
  clear q Q4 k0 k1 k2
  have B := b4.trans ((box_below v4 #[.int .i64 0, .int .i64 0] 38).mono b4.size)
  replace X := Lib.hid (X.out.on B)
  replace Z1 := Lib.hid (Z1.out.below B Z1.out.lt)
  replace Z2 := Lib.hid (Z2.out.below B Z2.out.lt)
  replace Z3 := Lib.hid (Z3.out.below B Z3.out.lt)
  have Z4 := Lib.hid (Holds.new v4 38 #[.int .i64 0, .int .i64 0])
  clear b4 B
  have hlv := Lib.hid (zlivesAt w _ X.out.bl)
  go_wp2_with fail
  refine hlv.out.mono ?_
  rintro e v5 ⟨rfl, b5, -⟩
  replace X := Lib.hid (X.out.on b5)
  replace Z1 := Lib.hid (Z1.out.below b5 Z1.out.lt)
  replace Z2 := Lib.hid (Z2.out.below b5 Z2.out.lt)
  replace Z3 := Lib.hid (Z3.out.below b5 Z3.out.lt)
  replace Z4 := Lib.hid (Z4.out.below b5 Z4.out.lt)
  clear b5 hlv
  have k0 := X.out.z1.cell 0
  have k1 := X.out.z1.cell 1
  have q := Lib.hid (Q5.out _ X.out.bl)
  go_wp2_with fail
  refine q.out.mono ?_
  rintro e v6 ⟨rfl, b6⟩
  replace X := Lib.hid (X.out.on b6)
  replace Z1 := Lib.hid (Z1.out.below b6 Z1.out.lt)
  replace Z2 := Lib.hid (Z2.out.below b6 Z2.out.lt)
  replace Z3 := Lib.hid (Z3.out.below b6 Z3.out.lt)
  replace Z4 := Lib.hid (Z4.out.below b6 Z4.out.lt)
  clear b6 q k0 k1 Q5
  have y10 := Z1.out.cell 0
  have y11 := Z1.out.cell 1
  have y20 := Z2.out.cell 0
  have y21 := Z2.out.cell 1
  have y30 := Z3.out.cell 0
  have y31 := Z3.out.cell 1
  have y40 := Z4.out.cell 0
  have y41 := Z4.out.cell 1
  go_wp2
  go_ret
  exact ⟨rfl, X.out.bl⟩
set_option maxRecDepth 100000 in
set_option maxHeartbeats 4000000 in
theorem one_off (n i j c : Int) (a : Option Addr) (m ca : Nat) (l : List Int) (w : World) (h : SL w a m ca l) (hs : ¬ 200 < m) (hk : checkB n l = true) (hoff : i < 0 ∨ n < i) : Calls Try.prog 4 #[.agg #[.int .i64 n, .slice a m ca], .int .i64 i, .int .i64 j, .int .i64 c] w (Gives (.bool true) w) := by
  obtain ⟨W1, hW1⟩ : ∃ W1, W1 = w.alloc (.cells #[.int .i64 n, .slice a m ca] 24) := ⟨_, rfl⟩
  have X1 : Bz w W1 (.int .i64 n) (.slice a m ca) := by rw [hW1]; exact bz_new _ _ _
  have hW1' := Lib.hid hW1
  have H1 := Lib.hid h
  have X := Lib.hid X1
  have k1 := X1.z1.cell 1
  have hl1 := Lib.hid (large_any a m ca h.max W1)
  rw [decide_eq_false (show ¬ (200 : Int) < (m : Int) by omega)] at hl1
  have hE : ∀ b q, 0 ≤ b → chkE n l b i q = 1 := fun b q hb => by unfold chkE; rw [if_neg (by rw [hk]; simp), if_pos (by omega)]
  have Q1 := Lib.hid (fun W (hW : Below w.heap.size w W) => (zlimit_bad n i j c a m ca l W (H1.out.below hW) (by rw [hE _ _ (by omega)]; decide)).mono (fun e w' h => ends_of (m := 0) rfl (by decide) h))
  have Q2 := Lib.hid (fun W (hW : Below w.heap.size w W) => (zforget_bad n i a m ca l W (H1.out.below hW) (by rw [hE _ _ (by omega)]; decide)).mono (fun e w' h => ends_of (m := 0) rfl (by decide) h))
  have Q3 := Lib.hid (fun W (hW : Below w.heap.size w W) => (zlet_bad n i j c a m ca l W (H1.out.below hW) (by rw [hE _ _ (by omega)]; decide)).mono (fun e w' h => ends_of (m := 0) rfl (by decide) h))
  have Q4 := Lib.hid (fun W (hW : Below w.heap.size w W) => zitv_bad n i a m ca l W (H1.out.below hW) (by rw [hE _ _ (by omega)]; decide))
  have Q5 := Lib.hid (fun W (hW : Below w.heap.size w W) => rcheck_any n a m ca l W (H1.out.below hW))
  rw [hE 0 j (by omega)] at Q1
  rw [hE 1 0 (by omega)] at Q2
  rw [hE 1 j (by omega)] at Q3
  rw [hE 0 0 (by omega)] at Q4
  rw [hk] at Q5
  have R1 := Lib.hid (fun W => rvar_any n i a m ca W)
  have R2 := Lib.hid (fun W => ror0_any n i a m ca W)
  have R3 := Lib.hid (fun W => ror0_any n j a m ca W)
  rw [show (decide (1 ≤ i) && decide (i ≤ n)) = false by simp; omega] at R1
  rw [show (decide (0 ≤ i) && decide (i ≤ n)) = false by simp; omega] at R2
  generalize (decide (0 ≤ j) && decide (j ≤ n)) = B3 at R3
  clear hW1 X1 h H1 hE hk hoff
  go_enter Try.func4, Try.ntmps4
  go_wp2_with fail
  rw [← hW1'.out]
  refine hl1.out.mono ?_
  rintro e w1 ⟨rfl, rfl⟩
  clear hl1 hW1' k1
  have k0 := X.out.z1.cell 0
  have k1 := X.out.z1.cell 1
  have q := Lib.hid (Q1.out _ X.out.bl)
  go_wp2_with fail
  refine q.out.mono ?_
  rintro e v1 ⟨a1, c1, rfl, s1, b1⟩
  clear q Q1 k0 k1
  have k0 : v1.cell? ⟨w.heap.size, 0, none⟩ = some (.int .i64 n) := (X.out.z1.below b1 X.out.z1.lt).cell 0
  have k1 : v1.cell? ⟨w.heap.size, 1, none⟩ = some (.slice a m ca) := (X.out.z1.below b1 X.out.z1.lt).cell 1
  have k2 : w.heap.size < v1.heap.size := (X.out.z1.below b1 X.out.z1.lt).lt
  have B := b1.trans ((box_below v1 #[.int .i64 0, .slice a1 0 c1] 24).mono b1.size)
  replace X := Lib.hid (X.out.on B)
  have Z1 := Lib.hid (Holds.new v1 24 #[.int .i64 0, .slice a1 0 c1])
  clear b1 s1 B
  have q := Lib.hid (Q2.out _ X.out.bl)
  go_wp2_with fail
  refine q.out.mono ?_
  rintro e v2 ⟨a2, c2, rfl, s2, b2⟩
  clear q Q2 k0 k1 k2
  have k0 : v2.cell? ⟨w.heap.size, 0, none⟩ = some (.int .i64 n) := (X.out.z1.below b2 X.out.z1.lt).cell 0
  have k1 : v2.cell? ⟨w.heap.size, 1, none⟩ = some (.slice a m ca) := (X.out.z1.below b2 X.out.z1.lt).cell 1
  have k2 : w.heap.size < v2.heap.size := (X.out.z1.below b2 X.out.z1.lt).lt
  have B := b2.trans ((box_below v2 #[.int .i64 0, .slice a2 0 c2] 24).mono b2.size)
  replace X := Lib.hid (X.out.on B)
  replace Z1 := Lib.hid (Z1.out.below B Z1.out.lt)
  have Z2 := Lib.hid (Holds.new v2 24 #[.int .i64 0, .slice a2 0 c2])
  clear b2 s2 B
  have q := Lib.hid (Q3.out _ X.out.bl)
  go_wp2_with fail
  refine q.out.mono ?_
  rintro e v3 ⟨a3, c3, rfl, s3, b3⟩
  clear q Q3 k0 k1 k2
  have k0 : v3.cell? ⟨w.heap.size, 0, none⟩ = some (.int .i64 n) := (X.out.z1.below b3 X.out.z1.lt).cell 0
  have k1 : v3.cell? ⟨w.heap.size, 1, none⟩ = some (.slice a m ca) := (X.out.z1.below b3 X.out.z1.lt).cell 1
  have k2 : w.heap.size < v3.heap.size := (X.out.z1.below b3 X.out.z1.lt).lt
  have B := b3.trans ((box_below v3 #[.int .i64 0, .slice a3 0 c3] 24).mono b3.size)
  replace X := Lib.hid (X.out.on B)
  replace Z1 := Lib.hid (Z1.out.below B Z1.out.lt)
  replace Z2 := Lib.hid (Z2.out.below B Z2.out.lt)
  have Z3 := Lib.hid (Holds.new v3 24 #[.int .i64 0, .slice a3 0 c3])
  clear b3 s3 B
  have q := Lib.hid (Q4.out _ X.out.bl)
  go_wp2_with fail
  refine q.out.mono ?_
  rintro e v4 ⟨rfl, b4⟩
  clear q Q4 k0 k1 k2
  have B := b4.trans ((box_below v4 #[.int .i64 0, .int .i64 0] 38).mono b4.size)
  replace X := Lib.hid (X.out.on B)
  replace Z1 := Lib.hid (Z1.out.below B Z1.out.lt)
  replace Z2 := Lib.hid (Z2.out.below B Z2.out.lt)
  replace Z3 := Lib.hid (Z3.out.below B Z3.out.lt)
  have Z4 := Lib.hid (Holds.new v4 38 #[.int .i64 0, .int .i64 0])
  clear b4 B
  have hlv := Lib.hid (zlivesAt w _ X.out.bl)
  go_wp2_with fail
  refine hlv.out.mono ?_
  rintro e v5 ⟨rfl, b5, -⟩
  replace X := Lib.hid (X.out.on b5)
  replace Z1 := Lib.hid (Z1.out.below b5 Z1.out.lt)
  replace Z2 := Lib.hid (Z2.out.below b5 Z2.out.lt)
  replace Z3 := Lib.hid (Z3.out.below b5 Z3.out.lt)
  replace Z4 := Lib.hid (Z4.out.below b5 Z4.out.lt)
  clear b5 hlv
  have k0 := X.out.z1.cell 0
  have k1 := X.out.z1.cell 1
  have q := Lib.hid (Q5.out _ X.out.bl)
  go_wp2_with fail
  refine q.out.mono ?_
  rintro e v6 ⟨rfl, b6⟩
  replace X := Lib.hid (X.out.on b6)
  replace Z1 := Lib.hid (Z1.out.below b6 Z1.out.lt)
  replace Z2 := Lib.hid (Z2.out.below b6 Z2.out.lt)
  replace Z3 := Lib.hid (Z3.out.below b6 Z3.out.lt)
  replace Z4 := Lib.hid (Z4.out.below b6 Z4.out.lt)
  clear b6 q k0 k1 Q5
  have g0 : ∀ W, Below v6.heap.size v6 W → W.cell? ⟨w.heap.size, 0, none⟩ = some (.int .i64 n) := fun W hW => (X.out.z1.below hW X.out.z1.lt).cell 0
  have g1 : ∀ W, Below v6.heap.size v6 W → W.cell? ⟨w.heap.size, 1, none⟩ = some (.slice a m ca) := fun W hW => (X.out.z1.below hW X.out.z1.lt).cell 1
  have ht : Hid (∀ W, Below v6.heap.size v6 W → Below w.heap.size w W) := Lib.hid (fun W hW => X.out.bl.trans (hW.mono X.out.bl.size))
  go_wp2
  refine wp_drawn_on (fun W => Below v6.heap.size v6 W) (by kernel_rfl) (below_drew (Below.refl _ _)) (fun hHeld => ?_)
  refine wpAnyH_take (i := 0) (oi := { dst := some 90, op := Go.Op.load 24 (Go.Operand.tmp 4), type := 24, pos := "law.go:64", after := #[], guard := none }) (v := ?v1) rfl (by kernel_rfl) (by kernel_rfl) (by kernel_rfl) (fun _ _ _ h => h) (Or.inl ⟨by kernel_rfl, ?h1⟩) (by assumption) ?r1
  case h1 => (intro w hSw; (try dsimp only at hSw); go_simp; try with_reducible rfl)
  try simp only [Act.put, List.setIfInBounds_toArray, List.set_cons_zero, List.set_cons_succ]
  refine wpAnyH_take (i := 1) (oi := { dst := some 91, op := Go.Op.move (Go.Operand.tmp 1), type := 3, pos := "law.go:64", after := #[], guard := none }) (v := ?v2) rfl (by kernel_rfl) (by kernel_rfl) (by kernel_rfl) (fun _ _ _ h => h) (Or.inl ⟨by kernel_rfl, ?h2⟩) (by assumption) ?r2
  case h2 => (intro w hSw; (try dsimp only at hSw); go_simp; try with_reducible rfl)
  try simp only [Act.put, List.setIfInBounds_toArray, List.set_cons_zero, List.set_cons_succ]
  refine wpAnyH_take (i := 3) (oi := { dst := some 93, op := Go.Op.load 24 (Go.Operand.tmp 4), type := 24, pos := "law.go:64", after := #[], guard := none }) (v := ?v3) rfl (by kernel_rfl) (by kernel_rfl) (by kernel_rfl) (fun _ _ _ h => h) (Or.inl ⟨by kernel_rfl, ?h3⟩) (by assumption) ?r3
  case h3 => (intro w hSw; (try dsimp only at hSw); go_simp; try with_reducible rfl)
  try simp only [Act.put, List.setIfInBounds_toArray, List.set_cons_zero, List.set_cons_succ]
  refine wpAnyH_take (i := 4) (oi := { dst := some 94, op := Go.Op.move (Go.Operand.tmp 1), type := 3, pos := "law.go:64", after := #[], guard := none }) (v := ?v4) rfl (by kernel_rfl) (by kernel_rfl) (by kernel_rfl) (fun _ _ _ h => h) (Or.inl ⟨by kernel_rfl, ?h4⟩) (by assumption) ?r4
  case h4 => (intro w hSw; (try dsimp only at hSw); go_simp; try with_reducible rfl)
  try simp only [Act.put, List.setIfInBounds_toArray, List.set_cons_zero, List.set_cons_succ]
  refine wpAnyH_take (i := 6) (oi := { dst := some 96, op := Go.Op.load 24 (Go.Operand.tmp 4), type := 24, pos := "law.go:64", after := #[], guard := none }) (v := ?v5) rfl (by kernel_rfl) (by kernel_rfl) (by kernel_rfl) (fun _ _ _ h => h) (Or.inl ⟨by kernel_rfl, ?h5⟩) (by assumption) ?r5
  case h5 => (intro w hSw; (try dsimp only at hSw); go_simp; try with_reducible rfl)
  try simp only [Act.put, List.setIfInBounds_toArray, List.set_cons_zero, List.set_cons_succ]
  refine wpAnyH_take (i := 7) (oi := { dst := some 97, op := Go.Op.move (Go.Operand.tmp 2), type := 3, pos := "law.go:64", after := #[], guard := none }) (v := ?v6) rfl (by kernel_rfl) (by kernel_rfl) (by kernel_rfl) (fun _ _ _ h => h) (Or.inl ⟨by kernel_rfl, ?h6⟩) (by assumption) ?r6
  case h6 => (intro w hSw; (try dsimp only at hSw); go_simp; try with_reducible rfl)
  try simp only [Act.put, List.setIfInBounds_toArray, List.set_cons_zero, List.set_cons_succ]
  refine wpAnyH_ready (rs := [2]) (by kernel_rfl) (by simp) ?_
  refine AllReadyH.cons (o := { dst := some 92, op := Go.Op.call { callee := Go.Callee.value (Go.Operand.func 26), args := #[Go.Operand.tmp 90, Go.Operand.tmp 91], argTypes := #[24, 3] }, type := 4, pos := "law.go:64", after := #[{ on := 0, ground := Go.Ground.data }, { on := 1, ground := Go.Ground.data }], guard := none }) rfl (fun K hK => ?_) AllReadyH.nil
  go_simp
  refine (R1.out _).mono ?_
  rintro e u2 ⟨rfl, b2⟩
  go_simp
  refine hK.out _ _ (hHeld.trans (b2.mono hHeld.size)) (fun hHeld => ?_)
  clear hK K
  try simp only [Act.put, List.setIfInBounds_toArray, List.set_cons_zero, List.set_cons_succ]
  refine wpAnyH_ready (rs := [5]) (by kernel_rfl) (by simp) ?_
  refine AllReadyH.cons (o := { dst := some 95, op := Go.Op.call { callee := Go.Callee.value (Go.Operand.func 27), args := #[Go.Operand.tmp 93, Go.Operand.tmp 94], argTypes := #[24, 3] }, type := 4, pos := "law.go:64", after := #[{ on := 3, ground := Go.Ground.data }, { on := 4, ground := Go.Ground.data }, { on := 2, ground := Go.Ground.chain }], guard := none }) rfl (fun K hK => ?_) AllReadyH.nil
  go_simp
  refine (R2.out _).mono ?_
  rintro e u5 ⟨rfl, b5⟩
  go_simp
  refine hK.out _ _ (hHeld.trans (b5.mono hHeld.size)) (fun hHeld => ?_)
  clear hK K
  try simp only [Act.put, List.setIfInBounds_toArray, List.set_cons_zero, List.set_cons_succ]
  refine wpAnyH_ready (rs := [8]) (by kernel_rfl) (by simp) ?_
  refine AllReadyH.cons (o := { dst := some 98, op := Go.Op.call { callee := Go.Callee.value (Go.Operand.func 27), args := #[Go.Operand.tmp 96, Go.Operand.tmp 97], argTypes := #[24, 3] }, type := 4, pos := "law.go:64", after := #[{ on := 6, ground := Go.Ground.data }, { on := 7, ground := Go.Ground.data }, { on := 5, ground := Go.Ground.chain }], guard := none }) rfl (fun K hK => ?_) AllReadyH.nil
  go_simp
  refine (R3.out _).mono ?_
  rintro e u8 ⟨rfl, b8⟩
  go_simp
  refine hK.out _ _ (hHeld.trans (b8.mono hHeld.size)) (fun hHeld => ?_)
  clear hK K
  try simp only [Act.put, List.setIfInBounds_toArray, List.set_cons_zero, List.set_cons_succ]
  refine wpAnyH_take (i := 9) (oi := { dst := some 17, op := Go.Op.assign (Go.Operand.tmp 92), type := 4, pos := "law.go:64", after := #[{ on := 2, ground := Go.Ground.data }, { on := 8, ground := Go.Ground.chain }, { on := 0, ground := Go.Ground.phase }, { on := 1, ground := Go.Ground.phase }, { on := 2, ground := Go.Ground.phase }, { on := 3, ground := Go.Ground.textOnly Go.Departure.lateStores }, { on := 4, ground := Go.Ground.textOnly Go.Departure.lateStores }, { on := 5, ground := Go.Ground.textOnly Go.Departure.lateStoresUnsure }, { on := 6, ground := Go.Ground.textOnly Go.Departure.lateStores }, { on := 7, ground := Go.Ground.textOnly Go.Departure.lateStores }, { on := 8, ground := Go.Ground.textOnly Go.Departure.lateStoresUnsure }], guard := none }) (v := ?v7) rfl (by kernel_rfl) (by kernel_rfl) (by kernel_rfl) (fun _ _ _ h => h) (Or.inl ⟨by kernel_rfl, ?h7⟩) (by assumption) ?r7
  case h7 => (intro w hSw; (try dsimp only at hSw); go_simp; try with_reducible rfl)
  try simp only [Act.put, List.setIfInBounds_toArray, List.set_cons_zero, List.set_cons_succ]
  refine wpAnyH_take (i := 10) (oi := { dst := some 18, op := Go.Op.assign (Go.Operand.tmp 95), type := 4, pos := "law.go:64", after := #[{ on := 5, ground := Go.Ground.data }, { on := 9, ground := Go.Ground.chain }, { on := 0, ground := Go.Ground.phase }, { on := 1, ground := Go.Ground.phase }, { on := 2, ground := Go.Ground.phase }, { on := 3, ground := Go.Ground.phase }, { on := 4, ground := Go.Ground.phase }, { on := 5, ground := Go.Ground.phase }, { on := 6, ground := Go.Ground.textOnly Go.Departure.lateStores }, { on := 7, ground := Go.Ground.textOnly Go.Departure.lateStores }, { on := 8, ground := Go.Ground.textOnly Go.Departure.lateStoresUnsure }, { on := 9, ground := Go.Ground.phase }], guard := none }) (v := ?v8) rfl (by kernel_rfl) (by kernel_rfl) (by kernel_rfl) (fun _ _ _ h => h) (Or.inl ⟨by kernel_rfl, ?h8⟩) (by assumption) ?r8
  case h8 => (intro w hSw; (try dsimp only at hSw); go_simp; try with_reducible rfl)
  try simp only [Act.put, List.setIfInBounds_toArray, List.set_cons_zero, List.set_cons_succ]
  refine wpAnyH_take (i := 11) (oi := { dst := some 19, op := Go.Op.assign (Go.Operand.tmp 98), type := 4, pos := "law.go:64", after := #[{ on := 8, ground := Go.Ground.data }, { on := 10, ground := Go.Ground.chain }, { on := 0, ground := Go.Ground.phase }, { on := 1, ground := Go.Ground.phase }, { on := 2, ground := Go.Ground.phase }, { on := 3, ground := Go.Ground.phase }, { on := 4, ground := Go.Ground.phase }, { on := 5, ground := Go.Ground.phase }, { on := 6, ground := Go.Ground.phase }, { on := 7, ground := Go.Ground.phase }, { on := 8, ground := Go.Ground.phase }, { on := 9, ground := Go.Ground.phase }, { on := 10, ground := Go.Ground.phase }], guard := none }) (v := ?v9) rfl (by kernel_rfl) (by kernel_rfl) (by kernel_rfl) (fun _ _ _ h => h) (Or.inl ⟨by kernel_rfl, ?h9⟩) (by assumption) ?r9
  case h9 => (intro w hSw; (try dsimp only at hSw); go_simp; try with_reducible rfl)
  try simp only [Act.put, List.setIfInBounds_toArray, List.set_cons_zero, List.set_cons_succ]
  refine wpAnyH_done (by kernel_rfl) ?_ _
  have bf := Lib.hid (ht.out _ hHeld)
  clear g0 g1
  go_wp2
  go_ret
  exact ⟨rfl, bf.out⟩
end Go.Proofs.Ytacbkddkjlnklaa
