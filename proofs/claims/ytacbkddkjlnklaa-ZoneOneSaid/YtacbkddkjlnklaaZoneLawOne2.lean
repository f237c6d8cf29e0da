/- ZoneOne: zones (Written by gen-zone-one.py.) -/
import Derived.Test.YtacbkddkjlnklaaZoneLawOne
namespace Go.Proofs.Ytacbkddkjlnklaa
open Go.RowKit
set_option linter.unusedVariables false
set_option linter.unusedSimpArgs false

theorem zitv_ok (n i : Nat) (hi : i ≤ n) (l : List Int) (hz : IsZ n l) (a : Option Addr) (m ca : Nat) (w : World) (h : SL w a m ca l) : Calls Try.prog 24 #[.agg #[.int .i64 n, .slice a m ca], .int .i64 i] w (Gives (.tuple #[.agg #[.int .i64 (itvL n l i).1, .int .i64 (itvL n l i).2], .int .i64 0]) w) := by
  unfold itvL
  rcases hz.2 with e | hF
  · subst e
    have hm : m = 0 := by rw [h.len]; rfl
    subst hm
    rw [if_pos rfl]
    exact zitv_nil n i hz.1 hi a ca w h
  · rw [if_neg hF.ne]
    exact zitv_full n i hi l hF a m ca w h
theorem ritv_ok (n i : Nat) (hi : i ≤ n) (l : List Int) (hz : IsZ n l) (a : Option Addr) (m ca : Nat) (w : World) (h : SL w a m ca l) : Calls Try.prog 28 #[.agg #[.int .i64 n, .slice a m ca], .int .i64 i] w (Gives (.agg #[.int .i64 (itvL n l i).1, .int .i64 (itvL n l i).2]) w) := by
  unfold itvL
  rcases hz.2 with e | hF
  · subst e
    have hm : m = 0 := by rw [h.len]; rfl
    subst hm
    rw [if_pos rfl]
    exact ritv_nil n i a ca w
  · rw [if_neg hF.ne]
    exact ritv_full n i hi l hF a m ca w h
set_option maxRecDepth 100000 in
set_option maxHeartbeats 4000000 in
theorem one_zo (n i : Nat) (j : Int) (hj : j < 0 ∨ n < j) (c : Int) (a : Option Addr) (m ca : Nat) (l : List Int) (w : World) (h : SL w a m ca l) (hs : ¬ 200 < m) (hz : IsZ n l) (hi : i ≤ n) (hi0 : i = 0) : Calls Try.prog 4 #[.agg #[.int .i64 n, .slice a m ca], .int .i64 i, .int .i64 j, .int .i64 c] w (Gives (.bool true) w) := by
  obtain ⟨W1, hW1⟩ : ∃ W1, W1 = w.alloc (.cells #[.int .i64 n, .slice a m ca] 24) := ⟨_, rfl⟩
  have X1 : Bz w W1 (.int .i64 n) (.slice a m ca) := by rw [hW1]; exact bz_new _ _ _
  have hW1' := Lib.hid hW1
  have H1 := Lib.hid h
  have X := Lib.hid X1
  have k1 := X1.z1.cell 1
  have hk := hz.check
  have hl1 := Lib.hid (large_any a m ca h.max W1)
  rw [decide_eq_false (show ¬ (200 : Int) < (m : Int) by omega)] at hl1
  have E1 : chkE n l 0 i j = 1 := by unfold chkE; rw [if_neg (by rw [hk]; simp), if_pos (by omega)]
  have Q1 := Lib.hid (fun W (hW : Below w.heap.size w W) => (zlimit_bad n i j c a m ca l W (H1.out.below hW) (by rw [E1]; decide)).mono (fun e w' h => ends_of (m := 0) rfl (by decide) h))
  rw [E1] at Q1
  clear E1
  have E2 : chkE n l 1 i 0 = 1 := by unfold chkE; rw [if_neg (by rw [hk]; simp), if_pos (by omega)]
  have Q2 := Lib.hid (fun W (hW : Below w.heap.size w W) => (zforget_bad n i a m ca l W (H1.out.below hW) (by rw [E2]; decide)).mono (fun e w' h => ends_of (m := 0) rfl (by decide) h))
  rw [E2] at Q2
  clear E2
  have E3 : chkE n l 1 i j = 1 := by unfold chkE; rw [if_neg (by rw [hk]; simp), if_pos (by omega)]
  have Q3 := Lib.hid (fun W (hW : Below w.heap.size w W) => (zlet_bad n i j c a m ca l W (H1.out.below hW) (by rw [E3]; decide)).mono (fun e w' h => ends_of (m := 0) rfl (by decide) h))
  rw [E3] at Q3
  clear E3
  have Q4 := Lib.hid (fun W (hW : Below w.heap.size w W) => zitv_ok n i hi l hz a m ca W (H1.out.below hW))
  have P4 := Lib.hid (fun W (hW : Below w.heap.size w W) => ritv_ok n i hi l hz a m ca W (H1.out.below hW))
  have Q5 := Lib.hid (fun W (hW : Below w.heap.size w W) => rcheck_any n a m ca l W (H1.out.below hW))
  rw [hk] at Q5
  have R1 := Lib.hid (fun W => rvar_any n i a m ca W)
  have R2 := Lib.hid (fun W => ror0_any n i a m ca W)
  have R3 := Lib.hid (fun W => ror0_any n j a m ca W)
  rw [show (decide (1 ≤ (i : Int)) && decide ((i : Int) ≤ (n : Int))) = false by simp; omega] at R1
  rw [show (decide (0 ≤ (i : Int)) && decide ((i : Int) ≤ (n : Int))) = true by simp; omega] at R2
  rw [show (decide (0 ≤ (j : Int)) && decide ((j : Int) ≤ (n : Int))) = false by simp; omega] at R3
  clear hW1 X1 h H1 hk hz hi hi0 hj 
  generalize (itvL n l i).1 = x4 at *
  generalize (itvL n l i).2 = y4 at *
  go_enter Try.func4, Try.ntmps4
  go_wp2_with fail
  rw [← hW1'.out]
  refine hl1.out.mono ?_
  rintro e w1 ⟨rfl, rfl⟩
  clear hl1 hW1' k1
  have k0 := X.out.z1.cell 0
  have k1 := X.out.z1.cell 1
  have q := Lib.hid (Q1.out _ X.out.bl)
  go_wp2_with fail
  refine q.out.mono ?_
  rintro e v1 ⟨a1, c1, rfl, s1, b1⟩
  clear q Q1 k0 k1
  have k0 : v1.cell? ⟨w.heap.size, 0, none⟩ = some (.int .i64 n) := (X.out.z1.below b1 X.out.z1.lt).cell 0
  have k1 : v1.cell? ⟨w.heap.size, 1, none⟩ = some (.slice a m ca) := (X.out.z1.below b1 X.out.z1.lt).cell 1
  have k2 : w.heap.size < v1.heap.size := (X.out.z1.below b1 X.out.z1.lt).lt
  have B0 := box_below v1 #[.int .i64 0, .slice a1 0 c1] 24
  have B := b1.trans (B0.mono b1.size)
  replace X := Lib.hid (X.out.on B)
  have Z1 := Lib.hid (Holds.new v1 24 #[.int .i64 0, .slice a1 0 c1])
  clear b1 s1 B B0
  have q := Lib.hid (Q2.out _ X.out.bl)
  go_wp2_with fail
  refine q.out.mono ?_
  rintro e v2 ⟨a2, c2, rfl, s2, b2⟩
  clear q Q2 k0 k1 k2
  have k0 : v2.cell? ⟨w.heap.size, 0, none⟩ = some (.int .i64 n) := (X.out.z1.below b2 X.out.z1.lt).cell 0
  have k1 : v2.cell? ⟨w.heap.size, 1, none⟩ = some (.slice a m ca) := (X.out.z1.below b2 X.out.z1.lt).cell 1
  have k2 : w.heap.size < v2.heap.size := (X.out.z1.below b2 X.out.z1.lt).lt
  have B0 := box_below v2 #[.int .i64 0, .slice a2 0 c2] 24
  have B := b2.trans (B0.mono b2.size)
  replace X := Lib.hid (X.out.on B)
  replace Z1 := Lib.hid (Z1.out.below B Z1.out.lt)
  have Z2 := Lib.hid (Holds.new v2 24 #[.int .i64 0, .slice a2 0 c2])
  clear b2 s2 B B0
  have q := Lib.hid (Q3.out _ X.out.bl)
  go_wp2_with fail
  refine q.out.mono ?_
  rintro e v3 ⟨a3, c3, rfl, s3, b3⟩
  clear q Q3 k0 k1 k2
  have k0 : v3.cell? ⟨w.heap.size, 0, none⟩ = some (.int .i64 n) := (X.out.z1.below b3 X.out.z1.lt).cell 0
  have k1 : v3.cell? ⟨w.heap.size, 1, none⟩ = some (.slice a m ca) := (X.out.z1.below b3 X.out.z1.lt).cell 1
  have k2 : w.heap.size < v3.heap.size := (X.out.z1.below b3 X.out.z1.lt).lt
  have B0 := box_below v3 #[.int .i64 0, .slice a3 0 c3] 24
  have B := b3.trans (B0.mono b3.size)
  replace X := Lib.hid (X.out.on B)
  replace Z1 := Lib.hid (Z1.out.below B Z1.out.lt)
  replace Z2 := Lib.hid (Z2.out.below B Z2.out.lt)
  have Z3 := Lib.hid (Holds.new v3 24 #[.int .i64 0, .slice a3 0 c3])
  clear b3 s3 B B0
  have q := Lib.hid (Q4.out _ X.out.bl)
  go_wp2_with fail
  refine q.out.mono ?_
  rintro e v4 ⟨rfl, b4⟩
  clear q Q4 k0 k1 k2
  have B := b4.trans ((box_below v4 #[.int .i64 x4, .int .i64 y4] 38).mono b4.size)
  replace X := Lib.hid (X.out.on B)
  replace Z1 := Lib.hid (Z1.out.below B Z1.out.lt)
  replace Z2 := Lib.hid (Z2.out.below B Z2.out.lt)
  replace Z3 := Lib.hid (Z3.out.below B Z3.out.lt)
  have Z4 := Lib.hid (Holds.new v4 38 #[.int .i64 x4, .int .i64 y4])
  clear b4 B
  have hlv := Lib.hid (zlivesAt w _ X.out.bl)
  go_wp2_with fail
  refine hlv.out.mono ?_
  rintro e v5 ⟨rfl, b5, -⟩
  replace X := Lib.hid (X.out.on b5)
  replace Z1 := Lib.hid (Z1.out.below b5 Z1.out.lt)
  replace Z2 := Lib.hid (Z2.out.below b5 Z2.out.lt)
  replace Z3 := Lib.hid (Z3.out.below b5 Z3.out.lt)
  replace Z4 := Lib.hid (Z4.out.below b5 Z4.out.lt)
  clear b5 hlv
  have k0 := X.out.z1.cell 0
  have k1 := X.out.z1.cell 1
  have q := Lib.hid (Q5.out _ X.out.bl)
  go_wp2_with fail
  refine q.out.mono ?_
  rintro e v6 ⟨rfl, b6⟩
  replace X := Lib.hid (X.out.on b6)
  replace Z1 := Lib.hid (Z1.out.below b6 Z1.out.lt)
  replace Z2 := Lib.hid (Z2.out.below b6 Z2.out.lt)
  replace Z3 := Lib.hid (Z3.out.below b6 Z3.out.lt)
  replace Z4 := Lib.hid (Z4.out.below b6 Z4.out.lt)
  clear b6 q k0 k1 Q5
  have g0 : ∀ W, Below v6.heap.size v6 W → W.cell? ⟨w.heap.size, 0, none⟩ = some (.int .i64 n) := fun W hW => (X.out.z1.below hW X.out.z1.lt).cell 0
  have g1 : ∀ W, Below v6.heap.size v6 W → W.cell? ⟨w.heap.size, 1, none⟩ = some (.slice a m ca) := fun W hW => (X.out.z1.below hW X.out.z1.lt).cell 1
  have i0 : ∀ W, Below v6.heap.size v6 W → W.cell? ⟨v4.heap.size, 0, none⟩ = some (.int .i64 x4) := fun W hW => (Z4.out.below hW Z4.out.lt).cell 0
  have i1 : ∀ W, Below v6.heap.size v6 W → W.cell? ⟨v4.heap.size, 1, none⟩ = some (.int .i64 y4) := fun W hW => (Z4.out.below hW Z4.out.lt).cell 1
  have ht : Hid (∀ W, Below v6.heap.size v6 W → Below w.heap.size w W) := Lib.hid (fun W hW => X.out.bl.trans (hW.mono X.out.bl.size))
  go_wp2
  refine wp_drawn_on (fun W => Below v6.heap.size v6 W) (by kernel_rfl) (below_drew (Below.refl _ _)) (fun hHeld => ?_)
  refine wpAnyH_take (i := 0) (oi := { dst := some 90, op := Go.Op.load 24 (Go.Operand.tmp 4), type := 24, pos := "law.go:64", after := #[], guard := none }) (v := ?v1) rfl (by kernel_rfl) (by kernel_rfl) (by kernel_rfl) (fun _ _ _ h => h) (Or.inl ⟨by kernel_rfl, ?h1⟩) (by assumption) ?r1
  case h1 => (intro w hSw; (try dsimp only at hSw); go_simp; try with_reducible rfl)
  try simp only [Act.put, List.setIfInBounds_toArray, List.set_cons_zero, List.set_cons_succ]
  refine wpAnyH_take (i := 1) (oi := { dst := some 91, op := Go.Op.move (Go.Operand.tmp 1), type := 3, pos := "law.go:64", after := #[], guard := none }) (v := ?v2) rfl (by kernel_rfl) (by kernel_rfl) (by kernel_rfl) (fun _ _ _ h => h) (Or.inl ⟨by kernel_rfl, ?h2⟩) (by assumption) ?r2
  case h2 => (intro w hSw; (try dsimp only at hSw); go_simp; try with_reducible rfl)
  try simp only [Act.put, List.setIfInBounds_toArray, List.set_cons_zero, List.set_cons_succ]
  refine wpAnyH_take (i := 3) (oi := { dst := some 93, op := Go.Op.load 24 (Go.Operand.tmp 4), type := 24, pos := "law.go:64", after := #[], guard := none }) (v := ?v3) rfl (by kernel_rfl) (by kernel_rfl) (by kernel_rfl) (fun _ _ _ h => h) (Or.inl ⟨by kernel_rfl, ?h3⟩) (by assumption) ?r3
  case h3 => (intro w hSw; (try dsimp only at hSw); go_simp; try with_reducible rfl)
  try simp only [Act.put, List.setIfInBounds_toArray, List.set_cons_zero, List.set_cons_succ]
  refine wpAnyH_take (i := 4) (oi := { dst := some 94, op := Go.Op.move (Go.Operand.tmp 1), type := 3, pos := "law.go:64", after := #[], guard := none }) (v := ?v4) rfl (by kernel_rfl) (by kernel_rfl) (by kernel_rfl) (fun _ _ _ h => h) (Or.inl ⟨by kernel_rfl, ?h4⟩) (by assumption) ?r4
  case h4 => (intro w hSw; (try dsimp only at hSw); go_simp; try with_reducible rfl)
  try simp only [Act.put, List.setIfInBounds_toArray, List.set_cons_zero, List.set_cons_succ]
  refine wpAnyH_take (i := 6) (oi := { dst := some 96, op := Go.Op.load 24 (Go.Operand.tmp 4), type := 24, pos := "law.go:64", after := #[], guard := none }) (v := ?v5) rfl (by kernel_rfl) (by kernel_rfl) (by kernel_rfl) (fun _ _ _ h => h) (Or.inl ⟨by kernel_rfl, ?h5⟩) (by assumption) ?r5
  case h5 => (intro w hSw; (try dsimp only at hSw); go_simp; try with_reducible rfl)
  try simp only [Act.put, List.setIfInBounds_toArray, List.set_cons_zero, List.set_cons_succ]
  refine wpAnyH_take (i := 7) (oi := { dst := some 97, op := Go.Op.move (Go.Operand.tmp 2), type := 3, pos := "law.go:64", after := #[], guard := none }) (v := ?v6) rfl (by kernel_rfl) (by kernel_rfl) (by kernel_rfl) (fun _ _ _ h => h) (Or.inl ⟨by kernel_rfl, ?h6⟩) (by assumption) ?r6
  case h6 => (intro w hSw; (try dsimp only at hSw); go_simp; try with_reducible rfl)
  try simp only [Act.put, List.setIfInBounds_toArray, List.set_cons_zero, List.set_cons_succ]
  refine wpAnyH_ready (rs := [2]) (by kernel_rfl) (by simp) ?_
  refine AllReadyH.cons (o := { dst := some 92, op := Go.Op.call { callee := Go.Callee.value (Go.Operand.func 26), args := #[Go.Operand.tmp 90, Go.Operand.tmp 91], argTypes := #[24, 3] }, type := 4, pos := "law.go:64", after := #[{ on := 0, ground := Go.Ground.data }, { on := 1, ground := Go.Ground.data }], guard := none }) rfl (fun K hK => ?_) AllReadyH.nil
  go_simp
  refine (R1.out _).mono ?_
  rintro e u2 ⟨rfl, b2⟩
  go_simp
  refine hK.out _ _ (hHeld.trans (b2.mono hHeld.size)) (fun hHeld => ?_)
  clear hK K
  try simp only [Act.put, List.setIfInBounds_toArray, List.set_cons_zero, List.set_cons_succ]
  refine wpAnyH_ready (rs := [5]) (by kernel_rfl) (by simp) ?_
  refine AllReadyH.cons (o := { dst := some 95, op := Go.Op.call { callee := Go.Callee.value (Go.Operand.func 27), args := #[Go.Operand.tmp 93, Go.Operand.tmp 94], argTypes := #[24, 3] }, type := 4, pos := "law.go:64", after := #[{ on := 3, ground := Go.Ground.data }, { on := 4, ground := Go.Ground.data }, { on := 2, ground := Go.Ground.chain }], guard := none }) rfl (fun K hK => ?_) AllReadyH.nil
  go_simp
  refine (R2.out _).mono ?_
  rintro e u2 ⟨rfl, b2⟩
  go_simp
  refine hK.out _ _ (hHeld.trans (b2.mono hHeld.size)) (fun hHeld => ?_)
  clear hK K
  try simp only [Act.put, List.setIfInBounds_toArray, List.set_cons_zero, List.set_cons_succ]
  refine wpAnyH_ready (rs := [8]) (by kernel_rfl) (by simp) ?_
  refine AllReadyH.cons (o := { dst := some 98, op := Go.Op.call { callee := Go.Callee.value (Go.Operand.func 27), args := #[Go.Operand.tmp 96, Go.Operand.tmp 97], argTypes := #[24, 3] }, type := 4, pos := "law.go:64", after := #[{ on := 6, ground := Go.Ground.data }, { on := 7, ground := Go.Ground.data }, { on := 5, ground := Go.Ground.chain }], guard := none }) rfl (fun K hK => ?_) AllReadyH.nil
  go_simp
  refine (R3.out _).mono ?_
  rintro e u2 ⟨rfl, b2⟩
  go_simp
  refine hK.out _ _ (hHeld.trans (b2.mono hHeld.size)) (fun hHeld => ?_)
  clear hK K
  try simp only [Act.put, List.setIfInBounds_toArray, List.set_cons_zero, List.set_cons_succ]
  refine wpAnyH_take (i := 9) (oi := { dst := some 17, op := Go.Op.assign (Go.Operand.tmp 92), type := 4, pos := "law.go:64", after := #[{ on := 2, ground := Go.Ground.data }, { on := 8, ground := Go.Ground.chain }, { on := 0, ground := Go.Ground.phase }, { on := 1, ground := Go.Ground.phase }, { on := 2, ground := Go.Ground.phase }, { on := 3, ground := Go.Ground.textOnly Go.Departure.lateStores }, { on := 4, ground := Go.Ground.textOnly Go.Departure.lateStores }, { on := 5, ground := Go.Ground.textOnly Go.Departure.lateStoresUnsure }, { on := 6, ground := Go.Ground.textOnly Go.Departure.lateStores }, { on := 7, ground := Go.Ground.textOnly Go.Departure.lateStores }, { on := 8, ground := Go.Ground.textOnly Go.Departure.lateStoresUnsure }], guard := none }) (v := ?v7) rfl (by kernel_rfl) (by kernel_rfl) (by kernel_rfl) (fun _ _ _ h => h) (Or.inl ⟨by kernel_rfl, ?h7⟩) (by assumption) ?r7
  case h7 => (intro w hSw; (try dsimp only at hSw); go_simp; try with_reducible rfl)
  try simp only [Act.put, List.setIfInBounds_toArray, List.set_cons_zero, List.set_cons_succ]
  refine wpAnyH_take (i := 10) (oi := { dst := some 18, op := Go.Op.assign (Go.Operand.tmp 95), type := 4, pos := "law.go:64", after := #[{ on := 5, ground := Go.Ground.data }, { on := 9, ground := Go.Ground.chain }, { on := 0, ground := Go.Ground.phase }, { on := 1, ground := Go.Ground.phase }, { on := 2, ground := Go.Ground.phase }, { on := 3, ground := Go.Ground.phase }, { on := 4, ground := Go.Ground.phase }, { on := 5, ground := Go.Ground.phase }, { on := 6, ground := Go.Ground.textOnly Go.Departure.lateStores }, { on := 7, ground := Go.Ground.textOnly Go.Departure.lateStores }, { on := 8, ground := Go.Ground.textOnly Go.Departure.lateStoresUnsure }, { on := 9, ground := Go.Ground.phase }], guard := none }) (v := ?v8) rfl (by kernel_rfl) (by kernel_rfl) (by kernel_rfl) (fun _ _ _ h => h) (Or.inl ⟨by kernel_rfl, ?h8⟩) (by assumption) ?r8
  case h8 => (intro w hSw; (try dsimp only at hSw); go_simp; try with_reducible rfl)
  try simp only [Act.put, List.setIfInBounds_toArray, List.set_cons_zero, List.set_cons_succ]
  refine wpAnyH_take (i := 11) (oi := { dst := some 19, op := Go.Op.assign (Go.Operand.tmp 98), type := 4, pos := "law.go:64", after := #[{ on := 8, ground := Go.Ground.data }, { on := 10, ground := Go.Ground.chain }, { on := 0, ground := Go.Ground.phase }, { on := 1, ground := Go.Ground.phase }, { on := 2, ground := Go.Ground.phase }, { on := 3, ground := Go.Ground.phase }, { on := 4, ground := Go.Ground.phase }, { on := 5, ground := Go.Ground.phase }, { on := 6, ground := Go.Ground.phase }, { on := 7, ground := Go.Ground.phase }, { on := 8, ground := Go.Ground.phase }, { on := 9, ground := Go.Ground.phase }, { on := 10, ground := Go.Ground.phase }], guard := none }) (v := ?v9) rfl (by kernel_rfl) (by kernel_rfl) (by kernel_rfl) (fun _ _ _ h => h) (Or.inl ⟨by kernel_rfl, ?h9⟩) (by assumption) ?r9
  case h9 => (intro w hSw; (try dsimp only at hSw); go_simp; try with_reducible rfl)
  try simp only [Act.put, List.setIfInBounds_toArray, List.set_cons_zero, List.set_cons_succ]
  refine wpAnyH_done (by kernel_rfl) ?_ _
  have hB11 := Lib.hid hHeld
  clear hHeld
  go_wp2
  refine wp_drawn_on (fun W => Below v6.heap.size v6 W) (by kernel_rfl) (below_drew hB11.out) (fun hHeld => ?_)
  refine wpAnyH_take (i := 0) (oi := { dst := some 143, op := Go.Op.load 38 (Go.Operand.tmp 15), type := 38, pos := "law.go:71", after := #[], guard := none }) (v := ?v10) rfl (by kernel_rfl) (by kernel_rfl) (by kernel_rfl) (fun _ _ _ h => h) (Or.inl ⟨by kernel_rfl, ?h10⟩) (by assumption) ?r10
  case h10 => (intro w hSw; (try dsimp only at hSw); go_simp; try with_reducible rfl)
  try simp only [Act.put, List.setIfInBounds_toArray, List.set_cons_zero, List.set_cons_succ]
  refine wpAnyH_take (i := 1) (oi := { dst := some 144, op := Go.Op.load 24 (Go.Operand.tmp 4), type := 24, pos := "law.go:71", after := #[], guard := none }) (v := ?v11) rfl (by kernel_rfl) (by kernel_rfl) (by kernel_rfl) (fun _ _ _ h => h) (Or.inl ⟨by kernel_rfl, ?h11⟩) (by assumption) ?r11
  case h11 => (intro w hSw; (try dsimp only at hSw); go_simp; try with_reducible rfl)
  try simp only [Act.put, List.setIfInBounds_toArray, List.set_cons_zero, List.set_cons_succ]
  refine wpAnyH_take (i := 2) (oi := { dst := some 145, op := Go.Op.move (Go.Operand.tmp 1), type := 3, pos := "law.go:71", after := #[], guard := none }) (v := ?v12) rfl (by kernel_rfl) (by kernel_rfl) (by kernel_rfl) (fun _ _ _ h => h) (Or.inl ⟨by kernel_rfl, ?h12⟩) (by assumption) ?r12
  case h12 => (intro w hSw; (try dsimp only at hSw); go_simp; try with_reducible rfl)
  try simp only [Act.put, List.setIfInBounds_toArray, List.set_cons_zero, List.set_cons_succ]
  refine wpAnyH_ready (rs := [3]) (by kernel_rfl) (by simp) ?_
  refine AllReadyH.cons (o := { dst := some 146, op := Go.Op.call { callee := Go.Callee.value (Go.Operand.func 28), args := #[Go.Operand.tmp 144, Go.Operand.tmp 145], argTypes := #[24, 3] }, type := 38, pos := "law.go:71", after := #[{ on := 1, ground := Go.Ground.data }, { on := 2, ground := Go.Ground.data }], guard := none }) rfl (fun K hK => ?_) AllReadyH.nil
  go_simp
  refine (P4.out _ (ht.out _ hHeld)).mono ?_
  rintro e u2 ⟨rfl, b2⟩
  go_simp
  refine hK.out _ _ (hHeld.trans (b2.mono hHeld.size)) (fun hHeld => ?_)
  clear hK K
  try simp only [Act.put, List.setIfInBounds_toArray, List.set_cons_zero, List.set_cons_succ]
  refine wpAnyH_take (i := 4) (oi := { dst := some 147, op := Go.Op.binOp Go.BinOp.neq 38 (Go.Operand.tmp 143) (Go.Operand.tmp 146) 38, type := 4, pos := "law.go:71", after := #[{ on := 0, ground := Go.Ground.data }, { on := 3, ground := Go.Ground.data }], guard := none }) (v := ?v13) rfl (by kernel_rfl) (by kernel_rfl) (by kernel_rfl) (fun _ _ _ h => h) (Or.inl ⟨by kernel_rfl, ?h13⟩) (by assumption) ?r13
  case h13 => (intro w hSw; (try dsimp only at hSw); go_simp; try with_reducible rfl)
  try simp only [Act.put, List.setIfInBounds_toArray, List.set_cons_zero, List.set_cons_succ]
  refine wpAnyH_take (i := 5) (oi := { dst := some 148, op := Go.Op.move (Go.Operand.tmp 147), type := 4, pos := "law.go:71", after := #[{ on := 4, ground := Go.Ground.data }, { on := 3, ground := Go.Ground.chain }], guard := none }) (v := ?v14) rfl (by kernel_rfl) (by kernel_rfl) (by kernel_rfl) (fun _ _ _ h => h) (Or.inl ⟨by kernel_rfl, ?h14⟩) (by assumption) ?r14
  case h14 => (intro w hSw; (try dsimp only at hSw); go_simp; try with_reducible rfl)
  try simp only [Act.put, List.setIfInBounds_toArray, List.set_cons_zero, List.set_cons_succ]
  refine wpAnyH_take (i := 6) (oi := { dst := some 149, op := Go.Op.move (Go.Operand.tmp 17), type := 4, pos := "law.go:71", after := #[{ on := 5, ground := Go.Ground.guard }], guard := some (5, false) }) (v := ?v15) rfl (by kernel_rfl) (by kernel_rfl) (by kernel_rfl) (fun _ _ _ h => h) (Or.inl ⟨by kernel_rfl, ?h15⟩) (by assumption) ?r15
  case h15 => (intro w hSw; (try dsimp only at hSw); go_simp; try with_reducible rfl)
  try simp only [Act.put, List.setIfInBounds_toArray, List.set_cons_zero, List.set_cons_succ]
  refine wpAnyH_take (i := 7) (oi := { dst := some 150, op := Go.Op.move (Go.Operand.tmp 149), type := 4, pos := "law.go:71", after := #[{ on := 6, ground := Go.Ground.data }, { on := 5, ground := Go.Ground.chain }, { on := 5, ground := Go.Ground.guard }], guard := some (5, false) }) (v := ?v16) rfl (by kernel_rfl) (by kernel_rfl) (by kernel_rfl) (fun _ _ _ h => h) (Or.inl ⟨by kernel_rfl, ?h16⟩) (by assumption) ?r16
  case h16 => (intro w hSw; (try dsimp only at hSw); go_simp; try with_reducible rfl)
  try simp only [Act.put, List.setIfInBounds_toArray, List.set_cons_zero, List.set_cons_succ]
  refine wpAnyH_take (i := 8) (oi := { dst := some 151, op := Go.Op.load 24 (Go.Operand.tmp 11), type := 24, pos := "law.go:71", after := #[{ on := 7, ground := Go.Ground.guard }], guard := some (7, true) }) (v := undef) rfl (by kernel_rfl) (by kernel_rfl) (by kernel_rfl) (fun _ _ _ h => h) (Or.inr ⟨by kernel_rfl, rfl⟩) (by assumption) ?_
  try simp only [Act.put, List.setIfInBounds_toArray, List.set_cons_zero, List.set_cons_succ]
  refine wpAnyH_take (i := 9) (oi := { dst := some 152, op := Go.Op.load 24 (Go.Operand.tmp 4), type := 24, pos := "law.go:71", after := #[{ on := 7, ground := Go.Ground.guard }], guard := some (7, true) }) (v := undef) rfl (by kernel_rfl) (by kernel_rfl) (by kernel_rfl) (fun _ _ _ h => h) (Or.inr ⟨by kernel_rfl, rfl⟩) (by assumption) ?_
  try simp only [Act.put, List.setIfInBounds_toArray, List.set_cons_zero, List.set_cons_succ]
  refine wpAnyH_take (i := 10) (oi := { dst := some 153, op := Go.Op.move (Go.Operand.tmp 1), type := 3, pos := "law.go:71", after := #[{ on := 7, ground := Go.Ground.guard }], guard := some (7, true) }) (v := undef) rfl (by kernel_rfl) (by kernel_rfl) (by kernel_rfl) (fun _ _ _ h => h) (Or.inr ⟨by kernel_rfl, rfl⟩) (by assumption) ?_
  try simp only [Act.put, List.setIfInBounds_toArray, List.set_cons_zero, List.set_cons_succ]
  refine wpAnyH_take (i := 11) (oi := { dst := some 154, op := Go.Op.call { callee := Go.Callee.value (Go.Operand.func 29), args := #[Go.Operand.tmp 152, Go.Operand.tmp 153], argTypes := #[24, 3] }, type := 24, pos := "law.go:71", after := #[{ on := 9, ground := Go.Ground.data }, { on := 10, ground := Go.Ground.data }, { on := 7, ground := Go.Ground.chain }, { on := 7, ground := Go.Ground.guard }], guard := some (7, true) }) (v := undef) rfl (by kernel_rfl) (by kernel_rfl) (by kernel_rfl) (fun _ _ _ h => h) (Or.inr ⟨by kernel_rfl, rfl⟩) (by assumption) ?_
  try simp only [Act.put, List.setIfInBounds_toArray, List.set_cons_zero, List.set_cons_succ]
  refine wpAnyH_take (i := 12) (oi := { dst := some 155, op := Go.Op.call { callee := Go.Callee.value (Go.Operand.func 16), args := #[Go.Operand.tmp 151, Go.Operand.tmp 154], argTypes := #[24, 24] }, type := 4, pos := "law.go:71", after := #[{ on := 8, ground := Go.Ground.data }, { on := 11, ground := Go.Ground.data }, { on := 11, ground := Go.Ground.chain }, { on := 7, ground := Go.Ground.guard }], guard := some (7, true) }) (v := undef) rfl (by kernel_rfl) (by kernel_rfl) (by kernel_rfl) (fun _ _ _ h => h) (Or.inr ⟨by kernel_rfl, rfl⟩) (by assumption) ?_
  try simp only [Act.put, List.setIfInBounds_toArray, List.set_cons_zero, List.set_cons_succ]
  refine wpAnyH_take (i := 13) (oi := { dst := some 156, op := Go.Op.unOp Go.UnOp.not 4 (Go.Operand.tmp 155), type := 4, pos := "law.go:71", after := #[{ on := 12, ground := Go.Ground.data }, { on := 7, ground := Go.Ground.guard }], guard := some (7, true) }) (v := undef) rfl (by kernel_rfl) (by kernel_rfl) (by kernel_rfl) (fun _ _ _ h => h) (Or.inr ⟨by kernel_rfl, rfl⟩) (by assumption) ?_
  try simp only [Act.put, List.setIfInBounds_toArray, List.set_cons_zero, List.set_cons_succ]
  refine wpAnyH_take (i := 14) (oi := { dst := some 157, op := Go.Op.pick (Go.Operand.tmp 150) (Go.Operand.tmp 156) (Go.Operand.const (Go.Value.bool false)), type := 4, pos := "law.go:71", after := #[{ on := 7, ground := Go.Ground.data }, { on := 13, ground := Go.Ground.data }, { on := 5, ground := Go.Ground.guard }], guard := some (5, false) }) (v := ?v23) rfl (by kernel_rfl) (by kernel_rfl) (by kernel_rfl) (fun _ _ _ h => h) (Or.inl ⟨by kernel_rfl, ?h23⟩) (by assumption) ?r23
  case h23 => (intro w hSw; (try dsimp only at hSw); go_simp; try with_reducible rfl)
  try simp only [Act.put, List.setIfInBounds_toArray, List.set_cons_zero, List.set_cons_succ]
  refine wpAnyH_take (i := 15) (oi := { dst := some 158, op := Go.Op.pick (Go.Operand.tmp 148) (Go.Operand.const (Go.Value.bool true)) (Go.Operand.tmp 157), type := 4, pos := "law.go:71", after := #[{ on := 5, ground := Go.Ground.data }, { on := 14, ground := Go.Ground.data }], guard := none }) (v := ?v24) rfl (by kernel_rfl) (by kernel_rfl) (by kernel_rfl) (fun _ _ _ h => h) (Or.inl ⟨by kernel_rfl, ?h24⟩) (by assumption) ?r24
  case h24 => (intro w hSw; (try dsimp only at hSw); go_simp; try with_reducible rfl)
  try simp only [Act.put, List.setIfInBounds_toArray, List.set_cons_zero, List.set_cons_succ]
  refine wpAnyH_done (by kernel_rfl) ?_ _
  have hB16 := Lib.hid hHeld
  clear hHeld
  go_wp2
  refine wp_drawn_on (fun W => Below v6.heap.size v6 W) (by kernel_rfl) (below_drew hB16.out) (fun hHeld => ?_)
  refine wpAnyH_take (i := 0) (oi := { dst := some 159, op := Go.Op.move (Go.Operand.tmp 19), type := 4, pos := "law.go:74", after := #[], guard := none }) (v := ?v25) rfl (by kernel_rfl) (by kernel_rfl) (by kernel_rfl) (fun _ _ _ h => h) (Or.inl ⟨by kernel_rfl, ?h25⟩) (by assumption) ?r25
  case h25 => (intro w hSw; (try dsimp only at hSw); go_simp; try with_reducible rfl)
  try simp only [Act.put, List.setIfInBounds_toArray, List.set_cons_zero, List.set_cons_succ]
  refine wpAnyH_take (i := 1) (oi := { dst := some 160, op := Go.Op.unOp Go.UnOp.not 4 (Go.Operand.tmp 159), type := 4, pos := "law.go:74", after := #[{ on := 0, ground := Go.Ground.data }], guard := none }) (v := ?v26) rfl (by kernel_rfl) (by kernel_rfl) (by kernel_rfl) (fun _ _ _ h => h) (Or.inl ⟨by kernel_rfl, ?h26⟩) (by assumption) ?r26
  case h26 => (intro w hSw; (try dsimp only at hSw); go_simp; try with_reducible rfl)
  try simp only [Act.put, List.setIfInBounds_toArray, List.set_cons_zero, List.set_cons_succ]
  refine wpAnyH_take (i := 2) (oi := { dst := some 161, op := Go.Op.move (Go.Operand.tmp 160), type := 4, pos := "law.go:74", after := #[{ on := 1, ground := Go.Ground.data }], guard := none }) (v := ?v27) rfl (by kernel_rfl) (by kernel_rfl) (by kernel_rfl) (fun _ _ _ h => h) (Or.inl ⟨by kernel_rfl, ?h27⟩) (by assumption) ?r27
  case h27 => (intro w hSw; (try dsimp only at hSw); go_simp; try with_reducible rfl)
  try simp only [Act.put, List.setIfInBounds_toArray, List.set_cons_zero, List.set_cons_succ]
  refine wpAnyH_take (i := 3) (oi := { dst := some 162, op := Go.Op.load 24 (Go.Operand.tmp 9), type := 24, pos := "law.go:74", after := #[{ on := 2, ground := Go.Ground.guard }], guard := some (2, false) }) (v := undef) rfl (by kernel_rfl) (by kernel_rfl) (by kernel_rfl) (fun _ _ _ h => h) (Or.inr ⟨by kernel_rfl, rfl⟩) (by assumption) ?_
  try simp only [Act.put, List.setIfInBounds_toArray, List.set_cons_zero, List.set_cons_succ]
  refine wpAnyH_take (i := 4) (oi := { dst := some 163, op := Go.Op.load 24 (Go.Operand.tmp 4), type := 24, pos := "law.go:74", after := #[{ on := 2, ground := Go.Ground.guard }], guard := some (2, false) }) (v := undef) rfl (by kernel_rfl) (by kernel_rfl) (by kernel_rfl) (fun _ _ _ h => h) (Or.inr ⟨by kernel_rfl, rfl⟩) (by assumption) ?_
  try simp only [Act.put, List.setIfInBounds_toArray, List.set_cons_zero, List.set_cons_succ]
  refine wpAnyH_take (i := 5) (oi := { dst := some 164, op := Go.Op.move (Go.Operand.tmp 1), type := 3, pos := "law.go:74", after := #[{ on := 2, ground := Go.Ground.guard }], guard := some (2, false) }) (v := undef) rfl (by kernel_rfl) (by kernel_rfl) (by kernel_rfl) (fun _ _ _ h => h) (Or.inr ⟨by kernel_rfl, rfl⟩) (by assumption) ?_
  try simp only [Act.put, List.setIfInBounds_toArray, List.set_cons_zero, List.set_cons_succ]
  refine wpAnyH_take (i := 6) (oi := { dst := some 165, op := Go.Op.move (Go.Operand.tmp 2), type := 3, pos := "law.go:74", after := #[{ on := 2, ground := Go.Ground.guard }], guard := some (2, false) }) (v := undef) rfl (by kernel_rfl) (by kernel_rfl) (by kernel_rfl) (fun _ _ _ h => h) (Or.inr ⟨by kernel_rfl, rfl⟩) (by assumption) ?_
  try simp only [Act.put, List.setIfInBounds_toArray, List.set_cons_zero, List.set_cons_succ]
  refine wpAnyH_take (i := 7) (oi := { dst := some 166, op := Go.Op.move (Go.Operand.tmp 3), type := 3, pos := "law.go:74", after := #[{ on := 2, ground := Go.Ground.guard }], guard := some (2, false) }) (v := undef) rfl (by kernel_rfl) (by kernel_rfl) (by kernel_rfl) (fun _ _ _ h => h) (Or.inr ⟨by kernel_rfl, rfl⟩) (by assumption) ?_
  try simp only [Act.put, List.setIfInBounds_toArray, List.set_cons_zero, List.set_cons_succ]
  refine wpAnyH_take (i := 8) (oi := { dst := some 167, op := Go.Op.call { callee := Go.Callee.value (Go.Operand.func 30), args := #[Go.Operand.tmp 163, Go.Operand.tmp 164, Go.Operand.tmp 165, Go.Operand.tmp 166], argTypes := #[24, 3, 3, 3] }, type := 24, pos := "law.go:74", after := #[{ on := 4, ground := Go.Ground.data }, { on := 5, ground := Go.Ground.data }, { on := 6, ground := Go.Ground.data }, { on := 7, ground := Go.Ground.data }, { on := 2, ground := Go.Ground.chain }, { on := 2, ground := Go.Ground.guard }], guard := some (2, false) }) (v := undef) rfl (by kernel_rfl) (by kernel_rfl) (by kernel_rfl) (fun _ _ _ h => h) (Or.inr ⟨by kernel_rfl, rfl⟩) (by assumption) ?_
  try simp only [Act.put, List.setIfInBounds_toArray, List.set_cons_zero, List.set_cons_succ]
  refine wpAnyH_take (i := 9) (oi := { dst := some 168, op := Go.Op.call { callee := Go.Callee.value (Go.Operand.func 16), args := #[Go.Operand.tmp 162, Go.Operand.tmp 167], argTypes := #[24, 24] }, type := 4, pos := "law.go:74", after := #[{ on := 3, ground := Go.Ground.data }, { on := 8, ground := Go.Ground.data }, { on := 8, ground := Go.Ground.chain }, { on := 2, ground := Go.Ground.guard }], guard := some (2, false) }) (v := undef) rfl (by kernel_rfl) (by kernel_rfl) (by kernel_rfl) (fun _ _ _ h => h) (Or.inr ⟨by kernel_rfl, rfl⟩) (by assumption) ?_
  try simp only [Act.put, List.setIfInBounds_toArray, List.set_cons_zero, List.set_cons_succ]
  refine wpAnyH_take (i := 10) (oi := { dst := some 169, op := Go.Op.pick (Go.Operand.tmp 161) (Go.Operand.const (Go.Value.bool true)) (Go.Operand.tmp 168), type := 4, pos := "law.go:74", after := #[{ on := 2, ground := Go.Ground.data }, { on := 9, ground := Go.Ground.data }], guard := none }) (v := ?v35) rfl (by kernel_rfl) (by kernel_rfl) (by kernel_rfl) (fun _ _ _ h => h) (Or.inl ⟨by kernel_rfl, ?h35⟩) (by assumption) ?r35
  case h35 => (intro w hSw; (try dsimp only at hSw); go_simp; try with_reducible rfl)
  try simp only [Act.put, List.setIfInBounds_toArray, List.set_cons_zero, List.set_cons_succ]
  refine wpAnyH_take (i := 11) (oi := { dst := some 170, op := Go.Op.move (Go.Operand.tmp 169), type := 4, pos := "law.go:74", after := #[{ on := 10, ground := Go.Ground.data }, { on := 9, ground := Go.Ground.chain }], guard := none }) (v := ?v36) rfl (by kernel_rfl) (by kernel_rfl) (by kernel_rfl) (fun _ _ _ h => h) (Or.inl ⟨by kernel_rfl, ?h36⟩) (by assumption) ?r36
  case h36 => (intro w hSw; (try dsimp only at hSw); go_simp; try with_reducible rfl)
  try simp only [Act.put, List.setIfInBounds_toArray, List.set_cons_zero, List.set_cons_succ]
  refine wpAnyH_take (i := 12) (oi := { dst := some 171, op := Go.Op.move (Go.Operand.tmp 19), type := 4, pos := "law.go:74", after := #[{ on := 11, ground := Go.Ground.guard }], guard := some (11, true) }) (v := ?v37) rfl (by kernel_rfl) (by kernel_rfl) (by kernel_rfl) (fun _ _ _ h => h) (Or.inl ⟨by kernel_rfl, ?h37⟩) (by assumption) ?r37
  case h37 => (intro w hSw; (try dsimp only at hSw); go_simp; try with_reducible rfl)
  try simp only [Act.put, List.setIfInBounds_toArray, List.set_cons_zero, List.set_cons_succ]
  refine wpAnyH_take (i := 13) (oi := { dst := some 172, op := Go.Op.unOp Go.UnOp.not 4 (Go.Operand.tmp 171), type := 4, pos := "law.go:74", after := #[{ on := 12, ground := Go.Ground.data }, { on := 11, ground := Go.Ground.guard }], guard := some (11, true) }) (v := ?v38) rfl (by kernel_rfl) (by kernel_rfl) (by kernel_rfl) (fun _ _ _ h => h) (Or.inl ⟨by kernel_rfl, ?h38⟩) (by assumption) ?r38
  case h38 => (intro w hSw; (try dsimp only at hSw); go_simp; try with_reducible rfl)
  try simp only [Act.put, List.setIfInBounds_toArray, List.set_cons_zero, List.set_cons_succ]
  refine wpAnyH_take (i := 14) (oi := { dst := some 173, op := Go.Op.move (Go.Operand.tmp 172), type := 4, pos := "law.go:74", after := #[{ on := 13, ground := Go.Ground.data }, { on := 11, ground := Go.Ground.chain }, { on := 11, ground := Go.Ground.guard }], guard := some (11, true) }) (v := ?v39) rfl (by kernel_rfl) (by kernel_rfl) (by kernel_rfl) (fun _ _ _ h => h) (Or.inl ⟨by kernel_rfl, ?h39⟩) (by assumption) ?r39
  case h39 => (intro w hSw; (try dsimp only at hSw); go_simp; try with_reducible rfl)
  try simp only [Act.put, List.setIfInBounds_toArray, List.set_cons_zero, List.set_cons_succ]
  refine wpAnyH_take (i := 15) (oi := { dst := some 174, op := Go.Op.move (Go.Operand.tmp 17), type := 4, pos := "law.go:74", after := #[{ on := 14, ground := Go.Ground.guard }], guard := some (14, false) }) (v := undef) rfl (by kernel_rfl) (by kernel_rfl) (by kernel_rfl) (fun _ _ _ h => h) (Or.inr ⟨by kernel_rfl, rfl⟩) (by assumption) ?_
  try simp only [Act.put, List.setIfInBounds_toArray, List.set_cons_zero, List.set_cons_succ]
  refine wpAnyH_take (i := 16) (oi := { dst := some 175, op := Go.Op.unOp Go.UnOp.not 4 (Go.Operand.tmp 174), type := 4, pos := "law.go:74", after := #[{ on := 15, ground := Go.Ground.data }, { on := 14, ground := Go.Ground.guard }], guard := some (14, false) }) (v := undef) rfl (by kernel_rfl) (by kernel_rfl) (by kernel_rfl) (fun _ _ _ h => h) (Or.inr ⟨by kernel_rfl, rfl⟩) (by assumption) ?_
  try simp only [Act.put, List.setIfInBounds_toArray, List.set_cons_zero, List.set_cons_succ]
  refine wpAnyH_take (i := 17) (oi := { dst := some 176, op := Go.Op.pick (Go.Operand.tmp 173) (Go.Operand.const (Go.Value.bool true)) (Go.Operand.tmp 175), type := 4, pos := "law.go:74", after := #[{ on := 14, ground := Go.Ground.data }, { on := 16, ground := Go.Ground.data }, { on := 11, ground := Go.Ground.guard }], guard := some (11, true) }) (v := ?v42) rfl (by kernel_rfl) (by kernel_rfl) (by kernel_rfl) (fun _ _ _ h => h) (Or.inl ⟨by kernel_rfl, ?h42⟩) (by assumption) ?r42
  case h42 => (intro w hSw; (try dsimp only at hSw); go_simp; try with_reducible rfl)
  try simp only [Act.put, List.setIfInBounds_toArray, List.set_cons_zero, List.set_cons_succ]
  refine wpAnyH_take (i := 18) (oi := { dst := some 177, op := Go.Op.move (Go.Operand.tmp 176), type := 4, pos := "law.go:74", after := #[{ on := 17, ground := Go.Ground.data }, { on := 14, ground := Go.Ground.chain }, { on := 11, ground := Go.Ground.guard }], guard := some (11, true) }) (v := ?v43) rfl (by kernel_rfl) (by kernel_rfl) (by kernel_rfl) (fun _ _ _ h => h) (Or.inl ⟨by kernel_rfl, ?h43⟩) (by assumption) ?r43
  case h43 => (intro w hSw; (try dsimp only at hSw); go_simp; try with_reducible rfl)
  try simp only [Act.put, List.setIfInBounds_toArray, List.set_cons_zero, List.set_cons_succ]
  refine wpAnyH_take (i := 19) (oi := { dst := some 178, op := Go.Op.load 24 (Go.Operand.tmp 13), type := 24, pos := "law.go:74", after := #[{ on := 18, ground := Go.Ground.guard }], guard := some (18, false) }) (v := undef) rfl (by kernel_rfl) (by kernel_rfl) (by kernel_rfl) (fun _ _ _ h => h) (Or.inr ⟨by kernel_rfl, rfl⟩) (by assumption) ?_
  try simp only [Act.put, List.setIfInBounds_toArray, List.set_cons_zero, List.set_cons_succ]
  refine wpAnyH_take (i := 20) (oi := { dst := some 179, op := Go.Op.load 24 (Go.Operand.tmp 4), type := 24, pos := "law.go:74", after := #[{ on := 18, ground := Go.Ground.guard }], guard := some (18, false) }) (v := undef) rfl (by kernel_rfl) (by kernel_rfl) (by kernel_rfl) (fun _ _ _ h => h) (Or.inr ⟨by kernel_rfl, rfl⟩) (by assumption) ?_
  try simp only [Act.put, List.setIfInBounds_toArray, List.set_cons_zero, List.set_cons_succ]
  refine wpAnyH_take (i := 21) (oi := { dst := some 180, op := Go.Op.move (Go.Operand.tmp 1), type := 3, pos := "law.go:74", after := #[{ on := 18, ground := Go.Ground.guard }], guard := some (18, false) }) (v := undef) rfl (by kernel_rfl) (by kernel_rfl) (by kernel_rfl) (fun _ _ _ h => h) (Or.inr ⟨by kernel_rfl, rfl⟩) (by assumption) ?_
  try simp only [Act.put, List.setIfInBounds_toArray, List.set_cons_zero, List.set_cons_succ]
  refine wpAnyH_take (i := 22) (oi := { dst := some 181, op := Go.Op.move (Go.Operand.tmp 2), type := 3, pos := "law.go:74", after := #[{ on := 18, ground := Go.Ground.guard }], guard := some (18, false) }) (v := undef) rfl (by kernel_rfl) (by kernel_rfl) (by kernel_rfl) (fun _ _ _ h => h) (Or.inr ⟨by kernel_rfl, rfl⟩) (by assumption) ?_
  try simp only [Act.put, List.setIfInBounds_toArray, List.set_cons_zero, List.set_cons_succ]
  refine wpAnyH_take (i := 23) (oi := { dst := some 182, op := Go.Op.move (Go.Operand.tmp 3), type := 3, pos := "law.go:74", after := #[{ on := 18, ground := Go.Ground.guard }], guard := some (18, false) }) (v := undef) rfl (by kernel_rfl) (by kernel_rfl) (by kernel_rfl) (fun _ _ _ h => h) (Or.inr ⟨by kernel_rfl, rfl⟩) (by assumption) ?_
  try simp only [Act.put, List.setIfInBounds_toArray, List.set_cons_zero, List.set_cons_succ]
  refine wpAnyH_take (i := 24) (oi := { dst := some 183, op := Go.Op.call { callee := Go.Callee.value (Go.Operand.func 31), args := #[Go.Operand.tmp 179, Go.Operand.tmp 180, Go.Operand.tmp 181, Go.Operand.tmp 182], argTypes := #[24, 3, 3, 3] }, type := 24, pos := "law.go:74", after := #[{ on := 20, ground := Go.Ground.data }, { on := 21, ground := Go.Ground.data }, { on := 22, ground := Go.Ground.data }, { on := 23, ground := Go.Ground.data }, { on := 18, ground := Go.Ground.chain }, { on := 18, ground := Go.Ground.guard }], guard := some (18, false) }) (v := undef) rfl (by kernel_rfl) (by kernel_rfl) (by kernel_rfl) (fun _ _ _ h => h) (Or.inr ⟨by kernel_rfl, rfl⟩) (by assumption) ?_
  try simp only [Act.put, List.setIfInBounds_toArray, List.set_cons_zero, List.set_cons_succ]
  refine wpAnyH_take (i := 25) (oi := { dst := some 184, op := Go.Op.call { callee := Go.Callee.value (Go.Operand.func 16), args := #[Go.Operand.tmp 178, Go.Operand.tmp 183], argTypes := #[24, 24] }, type := 4, pos := "law.go:74", after := #[{ on := 19, ground := Go.Ground.data }, { on := 24, ground := Go.Ground.data }, { on := 24, ground := Go.Ground.chain }, { on := 18, ground := Go.Ground.guard }], guard := some (18, false) }) (v := undef) rfl (by kernel_rfl) (by kernel_rfl) (by kernel_rfl) (fun _ _ _ h => h) (Or.inr ⟨by kernel_rfl, rfl⟩) (by assumption) ?_
  try simp only [Act.put, List.setIfInBounds_toArray, List.set_cons_zero, List.set_cons_succ]
  refine wpAnyH_take (i := 26) (oi := { dst := some 185, op := Go.Op.pick (Go.Operand.tmp 177) (Go.Operand.const (Go.Value.bool true)) (Go.Operand.tmp 184), type := 4, pos := "law.go:74", after := #[{ on := 18, ground := Go.Ground.data }, { on := 25, ground := Go.Ground.data }, { on := 11, ground := Go.Ground.guard }], guard := some (11, true) }) (v := ?v51) rfl (by kernel_rfl) (by kernel_rfl) (by kernel_rfl) (fun _ _ _ h => h) (Or.inl ⟨by kernel_rfl, ?h51⟩) (by assumption) ?r51
  case h51 => (intro w hSw; (try dsimp only at hSw); go_simp; try with_reducible rfl)
  try simp only [Act.put, List.setIfInBounds_toArray, List.set_cons_zero, List.set_cons_succ]
  refine wpAnyH_take (i := 27) (oi := { dst := some 186, op := Go.Op.pick (Go.Operand.tmp 170) (Go.Operand.tmp 185) (Go.Operand.const (Go.Value.bool false)), type := 4, pos := "law.go:74", after := #[{ on := 11, ground := Go.Ground.data }, { on := 26, ground := Go.Ground.data }], guard := none }) (v := ?v52) rfl (by kernel_rfl) (by kernel_rfl) (by kernel_rfl) (fun _ _ _ h => h) (Or.inl ⟨by kernel_rfl, ?h52⟩) (by assumption) ?r52
  case h52 => (intro w hSw; (try dsimp only at hSw); go_simp; try with_reducible rfl)
  try simp only [Act.put, List.setIfInBounds_toArray, List.set_cons_zero, List.set_cons_succ]
  refine wpAnyH_take (i := 28) (oi := { dst := some 8, op := Go.Op.assign (Go.Operand.tmp 186), type := 4, pos := "law.go:74", after := #[{ on := 27, ground := Go.Ground.data }, { on := 25, ground := Go.Ground.chain }, { on := 0, ground := Go.Ground.phase }, { on := 1, ground := Go.Ground.phase }, { on := 2, ground := Go.Ground.phase }, { on := 3, ground := Go.Ground.phase }, { on := 4, ground := Go.Ground.phase }, { on := 5, ground := Go.Ground.phase }, { on := 6, ground := Go.Ground.phase }, { on := 7, ground := Go.Ground.phase }, { on := 8, ground := Go.Ground.phase }, { on := 9, ground := Go.Ground.phase }, { on := 10, ground := Go.Ground.phase }, { on := 11, ground := Go.Ground.phase }, { on := 12, ground := Go.Ground.phase }, { on := 13, ground := Go.Ground.phase }, { on := 14, ground := Go.Ground.phase }, { on := 15, ground := Go.Ground.phase }, { on := 16, ground := Go.Ground.phase }, { on := 17, ground := Go.Ground.phase }, { on := 18, ground := Go.Ground.phase }, { on := 19, ground := Go.Ground.phase }, { on := 20, ground := Go.Ground.phase }, { on := 21, ground := Go.Ground.phase }, { on := 22, ground := Go.Ground.phase }, { on := 23, ground := Go.Ground.phase }, { on := 24, ground := Go.Ground.phase }, { on := 25, ground := Go.Ground.phase }, { on := 26, ground := Go.Ground.phase }, { on := 27, ground := Go.Ground.phase }], guard := none }) (v := ?v53) rfl (by kernel_rfl) (by kernel_rfl) (by kernel_rfl) (fun _ _ _ h => h) (Or.inl ⟨by kernel_rfl, ?h53⟩) (by assumption) ?r53
  case h53 => (intro w hSw; (try dsimp only at hSw); go_simp; try with_reducible rfl)
  try simp only [Act.put, List.setIfInBounds_toArray, List.set_cons_zero, List.set_cons_succ]
  refine wpAnyH_done (by kernel_rfl) ?_ _
  have bf := Lib.hid (ht.out _ hHeld)
  go_wp2
  go_ret
  exact ⟨rfl, bf.out⟩
set_option maxRecDepth 100000 in
set_option maxHeartbeats 4000000 in
theorem one_zj (n i : Nat) (j : Nat) (hj : j ≤ n) (c : Int) (a : Option Addr) (m ca : Nat) (l : List Int) (w : World) (h : SL w a m ca l) (hs : ¬ 200 < m) (hz : IsZ n l) (hi : i ≤ n) (hi0 : i = 0) : Calls Try.prog 4 #[.agg #[.int .i64 n, .slice a m ca], .int .i64 i, .int .i64 j, .int .i64 c] w (Gives (.bool true) w) := by
  obtain ⟨W1, hW1⟩ : ∃ W1, W1 = w.alloc (.cells #[.int .i64 n, .slice a m ca] 24) := ⟨_, rfl⟩
  have X1 : Bz w W1 (.int .i64 n) (.slice a m ca) := by rw [hW1]; exact bz_new _ _ _
  have hW1' := Lib.hid hW1
  have H1 := Lib.hid h
  have X := Lib.hid X1
  have k1 := X1.z1.cell 1
  have hk := hz.check
  have hl1 := Lib.hid (large_any a m ca h.max W1)
  rw [decide_eq_false (show ¬ (200 : Int) < (m : Int) by omega)] at hl1
  have z1 : IsZ n (limitL n l i j c) := stepL_isz hz.1 _ _
  obtain ⟨m1, hm1⟩ : ∃ x, x = (limitL n l i j c).length := ⟨_, rfl⟩
  have r1 : m1 ≤ 81 := by rw [hm1]; exact z1.small
  have Q1 := Lib.hid (fun W (hW : Below w.heap.size w W) => (zlimit_ok n l hz i j hi hj c a m ca W (H1.out.below hW)).mono (fun e w' h => ends_of (m := m1) hm1.symm (by omega) h))
  have P1 := Lib.hid (fun W (hW : Below w.heap.size w W) => (rlim_any n l hz i j hi hj c a m ca W (H1.out.below hW)).mono (fun e w' h => h.r))
  have E2 : chkE n l 1 i 0 = 1 := by unfold chkE; rw [if_neg (by rw [hk]; simp), if_pos (by omega)]
  have Q2 := Lib.hid (fun W (hW : Below w.heap.size w W) => (zforget_bad n i a m ca l W (H1.out.below hW) (by rw [E2]; decide)).mono (fun e w' h => ends_of (m := 0) rfl (by decide) h))
  rw [E2] at Q2
  clear E2
  have E3 : chkE n l 1 i j = 1 := by unfold chkE; rw [if_neg (by rw [hk]; simp), if_pos (by omega)]
  have Q3 := Lib.hid (fun W (hW : Below w.heap.size w W) => (zlet_bad n i j c a m ca l W (H1.out.below hW) (by rw [E3]; decide)).mono (fun e w' h => ends_of (m := 0) rfl (by decide) h))
  rw [E3] at Q3
  clear E3
  have Q4 := Lib.hid (fun W (hW : Below w.heap.size w W) => zitv_ok n i hi l hz a m ca W (H1.out.below hW))
  have P4 := Lib.hid (fun W (hW : Below w.heap.size w W) => ritv_ok n i hi l hz a m ca W (H1.out.below hW))
  have Q5 := Lib.hid (fun W (hW : Below w.heap.size w W) => rcheck_any n a m ca l W (H1.out.below hW))
  rw [hk] at Q5
  have R1 := Lib.hid (fun W => rvar_any n i a m ca W)
  have R2 := Lib.hid (fun W => ror0_any n i a m ca W)
  have R3 := Lib.hid (fun W => ror0_any n j a m ca W)
  rw [show (decide (1 ≤ (i : Int)) && decide ((i : Int) ≤ (n : Int))) = false by simp; omega] at R1
  rw [show (decide (0 ≤ (i : Int)) && decide ((i : Int) ≤ (n : Int))) = true by simp; omega] at R2
  rw [show (decide (0 ≤ (j : Int)) && decide ((j : Int) ≤ (n : Int))) = true by simp; omega] at R3
  clear hW1 X1 h H1 hk hz hi hi0 hj z1 hm1
  generalize limitL n l i j c = L1 at *
  generalize (itvL n l i).1 = x4 at *
  generalize (itvL n l i).2 = y4 at *
  go_enter Try.func4, Try.ntmps4
  go_wp2_with fail
  rw [← hW1'.out]
  refine hl1.out.mono ?_
  rintro e w1 ⟨rfl, rfl⟩
  clear hl1 hW1' k1
  have k0 := X.out.z1.cell 0
  have k1 := X.out.z1.cell 1
  have q := Lib.hid (Q1.out _ X.out.bl)
  go_wp2_with fail
  refine q.out.mono ?_
  rintro e v1 ⟨a1, c1, rfl, s1, b1⟩
  clear q Q1 k0 k1
  have k0 : v1.cell? ⟨w.heap.size, 0, none⟩ = some (.int .i64 n) := (X.out.z1.below b1 X.out.z1.lt).cell 0
  have k1 : v1.cell? ⟨w.heap.size, 1, none⟩ = some (.slice a m ca) := (X.out.z1.below b1 X.out.z1.lt).cell 1
  have k2 : w.heap.size < v1.heap.size := (X.out.z1.below b1 X.out.z1.lt).lt
  have B0 := box_below v1 #[.int .i64 n, .slice a1 m1 c1] 24
  have B := b1.trans (B0.mono b1.size)
  replace X := Lib.hid (X.out.on B)
  have Z1 := Lib.hid (Holds.new v1 24 #[.int .i64 n, .slice a1 m1 c1])
  have S1 := Lib.hid (s1.below B0)
  clear b1 s1 B B0
  have q := Lib.hid (Q2.out _ X.out.bl)
  go_wp2_with fail
  refine q.out.mono ?_
  rintro e v2 ⟨a2, c2, rfl, s2, b2⟩
  clear q Q2 k0 k1 k2
  have k0 : v2.cell? ⟨w.heap.size, 0, none⟩ = some (.int .i64 n) := (X.out.z1.below b2 X.out.z1.lt).cell 0
  have k1 : v2.cell? ⟨w.heap.size, 1, none⟩ = some (.slice a m ca) := (X.out.z1.below b2 X.out.z1.lt).cell 1
  have k2 : w.heap.size < v2.heap.size := (X.out.z1.below b2 X.out.z1.lt).lt
  have B0 := box_below v2 #[.int .i64 0, .slice a2 0 c2] 24
  have B := b2.trans (B0.mono b2.size)
  replace X := Lib.hid (X.out.on B)
  replace Z1 := Lib.hid (Z1.out.below B Z1.out.lt)
  replace S1 := Lib.hid (S1.out.below B)
  have Z2 := Lib.hid (Holds.new v2 24 #[.int .i64 0, .slice a2 0 c2])
  clear b2 s2 B B0
  have q := Lib.hid (Q3.out _ X.out.bl)
  go_wp2_with fail
  refine q.out.mono ?_
  rintro e v3 ⟨a3, c3, rfl, s3, b3⟩
  clear q Q3 k0 k1 k2
  have k0 : v3.cell? ⟨w.heap.size, 0, none⟩ = some (.int .i64 n) := (X.out.z1.below b3 X.out.z1.lt).cell 0
  have k1 : v3.cell? ⟨w.heap.size, 1, none⟩ = some (.slice a m ca) := (X.out.z1.below b3 X.out.z1.lt).cell 1
  have k2 : w.heap.size < v3.heap.size := (X.out.z1.below b3 X.out.z1.lt).lt
  have B0 := box_below v3 #[.int .i64 0, .slice a3 0 c3] 24
  have B := b3.trans (B0.mono b3.size)
  replace X := Lib.hid (X.out.on B)
  replace Z1 := Lib.hid (Z1.out.below B Z1.out.lt)
  replace Z2 := Lib.hid (Z2.out.below B Z2.out.lt)
  replace S1 := Lib.hid (S1.out.below B)
  have Z3 := Lib.hid (Holds.new v3 24 #[.int .i64 0, .slice a3 0 c3])
  clear b3 s3 B B0
  have q := Lib.hid (Q4.out _ X.out.bl)
  go_wp2_with fail
  refine q.out.mono ?_
  rintro e v4 ⟨rfl, b4⟩
  clear q Q4 k0 k1 k2
  have B := b4.trans ((box_below v4 #[.int .i64 x4, .int .i64 y4] 38).mono b4.size)
  replace X := Lib.hid (X.out.on B)
  replace Z1 := Lib.hid (Z1.out.below B Z1.out.lt)
  replace Z2 := Lib.hid (Z2.out.below B Z2.out.lt)
  replace Z3 := Lib.hid (Z3.out.below B Z3.out.lt)
  replace S1 := Lib.hid (S1.out.below B)
  have Z4 := Lib.hid (Holds.new v4 38 #[.int .i64 x4, .int .i64 y4])
  clear b4 B
  have hlv := Lib.hid (zlivesAt w _ X.out.bl)
  go_wp2_with fail
  refine hlv.out.mono ?_
  rintro e v5 ⟨rfl, b5, -⟩
  replace X := Lib.hid (X.out.on b5)
  replace Z1 := Lib.hid (Z1.out.below b5 Z1.out.lt)
  replace Z2 := Lib.hid (Z2.out.below b5 Z2.out.lt)
  replace Z3 := Lib.hid (Z3.out.below b5 Z3.out.lt)
  replace Z4 := Lib.hid (Z4.out.below b5 Z4.out.lt)
  replace S1 := Lib.hid (S1.out.below b5)
  clear b5 hlv
  have k0 := X.out.z1.cell 0
  have k1 := X.out.z1.cell 1
  have q := Lib.hid (Q5.out _ X.out.bl)
  go_wp2_with fail
  refine q.out.mono ?_
  rintro e v6 ⟨rfl, b6⟩
  replace X := Lib.hid (X.out.on b6)
  replace Z1 := Lib.hid (Z1.out.below b6 Z1.out.lt)
  replace Z2 := Lib.hid (Z2.out.below b6 Z2.out.lt)
  replace Z3 := Lib.hid (Z3.out.below b6 Z3.out.lt)
  replace Z4 := Lib.hid (Z4.out.below b6 Z4.out.lt)
  replace S1 := Lib.hid (S1.out.below b6)
  clear b6 q k0 k1 Q5
  have g0 : ∀ W, Below v6.heap.size v6 W → W.cell? ⟨w.heap.size, 0, none⟩ = some (.int .i64 n) := fun W hW => (X.out.z1.below hW X.out.z1.lt).cell 0
  have g1 : ∀ W, Below v6.heap.size v6 W → W.cell? ⟨w.heap.size, 1, none⟩ = some (.slice a m ca) := fun W hW => (X.out.z1.below hW X.out.z1.lt).cell 1
  have i0 : ∀ W, Below v6.heap.size v6 W → W.cell? ⟨v4.heap.size, 0, none⟩ = some (.int .i64 x4) := fun W hW => (Z4.out.below hW Z4.out.lt).cell 0
  have i1 : ∀ W, Below v6.heap.size v6 W → W.cell? ⟨v4.heap.size, 1, none⟩ = some (.int .i64 y4) := fun W hW => (Z4.out.below hW Z4.out.lt).cell 1
  have d10 : ∀ W, Below v6.heap.size v6 W → W.cell? ⟨v1.heap.size, 0, none⟩ = some (.int .i64 n) := fun W hW => (Z1.out.below hW Z1.out.lt).cell 0
  have d11 : ∀ W, Below v6.heap.size v6 W → W.cell? ⟨v1.heap.size, 1, none⟩ = some (.slice a1 m1 c1) := fun W hW => (Z1.out.below hW Z1.out.lt).cell 1
  have ht : Hid (∀ W, Below v6.heap.size v6 W → Below w.heap.size w W) := Lib.hid (fun W hW => X.out.bl.trans (hW.mono X.out.bl.size))
  go_wp2
  refine wp_drawn_on (fun W => Below v6.heap.size v6 W) (by kernel_rfl) (below_drew (Below.refl _ _)) (fun hHeld => ?_)
  refine wpAnyH_take (i := 0) (oi := { dst := some 90, op := Go.Op.load 24 (Go.Operand.tmp 4), type := 24, pos := "law.go:64", after := #[], guard := none }) (v := ?v54) rfl (by kernel_rfl) (by kernel_rfl) (by kernel_rfl) (fun _ _ _ h => h) (Or.inl ⟨by kernel_rfl, ?h54⟩) (by assumption) ?r54
  case h54 => (intro w hSw; (try dsimp only at hSw); go_simp; try with_reducible rfl)
  try simp only [Act.put, List.setIfInBounds_toArray, List.set_cons_zero, List.set_cons_succ]
  refine wpAnyH_take (i := 1) (oi := { dst := some 91, op := Go.Op.move (Go.Operand.tmp 1), type := 3, pos := "law.go:64", after := #[], guard := none }) (v := ?v55) rfl (by kernel_rfl) (by kernel_rfl) (by kernel_rfl) (fun _ _ _ h => h) (Or.inl ⟨by kernel_rfl, ?h55⟩) (by assumption) ?r55
  case h55 => (intro w hSw; (try dsimp only at hSw); go_simp; try with_reducible rfl)
  try simp only [Act.put, List.setIfInBounds_toArray, List.set_cons_zero, List.set_cons_succ]
  refine wpAnyH_take (i := 3) (oi := { dst := some 93, op := Go.Op.load 24 (Go.Operand.tmp 4), type := 24, pos := "law.go:64", after := #[], guard := none }) (v := ?v56) rfl (by kernel_rfl) (by kernel_rfl) (by kernel_rfl) (fun _ _ _ h => h) (Or.inl ⟨by kernel_rfl, ?h56⟩) (by assumption) ?r56
  case h56 => (intro w hSw; (try dsimp only at hSw); go_simp; try with_reducible rfl)
  try simp only [Act.put, List.setIfInBounds_toArray, List.set_cons_zero, List.set_cons_succ]
  refine wpAnyH_take (i := 4) (oi := { dst := some 94, op := Go.Op.move (Go.Operand.tmp 1), type := 3, pos := "law.go:64", after := #[], guard := none }) (v := ?v57) rfl (by kernel_rfl) (by kernel_rfl) (by kernel_rfl) (fun _ _ _ h => h) (Or.inl ⟨by kernel_rfl, ?h57⟩) (by assumption) ?r57
  case h57 => (intro w hSw; (try dsimp only at hSw); go_simp; try with_reducible rfl)
  try simp only [Act.put, List.setIfInBounds_toArray, List.set_cons_zero, List.set_cons_succ]
  refine wpAnyH_take (i := 6) (oi := { dst := some 96, op := Go.Op.load 24 (Go.Operand.tmp 4), type := 24, pos := "law.go:64", after := #[], guard := none }) (v := ?v58) rfl (by kernel_rfl) (by kernel_rfl) (by kernel_rfl) (fun _ _ _ h => h) (Or.inl ⟨by kernel_rfl, ?h58⟩) (by assumption) ?r58
  case h58 => (intro w hSw; (try dsimp only at hSw); go_simp; try with_reducible rfl)
  try simp only [Act.put, List.setIfInBounds_toArray, List.set_cons_zero, List.set_cons_succ]
  refine wpAnyH_take (i := 7) (oi := { dst := some 97, op := Go.Op.move (Go.Operand.tmp 2), type := 3, pos := "law.go:64", after := #[], guard := none }) (v := ?v59) rfl (by kernel_rfl) (by kernel_rfl) (by kernel_rfl) (fun _ _ _ h => h) (Or.inl ⟨by kernel_rfl, ?h59⟩) (by assumption) ?r59
  case h59 => (intro w hSw; (try dsimp only at hSw); go_simp; try with_reducible rfl)
  try simp only [Act.put, List.setIfInBounds_toArray, List.set_cons_zero, List.set_cons_succ]
  refine wpAnyH_ready (rs := [2]) (by kernel_rfl) (by simp) ?_
  refine AllReadyH.cons (o := { dst := some 92, op := Go.Op.call { callee := Go.Callee.value (Go.Operand.func 26), args := #[Go.Operand.tmp 90, Go.Operand.tmp 91], argTypes := #[24, 3] }, type := 4, pos := "law.go:64", after := #[{ on := 0, ground := Go.Ground.data }, { on := 1, ground := Go.Ground.data }], guard := none }) rfl (fun K hK => ?_) AllReadyH.nil
  go_simp
  refine (R1.out _).mono ?_
  rintro e u2 ⟨rfl, b2⟩
  go_simp
  refine hK.out _ _ (hHeld.trans (b2.mono hHeld.size)) (fun hHeld => ?_)
  clear hK K
  try simp only [Act.put, List.setIfInBounds_toArray, List.set_cons_zero, List.set_cons_succ]
  refine wpAnyH_ready (rs := [5]) (by kernel_rfl) (by simp) ?_
  refine AllReadyH.cons (o := { dst := some 95, op := Go.Op.call { callee := Go.Callee.value (Go.Operand.func 27), args := #[Go.Operand.tmp 93, Go.Operand.tmp 94], argTypes := #[24, 3] }, type := 4, pos := "law.go:64", after := #[{ on := 3, ground := Go.Ground.data }, { on := 4, ground := Go.Ground.data }, { on := 2, ground := Go.Ground.chain }], guard := none }) rfl (fun K hK => ?_) AllReadyH.nil
  go_simp
  refine (R2.out _).mono ?_
  rintro e u2 ⟨rfl, b2⟩
  go_simp
  refine hK.out _ _ (hHeld.trans (b2.mono hHeld.size)) (fun hHeld => ?_)
  clear hK K
  try simp only [Act.put, List.setIfInBounds_toArray, List.set_cons_zero, List.set_cons_succ]
  refine wpAnyH_ready (rs := [8]) (by kernel_rfl) (by simp) ?_
  refine AllReadyH.cons (o := { dst := some 98, op := Go.Op.call { callee := Go.Callee.value (Go.Operand.func 27), args := #[Go.Operand.tmp 96, Go.Operand.tmp 97], argTypes := #[24, 3] }, type := 4, pos := "law.go:64", after := #[{ on := 6, ground := Go.Ground.data }, { on := 7, ground := Go.Ground.data }, { on := 5, ground := Go.Ground.chain }], guard := none }) rfl (fun K hK => ?_) AllReadyH.nil
  go_simp
  refine (R3.out _).mono ?_
  rintro e u2 ⟨rfl, b2⟩
  go_simp
  refine hK.out _ _ (hHeld.trans (b2.mono hHeld.size)) (fun hHeld => ?_)
  clear hK K
  try simp only [Act.put, List.setIfInBounds_toArray, List.set_cons_zero, List.set_cons_succ]
  refine wpAnyH_take (i := 9) (oi := { dst := some 17, op := Go.Op.assign (Go.Operand.tmp 92), type := 4, pos := "law.go:64", after := #[{ on := 2, ground := Go.Ground.data }, { on := 8, ground := Go.Ground.chain }, { on := 0, ground := Go.Ground.phase }, { on := 1, ground := Go.Ground.phase }, { on := 2, ground := Go.Ground.phase }, { on := 3, ground := Go.Ground.textOnly Go.Departure.lateStores }, { on := 4, ground := Go.Ground.textOnly Go.Departure.lateStores }, { on := 5, ground := Go.Ground.textOnly Go.Departure.lateStoresUnsure }, { on := 6, ground := Go.Ground.textOnly Go.Departure.lateStores }, { on := 7, ground := Go.Ground.textOnly Go.Departure.lateStores }, { on := 8, ground := Go.Ground.textOnly Go.Departure.lateStoresUnsure }], guard := none }) (v := ?v60) rfl (by kernel_rfl) (by kernel_rfl) (by kernel_rfl) (fun _ _ _ h => h) (Or.inl ⟨by kernel_rfl, ?h60⟩) (by assumption) ?r60
  case h60 => (intro w hSw; (try dsimp only at hSw); go_simp; try with_reducible rfl)
  try simp only [Act.put, List.setIfInBounds_toArray, List.set_cons_zero, List.set_cons_succ]
  refine wpAnyH_take (i := 10) (oi := { dst := some 18, op := Go.Op.assign (Go.Operand.tmp 95), type := 4, pos := "law.go:64", after := #[{ on := 5, ground := Go.Ground.data }, { on := 9, ground := Go.Ground.chain }, { on := 0, ground := Go.Ground.phase }, { on := 1, ground := Go.Ground.phase }, { on := 2, ground := Go.Ground.phase }, { on := 3, ground := Go.Ground.phase }, { on := 4, ground := Go.Ground.phase }, { on := 5, ground := Go.Ground.phase }, { on := 6, ground := Go.Ground.textOnly Go.Departure.lateStores }, { on := 7, ground := Go.Ground.textOnly Go.Departure.lateStores }, { on := 8, ground := Go.Ground.textOnly Go.Departure.lateStoresUnsure }, { on := 9, ground := Go.Ground.phase }], guard := none }) (v := ?v61) rfl (by kernel_rfl) (by kernel_rfl) (by kernel_rfl) (fun _ _ _ h => h) (Or.inl ⟨by kernel_rfl, ?h61⟩) (by assumption) ?r61
  case h61 => (intro w hSw; (try dsimp only at hSw); go_simp; try with_reducible rfl)
  try simp only [Act.put, List.setIfInBounds_toArray, List.set_cons_zero, List.set_cons_succ]
  refine wpAnyH_take (i := 11) (oi := { dst := some 19, op := Go.Op.assign (Go.Operand.tmp 98), type := 4, pos := "law.go:64", after := #[{ on := 8, ground := Go.Ground.data }, { on := 10, ground := Go.Ground.chain }, { on := 0, ground := Go.Ground.phase }, { on := 1, ground := Go.Ground.phase }, { on := 2, ground := Go.Ground.phase }, { on := 3, ground := Go.Ground.phase }, { on := 4, ground := Go.Ground.phase }, { on := 5, ground := Go.Ground.phase }, { on := 6, ground := Go.Ground.phase }, { on := 7, ground := Go.Ground.phase }, { on := 8, ground := Go.Ground.phase }, { on := 9, ground := Go.Ground.phase }, { on := 10, ground := Go.Ground.phase }], guard := none }) (v := ?v62) rfl (by kernel_rfl) (by kernel_rfl) (by kernel_rfl) (fun _ _ _ h => h) (Or.inl ⟨by kernel_rfl, ?h62⟩) (by assumption) ?r62
  case h62 => (intro w hSw; (try dsimp only at hSw); go_simp; try with_reducible rfl)
  try simp only [Act.put, List.setIfInBounds_toArray, List.set_cons_zero, List.set_cons_succ]
  refine wpAnyH_done (by kernel_rfl) ?_ _
  have hB11 := Lib.hid hHeld
  clear hHeld
  go_wp2
  refine wp_drawn_on (fun W => Below v6.heap.size v6 W) (by kernel_rfl) (below_drew hB11.out) (fun hHeld => ?_)
  refine wpAnyH_take (i := 0) (oi := { dst := some 143, op := Go.Op.load 38 (Go.Operand.tmp 15), type := 38, pos := "law.go:71", after := #[], guard := none }) (v := ?v63) rfl (by kernel_rfl) (by kernel_rfl) (by kernel_rfl) (fun _ _ _ h => h) (Or.inl ⟨by kernel_rfl, ?h63⟩) (by assumption) ?r63
  case h63 => (intro w hSw; (try dsimp only at hSw); go_simp; try with_reducible rfl)
  try simp only [Act.put, List.setIfInBounds_toArray, List.set_cons_zero, List.set_cons_succ]
  refine wpAnyH_take (i := 1) (oi := { dst := some 144, op := Go.Op.load 24 (Go.Operand.tmp 4), type := 24, pos := "law.go:71", after := #[], guard := none }) (v := ?v64) rfl (by kernel_rfl) (by kernel_rfl) (by kernel_rfl) (fun _ _ _ h => h) (Or.inl ⟨by kernel_rfl, ?h64⟩) (by assumption) ?r64
  case h64 => (intro w hSw; (try dsimp only at hSw); go_simp; try with_reducible rfl)
  try simp only [Act.put, List.setIfInBounds_toArray, List.set_cons_zero, List.set_cons_succ]
  refine wpAnyH_take (i := 2) (oi := { dst := some 145, op := Go.Op.move (Go.Operand.tmp 1), type := 3, pos := "law.go:71", after := #[], guard := none }) (v := ?v65) rfl (by kernel_rfl) (by kernel_rfl) (by kernel_rfl) (fun _ _ _ h => h) (Or.inl ⟨by kernel_rfl, ?h65⟩) (by assumption) ?r65
  case h65 => (intro w hSw; (try dsimp only at hSw); go_simp; try with_reducible rfl)
  try simp only [Act.put, List.setIfInBounds_toArray, List.set_cons_zero, List.set_cons_succ]
  refine wpAnyH_ready (rs := [3]) (by kernel_rfl) (by simp) ?_
  refine AllReadyH.cons (o := { dst := some 146, op := Go.Op.call { callee := Go.Callee.value (Go.Operand.func 28), args := #[Go.Operand.tmp 144, Go.Operand.tmp 145], argTypes := #[24, 3] }, type := 38, pos := "law.go:71", after := #[{ on := 1, ground := Go.Ground.data }, { on := 2, ground := Go.Ground.data }], guard := none }) rfl (fun K hK => ?_) AllReadyH.nil
  go_simp
  refine (P4.out _ (ht.out _ hHeld)).mono ?_
  rintro e u2 ⟨rfl, b2⟩
  go_simp
  refine hK.out _ _ (hHeld.trans (b2.mono hHeld.size)) (fun hHeld => ?_)
  clear hK K
  try simp only [Act.put, List.setIfInBounds_toArray, List.set_cons_zero, List.set_cons_succ]
  refine wpAnyH_take (i := 4) (oi := { dst := some 147, op := Go.Op.binOp Go.BinOp.neq 38 (Go.Operand.tmp 143) (Go.Operand.tmp 146) 38, type := 4, pos := "law.go:71", after := #[{ on := 0, ground := Go.Ground.data }, { on := 3, ground := Go.Ground.data }], guard := none }) (v := ?v66) rfl (by kernel_rfl) (by kernel_rfl) (by kernel_rfl) (fun _ _ _ h => h) (Or.inl ⟨by kernel_rfl, ?h66⟩) (by assumption) ?r66
  case h66 => (intro w hSw; (try dsimp only at hSw); go_simp; try with_reducible rfl)
  try simp only [Act.put, List.setIfInBounds_toArray, List.set_cons_zero, List.set_cons_succ]
  refine wpAnyH_take (i := 5) (oi := { dst := some 148, op := Go.Op.move (Go.Operand.tmp 147), type := 4, pos := "law.go:71", after := #[{ on := 4, ground := Go.Ground.data }, { on := 3, ground := Go.Ground.chain }], guard := none }) (v := ?v67) rfl (by kernel_rfl) (by kernel_rfl) (by kernel_rfl) (fun _ _ _ h => h) (Or.inl ⟨by kernel_rfl, ?h67⟩) (by assumption) ?r67
  case h67 => (intro w hSw; (try dsimp only at hSw); go_simp; try with_reducible rfl)
  try simp only [Act.put, List.setIfInBounds_toArray, List.set_cons_zero, List.set_cons_succ]
  refine wpAnyH_take (i := 6) (oi := { dst := some 149, op := Go.Op.move (Go.Operand.tmp 17), type := 4, pos := "law.go:71", after := #[{ on := 5, ground := Go.Ground.guard }], guard := some (5, false) }) (v := ?v68) rfl (by kernel_rfl) (by kernel_rfl) (by kernel_rfl) (fun _ _ _ h => h) (Or.inl ⟨by kernel_rfl, ?h68⟩) (by assumption) ?r68
  case h68 => (intro w hSw; (try dsimp only at hSw); go_simp; try with_reducible rfl)
  try simp only [Act.put, List.setIfInBounds_toArray, List.set_cons_zero, List.set_cons_succ]
  refine wpAnyH_take (i := 7) (oi := { dst := some 150, op := Go.Op.move (Go.Operand.tmp 149), type := 4, pos := "law.go:71", after := #[{ on := 6, ground := Go.Ground.data }, { on := 5, ground := Go.Ground.chain }, { on := 5, ground := Go.Ground.guard }], guard := some (5, false) }) (v := ?v69) rfl (by kernel_rfl) (by kernel_rfl) (by kernel_rfl) (fun _ _ _ h => h) (Or.inl ⟨by kernel_rfl, ?h69⟩) (by assumption) ?r69
  case h69 => (intro w hSw; (try dsimp only at hSw); go_simp; try with_reducible rfl)
  try simp only [Act.put, List.setIfInBounds_toArray, List.set_cons_zero, List.set_cons_succ]
  refine wpAnyH_take (i := 8) (oi := { dst := some 151, op := Go.Op.load 24 (Go.Operand.tmp 11), type := 24, pos := "law.go:71", after := #[{ on := 7, ground := Go.Ground.guard }], guard := some (7, true) }) (v := undef) rfl (by kernel_rfl) (by kernel_rfl) (by kernel_rfl) (fun _ _ _ h => h) (Or.inr ⟨by kernel_rfl, rfl⟩) (by assumption) ?_
  try simp only [Act.put, List.setIfInBounds_toArray, List.set_cons_zero, List.set_cons_succ]
  refine wpAnyH_take (i := 9) (oi := { dst := some 152, op := Go.Op.load 24 (Go.Operand.tmp 4), type := 24, pos := "law.go:71", after := #[{ on := 7, ground := Go.Ground.guard }], guard := some (7, true) }) (v := undef) rfl (by kernel_rfl) (by kernel_rfl) (by kernel_rfl) (fun _ _ _ h => h) (Or.inr ⟨by kernel_rfl, rfl⟩) (by assumption) ?_
  try simp only [Act.put, List.setIfInBounds_toArray, List.set_cons_zero, List.set_cons_succ]
  refine wpAnyH_take (i := 10) (oi := { dst := some 153, op := Go.Op.move (Go.Operand.tmp 1), type := 3, pos := "law.go:71", after := #[{ on := 7, ground := Go.Ground.guard }], guard := some (7, true) }) (v := undef) rfl (by kernel_rfl) (by kernel_rfl) (by kernel_rfl) (fun _ _ _ h => h) (Or.inr ⟨by kernel_rfl, rfl⟩) (by assumption) ?_
  try simp only [Act.put, List.setIfInBounds_toArray, List.set_cons_zero, List.set_cons_succ]
  refine wpAnyH_take (i := 11) (oi := { dst := some 154, op := Go.Op.call { callee := Go.Callee.value (Go.Operand.func 29), args := #[Go.Operand.tmp 152, Go.Operand.tmp 153], argTypes := #[24, 3] }, type := 24, pos := "law.go:71", after := #[{ on := 9, ground := Go.Ground.data }, { on := 10, ground := Go.Ground.data }, { on := 7, ground := Go.Ground.chain }, { on := 7, ground := Go.Ground.guard }], guard := some (7, true) }) (v := undef) rfl (by kernel_rfl) (by kernel_rfl) (by kernel_rfl) (fun _ _ _ h => h) (Or.inr ⟨by kernel_rfl, rfl⟩) (by assumption) ?_
  try simp only [Act.put, List.setIfInBounds_toArray, List.set_cons_zero, List.set_cons_succ]
  refine wpAnyH_take (i := 12) (oi := { dst := some 155, op := Go.Op.call { callee := Go.Callee.value (Go.Operand.func 16), args := #[Go.Operand.tmp 151, Go.Operand.tmp 154], argTypes := #[24, 24] }, type := 4, pos := "law.go:71", after := #[{ on := 8, ground := Go.Ground.data }, { on := 11, ground := Go.Ground.data }, { on := 11, ground := Go.Ground.chain }, { on := 7, ground := Go.Ground.guard }], guard := some (7, true) }) (v := undef) rfl (by kernel_rfl) (by kernel_rfl) (by kernel_rfl) (fun _ _ _ h => h) (Or.inr ⟨by kernel_rfl, rfl⟩) (by assumption) ?_
  try simp only [Act.put, List.setIfInBounds_toArray, List.set_cons_zero, List.set_cons_succ]
  refine wpAnyH_take (i := 13) (oi := { dst := some 156, op := Go.Op.unOp Go.UnOp.not 4 (Go.Operand.tmp 155), type := 4, pos := "law.go:71", after := #[{ on := 12, ground := Go.Ground.data }, { on := 7, ground := Go.Ground.guard }], guard := some (7, true) }) (v := undef) rfl (by kernel_rfl) (by kernel_rfl) (by kernel_rfl) (fun _ _ _ h => h) (Or.inr ⟨by kernel_rfl, rfl⟩) (by assumption) ?_
  try simp only [Act.put, List.setIfInBounds_toArray, List.set_cons_zero, List.set_cons_succ]
  refine wpAnyH_take (i := 14) (oi := { dst := some 157, op := Go.Op.pick (Go.Operand.tmp 150) (Go.Operand.tmp 156) (Go.Operand.const (Go.Value.bool false)), type := 4, pos := "law.go:71", after := #[{ on := 7, ground := Go.Ground.data }, { on := 13, ground := Go.Ground.data }, { on := 5, ground := Go.Ground.guard }], guard := some (5, false) }) (v := ?v76) rfl (by kernel_rfl) (by kernel_rfl) (by kernel_rfl) (fun _ _ _ h => h) (Or.inl ⟨by kernel_rfl, ?h76⟩) (by assumption) ?r76
  case h76 => (intro w hSw; (try dsimp only at hSw); go_simp; try with_reducible rfl)
  try simp only [Act.put, List.setIfInBounds_toArray, List.set_cons_zero, List.set_cons_succ]
  refine wpAnyH_take (i := 15) (oi := { dst := some 158, op := Go.Op.pick (Go.Operand.tmp 148) (Go.Operand.const (Go.Value.bool true)) (Go.Operand.tmp 157), type := 4, pos := "law.go:71", after := #[{ on := 5, ground := Go.Ground.data }, { on := 14, ground := Go.Ground.data }], guard := none }) (v := ?v77) rfl (by kernel_rfl) (by kernel_rfl) (by kernel_rfl) (fun _ _ _ h => h) (Or.inl ⟨by kernel_rfl, ?h77⟩) (by assumption) ?r77
  case h77 => (intro w hSw; (try dsimp only at hSw); go_simp; try with_reducible rfl)
  try simp only [Act.put, List.setIfInBounds_toArray, List.set_cons_zero, List.set_cons_succ]
  refine wpAnyH_done (by kernel_rfl) ?_ _
  have hB16 := Lib.hid hHeld
  clear hHeld
  go_wp2
  refine wp_drawn_on (fun W => Below v6.heap.size v6 W) (by kernel_rfl) (below_drew hB16.out) (fun hHeld => ?_)
  refine wpAnyH_take (i := 0) (oi := { dst := some 159, op := Go.Op.move (Go.Operand.tmp 19), type := 4, pos := "law.go:74", after := #[], guard := none }) (v := ?v78) rfl (by kernel_rfl) (by kernel_rfl) (by kernel_rfl) (fun _ _ _ h => h) (Or.inl ⟨by kernel_rfl, ?h78⟩) (by assumption) ?r78
  case h78 => (intro w hSw; (try dsimp only at hSw); go_simp; try with_reducible rfl)
  try simp only [Act.put, List.setIfInBounds_toArray, List.set_cons_zero, List.set_cons_succ]
  refine wpAnyH_take (i := 1) (oi := { dst := some 160, op := Go.Op.unOp Go.UnOp.not 4 (Go.Operand.tmp 159), type := 4, pos := "law.go:74", after := #[{ on := 0, ground := Go.Ground.data }], guard := none }) (v := ?v79) rfl (by kernel_rfl) (by kernel_rfl) (by kernel_rfl) (fun _ _ _ h => h) (Or.inl ⟨by kernel_rfl, ?h79⟩) (by assumption) ?r79
  case h79 => (intro w hSw; (try dsimp only at hSw); go_simp; try with_reducible rfl)
  try simp only [Act.put, List.setIfInBounds_toArray, List.set_cons_zero, List.set_cons_succ]
  refine wpAnyH_take (i := 2) (oi := { dst := some 161, op := Go.Op.move (Go.Operand.tmp 160), type := 4, pos := "law.go:74", after := #[{ on := 1, ground := Go.Ground.data }], guard := none }) (v := ?v80) rfl (by kernel_rfl) (by kernel_rfl) (by kernel_rfl) (fun _ _ _ h => h) (Or.inl ⟨by kernel_rfl, ?h80⟩) (by assumption) ?r80
  case h80 => (intro w hSw; (try dsimp only at hSw); go_simp; try with_reducible rfl)
  try simp only [Act.put, List.setIfInBounds_toArray, List.set_cons_zero, List.set_cons_succ]
  refine wpAnyH_take (i := 3) (oi := { dst := some 162, op := Go.Op.load 24 (Go.Operand.tmp 9), type := 24, pos := "law.go:74", after := #[{ on := 2, ground := Go.Ground.guard }], guard := some (2, false) }) (v := ?v81) rfl (by kernel_rfl) (by kernel_rfl) (by kernel_rfl) (fun _ _ _ h => h) (Or.inl ⟨by kernel_rfl, ?h81⟩) (by assumption) ?r81
  case h81 => (intro w hSw; (try dsimp only at hSw); go_simp; try with_reducible rfl)
  try simp only [Act.put, List.setIfInBounds_toArray, List.set_cons_zero, List.set_cons_succ]
  refine wpAnyH_take (i := 4) (oi := { dst := some 163, op := Go.Op.load 24 (Go.Operand.tmp 4), type := 24, pos := "law.go:74", after := #[{ on := 2, ground := Go.Ground.guard }], guard := some (2, false) }) (v := ?v82) rfl (by kernel_rfl) (by kernel_rfl) (by kernel_rfl) (fun _ _ _ h => h) (Or.inl ⟨by kernel_rfl, ?h82⟩) (by assumption) ?r82
  case h82 => (intro w hSw; (try dsimp only at hSw); go_simp; try with_reducible rfl)
  try simp only [Act.put, List.setIfInBounds_toArray, List.set_cons_zero, List.set_cons_succ]
  refine wpAnyH_take (i := 5) (oi := { dst := some 164, op := Go.Op.move (Go.Operand.tmp 1), type := 3, pos := "law.go:74", after := #[{ on := 2, ground := Go.Ground.guard }], guard := some (2, false) }) (v := ?v83) rfl (by kernel_rfl) (by kernel_rfl) (by kernel_rfl) (fun _ _ _ h => h) (Or.inl ⟨by kernel_rfl, ?h83⟩) (by assumption) ?r83
  case h83 => (intro w hSw; (try dsimp only at hSw); go_simp; try with_reducible rfl)
  try simp only [Act.put, List.setIfInBounds_toArray, List.set_cons_zero, List.set_cons_succ]
  refine wpAnyH_take (i := 6) (oi := { dst := some 165, op := Go.Op.move (Go.Operand.tmp 2), type := 3, pos := "law.go:74", after := #[{ on := 2, ground := Go.Ground.guard }], guard := some (2, false) }) (v := ?v84) rfl (by kernel_rfl) (by kernel_rfl) (by kernel_rfl) (fun _ _ _ h => h) (Or.inl ⟨by kernel_rfl, ?h84⟩) (by assumption) ?r84
  case h84 => (intro w hSw; (try dsimp only at hSw); go_simp; try with_reducible rfl)
  try simp only [Act.put, List.setIfInBounds_toArray, List.set_cons_zero, List.set_cons_succ]
  refine wpAnyH_take (i := 7) (oi := { dst := some 166, op := Go.Op.move (Go.Operand.tmp 3), type := 3, pos := "law.go:74", after := #[{ on := 2, ground := Go.Ground.guard }], guard := some (2, false) }) (v := ?v85) rfl (by kernel_rfl) (by kernel_rfl) (by kernel_rfl) (fun _ _ _ h => h) (Or.inl ⟨by kernel_rfl, ?h85⟩) (by assumption) ?r85
  case h85 => (intro w hSw; (try dsimp only at hSw); go_simp; try with_reducible rfl)
  try simp only [Act.put, List.setIfInBounds_toArray, List.set_cons_zero, List.set_cons_succ]
  refine wpAnyH_ready (rs := [8]) (by kernel_rfl) (by simp) ?_
  refine AllReadyH.cons (o := { dst := some 167, op := Go.Op.call { callee := Go.Callee.value (Go.Operand.func 30), args := #[Go.Operand.tmp 163, Go.Operand.tmp 164, Go.Operand.tmp 165, Go.Operand.tmp 166], argTypes := #[24, 3, 3, 3] }, type := 24, pos := "law.go:74", after := #[{ on := 4, ground := Go.Ground.data }, { on := 5, ground := Go.Ground.data }, { on := 6, ground := Go.Ground.data }, { on := 7, ground := Go.Ground.data }, { on := 2, ground := Go.Ground.chain }, { on := 2, ground := Go.Ground.guard }], guard := some (2, false) }) rfl (fun K hK => ?_) AllReadyH.nil
  go_simp
  refine (P1.out _ (ht.out _ hHeld)).mono ?_
  rintro e u2 ⟨x9, y9, z9, rfl, s9, b2⟩
  have t9 := Lib.hid (zrself n a1 x9 _ m1 y9 c1 z9 _ (S1.out.below (hHeld.trans (b2.mono hHeld.size))) s9)
  go_simp
  refine hK.out _ _ (hHeld.trans (b2.mono hHeld.size)) (fun hHeld => ?_)
  clear hK K
  try simp only [Act.put, List.setIfInBounds_toArray, List.set_cons_zero, List.set_cons_succ]
  refine wpAnyH_ready (rs := [9]) (by kernel_rfl) (by simp) ?_
  refine AllReadyH.cons (o := { dst := some 168, op := Go.Op.call { callee := Go.Callee.value (Go.Operand.func 16), args := #[Go.Operand.tmp 162, Go.Operand.tmp 167], argTypes := #[24, 24] }, type := 4, pos := "law.go:74", after := #[{ on := 3, ground := Go.Ground.data }, { on := 8, ground := Go.Ground.data }, { on := 8, ground := Go.Ground.chain }, { on := 2, ground := Go.Ground.guard }], guard := some (2, false) }) rfl (fun K hK => ?_) AllReadyH.nil
  go_simp
  refine t9.out.mono ?_
  rintro e u3 ⟨rfl, b3⟩
  go_simp
  refine hK.out _ _ (hHeld.trans (b3.mono hHeld.size)) (fun hHeld => ?_)
  clear hK K
  try simp only [Act.put, List.setIfInBounds_toArray, List.set_cons_zero, List.set_cons_succ]
  refine wpAnyH_take (i := 10) (oi := { dst := some 169, op := Go.Op.pick (Go.Operand.tmp 161) (Go.Operand.const (Go.Value.bool true)) (Go.Operand.tmp 168), type := 4, pos := "law.go:74", after := #[{ on := 2, ground := Go.Ground.data }, { on := 9, ground := Go.Ground.data }], guard := none }) (v := ?v86) rfl (by kernel_rfl) (by kernel_rfl) (by kernel_rfl) (fun _ _ _ h => h) (Or.inl ⟨by kernel_rfl, ?h86⟩) (by assumption) ?r86
  case h86 => (intro w hSw; (try dsimp only at hSw); go_simp; try with_reducible rfl)
  try simp only [Act.put, List.setIfInBounds_toArray, List.set_cons_zero, List.set_cons_succ]
  refine wpAnyH_take (i := 11) (oi := { dst := some 170, op := Go.Op.move (Go.Operand.tmp 169), type := 4, pos := "law.go:74", after := #[{ on := 10, ground := Go.Ground.data }, { on := 9, ground := Go.Ground.chain }], guard := none }) (v := ?v87) rfl (by kernel_rfl) (by kernel_rfl) (by kernel_rfl) (fun _ _ _ h => h) (Or.inl ⟨by kernel_rfl, ?h87⟩) (by assumption) ?r87
  case h87 => (intro w hSw; (try dsimp only at hSw); go_simp; try with_reducible rfl)
  try simp only [Act.put, List.setIfInBounds_toArray, List.set_cons_zero, List.set_cons_succ]
  refine wpAnyH_take (i := 12) (oi := { dst := some 171, op := Go.Op.move (Go.Operand.tmp 19), type := 4, pos := "law.go:74", after := #[{ on := 11, ground := Go.Ground.guard }], guard := some (11, true) }) (v := ?v88) rfl (by kernel_rfl) (by kernel_rfl) (by kernel_rfl) (fun _ _ _ h => h) (Or.inl ⟨by kernel_rfl, ?h88⟩) (by assumption) ?r88
  case h88 => (intro w hSw; (try dsimp only at hSw); go_simp; try with_reducible rfl)
  try simp only [Act.put, List.setIfInBounds_toArray, List.set_cons_zero, List.set_cons_succ]
  refine wpAnyH_take (i := 13) (oi := { dst := some 172, op := Go.Op.unOp Go.UnOp.not 4 (Go.Operand.tmp 171), type := 4, pos := "law.go:74", after := #[{ on := 12, ground := Go.Ground.data }, { on := 11, ground := Go.Ground.guard }], guard := some (11, true) }) (v := ?v89) rfl (by kernel_rfl) (by kernel_rfl) (by kernel_rfl) (fun _ _ _ h => h) (Or.inl ⟨by kernel_rfl, ?h89⟩) (by assumption) ?r89
  case h89 => (intro w hSw; (try dsimp only at hSw); go_simp; try with_reducible rfl)
  try simp only [Act.put, List.setIfInBounds_toArray, List.set_cons_zero, List.set_cons_succ]
  refine wpAnyH_take (i := 14) (oi := { dst := some 173, op := Go.Op.move (Go.Operand.tmp 172), type := 4, pos := "law.go:74", after := #[{ on := 13, ground := Go.Ground.data }, { on := 11, ground := Go.Ground.chain }, { on := 11, ground := Go.Ground.guard }], guard := some (11, true) }) (v := ?v90) rfl (by kernel_rfl) (by kernel_rfl) (by kernel_rfl) (fun _ _ _ h => h) (Or.inl ⟨by kernel_rfl, ?h90⟩) (by assumption) ?r90
  case h90 => (intro w hSw; (try dsimp only at hSw); go_simp; try with_reducible rfl)
  try simp only [Act.put, List.setIfInBounds_toArray, List.set_cons_zero, List.set_cons_succ]
  refine wpAnyH_take (i := 15) (oi := { dst := some 174, op := Go.Op.move (Go.Operand.tmp 17), type := 4, pos := "law.go:74", after := #[{ on := 14, ground := Go.Ground.guard }], guard := some (14, false) }) (v := ?v91) rfl (by kernel_rfl) (by kernel_rfl) (by kernel_rfl) (fun _ _ _ h => h) (Or.inl ⟨by kernel_rfl, ?h91⟩) (by assumption) ?r91
  case h91 => (intro w hSw; (try dsimp only at hSw); go_simp; try with_reducible rfl)
  try simp only [Act.put, List.setIfInBounds_toArray, List.set_cons_zero, List.set_cons_succ]
  refine wpAnyH_take (i := 16) (oi := { dst := some 175, op := Go.Op.unOp Go.UnOp.not 4 (Go.Operand.tmp 174), type := 4, pos := "law.go:74", after := #[{ on := 15, ground := Go.Ground.data }, { on := 14, ground := Go.Ground.guard }], guard := some (14, false) }) (v := ?v92) rfl (by kernel_rfl) (by kernel_rfl) (by kernel_rfl) (fun _ _ _ h => h) (Or.inl ⟨by kernel_rfl, ?h92⟩) (by assumption) ?r92
  case h92 => (intro w hSw; (try dsimp only at hSw); go_simp; try with_reducible rfl)
  try simp only [Act.put, List.setIfInBounds_toArray, List.set_cons_zero, List.set_cons_succ]
  refine wpAnyH_take (i := 17) (oi := { dst := some 176, op := Go.Op.pick (Go.Operand.tmp 173) (Go.Operand.const (Go.Value.bool true)) (Go.Operand.tmp 175), type := 4, pos := "law.go:74", after := #[{ on := 14, ground := Go.Ground.data }, { on := 16, ground := Go.Ground.data }, { on := 11, ground := Go.Ground.guard }], guard := some (11, true) }) (v := ?v93) rfl (by kernel_rfl) (by kernel_rfl) (by kernel_rfl) (fun _ _ _ h => h) (Or.inl ⟨by kernel_rfl, ?h93⟩) (by assumption) ?r93
  case h93 => (intro w hSw; (try dsimp only at hSw); go_simp; try with_reducible rfl)
  try simp only [Act.put, List.setIfInBounds_toArray, List.set_cons_zero, List.set_cons_succ]
  refine wpAnyH_take (i := 18) (oi := { dst := some 177, op := Go.Op.move (Go.Operand.tmp 176), type := 4, pos := "law.go:74", after := #[{ on := 17, ground := Go.Ground.data }, { on := 14, ground := Go.Ground.chain }, { on := 11, ground := Go.Ground.guard }], guard := some (11, true) }) (v := ?v94) rfl (by kernel_rfl) (by kernel_rfl) (by kernel_rfl) (fun _ _ _ h => h) (Or.inl ⟨by kernel_rfl, ?h94⟩) (by assumption) ?r94
  case h94 => (intro w hSw; (try dsimp only at hSw); go_simp; try with_reducible rfl)
  try simp only [Act.put, List.setIfInBounds_toArray, List.set_cons_zero, List.set_cons_succ]
  refine wpAnyH_take (i := 19) (oi := { dst := some 178, op := Go.Op.load 24 (Go.Operand.tmp 13), type := 24, pos := "law.go:74", after := #[{ on := 18, ground := Go.Ground.guard }], guard := some (18, false) }) (v := undef) rfl (by kernel_rfl) (by kernel_rfl) (by kernel_rfl) (fun _ _ _ h => h) (Or.inr ⟨by kernel_rfl, rfl⟩) (by assumption) ?_
  try simp only [Act.put, List.setIfInBounds_toArray, List.set_cons_zero, List.set_cons_succ]
  refine wpAnyH_take (i := 20) (oi := { dst := some 179, op := Go.Op.load 24 (Go.Operand.tmp 4), type := 24, pos := "law.go:74", after := #[{ on := 18, ground := Go.Ground.guard }], guard := some (18, false) }) (v := undef) rfl (by kernel_rfl) (by kernel_rfl) (by kernel_rfl) (fun _ _ _ h => h) (Or.inr ⟨by kernel_rfl, rfl⟩) (by assumption) ?_
  try simp only [Act.put, List.setIfInBounds_toArray, List.set_cons_zero, List.set_cons_succ]
  refine wpAnyH_take (i := 21) (oi := { dst := some 180, op := Go.Op.move (Go.Operand.tmp 1), type := 3, pos := "law.go:74", after := #[{ on := 18, ground := Go.Ground.guard }], guard := some (18, false) }) (v := undef) rfl (by kernel_rfl) (by kernel_rfl) (by kernel_rfl) (fun _ _ _ h => h) (Or.inr ⟨by kernel_rfl, rfl⟩) (by assumption) ?_
  try simp only [Act.put, List.setIfInBounds_toArray, List.set_cons_zero, List.set_cons_succ]
  refine wpAnyH_take (i := 22) (oi := { dst := some 181, op := Go.Op.move (Go.Operand.tmp 2), type := 3, pos := "law.go:74", after := #[{ on := 18, ground := Go.Ground.guard }], guard := some (18, false) }) (v := undef) rfl (by kernel_rfl) (by kernel_rfl) (by kernel_rfl) (fun _ _ _ h => h) (Or.inr ⟨by kernel_rfl, rfl⟩) (by assumption) ?_
  try simp only [Act.put, List.setIfInBounds_toArray, List.set_cons_zero, List.set_cons_succ]
  refine wpAnyH_take (i := 23) (oi := { dst := some 182, op := Go.Op.move (Go.Operand.tmp 3), type := 3, pos := "law.go:74", after := #[{ on := 18, ground := Go.Ground.guard }], guard := some (18, false) }) (v := undef) rfl (by kernel_rfl) (by kernel_rfl) (by kernel_rfl) (fun _ _ _ h => h) (Or.inr ⟨by kernel_rfl, rfl⟩) (by assumption) ?_
  try simp only [Act.put, List.setIfInBounds_toArray, List.set_cons_zero, List.set_cons_succ]
  refine wpAnyH_take (i := 24) (oi := { dst := some 183, op := Go.Op.call { callee := Go.Callee.value (Go.Operand.func 31), args := #[Go.Operand.tmp 179, Go.Operand.tmp 180, Go.Operand.tmp 181, Go.Operand.tmp 182], argTypes := #[24, 3, 3, 3] }, type := 24, pos := "law.go:74", after := #[{ on := 20, ground := Go.Ground.data }, { on := 21, ground := Go.Ground.data }, { on := 22, ground := Go.Ground.data }, { on := 23, ground := Go.Ground.data }, { on := 18, ground := Go.Ground.chain }, { on := 18, ground := Go.Ground.guard }], guard := some (18, false) }) (v := undef) rfl (by kernel_rfl) (by kernel_rfl) (by kernel_rfl) (fun _ _ _ h => h) (Or.inr ⟨by kernel_rfl, rfl⟩) (by assumption) ?_
  try simp only [Act.put, List.setIfInBounds_toArray, List.set_cons_zero, List.set_cons_succ]
  refine wpAnyH_take (i := 25) (oi := { dst := some 184, op := Go.Op.call { callee := Go.Callee.value (Go.Operand.func 16), args := #[Go.Operand.tmp 178, Go.Operand.tmp 183], argTypes := #[24, 24] }, type := 4, pos := "law.go:74", after := #[{ on := 19, ground := Go.Ground.data }, { on := 24, ground := Go.Ground.data }, { on := 24, ground := Go.Ground.chain }, { on := 18, ground := Go.Ground.guard }], guard := some (18, false) }) (v := undef) rfl (by kernel_rfl) (by kernel_rfl) (by kernel_rfl) (fun _ _ _ h => h) (Or.inr ⟨by kernel_rfl, rfl⟩) (by assumption) ?_
  try simp only [Act.put, List.setIfInBounds_toArray, List.set_cons_zero, List.set_cons_succ]
  refine wpAnyH_take (i := 26) (oi := { dst := some 185, op := Go.Op.pick (Go.Operand.tmp 177) (Go.Operand.const (Go.Value.bool true)) (Go.Operand.tmp 184), type := 4, pos := "law.go:74", after := #[{ on := 18, ground := Go.Ground.data }, { on := 25, ground := Go.Ground.data }, { on := 11, ground := Go.Ground.guard }], guard := some (11, true) }) (v := ?v102) rfl (by kernel_rfl) (by kernel_rfl) (by kernel_rfl) (fun _ _ _ h => h) (Or.inl ⟨by kernel_rfl, ?h102⟩) (by assumption) ?r102
  case h102 => (intro w hSw; (try dsimp only at hSw); go_simp; try with_reducible rfl)
  try simp only [Act.put, List.setIfInBounds_toArray, List.set_cons_zero, List.set_cons_succ]
  refine wpAnyH_take (i := 27) (oi := { dst := some 186, op := Go.Op.pick (Go.Operand.tmp 170) (Go.Operand.tmp 185) (Go.Operand.const (Go.Value.bool false)), type := 4, pos := "law.go:74", after := #[{ on := 11, ground := Go.Ground.data }, { on := 26, ground := Go.Ground.data }], guard := none }) (v := ?v103) rfl (by kernel_rfl) (by kernel_rfl) (by kernel_rfl) (fun _ _ _ h => h) (Or.inl ⟨by kernel_rfl, ?h103⟩) (by assumption) ?r103
  case h103 => (intro w hSw; (try dsimp only at hSw); go_simp; try with_reducible rfl)
  try simp only [Act.put, List.setIfInBounds_toArray, List.set_cons_zero, List.set_cons_succ]
  refine wpAnyH_take (i := 28) (oi := { dst := some 8, op := Go.Op.assign (Go.Operand.tmp 186), type := 4, pos := "law.go:74", after := #[{ on := 27, ground := Go.Ground.data }, { on := 25, ground := Go.Ground.chain }, { on := 0, ground := Go.Ground.phase }, { on := 1, ground := Go.Ground.phase }, { on := 2, ground := Go.Ground.phase }, { on := 3, ground := Go.Ground.phase }, { on := 4, ground := Go.Ground.phase }, { on := 5, ground := Go.Ground.phase }, { on := 6, ground := Go.Ground.phase }, { on := 7, ground := Go.Ground.phase }, { on := 8, ground := Go.Ground.phase }, { on := 9, ground := Go.Ground.phase }, { on := 10, ground := Go.Ground.phase }, { on := 11, ground := Go.Ground.phase }, { on := 12, ground := Go.Ground.phase }, { on := 13, ground := Go.Ground.phase }, { on := 14, ground := Go.Ground.phase }, { on := 15, ground := Go.Ground.phase }, { on := 16, ground := Go.Ground.phase }, { on := 17, ground := Go.Ground.phase }, { on := 18, ground := Go.Ground.phase }, { on := 19, ground := Go.Ground.phase }, { on := 20, ground := Go.Ground.phase }, { on := 21, ground := Go.Ground.phase }, { on := 22, ground := Go.Ground.phase }, { on := 23, ground := Go.Ground.phase }, { on := 24, ground := Go.Ground.phase }, { on := 25, ground := Go.Ground.phase }, { on := 26, ground := Go.Ground.phase }, { on := 27, ground := Go.Ground.phase }], guard := none }) (v := ?v104) rfl (by kernel_rfl) (by kernel_rfl) (by kernel_rfl) (fun _ _ _ h => h) (Or.inl ⟨by kernel_rfl, ?h104⟩) (by assumption) ?r104
  case h104 => (intro w hSw; (try dsimp only at hSw); go_simp; try with_reducible rfl)
  try simp only [Act.put, List.setIfInBounds_toArray, List.set_cons_zero, List.set_cons_succ]
  refine wpAnyH_done (by kernel_rfl) ?_ _
  have bf := Lib.hid (ht.out _ hHeld)
  go_wp2
  go_ret
  exact ⟨rfl, bf.out⟩
set_option maxRecDepth 100000 in
set_option maxHeartbeats 4000000 in
theorem one_vo (n i : Nat) (j : Int) (hj : j < 0 ∨ n < j) (c : Int) (a : Option Addr) (m ca : Nat) (l : List Int) (w : World) (h : SL w a m ca l) (hs : ¬ 200 < m) (hz : IsZ n l) (hi : i ≤ n) (hi0 : 1 ≤ i) : Calls Try.prog 4 #[.agg #[.int .i64 n, .slice a m ca], .int .i64 i, .int .i64 j, .int .i64 c] w (Gives (.bool true) w) := by
  obtain ⟨W1, hW1⟩ : ∃ W1, W1 = w.alloc (.cells #[.int .i64 n, .slice a m ca] 24) := ⟨_, rfl⟩
  have X1 : Bz w W1 (.int .i64 n) (.slice a m ca) := by rw [hW1]; exact bz_new _ _ _
  have hW1' := Lib.hid hW1
  have H1 := Lib.hid h
  have X := Lib.hid X1
  have k1 := X1.z1.cell 1
  have hk := hz.check
  have hl1 := Lib.hid (large_any a m ca h.max W1)
  rw [decide_eq_false (show ¬ (200 : Int) < (m : Int) by omega)] at hl1
  have E1 : chkE n l 0 i j = 1 := by unfold chkE; rw [if_neg (by rw [hk]; simp), if_pos (by omega)]
  have Q1 := Lib.hid (fun W (hW : Below w.heap.size w W) => (zlimit_bad n i j c a m ca l W (H1.out.below hW) (by rw [E1]; decide)).mono (fun e w' h => ends_of (m := 0) rfl (by decide) h))
  rw [E1] at Q1
  clear E1
  have z2 : IsZ n (forgetL n l i) := stepL_isz hz.1 _ _
  obtain ⟨m2, hm2⟩ : ∃ x, x = (forgetL n l i).length := ⟨_, rfl⟩
  have r2 : m2 ≤ 81 := by rw [hm2]; exact z2.small
  have Q2 := Lib.hid (fun W (hW : Below w.heap.size w W) => (zforget_ok n l hz i hi0 hi a m ca W (H1.out.below hW)).mono (fun e w' h => ends_of (m := m2) hm2.symm (by omega) h))
  have P2 := Lib.hid (fun W (hW : Below w.heap.size w W) => (rfor_any n l hz i hi a m ca W (H1.out.below hW)).mono (fun e w' h => h.r))
  have E3 : chkE n l 1 i j = 1 := by unfold chkE; rw [if_neg (by rw [hk]; simp), if_pos (by omega)]
  have Q3 := Lib.hid (fun W (hW : Below w.heap.size w W) => (zlet_bad n i j c a m ca l W (H1.out.below hW) (by rw [E3]; decide)).mono (fun e w' h => ends_of (m := 0) rfl (by decide) h))
  rw [E3] at Q3
  clear E3
  have Q4 := Lib.hid (fun W (hW : Below w.heap.size w W) => zitv_ok n i hi l hz a m ca W (H1.out.below hW))
  have P4 := Lib.hid (fun W (hW : Below w.heap.size w W) => ritv_ok n i hi l hz a m ca W (H1.out.below hW))
  have Q5 := Lib.hid (fun W (hW : Below w.heap.size w W) => rcheck_any n a m ca l W (H1.out.below hW))
  rw [hk] at Q5
  have R1 := Lib.hid (fun W => rvar_any n i a m ca W)
  have R2 := Lib.hid (fun W => ror0_any n i a m ca W)
  have R3 := Lib.hid (fun W => ror0_any n j a m ca W)
  rw [show (decide (1 ≤ (i : Int)) && decide ((i : Int) ≤ (n : Int))) = true by simp; omega] at R1
  rw [show (decide (0 ≤ (i : Int)) && decide ((i : Int) ≤ (n : Int))) = true by simp; omega] at R2
  rw [show (decide (0 ≤ (j : Int)) && decide ((j : Int) ≤ (n : Int))) = false by simp; omega] at R3
  clear hW1 X1 h H1 hk hz hi hi0 hj z2 hm2
  generalize forgetL n l i = L2 at *
  generalize (itvL n l i).1 = x4 at *
  generalize (itvL n l i).2 = y4 at *
  go_enter Try.func4, Try.ntmps4
  go_wp2_with fail
  rw [← hW1'.out]
  refine hl1.out.mono ?_
  rintro e w1 ⟨rfl, rfl⟩
  clear hl1 hW1' k1
  have k0 := X.out.z1.cell 0
  have k1 := X.out.z1.cell 1
  have q := Lib.hid (Q1.out _ X.out.bl)
  go_wp2_with fail
  refine q.out.mono ?_
  rintro e v1 ⟨a1, c1, rfl, s1, b1⟩
  clear q Q1 k0 k1
  have k0 : v1.cell? ⟨w.heap.size, 0, none⟩ = some (.int .i64 n) := (X.out.z1.below b1 X.out.z1.lt).cell 0
  have k1 : v1.cell? ⟨w.heap.size, 1, none⟩ = some (.slice a m ca) := (X.out.z1.below b1 X.out.z1.lt).cell 1
  have k2 : w.heap.size < v1.heap.size := (X.out.z1.below b1 X.out.z1.lt).lt
  have B0 := box_below v1 #[.int .i64 0, .slice a1 0 c1] 24
  have B := b1.trans (B0.mono b1.size)
  replace X := Lib.hid (X.out.on B)
  have Z1 := Lib.hid (Holds.new v1 24 #[.int .i64 0, .slice a1 0 c1])
  clear b1 s1 B B0
  have q := Lib.hid (Q2.out _ X.out.bl)
  go_wp2_with fail
  refine q.out.mono ?_
  rintro e v2 ⟨a2, c2, rfl, s2, b2⟩
  clear q Q2 k0 k1 k2
  have k0 : v2.cell? ⟨w.heap.size, 0, none⟩ = some (.int .i64 n) := (X.out.z1.below b2 X.out.z1.lt).cell 0
  have k1 : v2.cell? ⟨w.heap.size, 1, none⟩ = some (.slice a m ca) := (X.out.z1.below b2 X.out.z1.lt).cell 1
  have k2 : w.heap.size < v2.heap.size := (X.out.z1.below b2 X.out.z1.lt).lt
  have B0 := box_below v2 #[.int .i64 n, .slice a2 m2 c2] 24
  have B := b2.trans (B0.mono b2.size)
  replace X := Lib.hid (X.out.on B)
  replace Z1 := Lib.hid (Z1.out.below B Z1.out.lt)
  have Z2 := Lib.hid (Holds.new v2 24 #[.int .i64 n, .slice a2 m2 c2])
  have S2 := Lib.hid (s2.below B0)
  clear b2 s2 B B0
  have q := Lib.hid (Q3.out _ X.out.bl)
  go_wp2_with fail
  refine q.out.mono ?_
  rintro e v3 ⟨a3, c3, rfl, s3, b3⟩
  clear q Q3 k0 k1 k2
  have k0 : v3.cell? ⟨w.heap.size, 0, none⟩ = some (.int .i64 n) := (X.out.z1.below b3 X.out.z1.lt).cell 0
  have k1 : v3.cell? ⟨w.heap.size, 1, none⟩ = some (.slice a m ca) := (X.out.z1.below b3 X.out.z1.lt).cell 1
  have k2 : w.heap.size < v3.heap.size := (X.out.z1.below b3 X.out.z1.lt).lt
  have B0 := box_below v3 #[.int .i64 0, .slice a3 0 c3] 24
  have B := b3.trans (B0.mono b3.size)
  replace X := Lib.hid (X.out.on B)
  replace Z1 := Lib.hid (Z1.out.below B Z1.out.lt)
  replace Z2 := Lib.hid (Z2.out.below B Z2.out.lt)
  replace S2 := Lib.hid (S2.out.below B)
  have Z3 := Lib.hid (Holds.new v3 24 #[.int .i64 0, .slice a3 0 c3])
  clear b3 s3 B B0
  have q := Lib.hid (Q4.out _ X.out.bl)
  go_wp2_with fail
  refine q.out.mono ?_
  rintro e v4 ⟨rfl, b4⟩
  clear q Q4 k0 k1 k2
  have B := b4.trans ((box_below v4 #[.int .i64 x4, .int .i64 y4] 38).mono b4.size)
  replace X := Lib.hid (X.out.on B)
  replace Z1 := Lib.hid (Z1.out.below B Z1.out.lt)
  replace Z2 := Lib.hid (Z2.out.below B Z2.out.lt)
  replace Z3 := Lib.hid (Z3.out.below B Z3.out.lt)
  replace S2 := Lib.hid (S2.out.below B)
  have Z4 := Lib.hid (Holds.new v4 38 #[.int .i64 x4, .int .i64 y4])
  clear b4 B
  have hlv := Lib.hid (zlivesAt w _ X.out.bl)
  go_wp2_with fail
  refine hlv.out.mono ?_
  rintro e v5 ⟨rfl, b5, -⟩
  replace X := Lib.hid (X.out.on b5)
  replace Z1 := Lib.hid (Z1.out.below b5 Z1.out.lt)
  replace Z2 := Lib.hid (Z2.out.below b5 Z2.out.lt)
  replace Z3 := Lib.hid (Z3.out.below b5 Z3.out.lt)
  replace Z4 := Lib.hid (Z4.out.below b5 Z4.out.lt)
  replace S2 := Lib.hid (S2.out.below b5)
  clear b5 hlv
  have k0 := X.out.z1.cell 0
  have k1 := X.out.z1.cell 1
  have q := Lib.hid (Q5.out _ X.out.bl)
  go_wp2_with fail
  refine q.out.mono ?_
  rintro e v6 ⟨rfl, b6⟩
  replace X := Lib.hid (X.out.on b6)
  replace Z1 := Lib.hid (Z1.out.below b6 Z1.out.lt)
  replace Z2 := Lib.hid (Z2.out.below b6 Z2.out.lt)
  replace Z3 := Lib.hid (Z3.out.below b6 Z3.out.lt)
  replace Z4 := Lib.hid (Z4.out.below b6 Z4.out.lt)
  replace S2 := Lib.hid (S2.out.below b6)
  clear b6 q k0 k1 Q5
  have g0 : ∀ W, Below v6.heap.size v6 W → W.cell? ⟨w.heap.size, 0, none⟩ = some (.int .i64 n) := fun W hW => (X.out.z1.below hW X.out.z1.lt).cell 0
  have g1 : ∀ W, Below v6.heap.size v6 W → W.cell? ⟨w.heap.size, 1, none⟩ = some (.slice a m ca) := fun W hW => (X.out.z1.below hW X.out.z1.lt).cell 1
  have i0 : ∀ W, Below v6.heap.size v6 W → W.cell? ⟨v4.heap.size, 0, none⟩ = some (.int .i64 x4) := fun W hW => (Z4.out.below hW Z4.out.lt).cell 0
  have i1 : ∀ W, Below v6.heap.size v6 W → W.cell? ⟨v4.heap.size, 1, none⟩ = some (.int .i64 y4) := fun W hW => (Z4.out.below hW Z4.out.lt).cell 1
  have d20 : ∀ W, Below v6.heap.size v6 W → W.cell? ⟨v2.heap.size, 0, none⟩ = some (.int .i64 n) := fun W hW => (Z2.out.below hW Z2.out.lt).cell 0
  have d21 : ∀ W, Below v6.heap.size v6 W → W.cell? ⟨v2.heap.size, 1, none⟩ = some (.slice a2 m2 c2) := fun W hW => (Z2.out.below hW Z2.out.lt).cell 1
  have ht : Hid (∀ W, Below v6.heap.size v6 W → Below w.heap.size w W) := Lib.hid (fun W hW => X.out.bl.trans (hW.mono X.out.bl.size))
  go_wp2
  refine wp_drawn_on (fun W => Below v6.heap.size v6 W) (by kernel_rfl) (below_drew (Below.refl _ _)) (fun hHeld => ?_)
  refine wpAnyH_take (i := 0) (oi := { dst := some 90, op := Go.Op.load 24 (Go.Operand.tmp 4), type := 24, pos := "law.go:64", after := #[], guard := none }) (v := ?v105) rfl (by kernel_rfl) (by kernel_rfl) (by kernel_rfl) (fun _ _ _ h => h) (Or.inl ⟨by kernel_rfl, ?h105⟩) (by assumption) ?r105
  case h105 => (intro w hSw; (try dsimp only at hSw); go_simp; try with_reducible rfl)
  try simp only [Act.put, List.setIfInBounds_toArray, List.set_cons_zero, List.set_cons_succ]
  refine wpAnyH_take (i := 1) (oi := { dst := some 91, op := Go.Op.move (Go.Operand.tmp 1), type := 3, pos := "law.go:64", after := #[], guard := none }) (v := ?v106) rfl (by kernel_rfl) (by kernel_rfl) (by kernel_rfl) (fun _ _ _ h => h) (Or.inl ⟨by kernel_rfl, ?h106⟩) (by assumption) ?r106
  case h106 => (intro w hSw; (try dsimp only at hSw); go_simp; try with_reducible rfl)
  try simp only [Act.put, List.setIfInBounds_toArray, List.set_cons_zero, List.set_cons_succ]
  refine wpAnyH_take (i := 3) (oi := { dst := some 93, op := Go.Op.load 24 (Go.Operand.tmp 4), type := 24, pos := "law.go:64", after := #[], guard := none }) (v := ?v107) rfl (by kernel_rfl) (by kernel_rfl) (by kernel_rfl) (fun _ _ _ h => h) (Or.inl ⟨by kernel_rfl, ?h107⟩) (by assumption) ?r107
  case h107 => (intro w hSw; (try dsimp only at hSw); go_simp; try with_reducible rfl)
  try simp only [Act.put, List.setIfInBounds_toArray, List.set_cons_zero, List.set_cons_succ]
  refine wpAnyH_take (i := 4) (oi := { dst := some 94, op := Go.Op.move (Go.Operand.tmp 1), type := 3, pos := "law.go:64", after := #[], guard := none }) (v := ?v108) rfl (by kernel_rfl) (by kernel_rfl) (by kernel_rfl) (fun _ _ _ h => h) (Or.inl ⟨by kernel_rfl, ?h108⟩) (by assumption) ?r108
  case h108 => (intro w hSw; (try dsimp only at hSw); go_simp; try with_reducible rfl)
  try simp only [Act.put, List.setIfInBounds_toArray, List.set_cons_zero, List.set_cons_succ]
  refine wpAnyH_take (i := 6) (oi := { dst := some 96, op := Go.Op.load 24 (Go.Operand.tmp 4), type := 24, pos := "law.go:64", after := #[], guard := none }) (v := ?v109) rfl (by kernel_rfl) (by kernel_rfl) (by kernel_rfl) (fun _ _ _ h => h) (Or.inl ⟨by kernel_rfl, ?h109⟩) (by assumption) ?r109
  case h109 => (intro w hSw; (try dsimp only at hSw); go_simp; try with_reducible rfl)
  try simp only [Act.put, List.setIfInBounds_toArray, List.set_cons_zero, List.set_cons_succ]
  refine wpAnyH_take (i := 7) (oi := { dst := some 97, op := Go.Op.move (Go.Operand.tmp 2), type := 3, pos := "law.go:64", after := #[], guard := none }) (v := ?v110) rfl (by kernel_rfl) (by kernel_rfl) (by kernel_rfl) (fun _ _ _ h => h) (Or.inl ⟨by kernel_rfl, ?h110⟩) (by assumption) ?r110
  case h110 => (intro w hSw; (try dsimp only at hSw); go_simp; try with_reducible rfl)
  try simp only [Act.put, List.setIfInBounds_toArray, List.set_cons_zero, List.set_cons_succ]
  refine wpAnyH_ready (rs := [2]) (by kernel_rfl) (by simp) ?_
  refine AllReadyH.cons (o := { dst := some 92, op := Go.Op.call { callee := Go.Callee.value (Go.Operand.func 26), args := #[Go.Operand.tmp 90, Go.Operand.tmp 91], argTypes := #[24, 3] }, type := 4, pos := "law.go:64", after := #[{ on := 0, ground := Go.Ground.data }, { on := 1, ground := Go.Ground.data }], guard := none }) rfl (fun K hK => ?_) AllReadyH.nil
  go_simp
  refine (R1.out _).mono ?_
  rintro e u2 ⟨rfl, b2⟩
  go_simp
  refine hK.out _ _ (hHeld.trans (b2.mono hHeld.size)) (fun hHeld => ?_)
  clear hK K
  try simp only [Act.put, List.setIfInBounds_toArray, List.set_cons_zero, List.set_cons_succ]
  refine wpAnyH_ready (rs := [5]) (by kernel_rfl) (by simp) ?_
  refine AllReadyH.cons (o := { dst := some 95, op := Go.Op.call { callee := Go.Callee.value (Go.Operand.func 27), args := #[Go.Operand.tmp 93, Go.Operand.tmp 94], argTypes := #[24, 3] }, type := 4, pos := "law.go:64", after := #[{ on := 3, ground := Go.Ground.data }, { on := 4, ground := Go.Ground.data }, { on := 2, ground := Go.Ground.chain }], guard := none }) rfl (fun K hK => ?_) AllReadyH.nil
  go_simp
  refine (R2.out _).mono ?_
  rintro e u2 ⟨rfl, b2⟩
  go_simp
  refine hK.out _ _ (hHeld.trans (b2.mono hHeld.size)) (fun hHeld => ?_)
  clear hK K
  try simp only [Act.put, List.setIfInBounds_toArray, List.set_cons_zero, List.set_cons_succ]
  refine wpAnyH_ready (rs := [8]) (by kernel_rfl) (by simp) ?_
  refine AllReadyH.cons (o := { dst := some 98, op := Go.Op.call { callee := Go.Callee.value (Go.Operand.func 27), args := #[Go.Operand.tmp 96, Go.Operand.tmp 97], argTypes := #[24, 3] }, type := 4, pos := "law.go:64", after := #[{ on := 6, ground := Go.Ground.data }, { on := 7, ground := Go.Ground.data }, { on := 5, ground := Go.Ground.chain }], guard := none }) rfl (fun K hK => ?_) AllReadyH.nil
  go_simp
  refine (R3.out _).mono ?_
  rintro e u2 ⟨rfl, b2⟩
  go_simp
  refine hK.out _ _ (hHeld.trans (b2.mono hHeld.size)) (fun hHeld => ?_)
  clear hK K
  try simp only [Act.put, List.setIfInBounds_toArray, List.set_cons_zero, List.set_cons_succ]
  refine wpAnyH_take (i := 9) (oi := { dst := some 17, op := Go.Op.assign (Go.Operand.tmp 92), type := 4, pos := "law.go:64", after := #[{ on := 2, ground := Go.Ground.data }, { on := 8, ground := Go.Ground.chain }, { on := 0, ground := Go.Ground.phase }, { on := 1, ground := Go.Ground.phase }, { on := 2, ground := Go.Ground.phase }, { on := 3, ground := Go.Ground.textOnly Go.Departure.lateStores }, { on := 4, ground := Go.Ground.textOnly Go.Departure.lateStores }, { on := 5, ground := Go.Ground.textOnly Go.Departure.lateStoresUnsure }, { on := 6, ground := Go.Ground.textOnly Go.Departure.lateStores }, { on := 7, ground := Go.Ground.textOnly Go.Departure.lateStores }, { on := 8, ground := Go.Ground.textOnly Go.Departure.lateStoresUnsure }], guard := none }) (v := ?v111) rfl (by kernel_rfl) (by kernel_rfl) (by kernel_rfl) (fun _ _ _ h => h) (Or.inl ⟨by kernel_rfl, ?h111⟩) (by assumption) ?r111
  case h111 => (intro w hSw; (try dsimp only at hSw); go_simp; try with_reducible rfl)
  try simp only [Act.put, List.setIfInBounds_toArray, List.set_cons_zero, List.set_cons_succ]
  refine wpAnyH_take (i := 10) (oi := { dst := some 18, op := Go.Op.assign (Go.Operand.tmp 95), type := 4, pos := "law.go:64", after := #[{ on := 5, ground := Go.Ground.data }, { on := 9, ground := Go.Ground.chain }, { on := 0, ground := Go.Ground.phase }, { on := 1, ground := Go.Ground.phase }, { on := 2, ground := Go.Ground.phase }, { on := 3, ground := Go.Ground.phase }, { on := 4, ground := Go.Ground.phase }, { on := 5, ground := Go.Ground.phase }, { on := 6, ground := Go.Ground.textOnly Go.Departure.lateStores }, { on := 7, ground := Go.Ground.textOnly Go.Departure.lateStores }, { on := 8, ground := Go.Ground.textOnly Go.Departure.lateStoresUnsure }, { on := 9, ground := Go.Ground.phase }], guard := none }) (v := ?v112) rfl (by kernel_rfl) (by kernel_rfl) (by kernel_rfl) (fun _ _ _ h => h) (Or.inl ⟨by kernel_rfl, ?h112⟩) (by assumption) ?r112
  case h112 => (intro w hSw; (try dsimp only at hSw); go_simp; try with_reducible rfl)
  try simp only [Act.put, List.setIfInBounds_toArray, List.set_cons_zero, List.set_cons_succ]
  refine wpAnyH_take (i := 11) (oi := { dst := some 19, op := Go.Op.assign (Go.Operand.tmp 98), type := 4, pos := "law.go:64", after := #[{ on := 8, ground := Go.Ground.data }, { on := 10, ground := Go.Ground.chain }, { on := 0, ground := Go.Ground.phase }, { on := 1, ground := Go.Ground.phase }, { on := 2, ground := Go.Ground.phase }, { on := 3, ground := Go.Ground.phase }, { on := 4, ground := Go.Ground.phase }, { on := 5, ground := Go.Ground.phase }, { on := 6, ground := Go.Ground.phase }, { on := 7, ground := Go.Ground.phase }, { on := 8, ground := Go.Ground.phase }, { on := 9, ground := Go.Ground.phase }, { on := 10, ground := Go.Ground.phase }], guard := none }) (v := ?v113) rfl (by kernel_rfl) (by kernel_rfl) (by kernel_rfl) (fun _ _ _ h => h) (Or.inl ⟨by kernel_rfl, ?h113⟩) (by assumption) ?r113
  case h113 => (intro w hSw; (try dsimp only at hSw); go_simp; try with_reducible rfl)
  try simp only [Act.put, List.setIfInBounds_toArray, List.set_cons_zero, List.set_cons_succ]
  refine wpAnyH_done (by kernel_rfl) ?_ _
  have hB11 := Lib.hid hHeld
  clear hHeld
  go_wp2
  refine wp_drawn_on (fun W => Below v6.heap.size v6 W) (by kernel_rfl) (below_drew hB11.out) (fun hHeld => ?_)
  refine wpAnyH_take (i := 0) (oi := { dst := some 143, op := Go.Op.load 38 (Go.Operand.tmp 15), type := 38, pos := "law.go:71", after := #[], guard := none }) (v := ?v114) rfl (by kernel_rfl) (by kernel_rfl) (by kernel_rfl) (fun _ _ _ h => h) (Or.inl ⟨by kernel_rfl, ?h114⟩) (by assumption) ?r114
  case h114 => (intro w hSw; (try dsimp only at hSw); go_simp; try with_reducible rfl)
  try simp only [Act.put, List.setIfInBounds_toArray, List.set_cons_zero, List.set_cons_succ]
  refine wpAnyH_take (i := 1) (oi := { dst := some 144, op := Go.Op.load 24 (Go.Operand.tmp 4), type := 24, pos := "law.go:71", after := #[], guard := none }) (v := ?v115) rfl (by kernel_rfl) (by kernel_rfl) (by kernel_rfl) (fun _ _ _ h => h) (Or.inl ⟨by kernel_rfl, ?h115⟩) (by assumption) ?r115
  case h115 => (intro w hSw; (try dsimp only at hSw); go_simp; try with_reducible rfl)
  try simp only [Act.put, List.setIfInBounds_toArray, List.set_cons_zero, List.set_cons_succ]
  refine wpAnyH_take (i := 2) (oi := { dst := some 145, op := Go.Op.move (Go.Operand.tmp 1), type := 3, pos := "law.go:71", after := #[], guard := none }) (v := ?v116) rfl (by kernel_rfl) (by kernel_rfl) (by kernel_rfl) (fun _ _ _ h => h) (Or.inl ⟨by kernel_rfl, ?h116⟩) (by assumption) ?r116
  case h116 => (intro w hSw; (try dsimp only at hSw); go_simp; try with_reducible rfl)
  try simp only [Act.put, List.setIfInBounds_toArray, List.set_cons_zero, List.set_cons_succ]
  refine wpAnyH_ready (rs := [3]) (by kernel_rfl) (by simp) ?_
  refine AllReadyH.cons (o := { dst := some 146, op := Go.Op.call { callee := Go.Callee.value (Go.Operand.func 28), args := #[Go.Operand.tmp 144, Go.Operand.tmp 145], argTypes := #[24, 3] }, type := 38, pos := "law.go:71", after := #[{ on := 1, ground := Go.Ground.data }, { on := 2, ground := Go.Ground.data }], guard := none }) rfl (fun K hK => ?_) AllReadyH.nil
  go_simp
  refine (P4.out _ (ht.out _ hHeld)).mono ?_
  rintro e u2 ⟨rfl, b2⟩
  go_simp
  refine hK.out _ _ (hHeld.trans (b2.mono hHeld.size)) (fun hHeld => ?_)
  clear hK K
  try simp only [Act.put, List.setIfInBounds_toArray, List.set_cons_zero, List.set_cons_succ]
  refine wpAnyH_take (i := 4) (oi := { dst := some 147, op := Go.Op.binOp Go.BinOp.neq 38 (Go.Operand.tmp 143) (Go.Operand.tmp 146) 38, type := 4, pos := "law.go:71", after := #[{ on := 0, ground := Go.Ground.data }, { on := 3, ground := Go.Ground.data }], guard := none }) (v := ?v117) rfl (by kernel_rfl) (by kernel_rfl) (by kernel_rfl) (fun _ _ _ h => h) (Or.inl ⟨by kernel_rfl, ?h117⟩) (by assumption) ?r117
  case h117 => (intro w hSw; (try dsimp only at hSw); go_simp; try with_reducible rfl)
  try simp only [Act.put, List.setIfInBounds_toArray, List.set_cons_zero, List.set_cons_succ]
  refine wpAnyH_take (i := 5) (oi := { dst := some 148, op := Go.Op.move (Go.Operand.tmp 147), type := 4, pos := "law.go:71", after := #[{ on := 4, ground := Go.Ground.data }, { on := 3, ground := Go.Ground.chain }], guard := none }) (v := ?v118) rfl (by kernel_rfl) (by kernel_rfl) (by kernel_rfl) (fun _ _ _ h => h) (Or.inl ⟨by kernel_rfl, ?h118⟩) (by assumption) ?r118
  case h118 => (intro w hSw; (try dsimp only at hSw); go_simp; try with_reducible rfl)
  try simp only [Act.put, List.setIfInBounds_toArray, List.set_cons_zero, List.set_cons_succ]
  refine wpAnyH_take (i := 6) (oi := { dst := some 149, op := Go.Op.move (Go.Operand.tmp 17), type := 4, pos := "law.go:71", after := #[{ on := 5, ground := Go.Ground.guard }], guard := some (5, false) }) (v := ?v119) rfl (by kernel_rfl) (by kernel_rfl) (by kernel_rfl) (fun _ _ _ h => h) (Or.inl ⟨by kernel_rfl, ?h119⟩) (by assumption) ?r119
  case h119 => (intro w hSw; (try dsimp only at hSw); go_simp; try with_reducible rfl)
  try simp only [Act.put, List.setIfInBounds_toArray, List.set_cons_zero, List.set_cons_succ]
  refine wpAnyH_take (i := 7) (oi := { dst := some 150, op := Go.Op.move (Go.Operand.tmp 149), type := 4, pos := "law.go:71", after := #[{ on := 6, ground := Go.Ground.data }, { on := 5, ground := Go.Ground.chain }, { on := 5, ground := Go.Ground.guard }], guard := some (5, false) }) (v := ?v120) rfl (by kernel_rfl) (by kernel_rfl) (by kernel_rfl) (fun _ _ _ h => h) (Or.inl ⟨by kernel_rfl, ?h120⟩) (by assumption) ?r120
  case h120 => (intro w hSw; (try dsimp only at hSw); go_simp; try with_reducible rfl)
  try simp only [Act.put, List.setIfInBounds_toArray, List.set_cons_zero, List.set_cons_succ]
  refine wpAnyH_take (i := 8) (oi := { dst := some 151, op := Go.Op.load 24 (Go.Operand.tmp 11), type := 24, pos := "law.go:71", after := #[{ on := 7, ground := Go.Ground.guard }], guard := some (7, true) }) (v := ?v121) rfl (by kernel_rfl) (by kernel_rfl) (by kernel_rfl) (fun _ _ _ h => h) (Or.inl ⟨by kernel_rfl, ?h121⟩) (by assumption) ?r121
  case h121 => (intro w hSw; (try dsimp only at hSw); go_simp; try with_reducible rfl)
  try simp only [Act.put, List.setIfInBounds_toArray, List.set_cons_zero, List.set_cons_succ]
  refine wpAnyH_take (i := 9) (oi := { dst := some 152, op := Go.Op.load 24 (Go.Operand.tmp 4), type := 24, pos := "law.go:71", after := #[{ on := 7, ground := Go.Ground.guard }], guard := some (7, true) }) (v := ?v122) rfl (by kernel_rfl) (by kernel_rfl) (by kernel_rfl) (fun _ _ _ h => h) (Or.inl ⟨by kernel_rfl, ?h122⟩) (by assumption) ?r122
  case h122 => (intro w hSw; (try dsimp only at hSw); go_simp; try with_reducible rfl)
  try simp only [Act.put, List.setIfInBounds_toArray, List.set_cons_zero, List.set_cons_succ]
  refine wpAnyH_take (i := 10) (oi := { dst := some 153, op := Go.Op.move (Go.Operand.tmp 1), type := 3, pos := "law.go:71", after := #[{ on := 7, ground := Go.Ground.guard }], guard := some (7, true) }) (v := ?v123) rfl (by kernel_rfl) (by kernel_rfl) (by kernel_rfl) (fun _ _ _ h => h) (Or.inl ⟨by kernel_rfl, ?h123⟩) (by assumption) ?r123
  case h123 => (intro w hSw; (try dsimp only at hSw); go_simp; try with_reducible rfl)
  try simp only [Act.put, List.setIfInBounds_toArray, List.set_cons_zero, List.set_cons_succ]
  refine wpAnyH_ready (rs := [11]) (by kernel_rfl) (by simp) ?_
  refine AllReadyH.cons (o := { dst := some 154, op := Go.Op.call { callee := Go.Callee.value (Go.Operand.func 29), args := #[Go.Operand.tmp 152, Go.Operand.tmp 153], argTypes := #[24, 3] }, type := 24, pos := "law.go:71", after := #[{ on := 9, ground := Go.Ground.data }, { on := 10, ground := Go.Ground.data }, { on := 7, ground := Go.Ground.chain }, { on := 7, ground := Go.Ground.guard }], guard := some (7, true) }) rfl (fun K hK => ?_) AllReadyH.nil
  go_simp
  refine (P2.out _ (ht.out _ hHeld)).mono ?_
  rintro e u2 ⟨x9, y9, z9, rfl, s9, b2⟩
  have t9 := Lib.hid (zrself n a2 x9 _ m2 y9 c2 z9 _ (S2.out.below (hHeld.trans (b2.mono hHeld.size))) s9)
  go_simp
  refine hK.out _ _ (hHeld.trans (b2.mono hHeld.size)) (fun hHeld => ?_)
  clear hK K
  try simp only [Act.put, List.setIfInBounds_toArray, List.set_cons_zero, List.set_cons_succ]
  refine wpAnyH_ready (rs := [12]) (by kernel_rfl) (by simp) ?_
  refine AllReadyH.cons (o := { dst := some 155, op := Go.Op.call { callee := Go.Callee.value (Go.Operand.func 16), args := #[Go.Operand.tmp 151, Go.Operand.tmp 154], argTypes := #[24, 24] }, type := 4, pos := "law.go:71", after := #[{ on := 8, ground := Go.Ground.data }, { on := 11, ground := Go.Ground.data }, { on := 11, ground := Go.Ground.chain }, { on := 7, ground := Go.Ground.guard }], guard := some (7, true) }) rfl (fun K hK => ?_) AllReadyH.nil
  go_simp
  refine t9.out.mono ?_
  rintro e u3 ⟨rfl, b3⟩
  go_simp
  refine hK.out _ _ (hHeld.trans (b3.mono hHeld.size)) (fun hHeld => ?_)
  clear hK K
  try simp only [Act.put, List.setIfInBounds_toArray, List.set_cons_zero, List.set_cons_succ]
  refine wpAnyH_take (i := 13) (oi := { dst := some 156, op := Go.Op.unOp Go.UnOp.not 4 (Go.Operand.tmp 155), type := 4, pos := "law.go:71", after := #[{ on := 12, ground := Go.Ground.data }, { on := 7, ground := Go.Ground.guard }], guard := some (7, true) }) (v := ?v124) rfl (by kernel_rfl) (by kernel_rfl) (by kernel_rfl) (fun _ _ _ h => h) (Or.inl ⟨by kernel_rfl, ?h124⟩) (by assumption) ?r124
  case h124 => (intro w hSw; (try dsimp only at hSw); go_simp; try with_reducible rfl)
  try simp only [Act.put, List.setIfInBounds_toArray, List.set_cons_zero, List.set_cons_succ]
  refine wpAnyH_take (i := 14) (oi := { dst := some 157, op := Go.Op.pick (Go.Operand.tmp 150) (Go.Operand.tmp 156) (Go.Operand.const (Go.Value.bool false)), type := 4, pos := "law.go:71", after := #[{ on := 7, ground := Go.Ground.data }, { on := 13, ground := Go.Ground.data }, { on := 5, ground := Go.Ground.guard }], guard := some (5, false) }) (v := ?v125) rfl (by kernel_rfl) (by kernel_rfl) (by kernel_rfl) (fun _ _ _ h => h) (Or.inl ⟨by kernel_rfl, ?h125⟩) (by assumption) ?r125
  case h125 => (intro w hSw; (try dsimp only at hSw); go_simp; try with_reducible rfl)
  try simp only [Act.put, List.setIfInBounds_toArray, List.set_cons_zero, List.set_cons_succ]
  refine wpAnyH_take (i := 15) (oi := { dst := some 158, op := Go.Op.pick (Go.Operand.tmp 148) (Go.Operand.const (Go.Value.bool true)) (Go.Operand.tmp 157), type := 4, pos := "law.go:71", after := #[{ on := 5, ground := Go.Ground.data }, { on := 14, ground := Go.Ground.data }], guard := none }) (v := ?v126) rfl (by kernel_rfl) (by kernel_rfl) (by kernel_rfl) (fun _ _ _ h => h) (Or.inl ⟨by kernel_rfl, ?h126⟩) (by assumption) ?r126
  case h126 => (intro w hSw; (try dsimp only at hSw); go_simp; try with_reducible rfl)
  try simp only [Act.put, List.setIfInBounds_toArray, List.set_cons_zero, List.set_cons_succ]
  refine wpAnyH_done (by kernel_rfl) ?_ _
  have hB16 := Lib.hid hHeld
  clear hHeld
  go_wp2
  refine wp_drawn_on (fun W => Below v6.heap.size v6 W) (by kernel_rfl) (below_drew hB16.out) (fun hHeld => ?_)
  refine wpAnyH_take (i := 0) (oi := { dst := some 159, op := Go.Op.move (Go.Operand.tmp 19), type := 4, pos := "law.go:74", after := #[], guard := none }) (v := ?v127) rfl (by kernel_rfl) (by kernel_rfl) (by kernel_rfl) (fun _ _ _ h => h) (Or.inl ⟨by kernel_rfl, ?h127⟩) (by assumption) ?r127
  case h127 => (intro w hSw; (try dsimp only at hSw); go_simp; try with_reducible rfl)
  try simp only [Act.put, List.setIfInBounds_toArray, List.set_cons_zero, List.set_cons_succ]
  refine wpAnyH_take (i := 1) (oi := { dst := some 160, op := Go.Op.unOp Go.UnOp.not 4 (Go.Operand.tmp 159), type := 4, pos := "law.go:74", after := #[{ on := 0, ground := Go.Ground.data }], guard := none }) (v := ?v128) rfl (by kernel_rfl) (by kernel_rfl) (by kernel_rfl) (fun _ _ _ h => h) (Or.inl ⟨by kernel_rfl, ?h128⟩) (by assumption) ?r128
  case h128 => (intro w hSw; (try dsimp only at hSw); go_simp; try with_reducible rfl)
  try simp only [Act.put, List.setIfInBounds_toArray, List.set_cons_zero, List.set_cons_succ]
  refine wpAnyH_take (i := 2) (oi := { dst := some 161, op := Go.Op.move (Go.Operand.tmp 160), type := 4, pos := "law.go:74", after := #[{ on := 1, ground := Go.Ground.data }], guard := none }) (v := ?v129) rfl (by kernel_rfl) (by kernel_rfl) (by kernel_rfl) (fun _ _ _ h => h) (Or.inl ⟨by kernel_rfl, ?h129⟩) (by assumption) ?r129
  case h129 => (intro w hSw; (try dsimp only at hSw); go_simp; try with_reducible rfl)
  try simp only [Act.put, List.setIfInBounds_toArray, List.set_cons_zero, List.set_cons_succ]
  refine wpAnyH_take (i := 3) (oi := { dst := some 162, op := Go.Op.load 24 (Go.Operand.tmp 9), type := 24, pos := "law.go:74", after := #[{ on := 2, ground := Go.Ground.guard }], guard := some (2, false) }) (v := undef) rfl (by kernel_rfl) (by kernel_rfl) (by kernel_rfl) (fun _ _ _ h => h) (Or.inr ⟨by kernel_rfl, rfl⟩) (by assumption) ?_
  try simp only [Act.put, List.setIfInBounds_toArray, List.set_cons_zero, List.set_cons_succ]
  refine wpAnyH_take (i := 4) (oi := { dst := some 163, op := Go.Op.load 24 (Go.Operand.tmp 4), type := 24, pos := "law.go:74", after := #[{ on := 2, ground := Go.Ground.guard }], guard := some (2, false) }) (v := undef) rfl (by kernel_rfl) (by kernel_rfl) (by kernel_rfl) (fun _ _ _ h => h) (Or.inr ⟨by kernel_rfl, rfl⟩) (by assumption) ?_
  try simp only [Act.put, List.setIfInBounds_toArray, List.set_cons_zero, List.set_cons_succ]
  refine wpAnyH_take (i := 5) (oi := { dst := some 164, op := Go.Op.move (Go.Operand.tmp 1), type := 3, pos := "law.go:74", after := #[{ on := 2, ground := Go.Ground.guard }], guard := some (2, false) }) (v := undef) rfl (by kernel_rfl) (by kernel_rfl) (by kernel_rfl) (fun _ _ _ h => h) (Or.inr ⟨by kernel_rfl, rfl⟩) (by assumption) ?_
  try simp only [Act.put, List.setIfInBounds_toArray, List.set_cons_zero, List.set_cons_succ]
  refine wpAnyH_take (i := 6) (oi := { dst := some 165, op := Go.Op.move (Go.Operand.tmp 2), type := 3, pos := "law.go:74", after := #[{ on := 2, ground := Go.Ground.guard }], guard := some (2, false) }) (v := undef) rfl (by kernel_rfl) (by kernel_rfl) (by kernel_rfl) (fun _ _ _ h => h) (Or.inr ⟨by kernel_rfl, rfl⟩) (by assumption) ?_
  try simp only [Act.put, List.setIfInBounds_toArray, List.set_cons_zero, List.set_cons_succ]
  refine wpAnyH_take (i := 7) (oi := { dst := some 166, op := Go.Op.move (Go.Operand.tmp 3), type := 3, pos := "law.go:74", after := #[{ on := 2, ground := Go.Ground.guard }], guard := some (2, false) }) (v := undef) rfl (by kernel_rfl) (by kernel_rfl) (by kernel_rfl) (fun _ _ _ h => h) (Or.inr ⟨by kernel_rfl, rfl⟩) (by assumption) ?_
  try simp only [Act.put, List.setIfInBounds_toArray, List.set_cons_zero, List.set_cons_succ]
  refine wpAnyH_take (i := 8) (oi := { dst := some 167, op := Go.Op.call { callee := Go.Callee.value (Go.Operand.func 30), args := #[Go.Operand.tmp 163, Go.Operand.tmp 164, Go.Operand.tmp 165, Go.Operand.tmp 166], argTypes := #[24, 3, 3, 3] }, type := 24, pos := "law.go:74", after := #[{ on := 4, ground := Go.Ground.data }, { on := 5, ground := Go.Ground.data }, { on := 6, ground := Go.Ground.data }, { on := 7, ground := Go.Ground.data }, { on := 2, ground := Go.Ground.chain }, { on := 2, ground := Go.Ground.guard }], guard := some (2, false) }) (v := undef) rfl (by kernel_rfl) (by kernel_rfl) (by kernel_rfl) (fun _ _ _ h => h) (Or.inr ⟨by kernel_rfl, rfl⟩) (by assumption) ?_
  try simp only [Act.put, List.setIfInBounds_toArray, List.set_cons_zero, List.set_cons_succ]
  refine wpAnyH_take (i := 9) (oi := { dst := some 168, op := Go.Op.call { callee := Go.Callee.value (Go.Operand.func 16), args := #[Go.Operand.tmp 162, Go.Operand.tmp 167], argTypes := #[24, 24] }, type := 4, pos := "law.go:74", after := #[{ on := 3, ground := Go.Ground.data }, { on := 8, ground := Go.Ground.data }, { on := 8, ground := Go.Ground.chain }, { on := 2, ground := Go.Ground.guard }], guard := some (2, false) }) (v := undef) rfl (by kernel_rfl) (by kernel_rfl) (by kernel_rfl) (fun _ _ _ h => h) (Or.inr ⟨by kernel_rfl, rfl⟩) (by assumption) ?_
  try simp only [Act.put, List.setIfInBounds_toArray, List.set_cons_zero, List.set_cons_succ]
  refine wpAnyH_take (i := 10) (oi := { dst := some 169, op := Go.Op.pick (Go.Operand.tmp 161) (Go.Operand.const (Go.Value.bool true)) (Go.Operand.tmp 168), type := 4, pos := "law.go:74", after := #[{ on := 2, ground := Go.Ground.data }, { on := 9, ground := Go.Ground.data }], guard := none }) (v := ?v137) rfl (by kernel_rfl) (by kernel_rfl) (by kernel_rfl) (fun _ _ _ h => h) (Or.inl ⟨by kernel_rfl, ?h137⟩) (by assumption) ?r137
  case h137 => (intro w hSw; (try dsimp only at hSw); go_simp; try with_reducible rfl)
  try simp only [Act.put, List.setIfInBounds_toArray, List.set_cons_zero, List.set_cons_succ]
  refine wpAnyH_take (i := 11) (oi := { dst := some 170, op := Go.Op.move (Go.Operand.tmp 169), type := 4, pos := "law.go:74", after := #[{ on := 10, ground := Go.Ground.data }, { on := 9, ground := Go.Ground.chain }], guard := none }) (v := ?v138) rfl (by kernel_rfl) (by kernel_rfl) (by kernel_rfl) (fun _ _ _ h => h) (Or.inl ⟨by kernel_rfl, ?h138⟩) (by assumption) ?r138
  case h138 => (intro w hSw; (try dsimp only at hSw); go_simp; try with_reducible rfl)
  try simp only [Act.put, List.setIfInBounds_toArray, List.set_cons_zero, List.set_cons_succ]
  refine wpAnyH_take (i := 12) (oi := { dst := some 171, op := Go.Op.move (Go.Operand.tmp 19), type := 4, pos := "law.go:74", after := #[{ on := 11, ground := Go.Ground.guard }], guard := some (11, true) }) (v := ?v139) rfl (by kernel_rfl) (by kernel_rfl) (by kernel_rfl) (fun _ _ _ h => h) (Or.inl ⟨by kernel_rfl, ?h139⟩) (by assumption) ?r139
  case h139 => (intro w hSw; (try dsimp only at hSw); go_simp; try with_reducible rfl)
  try simp only [Act.put, List.setIfInBounds_toArray, List.set_cons_zero, List.set_cons_succ]
  refine wpAnyH_take (i := 13) (oi := { dst := some 172, op := Go.Op.unOp Go.UnOp.not 4 (Go.Operand.tmp 171), type := 4, pos := "law.go:74", after := #[{ on := 12, ground := Go.Ground.data }, { on := 11, ground := Go.Ground.guard }], guard := some (11, true) }) (v := ?v140) rfl (by kernel_rfl) (by kernel_rfl) (by kernel_rfl) (fun _ _ _ h => h) (Or.inl ⟨by kernel_rfl, ?h140⟩) (by assumption) ?r140
  case h140 => (intro w hSw; (try dsimp only at hSw); go_simp; try with_reducible rfl)
  try simp only [Act.put, List.setIfInBounds_toArray, List.set_cons_zero, List.set_cons_succ]
  refine wpAnyH_take (i := 14) (oi := { dst := some 173, op := Go.Op.move (Go.Operand.tmp 172), type := 4, pos := "law.go:74", after := #[{ on := 13, ground := Go.Ground.data }, { on := 11, ground := Go.Ground.chain }, { on := 11, ground := Go.Ground.guard }], guard := some (11, true) }) (v := ?v141) rfl (by kernel_rfl) (by kernel_rfl) (by kernel_rfl) (fun _ _ _ h => h) (Or.inl ⟨by kernel_rfl, ?h141⟩) (by assumption) ?r141
  case h141 => (intro w hSw; (try dsimp only at hSw); go_simp; try with_reducible rfl)
  try simp only [Act.put, List.setIfInBounds_toArray, List.set_cons_zero, List.set_cons_succ]
  refine wpAnyH_take (i := 15) (oi := { dst := some 174, op := Go.Op.move (Go.Operand.tmp 17), type := 4, pos := "law.go:74", after := #[{ on := 14, ground := Go.Ground.guard }], guard := some (14, false) }) (v := undef) rfl (by kernel_rfl) (by kernel_rfl) (by kernel_rfl) (fun _ _ _ h => h) (Or.inr ⟨by kernel_rfl, rfl⟩) (by assumption) ?_
  try simp only [Act.put, List.setIfInBounds_toArray, List.set_cons_zero, List.set_cons_succ]
  refine wpAnyH_take (i := 16) (oi := { dst := some 175, op := Go.Op.unOp Go.UnOp.not 4 (Go.Operand.tmp 174), type := 4, pos := "law.go:74", after := #[{ on := 15, ground := Go.Ground.data }, { on := 14, ground := Go.Ground.guard }], guard := some (14, false) }) (v := undef) rfl (by kernel_rfl) (by kernel_rfl) (by kernel_rfl) (fun _ _ _ h => h) (Or.inr ⟨by kernel_rfl, rfl⟩) (by assumption) ?_
  try simp only [Act.put, List.setIfInBounds_toArray, List.set_cons_zero, List.set_cons_succ]
  refine wpAnyH_take (i := 17) (oi := { dst := some 176, op := Go.Op.pick (Go.Operand.tmp 173) (Go.Operand.const (Go.Value.bool true)) (Go.Operand.tmp 175), type := 4, pos := "law.go:74", after := #[{ on := 14, ground := Go.Ground.data }, { on := 16, ground := Go.Ground.data }, { on := 11, ground := Go.Ground.guard }], guard := some (11, true) }) (v := ?v144) rfl (by kernel_rfl) (by kernel_rfl) (by kernel_rfl) (fun _ _ _ h => h) (Or.inl ⟨by kernel_rfl, ?h144⟩) (by assumption) ?r144
  case h144 => (intro w hSw; (try dsimp only at hSw); go_simp; try with_reducible rfl)
  try simp only [Act.put, List.setIfInBounds_toArray, List.set_cons_zero, List.set_cons_succ]
  refine wpAnyH_take (i := 18) (oi := { dst := some 177, op := Go.Op.move (Go.Operand.tmp 176), type := 4, pos := "law.go:74", after := #[{ on := 17, ground := Go.Ground.data }, { on := 14, ground := Go.Ground.chain }, { on := 11, ground := Go.Ground.guard }], guard := some (11, true) }) (v := ?v145) rfl (by kernel_rfl) (by kernel_rfl) (by kernel_rfl) (fun _ _ _ h => h) (Or.inl ⟨by kernel_rfl, ?h145⟩) (by assumption) ?r145
  case h145 => (intro w hSw; (try dsimp only at hSw); go_simp; try with_reducible rfl)
  try simp only [Act.put, List.setIfInBounds_toArray, List.set_cons_zero, List.set_cons_succ]
  refine wpAnyH_take (i := 19) (oi := { dst := some 178, op := Go.Op.load 24 (Go.Operand.tmp 13), type := 24, pos := "law.go:74", after := #[{ on := 18, ground := Go.Ground.guard }], guard := some (18, false) }) (v := undef) rfl (by kernel_rfl) (by kernel_rfl) (by kernel_rfl) (fun _ _ _ h => h) (Or.inr ⟨by kernel_rfl, rfl⟩) (by assumption) ?_
  try simp only [Act.put, List.setIfInBounds_toArray, List.set_cons_zero, List.set_cons_succ]
  refine wpAnyH_take (i := 20) (oi := { dst := some 179, op := Go.Op.load 24 (Go.Operand.tmp 4), type := 24, pos := "law.go:74", after := #[{ on := 18, ground := Go.Ground.guard }], guard := some (18, false) }) (v := undef) rfl (by kernel_rfl) (by kernel_rfl) (by kernel_rfl) (fun _ _ _ h => h) (Or.inr ⟨by kernel_rfl, rfl⟩) (by assumption) ?_
  try simp only [Act.put, List.setIfInBounds_toArray, List.set_cons_zero, List.set_cons_succ]
  refine wpAnyH_take (i := 21) (oi := { dst := some 180, op := Go.Op.move (Go.Operand.tmp 1), type := 3, pos := "law.go:74", after := #[{ on := 18, ground := Go.Ground.guard }], guard := some (18, false) }) (v := undef) rfl (by kernel_rfl) (by kernel_rfl) (by kernel_rfl) (fun _ _ _ h => h) (Or.inr ⟨by kernel_rfl, rfl⟩) (by assumption) ?_
  try simp only [Act.put, List.setIfInBounds_toArray, List.set_cons_zero, List.set_cons_succ]
  refine wpAnyH_take (i := 22) (oi := { dst := some 181, op := Go.Op.move (Go.Operand.tmp 2), type := 3, pos := "law.go:74", after := #[{ on := 18, ground := Go.Ground.guard }], guard := some (18, false) }) (v := undef) rfl (by kernel_rfl) (by kernel_rfl) (by kernel_rfl) (fun _ _ _ h => h) (Or.inr ⟨by kernel_rfl, rfl⟩) (by assumption) ?_
  try simp only [Act.put, List.setIfInBounds_toArray, List.set_cons_zero, List.set_cons_succ]
  refine wpAnyH_take (i := 23) (oi := { dst := some 182, op := Go.Op.move (Go.Operand.tmp 3), type := 3, pos := "law.go:74", after := #[{ on := 18, ground := Go.Ground.guard }], guard := some (18, false) }) (v := undef) rfl (by kernel_rfl) (by kernel_rfl) (by kernel_rfl) (fun _ _ _ h => h) (Or.inr ⟨by kernel_rfl, rfl⟩) (by assumption) ?_
  try simp only [Act.put, List.setIfInBounds_toArray, List.set_cons_zero, List.set_cons_succ]
  refine wpAnyH_take (i := 24) (oi := { dst := some 183, op := Go.Op.call { callee := Go.Callee.value (Go.Operand.func 31), args := #[Go.Operand.tmp 179, Go.Operand.tmp 180, Go.Operand.tmp 181, Go.Operand.tmp 182], argTypes := #[24, 3, 3, 3] }, type := 24, pos := "law.go:74", after := #[{ on := 20, ground := Go.Ground.data }, { on := 21, ground := Go.Ground.data }, { on := 22, ground := Go.Ground.data }, { on := 23, ground := Go.Ground.data }, { on := 18, ground := Go.Ground.chain }, { on := 18, ground := Go.Ground.guard }], guard := some (18, false) }) (v := undef) rfl (by kernel_rfl) (by kernel_rfl) (by kernel_rfl) (fun _ _ _ h => h) (Or.inr ⟨by kernel_rfl, rfl⟩) (by assumption) ?_
  try simp only [Act.put, List.setIfInBounds_toArray, List.set_cons_zero, List.set_cons_succ]
  refine wpAnyH_take (i := 25) (oi := { dst := some 184, op := Go.Op.call { callee := Go.Callee.value (Go.Operand.func 16), args := #[Go.Operand.tmp 178, Go.Operand.tmp 183], argTypes := #[24, 24] }, type := 4, pos := "law.go:74", after := #[{ on := 19, ground := Go.Ground.data }, { on := 24, ground := Go.Ground.data }, { on := 24, ground := Go.Ground.chain }, { on := 18, ground := Go.Ground.guard }], guard := some (18, false) }) (v := undef) rfl (by kernel_rfl) (by kernel_rfl) (by kernel_rfl) (fun _ _ _ h => h) (Or.inr ⟨by kernel_rfl, rfl⟩) (by assumption) ?_
  try simp only [Act.put, List.setIfInBounds_toArray, List.set_cons_zero, List.set_cons_succ]
  refine wpAnyH_take (i := 26) (oi := { dst := some 185, op := Go.Op.pick (Go.Operand.tmp 177) (Go.Operand.const (Go.Value.bool true)) (Go.Operand.tmp 184), type := 4, pos := "law.go:74", after := #[{ on := 18, ground := Go.Ground.data }, { on := 25, ground := Go.Ground.data }, { on := 11, ground := Go.Ground.guard }], guard := some (11, true) }) (v := ?v153) rfl (by kernel_rfl) (by kernel_rfl) (by kernel_rfl) (fun _ _ _ h => h) (Or.inl ⟨by kernel_rfl, ?h153⟩) (by assumption) ?r153
  case h153 => (intro w hSw; (try dsimp only at hSw); go_simp; try with_reducible rfl)
  try simp only [Act.put, List.setIfInBounds_toArray, List.set_cons_zero, List.set_cons_succ]
  refine wpAnyH_take (i := 27) (oi := { dst := some 186, op := Go.Op.pick (Go.Operand.tmp 170) (Go.Operand.tmp 185) (Go.Operand.const (Go.Value.bool false)), type := 4, pos := "law.go:74", after := #[{ on := 11, ground := Go.Ground.data }, { on := 26, ground := Go.Ground.data }], guard := none }) (v := ?v154) rfl (by kernel_rfl) (by kernel_rfl) (by kernel_rfl) (fun _ _ _ h => h) (Or.inl ⟨by kernel_rfl, ?h154⟩) (by assumption) ?r154
  case h154 => (intro w hSw; (try dsimp only at hSw); go_simp; try with_reducible rfl)
  try simp only [Act.put, List.setIfInBounds_toArray, List.set_cons_zero, List.set_cons_succ]
  refine wpAnyH_take (i := 28) (oi := { dst := some 8, op := Go.Op.assign (Go.Operand.tmp 186), type := 4, pos := "law.go:74", after := #[{ on := 27, ground := Go.Ground.data }, { on := 25, ground := Go.Ground.chain }, { on := 0, ground := Go.Ground.phase }, { on := 1, ground := Go.Ground.phase }, { on := 2, ground := Go.Ground.phase }, { on := 3, ground := Go.Ground.phase }, { on := 4, ground := Go.Ground.phase }, { on := 5, ground := Go.Ground.phase }, { on := 6, ground := Go.Ground.phase }, { on := 7, ground := Go.Ground.phase }, { on := 8, ground := Go.Ground.phase }, { on := 9, ground := Go.Ground.phase }, { on := 10, ground := Go.Ground.phase }, { on := 11, ground := Go.Ground.phase }, { on := 12, ground := Go.Ground.phase }, { on := 13, ground := Go.Ground.phase }, { on := 14, ground := Go.Ground.phase }, { on := 15, ground := Go.Ground.phase }, { on := 16, ground := Go.Ground.phase }, { on := 17, ground := Go.Ground.phase }, { on := 18, ground := Go.Ground.phase }, { on := 19, ground := Go.Ground.phase }, { on := 20, ground := Go.Ground.phase }, { on := 21, ground := Go.Ground.phase }, { on := 22, ground := Go.Ground.phase }, { on := 23, ground := Go.Ground.phase }, { on := 24, ground := Go.Ground.phase }, { on := 25, ground := Go.Ground.phase }, { on := 26, ground := Go.Ground.phase }, { on := 27, ground := Go.Ground.phase }], guard := none }) (v := ?v155) rfl (by kernel_rfl) (by kernel_rfl) (by kernel_rfl) (fun _ _ _ h => h) (Or.inl ⟨by kernel_rfl, ?h155⟩) (by assumption) ?r155
  case h155 => (intro w hSw; (try dsimp only at hSw); go_simp; try with_reducible rfl)
  try simp only [Act.put, List.setIfInBounds_toArray, List.set_cons_zero, List.set_cons_succ]
  refine wpAnyH_done (by kernel_rfl) ?_ _
  have bf := Lib.hid (ht.out _ hHeld)
  go_wp2
  go_ret
  exact ⟨rfl, bf.out⟩
set_option maxRecDepth 100000 in
set_option maxHeartbeats 4000000 in
theorem one_vj (n i : Nat) (j : Nat) (hj : j ≤ n) (c : Int) (a : Option Addr) (m ca : Nat) (l : List Int) (w : World) (h : SL w a m ca l) (hs : ¬ 200 < m) (hz : IsZ n l) (hi : i ≤ n) (hi0 : 1 ≤ i) : Calls Try.prog 4 #[.agg #[.int .i64 n, .slice a m ca], .int .i64 i, .int .i64 j, .int .i64 c] w (Gives (.bool true) w) := by
  obtain ⟨W1, hW1⟩ : ∃ W1, W1 = w.alloc (.cells #[.int .i64 n, .slice a m ca] 24) := ⟨_, rfl⟩
  have X1 : Bz w W1 (.int .i64 n) (.slice a m ca) := by rw [hW1]; exact bz_new _ _ _
  have hW1' := Lib.hid hW1
  have H1 := Lib.hid h
  have X := Lib.hid X1
  have k1 := X1.z1.cell 1
  have hk := hz.check
  have hl1 := Lib.hid (large_any a m ca h.max W1)
  rw [decide_eq_false (show ¬ (200 : Int) < (m : Int) by omega)] at hl1
  have z1 : IsZ n (limitL n l i j c) := stepL_isz hz.1 _ _
  obtain ⟨m1, hm1⟩ : ∃ x, x = (limitL n l i j c).length := ⟨_, rfl⟩
  have r1 : m1 ≤ 81 := by rw [hm1]; exact z1.small
  have Q1 := Lib.hid (fun W (hW : Below w.heap.size w W) => (zlimit_ok n l hz i j hi hj c a m ca W (H1.out.below hW)).mono (fun e w' h => ends_of (m := m1) hm1.symm (by omega) h))
  have P1 := Lib.hid (fun W (hW : Below w.heap.size w W) => (rlim_any n l hz i j hi hj c a m ca W (H1.out.below hW)).mono (fun e w' h => h.r))
  have z2 : IsZ n (forgetL n l i) := stepL_isz hz.1 _ _
  obtain ⟨m2, hm2⟩ : ∃ x, x = (forgetL n l i).length := ⟨_, rfl⟩
  have r2 : m2 ≤ 81 := by rw [hm2]; exact z2.small
  have Q2 := Lib.hid (fun W (hW : Below w.heap.size w W) => (zforget_ok n l hz i hi0 hi a m ca W (H1.out.below hW)).mono (fun e w' h => ends_of (m := m2) hm2.symm (by omega) h))
  have P2 := Lib.hid (fun W (hW : Below w.heap.size w W) => (rfor_any n l hz i hi a m ca W (H1.out.below hW)).mono (fun e w' h => h.r))
  have z3 : IsZ n (letL n l i j c) := letL_isz hz.1 _ _ _ _
  obtain ⟨m3, hm3⟩ : ∃ x, x = (letL n l i j c).length := ⟨_, rfl⟩
  have r3 : m3 ≤ 81 := by rw [hm3]; exact z3.small
  have Q3 := Lib.hid (fun W (hW : Below w.heap.size w W) => (zlet_ok n l hz i j hi0 hi hj c a m ca W (H1.out.below hW)).mono (fun e w' h => ends_of (m := m3) hm3.symm (by omega) h))
  have P3 := Lib.hid (fun W (hW : Below w.heap.size w W) => (rlet_any n l hz i j hi0 hi hj c a m ca W (H1.out.below hW)).mono (fun e w' h => h.r))
  have Q4 := Lib.hid (fun W (hW : Below w.heap.size w W) => zitv_ok n i hi l hz a m ca W (H1.out.below hW))
  have P4 := Lib.hid (fun W (hW : Below w.heap.size w W) => ritv_ok n i hi l hz a m ca W (H1.out.below hW))
  have Q5 := Lib.hid (fun W (hW : Below w.heap.size w W) => rcheck_any n a m ca l W (H1.out.below hW))
  rw [hk] at Q5
  have R1 := Lib.hid (fun W => rvar_any n i a m ca W)
  have R2 := Lib.hid (fun W => ror0_any n i a m ca W)
  have R3 := Lib.hid (fun W => ror0_any n j a m ca W)
  rw [show (decide (1 ≤ (i : Int)) && decide ((i : Int) ≤ (n : Int))) = true by simp; omega] at R1
  rw [show (decide (0 ≤ (i : Int)) && decide ((i : Int) ≤ (n : Int))) = true by simp; omega] at R2
  rw [show (decide (0 ≤ (j : Int)) && decide ((j : Int) ≤ (n : Int))) = true by simp; omega] at R3
  clear hW1 X1 h H1 hk hz hi hi0 hj z1 hm1 z2 hm2 z3 hm3
  generalize letL n l i j c = L3 at *
  generalize forgetL n l i = L2 at *
  generalize limitL n l i j c = L1 at *
  generalize (itvL n l i).1 = x4 at *
  generalize (itvL n l i).2 = y4 at *
  go_enter Try.func4, Try.ntmps4
  go_wp2_with fail
  rw [← hW1'.out]
  refine hl1.out.mono ?_
  rintro e w1 ⟨rfl, rfl⟩
  clear hl1 hW1' k1
  have k0 := X.out.z1.cell 0
  have k1 := X.out.z1.cell 1
  have q := Lib.hid (Q1.out _ X.out.bl)
  go_wp2_with fail
  refine q.out.mono ?_
  rintro e v1 ⟨a1, c1, rfl, s1, b1⟩
  clear q Q1 k0 k1
  have k0 : v1.cell? ⟨w.heap.size, 0, none⟩ = some (.int .i64 n) := (X.out.z1.below b1 X.out.z1.lt).cell 0
  have k1 : v1.cell? ⟨w.heap.size, 1, none⟩ = some (.slice a m ca) := (X.out.z1.below b1 X.out.z1.lt).cell 1
  have k2 : w.heap.size < v1.heap.size := (X.out.z1.below b1 X.out.z1.lt).lt
  have B0 := box_below v1 #[.int .i64 n, .slice a1 m1 c1] 24
  have B := b1.trans (B0.mono b1.size)
  replace X := Lib.hid (X.out.on B)
  have Z1 := Lib.hid (Holds.new v1 24 #[.int .i64 n, .slice a1 m1 c1])
  have S1 := Lib.hid (s1.below B0)
  clear b1 s1 B B0
  have q := Lib.hid (Q2.out _ X.out.bl)
  go_wp2_with fail
  refine q.out.mono ?_
  rintro e v2 ⟨a2, c2, rfl, s2, b2⟩
  clear q Q2 k0 k1 k2
  have k0 : v2.cell? ⟨w.heap.size, 0, none⟩ = some (.int .i64 n) := (X.out.z1.below b2 X.out.z1.lt).cell 0
  have k1 : v2.cell? ⟨w.heap.size, 1, none⟩ = some (.slice a m ca) := (X.out.z1.below b2 X.out.z1.lt).cell 1
  have k2 : w.heap.size < v2.heap.size := (X.out.z1.below b2 X.out.z1.lt).lt
  have B0 := box_below v2 #[.int .i64 n, .slice a2 m2 c2] 24
  have B := b2.trans (B0.mono b2.size)
  replace X := Lib.hid (X.out.on B)
  replace Z1 := Lib.hid (Z1.out.below B Z1.out.lt)
  replace S1 := Lib.hid (S1.out.below B)
  have Z2 := Lib.hid (Holds.new v2 24 #[.int .i64 n, .slice a2 m2 c2])
  have S2 := Lib.hid (s2.below B0)
  clear b2 s2 B B0
  have q := Lib.hid (Q3.out _ X.out.bl)
  go_wp2_with fail
  refine q.out.mono ?_
  rintro e v3 ⟨a3, c3, rfl, s3, b3⟩
  clear q Q3 k0 k1 k2
  have k0 : v3.cell? ⟨w.heap.size, 0, none⟩ = some (.int .i64 n) := (X.out.z1.below b3 X.out.z1.lt).cell 0
  have k1 : v3.cell? ⟨w.heap.size, 1, none⟩ = some (.slice a m ca) := (X.out.z1.below b3 X.out.z1.lt).cell 1
  have k2 : w.heap.size < v3.heap.size := (X.out.z1.below b3 X.out.z1.lt).lt
  have B0 := box_below v3 #[.int .i64 n, .slice a3 m3 c3] 24
  have B := b3.trans (B0.mono b3.size)
  replace X := Lib.hid (X.out.on B)
  replace Z1 := Lib.hid (Z1.out.below B Z1.out.lt)
  replace Z2 := Lib.hid (Z2.out.below B Z2.out.lt)
  replace S1 := Lib.hid (S1.out.below B)
  replace S2 := Lib.hid (S2.out.below B)
  have Z3 := Lib.hid (Holds.new v3 24 #[.int .i64 n, .slice a3 m3 c3])
  have S3 := Lib.hid (s3.below B0)
  clear b3 s3 B B0
  have q := Lib.hid (Q4.out _ X.out.bl)
  go_wp2_with fail
  refine q.out.mono ?_
  rintro e v4 ⟨rfl, b4⟩
  clear q Q4 k0 k1 k2
  have B := b4.trans ((box_below v4 #[.int .i64 x4, .int .i64 y4] 38).mono b4.size)
  replace X := Lib.hid (X.out.on B)
  replace Z1 := Lib.hid (Z1.out.below B Z1.out.lt)
  replace Z2 := Lib.hid (Z2.out.below B Z2.out.lt)
  replace Z3 := Lib.hid (Z3.out.below B Z3.out.lt)
  replace S1 := Lib.hid (S1.out.below B)
  replace S2 := Lib.hid (S2.out.below B)
  replace S3 := Lib.hid (S3.out.below B)
  have Z4 := Lib.hid (Holds.new v4 38 #[.int .i64 x4, .int .i64 y4])
  clear b4 B
  have hlv := Lib.hid (zlivesAt w _ X.out.bl)
  go_wp2_with fail
  refine hlv.out.mono ?_
  rintro e v5 ⟨rfl, b5, -⟩
  replace X := Lib.hid (X.out.on b5)
  replace Z1 := Lib.hid (Z1.out.below b5 Z1.out.lt)
  replace Z2 := Lib.hid (Z2.out.below b5 Z2.out.lt)
  replace Z3 := Lib.hid (Z3.out.below b5 Z3.out.lt)
  replace Z4 := Lib.hid (Z4.out.below b5 Z4.out.lt)
  replace S1 := Lib.hid (S1.out.below b5)
  replace S2 := Lib.hid (S2.out.below b5)
  replace S3 := Lib.hid (S3.out.below b5)
  clear b5 hlv
  have k0 := X.out.z1.cell 0
  have k1 := X.out.z1.cell 1
  have q := Lib.hid (Q5.out _ X.out.bl)
  go_wp2_with fail
  refine q.out.mono ?_
  rintro e v6 ⟨rfl, b6⟩
  replace X := Lib.hid (X.out.on b6)
  replace Z1 := Lib.hid (Z1.out.below b6 Z1.out.lt)
  replace Z2 := Lib.hid (Z2.out.below b6 Z2.out.lt)
  replace Z3 := Lib.hid (Z3.out.below b6 Z3.out.lt)
  replace Z4 := Lib.hid (Z4.out.below b6 Z4.out.lt)
  replace S1 := Lib.hid (S1.out.below b6)
  replace S2 := Lib.hid (S2.out.below b6)
  replace S3 := Lib.hid (S3.out.below b6)
  clear b6 q k0 k1 Q5
  have g0 : ∀ W, Below v6.heap.size v6 W → W.cell? ⟨w.heap.size, 0, none⟩ = some (.int .i64 n) := fun W hW => (X.out.z1.below hW X.out.z1.lt).cell 0
  have g1 : ∀ W, Below v6.heap.size v6 W → W.cell? ⟨w.heap.size, 1, none⟩ = some (.slice a m ca) := fun W hW => (X.out.z1.below hW X.out.z1.lt).cell 1
  have i0 : ∀ W, Below v6.heap.size v6 W → W.cell? ⟨v4.heap.size, 0, none⟩ = some (.int .i64 x4) := fun W hW => (Z4.out.below hW Z4.out.lt).cell 0
  have i1 : ∀ W, Below v6.heap.size v6 W → W.cell? ⟨v4.heap.size, 1, none⟩ = some (.int .i64 y4) := fun W hW => (Z4.out.below hW Z4.out.lt).cell 1
  have d10 : ∀ W, Below v6.heap.size v6 W → W.cell? ⟨v1.heap.size, 0, none⟩ = some (.int .i64 n) := fun W hW => (Z1.out.below hW Z1.out.lt).cell 0
  have d11 : ∀ W, Below v6.heap.size v6 W → W.cell? ⟨v1.heap.size, 1, none⟩ = some (.slice a1 m1 c1) := fun W hW => (Z1.out.below hW Z1.out.lt).cell 1
  have d20 : ∀ W, Below v6.heap.size v6 W → W.cell? ⟨v2.heap.size, 0, none⟩ = some (.int .i64 n) := fun W hW => (Z2.out.below hW Z2.out.lt).cell 0
  have d21 : ∀ W, Below v6.heap.size v6 W → W.cell? ⟨v2.heap.size, 1, none⟩ = some (.slice a2 m2 c2) := fun W hW => (Z2.out.below hW Z2.out.lt).cell 1
  have d30 : ∀ W, Below v6.heap.size v6 W → W.cell? ⟨v3.heap.size, 0, none⟩ = some (.int .i64 n) := fun W hW => (Z3.out.below hW Z3.out.lt).cell 0
  have d31 : ∀ W, Below v6.heap.size v6 W → W.cell? ⟨v3.heap.size, 1, none⟩ = some (.slice a3 m3 c3) := fun W hW => (Z3.out.below hW Z3.out.lt).cell 1
  have ht : Hid (∀ W, Below v6.heap.size v6 W → Below w.heap.size w W) := Lib.hid (fun W hW => X.out.bl.trans (hW.mono X.out.bl.size))
  go_wp2
  refine wp_drawn_on (fun W => Below v6.heap.size v6 W) (by kernel_rfl) (below_drew (Below.refl _ _)) (fun hHeld => ?_)
  refine wpAnyH_take (i := 0) (oi := { dst := some 90, op := Go.Op.load 24 (Go.Operand.tmp 4), type := 24, pos := "law.go:64", after := #[], guard := none }) (v := ?v156) rfl (by kernel_rfl) (by kernel_rfl) (by kernel_rfl) (fun _ _ _ h => h) (Or.inl ⟨by kernel_rfl, ?h156⟩) (by assumption) ?r156
  case h156 => (intro w hSw; (try dsimp only at hSw); go_simp; try with_reducible rfl)
  try simp only [Act.put, List.setIfInBounds_toArray, List.set_cons_zero, List.set_cons_succ]
  refine wpAnyH_take (i := 1) (oi := { dst := some 91, op := Go.Op.move (Go.Operand.tmp 1), type := 3, pos := "law.go:64", after := #[], guard := none }) (v := ?v157) rfl (by kernel_rfl) (by kernel_rfl) (by kernel_rfl) (fun _ _ _ h => h) (Or.inl ⟨by kernel_rfl, ?h157⟩) (by assumption) ?r157
  case h157 => (intro w hSw; (try dsimp only at hSw); go_simp; try with_reducible rfl)
  try simp only [Act.put, List.setIfInBounds_toArray, List.set_cons_zero, List.set_cons_succ]
  refine wpAnyH_take (i := 3) (oi := { dst := some 93, op := Go.Op.load 24 (Go.Operand.tmp 4), type := 24, pos := "law.go:64", after := #[], guard := none }) (v := ?v158) rfl (by kernel_rfl) (by kernel_rfl) (by kernel_rfl) (fun _ _ _ h => h) (Or.inl ⟨by kernel_rfl, ?h158⟩) (by assumption) ?r158
  case h158 => (intro w hSw; (try dsimp only at hSw); go_simp; try with_reducible rfl)
  try simp only [Act.put, List.setIfInBounds_toArray, List.set_cons_zero, List.set_cons_succ]
  refine wpAnyH_take (i := 4) (oi := { dst := some 94, op := Go.Op.move (Go.Operand.tmp 1), type := 3, pos := "law.go:64", after := #[], guard := none }) (v := ?v159) rfl (by kernel_rfl) (by kernel_rfl) (by kernel_rfl) (fun _ _ _ h => h) (Or.inl ⟨by kernel_rfl, ?h159⟩) (by assumption) ?r159
  case h159 => (intro w hSw; (try dsimp only at hSw); go_simp; try with_reducible rfl)
  try simp only [Act.put, List.setIfInBounds_toArray, List.set_cons_zero, List.set_cons_succ]
  refine wpAnyH_take (i := 6) (oi := { dst := some 96, op := Go.Op.load 24 (Go.Operand.tmp 4), type := 24, pos := "law.go:64", after := #[], guard := none }) (v := ?v160) rfl (by kernel_rfl) (by kernel_rfl) (by kernel_rfl) (fun _ _ _ h => h) (Or.inl ⟨by kernel_rfl, ?h160⟩) (by assumption) ?r160
  case h160 => (intro w hSw; (try dsimp only at hSw); go_simp; try with_reducible rfl)
  try simp only [Act.put, List.setIfInBounds_toArray, List.set_cons_zero, List.set_cons_succ]
  refine wpAnyH_take (i := 7) (oi := { dst := some 97, op := Go.Op.move (Go.Operand.tmp 2), type := 3, pos := "law.go:64", after := #[], guard := none }) (v := ?v161) rfl (by kernel_rfl) (by kernel_rfl) (by kernel_rfl) (fun _ _ _ h => h) (Or.inl ⟨by kernel_rfl, ?h161⟩) (by assumption) ?r161
  case h161 => (intro w hSw; (try dsimp only at hSw); go_simp; try with_reducible rfl)
  try simp only [Act.put, List.setIfInBounds_toArray, List.set_cons_zero, List.set_cons_succ]
  refine wpAnyH_ready (rs := [2]) (by kernel_rfl) (by simp) ?_
  refine AllReadyH.cons (o := { dst := some 92, op := Go.Op.call { callee := Go.Callee.value (Go.Operand.func 26), args := #[Go.Operand.tmp 90, Go.Operand.tmp 91], argTypes := #[24, 3] }, type := 4, pos := "law.go:64", after := #[{ on := 0, ground := Go.Ground.data }, { on := 1, ground := Go.Ground.data }], guard := none }) rfl (fun K hK => ?_) AllReadyH.nil
  go_simp
  refine (R1.out _).mono ?_
  rintro e u2 ⟨rfl, b2⟩
  go_simp
  refine hK.out _ _ (hHeld.trans (b2.mono hHeld.size)) (fun hHeld => ?_)
  clear hK K
  try simp only [Act.put, List.setIfInBounds_toArray, List.set_cons_zero, List.set_cons_succ]
  refine wpAnyH_ready (rs := [5]) (by kernel_rfl) (by simp) ?_
  refine AllReadyH.cons (o := { dst := some 95, op := Go.Op.call { callee := Go.Callee.value (Go.Operand.func 27), args := #[Go.Operand.tmp 93, Go.Operand.tmp 94], argTypes := #[24, 3] }, type := 4, pos := "law.go:64", after := #[{ on := 3, ground := Go.Ground.data }, { on := 4, ground := Go.Ground.data }, { on := 2, ground := Go.Ground.chain }], guard := none }) rfl (fun K hK => ?_) AllReadyH.nil
  go_simp
  refine (R2.out _).mono ?_
  rintro e u2 ⟨rfl, b2⟩
  go_simp
  refine hK.out _ _ (hHeld.trans (b2.mono hHeld.size)) (fun hHeld => ?_)
  clear hK K
  try simp only [Act.put, List.setIfInBounds_toArray, List.set_cons_zero, List.set_cons_succ]
  refine wpAnyH_ready (rs := [8]) (by kernel_rfl) (by simp) ?_
  refine AllReadyH.cons (o := { dst := some 98, op := Go.Op.call { callee := Go.Callee.value (Go.Operand.func 27), args := #[Go.Operand.tmp 96, Go.Operand.tmp 97], argTypes := #[24, 3] }, type := 4, pos := "law.go:64", after := #[{ on := 6, ground := Go.Ground.data }, { on := 7, ground := Go.Ground.data }, { on := 5, ground := Go.Ground.chain }], guard := none }) rfl (fun K hK => ?_) AllReadyH.nil
  go_simp
  refine (R3.out _).mono ?_
  rintro e u2 ⟨rfl, b2⟩
  go_simp
  refine hK.out _ _ (hHeld.trans (b2.mono hHeld.size)) (fun hHeld => ?_)
  clear hK K
  try simp only [Act.put, List.setIfInBounds_toArray, List.set_cons_zero, List.set_cons_succ]
  refine wpAnyH_take (i := 9) (oi := { dst := some 17, op := Go.Op.assign (Go.Operand.tmp 92), type := 4, pos := "law.go:64", after := #[{ on := 2, ground := Go.Ground.data }, { on := 8, ground := Go.Ground.chain }, { on := 0, ground := Go.Ground.phase }, { on := 1, ground := Go.Ground.phase }, { on := 2, ground := Go.Ground.phase }, { on := 3, ground := Go.Ground.textOnly Go.Departure.lateStores }, { on := 4, ground := Go.Ground.textOnly Go.Departure.lateStores }, { on := 5, ground := Go.Ground.textOnly Go.Departure.lateStoresUnsure }, { on := 6, ground := Go.Ground.textOnly Go.Departure.lateStores }, { on := 7, ground := Go.Ground.textOnly Go.Departure.lateStores }, { on := 8, ground := Go.Ground.textOnly Go.Departure.lateStoresUnsure }], guard := none }) (v := ?v162) rfl (by kernel_rfl) (by kernel_rfl) (by kernel_rfl) (fun _ _ _ h => h) (Or.inl ⟨by kernel_rfl, ?h162⟩) (by assumption) ?r162
  case h162 => (intro w hSw; (try dsimp only at hSw); go_simp; try with_reducible rfl)
  try simp only [Act.put, List.setIfInBounds_toArray, List.set_cons_zero, List.set_cons_succ]
  refine wpAnyH_take (i := 10) (oi := { dst := some 18, op := Go.Op.assign (Go.Operand.tmp 95), type := 4, pos := "law.go:64", after := #[{ on := 5, ground := Go.Ground.data }, { on := 9, ground := Go.Ground.chain }, { on := 0, ground := Go.Ground.phase }, { on := 1, ground := Go.Ground.phase }, { on := 2, ground := Go.Ground.phase }, { on := 3, ground := Go.Ground.phase }, { on := 4, ground := Go.Ground.phase }, { on := 5, ground := Go.Ground.phase }, { on := 6, ground := Go.Ground.textOnly Go.Departure.lateStores }, { on := 7, ground := Go.Ground.textOnly Go.Departure.lateStores }, { on := 8, ground := Go.Ground.textOnly Go.Departure.lateStoresUnsure }, { on := 9, ground := Go.Ground.phase }], guard := none }) (v := ?v163) rfl (by kernel_rfl) (by kernel_rfl) (by kernel_rfl) (fun _ _ _ h => h) (Or.inl ⟨by kernel_rfl, ?h163⟩) (by assumption) ?r163
  case h163 => (intro w hSw; (try dsimp only at hSw); go_simp; try with_reducible rfl)
  try simp only [Act.put, List.setIfInBounds_toArray, List.set_cons_zero, List.set_cons_succ]
  refine wpAnyH_take (i := 11) (oi := { dst := some 19, op := Go.Op.assign (Go.Operand.tmp 98), type := 4, pos := "law.go:64", after := #[{ on := 8, ground := Go.Ground.data }, { on := 10, ground := Go.Ground.chain }, { on := 0, ground := Go.Ground.phase }, { on := 1, ground := Go.Ground.phase }, { on := 2, ground := Go.Ground.phase }, { on := 3, ground := Go.Ground.phase }, { on := 4, ground := Go.Ground.phase }, { on := 5, ground := Go.Ground.phase }, { on := 6, ground := Go.Ground.phase }, { on := 7, ground := Go.Ground.phase }, { on := 8, ground := Go.Ground.phase }, { on := 9, ground := Go.Ground.phase }, { on := 10, ground := Go.Ground.phase }], guard := none }) (v := ?v164) rfl (by kernel_rfl) (by kernel_rfl) (by kernel_rfl) (fun _ _ _ h => h) (Or.inl ⟨by kernel_rfl, ?h164⟩) (by assumption) ?r164
  case h164 => (intro w hSw; (try dsimp only at hSw); go_simp; try with_reducible rfl)
  try simp only [Act.put, List.setIfInBounds_toArray, List.set_cons_zero, List.set_cons_succ]
  refine wpAnyH_done (by kernel_rfl) ?_ _
  have hB11 := Lib.hid hHeld
  clear hHeld
  go_wp2
  refine wp_drawn_on (fun W => Below v6.heap.size v6 W) (by kernel_rfl) (below_drew hB11.out) (fun hHeld => ?_)
  refine wpAnyH_take (i := 0) (oi := { dst := some 143, op := Go.Op.load 38 (Go.Operand.tmp 15), type := 38, pos := "law.go:71", after := #[], guard := none }) (v := ?v165) rfl (by kernel_rfl) (by kernel_rfl) (by kernel_rfl) (fun _ _ _ h => h) (Or.inl ⟨by kernel_rfl, ?h165⟩) (by assumption) ?r165
  case h165 => (intro w hSw; (try dsimp only at hSw); go_simp; try with_reducible rfl)
  try simp only [Act.put, List.setIfInBounds_toArray, List.set_cons_zero, List.set_cons_succ]
  refine wpAnyH_take (i := 1) (oi := { dst := some 144, op := Go.Op.load 24 (Go.Operand.tmp 4), type := 24, pos := "law.go:71", after := #[], guard := none }) (v := ?v166) rfl (by kernel_rfl) (by kernel_rfl) (by kernel_rfl) (fun _ _ _ h => h) (Or.inl ⟨by kernel_rfl, ?h166⟩) (by assumption) ?r166
  case h166 => (intro w hSw; (try dsimp only at hSw); go_simp; try with_reducible rfl)
  try simp only [Act.put, List.setIfInBounds_toArray, List.set_cons_zero, List.set_cons_succ]
  refine wpAnyH_take (i := 2) (oi := { dst := some 145, op := Go.Op.move (Go.Operand.tmp 1), type := 3, pos := "law.go:71", after := #[], guard := none }) (v := ?v167) rfl (by kernel_rfl) (by kernel_rfl) (by kernel_rfl) (fun _ _ _ h => h) (Or.inl ⟨by kernel_rfl, ?h167⟩) (by assumption) ?r167
  case h167 => (intro w hSw; (try dsimp only at hSw); go_simp; try with_reducible rfl)
  try simp only [Act.put, List.setIfInBounds_toArray, List.set_cons_zero, List.set_cons_succ]
  refine wpAnyH_ready (rs := [3]) (by kernel_rfl) (by simp) ?_
  refine AllReadyH.cons (o := { dst := some 146, op := Go.Op.call { callee := Go.Callee.value (Go.Operand.func 28), args := #[Go.Operand.tmp 144, Go.Operand.tmp 145], argTypes := #[24, 3] }, type := 38, pos := "law.go:71", after := #[{ on := 1, ground := Go.Ground.data }, { on := 2, ground := Go.Ground.data }], guard := none }) rfl (fun K hK => ?_) AllReadyH.nil
  go_simp
  refine (P4.out _ (ht.out _ hHeld)).mono ?_
  rintro e u2 ⟨rfl, b2⟩
  go_simp
  refine hK.out _ _ (hHeld.trans (b2.mono hHeld.size)) (fun hHeld => ?_)
  clear hK K
  try simp only [Act.put, List.setIfInBounds_toArray, List.set_cons_zero, List.set_cons_succ]
  refine wpAnyH_take (i := 4) (oi := { dst := some 147, op := Go.Op.binOp Go.BinOp.neq 38 (Go.Operand.tmp 143) (Go.Operand.tmp 146) 38, type := 4, pos := "law.go:71", after := #[{ on := 0, ground := Go.Ground.data }, { on := 3, ground := Go.Ground.data }], guard := none }) (v := ?v168) rfl (by kernel_rfl) (by kernel_rfl) (by kernel_rfl) (fun _ _ _ h => h) (Or.inl ⟨by kernel_rfl, ?h168⟩) (by assumption) ?r168
  case h168 => (intro w hSw; (try dsimp only at hSw); go_simp; try with_reducible rfl)
  try simp only [Act.put, List.setIfInBounds_toArray, List.set_cons_zero, List.set_cons_succ]
  refine wpAnyH_take (i := 5) (oi := { dst := some 148, op := Go.Op.move (Go.Operand.tmp 147), type := 4, pos := "law.go:71", after := #[{ on := 4, ground := Go.Ground.data }, { on := 3, ground := Go.Ground.chain }], guard := none }) (v := ?v169) rfl (by kernel_rfl) (by kernel_rfl) (by kernel_rfl) (fun _ _ _ h => h) (Or.inl ⟨by kernel_rfl, ?h169⟩) (by assumption) ?r169
  case h169 => (intro w hSw; (try dsimp only at hSw); go_simp; try with_reducible rfl)
  try simp only [Act.put, List.setIfInBounds_toArray, List.set_cons_zero, List.set_cons_succ]
  refine wpAnyH_take (i := 6) (oi := { dst := some 149, op := Go.Op.move (Go.Operand.tmp 17), type := 4, pos := "law.go:71", after := #[{ on := 5, ground := Go.Ground.guard }], guard := some (5, false) }) (v := ?v170) rfl (by kernel_rfl) (by kernel_rfl) (by kernel_rfl) (fun _ _ _ h => h) (Or.inl ⟨by kernel_rfl, ?h170⟩) (by assumption) ?r170
  case h170 => (intro w hSw; (try dsimp only at hSw); go_simp; try with_reducible rfl)
  try simp only [Act.put, List.setIfInBounds_toArray, List.set_cons_zero, List.set_cons_succ]
  refine wpAnyH_take (i := 7) (oi := { dst := some 150, op := Go.Op.move (Go.Operand.tmp 149), type := 4, pos := "law.go:71", after := #[{ on := 6, ground := Go.Ground.data }, { on := 5, ground := Go.Ground.chain }, { on := 5, ground := Go.Ground.guard }], guard := some (5, false) }) (v := ?v171) rfl (by kernel_rfl) (by kernel_rfl) (by kernel_rfl) (fun _ _ _ h => h) (Or.inl ⟨by kernel_rfl, ?h171⟩) (by assumption) ?r171
  case h171 => (intro w hSw; (try dsimp only at hSw); go_simp; try with_reducible rfl)
  try simp only [Act.put, List.setIfInBounds_toArray, List.set_cons_zero, List.set_cons_succ]
  refine wpAnyH_take (i := 8) (oi := { dst := some 151, op := Go.Op.load 24 (Go.Operand.tmp 11), type := 24, pos := "law.go:71", after := #[{ on := 7, ground := Go.Ground.guard }], guard := some (7, true) }) (v := ?v172) rfl (by kernel_rfl) (by kernel_rfl) (by kernel_rfl) (fun _ _ _ h => h) (Or.inl ⟨by kernel_rfl, ?h172⟩) (by assumption) ?r172
  case h172 => (intro w hSw; (try dsimp only at hSw); go_simp; try with_reducible rfl)
  try simp only [Act.put, List.setIfInBounds_toArray, List.set_cons_zero, List.set_cons_succ]
  refine wpAnyH_take (i := 9) (oi := { dst := some 152, op := Go.Op.load 24 (Go.Operand.tmp 4), type := 24, pos := "law.go:71", after := #[{ on := 7, ground := Go.Ground.guard }], guard := some (7, true) }) (v := ?v173) rfl (by kernel_rfl) (by kernel_rfl) (by kernel_rfl) (fun _ _ _ h => h) (Or.inl ⟨by kernel_rfl, ?h173⟩) (by assumption) ?r173
  case h173 => (intro w hSw; (try dsimp only at hSw); go_simp; try with_reducible rfl)
  try simp only [Act.put, List.setIfInBounds_toArray, List.set_cons_zero, List.set_cons_succ]
  refine wpAnyH_take (i := 10) (oi := { dst := some 153, op := Go.Op.move (Go.Operand.tmp 1), type := 3, pos := "law.go:71", after := #[{ on := 7, ground := Go.Ground.guard }], guard := some (7, true) }) (v := ?v174) rfl (by kernel_rfl) (by kernel_rfl) (by kernel_rfl) (fun _ _ _ h => h) (Or.inl ⟨by kernel_rfl, ?h174⟩) (by assumption) ?r174
  case h174 => (intro w hSw; (try dsimp only at hSw); go_simp; try with_reducible rfl)
  try simp only [Act.put, List.setIfInBounds_toArray, List.set_cons_zero, List.set_cons_succ]
  refine wpAnyH_ready (rs := [11]) (by kernel_rfl) (by simp) ?_
  refine AllReadyH.cons (o := { dst := some 154, op := Go.Op.call { callee := Go.Callee.value (Go.Operand.func 29), args := #[Go.Operand.tmp 152, Go.Operand.tmp 153], argTypes := #[24, 3] }, type := 24, pos := "law.go:71", after := #[{ on := 9, ground := Go.Ground.data }, { on := 10, ground := Go.Ground.data }, { on := 7, ground := Go.Ground.chain }, { on := 7, ground := Go.Ground.guard }], guard := some (7, true) }) rfl (fun K hK => ?_) AllReadyH.nil
  go_simp
  refine (P2.out _ (ht.out _ hHeld)).mono ?_
  rintro e u2 ⟨x9, y9, z9, rfl, s9, b2⟩
  have t9 := Lib.hid (zrself n a2 x9 _ m2 y9 c2 z9 _ (S2.out.below (hHeld.trans (b2.mono hHeld.size))) s9)
  go_simp
  refine hK.out _ _ (hHeld.trans (b2.mono hHeld.size)) (fun hHeld => ?_)
  clear hK K
  try simp only [Act.put, List.setIfInBounds_toArray, List.set_cons_zero, List.set_cons_succ]
  refine wpAnyH_ready (rs := [12]) (by kernel_rfl) (by simp) ?_
  refine AllReadyH.cons (o := { dst := some 155, op := Go.Op.call { callee := Go.Callee.value (Go.Operand.func 16), args := #[Go.Operand.tmp 151, Go.Operand.tmp 154], argTypes := #[24, 24] }, type := 4, pos := "law.go:71", after := #[{ on := 8, ground := Go.Ground.data }, { on := 11, ground := Go.Ground.data }, { on := 11, ground := Go.Ground.chain }, { on := 7, ground := Go.Ground.guard }], guard := some (7, true) }) rfl (fun K hK => ?_) AllReadyH.nil
  go_simp
  refine t9.out.mono ?_
  rintro e u3 ⟨rfl, b3⟩
  go_simp
  refine hK.out _ _ (hHeld.trans (b3.mono hHeld.size)) (fun hHeld => ?_)
  clear hK K
  try simp only [Act.put, List.setIfInBounds_toArray, List.set_cons_zero, List.set_cons_succ]
  refine wpAnyH_take (i := 13) (oi := { dst := some 156, op := Go.Op.unOp Go.UnOp.not 4 (Go.Operand.tmp 155), type := 4, pos := "law.go:71", after := #[{ on := 12, ground := Go.Ground.data }, { on := 7, ground := Go.Ground.guard }], guard := some (7, true) }) (v := ?v175) rfl (by kernel_rfl) (by kernel_rfl) (by kernel_rfl) (fun _ _ _ h => h) (Or.inl ⟨by kernel_rfl, ?h175⟩) (by assumption) ?r175
  case h175 => (intro w hSw; (try dsimp only at hSw); go_simp; try with_reducible rfl)
  try simp only [Act.put, List.setIfInBounds_toArray, List.set_cons_zero, List.set_cons_succ]
  refine wpAnyH_take (i := 14) (oi := { dst := some 157, op := Go.Op.pick (Go.Operand.tmp 150) (Go.Operand.tmp 156) (Go.Operand.const (Go.Value.bool false)), type := 4, pos := "law.go:71", after := #[{ on := 7, ground := Go.Ground.data }, { on := 13, ground := Go.Ground.data }, { on := 5, ground := Go.Ground.guard }], guard := some (5, false) }) (v := ?v176) rfl (by kernel_rfl) (by kernel_rfl) (by kernel_rfl) (fun _ _ _ h => h) (Or.inl ⟨by kernel_rfl, ?h176⟩) (by assumption) ?r176
  case h176 => (intro w hSw; (try dsimp only at hSw); go_simp; try with_reducible rfl)
  try simp only [Act.put, List.setIfInBounds_toArray, List.set_cons_zero, List.set_cons_succ]
  refine wpAnyH_take (i := 15) (oi := { dst := some 158, op := Go.Op.pick (Go.Operand.tmp 148) (Go.Operand.const (Go.Value.bool true)) (Go.Operand.tmp 157), type := 4, pos := "law.go:71", after := #[{ on := 5, ground := Go.Ground.data }, { on := 14, ground := Go.Ground.data }], guard := none }) (v := ?v177) rfl (by kernel_rfl) (by kernel_rfl) (by kernel_rfl) (fun _ _ _ h => h) (Or.inl ⟨by kernel_rfl, ?h177⟩) (by assumption) ?r177
  case h177 => (intro w hSw; (try dsimp only at hSw); go_simp; try with_reducible rfl)
  try simp only [Act.put, List.setIfInBounds_toArray, List.set_cons_zero, List.set_cons_succ]
  refine wpAnyH_done (by kernel_rfl) ?_ _
  have hB16 := Lib.hid hHeld
  clear hHeld
  go_wp2
  refine wp_drawn_on (fun W => Below v6.heap.size v6 W) (by kernel_rfl) (below_drew hB16.out) (fun hHeld => ?_)
  refine wpAnyH_take (i := 0) (oi := { dst := some 159, op := Go.Op.move (Go.Operand.tmp 19), type := 4, pos := "law.go:74", after := #[], guard := none }) (v := ?v178) rfl (by kernel_rfl) (by kernel_rfl) (by kernel_rfl) (fun _ _ _ h => h) (Or.inl ⟨by kernel_rfl, ?h178⟩) (by assumption) ?r178
  case h178 => (intro w hSw; (try dsimp only at hSw); go_simp; try with_reducible rfl)
  try simp only [Act.put, List.setIfInBounds_toArray, List.set_cons_zero, List.set_cons_succ]
  refine wpAnyH_take (i := 1) (oi := { dst := some 160, op := Go.Op.unOp Go.UnOp.not 4 (Go.Operand.tmp 159), type := 4, pos := "law.go:74", after := #[{ on := 0, ground := Go.Ground.data }], guard := none }) (v := ?v179) rfl (by kernel_rfl) (by kernel_rfl) (by kernel_rfl) (fun _ _ _ h => h) (Or.inl ⟨by kernel_rfl, ?h179⟩) (by assumption) ?r179
  case h179 => (intro w hSw; (try dsimp only at hSw); go_simp; try with_reducible rfl)
  try simp only [Act.put, List.setIfInBounds_toArray, List.set_cons_zero, List.set_cons_succ]
  refine wpAnyH_take (i := 2) (oi := { dst := some 161, op := Go.Op.move (Go.Operand.tmp 160), type := 4, pos := "law.go:74", after := #[{ on := 1, ground := Go.Ground.data }], guard := none }) (v := ?v180) rfl (by kernel_rfl) (by kernel_rfl) (by kernel_rfl) (fun _ _ _ h => h) (Or.inl ⟨by kernel_rfl, ?h180⟩) (by assumption) ?r180
  case h180 => (intro w hSw; (try dsimp only at hSw); go_simp; try with_reducible rfl)
  try simp only [Act.put, List.setIfInBounds_toArray, List.set_cons_zero, List.set_cons_succ]
  refine wpAnyH_take (i := 3) (oi := { dst := some 162, op := Go.Op.load 24 (Go.Operand.tmp 9), type := 24, pos := "law.go:74", after := #[{ on := 2, ground := Go.Ground.guard }], guard := some (2, false) }) (v := ?v181) rfl (by kernel_rfl) (by kernel_rfl) (by kernel_rfl) (fun _ _ _ h => h) (Or.inl ⟨by kernel_rfl, ?h181⟩) (by assumption) ?r181
  case h181 => (intro w hSw; (try dsimp only at hSw); go_simp; try with_reducible rfl)
  try simp only [Act.put, List.setIfInBounds_toArray, List.set_cons_zero, List.set_cons_succ]
  refine wpAnyH_take (i := 4) (oi := { dst := some 163, op := Go.Op.load 24 (Go.Operand.tmp 4), type := 24, pos := "law.go:74", after := #[{ on := 2, ground := Go.Ground.guard }], guard := some (2, false) }) (v := ?v182) rfl (by kernel_rfl) (by kernel_rfl) (by kernel_rfl) (fun _ _ _ h => h) (Or.inl ⟨by kernel_rfl, ?h182⟩) (by assumption) ?r182
  case h182 => (intro w hSw; (try dsimp only at hSw); go_simp; try with_reducible rfl)
  try simp only [Act.put, List.setIfInBounds_toArray, List.set_cons_zero, List.set_cons_succ]
  refine wpAnyH_take (i := 5) (oi := { dst := some 164, op := Go.Op.move (Go.Operand.tmp 1), type := 3, pos := "law.go:74", after := #[{ on := 2, ground := Go.Ground.guard }], guard := some (2, false) }) (v := ?v183) rfl (by kernel_rfl) (by kernel_rfl) (by kernel_rfl) (fun _ _ _ h => h) (Or.inl ⟨by kernel_rfl, ?h183⟩) (by assumption) ?r183
  case h183 => (intro w hSw; (try dsimp only at hSw); go_simp; try with_reducible rfl)
  try simp only [Act.put, List.setIfInBounds_toArray, List.set_cons_zero, List.set_cons_succ]
  refine wpAnyH_take (i := 6) (oi := { dst := some 165, op := Go.Op.move (Go.Operand.tmp 2), type := 3, pos := "law.go:74", after := #[{ on := 2, ground := Go.Ground.guard }], guard := some (2, false) }) (v := ?v184) rfl (by kernel_rfl) (by kernel_rfl) (by kernel_rfl) (fun _ _ _ h => h) (Or.inl ⟨by kernel_rfl, ?h184⟩) (by assumption) ?r184
  case h184 => (intro w hSw; (try dsimp only at hSw); go_simp; try with_reducible rfl)
  try simp only [Act.put, List.setIfInBounds_toArray, List.set_cons_zero, List.set_cons_succ]
  refine wpAnyH_take (i := 7) (oi := { dst := some 166, op := Go.Op.move (Go.Operand.tmp 3), type := 3, pos := "law.go:74", after := #[{ on := 2, ground := Go.Ground.guard }], guard := some (2, false) }) (v := ?v185) rfl (by kernel_rfl) (by kernel_rfl) (by kernel_rfl) (fun _ _ _ h => h) (Or.inl ⟨by kernel_rfl, ?h185⟩) (by assumption) ?r185
  case h185 => (intro w hSw; (try dsimp only at hSw); go_simp; try with_reducible rfl)
  try simp only [Act.put, List.setIfInBounds_toArray, List.set_cons_zero, List.set_cons_succ]
  refine wpAnyH_ready (rs := [8]) (by kernel_rfl) (by simp) ?_
  refine AllReadyH.cons (o := { dst := some 167, op := Go.Op.call { callee := Go.Callee.value (Go.Operand.func 30), args := #[Go.Operand.tmp 163, Go.Operand.tmp 164, Go.Operand.tmp 165, Go.Operand.tmp 166], argTypes := #[24, 3, 3, 3] }, type := 24, pos := "law.go:74", after := #[{ on := 4, ground := Go.Ground.data }, { on := 5, ground := Go.Ground.data }, { on := 6, ground := Go.Ground.data }, { on := 7, ground := Go.Ground.data }, { on := 2, ground := Go.Ground.chain }, { on := 2, ground := Go.Ground.guard }], guard := some (2, false) }) rfl (fun K hK => ?_) AllReadyH.nil
  go_simp
  refine (P1.out _ (ht.out _ hHeld)).mono ?_
  rintro e u2 ⟨x9, y9, z9, rfl, s9, b2⟩
  have t9 := Lib.hid (zrself n a1 x9 _ m1 y9 c1 z9 _ (S1.out.below (hHeld.trans (b2.mono hHeld.size))) s9)
  go_simp
  refine hK.out _ _ (hHeld.trans (b2.mono hHeld.size)) (fun hHeld => ?_)
  clear hK K
  try simp only [Act.put, List.setIfInBounds_toArray, List.set_cons_zero, List.set_cons_succ]
  refine wpAnyH_ready (rs := [9]) (by kernel_rfl) (by simp) ?_
  refine AllReadyH.cons (o := { dst := some 168, op := Go.Op.call { callee := Go.Callee.value (Go.Operand.func 16), args := #[Go.Operand.tmp 162, Go.Operand.tmp 167], argTypes := #[24, 24] }, type := 4, pos := "law.go:74", after := #[{ on := 3, ground := Go.Ground.data }, { on := 8, ground := Go.Ground.data }, { on := 8, ground := Go.Ground.chain }, { on := 2, ground := Go.Ground.guard }], guard := some (2, false) }) rfl (fun K hK => ?_) AllReadyH.nil
  go_simp
  refine t9.out.mono ?_
  rintro e u3 ⟨rfl, b3⟩
  go_simp
  refine hK.out _ _ (hHeld.trans (b3.mono hHeld.size)) (fun hHeld => ?_)
  clear hK K
  try simp only [Act.put, List.setIfInBounds_toArray, List.set_cons_zero, List.set_cons_succ]
  refine wpAnyH_take (i := 10) (oi := { dst := some 169, op := Go.Op.pick (Go.Operand.tmp 161) (Go.Operand.const (Go.Value.bool true)) (Go.Operand.tmp 168), type := 4, pos := "law.go:74", after := #[{ on := 2, ground := Go.Ground.data }, { on := 9, ground := Go.Ground.data }], guard := none }) (v := ?v186) rfl (by kernel_rfl) (by kernel_rfl) (by kernel_rfl) (fun _ _ _ h => h) (Or.inl ⟨by kernel_rfl, ?h186⟩) (by assumption) ?r186
  case h186 => (intro w hSw; (try dsimp only at hSw); go_simp; try with_reducible rfl)
  try simp only [Act.put, List.setIfInBounds_toArray, List.set_cons_zero, List.set_cons_succ]
  refine wpAnyH_take (i := 11) (oi := { dst := some 170, op := Go.Op.move (Go.Operand.tmp 169), type := 4, pos := "law.go:74", after := #[{ on := 10, ground := Go.Ground.data }, { on := 9, ground := Go.Ground.chain }], guard := none }) (v := ?v187) rfl (by kernel_rfl) (by kernel_rfl) (by kernel_rfl) (fun _ _ _ h => h) (Or.inl ⟨by kernel_rfl, ?h187⟩) (by assumption) ?r187
  case h187 => (intro w hSw; (try dsimp only at hSw); go_simp; try with_reducible rfl)
  try simp only [Act.put, List.setIfInBounds_toArray, List.set_cons_zero, List.set_cons_succ]
  refine wpAnyH_take (i := 12) (oi := { dst := some 171, op := Go.Op.move (Go.Operand.tmp 19), type := 4, pos := "law.go:74", after := #[{ on := 11, ground := Go.Ground.guard }], guard := some (11, true) }) (v := ?v188) rfl (by kernel_rfl) (by kernel_rfl) (by kernel_rfl) (fun _ _ _ h => h) (Or.inl ⟨by kernel_rfl, ?h188⟩) (by assumption) ?r188
  case h188 => (intro w hSw; (try dsimp only at hSw); go_simp; try with_reducible rfl)
  try simp only [Act.put, List.setIfInBounds_toArray, List.set_cons_zero, List.set_cons_succ]
  refine wpAnyH_take (i := 13) (oi := { dst := some 172, op := Go.Op.unOp Go.UnOp.not 4 (Go.Operand.tmp 171), type := 4, pos := "law.go:74", after := #[{ on := 12, ground := Go.Ground.data }, { on := 11, ground := Go.Ground.guard }], guard := some (11, true) }) (v := ?v189) rfl (by kernel_rfl) (by kernel_rfl) (by kernel_rfl) (fun _ _ _ h => h) (Or.inl ⟨by kernel_rfl, ?h189⟩) (by assumption) ?r189
  case h189 => (intro w hSw; (try dsimp only at hSw); go_simp; try with_reducible rfl)
  try simp only [Act.put, List.setIfInBounds_toArray, List.set_cons_zero, List.set_cons_succ]
  refine wpAnyH_take (i := 14) (oi := { dst := some 173, op := Go.Op.move (Go.Operand.tmp 172), type := 4, pos := "law.go:74", after := #[{ on := 13, ground := Go.Ground.data }, { on := 11, ground := Go.Ground.chain }, { on := 11, ground := Go.Ground.guard }], guard := some (11, true) }) (v := ?v190) rfl (by kernel_rfl) (by kernel_rfl) (by kernel_rfl) (fun _ _ _ h => h) (Or.inl ⟨by kernel_rfl, ?h190⟩) (by assumption) ?r190
  case h190 => (intro w hSw; (try dsimp only at hSw); go_simp; try with_reducible rfl)
  try simp only [Act.put, List.setIfInBounds_toArray, List.set_cons_zero, List.set_cons_succ]
  refine wpAnyH_take (i := 15) (oi := { dst := some 174, op := Go.Op.move (Go.Operand.tmp 17), type := 4, pos := "law.go:74", after := #[{ on := 14, ground := Go.Ground.guard }], guard := some (14, false) }) (v := ?v191) rfl (by kernel_rfl) (by kernel_rfl) (by kernel_rfl) (fun _ _ _ h => h) (Or.inl ⟨by kernel_rfl, ?h191⟩) (by assumption) ?r191
  case h191 => (intro w hSw; (try dsimp only at hSw); go_simp; try with_reducible rfl)
  try simp only [Act.put, List.setIfInBounds_toArray, List.set_cons_zero, List.set_cons_succ]
  refine wpAnyH_take (i := 16) (oi := { dst := some 175, op := Go.Op.unOp Go.UnOp.not 4 (Go.Operand.tmp 174), type := 4, pos := "law.go:74", after := #[{ on := 15, ground := Go.Ground.data }, { on := 14, ground := Go.Ground.guard }], guard := some (14, false) }) (v := ?v192) rfl (by kernel_rfl) (by kernel_rfl) (by kernel_rfl) (fun _ _ _ h => h) (Or.inl ⟨by kernel_rfl, ?h192⟩) (by assumption) ?r192
  case h192 => (intro w hSw; (try dsimp only at hSw); go_simp; try with_reducible rfl)
  try simp only [Act.put, List.setIfInBounds_toArray, List.set_cons_zero, List.set_cons_succ]
  refine wpAnyH_take (i := 17) (oi := { dst := some 176, op := Go.Op.pick (Go.Operand.tmp 173) (Go.Operand.const (Go.Value.bool true)) (Go.Operand.tmp 175), type := 4, pos := "law.go:74", after := #[{ on := 14, ground := Go.Ground.data }, { on := 16, ground := Go.Ground.data }, { on := 11, ground := Go.Ground.guard }], guard := some (11, true) }) (v := ?v193) rfl (by kernel_rfl) (by kernel_rfl) (by kernel_rfl) (fun _ _ _ h => h) (Or.inl ⟨by kernel_rfl, ?h193⟩) (by assumption) ?r193
  case h193 => (intro w hSw; (try dsimp only at hSw); go_simp; try with_reducible rfl)
  try simp only [Act.put, List.setIfInBounds_toArray, List.set_cons_zero, List.set_cons_succ]
  refine wpAnyH_take (i := 18) (oi := { dst := some 177, op := Go.Op.move (Go.Operand.tmp 176), type := 4, pos := "law.go:74", after := #[{ on := 17, ground := Go.Ground.data }, { on := 14, ground := Go.Ground.chain }, { on := 11, ground := Go.Ground.guard }], guard := some (11, true) }) (v := ?v194) rfl (by kernel_rfl) (by kernel_rfl) (by kernel_rfl) (fun _ _ _ h => h) (Or.inl ⟨by kernel_rfl, ?h194⟩) (by assumption) ?r194
  case h194 => (intro w hSw; (try dsimp only at hSw); go_simp; try with_reducible rfl)
  try simp only [Act.put, List.setIfInBounds_toArray, List.set_cons_zero, List.set_cons_succ]
  refine wpAnyH_take (i := 19) (oi := { dst := some 178, op := Go.Op.load 24 (Go.Operand.tmp 13), type := 24, pos := "law.go:74", after := #[{ on := 18, ground := Go.Ground.guard }], guard := some (18, false) }) (v := ?v195) rfl (by kernel_rfl) (by kernel_rfl) (by kernel_rfl) (fun _ _ _ h => h) (Or.inl ⟨by kernel_rfl, ?h195⟩) (by assumption) ?r195
  case h195 => (intro w hSw; (try dsimp only at hSw); go_simp; try with_reducible rfl)
  try simp only [Act.put, List.setIfInBounds_toArray, List.set_cons_zero, List.set_cons_succ]
  refine wpAnyH_take (i := 20) (oi := { dst := some 179, op := Go.Op.load 24 (Go.Operand.tmp 4), type := 24, pos := "law.go:74", after := #[{ on := 18, ground := Go.Ground.guard }], guard := some (18, false) }) (v := ?v196) rfl (by kernel_rfl) (by kernel_rfl) (by kernel_rfl) (fun _ _ _ h => h) (Or.inl ⟨by kernel_rfl, ?h196⟩) (by assumption) ?r196
  case h196 => (intro w hSw; (try dsimp only at hSw); go_simp; try with_reducible rfl)
  try simp only [Act.put, List.setIfInBounds_toArray, List.set_cons_zero, List.set_cons_succ]
  refine wpAnyH_take (i := 21) (oi := { dst := some 180, op := Go.Op.move (Go.Operand.tmp 1), type := 3, pos := "law.go:74", after := #[{ on := 18, ground := Go.Ground.guard }], guard := some (18, false) }) (v := ?v197) rfl (by kernel_rfl) (by kernel_rfl) (by kernel_rfl) (fun _ _ _ h => h) (Or.inl ⟨by kernel_rfl, ?h197⟩) (by assumption) ?r197
  case h197 => (intro w hSw; (try dsimp only at hSw); go_simp; try with_reducible rfl)
  try simp only [Act.put, List.setIfInBounds_toArray, List.set_cons_zero, List.set_cons_succ]
  refine wpAnyH_take (i := 22) (oi := { dst := some 181, op := Go.Op.move (Go.Operand.tmp 2), type := 3, pos := "law.go:74", after := #[{ on := 18, ground := Go.Ground.guard }], guard := some (18, false) }) (v := ?v198) rfl (by kernel_rfl) (by kernel_rfl) (by kernel_rfl) (fun _ _ _ h => h) (Or.inl ⟨by kernel_rfl, ?h198⟩) (by assumption) ?r198
  case h198 => (intro w hSw; (try dsimp only at hSw); go_simp; try with_reducible rfl)
  try simp only [Act.put, List.setIfInBounds_toArray, List.set_cons_zero, List.set_cons_succ]
  refine wpAnyH_take (i := 23) (oi := { dst := some 182, op := Go.Op.move (Go.Operand.tmp 3), type := 3, pos := "law.go:74", after := #[{ on := 18, ground := Go.Ground.guard }], guard := some (18, false) }) (v := ?v199) rfl (by kernel_rfl) (by kernel_rfl) (by kernel_rfl) (fun _ _ _ h => h) (Or.inl ⟨by kernel_rfl, ?h199⟩) (by assumption) ?r199
  case h199 => (intro w hSw; (try dsimp only at hSw); go_simp; try with_reducible rfl)
  try simp only [Act.put, List.setIfInBounds_toArray, List.set_cons_zero, List.set_cons_succ]
  refine wpAnyH_ready (rs := [24]) (by kernel_rfl) (by simp) ?_
  refine AllReadyH.cons (o := { dst := some 183, op := Go.Op.call { callee := Go.Callee.value (Go.Operand.func 31), args := #[Go.Operand.tmp 179, Go.Operand.tmp 180, Go.Operand.tmp 181, Go.Operand.tmp 182], argTypes := #[24, 3, 3, 3] }, type := 24, pos := "law.go:74", after := #[{ on := 20, ground := Go.Ground.data }, { on := 21, ground := Go.Ground.data }, { on := 22, ground := Go.Ground.data }, { on := 23, ground := Go.Ground.data }, { on := 18, ground := Go.Ground.chain }, { on := 18, ground := Go.Ground.guard }], guard := some (18, false) }) rfl (fun K hK => ?_) AllReadyH.nil
  go_simp
  refine (P3.out _ (ht.out _ hHeld)).mono ?_
  rintro e u2 ⟨x9, y9, z9, rfl, s9, b2⟩
  have t9 := Lib.hid (zrself n a3 x9 _ m3 y9 c3 z9 _ (S3.out.below (hHeld.trans (b2.mono hHeld.size))) s9)
  go_simp
  refine hK.out _ _ (hHeld.trans (b2.mono hHeld.size)) (fun hHeld => ?_)
  clear hK K
  try simp only [Act.put, List.setIfInBounds_toArray, List.set_cons_zero, List.set_cons_succ]
  refine wpAnyH_ready (rs := [25]) (by kernel_rfl) (by simp) ?_
  refine AllReadyH.cons (o := { dst := some 184, op := Go.Op.call { callee := Go.Callee.value (Go.Operand.func 16), args := #[Go.Operand.tmp 178, Go.Operand.tmp 183], argTypes := #[24, 24] }, type := 4, pos := "law.go:74", after := #[{ on := 19, ground := Go.Ground.data }, { on := 24, ground := Go.Ground.data }, { on := 24, ground := Go.Ground.chain }, { on := 18, ground := Go.Ground.guard }], guard := some (18, false) }) rfl (fun K hK => ?_) AllReadyH.nil
  go_simp
  refine t9.out.mono ?_
  rintro e u3 ⟨rfl, b3⟩
  go_simp
  refine hK.out _ _ (hHeld.trans (b3.mono hHeld.size)) (fun hHeld => ?_)
  clear hK K
  try simp only [Act.put, List.setIfInBounds_toArray, List.set_cons_zero, List.set_cons_succ]
  refine wpAnyH_take (i := 26) (oi := { dst := some 185, op := Go.Op.pick (Go.Operand.tmp 177) (Go.Operand.const (Go.Value.bool true)) (Go.Operand.tmp 184), type := 4, pos := "law.go:74", after := #[{ on := 18, ground := Go.Ground.data }, { on := 25, ground := Go.Ground.data }, { on := 11, ground := Go.Ground.guard }], guard := some (11, true) }) (v := ?v200) rfl (by kernel_rfl) (by kernel_rfl) (by kernel_rfl) (fun _ _ _ h => h) (Or.inl ⟨by kernel_rfl, ?h200⟩) (by assumption) ?r200
  case h200 => (intro w hSw; (try dsimp only at hSw); go_simp; try with_reducible rfl)
  try simp only [Act.put, List.setIfInBounds_toArray, List.set_cons_zero, List.set_cons_succ]
  refine wpAnyH_take (i := 27) (oi := { dst := some 186, op := Go.Op.pick (Go.Operand.tmp 170) (Go.Operand.tmp 185) (Go.Operand.const (Go.Value.bool false)), type := 4, pos := "law.go:74", after := #[{ on := 11, ground := Go.Ground.data }, { on := 26, ground := Go.Ground.data }], guard := none }) (v := ?v201) rfl (by kernel_rfl) (by kernel_rfl) (by kernel_rfl) (fun _ _ _ h => h) (Or.inl ⟨by kernel_rfl, ?h201⟩) (by assumption) ?r201
  case h201 => (intro w hSw; (try dsimp only at hSw); go_simp; try with_reducible rfl)
  try simp only [Act.put, List.setIfInBounds_toArray, List.set_cons_zero, List.set_cons_succ]
  refine wpAnyH_take (i := 28) (oi := { dst := some 8, op := Go.Op.assign (Go.Operand.tmp 186), type := 4, pos := "law.go:74", after := #[{ on := 27, ground := Go.Ground.data }, { on := 25, ground := Go.Ground.chain }, { on := 0, ground := Go.Ground.phase }, { on := 1, ground := Go.Ground.phase }, { on := 2, ground := Go.Ground.phase }, { on := 3, ground := Go.Ground.phase }, { on := 4, ground := Go.Ground.phase }, { on := 5, ground := Go.Ground.phase }, { on := 6, ground := Go.Ground.phase }, { on := 7, ground := Go.Ground.phase }, { on := 8, ground := Go.Ground.phase }, { on := 9, ground := Go.Ground.phase }, { on := 10, ground := Go.Ground.phase }, { on := 11, ground := Go.Ground.phase }, { on := 12, ground := Go.Ground.phase }, { on := 13, ground := Go.Ground.phase }, { on := 14, ground := Go.Ground.phase }, { on := 15, ground := Go.Ground.phase }, { on := 16, ground := Go.Ground.phase }, { on := 17, ground := Go.Ground.phase }, { on := 18, ground := Go.Ground.phase }, { on := 19, ground := Go.Ground.phase }, { on := 20, ground := Go.Ground.phase }, { on := 21, ground := Go.Ground.phase }, { on := 22, ground := Go.Ground.phase }, { on := 23, ground := Go.Ground.phase }, { on := 24, ground := Go.Ground.phase }, { on := 25, ground := Go.Ground.phase }, { on := 26, ground := Go.Ground.phase }, { on := 27, ground := Go.Ground.phase }], guard := none }) (v := ?v202) rfl (by kernel_rfl) (by kernel_rfl) (by kernel_rfl) (fun _ _ _ h => h) (Or.inl ⟨by kernel_rfl, ?h202⟩) (by assumption) ?r202
  case h202 => (intro w hSw; (try dsimp only at hSw); go_simp; try with_reducible rfl)
  try simp only [Act.put, List.setIfInBounds_toArray, List.set_cons_zero, List.set_cons_succ]
  refine wpAnyH_done (by kernel_rfl) ?_ _
  have bf := Lib.hid (ht.out _ hHeld)
  go_wp2
  go_ret
  exact ⟨rfl, bf.out⟩
end Go.Proofs.Ytacbkddkjlnklaa
