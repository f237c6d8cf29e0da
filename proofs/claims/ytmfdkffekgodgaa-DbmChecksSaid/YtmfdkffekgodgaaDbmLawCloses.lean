/- DbmCloses: the walk of the statement's function. (Written by gen-dbm-closes.py.) -/
import Derived.Test.YtmfdkffekgodgaaDbmLawHas
namespace Go.Proofs.Ytmfdkffekgodgaa
open Go.RowKit
set_option linter.unusedVariables false
set_option linter.unusedSimpArgs false

theorem closed_chk {n : Nat} (hn : n ≤ 8) (m : List Int) : chk n (closedL n m) = 0 ∧ emptyB n (closedL n m) = decide (closedL n m = []) := by
  by_cases h : closedL n m = []
  · rw [h]
    have e := checkB_nil (mayB_nat hn)
    unfold chk emptyB
    rw [e]
    simp
  · have hF := closed_full hn h
    have e : checkB n (closedL n m) = true := by rw [checkB_sz hn h hF.len]; exact decide_eq_true hF.fix
    unfold chk emptyB
    rw [e]
    simp
theorem closed_small {n : Nat} (hn : n ≤ 8) (m : List Int) : (closedL n m).length ≤ 81 := by
  have := sz_le hn
  by_cases h : closedL n m = []
  · rw [h]; simp
  · have : (closedL n m).length = sz n := (closedL_is h).1
    omega
theorem ret_tt {e : Ending} {b : Bool} (h : e = .returned (.bool b)) (hb : b = true) : e = .returned (.bool true) := by rw [h, hb]
theorem zone_nil (w : World) (n : Int) (a : Option Addr) (c : Nat) (h : SL w a 0 c []) : Calls Try.prog 12 #[.agg #[.int .i64 0, .slice a 0 c], .agg #[.int .i64 0, .slice none 0 0]] w (Gives (.bool true) w) := by
  have := dsame_any 0 0 a none [] [] 0 0 c 0 w h (SL.nil w)
  simpa using this
theorem rzone_nil (w : World) (n : Int) (a : Option Addr) (c : Nat) (h : SL w a 0 c []) : Calls Try.prog 13 #[.agg #[.int .i64 0, .slice a 0 c], .agg #[.int .i64 0, .slice none 0 0]] w (Gives (.bool true) w) := by
  have := rsame_any 0 0 a none [] [] 0 0 c 0 w h (SL.nil w)
  simpa using this
theorem rsame_self (n : Int) (a1 a2 : Option Addr) (l : List Int) (m c1 c2 : Nat) (w : World) (h1 : SL w a1 m c1 l) (h2 : SL w a2 m c2 l) :
    Calls Try.prog 13 #[.agg #[.int .i64 n, .slice a1 m c1], .agg #[.int .i64 n, .slice a2 m c2]] w (Gives (.bool true) w) := by
  have := rsame_any n n a1 a2 l l m m c1 c2 w h1 h2
  simpa using this
theorem dsame_self (n : Int) (a1 a2 : Option Addr) (l : List Int) (m c1 c2 : Nat) (w : World) (h1 : SL w a1 m c1 l) (h2 : SL w a2 m c2 l) :
    Calls Try.prog 12 #[.agg #[.int .i64 n, .slice a1 m c1], .agg #[.int .i64 n, .slice a2 m c2]] w (Gives (.bool true) w) := by
  have := dsame_any n n a1 a2 l l m m c1 c2 w h1 h2
  simpa using this
/-- A zone that the document's function hands back, its length a letter. -/
theorem zones_of {n : Int} {l : List Int} {w : World} {e : Ending} {w' : World} {m : Nat} (hm : l.length = m) (hmx : m ≤ 9223372036854775807) (h : ZoneS n l w e w') : ∃ a c, e = .returned (.agg #[.int .i64 n, .slice a m c]) ∧ SL w' a m c l ∧ Below w.heap.size w w' := by
  obtain ⟨a, c, rfl, hc, hs, hb, -⟩ := h
  subst hm
  exact ⟨a, c, rfl, ⟨rfl, hc, hmx, hs⟩, hb⟩
set_option maxRecDepth 100000 in
set_option maxHeartbeats 2000000 in
theorem closes_large (w : World) (n : Int) (a0 : Option Addr) (n0 c0 : Nat) (l0 : List Int) (S0 : SL w a0 n0 c0 l0) (hl : 200 < n0) : Calls Try.prog 3 #[.int .i64 n, .slice a0 n0 c0] w (Gives (.bool true) w) := by
  have hlg := Lib.hid (large_any a0 n0 c0 S0.max w)
  have hlv := Lib.hid (lives_dbm w)
  have e : decide (200 < (n0 : Int)) = true := decide_eq_true (by omega)
  rw [e] at hlg
  clear S0 e hl
  go_enter Try.func3, Try.ntmps3
  go_wp2_with fail
  refine hlg.out.mono ?_
  rintro e w1 ⟨rfl, rfl⟩
  go_wp2_with fail
  refine hlv.out.mono ?_
  rintro e w1 ⟨rfl, b1⟩
  have b1' := Lib.hid b1
  clear b1
  go_wp2
  go_ret
  exact ⟨rfl, b1'.out⟩
set_option maxRecDepth 100000 in
set_option maxHeartbeats 2000000 in
theorem closes_no (w : World) (n : Int) (a0 : Option Addr) (n0 c0 : Nat) (l0 : List Int) (S0 : SL w a0 n0 c0 l0) (hl : ¬ 200 < n0) (hno : mayB n = false) : Calls Try.prog 3 #[.int .i64 n, .slice a0 n0 c0] w (Gives (.bool true) w) := by
  have hlg := Lib.hid (large_any a0 n0 c0 S0.max w)
  have e : decide (200 < (n0 : Int)) = false := decide_eq_false (by omega)
  rw [e] at hlg
  clear e
  have hcl := Lib.hid ((dclose_no n a0 n0 c0 S0.max (by unfold okM; rw [hno, Bool.false_and]) w).mono (fun e w' h => ends_of (m := 0) rfl (by decide) h))
  have hal := Lib.hid (fun W => (dall_no n hno W).mono (fun e w' h => ends_of (m := 0) rfl (by decide) h))
  have hmay := Lib.hid (fun W => vars_any n W)
  rw [hno] at hmay
  clear S0 hl hno
  go_enter Try.func3, Try.ntmps3
  go_wp2_with fail
  refine hlg.out.mono ?_
  rintro e w1 ⟨rfl, rfl⟩
  go_wp2_with fail
  refine hcl.out.mono ?_
  rintro e w1 ⟨a1, c1, rfl, s1, b1⟩
  have B1 := Lib.hid (b1.trans ((box_below w1 #[.int .i64 0, .slice a1 0 c1] 26).mono b1.size))
  have Z1 := Lib.hid (Holds.new w1 26 #[.int .i64 0, .slice a1 0 c1])
  have S1 := Lib.hid (s1.below (box_below w1 #[.int .i64 0, .slice a1 0 c1] 26))
  clear b1 s1 hcl hlg
  go_wp2_with fail
  refine (hal.out _).mono ?_
  rintro e w2 ⟨a2, c2, rfl, s2, b2⟩
  have B2 := b2.trans ((box_below w2 #[.int .i64 0, .slice a2 0 c2] 26).mono b2.size)
  have Z2 := Lib.hid (Holds.new w2 26 #[.int .i64 0, .slice a2 0 c2])
  have S2 := Lib.hid (s2.below (box_below w2 #[.int .i64 0, .slice a2 0 c2] 26))
  have Z1b := Lib.hid (Z1.out.below B2 Z1.out.lt)
  have S1b := Lib.hid (S1.out.below B2)
  have hl3 := Lib.hid (livesAt w _ (B1.out.trans (B2.mono B1.out.size)))
  clear b2 s2 B2 Z1 S1 B1 hal
  go_wp2_with fail
  refine hl3.out.mono ?_
  rintro e w4 ⟨rfl, b4, bw4⟩
  have hz1 := Lib.hid (Z1b.out.below b4 Z1b.out.lt)
  have hs1 := Lib.hid (S1b.out.below b4)
  have hz2 := Lib.hid (Z2.out.below b4 Z2.out.lt)
  have hs2 := Lib.hid (S2.out.below b4)
  have bw := Lib.hid bw4
  clear hl3 b4 bw4 Z1b S1b Z2 S2
  go_wp2_with fail
  refine (hmay.out _).mono ?_
  rintro e w5 ⟨rfl, rfl⟩
  clear hmay
  have k0 := hz1.out.cell 0
  have k1 := hz1.out.cell 1
  have q1 := Lib.hid (zone_nil w4 0 a1 c1 hs1.out)
  go_wp2_with fail
  refine q1.out.mono ?_
  rintro e w5 ⟨rfl, b5⟩
  have hz2' := Lib.hid (hz2.out.below b5 hz2.out.lt)
  have hs2' := Lib.hid (hs2.out.below b5)
  have bw' := Lib.hid (bw.out.trans (b5.mono bw.out.size))
  clear q1 k0 k1 b5
  have k0 := hz2'.out.cell 0
  have k1 := hz2'.out.cell 1
  have q2 := Lib.hid (rzone_nil w5 0 a2 c2 hs2'.out)
  go_wp2_with fail
  refine q2.out.mono ?_
  rintro e w6 ⟨rfl, b6⟩
  have bw6 := Lib.hid (bw'.out.trans (b6.mono bw'.out.size))
  clear q2 b6
  go_wp2
  go_ret
  exact ⟨rfl, bw6.out⟩
set_option maxRecDepth 100000 in
set_option maxHeartbeats 2000000 in
theorem closes_len (n : Nat) (hn : n ≤ 8) (w : World) (a0 : Option Addr) (n0 c0 : Nat) (l0 : List Int) (S0 : SL w a0 n0 c0 l0) (hl : ¬ 200 < n0) (hne : n0 ≠ sz n) : Calls Try.prog 3 #[.int .i64 n, .slice a0 n0 c0] w (Gives (.bool true) w) := by
  have hlg := Lib.hid (large_any a0 n0 c0 S0.max w)
  have e : decide (200 < (n0 : Int)) = false := decide_eq_false (by omega)
  rw [e] at hlg
  clear e
  have hcl := Lib.hid ((dclose_no n a0 n0 c0 S0.max (by unfold okM; rw [show ((n : Int)).toNat = n by omega, decide_eq_false hne, Bool.and_false]) w).mono (fun e w' h => ends_of (m := 0) rfl (by decide) h))
  have hal := Lib.hid (fun W => (dall_ok n hn W).mono (fun e w' h => ends_of (m := sz n) (show (allL n).length = sz n from matL_len _ _) (by have := sz_le hn; omega) h))
  have hrall := Lib.hid (fun W => (rall_any n hn W).mono (fun e w' h => zones_of (m := sz n) (show (allL n).length = sz n from matL_len _ _) (by have := sz_le hn; omega) h))
  have hmay := Lib.hid (fun W => vars_any n W)
  rw [mayB_nat hn] at hmay
  have hs81 := sz_le hn
  have hni : (n : Int) ≤ 8 := by omega
  have v1 : IntKind.i64.wrap ((n : Int) + 1) = (n : Int) + 1 := wrap_small (by omega) (by omega)
  have v2 : IntKind.i64.wrap (((n : Int) + 1) * ((n : Int) + 1)) = (sz n : Nat) := by rw [sz_int]; exact wrap_small (by omega) (by omega)
  have hmx := S0.max
  generalize sz n = ma at *
  generalize allL n = la at *
  have e1 : ((n0 : Int) != (ma : Int)) = true := by simp; omega
  have e2 : ¬ (n0 : Int) = (ma : Int) := by omega
  clear S0 hl hne
  go_enter Try.func3, Try.ntmps3
  go_wp2_with fail
  refine hlg.out.mono ?_
  rintro e w1 ⟨rfl, rfl⟩
  go_wp2_with fail
  refine hcl.out.mono ?_
  rintro e w1 ⟨a1, c1, rfl, s1, b1⟩
  have B1 := Lib.hid (b1.trans ((box_below w1 #[.int .i64 0, .slice a1 0 c1] 26).mono b1.size))
  have Z1 := Lib.hid (Holds.new w1 26 #[.int .i64 0, .slice a1 0 c1])
  have S1 := Lib.hid (s1.below (box_below w1 #[.int .i64 0, .slice a1 0 c1] 26))
  clear b1 s1 hcl hlg
  go_wp2_with fail
  refine (hal.out _).mono ?_
  rintro e w2 ⟨a2, c2, rfl, s2, b2⟩
  have B2 := b2.trans ((box_below w2 #[.int .i64 n, .slice a2 ma c2] 26).mono b2.size)
  have Z2 := Lib.hid (Holds.new w2 26 #[.int .i64 n, .slice a2 ma c2])
  have S2 := Lib.hid (s2.below (box_below w2 #[.int .i64 n, .slice a2 ma c2] 26))
  have Z1b := Lib.hid (Z1.out.below B2 Z1.out.lt)
  have S1b := Lib.hid (S1.out.below B2)
  have hl3 := Lib.hid (livesAt w _ (B1.out.trans (B2.mono B1.out.size)))
  clear b2 s2 B2 Z1 S1 B1 hal
  go_wp2_with fail
  refine hl3.out.mono ?_
  rintro e w4 ⟨rfl, b4, bw4⟩
  have hz1 := Lib.hid (Z1b.out.below b4 Z1b.out.lt)
  have hs1 := Lib.hid (S1b.out.below b4)
  have hz2 := Lib.hid (Z2.out.below b4 Z2.out.lt)
  have hs2 := Lib.hid (S2.out.below b4)
  have bw := Lib.hid bw4
  clear hl3 b4 bw4 Z1b S1b Z2 S2
  go_wp2_with fail
  refine (hmay.out _).mono ?_
  rintro e w5 ⟨rfl, rfl⟩
  clear hmay
  have hc0 : ∀ W, Below w4.heap.size w4 W → W.cell? ⟨w2.heap.size, 0, none⟩ = some (.int .i64 n) := fun W hW => (hz2.out.below hW hz2.out.lt).cell 0
  have hc1 : ∀ W, Below w4.heap.size w4 W → W.cell? ⟨w2.heap.size, 1, none⟩ = some (.slice a2 ma c2) := fun W hW => (hz2.out.below hW hz2.out.lt).cell 1
  go_wp2
  refine wp_drawn (by kernel_rfl) (fun hHeld => ?_)
  refine wpAnyH_take (i := 0) (oi := { dst := some 46, op := Go.Op.move (Go.Operand.tmp 8), type := 27, pos := "law.go:35", after := #[], guard := none }) (v := ?v1) rfl (by kernel_rfl) (by kernel_rfl) (by kernel_rfl) (fun _ _ _ h => h) (Or.inl ⟨by kernel_rfl, ?h1⟩) (by assumption) ?r1
  case h1 => (intro w hSw; (try dsimp only at hSw); go_simp; try with_reducible rfl)
  try simp only [Act.put, List.setIfInBounds_toArray, List.set_cons_zero, List.set_cons_succ]
  refine wpAnyH_take (i := 1) (oi := { dst := some 47, op := Go.Op.binOp Go.BinOp.neq 27 (Go.Operand.tmp 46) (Go.Operand.const (Go.Value.int Go.IntKind.i64 0)) 27, type := 4, pos := "law.go:35", after := #[{ on := 0, ground := Go.Ground.data }], guard := none }) (v := ?v2) rfl (by kernel_rfl) (by kernel_rfl) (by kernel_rfl) (fun _ _ _ h => h) (Or.inl ⟨by kernel_rfl, ?h2⟩) (by assumption) ?r2
  case h2 => (intro w hSw; (try dsimp only at hSw); go_simp; try with_reducible rfl)
  try simp only [Act.put, List.setIfInBounds_toArray, List.set_cons_zero, List.set_cons_succ]
  refine wpAnyH_take (i := 2) (oi := { dst := some 48, op := Go.Op.move (Go.Operand.tmp 47), type := 4, pos := "law.go:35", after := #[{ on := 1, ground := Go.Ground.data }], guard := none }) (v := ?v3) rfl (by kernel_rfl) (by kernel_rfl) (by kernel_rfl) (fun _ _ _ h => h) (Or.inl ⟨by kernel_rfl, ?h3⟩) (by assumption) ?r3
  case h3 => (intro w hSw; (try dsimp only at hSw); go_simp; try with_reducible rfl)
  try simp only [Act.put, List.setIfInBounds_toArray, List.set_cons_zero, List.set_cons_succ]
  refine wpAnyH_take (i := 3) (oi := { dst := some 49, op := Go.Op.load 26 (Go.Operand.tmp 7), type := 26, pos := "law.go:35", after := #[{ on := 2, ground := Go.Ground.guard }], guard := some (2, false) }) (v := ?v4) rfl (by kernel_rfl) (by kernel_rfl) (by kernel_rfl) (fun _ _ _ h => h) (Or.inl ⟨by kernel_rfl, ?h4⟩) (by assumption) ?r4
  case h4 => (intro w hSw; (try dsimp only at hSw); go_simp; try with_reducible rfl)
  try simp only [Act.put, List.setIfInBounds_toArray, List.set_cons_zero, List.set_cons_succ]
  refine wpAnyH_take (i := 4) (oi := { dst := some 50, op := Go.Op.move (Go.Operand.tmp 0), type := 3, pos := "law.go:35", after := #[{ on := 2, ground := Go.Ground.guard }], guard := some (2, false) }) (v := ?v5) rfl (by kernel_rfl) (by kernel_rfl) (by kernel_rfl) (fun _ _ _ h => h) (Or.inl ⟨by kernel_rfl, ?h5⟩) (by assumption) ?r5
  case h5 => (intro w hSw; (try dsimp only at hSw); go_simp; try with_reducible rfl)
  try simp only [Act.put, List.setIfInBounds_toArray, List.set_cons_zero, List.set_cons_succ]
  refine wpAnyH_ready (rs := [5]) (by kernel_rfl) (by simp) ?_
  refine AllReadyH.cons (o := { dst := some 51, op := Go.Op.call { callee := Go.Callee.value (Go.Operand.func 14), args := #[Go.Operand.tmp 50], argTypes := #[3] }, type := 26, pos := "law.go:35", after := #[{ on := 4, ground := Go.Ground.data }, { on := 2, ground := Go.Ground.chain }, { on := 2, ground := Go.Ground.guard }], guard := some (2, false) }) rfl (fun K hK => ?_) AllReadyH.nil
  go_simp
  refine (hrall.out _).mono ?_
  rintro e w5 ⟨a5, c5, rfl, s5, b5⟩
  have hw5 : Below w4.heap.size w4 w5 := hHeld.trans (b5.mono hHeld.size)
  have heq := Lib.hid (fun W (hW : Below w5.heap.size w5 W) => rsame_self n a2 a5 la ma c2 c5 W ((hs2.out.below hw5).below hW) (s5.below hW))
  go_simp
  refine hK.out _ _ (hw5) (fun hHeld => ?_)
  clear hK K
  try simp only [Act.put, List.setIfInBounds_toArray, List.set_cons_zero, List.set_cons_succ]
  refine wpAnyH_now hHeld (fun hHeld => ?_)
  replace hc0 := rebase hc0 (hw5)
  replace hc1 := rebase hc1 (hw5)
  refine wpAnyH_ready (rs := [6]) (by kernel_rfl) (by simp) ?_
  refine AllReadyH.cons (o := { dst := some 52, op := Go.Op.call { callee := Go.Callee.value (Go.Operand.func 13), args := #[Go.Operand.tmp 49, Go.Operand.tmp 51], argTypes := #[26, 26] }, type := 4, pos := "law.go:35", after := #[{ on := 3, ground := Go.Ground.data }, { on := 5, ground := Go.Ground.data }, { on := 5, ground := Go.Ground.chain }, { on := 2, ground := Go.Ground.guard }], guard := some (2, false) }) rfl (fun K hK => ?_) AllReadyH.nil
  go_simp
  refine (heq.out _ hHeld).mono ?_
  rintro e w6 ⟨rfl, b6⟩
  have hw6 := hHeld.trans (b6.mono hHeld.size)
  go_simp
  refine hK.out _ _ (hw6) (fun hHeld => ?_)
  clear hK K
  try simp only [Act.put, List.setIfInBounds_toArray, List.set_cons_zero, List.set_cons_succ]
  refine wpAnyH_now hHeld (fun hHeld => ?_)
  replace hc0 := rebase hc0 (hw6)
  replace hc1 := rebase hc1 (hw6)
  refine wpAnyH_take (i := 7) (oi := { dst := some 53, op := Go.Op.unOp Go.UnOp.not 4 (Go.Operand.tmp 52), type := 4, pos := "law.go:35", after := #[{ on := 6, ground := Go.Ground.data }, { on := 2, ground := Go.Ground.guard }], guard := some (2, false) }) (v := ?v6) rfl (by kernel_rfl) (by kernel_rfl) (by kernel_rfl) (fun _ _ _ h => h) (Or.inl ⟨by kernel_rfl, ?h6⟩) (by assumption) ?r6
  case h6 => (intro w hSw; (try dsimp only at hSw); go_simp; try with_reducible rfl)
  try simp only [Act.put, List.setIfInBounds_toArray, List.set_cons_zero, List.set_cons_succ]
  refine wpAnyH_take (i := 8) (oi := { dst := some 54, op := Go.Op.pick (Go.Operand.tmp 48) (Go.Operand.const (Go.Value.bool true)) (Go.Operand.tmp 53), type := 4, pos := "law.go:35", after := #[{ on := 2, ground := Go.Ground.data }, { on := 7, ground := Go.Ground.data }], guard := none }) (v := ?v7) rfl (by kernel_rfl) (by kernel_rfl) (by kernel_rfl) (fun _ _ _ h => h) (Or.inl ⟨by kernel_rfl, ?h7⟩) (by assumption) ?r7
  case h7 => (intro w hSw; (try dsimp only at hSw); go_simp; try with_reducible rfl)
  try simp only [Act.put, List.setIfInBounds_toArray, List.set_cons_zero, List.set_cons_succ]
  refine wpAnyH_done (by kernel_rfl) ?_ _
  have Bt := Lib.hid (hw5.trans (hw6.mono hw5.size))
  have hz1' := Lib.hid (hz1.out.below Bt.out hz1.out.lt)
  have hs1' := Lib.hid (hs1.out.below Bt.out)
  have bw' := Lib.hid (bw.out.trans (Bt.out.mono bw.out.size))
  have k0 := hz1'.out.cell 0
  have k1 := hz1'.out.cell 1
  clear hc0 hc1 hw5 hw6 heq
  have q3 := Lib.hid (rzone_nil w6 0 a1 c1 hs1'.out)
  go_wp2_with fail
  refine q3.out.mono ?_
  rintro e w7 ⟨rfl, b7⟩
  have bw7 := Lib.hid (bw'.out.trans (b7.mono bw'.out.size))
  clear q3 b7
  go_wp2
  go_ret
  exact ⟨rfl, bw7.out⟩
set_option maxRecDepth 100000 in
set_option maxHeartbeats 2000000 in
theorem closes_nil (n : Nat) (hn : n ≤ 8) (w : World) (a0 : Option Addr) (n0 c0 : Nat) (l0 : List Int) (S0 : SL w a0 n0 c0 l0) (hl : ¬ 200 < n0) (hsz : n0 = sz n) (hR : closedL n l0 = []) : Calls Try.prog 3 #[.int .i64 n, .slice a0 n0 c0] w (Gives (.bool true) w) := by
  have hlg := Lib.hid (large_any a0 n0 c0 S0.max w)
  have e : decide (200 < (n0 : Int)) = false := decide_eq_false (by omega)
  rw [e] at hlg
  clear e
  have hm1 := closed_small hn l0
  have hcl := Lib.hid ((dclose_ok n hn a0 l0 n0 c0 S0.len hsz w S0.sees).mono (fun e w' h => ends_of (m := (closedL n l0).length) rfl (by omega) h))
  have hrc := Lib.hid (fun W (hW : Below w.heap.size w W) => (rclose_any n hn a0 l0 n0 c0 S0.len hsz W (S0.below hW).sees).mono (fun e w' h => zones_of (m := (closedL n l0).length) rfl (by omega) h))
  have hal := Lib.hid (fun W => (dall_ok n hn W).mono (fun e w' h => ends_of (m := sz n) (show (allL n).length = sz n from matL_len _ _) (by have := sz_le hn; omega) h))
  have hrall := Lib.hid (fun W => (rall_any n hn W).mono (fun e w' h => zones_of (m := sz n) (show (allL n).length = sz n from matL_len _ _) (by have := sz_le hn; omega) h))
  have hchk := Lib.hid (fun W a c (h : SL W a (closedL n l0).length c (closedL n l0)) => dcheck_any n a (closedL n l0).length c (closedL n l0) W h)
  have hemp := Lib.hid (fun W a c (h : SL W a (closedL n l0).length c (closedL n l0)) => empty_any n a (closedL n l0).length c (closedL n l0) W h)
  rw [(closed_chk hn l0).1] at hchk
  rw [(closed_chk hn l0).2] at hemp
  have hmay := Lib.hid (fun W => vars_any n W)
  rw [mayB_nat hn] at hmay
  have hs81 := sz_le hn
  have hni : (n : Int) ≤ 8 := by omega
  have v1 : IntKind.i64.wrap ((n : Int) + 1) = (n : Int) + 1 := wrap_small (by omega) (by omega)
  have v2 : IntKind.i64.wrap (((n : Int) + 1) * ((n : Int) + 1)) = (n0 : Int) := by rw [sz_int, hsz]; exact wrap_small (by omega) (by omega)
  rw [decide_eq_true hR] at hemp
  have hcl2 := Lib.hid (fun W a c (h : SL W a (closedL n l0).length c (closedL n l0)) => (dclose_no n a (closedL n l0).length c (by omega) (by have := sz_pos n; unfold okM; rw [show ((n : Int)).toNat = n by omega, decide_eq_false (by rw [hR]; exact fun e => this e.symm), Bool.and_false]) W).mono (fun e w' h => ends_of (m := 0) rfl (by decide) h))
  have hm0 : (closedL n l0).length = 0 := by rw [hR]; rfl
  have hS0 := Lib.hid S0
  clear S0 hl hsz hR
  generalize hmm : (closedL n l0).length = m1 at *
  have hmm' := Lib.hid hmm
  clear hmm
  generalize closedL n l0 = R at *
  generalize hma : sz n = ma at *
  clear hma
  generalize allL n = la at *
  subst hm0
  go_enter Try.func3, Try.ntmps3
  go_wp2_with fail
  refine hlg.out.mono ?_
  rintro e w1 ⟨rfl, rfl⟩
  go_wp2_with fail
  refine hcl.out.mono ?_
  rintro e w1 ⟨a1, c1, rfl, s1, b1⟩
  have B1 := Lib.hid (b1.trans ((box_below w1 #[.int .i64 n, .slice a1 0 c1] 26).mono b1.size))
  have Z1 := Lib.hid (Holds.new w1 26 #[.int .i64 n, .slice a1 0 c1])
  have S1 := Lib.hid (s1.below (box_below w1 #[.int .i64 n, .slice a1 0 c1] 26))
  clear b1 s1 hcl hlg
  go_wp2_with fail
  refine (hal.out _).mono ?_
  rintro e w2 ⟨a2, c2, rfl, s2, b2⟩
  have B2 := b2.trans ((box_below w2 #[.int .i64 n, .slice a2 ma c2] 26).mono b2.size)
  have Z2 := Lib.hid (Holds.new w2 26 #[.int .i64 n, .slice a2 ma c2])
  have S2 := Lib.hid (s2.below (box_below w2 #[.int .i64 n, .slice a2 ma c2] 26))
  have Z1b := Lib.hid (Z1.out.below B2 Z1.out.lt)
  have S1b := Lib.hid (S1.out.below B2)
  have hl3 := Lib.hid (livesAt w _ (B1.out.trans (B2.mono B1.out.size)))
  clear b2 s2 B2 Z1 S1 B1 hal
  go_wp2_with fail
  refine hl3.out.mono ?_
  rintro e w4 ⟨rfl, b4, bw4⟩
  have hz1 := Lib.hid (Z1b.out.below b4 Z1b.out.lt)
  have hs1 := Lib.hid (S1b.out.below b4)
  have hz2 := Lib.hid (Z2.out.below b4 Z2.out.lt)
  have hs2 := Lib.hid (S2.out.below b4)
  have bw := Lib.hid bw4
  clear hl3 b4 bw4 Z1b S1b Z2 S2
  go_wp2_with fail
  refine (hmay.out _).mono ?_
  rintro e w5 ⟨rfl, rfl⟩
  clear hmay
  have hc0 : ∀ W, Below w4.heap.size w4 W → W.cell? ⟨w2.heap.size, 0, none⟩ = some (.int .i64 n) := fun W hW => (hz2.out.below hW hz2.out.lt).cell 0
  have hc1 : ∀ W, Below w4.heap.size w4 W → W.cell? ⟨w2.heap.size, 1, none⟩ = some (.slice a2 ma c2) := fun W hW => (hz2.out.below hW hz2.out.lt).cell 1
  go_wp2
  refine wp_drawn (by kernel_rfl) (fun hHeld => ?_)
  refine wpAnyH_take (i := 0) (oi := { dst := some 46, op := Go.Op.move (Go.Operand.tmp 8), type := 27, pos := "law.go:35", after := #[], guard := none }) (v := ?v8) rfl (by kernel_rfl) (by kernel_rfl) (by kernel_rfl) (fun _ _ _ h => h) (Or.inl ⟨by kernel_rfl, ?h8⟩) (by assumption) ?r8
  case h8 => (intro w hSw; (try dsimp only at hSw); go_simp; try with_reducible rfl)
  try simp only [Act.put, List.setIfInBounds_toArray, List.set_cons_zero, List.set_cons_succ]
  refine wpAnyH_take (i := 1) (oi := { dst := some 47, op := Go.Op.binOp Go.BinOp.neq 27 (Go.Operand.tmp 46) (Go.Operand.const (Go.Value.int Go.IntKind.i64 0)) 27, type := 4, pos := "law.go:35", after := #[{ on := 0, ground := Go.Ground.data }], guard := none }) (v := ?v9) rfl (by kernel_rfl) (by kernel_rfl) (by kernel_rfl) (fun _ _ _ h => h) (Or.inl ⟨by kernel_rfl, ?h9⟩) (by assumption) ?r9
  case h9 => (intro w hSw; (try dsimp only at hSw); go_simp; try with_reducible rfl)
  try simp only [Act.put, List.setIfInBounds_toArray, List.set_cons_zero, List.set_cons_succ]
  refine wpAnyH_take (i := 2) (oi := { dst := some 48, op := Go.Op.move (Go.Operand.tmp 47), type := 4, pos := "law.go:35", after := #[{ on := 1, ground := Go.Ground.data }], guard := none }) (v := ?v10) rfl (by kernel_rfl) (by kernel_rfl) (by kernel_rfl) (fun _ _ _ h => h) (Or.inl ⟨by kernel_rfl, ?h10⟩) (by assumption) ?r10
  case h10 => (intro w hSw; (try dsimp only at hSw); go_simp; try with_reducible rfl)
  try simp only [Act.put, List.setIfInBounds_toArray, List.set_cons_zero, List.set_cons_succ]
  refine wpAnyH_take (i := 3) (oi := { dst := some 49, op := Go.Op.load 26 (Go.Operand.tmp 7), type := 26, pos := "law.go:35", after := #[{ on := 2, ground := Go.Ground.guard }], guard := some (2, false) }) (v := ?v11) rfl (by kernel_rfl) (by kernel_rfl) (by kernel_rfl) (fun _ _ _ h => h) (Or.inl ⟨by kernel_rfl, ?h11⟩) (by assumption) ?r11
  case h11 => (intro w hSw; (try dsimp only at hSw); go_simp; try with_reducible rfl)
  try simp only [Act.put, List.setIfInBounds_toArray, List.set_cons_zero, List.set_cons_succ]
  refine wpAnyH_take (i := 4) (oi := { dst := some 50, op := Go.Op.move (Go.Operand.tmp 0), type := 3, pos := "law.go:35", after := #[{ on := 2, ground := Go.Ground.guard }], guard := some (2, false) }) (v := ?v12) rfl (by kernel_rfl) (by kernel_rfl) (by kernel_rfl) (fun _ _ _ h => h) (Or.inl ⟨by kernel_rfl, ?h12⟩) (by assumption) ?r12
  case h12 => (intro w hSw; (try dsimp only at hSw); go_simp; try with_reducible rfl)
  try simp only [Act.put, List.setIfInBounds_toArray, List.set_cons_zero, List.set_cons_succ]
  refine wpAnyH_ready (rs := [5]) (by kernel_rfl) (by simp) ?_
  refine AllReadyH.cons (o := { dst := some 51, op := Go.Op.call { callee := Go.Callee.value (Go.Operand.func 14), args := #[Go.Operand.tmp 50], argTypes := #[3] }, type := 26, pos := "law.go:35", after := #[{ on := 4, ground := Go.Ground.data }, { on := 2, ground := Go.Ground.chain }, { on := 2, ground := Go.Ground.guard }], guard := some (2, false) }) rfl (fun K hK => ?_) AllReadyH.nil
  go_simp
  refine (hrall.out _).mono ?_
  rintro e w5 ⟨a5, c5, rfl, s5, b5⟩
  have hw5 : Below w4.heap.size w4 w5 := hHeld.trans (b5.mono hHeld.size)
  have heq := Lib.hid (fun W (hW : Below w5.heap.size w5 W) => rsame_self n a2 a5 la ma c2 c5 W ((hs2.out.below hw5).below hW) (s5.below hW))
  go_simp
  refine hK.out _ _ (hw5) (fun hHeld => ?_)
  clear hK K
  try simp only [Act.put, List.setIfInBounds_toArray, List.set_cons_zero, List.set_cons_succ]
  refine wpAnyH_now hHeld (fun hHeld => ?_)
  replace hc0 := rebase hc0 (hw5)
  replace hc1 := rebase hc1 (hw5)
  refine wpAnyH_ready (rs := [6]) (by kernel_rfl) (by simp) ?_
  refine AllReadyH.cons (o := { dst := some 52, op := Go.Op.call { callee := Go.Callee.value (Go.Operand.func 13), args := #[Go.Operand.tmp 49, Go.Operand.tmp 51], argTypes := #[26, 26] }, type := 4, pos := "law.go:35", after := #[{ on := 3, ground := Go.Ground.data }, { on := 5, ground := Go.Ground.data }, { on := 5, ground := Go.Ground.chain }, { on := 2, ground := Go.Ground.guard }], guard := some (2, false) }) rfl (fun K hK => ?_) AllReadyH.nil
  go_simp
  refine (heq.out _ hHeld).mono ?_
  rintro e w6 ⟨rfl, b6⟩
  have hw6 := hHeld.trans (b6.mono hHeld.size)
  go_simp
  refine hK.out _ _ (hw6) (fun hHeld => ?_)
  clear hK K
  try simp only [Act.put, List.setIfInBounds_toArray, List.set_cons_zero, List.set_cons_succ]
  refine wpAnyH_now hHeld (fun hHeld => ?_)
  replace hc0 := rebase hc0 (hw6)
  replace hc1 := rebase hc1 (hw6)
  refine wpAnyH_take (i := 7) (oi := { dst := some 53, op := Go.Op.unOp Go.UnOp.not 4 (Go.Operand.tmp 52), type := 4, pos := "law.go:35", after := #[{ on := 6, ground := Go.Ground.data }, { on := 2, ground := Go.Ground.guard }], guard := some (2, false) }) (v := ?v13) rfl (by kernel_rfl) (by kernel_rfl) (by kernel_rfl) (fun _ _ _ h => h) (Or.inl ⟨by kernel_rfl, ?h13⟩) (by assumption) ?r13
  case h13 => (intro w hSw; (try dsimp only at hSw); go_simp; try with_reducible rfl)
  try simp only [Act.put, List.setIfInBounds_toArray, List.set_cons_zero, List.set_cons_succ]
  refine wpAnyH_take (i := 8) (oi := { dst := some 54, op := Go.Op.pick (Go.Operand.tmp 48) (Go.Operand.const (Go.Value.bool true)) (Go.Operand.tmp 53), type := 4, pos := "law.go:35", after := #[{ on := 2, ground := Go.Ground.data }, { on := 7, ground := Go.Ground.data }], guard := none }) (v := ?v14) rfl (by kernel_rfl) (by kernel_rfl) (by kernel_rfl) (fun _ _ _ h => h) (Or.inl ⟨by kernel_rfl, ?h14⟩) (by assumption) ?r14
  case h14 => (intro w hSw; (try dsimp only at hSw); go_simp; try with_reducible rfl)
  try simp only [Act.put, List.setIfInBounds_toArray, List.set_cons_zero, List.set_cons_succ]
  refine wpAnyH_done (by kernel_rfl) ?_ _
  have Bt := Lib.hid (hw5.trans (hw6.mono hw5.size))
  have hz1' := Lib.hid (hz1.out.below Bt.out hz1.out.lt)
  have hs1' := Lib.hid (hs1.out.below Bt.out)
  have bw' := Lib.hid (bw.out.trans (Bt.out.mono bw.out.size))
  clear hc0 hc1 hw5 hw6 heq hs2 hz2 hz1 hs1 bw Bt
  have hc0 : ∀ W, Below w6.heap.size w6 W → W.cell? ⟨w1.heap.size, 0, none⟩ = some (.int .i64 n) := fun W hW => (hz1'.out.below hW hz1'.out.lt).cell 0
  have hc1 : ∀ W, Below w6.heap.size w6 W → W.cell? ⟨w1.heap.size, 1, none⟩ = some (.slice a1 0 c1) := fun W hW => (hz1'.out.below hW hz1'.out.lt).cell 1
  go_wp2
  refine wp_drawn (by kernel_rfl) (fun hHeld => ?_)
  refine wpAnyH_take (i := 0) (oi := { dst := some 70, op := Go.Op.move (Go.Operand.tmp 6), type := 27, pos := "law.go:41", after := #[], guard := none }) (v := ?v15) rfl (by kernel_rfl) (by kernel_rfl) (by kernel_rfl) (fun _ _ _ h => h) (Or.inl ⟨by kernel_rfl, ?h15⟩) (by assumption) ?r15
  case h15 => (intro w hSw; (try dsimp only at hSw); go_simp; try with_reducible rfl)
  try simp only [Act.put, List.setIfInBounds_toArray, List.set_cons_zero, List.set_cons_succ]
  refine wpAnyH_take (i := 1) (oi := { dst := some 71, op := Go.Op.binOp Go.BinOp.neq 27 (Go.Operand.tmp 70) (Go.Operand.const (Go.Value.int Go.IntKind.i64 0)) 27, type := 4, pos := "law.go:41", after := #[{ on := 0, ground := Go.Ground.data }], guard := none }) (v := ?v16) rfl (by kernel_rfl) (by kernel_rfl) (by kernel_rfl) (fun _ _ _ h => h) (Or.inl ⟨by kernel_rfl, ?h16⟩) (by assumption) ?r16
  case h16 => (intro w hSw; (try dsimp only at hSw); go_simp; try with_reducible rfl)
  try simp only [Act.put, List.setIfInBounds_toArray, List.set_cons_zero, List.set_cons_succ]
  refine wpAnyH_take (i := 2) (oi := { dst := some 72, op := Go.Op.move (Go.Operand.tmp 71), type := 4, pos := "law.go:41", after := #[{ on := 1, ground := Go.Ground.data }], guard := none }) (v := ?v17) rfl (by kernel_rfl) (by kernel_rfl) (by kernel_rfl) (fun _ _ _ h => h) (Or.inl ⟨by kernel_rfl, ?h17⟩) (by assumption) ?r17
  case h17 => (intro w hSw; (try dsimp only at hSw); go_simp; try with_reducible rfl)
  try simp only [Act.put, List.setIfInBounds_toArray, List.set_cons_zero, List.set_cons_succ]
  refine wpAnyH_take (i := 3) (oi := { dst := some 73, op := Go.Op.load 26 (Go.Operand.tmp 5), type := 26, pos := "law.go:41", after := #[{ on := 2, ground := Go.Ground.guard }], guard := some (2, false) }) (v := ?v18) rfl (by kernel_rfl) (by kernel_rfl) (by kernel_rfl) (fun _ _ _ h => h) (Or.inl ⟨by kernel_rfl, ?h18⟩) (by assumption) ?r18
  case h18 => (intro w hSw; (try dsimp only at hSw); go_simp; try with_reducible rfl)
  try simp only [Act.put, List.setIfInBounds_toArray, List.set_cons_zero, List.set_cons_succ]
  refine wpAnyH_take (i := 4) (oi := { dst := some 74, op := Go.Op.move (Go.Operand.tmp 0), type := 3, pos := "law.go:41", after := #[{ on := 2, ground := Go.Ground.guard }], guard := some (2, false) }) (v := ?v19) rfl (by kernel_rfl) (by kernel_rfl) (by kernel_rfl) (fun _ _ _ h => h) (Or.inl ⟨by kernel_rfl, ?h19⟩) (by assumption) ?r19
  case h19 => (intro w hSw; (try dsimp only at hSw); go_simp; try with_reducible rfl)
  try simp only [Act.put, List.setIfInBounds_toArray, List.set_cons_zero, List.set_cons_succ]
  refine wpAnyH_take (i := 5) (oi := { dst := some 75, op := Go.Op.move (Go.Operand.tmp 1), type := 22, pos := "law.go:41", after := #[{ on := 2, ground := Go.Ground.guard }], guard := some (2, false) }) (v := ?v20) rfl (by kernel_rfl) (by kernel_rfl) (by kernel_rfl) (fun _ _ _ h => h) (Or.inl ⟨by kernel_rfl, ?h20⟩) (by assumption) ?r20
  case h20 => (intro w hSw; (try dsimp only at hSw); go_simp; try with_reducible rfl)
  try simp only [Act.put, List.setIfInBounds_toArray, List.set_cons_zero, List.set_cons_succ]
  refine wpAnyH_ready (rs := [6]) (by kernel_rfl) (by simp) ?_
  refine AllReadyH.cons (o := { dst := some 76, op := Go.Op.call { callee := Go.Callee.value (Go.Operand.func 15), args := #[Go.Operand.tmp 74, Go.Operand.tmp 75], argTypes := #[3, 22] }, type := 26, pos := "law.go:41", after := #[{ on := 4, ground := Go.Ground.data }, { on := 5, ground := Go.Ground.data }, { on := 2, ground := Go.Ground.chain }, { on := 2, ground := Go.Ground.guard }], guard := some (2, false) }) rfl (fun K hK => ?_) AllReadyH.nil
  go_simp
  refine (hrc.out _ (bw'.out.trans (hHeld.mono bw'.out.size))).mono ?_
  rintro e w7 ⟨a7, c7, rfl, s7, b7⟩
  have hw7 : Below w6.heap.size w6 w7 := hHeld.trans (b7.mono hHeld.size)
  have heq := Lib.hid (fun W (hW : Below w7.heap.size w7 W) => rsame_self n a1 a7 R 0 c1 c7 W ((hs1'.out.below hw7).below hW) (s7.below hW))
  have hs7 := Lib.hid (hs1'.out.below hw7)
  go_simp
  refine hK.out _ _ (hw7) (fun hHeld => ?_)
  clear hK K
  try simp only [Act.put, List.setIfInBounds_toArray, List.set_cons_zero, List.set_cons_succ]
  refine wpAnyH_now hHeld (fun hHeld => ?_)
  replace hc0 := rebase hc0 (hw7)
  replace hc1 := rebase hc1 (hw7)
  refine wpAnyH_ready (rs := [7]) (by kernel_rfl) (by simp) ?_
  refine AllReadyH.cons (o := { dst := some 77, op := Go.Op.call { callee := Go.Callee.value (Go.Operand.func 13), args := #[Go.Operand.tmp 73, Go.Operand.tmp 76], argTypes := #[26, 26] }, type := 4, pos := "law.go:41", after := #[{ on := 3, ground := Go.Ground.data }, { on := 6, ground := Go.Ground.data }, { on := 6, ground := Go.Ground.chain }, { on := 2, ground := Go.Ground.guard }], guard := some (2, false) }) rfl (fun K hK => ?_) AllReadyH.nil
  go_simp
  refine (heq.out _ hHeld).mono ?_
  rintro e w8 ⟨rfl, b8⟩
  have hw8 := hHeld.trans (b8.mono hHeld.size)
  have hs8 := Lib.hid (hs7.out.below hw8)
  go_simp
  refine hK.out _ _ (hw8) (fun hHeld => ?_)
  clear hK K
  try simp only [Act.put, List.setIfInBounds_toArray, List.set_cons_zero, List.set_cons_succ]
  refine wpAnyH_now hHeld (fun hHeld => ?_)
  replace hc0 := rebase hc0 (hw8)
  replace hc1 := rebase hc1 (hw8)
  refine wpAnyH_take (i := 8) (oi := { dst := some 78, op := Go.Op.unOp Go.UnOp.not 4 (Go.Operand.tmp 77), type := 4, pos := "law.go:41", after := #[{ on := 7, ground := Go.Ground.data }, { on := 2, ground := Go.Ground.guard }], guard := some (2, false) }) (v := ?v21) rfl (by kernel_rfl) (by kernel_rfl) (by kernel_rfl) (fun _ _ _ h => h) (Or.inl ⟨by kernel_rfl, ?h21⟩) (by assumption) ?r21
  case h21 => (intro w hSw; (try dsimp only at hSw); go_simp; try with_reducible rfl)
  try simp only [Act.put, List.setIfInBounds_toArray, List.set_cons_zero, List.set_cons_succ]
  refine wpAnyH_take (i := 9) (oi := { dst := some 79, op := Go.Op.pick (Go.Operand.tmp 72) (Go.Operand.const (Go.Value.bool true)) (Go.Operand.tmp 78), type := 4, pos := "law.go:41", after := #[{ on := 2, ground := Go.Ground.data }, { on := 8, ground := Go.Ground.data }], guard := none }) (v := ?v22) rfl (by kernel_rfl) (by kernel_rfl) (by kernel_rfl) (fun _ _ _ h => h) (Or.inl ⟨by kernel_rfl, ?h22⟩) (by assumption) ?r22
  case h22 => (intro w hSw; (try dsimp only at hSw); go_simp; try with_reducible rfl)
  try simp only [Act.put, List.setIfInBounds_toArray, List.set_cons_zero, List.set_cons_succ]
  refine wpAnyH_take (i := 10) (oi := { dst := some 80, op := Go.Op.move (Go.Operand.tmp 79), type := 4, pos := "law.go:41", after := #[{ on := 9, ground := Go.Ground.data }, { on := 7, ground := Go.Ground.chain }], guard := none }) (v := ?v23) rfl (by kernel_rfl) (by kernel_rfl) (by kernel_rfl) (fun _ _ _ h => h) (Or.inl ⟨by kernel_rfl, ?h23⟩) (by assumption) ?r23
  case h23 => (intro w hSw; (try dsimp only at hSw); go_simp; try with_reducible rfl)
  try simp only [Act.put, List.setIfInBounds_toArray, List.set_cons_zero, List.set_cons_succ]
  refine wpAnyH_take (i := 11) (oi := { dst := some 81, op := Go.Op.load 26 (Go.Operand.tmp 5), type := 26, pos := "law.go:41", after := #[{ on := 10, ground := Go.Ground.guard }], guard := some (10, false) }) (v := ?v24) rfl (by kernel_rfl) (by kernel_rfl) (by kernel_rfl) (fun _ _ _ h => h) (Or.inl ⟨by kernel_rfl, ?h24⟩) (by assumption) ?r24
  case h24 => (intro w hSw; (try dsimp only at hSw); go_simp; try with_reducible rfl)
  try simp only [Act.put, List.setIfInBounds_toArray, List.set_cons_zero, List.set_cons_succ]
  refine wpAnyH_ready (rs := [12]) (by kernel_rfl) (by simp) ?_
  refine AllReadyH.cons (o := { dst := some 82, op := Go.Op.call { callee := Go.Callee.value (Go.Operand.func 16), args := #[Go.Operand.tmp 81], argTypes := #[26] }, type := 27, pos := "law.go:41", after := #[{ on := 11, ground := Go.Ground.data }, { on := 10, ground := Go.Ground.chain }, { on := 10, ground := Go.Ground.guard }], guard := some (10, false) }) rfl (fun K hK => ?_) AllReadyH.nil
  go_simp
  refine (hchk.out _ a1 c1 (hs8.out.below hHeld)).mono ?_
  rintro e w9 ⟨rfl, b9⟩
  have hw9 := hHeld.trans (b9.mono hHeld.size)
  have hs9 := Lib.hid (hs8.out.below hw9)
  go_simp
  refine hK.out _ _ (hw9) (fun hHeld => ?_)
  clear hK K
  try simp only [Act.put, List.setIfInBounds_toArray, List.set_cons_zero, List.set_cons_succ]
  refine wpAnyH_now hHeld (fun hHeld => ?_)
  replace hc0 := rebase hc0 (hw9)
  replace hc1 := rebase hc1 (hw9)
  refine wpAnyH_take (i := 13) (oi := { dst := some 83, op := Go.Op.binOp Go.BinOp.neq 27 (Go.Operand.tmp 82) (Go.Operand.const (Go.Value.int Go.IntKind.i64 0)) 27, type := 4, pos := "law.go:41", after := #[{ on := 12, ground := Go.Ground.data }, { on := 10, ground := Go.Ground.guard }], guard := some (10, false) }) (v := ?v25) rfl (by kernel_rfl) (by kernel_rfl) (by kernel_rfl) (fun _ _ _ h => h) (Or.inl ⟨by kernel_rfl, ?h25⟩) (by assumption) ?r25
  case h25 => (intro w hSw; (try dsimp only at hSw); go_simp; try with_reducible rfl)
  try simp only [Act.put, List.setIfInBounds_toArray, List.set_cons_zero, List.set_cons_succ]
  refine wpAnyH_take (i := 14) (oi := { dst := some 84, op := Go.Op.pick (Go.Operand.tmp 80) (Go.Operand.const (Go.Value.bool true)) (Go.Operand.tmp 83), type := 4, pos := "law.go:41", after := #[{ on := 10, ground := Go.Ground.data }, { on := 13, ground := Go.Ground.data }], guard := none }) (v := ?v26) rfl (by kernel_rfl) (by kernel_rfl) (by kernel_rfl) (fun _ _ _ h => h) (Or.inl ⟨by kernel_rfl, ?h26⟩) (by assumption) ?r26
  case h26 => (intro w hSw; (try dsimp only at hSw); go_simp; try with_reducible rfl)
  try simp only [Act.put, List.setIfInBounds_toArray, List.set_cons_zero, List.set_cons_succ]
  refine wpAnyH_take (i := 15) (oi := { dst := some 85, op := Go.Op.move (Go.Operand.tmp 84), type := 4, pos := "law.go:41", after := #[{ on := 14, ground := Go.Ground.data }, { on := 12, ground := Go.Ground.chain }], guard := none }) (v := ?v27) rfl (by kernel_rfl) (by kernel_rfl) (by kernel_rfl) (fun _ _ _ h => h) (Or.inl ⟨by kernel_rfl, ?h27⟩) (by assumption) ?r27
  case h27 => (intro w hSw; (try dsimp only at hSw); go_simp; try with_reducible rfl)
  try simp only [Act.put, List.setIfInBounds_toArray, List.set_cons_zero, List.set_cons_succ]
  refine wpAnyH_take (i := 16) (oi := { dst := some 86, op := Go.Op.load 26 (Go.Operand.tmp 5), type := 26, pos := "law.go:41", after := #[{ on := 15, ground := Go.Ground.guard }], guard := some (15, false) }) (v := ?v28) rfl (by kernel_rfl) (by kernel_rfl) (by kernel_rfl) (fun _ _ _ h => h) (Or.inl ⟨by kernel_rfl, ?h28⟩) (by assumption) ?r28
  case h28 => (intro w hSw; (try dsimp only at hSw); go_simp; try with_reducible rfl)
  try simp only [Act.put, List.setIfInBounds_toArray, List.set_cons_zero, List.set_cons_succ]
  refine wpAnyH_take (i := 18) (oi := { dst := some 88, op := Go.Op.fieldAddr 26 (Go.Operand.tmp 5) 1, type := 0, pos := "law.go:41", after := #[{ on := 15, ground := Go.Ground.guard }], guard := some (15, false) }) (v := ?v29) rfl (by kernel_rfl) (by kernel_rfl) (by kernel_rfl) (fun _ _ _ h => h) (Or.inl ⟨by kernel_rfl, ?h29⟩) (by assumption) ?r29
  case h29 => (intro w hSw; (try dsimp only at hSw); go_simp; try with_reducible rfl)
  try simp only [Act.put, List.setIfInBounds_toArray, List.set_cons_zero, List.set_cons_succ]
  refine wpAnyH_take (i := 19) (oi := { dst := some 89, op := Go.Op.load 22 (Go.Operand.tmp 88), type := 22, pos := "law.go:41", after := #[{ on := 18, ground := Go.Ground.data }, { on := 15, ground := Go.Ground.guard }], guard := some (15, false) }) (v := ?v30) rfl (by kernel_rfl) (by kernel_rfl) (by kernel_rfl) (fun _ _ _ h => h) (Or.inl ⟨by kernel_rfl, ?h30⟩) (by assumption) ?r30
  case h30 => (intro w hSw; (try dsimp only at hSw); go_simp; try with_reducible rfl)
  try simp only [Act.put, List.setIfInBounds_toArray, List.set_cons_zero, List.set_cons_succ]
  refine wpAnyH_take (i := 20) (oi := { dst := some 90, op := Go.Op.call { callee := Go.Callee.builtin Go.Builtin.len, args := #[Go.Operand.tmp 89], argTypes := #[22] }, type := 3, pos := "law.go:41", after := #[{ on := 19, ground := Go.Ground.data }, { on := 15, ground := Go.Ground.guard }], guard := some (15, false) }) (v := ?v31) rfl (by kernel_rfl) (by kernel_rfl) (by kernel_rfl) (fun _ _ _ h => h) (Or.inl ⟨by kernel_rfl, ?h31⟩) (by assumption) ?r31
  case h31 => (intro w hSw; (try dsimp only at hSw); go_simp; try with_reducible rfl)
  try simp only [Act.put, List.setIfInBounds_toArray, List.set_cons_zero, List.set_cons_succ]
  refine wpAnyH_take (i := 21) (oi := { dst := some 91, op := Go.Op.binOp Go.BinOp.eql 3 (Go.Operand.tmp 90) (Go.Operand.const (Go.Value.int Go.IntKind.i64 0)) 3, type := 4, pos := "law.go:41", after := #[{ on := 20, ground := Go.Ground.data }, { on := 15, ground := Go.Ground.guard }], guard := some (15, false) }) (v := ?v32) rfl (by kernel_rfl) (by kernel_rfl) (by kernel_rfl) (fun _ _ _ h => h) (Or.inl ⟨by kernel_rfl, ?h32⟩) (by assumption) ?r32
  case h32 => (intro w hSw; (try dsimp only at hSw); go_simp; try with_reducible rfl)
  try simp only [Act.put, List.setIfInBounds_toArray, List.set_cons_zero, List.set_cons_succ]
  refine wpAnyH_ready (rs := [17]) (by kernel_rfl) (by simp) ?_
  refine AllReadyH.cons (o := { dst := some 87, op := Go.Op.call { callee := Go.Callee.value (Go.Operand.func 17), args := #[Go.Operand.tmp 86], argTypes := #[26] }, type := 4, pos := "law.go:41", after := #[{ on := 16, ground := Go.Ground.data }, { on := 15, ground := Go.Ground.chain }, { on := 15, ground := Go.Ground.guard }], guard := some (15, false) }) rfl (fun K hK => ?_) AllReadyH.nil
  go_simp
  refine (hemp.out _ a1 c1 (hs9.out.below hHeld)).mono ?_
  rintro e w10 ⟨rfl, b10⟩
  have hw10 := hHeld.trans (b10.mono hHeld.size)
  have hs10 := Lib.hid (hs9.out.below hw10)
  go_simp
  refine hK.out _ _ (hw10) (fun hHeld => ?_)
  clear hK K
  try simp only [Act.put, List.setIfInBounds_toArray, List.set_cons_zero, List.set_cons_succ]
  refine wpAnyH_now hHeld (fun hHeld => ?_)
  replace hc0 := rebase hc0 (hw10)
  replace hc1 := rebase hc1 (hw10)
  refine wpAnyH_take (i := 22) (oi := { dst := some 92, op := Go.Op.binOp Go.BinOp.neq 4 (Go.Operand.tmp 87) (Go.Operand.tmp 91) 4, type := 4, pos := "law.go:41", after := #[{ on := 17, ground := Go.Ground.data }, { on := 21, ground := Go.Ground.data }, { on := 15, ground := Go.Ground.guard }], guard := some (15, false) }) (v := ?v33) rfl (by kernel_rfl) (by kernel_rfl) (by kernel_rfl) (fun _ _ _ h => h) (Or.inl ⟨by kernel_rfl, ?h33⟩) (by assumption) ?r33
  case h33 => (intro w hSw; (try dsimp only at hSw); go_simp; try with_reducible rfl)
  try simp only [Act.put, List.setIfInBounds_toArray, List.set_cons_zero, List.set_cons_succ]
  refine wpAnyH_take (i := 23) (oi := { dst := some 93, op := Go.Op.pick (Go.Operand.tmp 85) (Go.Operand.const (Go.Value.bool true)) (Go.Operand.tmp 92), type := 4, pos := "law.go:41", after := #[{ on := 15, ground := Go.Ground.data }, { on := 22, ground := Go.Ground.data }], guard := none }) (v := ?v34) rfl (by kernel_rfl) (by kernel_rfl) (by kernel_rfl) (fun _ _ _ h => h) (Or.inl ⟨by kernel_rfl, ?h34⟩) (by assumption) ?r34
  case h34 => (intro w hSw; (try dsimp only at hSw); go_simp; try with_reducible rfl)
  try simp only [Act.put, List.setIfInBounds_toArray, List.set_cons_zero, List.set_cons_succ]
  refine wpAnyH_done (by kernel_rfl) ?_ _
  have bw10 := Lib.hid ((((bw'.out.trans (hw7.mono bw'.out.size)).trans (hw8.mono (by have := bw'.out.size; have := hw7.size; omega))).trans (hw9.mono (by have := bw'.out.size; have := hw7.size; have := hw8.size; omega))).trans (hw10.mono (by have := bw'.out.size; have := hw7.size; have := hw8.size; have := hw9.size; omega)))
  have hz10 := Lib.hid ((((hz1'.out.below hw7 hz1'.out.lt).below hw8 (by have := hz1'.out.lt; have := hw7.size; omega)).below hw9 (by have := hz1'.out.lt; have := hw7.size; have := hw8.size; omega)).below hw10 (by have := hz1'.out.lt; have := hw7.size; have := hw8.size; have := hw9.size; omega))
  have k0 := hz10.out.cell 0
  have k1 := hz10.out.cell 1
  have hq := Lib.hid (hcl2.out _ a1 c1 hs10.out)
  clear hc0 hc1 heq hs7 hs8 hs9 hz1' hs1' bw'
  go_wp2_with fail
  refine hq.out.mono ?_
  rintro e w11 ⟨a11, c11, rfl, s11, b11⟩
  have j0 : w11.cell? ⟨w1.heap.size, 0, none⟩ = some (.int .i64 n) := (hz10.out.below b11 hz10.out.lt).cell 0
  have j1 : w11.cell? ⟨w1.heap.size, 1, none⟩ = some (.slice a1 0 c1) := (hz10.out.below b11 hz10.out.lt).cell 1
  have j2 : w1.heap.size < w11.heap.size := (hz10.out.below b11 hz10.out.lt).lt
  have B11 := b11.trans ((box_below w11 #[.int .i64 0, .slice a11 0 c11] 26).mono b11.size)
  have bw11 := Lib.hid (bw10.out.trans (B11.mono bw10.out.size))
  clear s11 b11 B11 hq k0 k1
  go_wp2
  go_ret
  exact ⟨rfl, bw11.out⟩
set_option maxRecDepth 100000 in
set_option maxHeartbeats 2000000 in
theorem closes_full (n : Nat) (hn : n ≤ 8) (w : World) (a0 : Option Addr) (n0 c0 : Nat) (l0 : List Int) (S0 : SL w a0 n0 c0 l0) (hl : ¬ 200 < n0) (hsz : n0 = sz n) (hR : closedL n l0 ≠ []) : Calls Try.prog 3 #[.int .i64 n, .slice a0 n0 c0] w (Gives (.bool true) w) := by
  have hlg := Lib.hid (large_any a0 n0 c0 S0.max w)
  have e : decide (200 < (n0 : Int)) = false := decide_eq_false (by omega)
  rw [e] at hlg
  clear e
  have hm1 := closed_small hn l0
  have hcl := Lib.hid ((dclose_ok n hn a0 l0 n0 c0 S0.len hsz w S0.sees).mono (fun e w' h => ends_of (m := (closedL n l0).length) rfl (by omega) h))
  have hrc := Lib.hid (fun W (hW : Below w.heap.size w W) => (rclose_any n hn a0 l0 n0 c0 S0.len hsz W (S0.below hW).sees).mono (fun e w' h => zones_of (m := (closedL n l0).length) rfl (by omega) h))
  have hal := Lib.hid (fun W => (dall_ok n hn W).mono (fun e w' h => ends_of (m := sz n) (show (allL n).length = sz n from matL_len _ _) (by have := sz_le hn; omega) h))
  have hrall := Lib.hid (fun W => (rall_any n hn W).mono (fun e w' h => zones_of (m := sz n) (show (allL n).length = sz n from matL_len _ _) (by have := sz_le hn; omega) h))
  have hchk := Lib.hid (fun W a c (h : SL W a (closedL n l0).length c (closedL n l0)) => dcheck_any n a (closedL n l0).length c (closedL n l0) W h)
  have hemp := Lib.hid (fun W a c (h : SL W a (closedL n l0).length c (closedL n l0)) => empty_any n a (closedL n l0).length c (closedL n l0) W h)
  rw [(closed_chk hn l0).1] at hchk
  rw [(closed_chk hn l0).2] at hemp
  have hmay := Lib.hid (fun W => vars_any n W)
  rw [mayB_nat hn] at hmay
  have hs81 := sz_le hn
  have hni : (n : Int) ≤ 8 := by omega
  have v1 : IntKind.i64.wrap ((n : Int) + 1) = (n : Int) + 1 := wrap_small (by omega) (by omega)
  have v2 : IntKind.i64.wrap (((n : Int) + 1) * ((n : Int) + 1)) = (n0 : Int) := by rw [sz_int, hsz]; exact wrap_small (by omega) (by omega)
  rw [decide_eq_false hR] at hemp
  have hml : (closedL n l0).length = sz n := (closedL_is hR).1
  have hpos := sz_pos n
  have hcl2 := Lib.hid (fun W a c (h : SL W a (closedL n l0).length c (closedL n l0)) => (dclose_ok n hn a (closedL n l0) (closedL n l0).length c rfl hml W h.sees).mono (fun e w' h => ends_of (m := (closedL n l0).length) (by rw [closedL_again hR]) (by omega) h))
  rw [closedL_again hR] at hcl2
  have hm0 : (closedL n l0).length ≠ 0 := by rw [hml]; exact hpos
  clear hml hpos
  have hS0 := Lib.hid S0
  clear S0 hl hsz hR
  generalize hmm : (closedL n l0).length = m1 at *
  have hmm' := Lib.hid hmm
  clear hmm
  generalize closedL n l0 = R at *
  generalize hma : sz n = ma at *
  clear hma
  generalize allL n = la at *
  have e3 : ((m1 : Int) == 0) = false := by simp; omega
  have e4 : ¬ (m1 : Int) = 0 := by omega
  go_enter Try.func3, Try.ntmps3
  go_wp2_with fail
  refine hlg.out.mono ?_
  rintro e w1 ⟨rfl, rfl⟩
  go_wp2_with fail
  refine hcl.out.mono ?_
  rintro e w1 ⟨a1, c1, rfl, s1, b1⟩
  have B1 := Lib.hid (b1.trans ((box_below w1 #[.int .i64 n, .slice a1 m1 c1] 26).mono b1.size))
  have Z1 := Lib.hid (Holds.new w1 26 #[.int .i64 n, .slice a1 m1 c1])
  have S1 := Lib.hid (s1.below (box_below w1 #[.int .i64 n, .slice a1 m1 c1] 26))
  clear b1 s1 hcl hlg
  go_wp2_with fail
  refine (hal.out _).mono ?_
  rintro e w2 ⟨a2, c2, rfl, s2, b2⟩
  have B2 := b2.trans ((box_below w2 #[.int .i64 n, .slice a2 ma c2] 26).mono b2.size)
  have Z2 := Lib.hid (Holds.new w2 26 #[.int .i64 n, .slice a2 ma c2])
  have S2 := Lib.hid (s2.below (box_below w2 #[.int .i64 n, .slice a2 ma c2] 26))
  have Z1b := Lib.hid (Z1.out.below B2 Z1.out.lt)
  have S1b := Lib.hid (S1.out.below B2)
  have hl3 := Lib.hid (livesAt w _ (B1.out.trans (B2.mono B1.out.size)))
  clear b2 s2 B2 Z1 S1 B1 hal
  go_wp2_with fail
  refine hl3.out.mono ?_
  rintro e w4 ⟨rfl, b4, bw4⟩
  have hz1 := Lib.hid (Z1b.out.below b4 Z1b.out.lt)
  have hs1 := Lib.hid (S1b.out.below b4)
  have hz2 := Lib.hid (Z2.out.below b4 Z2.out.lt)
  have hs2 := Lib.hid (S2.out.below b4)
  have bw := Lib.hid bw4
  clear hl3 b4 bw4 Z1b S1b Z2 S2
  go_wp2_with fail
  refine (hmay.out _).mono ?_
  rintro e w5 ⟨rfl, rfl⟩
  clear hmay
  have hc0 : ∀ W, Below w4.heap.size w4 W → W.cell? ⟨w2.heap.size, 0, none⟩ = some (.int .i64 n) := fun W hW => (hz2.out.below hW hz2.out.lt).cell 0
  have hc1 : ∀ W, Below w4.heap.size w4 W → W.cell? ⟨w2.heap.size, 1, none⟩ = some (.slice a2 ma c2) := fun W hW => (hz2.out.below hW hz2.out.lt).cell 1
  go_wp2
  refine wp_drawn (by kernel_rfl) (fun hHeld => ?_)
  refine wpAnyH_take (i := 0) (oi := { dst := some 46, op := Go.Op.move (Go.Operand.tmp 8), type := 27, pos := "law.go:35", after := #[], guard := none }) (v := ?v35) rfl (by kernel_rfl) (by kernel_rfl) (by kernel_rfl) (fun _ _ _ h => h) (Or.inl ⟨by kernel_rfl, ?h35⟩) (by assumption) ?r35
  case h35 => (intro w hSw; (try dsimp only at hSw); go_simp; try with_reducible rfl)
  try simp only [Act.put, List.setIfInBounds_toArray, List.set_cons_zero, List.set_cons_succ]
  refine wpAnyH_take (i := 1) (oi := { dst := some 47, op := Go.Op.binOp Go.BinOp.neq 27 (Go.Operand.tmp 46) (Go.Operand.const (Go.Value.int Go.IntKind.i64 0)) 27, type := 4, pos := "law.go:35", after := #[{ on := 0, ground := Go.Ground.data }], guard := none }) (v := ?v36) rfl (by kernel_rfl) (by kernel_rfl) (by kernel_rfl) (fun _ _ _ h => h) (Or.inl ⟨by kernel_rfl, ?h36⟩) (by assumption) ?r36
  case h36 => (intro w hSw; (try dsimp only at hSw); go_simp; try with_reducible rfl)
  try simp only [Act.put, List.setIfInBounds_toArray, List.set_cons_zero, List.set_cons_succ]
  refine wpAnyH_take (i := 2) (oi := { dst := some 48, op := Go.Op.move (Go.Operand.tmp 47), type := 4, pos := "law.go:35", after := #[{ on := 1, ground := Go.Ground.data }], guard := none }) (v := ?v37) rfl (by kernel_rfl) (by kernel_rfl) (by kernel_rfl) (fun _ _ _ h => h) (Or.inl ⟨by kernel_rfl, ?h37⟩) (by assumption) ?r37
  case h37 => (intro w hSw; (try dsimp only at hSw); go_simp; try with_reducible rfl)
  try simp only [Act.put, List.setIfInBounds_toArray, List.set_cons_zero, List.set_cons_succ]
  refine wpAnyH_take (i := 3) (oi := { dst := some 49, op := Go.Op.load 26 (Go.Operand.tmp 7), type := 26, pos := "law.go:35", after := #[{ on := 2, ground := Go.Ground.guard }], guard := some (2, false) }) (v := ?v38) rfl (by kernel_rfl) (by kernel_rfl) (by kernel_rfl) (fun _ _ _ h => h) (Or.inl ⟨by kernel_rfl, ?h38⟩) (by assumption) ?r38
  case h38 => (intro w hSw; (try dsimp only at hSw); go_simp; try with_reducible rfl)
  try simp only [Act.put, List.setIfInBounds_toArray, List.set_cons_zero, List.set_cons_succ]
  refine wpAnyH_take (i := 4) (oi := { dst := some 50, op := Go.Op.move (Go.Operand.tmp 0), type := 3, pos := "law.go:35", after := #[{ on := 2, ground := Go.Ground.guard }], guard := some (2, false) }) (v := ?v39) rfl (by kernel_rfl) (by kernel_rfl) (by kernel_rfl) (fun _ _ _ h => h) (Or.inl ⟨by kernel_rfl, ?h39⟩) (by assumption) ?r39
  case h39 => (intro w hSw; (try dsimp only at hSw); go_simp; try with_reducible rfl)
  try simp only [Act.put, List.setIfInBounds_toArray, List.set_cons_zero, List.set_cons_succ]
  refine wpAnyH_ready (rs := [5]) (by kernel_rfl) (by simp) ?_
  refine AllReadyH.cons (o := { dst := some 51, op := Go.Op.call { callee := Go.Callee.value (Go.Operand.func 14), args := #[Go.Operand.tmp 50], argTypes := #[3] }, type := 26, pos := "law.go:35", after := #[{ on := 4, ground := Go.Ground.data }, { on := 2, ground := Go.Ground.chain }, { on := 2, ground := Go.Ground.guard }], guard := some (2, false) }) rfl (fun K hK => ?_) AllReadyH.nil
  go_simp
  refine (hrall.out _).mono ?_
  rintro e w5 ⟨a5, c5, rfl, s5, b5⟩
  have hw5 : Below w4.heap.size w4 w5 := hHeld.trans (b5.mono hHeld.size)
  have heq := Lib.hid (fun W (hW : Below w5.heap.size w5 W) => rsame_self n a2 a5 la ma c2 c5 W ((hs2.out.below hw5).below hW) (s5.below hW))
  go_simp
  refine hK.out _ _ (hw5) (fun hHeld => ?_)
  clear hK K
  try simp only [Act.put, List.setIfInBounds_toArray, List.set_cons_zero, List.set_cons_succ]
  refine wpAnyH_now hHeld (fun hHeld => ?_)
  replace hc0 := rebase hc0 (hw5)
  replace hc1 := rebase hc1 (hw5)
  refine wpAnyH_ready (rs := [6]) (by kernel_rfl) (by simp) ?_
  refine AllReadyH.cons (o := { dst := some 52, op := Go.Op.call { callee := Go.Callee.value (Go.Operand.func 13), args := #[Go.Operand.tmp 49, Go.Operand.tmp 51], argTypes := #[26, 26] }, type := 4, pos := "law.go:35", after := #[{ on := 3, ground := Go.Ground.data }, { on := 5, ground := Go.Ground.data }, { on := 5, ground := Go.Ground.chain }, { on := 2, ground := Go.Ground.guard }], guard := some (2, false) }) rfl (fun K hK => ?_) AllReadyH.nil
  go_simp
  refine (heq.out _ hHeld).mono ?_
  rintro e w6 ⟨rfl, b6⟩
  have hw6 := hHeld.trans (b6.mono hHeld.size)
  go_simp
  refine hK.out _ _ (hw6) (fun hHeld => ?_)
  clear hK K
  try simp only [Act.put, List.setIfInBounds_toArray, List.set_cons_zero, List.set_cons_succ]
  refine wpAnyH_now hHeld (fun hHeld => ?_)
  replace hc0 := rebase hc0 (hw6)
  replace hc1 := rebase hc1 (hw6)
  refine wpAnyH_take (i := 7) (oi := { dst := some 53, op := Go.Op.unOp Go.UnOp.not 4 (Go.Operand.tmp 52), type := 4, pos := "law.go:35", after := #[{ on := 6, ground := Go.Ground.data }, { on := 2, ground := Go.Ground.guard }], guard := some (2, false) }) (v := ?v40) rfl (by kernel_rfl) (by kernel_rfl) (by kernel_rfl) (fun _ _ _ h => h) (Or.inl ⟨by kernel_rfl, ?h40⟩) (by assumption) ?r40
  case h40 => (intro w hSw; (try dsimp only at hSw); go_simp; try with_reducible rfl)
  try simp only [Act.put, List.setIfInBounds_toArray, List.set_cons_zero, List.set_cons_succ]
  refine wpAnyH_take (i := 8) (oi := { dst := some 54, op := Go.Op.pick (Go.Operand.tmp 48) (Go.Operand.const (Go.Value.bool true)) (Go.Operand.tmp 53), type := 4, pos := "law.go:35", after := #[{ on := 2, ground := Go.Ground.data }, { on := 7, ground := Go.Ground.data }], guard := none }) (v := ?v41) rfl (by kernel_rfl) (by kernel_rfl) (by kernel_rfl) (fun _ _ _ h => h) (Or.inl ⟨by kernel_rfl, ?h41⟩) (by assumption) ?r41
  case h41 => (intro w hSw; (try dsimp only at hSw); go_simp; try with_reducible rfl)
  try simp only [Act.put, List.setIfInBounds_toArray, List.set_cons_zero, List.set_cons_succ]
  refine wpAnyH_done (by kernel_rfl) ?_ _
  have Bt := Lib.hid (hw5.trans (hw6.mono hw5.size))
  have hz1' := Lib.hid (hz1.out.below Bt.out hz1.out.lt)
  have hs1' := Lib.hid (hs1.out.below Bt.out)
  have bw' := Lib.hid (bw.out.trans (Bt.out.mono bw.out.size))
  clear hc0 hc1 hw5 hw6 heq hs2 hz2 hz1 hs1 bw Bt
  have hc0 : ∀ W, Below w6.heap.size w6 W → W.cell? ⟨w1.heap.size, 0, none⟩ = some (.int .i64 n) := fun W hW => (hz1'.out.below hW hz1'.out.lt).cell 0
  have hc1 : ∀ W, Below w6.heap.size w6 W → W.cell? ⟨w1.heap.size, 1, none⟩ = some (.slice a1 m1 c1) := fun W hW => (hz1'.out.below hW hz1'.out.lt).cell 1
  go_wp2
  refine wp_drawn (by kernel_rfl) (fun hHeld => ?_)
  refine wpAnyH_take (i := 0) (oi := { dst := some 70, op := Go.Op.move (Go.Operand.tmp 6), type := 27, pos := "law.go:41", after := #[], guard := none }) (v := ?v42) rfl (by kernel_rfl) (by kernel_rfl) (by kernel_rfl) (fun _ _ _ h => h) (Or.inl ⟨by kernel_rfl, ?h42⟩) (by assumption) ?r42
  case h42 => (intro w hSw; (try dsimp only at hSw); go_simp; try with_reducible rfl)
  try simp only [Act.put, List.setIfInBounds_toArray, List.set_cons_zero, List.set_cons_succ]
  refine wpAnyH_take (i := 1) (oi := { dst := some 71, op := Go.Op.binOp Go.BinOp.neq 27 (Go.Operand.tmp 70) (Go.Operand.const (Go.Value.int Go.IntKind.i64 0)) 27, type := 4, pos := "law.go:41", after := #[{ on := 0, ground := Go.Ground.data }], guard := none }) (v := ?v43) rfl (by kernel_rfl) (by kernel_rfl) (by kernel_rfl) (fun _ _ _ h => h) (Or.inl ⟨by kernel_rfl, ?h43⟩) (by assumption) ?r43
  case h43 => (intro w hSw; (try dsimp only at hSw); go_simp; try with_reducible rfl)
  try simp only [Act.put, List.setIfInBounds_toArray, List.set_cons_zero, List.set_cons_succ]
  refine wpAnyH_take (i := 2) (oi := { dst := some 72, op := Go.Op.move (Go.Operand.tmp 71), type := 4, pos := "law.go:41", after := #[{ on := 1, ground := Go.Ground.data }], guard := none }) (v := ?v44) rfl (by kernel_rfl) (by kernel_rfl) (by kernel_rfl) (fun _ _ _ h => h) (Or.inl ⟨by kernel_rfl, ?h44⟩) (by assumption) ?r44
  case h44 => (intro w hSw; (try dsimp only at hSw); go_simp; try with_reducible rfl)
  try simp only [Act.put, List.setIfInBounds_toArray, List.set_cons_zero, List.set_cons_succ]
  refine wpAnyH_take (i := 3) (oi := { dst := some 73, op := Go.Op.load 26 (Go.Operand.tmp 5), type := 26, pos := "law.go:41", after := #[{ on := 2, ground := Go.Ground.guard }], guard := some (2, false) }) (v := ?v45) rfl (by kernel_rfl) (by kernel_rfl) (by kernel_rfl) (fun _ _ _ h => h) (Or.inl ⟨by kernel_rfl, ?h45⟩) (by assumption) ?r45
  case h45 => (intro w hSw; (try dsimp only at hSw); go_simp; try with_reducible rfl)
  try simp only [Act.put, List.setIfInBounds_toArray, List.set_cons_zero, List.set_cons_succ]
  refine wpAnyH_take (i := 4) (oi := { dst := some 74, op := Go.Op.move (Go.Operand.tmp 0), type := 3, pos := "law.go:41", after := #[{ on := 2, ground := Go.Ground.guard }], guard := some (2, false) }) (v := ?v46) rfl (by kernel_rfl) (by kernel_rfl) (by kernel_rfl) (fun _ _ _ h => h) (Or.inl ⟨by kernel_rfl, ?h46⟩) (by assumption) ?r46
  case h46 => (intro w hSw; (try dsimp only at hSw); go_simp; try with_reducible rfl)
  try simp only [Act.put, List.setIfInBounds_toArray, List.set_cons_zero, List.set_cons_succ]
  refine wpAnyH_take (i := 5) (oi := { dst := some 75, op := Go.Op.move (Go.Operand.tmp 1), type := 22, pos := "law.go:41", after := #[{ on := 2, ground := Go.Ground.guard }], guard := some (2, false) }) (v := ?v47) rfl (by kernel_rfl) (by kernel_rfl) (by kernel_rfl) (fun _ _ _ h => h) (Or.inl ⟨by kernel_rfl, ?h47⟩) (by assumption) ?r47
  case h47 => (intro w hSw; (try dsimp only at hSw); go_simp; try with_reducible rfl)
  try simp only [Act.put, List.setIfInBounds_toArray, List.set_cons_zero, List.set_cons_succ]
  refine wpAnyH_ready (rs := [6]) (by kernel_rfl) (by simp) ?_
  refine AllReadyH.cons (o := { dst := some 76, op := Go.Op.call { callee := Go.Callee.value (Go.Operand.func 15), args := #[Go.Operand.tmp 74, Go.Operand.tmp 75], argTypes := #[3, 22] }, type := 26, pos := "law.go:41", after := #[{ on := 4, ground := Go.Ground.data }, { on := 5, ground := Go.Ground.data }, { on := 2, ground := Go.Ground.chain }, { on := 2, ground := Go.Ground.guard }], guard := some (2, false) }) rfl (fun K hK => ?_) AllReadyH.nil
  go_simp
  refine (hrc.out _ (bw'.out.trans (hHeld.mono bw'.out.size))).mono ?_
  rintro e w7 ⟨a7, c7, rfl, s7, b7⟩
  have hw7 : Below w6.heap.size w6 w7 := hHeld.trans (b7.mono hHeld.size)
  have heq := Lib.hid (fun W (hW : Below w7.heap.size w7 W) => rsame_self n a1 a7 R m1 c1 c7 W ((hs1'.out.below hw7).below hW) (s7.below hW))
  have hs7 := Lib.hid (hs1'.out.below hw7)
  go_simp
  refine hK.out _ _ (hw7) (fun hHeld => ?_)
  clear hK K
  try simp only [Act.put, List.setIfInBounds_toArray, List.set_cons_zero, List.set_cons_succ]
  refine wpAnyH_now hHeld (fun hHeld => ?_)
  replace hc0 := rebase hc0 (hw7)
  replace hc1 := rebase hc1 (hw7)
  refine wpAnyH_ready (rs := [7]) (by kernel_rfl) (by simp) ?_
  refine AllReadyH.cons (o := { dst := some 77, op := Go.Op.call { callee := Go.Callee.value (Go.Operand.func 13), args := #[Go.Operand.tmp 73, Go.Operand.tmp 76], argTypes := #[26, 26] }, type := 4, pos := "law.go:41", after := #[{ on := 3, ground := Go.Ground.data }, { on := 6, ground := Go.Ground.data }, { on := 6, ground := Go.Ground.chain }, { on := 2, ground := Go.Ground.guard }], guard := some (2, false) }) rfl (fun K hK => ?_) AllReadyH.nil
  go_simp
  refine (heq.out _ hHeld).mono ?_
  rintro e w8 ⟨rfl, b8⟩
  have hw8 := hHeld.trans (b8.mono hHeld.size)
  have hs8 := Lib.hid (hs7.out.below hw8)
  go_simp
  refine hK.out _ _ (hw8) (fun hHeld => ?_)
  clear hK K
  try simp only [Act.put, List.setIfInBounds_toArray, List.set_cons_zero, List.set_cons_succ]
  refine wpAnyH_now hHeld (fun hHeld => ?_)
  replace hc0 := rebase hc0 (hw8)
  replace hc1 := rebase hc1 (hw8)
  refine wpAnyH_take (i := 8) (oi := { dst := some 78, op := Go.Op.unOp Go.UnOp.not 4 (Go.Operand.tmp 77), type := 4, pos := "law.go:41", after := #[{ on := 7, ground := Go.Ground.data }, { on := 2, ground := Go.Ground.guard }], guard := some (2, false) }) (v := ?v48) rfl (by kernel_rfl) (by kernel_rfl) (by kernel_rfl) (fun _ _ _ h => h) (Or.inl ⟨by kernel_rfl, ?h48⟩) (by assumption) ?r48
  case h48 => (intro w hSw; (try dsimp only at hSw); go_simp; try with_reducible rfl)
  try simp only [Act.put, List.setIfInBounds_toArray, List.set_cons_zero, List.set_cons_succ]
  refine wpAnyH_take (i := 9) (oi := { dst := some 79, op := Go.Op.pick (Go.Operand.tmp 72) (Go.Operand.const (Go.Value.bool true)) (Go.Operand.tmp 78), type := 4, pos := "law.go:41", after := #[{ on := 2, ground := Go.Ground.data }, { on := 8, ground := Go.Ground.data }], guard := none }) (v := ?v49) rfl (by kernel_rfl) (by kernel_rfl) (by kernel_rfl) (fun _ _ _ h => h) (Or.inl ⟨by kernel_rfl, ?h49⟩) (by assumption) ?r49
  case h49 => (intro w hSw; (try dsimp only at hSw); go_simp; try with_reducible rfl)
  try simp only [Act.put, List.setIfInBounds_toArray, List.set_cons_zero, List.set_cons_succ]
  refine wpAnyH_take (i := 10) (oi := { dst := some 80, op := Go.Op.move (Go.Operand.tmp 79), type := 4, pos := "law.go:41", after := #[{ on := 9, ground := Go.Ground.data }, { on := 7, ground := Go.Ground.chain }], guard := none }) (v := ?v50) rfl (by kernel_rfl) (by kernel_rfl) (by kernel_rfl) (fun _ _ _ h => h) (Or.inl ⟨by kernel_rfl, ?h50⟩) (by assumption) ?r50
  case h50 => (intro w hSw; (try dsimp only at hSw); go_simp; try with_reducible rfl)
  try simp only [Act.put, List.setIfInBounds_toArray, List.set_cons_zero, List.set_cons_succ]
  refine wpAnyH_take (i := 11) (oi := { dst := some 81, op := Go.Op.load 26 (Go.Operand.tmp 5), type := 26, pos := "law.go:41", after := #[{ on := 10, ground := Go.Ground.guard }], guard := some (10, false) }) (v := ?v51) rfl (by kernel_rfl) (by kernel_rfl) (by kernel_rfl) (fun _ _ _ h => h) (Or.inl ⟨by kernel_rfl, ?h51⟩) (by assumption) ?r51
  case h51 => (intro w hSw; (try dsimp only at hSw); go_simp; try with_reducible rfl)
  try simp only [Act.put, List.setIfInBounds_toArray, List.set_cons_zero, List.set_cons_succ]
  refine wpAnyH_ready (rs := [12]) (by kernel_rfl) (by simp) ?_
  refine AllReadyH.cons (o := { dst := some 82, op := Go.Op.call { callee := Go.Callee.value (Go.Operand.func 16), args := #[Go.Operand.tmp 81], argTypes := #[26] }, type := 27, pos := "law.go:41", after := #[{ on := 11, ground := Go.Ground.data }, { on := 10, ground := Go.Ground.chain }, { on := 10, ground := Go.Ground.guard }], guard := some (10, false) }) rfl (fun K hK => ?_) AllReadyH.nil
  go_simp
  refine (hchk.out _ a1 c1 (hs8.out.below hHeld)).mono ?_
  rintro e w9 ⟨rfl, b9⟩
  have hw9 := hHeld.trans (b9.mono hHeld.size)
  have hs9 := Lib.hid (hs8.out.below hw9)
  go_simp
  refine hK.out _ _ (hw9) (fun hHeld => ?_)
  clear hK K
  try simp only [Act.put, List.setIfInBounds_toArray, List.set_cons_zero, List.set_cons_succ]
  refine wpAnyH_now hHeld (fun hHeld => ?_)
  replace hc0 := rebase hc0 (hw9)
  replace hc1 := rebase hc1 (hw9)
  refine wpAnyH_take (i := 13) (oi := { dst := some 83, op := Go.Op.binOp Go.BinOp.neq 27 (Go.Operand.tmp 82) (Go.Operand.const (Go.Value.int Go.IntKind.i64 0)) 27, type := 4, pos := "law.go:41", after := #[{ on := 12, ground := Go.Ground.data }, { on := 10, ground := Go.Ground.guard }], guard := some (10, false) }) (v := ?v52) rfl (by kernel_rfl) (by kernel_rfl) (by kernel_rfl) (fun _ _ _ h => h) (Or.inl ⟨by kernel_rfl, ?h52⟩) (by assumption) ?r52
  case h52 => (intro w hSw; (try dsimp only at hSw); go_simp; try with_reducible rfl)
  try simp only [Act.put, List.setIfInBounds_toArray, List.set_cons_zero, List.set_cons_succ]
  refine wpAnyH_take (i := 14) (oi := { dst := some 84, op := Go.Op.pick (Go.Operand.tmp 80) (Go.Operand.const (Go.Value.bool true)) (Go.Operand.tmp 83), type := 4, pos := "law.go:41", after := #[{ on := 10, ground := Go.Ground.data }, { on := 13, ground := Go.Ground.data }], guard := none }) (v := ?v53) rfl (by kernel_rfl) (by kernel_rfl) (by kernel_rfl) (fun _ _ _ h => h) (Or.inl ⟨by kernel_rfl, ?h53⟩) (by assumption) ?r53
  case h53 => (intro w hSw; (try dsimp only at hSw); go_simp; try with_reducible rfl)
  try simp only [Act.put, List.setIfInBounds_toArray, List.set_cons_zero, List.set_cons_succ]
  refine wpAnyH_take (i := 15) (oi := { dst := some 85, op := Go.Op.move (Go.Operand.tmp 84), type := 4, pos := "law.go:41", after := #[{ on := 14, ground := Go.Ground.data }, { on := 12, ground := Go.Ground.chain }], guard := none }) (v := ?v54) rfl (by kernel_rfl) (by kernel_rfl) (by kernel_rfl) (fun _ _ _ h => h) (Or.inl ⟨by kernel_rfl, ?h54⟩) (by assumption) ?r54
  case h54 => (intro w hSw; (try dsimp only at hSw); go_simp; try with_reducible rfl)
  try simp only [Act.put, List.setIfInBounds_toArray, List.set_cons_zero, List.set_cons_succ]
  refine wpAnyH_take (i := 16) (oi := { dst := some 86, op := Go.Op.load 26 (Go.Operand.tmp 5), type := 26, pos := "law.go:41", after := #[{ on := 15, ground := Go.Ground.guard }], guard := some (15, false) }) (v := ?v55) rfl (by kernel_rfl) (by kernel_rfl) (by kernel_rfl) (fun _ _ _ h => h) (Or.inl ⟨by kernel_rfl, ?h55⟩) (by assumption) ?r55
  case h55 => (intro w hSw; (try dsimp only at hSw); go_simp; try with_reducible rfl)
  try simp only [Act.put, List.setIfInBounds_toArray, List.set_cons_zero, List.set_cons_succ]
  refine wpAnyH_take (i := 18) (oi := { dst := some 88, op := Go.Op.fieldAddr 26 (Go.Operand.tmp 5) 1, type := 0, pos := "law.go:41", after := #[{ on := 15, ground := Go.Ground.guard }], guard := some (15, false) }) (v := ?v56) rfl (by kernel_rfl) (by kernel_rfl) (by kernel_rfl) (fun _ _ _ h => h) (Or.inl ⟨by kernel_rfl, ?h56⟩) (by assumption) ?r56
  case h56 => (intro w hSw; (try dsimp only at hSw); go_simp; try with_reducible rfl)
  try simp only [Act.put, List.setIfInBounds_toArray, List.set_cons_zero, List.set_cons_succ]
  refine wpAnyH_take (i := 19) (oi := { dst := some 89, op := Go.Op.load 22 (Go.Operand.tmp 88), type := 22, pos := "law.go:41", after := #[{ on := 18, ground := Go.Ground.data }, { on := 15, ground := Go.Ground.guard }], guard := some (15, false) }) (v := ?v57) rfl (by kernel_rfl) (by kernel_rfl) (by kernel_rfl) (fun _ _ _ h => h) (Or.inl ⟨by kernel_rfl, ?h57⟩) (by assumption) ?r57
  case h57 => (intro w hSw; (try dsimp only at hSw); go_simp; try with_reducible rfl)
  try simp only [Act.put, List.setIfInBounds_toArray, List.set_cons_zero, List.set_cons_succ]
  refine wpAnyH_take (i := 20) (oi := { dst := some 90, op := Go.Op.call { callee := Go.Callee.builtin Go.Builtin.len, args := #[Go.Operand.tmp 89], argTypes := #[22] }, type := 3, pos := "law.go:41", after := #[{ on := 19, ground := Go.Ground.data }, { on := 15, ground := Go.Ground.guard }], guard := some (15, false) }) (v := ?v58) rfl (by kernel_rfl) (by kernel_rfl) (by kernel_rfl) (fun _ _ _ h => h) (Or.inl ⟨by kernel_rfl, ?h58⟩) (by assumption) ?r58
  case h58 => (intro w hSw; (try dsimp only at hSw); go_simp; try with_reducible rfl)
  try simp only [Act.put, List.setIfInBounds_toArray, List.set_cons_zero, List.set_cons_succ]
  refine wpAnyH_take (i := 21) (oi := { dst := some 91, op := Go.Op.binOp Go.BinOp.eql 3 (Go.Operand.tmp 90) (Go.Operand.const (Go.Value.int Go.IntKind.i64 0)) 3, type := 4, pos := "law.go:41", after := #[{ on := 20, ground := Go.Ground.data }, { on := 15, ground := Go.Ground.guard }], guard := some (15, false) }) (v := ?v59) rfl (by kernel_rfl) (by kernel_rfl) (by kernel_rfl) (fun _ _ _ h => h) (Or.inl ⟨by kernel_rfl, ?h59⟩) (by assumption) ?r59
  case h59 => (intro w hSw; (try dsimp only at hSw); go_simp; try with_reducible rfl)
  try simp only [Act.put, List.setIfInBounds_toArray, List.set_cons_zero, List.set_cons_succ]
  refine wpAnyH_ready (rs := [17]) (by kernel_rfl) (by simp) ?_
  refine AllReadyH.cons (o := { dst := some 87, op := Go.Op.call { callee := Go.Callee.value (Go.Operand.func 17), args := #[Go.Operand.tmp 86], argTypes := #[26] }, type := 4, pos := "law.go:41", after := #[{ on := 16, ground := Go.Ground.data }, { on := 15, ground := Go.Ground.chain }, { on := 15, ground := Go.Ground.guard }], guard := some (15, false) }) rfl (fun K hK => ?_) AllReadyH.nil
  go_simp
  refine (hemp.out _ a1 c1 (hs9.out.below hHeld)).mono ?_
  rintro e w10 ⟨rfl, b10⟩
  have hw10 := hHeld.trans (b10.mono hHeld.size)
  have hs10 := Lib.hid (hs9.out.below hw10)
  go_simp
  refine hK.out _ _ (hw10) (fun hHeld => ?_)
  clear hK K
  try simp only [Act.put, List.setIfInBounds_toArray, List.set_cons_zero, List.set_cons_succ]
  refine wpAnyH_now hHeld (fun hHeld => ?_)
  replace hc0 := rebase hc0 (hw10)
  replace hc1 := rebase hc1 (hw10)
  refine wpAnyH_take (i := 22) (oi := { dst := some 92, op := Go.Op.binOp Go.BinOp.neq 4 (Go.Operand.tmp 87) (Go.Operand.tmp 91) 4, type := 4, pos := "law.go:41", after := #[{ on := 17, ground := Go.Ground.data }, { on := 21, ground := Go.Ground.data }, { on := 15, ground := Go.Ground.guard }], guard := some (15, false) }) (v := ?v60) rfl (by kernel_rfl) (by kernel_rfl) (by kernel_rfl) (fun _ _ _ h => h) (Or.inl ⟨by kernel_rfl, ?h60⟩) (by assumption) ?r60
  case h60 => (intro w hSw; (try dsimp only at hSw); go_simp; try with_reducible rfl)
  try simp only [Act.put, List.setIfInBounds_toArray, List.set_cons_zero, List.set_cons_succ]
  refine wpAnyH_take (i := 23) (oi := { dst := some 93, op := Go.Op.pick (Go.Operand.tmp 85) (Go.Operand.const (Go.Value.bool true)) (Go.Operand.tmp 92), type := 4, pos := "law.go:41", after := #[{ on := 15, ground := Go.Ground.data }, { on := 22, ground := Go.Ground.data }], guard := none }) (v := ?v61) rfl (by kernel_rfl) (by kernel_rfl) (by kernel_rfl) (fun _ _ _ h => h) (Or.inl ⟨by kernel_rfl, ?h61⟩) (by assumption) ?r61
  case h61 => (intro w hSw; (try dsimp only at hSw); go_simp; try with_reducible rfl)
  try simp only [Act.put, List.setIfInBounds_toArray, List.set_cons_zero, List.set_cons_succ]
  refine wpAnyH_done (by kernel_rfl) ?_ _
  have bw10 := Lib.hid ((((bw'.out.trans (hw7.mono bw'.out.size)).trans (hw8.mono (by have := bw'.out.size; have := hw7.size; omega))).trans (hw9.mono (by have := bw'.out.size; have := hw7.size; have := hw8.size; omega))).trans (hw10.mono (by have := bw'.out.size; have := hw7.size; have := hw8.size; have := hw9.size; omega)))
  have hz10 := Lib.hid ((((hz1'.out.below hw7 hz1'.out.lt).below hw8 (by have := hz1'.out.lt; have := hw7.size; omega)).below hw9 (by have := hz1'.out.lt; have := hw7.size; have := hw8.size; omega)).below hw10 (by have := hz1'.out.lt; have := hw7.size; have := hw8.size; have := hw9.size; omega))
  have k0 := hz10.out.cell 0
  have k1 := hz10.out.cell 1
  have hq := Lib.hid (hcl2.out _ a1 c1 hs10.out)
  clear hc0 hc1 heq hs7 hs8 hs9 hz1' hs1' bw'
  go_wp2_with fail
  refine hq.out.mono ?_
  rintro e w11 ⟨a11, c11, rfl, s11, b11⟩
  have j0 : w11.cell? ⟨w1.heap.size, 0, none⟩ = some (.int .i64 n) := (hz10.out.below b11 hz10.out.lt).cell 0
  have j1 : w11.cell? ⟨w1.heap.size, 1, none⟩ = some (.slice a1 m1 c1) := (hz10.out.below b11 hz10.out.lt).cell 1
  have j2 : w1.heap.size < w11.heap.size := (hz10.out.below b11 hz10.out.lt).lt
  have B11 := b11.trans ((box_below w11 #[.int .i64 n, .slice a11 m1 c11] 26).mono b11.size)
  have hq2 := Lib.hid (dsame_self n a11 a1 R m1 c11 c1 _ (s11.below (box_below w11 #[.int .i64 n, .slice a11 m1 c11] 26)) (hs10.out.below B11))
  have bw11 := Lib.hid (bw10.out.trans (B11.mono bw10.out.size))
  clear s11 b11 B11 hq k0 k1
  go_wp2_with fail
  refine hq2.out.mono ?_
  rintro e w12 ⟨rfl, b12⟩
  have bw12 := Lib.hid (bw11.out.trans (b12.mono bw11.out.size))
  clear b12
  go_wp2
  go_ret
  exact ⟨rfl, bw12.out⟩
theorem dbmCloses_walk (w : World) (n : Int) (hn0 : (Lit.int .i64 n).wf = true) (a0 : Option Addr) (n0 c0 : Nat) (l0 : List Int) (hl0 : l0.length = n0) (hm0 : n0 ≤ maxLen) (hc0 : n0 ≤ c0) (hw0 : ∀ n ∈ l0, (Lit.int .i64 n).wf = true) (hs0 : Sees .i64 w.heap.size w a0 l0) :
    Calls Try.prog 3 #[.int .i64 n, .slice a0 n0 c0] w (Gives (.bool true) w) := by
  have S0 : SL w a0 n0 c0 l0 := ⟨hl0.symm, hc0, by unfold maxLen at hm0; omega, hs0⟩
  by_cases hl : 200 < n0
  · exact closes_large w n a0 n0 c0 l0 S0 hl
  cases hm : mayB n
  · exact closes_no w n a0 n0 c0 l0 S0 hl hm
  · obtain ⟨k, rfl, hk⟩ := mayB_of hm
    by_cases hsz : n0 = sz k
    · by_cases hR : closedL k l0 = []
      · exact closes_nil k hk w a0 n0 c0 l0 S0 hl hsz hR
      · exact closes_full k hk w a0 n0 c0 l0 S0 hl hsz hR
    · exact closes_len k hk w a0 n0 c0 l0 S0 hl hsz
end Go.Proofs.Ytmfdkffekgodgaa
