import Derived.Test.YtplgmmjppmpnoaaGreatDoorQ12
import Derived.Test.YtplgmmjppmpnoaaGreatDoorQ14
/- Two states of the same values are the same, by the document. -/
namespace Go.Proofs.YtplgmmjppmpnoaaGreatDoor
open Go.RowKit
set_option linter.unusedVariables false
set_option linter.unusedSimpArgs false

set_option maxRecDepth 100000 in
set_option maxHeartbeats 1000000 in
theorem psame_any (a1 a2 : Option Addr) (l : List Int) (m c1 c2 : Nat) (w : World) (h1 : SL w a1 m c1 l) (h2 : SL w a2 m c2 l) :
    Calls Tryz.prog 16 #[.agg #[.int .i64 0, .slice a1 m c1], .agg #[.int .i64 0, .slice a2 m c2]] w (Gives (.bool true) w) := by
  obtain ⟨W1, hW1⟩ : ∃ W1, W1 = (w.alloc (.cells #[.int .i64 0, .slice a1 m c1] 43)).alloc (.cells #[.int .i64 0, .slice a2 m c2] 43) := ⟨_, rfl⟩
  have hB : Below w.heap.size w W1 := by rw [hW1]; exact (box_below _ _ _).alloc (by simp) _
  have g1 := Lib.hid (h1.below hB)
  have g2 := Lib.hid (h2.below hB)
  have z1 : Holds W1 w.heap.size 43 #[.int .i64 0, .slice a1 m c1] := by rw [hW1]; exact (Holds.new w _ _).alloc _
  have z2 : Holds W1 (w.heap.size + 1) 43 #[.int .i64 0, .slice a2 m c2] := by
    rw [hW1]
    have := Holds.new (w.alloc (.cells #[.int .i64 0, .slice a1 m c1] 43)) 43 #[.int .i64 0, .slice a2 m c2]
    simpa using this
  have k0 := z1.cell 0
  have k1 := z1.cell 1
  have k2 := z2.cell 0
  have k3 := z2.cell 1
  have hB' := Lib.hid hB
  have hmi : (m : Int) ≤ 9223372036854775807 := by have := h1.max; omega
  have hW1' := Lib.hid hW1
  clear h1 h2 z1 z2 hB hW1
  go_enter Tryz.func16, Tryz.ntmps16
  go_wp2
  rw [← hW1'.out]
  clear hW1'
  go_loopw [5] (fun x wr => ∃ k j : Nat, k ≤ m ∧ x = .int .i64 k ∧ wr = W1.drewN j) (fun x _ => m - (intOf x).toNat)
  case atStart => exact ⟨0, 0, Nat.zero_le _, rfl, rfl⟩
  case round =>
    obtain ⟨k, j, hk, rfl, rfl⟩ := hrel
    by_cases hlt : k < m
    · obtain ⟨b1, o1, rfl, -, e1⟩ := sees_at' g1.out.sees (i := k) (by have := g1.out.len; omega)
      obtain ⟨b2, o2, rfl, -, e2⟩ := sees_at' g2.out.sees (i := k) (by have := g2.out.len; omega)
      have hki : (k : Int) < (m : Int) := by omega
      generalize l.getD k 0 = x at *
      go_wp2
      go_quiet (fail)
      go_wp2
      go_roundw
      case rel => exact ⟨k + 1, j + nq, by omega, by go_num, by simp [World.drewN, Nat.add_assoc]⟩
      case measure => simp [intOf]; omega
    · go_wp2
      go_ret
      exact ⟨rfl, Below.drewN hB'.out j⟩
end Go.Proofs.YtplgmmjppmpnoaaGreatDoor
/- PostBack: the walk of the statement's function: the gates, and where the values stay. (Written by gen-post-back.py.) -/
namespace Go.Proofs.YtplgmmjppmpnoaaGreatDoor
open Go.RowKit
set_option linter.unusedVariables false
set_option linter.unusedSimpArgs false

theorem zoneE_lenB {n E : Int} {l : List Int} {w w' : World} {e : Ending} (hl : l.length ≤ 81) (h : ZoneE n l E w e w') : ∃ a c, e = .returned (.tuple #[.agg #[.int .i64 n, .slice a l.length c], .int .i64 E]) ∧ SL w' a l.length c l ∧ Below w.heap.size w w' := by
  obtain ⟨a, c, rfl, hc, hs, hb, -⟩ := h
  exact ⟨a, c, rfl, ⟨rfl, hc, by omega, hs⟩, hb⟩
set_option maxRecDepth 100000 in
set_option maxHeartbeats 4000000 in
theorem pback_g1 (mv : Nat) (n k x y c d : Int) (a av : Option Addr) (m ca cv : Nat) (l v : List Int) (w : World) (h1 : SL w a m ca l) (h2 : SL w av mv cv v) (g1 : 200 < m) : Calls Tryz.prog 4 #[.agg #[.int .i64 n, .slice a m ca], .agg #[.int .i64 k, .int .i64 x, .int .i64 y, .int .i64 c, .int .i64 d], .slice av mv cv] w (Gives (.bool true) w) := by
  obtain ⟨W1, hW1⟩ : ∃ W1, W1 = (w.alloc (.cells #[.int .i64 n, .slice a m ca] 24)).alloc (.cells #[.int .i64 k, .int .i64 x, .int .i64 y, .int .i64 c, .int .i64 d] 26) := ⟨_, rfl⟩
  have Z1 : Hid (Holds W1 (w.heap.size) 24 #[.int .i64 n, .slice a m ca]) := Lib.hid (by rw [hW1]; exact (Holds.new w _ _).alloc _)
  have Zs : Hid (Holds W1 (w.heap.size + 1) 26 #[.int .i64 k, .int .i64 x, .int .i64 y, .int .i64 c, .int .i64 d]) := Lib.hid (by rw [hW1]; have q := Holds.new (w.alloc (.cells #[.int .i64 n, .slice a m ca] 24)) 26 #[.int .i64 k, .int .i64 x, .int .i64 y, .int .i64 c, .int .i64 d]; simpa using q)
  have BL := Lib.hid (show Below w.heap.size w W1 by rw [hW1]; exact (box_below _ _ _).alloc (by simp) _)
  have S1 := Lib.hid (h1.below BL.out)
  have S2 := Lib.hid (h2.below BL.out)
  have hW1' := Lib.hid hW1
  clear hW1
  clear h1 h2
  go_enter Tryz.func4, Tryz.ntmps4
  have k1 := Z1.out.cell 0
  have k2 := Z1.out.cell 1
  have k3 := Zs.out.cell 0
  have k4 := Zs.out.cell 1
  have k5 := Zs.out.cell 2
  have k6 := Zs.out.cell 3
  have k7 := Zs.out.cell 4
  have q := Lib.hid (by have := large_any a m ca S1.out.max W1; rwa [decide_eq_true (show (200 : Int) < (m : Int) by omega)] at this)
  go_wp2_with fail
  rw [← hW1'.out]
  with_reducible refine q.out.mono ?_
  rintro e u1 ⟨rfl, rfl⟩
  clear hW1'
  clear q
  go_wp2_with fail
  refine (plives_any _).mono ?_
  rintro e w9 ⟨rfl, b9⟩
  have bw := Lib.hid (BL.out.trans (b9.mono BL.out.size))
  clear b9
  clear k1 k2 k3 k4 k5 k6 k7
  go_wp2
  go_ret
  exact ⟨rfl, bw.out⟩
set_option maxRecDepth 100000 in
set_option maxHeartbeats 4000000 in
theorem pback_g2 (mv : Nat) (n k x y c d : Int) (a av : Option Addr) (m ca cv : Nat) (l v : List Int) (w : World) (h1 : SL w a m ca l) (h2 : SL w av mv cv v) (g1 : ¬ 200 < m) (g2 : 20 < mv) : Calls Tryz.prog 4 #[.agg #[.int .i64 n, .slice a m ca], .agg #[.int .i64 k, .int .i64 x, .int .i64 y, .int .i64 c, .int .i64 d], .slice av mv cv] w (Gives (.bool true) w) := by
  have p2 : (20 : Int) < (mv : Int) := by omega
  obtain ⟨W1, hW1⟩ : ∃ W1, W1 = (w.alloc (.cells #[.int .i64 n, .slice a m ca] 24)).alloc (.cells #[.int .i64 k, .int .i64 x, .int .i64 y, .int .i64 c, .int .i64 d] 26) := ⟨_, rfl⟩
  have Z1 : Hid (Holds W1 (w.heap.size) 24 #[.int .i64 n, .slice a m ca]) := Lib.hid (by rw [hW1]; exact (Holds.new w _ _).alloc _)
  have Zs : Hid (Holds W1 (w.heap.size + 1) 26 #[.int .i64 k, .int .i64 x, .int .i64 y, .int .i64 c, .int .i64 d]) := Lib.hid (by rw [hW1]; have q := Holds.new (w.alloc (.cells #[.int .i64 n, .slice a m ca] 24)) 26 #[.int .i64 k, .int .i64 x, .int .i64 y, .int .i64 c, .int .i64 d]; simpa using q)
  have BL := Lib.hid (show Below w.heap.size w W1 by rw [hW1]; exact (box_below _ _ _).alloc (by simp) _)
  have S1 := Lib.hid (h1.below BL.out)
  have S2 := Lib.hid (h2.below BL.out)
  have hW1' := Lib.hid hW1
  clear hW1
  clear h1 h2
  go_enter Tryz.func4, Tryz.ntmps4
  have k1 := Z1.out.cell 0
  have k2 := Z1.out.cell 1
  have k3 := Zs.out.cell 0
  have k4 := Zs.out.cell 1
  have k5 := Zs.out.cell 2
  have k6 := Zs.out.cell 3
  have k7 := Zs.out.cell 4
  have q := Lib.hid (by have := large_any a m ca S1.out.max W1; rwa [decide_eq_false (show ¬ (200 : Int) < (m : Int) by omega)] at this)
  go_wp2_with fail
  rw [← hW1'.out]
  with_reducible refine q.out.mono ?_
  rintro e u1 ⟨rfl, rfl⟩
  clear hW1'
  clear q
  go_wp2_with fail
  refine (plives_any _).mono ?_
  rintro e w9 ⟨rfl, b9⟩
  have bw := Lib.hid (BL.out.trans (b9.mono BL.out.size))
  clear b9
  clear k1 k2 k3 k4 k5 k6 k7
  go_wp2
  go_ret
  exact ⟨rfl, bw.out⟩
set_option maxRecDepth 100000 in
set_option maxHeartbeats 4000000 in
theorem pback_g3 (mv : Nat) (n k x y c d : Int) (a av : Option Addr) (m ca cv : Nat) (l v : List Int) (w : World) (h1 : SL w a m ca l) (h2 : SL w av mv cv v) (g1 : ¬ 200 < m) (g2 : ¬ 20 < mv) (g3 : pchk n l k x y c d ≠ 0) : Calls Tryz.prog 4 #[.agg #[.int .i64 n, .slice a m ca], .agg #[.int .i64 k, .int .i64 x, .int .i64 y, .int .i64 c, .int .i64 d], .slice av mv cv] w (Gives (.bool true) w) := by
  have p2 : ¬ (20 : Int) < (mv : Int) := by omega
  obtain ⟨E, hE⟩ : ∃ E, pchk n l k x y c d = E := ⟨_, rfl⟩
  have hck := Lib.hid hE
  rw [hE] at g3
  have gb : (E != 0) = true := by simpa using g3
  clear hE g3
  obtain ⟨W1, hW1⟩ : ∃ W1, W1 = (w.alloc (.cells #[.int .i64 n, .slice a m ca] 24)).alloc (.cells #[.int .i64 k, .int .i64 x, .int .i64 y, .int .i64 c, .int .i64 d] 26) := ⟨_, rfl⟩
  have Z1 : Hid (Holds W1 (w.heap.size) 24 #[.int .i64 n, .slice a m ca]) := Lib.hid (by rw [hW1]; exact (Holds.new w _ _).alloc _)
  have Zs : Hid (Holds W1 (w.heap.size + 1) 26 #[.int .i64 k, .int .i64 x, .int .i64 y, .int .i64 c, .int .i64 d]) := Lib.hid (by rw [hW1]; have q := Holds.new (w.alloc (.cells #[.int .i64 n, .slice a m ca] 24)) 26 #[.int .i64 k, .int .i64 x, .int .i64 y, .int .i64 c, .int .i64 d]; simpa using q)
  have BL := Lib.hid (show Below w.heap.size w W1 by rw [hW1]; exact (box_below _ _ _).alloc (by simp) _)
  have S1 := Lib.hid (h1.below BL.out)
  have S2 := Lib.hid (h2.below BL.out)
  have hW1' := Lib.hid hW1
  clear hW1
  clear h1 h2
  go_enter Tryz.func4, Tryz.ntmps4
  have k1 := Z1.out.cell 0
  have k2 := Z1.out.cell 1
  have k3 := Zs.out.cell 0
  have k4 := Zs.out.cell 1
  have k5 := Zs.out.cell 2
  have k6 := Zs.out.cell 3
  have k7 := Zs.out.cell 4
  have q := Lib.hid (by have := large_any a m ca S1.out.max W1; rwa [decide_eq_false (show ¬ (200 : Int) < (m : Int) by omega)] at this)
  go_wp2_with fail
  rw [← hW1'.out]
  with_reducible refine q.out.mono ?_
  rintro e u1 ⟨rfl, rfl⟩
  clear hW1'
  clear q
  have q := Lib.hid (by have := rchk_any n k x y c d l a m ca W1 S1.out; rwa [hck.out] at this)
  go_wp2_with fail
  with_reducible refine q.out.mono ?_
  rintro e u3 ⟨rfl, b3⟩
  clear k1 k2 k3 k4 k5 k6 k7
  clear q
  have k8 : u3.cell? ⟨w.heap.size, 0, none⟩ = some (.int .i64 n) := (Z1.out.below b3 Z1.out.lt).cell 0
  have k9 : u3.cell? ⟨w.heap.size, 1, none⟩ = some (.slice a m ca) := (Z1.out.below b3 Z1.out.lt).cell 1
  have k10 : u3.cell? ⟨w.heap.size + 1, 0, none⟩ = some (.int .i64 k) := (Zs.out.below b3 Zs.out.lt).cell 0
  have k11 : u3.cell? ⟨w.heap.size + 1, 1, none⟩ = some (.int .i64 x) := (Zs.out.below b3 Zs.out.lt).cell 1
  have k12 : u3.cell? ⟨w.heap.size + 1, 2, none⟩ = some (.int .i64 y) := (Zs.out.below b3 Zs.out.lt).cell 2
  have k13 : u3.cell? ⟨w.heap.size + 1, 3, none⟩ = some (.int .i64 c) := (Zs.out.below b3 Zs.out.lt).cell 3
  have k14 : u3.cell? ⟨w.heap.size + 1, 4, none⟩ = some (.int .i64 d) := (Zs.out.below b3 Zs.out.lt).cell 4
  replace Z1 := Lib.hid (Z1.out.below b3 Z1.out.lt)
  replace Zs := Lib.hid (Zs.out.below b3 Zs.out.lt)
  replace BL := Lib.hid (BL.out.trans (b3.mono BL.out.size))
  replace S1 := Lib.hid (S1.out.below b3)
  replace S2 := Lib.hid (S2.out.below b3)
  clear b3
  go_wp2_with fail
  refine (plives_any _).mono ?_
  rintro e w9 ⟨rfl, b9⟩
  have bw := Lib.hid (BL.out.trans (b9.mono BL.out.size))
  clear b9
  clear k8 k9 k10 k11 k12 k13 k14
  go_wp2
  go_ret
  exact ⟨rfl, bw.out⟩
set_option maxRecDepth 100000 in
set_option maxHeartbeats 4000000 in
theorem pback_not (n mv : Nat) (k x y c d : Int) (a av : Option Addr) (m ca cv : Nat) (l v : List Int) (w : World) (h1 : SL w a m ca l) (h2 : SL w av mv cv v) (g1 : ¬ 200 < m) (z1 : IsZ n l) (hr : rightB k x y c d n = true) (g2 : ¬ 20 < mv) (hA : hasB n (postL n l k x y c d) v = false) : Calls Tryz.prog 4 #[.agg #[.int .i64 n, .slice a m ca], .agg #[.int .i64 k, .int .i64 x, .int .i64 y, .int .i64 c, .int .i64 d], .slice av mv cv] w (Gives (.bool true) w) := by
  have hck : Hid (pchk n l k x y c d = 0) := Lib.hid (by unfold pchk; rw [z1.check, hr]; simp)
  have hXP := postL_isz z1 k x y c d
  have qA := Lib.hid (fun W hs => (post_ok n k x y c d l z1 hr a m ca W hs).mono (fun e w' h => zoneE_lenB hXP.small h))
  have qHa := Lib.hid (fun W a2 m2 c2 (hs2 : SL W a2 m2 c2 (postL n l k x y c d)) (hs : SL W av mv cv v) => has_any n a2 m2 c2 _ av mv cv v W hs2 hs)
  rw [hA] at qHa
  have p2 : ¬ (20 : Int) < (mv : Int) := by omega
  clear z1 hr hXP hA
  generalize postL n l k x y c d = P at *
  obtain ⟨W1, hW1⟩ : ∃ W1, W1 = (w.alloc (.cells #[.int .i64 n, .slice a m ca] 24)).alloc (.cells #[.int .i64 k, .int .i64 x, .int .i64 y, .int .i64 c, .int .i64 d] 26) := ⟨_, rfl⟩
  have Z1 : Hid (Holds W1 (w.heap.size) 24 #[.int .i64 n, .slice a m ca]) := Lib.hid (by rw [hW1]; exact (Holds.new w _ _).alloc _)
  have Zs : Hid (Holds W1 (w.heap.size + 1) 26 #[.int .i64 k, .int .i64 x, .int .i64 y, .int .i64 c, .int .i64 d]) := Lib.hid (by rw [hW1]; have q := Holds.new (w.alloc (.cells #[.int .i64 n, .slice a m ca] 24)) 26 #[.int .i64 k, .int .i64 x, .int .i64 y, .int .i64 c, .int .i64 d]; simpa using q)
  have BL := Lib.hid (show Below w.heap.size w W1 by rw [hW1]; exact (box_below _ _ _).alloc (by simp) _)
  have S1 := Lib.hid (h1.below BL.out)
  have S2 := Lib.hid (h2.below BL.out)
  have hW1' := Lib.hid hW1
  clear hW1
  clear h1 h2
  go_enter Tryz.func4, Tryz.ntmps4
  have k1 := Z1.out.cell 0
  have k2 := Z1.out.cell 1
  have k3 := Zs.out.cell 0
  have k4 := Zs.out.cell 1
  have k5 := Zs.out.cell 2
  have k6 := Zs.out.cell 3
  have k7 := Zs.out.cell 4
  have q := Lib.hid (by have := large_any a m ca S1.out.max W1; rwa [decide_eq_false (show ¬ (200 : Int) < (m : Int) by omega)] at this)
  go_wp2_with fail
  rw [← hW1'.out]
  with_reducible refine q.out.mono ?_
  rintro e u1 ⟨rfl, rfl⟩
  clear hW1'
  clear q
  have q := Lib.hid (by have := rchk_any n k x y c d l a m ca W1 S1.out; rwa [hck.out] at this)
  go_wp2_with fail
  with_reducible refine q.out.mono ?_
  rintro e u3 ⟨rfl, b3⟩
  clear k1 k2 k3 k4 k5 k6 k7
  clear q
  have k8 : u3.cell? ⟨w.heap.size, 0, none⟩ = some (.int .i64 n) := (Z1.out.below b3 Z1.out.lt).cell 0
  have k9 : u3.cell? ⟨w.heap.size, 1, none⟩ = some (.slice a m ca) := (Z1.out.below b3 Z1.out.lt).cell 1
  have k10 : u3.cell? ⟨w.heap.size + 1, 0, none⟩ = some (.int .i64 k) := (Zs.out.below b3 Zs.out.lt).cell 0
  have k11 : u3.cell? ⟨w.heap.size + 1, 1, none⟩ = some (.int .i64 x) := (Zs.out.below b3 Zs.out.lt).cell 1
  have k12 : u3.cell? ⟨w.heap.size + 1, 2, none⟩ = some (.int .i64 y) := (Zs.out.below b3 Zs.out.lt).cell 2
  have k13 : u3.cell? ⟨w.heap.size + 1, 3, none⟩ = some (.int .i64 c) := (Zs.out.below b3 Zs.out.lt).cell 3
  have k14 : u3.cell? ⟨w.heap.size + 1, 4, none⟩ = some (.int .i64 d) := (Zs.out.below b3 Zs.out.lt).cell 4
  replace Z1 := Lib.hid (Z1.out.below b3 Z1.out.lt)
  replace Zs := Lib.hid (Zs.out.below b3 Zs.out.lt)
  replace BL := Lib.hid (BL.out.trans (b3.mono BL.out.size))
  replace S1 := Lib.hid (S1.out.below b3)
  replace S2 := Lib.hid (S2.out.below b3)
  clear b3
  have q := Lib.hid (qA.out _ S1.out)
  go_wp2_with fail
  with_reducible refine q.out.mono ?_
  rintro e uA ⟨aA, cA, rfl, sA, bA⟩
  clear k8 k9 k10 k11 k12 k13 k14
  clear q qA
  have B0 := box_below uA #[.int .i64 n, .slice aA P.length cA] 24
  have B := bA.trans (B0.mono bA.size)
  replace Z1 := Lib.hid (Z1.out.below B Z1.out.lt)
  replace Zs := Lib.hid (Zs.out.below B Zs.out.lt)
  replace BL := Lib.hid (BL.out.trans (B.mono BL.out.size))
  replace S1 := Lib.hid (S1.out.below B)
  replace S2 := Lib.hid (S2.out.below B)
  have ZA := Lib.hid (Holds.new uA 24 #[.int .i64 n, .slice aA P.length cA])
  have SA := Lib.hid (sA.below B0)
  clear bA B B0 sA
  have q := Lib.hid (plives_any (uA.alloc (.cells #[.int .i64 n, .slice aA P.length cA] 24)))
  go_wp2_with fail
  with_reducible refine q.out.mono ?_
  rintro e uL ⟨rfl, bL⟩
  clear q
  have k15 : uL.cell? ⟨uA.heap.size, 0, none⟩ = some (.int .i64 n) := (ZA.out.below bL ZA.out.lt).cell 0
  have k16 : uL.cell? ⟨uA.heap.size, 1, none⟩ = some (.slice aA P.length cA) := (ZA.out.below bL ZA.out.lt).cell 1
  replace Z1 := Lib.hid (Z1.out.below bL Z1.out.lt)
  replace Zs := Lib.hid (Zs.out.below bL Zs.out.lt)
  replace ZA := Lib.hid (ZA.out.below bL ZA.out.lt)
  replace BL := Lib.hid (BL.out.trans (bL.mono BL.out.size))
  replace S1 := Lib.hid (S1.out.below bL)
  replace S2 := Lib.hid (S2.out.below bL)
  replace SA := Lib.hid (SA.out.below bL)
  clear bL
  have q := Lib.hid (qHa.out _ aA _ cA SA.out S2.out)
  go_wp2_with fail
  with_reducible refine q.out.mono ?_
  rintro e uH ⟨rfl, bH⟩
  clear k15 k16
  clear q qHa
  have k17 : uH.cell? ⟨w.heap.size, 0, none⟩ = some (.int .i64 n) := (Z1.out.below bH Z1.out.lt).cell 0
  have k18 : uH.cell? ⟨w.heap.size, 1, none⟩ = some (.slice a m ca) := (Z1.out.below bH Z1.out.lt).cell 1
  have k19 : uH.cell? ⟨w.heap.size + 1, 0, none⟩ = some (.int .i64 k) := (Zs.out.below bH Zs.out.lt).cell 0
  have k20 : uH.cell? ⟨w.heap.size + 1, 1, none⟩ = some (.int .i64 x) := (Zs.out.below bH Zs.out.lt).cell 1
  have k21 : uH.cell? ⟨w.heap.size + 1, 2, none⟩ = some (.int .i64 y) := (Zs.out.below bH Zs.out.lt).cell 2
  have k22 : uH.cell? ⟨w.heap.size + 1, 3, none⟩ = some (.int .i64 c) := (Zs.out.below bH Zs.out.lt).cell 3
  have k23 : uH.cell? ⟨w.heap.size + 1, 4, none⟩ = some (.int .i64 d) := (Zs.out.below bH Zs.out.lt).cell 4
  replace Z1 := Lib.hid (Z1.out.below bH Z1.out.lt)
  replace Zs := Lib.hid (Zs.out.below bH Zs.out.lt)
  replace ZA := Lib.hid (ZA.out.below bH ZA.out.lt)
  replace BL := Lib.hid (BL.out.trans (bH.mono BL.out.size))
  replace S1 := Lib.hid (S1.out.below bH)
  replace S2 := Lib.hid (S2.out.below bH)
  replace SA := Lib.hid (SA.out.below bH)
  clear bH
  clear k17 k18 k19 k20 k21 k22 k23
  go_wp2
  go_ret
  exact ⟨rfl, BL.out⟩
set_option maxRecDepth 100000 in
set_option maxHeartbeats 4000000 in
theorem pback_same (n : Nat) (k x y c d : Int) (a av : Option Addr) (m ca cv : Nat) (l v : List Int) (w : World) (h1 : SL w a m ca l) (h2 : SL w av n cv v) (g1 : ¬ 200 < m) (z1 : IsZ n l) (hr : rightB k x y c d n = true) (hn8 : n ≤ 8) (hk2 : (k == 2) = false) (hk3 : (k == 3) = false) (hA : hasB n (postL n l k x y c d) v = true) (hZ : hasB n l v = true) (hD : ∀ W a3 c3, SL W a3 n c3 v → Calls Tryz.prog 12 #[.agg #[.int .i64 k, .int .i64 x, .int .i64 y, .int .i64 c, .int .i64 d], .slice a3 n c3, .int .i64 0] W (DoS 0 n v W)) : Calls Tryz.prog 4 #[.agg #[.int .i64 n, .slice a m ca], .agg #[.int .i64 k, .int .i64 x, .int .i64 y, .int .i64 c, .int .i64 d], .slice av n cv] w (Gives (.bool true) w) := by
  have hck : Hid (pchk n l k x y c d = 0) := Lib.hid (by unfold pchk; rw [z1.check, hr]; simp)
  have hXP := postL_isz z1 k x y c d
  have qA := Lib.hid (fun W hs => (post_ok n k x y c d l z1 hr a m ca W hs).mono (fun e w' h => zoneE_lenB hXP.small h))
  have qHa := Lib.hid (fun W a2 m2 c2 (hs2 : SL W a2 m2 c2 (postL n l k x y c d)) (hs : SL W av n cv v) => has_any n a2 m2 c2 _ av n cv v W hs2 hs)
  rw [hA] at qHa
  have p2 : ¬ (20 : Int) < (n : Int) := by omega
  have qD := Lib.hid hD
  have qHz := Lib.hid (fun W a3 c3 (hs2 : SL W a m ca l) (hs : SL W a3 n c3 v) => has_any n a m ca l a3 n c3 v W hs2 hs)
  rw [hZ] at qHz
  have hlm := Lib.hid (show v.length = n from h2.len.symm)
  obtain ⟨i0, hii, hz0, hz1, hz2⟩ := info_parts infoInt
  clear z1 hr hXP hA hZ hD
  generalize postL n l k x y c d = P at *
  obtain ⟨W1, hW1⟩ : ∃ W1, W1 = (w.alloc (.cells #[.int .i64 n, .slice a m ca] 24)).alloc (.cells #[.int .i64 k, .int .i64 x, .int .i64 y, .int .i64 c, .int .i64 d] 26) := ⟨_, rfl⟩
  have Z1 : Hid (Holds W1 (w.heap.size) 24 #[.int .i64 n, .slice a m ca]) := Lib.hid (by rw [hW1]; exact (Holds.new w _ _).alloc _)
  have Zs : Hid (Holds W1 (w.heap.size + 1) 26 #[.int .i64 k, .int .i64 x, .int .i64 y, .int .i64 c, .int .i64 d]) := Lib.hid (by rw [hW1]; have q := Holds.new (w.alloc (.cells #[.int .i64 n, .slice a m ca] 24)) 26 #[.int .i64 k, .int .i64 x, .int .i64 y, .int .i64 c, .int .i64 d]; simpa using q)
  have BL := Lib.hid (show Below w.heap.size w W1 by rw [hW1]; exact (box_below _ _ _).alloc (by simp) _)
  have S1 := Lib.hid (h1.below BL.out)
  have S2 := Lib.hid (h2.below BL.out)
  have hW1' := Lib.hid hW1
  clear hW1
  clear h1 h2
  go_enter Tryz.func4, Tryz.ntmps4
  have k1 := Z1.out.cell 0
  have k2 := Z1.out.cell 1
  have k3 := Zs.out.cell 0
  have k4 := Zs.out.cell 1
  have k5 := Zs.out.cell 2
  have k6 := Zs.out.cell 3
  have k7 := Zs.out.cell 4
  have q := Lib.hid (by have := large_any a m ca S1.out.max W1; rwa [decide_eq_false (show ¬ (200 : Int) < (m : Int) by omega)] at this)
  go_wp2_with fail
  rw [← hW1'.out]
  with_reducible refine q.out.mono ?_
  rintro e u1 ⟨rfl, rfl⟩
  clear hW1'
  clear q
  have q := Lib.hid (by have := rchk_any n k x y c d l a m ca W1 S1.out; rwa [hck.out] at this)
  go_wp2_with fail
  with_reducible refine q.out.mono ?_
  rintro e u3 ⟨rfl, b3⟩
  clear k1 k2 k3 k4 k5 k6 k7
  clear q
  have k8 : u3.cell? ⟨w.heap.size, 0, none⟩ = some (.int .i64 n) := (Z1.out.below b3 Z1.out.lt).cell 0
  have k9 : u3.cell? ⟨w.heap.size, 1, none⟩ = some (.slice a m ca) := (Z1.out.below b3 Z1.out.lt).cell 1
  have k10 : u3.cell? ⟨w.heap.size + 1, 0, none⟩ = some (.int .i64 k) := (Zs.out.below b3 Zs.out.lt).cell 0
  have k11 : u3.cell? ⟨w.heap.size + 1, 1, none⟩ = some (.int .i64 x) := (Zs.out.below b3 Zs.out.lt).cell 1
  have k12 : u3.cell? ⟨w.heap.size + 1, 2, none⟩ = some (.int .i64 y) := (Zs.out.below b3 Zs.out.lt).cell 2
  have k13 : u3.cell? ⟨w.heap.size + 1, 3, none⟩ = some (.int .i64 c) := (Zs.out.below b3 Zs.out.lt).cell 3
  have k14 : u3.cell? ⟨w.heap.size + 1, 4, none⟩ = some (.int .i64 d) := (Zs.out.below b3 Zs.out.lt).cell 4
  replace Z1 := Lib.hid (Z1.out.below b3 Z1.out.lt)
  replace Zs := Lib.hid (Zs.out.below b3 Zs.out.lt)
  replace BL := Lib.hid (BL.out.trans (b3.mono BL.out.size))
  replace S1 := Lib.hid (S1.out.below b3)
  replace S2 := Lib.hid (S2.out.below b3)
  clear b3
  have q := Lib.hid (qA.out _ S1.out)
  go_wp2_with fail
  with_reducible refine q.out.mono ?_
  rintro e uA ⟨aA, cA, rfl, sA, bA⟩
  clear k8 k9 k10 k11 k12 k13 k14
  clear q qA
  have B0 := box_below uA #[.int .i64 n, .slice aA P.length cA] 24
  have B := bA.trans (B0.mono bA.size)
  replace Z1 := Lib.hid (Z1.out.below B Z1.out.lt)
  replace Zs := Lib.hid (Zs.out.below B Zs.out.lt)
  replace BL := Lib.hid (BL.out.trans (B.mono BL.out.size))
  replace S1 := Lib.hid (S1.out.below B)
  replace S2 := Lib.hid (S2.out.below B)
  have ZA := Lib.hid (Holds.new uA 24 #[.int .i64 n, .slice aA P.length cA])
  have SA := Lib.hid (sA.below B0)
  clear bA B B0 sA
  have q := Lib.hid (plives_any (uA.alloc (.cells #[.int .i64 n, .slice aA P.length cA] 24)))
  go_wp2_with fail
  with_reducible refine q.out.mono ?_
  rintro e uL ⟨rfl, bL⟩
  clear q
  have k15 : uL.cell? ⟨uA.heap.size, 0, none⟩ = some (.int .i64 n) := (ZA.out.below bL ZA.out.lt).cell 0
  have k16 : uL.cell? ⟨uA.heap.size, 1, none⟩ = some (.slice aA P.length cA) := (ZA.out.below bL ZA.out.lt).cell 1
  replace Z1 := Lib.hid (Z1.out.below bL Z1.out.lt)
  replace Zs := Lib.hid (Zs.out.below bL Zs.out.lt)
  replace ZA := Lib.hid (ZA.out.below bL ZA.out.lt)
  replace BL := Lib.hid (BL.out.trans (bL.mono BL.out.size))
  replace S1 := Lib.hid (S1.out.below bL)
  replace S2 := Lib.hid (S2.out.below bL)
  replace SA := Lib.hid (SA.out.below bL)
  clear bL
  have q := Lib.hid (qHa.out _ aA _ cA SA.out S2.out)
  go_wp2_with fail
  with_reducible refine q.out.mono ?_
  rintro e uH ⟨rfl, bH⟩
  clear k15 k16
  clear q qHa
  have k17 : uH.cell? ⟨w.heap.size, 0, none⟩ = some (.int .i64 n) := (Z1.out.below bH Z1.out.lt).cell 0
  have k18 : uH.cell? ⟨w.heap.size, 1, none⟩ = some (.slice a m ca) := (Z1.out.below bH Z1.out.lt).cell 1
  have k19 : uH.cell? ⟨w.heap.size + 1, 0, none⟩ = some (.int .i64 k) := (Zs.out.below bH Zs.out.lt).cell 0
  have k20 : uH.cell? ⟨w.heap.size + 1, 1, none⟩ = some (.int .i64 x) := (Zs.out.below bH Zs.out.lt).cell 1
  have k21 : uH.cell? ⟨w.heap.size + 1, 2, none⟩ = some (.int .i64 y) := (Zs.out.below bH Zs.out.lt).cell 2
  have k22 : uH.cell? ⟨w.heap.size + 1, 3, none⟩ = some (.int .i64 c) := (Zs.out.below bH Zs.out.lt).cell 3
  have k23 : uH.cell? ⟨w.heap.size + 1, 4, none⟩ = some (.int .i64 d) := (Zs.out.below bH Zs.out.lt).cell 4
  replace Z1 := Lib.hid (Z1.out.below bH Z1.out.lt)
  replace Zs := Lib.hid (Zs.out.below bH Zs.out.lt)
  replace ZA := Lib.hid (ZA.out.below bH ZA.out.lt)
  replace BL := Lib.hid (BL.out.trans (bH.mono BL.out.size))
  replace S1 := Lib.hid (S1.out.below bH)
  replace S2 := Lib.hid (S2.out.below bH)
  replace SA := Lib.hid (SA.out.below bH)
  clear bH
  go_wp2_with (at_builtin; refine wpList_append_sees _ rfl (.tmp 50) (.tmp 51) 22 rfl uH 3 i0 (.int .i64 0) 8 Tryz.underlying22 hii hz0 hz1 hz2 rfl .i64 _ [] (by exact own_empty 3 .i64 (Below.refl _ uH)) (by exact box_below _ _ _) uH.heap.size av v (by exact S2.out.sees.below (box_below _ _ _)) n cv hlm.out.symm rfl rfl (by have := hlm.out; simp; omega) (by omega) ?_; intro v2 w2 hown2 hw2; simp only [List.nil_append] at hown2; have hcp := hown2; obtain ⟨a3, c3, e3, h3, s3⟩ := sees_own hown2; rw [hlm.out] at e3; subst e3; have hcap := own_cap hcp; have S3 := Lib.hid (show SL w2 a3 n c3 v from ⟨hlm.out.symm, hcap, by omega, s3⟩); have b2 := Lib.hid hw2; clear hown2 hw2 hcp h3 s3 hcap; have r0 := (Zs.out.below b2.out Zs.out.lt).cell 0; have r1 := (Zs.out.below b2.out Zs.out.lt).cell 1; have r2 := (Zs.out.below b2.out Zs.out.lt).cell 2; have r3 := (Zs.out.below b2.out Zs.out.lt).cell 3; have r4 := (Zs.out.below b2.out Zs.out.lt).cell 4)
  clear k17 k18 k19 k20 k21 k22 k23
  replace Z1 := Lib.hid (Z1.out.below b2.out Z1.out.lt)
  replace Zs := Lib.hid (Zs.out.below b2.out Zs.out.lt)
  replace ZA := Lib.hid (ZA.out.below b2.out ZA.out.lt)
  replace BL := Lib.hid (BL.out.trans (b2.out.mono BL.out.size))
  replace S1 := Lib.hid (S1.out.below b2.out)
  replace S2 := Lib.hid (S2.out.below b2.out)
  replace SA := Lib.hid (SA.out.below b2.out)
  clear b2
  have q := Lib.hid (qD.out _ a3 c3 S3.out)
  go_wp2_with fail
  with_reducible refine q.out.mono ?_
  rintro e uD ⟨aD, cD, rfl, sD, bD⟩
  clear q qD
  have k24 : uD.cell? ⟨w.heap.size, 0, none⟩ = some (.int .i64 n) := (Z1.out.below bD Z1.out.lt).cell 0
  have k25 : uD.cell? ⟨w.heap.size, 1, none⟩ = some (.slice a m ca) := (Z1.out.below bD Z1.out.lt).cell 1
  replace Z1 := Lib.hid (Z1.out.below bD Z1.out.lt)
  replace Zs := Lib.hid (Zs.out.below bD Zs.out.lt)
  replace ZA := Lib.hid (ZA.out.below bD ZA.out.lt)
  replace BL := Lib.hid (BL.out.trans (bD.mono BL.out.size))
  replace S1 := Lib.hid (S1.out.below bD)
  replace S2 := Lib.hid (S2.out.below bD)
  replace SA := Lib.hid (SA.out.below bD)
  replace S3 := Lib.hid (S3.out.below bD)
  have SD := Lib.hid (sD)
  clear bD sD
  have q := Lib.hid (qHz.out _ a3 c3 S1.out S3.out)
  go_wp2_with fail
  with_reducible refine q.out.mono ?_
  rintro e uZ ⟨rfl, bZ⟩
  clear k24 k25
  clear q qHz
  replace Z1 := Lib.hid (Z1.out.below bZ Z1.out.lt)
  replace Zs := Lib.hid (Zs.out.below bZ Zs.out.lt)
  replace ZA := Lib.hid (ZA.out.below bZ ZA.out.lt)
  replace BL := Lib.hid (BL.out.trans (bZ.mono BL.out.size))
  replace S1 := Lib.hid (S1.out.below bZ)
  replace S2 := Lib.hid (S2.out.below bZ)
  replace SA := Lib.hid (SA.out.below bZ)
  replace S3 := Lib.hid (S3.out.below bZ)
  replace SD := Lib.hid (SD.out.below bZ)
  clear bZ
  have q := Lib.hid (psame_any aD av v n cD cv _ SD.out S2.out)
  go_wp2_with fail
  with_reducible refine q.out.mono ?_
  rintro e uS ⟨rfl, bS⟩
  clear q
  replace Z1 := Lib.hid (Z1.out.below bS Z1.out.lt)
  replace Zs := Lib.hid (Zs.out.below bS Zs.out.lt)
  replace ZA := Lib.hid (ZA.out.below bS ZA.out.lt)
  replace BL := Lib.hid (BL.out.trans (bS.mono BL.out.size))
  replace S1 := Lib.hid (S1.out.below bS)
  replace S2 := Lib.hid (S2.out.below bS)
  replace SA := Lib.hid (SA.out.below bS)
  replace S3 := Lib.hid (S3.out.below bS)
  replace SD := Lib.hid (SD.out.below bS)
  clear bS
  go_wp2
  go_ret
  exact ⟨rfl, BL.out⟩
end Go.Proofs.YtplgmmjppmpnoaaGreatDoor
/- PostBack: where a value moves, and where it was any. (Written by gen-post-back2.py.) -/
namespace Go.Proofs.YtplgmmjppmpnoaaGreatDoor
open Go.RowKit
set_option linter.unusedVariables false
set_option linter.unusedSimpArgs false

theorem sees_cell {B : Nat} {w : World} {b off : Nat} {l : List Int} (h : Sees .i64 B w (some ⟨b, off, none⟩) l) {i : Nat} (hi : i < l.length) : w.cell? ⟨b, off + i, none⟩ = some (.int .i64 (l.getD i 0)) := by
  obtain ⟨b', off', e, _, hc⟩ := sees_at' h hi
  injection e with e
  injection e with e1 e2 e3
  subst e1 e2
  exact hc
set_option maxRecDepth 100000 in
set_option maxHeartbeats 4000000 in
theorem pback_mov (n i : Nat) (c : Int) (a : Option Addr) (b off m ca cv : Nat) (l v ws : List Int) (w : World) (h1 : SL w a m ca l) (h2 : SL w (some ⟨b, off, none⟩) n cv v) (g1 : ¬ 200 < m) (z1 : IsZ n l) (hi : i + 1 ≤ n) (hc : -1099511627776 ≤ c ∧ c ≤ 1099511627776) (hv : -1099511627776 ≤ valF v (i + 1) ∧ valF v (i + 1) ≤ 1099511627776) (hws : withL v (i + 1) (valF v (i + 1) - c) = ws) (hr : rightB 2 ((i : Int) + 1) ((i : Int) + 1) c 0 n = true) (hn8 : n ≤ 8) (hA : hasB n (postL n l 2 ((i : Int) + 1) ((i : Int) + 1) c 0) v = true) (hZ : hasB n l ws = true) (hD : ∀ W a3 c3, SL W a3 n c3 ws → Calls Tryz.prog 12 #[.agg #[.int .i64 2, .int .i64 ((i : Int) + 1), .int .i64 ((i : Int) + 1), .int .i64 c, .int .i64 0], .slice a3 n c3, .int .i64 0] W (DoS 0 n v W)) : Calls Tryz.prog 4 #[.agg #[.int .i64 n, .slice a m ca], .agg #[.int .i64 2, .int .i64 ((i : Int) + 1), .int .i64 ((i : Int) + 1), .int .i64 c, .int .i64 0], .slice (some ⟨b, off, none⟩) n cv] w (Gives (.bool true) w) := by
  have hck : Hid (pchk n l 2 ((i : Int) + 1) ((i : Int) + 1) c 0 = 0) := Lib.hid (by unfold pchk; rw [z1.check, hr]; simp)
  have hXP := postL_isz z1 2 ((i : Int) + 1) ((i : Int) + 1) c 0
  have qA := Lib.hid (fun W hs => (post_ok n 2 ((i : Int) + 1) ((i : Int) + 1) c 0 l z1 hr a m ca W hs).mono (fun e w' h => zoneE_lenB hXP.small h))
  have qHa := Lib.hid (fun W a2 m2 c2 (hs2 : SL W a2 m2 c2 (postL n l 2 ((i : Int) + 1) ((i : Int) + 1) c 0)) (hs : SL W (some ⟨b, off, none⟩) n cv v) => has_any n a2 m2 c2 _ (some ⟨b, off, none⟩) n cv v W hs2 hs)
  rw [hA] at qHa
  have p2 : ¬ (20 : Int) < (n : Int) := by omega
  have qD := Lib.hid hD
  have qHz := Lib.hid (fun W a3 c3 (hs2 : SL W a m ca l) (hs : SL W a3 n c3 ws) => has_any n a m ca l a3 n c3 ws W hs2 hs)
  rw [hZ] at qHz
  have hlm := Lib.hid (show v.length = n from h2.len.symm)
  obtain ⟨i0, hii, hz0, hz1, hz2⟩ := info_parts infoInt
  have qW := Lib.hid (fun W hs => rwith_any (some ⟨b, off, none⟩) v n cv (by omega) (i + 1) (by omega) hi (valF v (i + 1) - c) W hs)
  rw [hws, show (((i + 1 : Nat)) : Int) = (i : Int) + 1 from by omega] at qW
  have hvi : Hid (v.getD i 0 = valF v (i + 1)) := Lib.hid (by unfold valF; rw [if_neg (by omega), Nat.add_sub_cancel])
  have hil : Hid (i < v.length) := Lib.hid (by rw [← h2.len]; omega)
  have hwr : IntKind.i64.wrap (valF v (i + 1) - c) = valF v (i + 1) - c := wrap_small (by omega) (by omega)
  have hin : (i : Int) < (n : Int) := by omega
  have hi9 : (i : Int) ≤ 8 := by omega
  have hwi : IntKind.i64.wrap (i : Int) = (i : Int) := wrap_small (by omega) (by omega)
  have hi0 : (0 : Int) ≤ (i : Int) := by omega
  clear z1 hr hXP hA hZ hD hws
  generalize postL n l 2 ((i : Int) + 1) ((i : Int) + 1) c 0 = P at *
  generalize valF v (i + 1) = x at *
  obtain ⟨W1, hW1⟩ : ∃ W1, W1 = (w.alloc (.cells #[.int .i64 n, .slice a m ca] 24)).alloc (.cells #[.int .i64 2, .int .i64 ((i : Int) + 1), .int .i64 ((i : Int) + 1), .int .i64 c, .int .i64 0] 26) := ⟨_, rfl⟩
  have Z1 : Hid (Holds W1 (w.heap.size) 24 #[.int .i64 n, .slice a m ca]) := Lib.hid (by rw [hW1]; exact (Holds.new w _ _).alloc _)
  have Zs : Hid (Holds W1 (w.heap.size + 1) 26 #[.int .i64 2, .int .i64 ((i : Int) + 1), .int .i64 ((i : Int) + 1), .int .i64 c, .int .i64 0]) := Lib.hid (by rw [hW1]; have q := Holds.new (w.alloc (.cells #[.int .i64 n, .slice a m ca] 24)) 26 #[.int .i64 2, .int .i64 ((i : Int) + 1), .int .i64 ((i : Int) + 1), .int .i64 c, .int .i64 0]; simpa using q)
  have BL := Lib.hid (show Below w.heap.size w W1 by rw [hW1]; exact (box_below _ _ _).alloc (by simp) _)
  have S1 := Lib.hid (h1.below BL.out)
  have S2 := Lib.hid (h2.below BL.out)
  have hW1' := Lib.hid hW1
  clear hW1
  clear h1 h2
  go_enter Tryz.func4, Tryz.ntmps4
  have k1 := Z1.out.cell 0
  have k2 := Z1.out.cell 1
  have k3 := Zs.out.cell 0
  have k4 := Zs.out.cell 1
  have k5 := Zs.out.cell 2
  have k6 := Zs.out.cell 3
  have k7 := Zs.out.cell 4
  have q := Lib.hid (by have := large_any a m ca S1.out.max W1; rwa [decide_eq_false (show ¬ (200 : Int) < (m : Int) by omega)] at this)
  go_wp2_with fail
  rw [← hW1'.out]
  with_reducible refine q.out.mono ?_
  rintro e u1 ⟨rfl, rfl⟩
  clear hW1'
  clear q
  have q := Lib.hid (by have := rchk_any n 2 ((i : Int) + 1) ((i : Int) + 1) c 0 l a m ca W1 S1.out; rwa [hck.out] at this)
  go_wp2_with fail
  with_reducible refine q.out.mono ?_
  rintro e u3 ⟨rfl, b3⟩
  clear k1 k2 k3 k4 k5 k6 k7
  clear q
  have k8 : u3.cell? ⟨w.heap.size, 0, none⟩ = some (.int .i64 n) := (Z1.out.below b3 Z1.out.lt).cell 0
  have k9 : u3.cell? ⟨w.heap.size, 1, none⟩ = some (.slice a m ca) := (Z1.out.below b3 Z1.out.lt).cell 1
  have k10 : u3.cell? ⟨w.heap.size + 1, 0, none⟩ = some (.int .i64 2) := (Zs.out.below b3 Zs.out.lt).cell 0
  have k11 : u3.cell? ⟨w.heap.size + 1, 1, none⟩ = some (.int .i64 ((i : Int) + 1)) := (Zs.out.below b3 Zs.out.lt).cell 1
  have k12 : u3.cell? ⟨w.heap.size + 1, 2, none⟩ = some (.int .i64 ((i : Int) + 1)) := (Zs.out.below b3 Zs.out.lt).cell 2
  have k13 : u3.cell? ⟨w.heap.size + 1, 3, none⟩ = some (.int .i64 c) := (Zs.out.below b3 Zs.out.lt).cell 3
  have k14 : u3.cell? ⟨w.heap.size + 1, 4, none⟩ = some (.int .i64 0) := (Zs.out.below b3 Zs.out.lt).cell 4
  replace Z1 := Lib.hid (Z1.out.below b3 Z1.out.lt)
  replace Zs := Lib.hid (Zs.out.below b3 Zs.out.lt)
  replace BL := Lib.hid (BL.out.trans (b3.mono BL.out.size))
  replace S1 := Lib.hid (S1.out.below b3)
  replace S2 := Lib.hid (S2.out.below b3)
  clear b3
  have q := Lib.hid (qA.out _ S1.out)
  go_wp2_with fail
  with_reducible refine q.out.mono ?_
  rintro e uA ⟨aA, cA, rfl, sA, bA⟩
  clear k8 k9 k10 k11 k12 k13 k14
  clear q qA
  have B0 := box_below uA #[.int .i64 n, .slice aA P.length cA] 24
  have B := bA.trans (B0.mono bA.size)
  replace Z1 := Lib.hid (Z1.out.below B Z1.out.lt)
  replace Zs := Lib.hid (Zs.out.below B Zs.out.lt)
  replace BL := Lib.hid (BL.out.trans (B.mono BL.out.size))
  replace S1 := Lib.hid (S1.out.below B)
  replace S2 := Lib.hid (S2.out.below B)
  have ZA := Lib.hid (Holds.new uA 24 #[.int .i64 n, .slice aA P.length cA])
  have SA := Lib.hid (sA.below B0)
  clear bA B B0 sA
  have q := Lib.hid (plives_any (uA.alloc (.cells #[.int .i64 n, .slice aA P.length cA] 24)))
  go_wp2_with fail
  with_reducible refine q.out.mono ?_
  rintro e uL ⟨rfl, bL⟩
  clear q
  have k15 : uL.cell? ⟨uA.heap.size, 0, none⟩ = some (.int .i64 n) := (ZA.out.below bL ZA.out.lt).cell 0
  have k16 : uL.cell? ⟨uA.heap.size, 1, none⟩ = some (.slice aA P.length cA) := (ZA.out.below bL ZA.out.lt).cell 1
  replace Z1 := Lib.hid (Z1.out.below bL Z1.out.lt)
  replace Zs := Lib.hid (Zs.out.below bL Zs.out.lt)
  replace ZA := Lib.hid (ZA.out.below bL ZA.out.lt)
  replace BL := Lib.hid (BL.out.trans (bL.mono BL.out.size))
  replace S1 := Lib.hid (S1.out.below bL)
  replace S2 := Lib.hid (S2.out.below bL)
  replace SA := Lib.hid (SA.out.below bL)
  clear bL
  have q := Lib.hid (qHa.out _ aA _ cA SA.out S2.out)
  go_wp2_with fail
  with_reducible refine q.out.mono ?_
  rintro e uH ⟨rfl, bH⟩
  clear k15 k16
  clear q qHa
  have k17 : uH.cell? ⟨w.heap.size, 0, none⟩ = some (.int .i64 n) := (Z1.out.below bH Z1.out.lt).cell 0
  have k18 : uH.cell? ⟨w.heap.size, 1, none⟩ = some (.slice a m ca) := (Z1.out.below bH Z1.out.lt).cell 1
  have k19 : uH.cell? ⟨w.heap.size + 1, 0, none⟩ = some (.int .i64 2) := (Zs.out.below bH Zs.out.lt).cell 0
  have k20 : uH.cell? ⟨w.heap.size + 1, 1, none⟩ = some (.int .i64 ((i : Int) + 1)) := (Zs.out.below bH Zs.out.lt).cell 1
  have k21 : uH.cell? ⟨w.heap.size + 1, 2, none⟩ = some (.int .i64 ((i : Int) + 1)) := (Zs.out.below bH Zs.out.lt).cell 2
  have k22 : uH.cell? ⟨w.heap.size + 1, 3, none⟩ = some (.int .i64 c) := (Zs.out.below bH Zs.out.lt).cell 3
  have k23 : uH.cell? ⟨w.heap.size + 1, 4, none⟩ = some (.int .i64 0) := (Zs.out.below bH Zs.out.lt).cell 4
  replace Z1 := Lib.hid (Z1.out.below bH Z1.out.lt)
  replace Zs := Lib.hid (Zs.out.below bH Zs.out.lt)
  replace ZA := Lib.hid (ZA.out.below bH ZA.out.lt)
  replace BL := Lib.hid (BL.out.trans (bH.mono BL.out.size))
  replace S1 := Lib.hid (S1.out.below bH)
  replace S2 := Lib.hid (S2.out.below bH)
  replace SA := Lib.hid (SA.out.below bH)
  clear bH
  go_wp2_with (at_builtin; refine wpList_append_sees _ rfl (.tmp 50) (.tmp 51) 22 rfl uH 3 i0 (.int .i64 0) 8 Tryz.underlying22 hii hz0 hz1 hz2 rfl .i64 _ [] (by exact own_empty 3 .i64 (Below.refl _ uH)) (by exact box_below _ _ _) uH.heap.size (some ⟨b, off, none⟩) v (by exact S2.out.sees.below (box_below _ _ _)) n cv hlm.out.symm rfl rfl (by have := hlm.out; simp; omega) (by omega) ?_; intro v2 w2 hown2 hw2; simp only [List.nil_append] at hown2; obtain ⟨a3, c3, e3, h3, s3⟩ := sees_own hown2; rw [hlm.out] at e3; subst e3; have b2 := Lib.hid hw2; clear hown2 hw2 h3 s3; have r0 := (Zs.out.below b2.out Zs.out.lt).cell 0; have r1 := (Zs.out.below b2.out Zs.out.lt).cell 1; have r2 := (Zs.out.below b2.out Zs.out.lt).cell 2; have r3 := (Zs.out.below b2.out Zs.out.lt).cell 3; have r4 := (Zs.out.below b2.out Zs.out.lt).cell 4)
  clear k17 k18 k19 k20 k21 k22 k23
  replace Z1 := Lib.hid (Z1.out.below b2.out Z1.out.lt)
  replace Zs := Lib.hid (Zs.out.below b2.out Zs.out.lt)
  replace ZA := Lib.hid (ZA.out.below b2.out ZA.out.lt)
  replace BL := Lib.hid (BL.out.trans (b2.out.mono BL.out.size))
  replace S1 := Lib.hid (S1.out.below b2.out)
  replace S2 := Lib.hid (S2.out.below b2.out)
  replace SA := Lib.hid (SA.out.below b2.out)
  clear b2
  clear r0 r1 r2 r3 r4
  have k24 : ∀ W, Below w2.heap.size w2 W → W.cell? ⟨w.heap.size + 1, 0, none⟩ = some (.int .i64 2) := fun W hW => (Zs.out.below hW Zs.out.lt).cell 0
  have k25 : ∀ W, Below w2.heap.size w2 W → W.cell? ⟨w.heap.size + 1, 1, none⟩ = some (.int .i64 ((i : Int) + 1)) := fun W hW => (Zs.out.below hW Zs.out.lt).cell 1
  have k26 : ∀ W, Below w2.heap.size w2 W → W.cell? ⟨w.heap.size + 1, 2, none⟩ = some (.int .i64 ((i : Int) + 1)) := fun W hW => (Zs.out.below hW Zs.out.lt).cell 2
  have k27 : ∀ W, Below w2.heap.size w2 W → W.cell? ⟨w.heap.size + 1, 3, none⟩ = some (.int .i64 c) := fun W hW => (Zs.out.below hW Zs.out.lt).cell 3
  have k28 : ∀ W, Below w2.heap.size w2 W → W.cell? ⟨w.heap.size + 1, 4, none⟩ = some (.int .i64 0) := fun W hW => (Zs.out.below hW Zs.out.lt).cell 4
  have cv0 : ∀ W, Below w2.heap.size w2 W → W.cell? ⟨b, off + i, none⟩ = some (.int .i64 x) := fun W hW => by rw [← hvi.out]; exact sees_cell (S2.out.below hW).sees hil.out
  refine wp_drawn_on (fun W => Below w2.heap.size w2 W) (by kernel_rfl) (below_drew (Below.refl _ _)) (fun hHeld => ?_)
  refine wpAnyH_take (i := 0) (oi := { dst := some 63, op := Go.Op.move (Go.Operand.tmp 2), type := 22, pos := "law.go:83", after := #[], guard := none }) (v := ?v1) rfl (by kernel_rfl) (by kernel_rfl) (by kernel_rfl) (fun _ _ _ h => h) (Or.inl ⟨by kernel_rfl, ?h1⟩) (by assumption) ?r1
  case h1 => (intro w hSw; (try dsimp only at hSw); go_simp; try with_reducible rfl)
  try simp only [Act.put, List.setIfInBounds_toArray, List.set_cons_zero, List.set_cons_succ]
  refine wpAnyH_take (i := 1) (oi := { dst := some 64, op := Go.Op.fieldAddr 26 (Go.Operand.tmp 4) 1, type := 0, pos := "law.go:83", after := #[], guard := none }) (v := ?v2) rfl (by kernel_rfl) (by kernel_rfl) (by kernel_rfl) (fun _ _ _ h => h) (Or.inl ⟨by kernel_rfl, ?h2⟩) (by assumption) ?r2
  case h2 => (intro w hSw; (try dsimp only at hSw); go_simp; try with_reducible rfl)
  try simp only [Act.put, List.setIfInBounds_toArray, List.set_cons_zero, List.set_cons_succ]
  refine wpAnyH_take (i := 2) (oi := { dst := some 65, op := Go.Op.load 3 (Go.Operand.tmp 64), type := 3, pos := "law.go:83", after := #[{ on := 1, ground := Go.Ground.data }], guard := none }) (v := ?v3) rfl (by kernel_rfl) (by kernel_rfl) (by kernel_rfl) (fun _ _ _ h => h) (Or.inl ⟨by kernel_rfl, ?h3⟩) (by assumption) ?r3
  case h3 => (intro w hSw; (try dsimp only at hSw); go_simp; try with_reducible rfl)
  try simp only [Act.put, List.setIfInBounds_toArray, List.set_cons_zero, List.set_cons_succ]
  refine wpAnyH_take (i := 3) (oi := { dst := some 66, op := Go.Op.move (Go.Operand.tmp 2), type := 22, pos := "law.go:83", after := #[], guard := none }) (v := ?v4) rfl (by kernel_rfl) (by kernel_rfl) (by kernel_rfl) (fun _ _ _ h => h) (Or.inl ⟨by kernel_rfl, ?h4⟩) (by assumption) ?r4
  case h4 => (intro w hSw; (try dsimp only at hSw); go_simp; try with_reducible rfl)
  try simp only [Act.put, List.setIfInBounds_toArray, List.set_cons_zero, List.set_cons_succ]
  refine wpAnyH_take (i := 4) (oi := { dst := some 67, op := Go.Op.fieldAddr 26 (Go.Operand.tmp 4) 1, type := 0, pos := "law.go:83", after := #[], guard := none }) (v := ?v5) rfl (by kernel_rfl) (by kernel_rfl) (by kernel_rfl) (fun _ _ _ h => h) (Or.inl ⟨by kernel_rfl, ?h5⟩) (by assumption) ?r5
  case h5 => (intro w hSw; (try dsimp only at hSw); go_simp; try with_reducible rfl)
  try simp only [Act.put, List.setIfInBounds_toArray, List.set_cons_zero, List.set_cons_succ]
  refine wpAnyH_take (i := 5) (oi := { dst := some 68, op := Go.Op.load 3 (Go.Operand.tmp 67), type := 3, pos := "law.go:83", after := #[{ on := 4, ground := Go.Ground.data }], guard := none }) (v := ?v6) rfl (by kernel_rfl) (by kernel_rfl) (by kernel_rfl) (fun _ _ _ h => h) (Or.inl ⟨by kernel_rfl, ?h6⟩) (by assumption) ?r6
  case h6 => (intro w hSw; (try dsimp only at hSw); go_simp; try with_reducible rfl)
  try simp only [Act.put, List.setIfInBounds_toArray, List.set_cons_zero, List.set_cons_succ]
  refine wpAnyH_take (i := 6) (oi := { dst := some 69, op := Go.Op.binOp Go.BinOp.sub 3 (Go.Operand.tmp 68) (Go.Operand.const (Go.Value.int Go.IntKind.i64 1)) 3, type := 3, pos := "law.go:83", after := #[{ on := 5, ground := Go.Ground.data }], guard := none }) (v := ?v7) rfl (by kernel_rfl) (by kernel_rfl) (by kernel_rfl) (fun _ _ _ h => h) (Or.inl ⟨by kernel_rfl, ?h7⟩) (by assumption) ?r7
  case h7 => (intro w hSw; (try dsimp only at hSw); go_simp; try with_reducible rfl)
  try simp only [Act.put, List.setIfInBounds_toArray, List.set_cons_zero, List.set_cons_succ]
  refine wpAnyH_take (i := 7) (oi := { dst := some 70, op := Go.Op.indexAddr 22 (Go.Operand.tmp 66) (Go.Operand.tmp 69), type := 0, pos := "law.go:83", after := #[{ on := 3, ground := Go.Ground.data }, { on := 6, ground := Go.Ground.data }], guard := none }) (v := ?v8) rfl (by kernel_rfl) (by kernel_rfl) (by kernel_rfl) (fun _ _ _ h => h) (Or.inl ⟨by kernel_rfl, ?h8⟩) (by assumption) ?r8
  case h8 => (intro w hSw; (try dsimp only at hSw); go_simp; try with_reducible rfl)
  try simp only [Act.put, List.setIfInBounds_toArray, List.set_cons_zero, List.set_cons_succ]
  refine wpAnyH_take (i := 8) (oi := { dst := some 71, op := Go.Op.load 3 (Go.Operand.tmp 70), type := 3, pos := "law.go:83", after := #[{ on := 7, ground := Go.Ground.data }], guard := none }) (v := ?v9) rfl (by kernel_rfl) (by kernel_rfl) (by kernel_rfl) (fun _ _ _ h => h) (Or.inl ⟨by kernel_rfl, ?h9⟩) (by assumption) ?r9
  case h9 => (intro w hSw; (try dsimp only at hSw); go_simp; try with_reducible rfl)
  try simp only [Act.put, List.setIfInBounds_toArray, List.set_cons_zero, List.set_cons_succ]
  refine wpAnyH_take (i := 9) (oi := { dst := some 72, op := Go.Op.fieldAddr 26 (Go.Operand.tmp 4) 3, type := 0, pos := "law.go:83", after := #[], guard := none }) (v := ?v10) rfl (by kernel_rfl) (by kernel_rfl) (by kernel_rfl) (fun _ _ _ h => h) (Or.inl ⟨by kernel_rfl, ?h10⟩) (by assumption) ?r10
  case h10 => (intro w hSw; (try dsimp only at hSw); go_simp; try with_reducible rfl)
  try simp only [Act.put, List.setIfInBounds_toArray, List.set_cons_zero, List.set_cons_succ]
  refine wpAnyH_take (i := 10) (oi := { dst := some 73, op := Go.Op.load 3 (Go.Operand.tmp 72), type := 3, pos := "law.go:83", after := #[{ on := 9, ground := Go.Ground.data }], guard := none }) (v := ?v11) rfl (by kernel_rfl) (by kernel_rfl) (by kernel_rfl) (fun _ _ _ h => h) (Or.inl ⟨by kernel_rfl, ?h11⟩) (by assumption) ?r11
  case h11 => (intro w hSw; (try dsimp only at hSw); go_simp; try with_reducible rfl)
  try simp only [Act.put, List.setIfInBounds_toArray, List.set_cons_zero, List.set_cons_succ]
  refine wpAnyH_take (i := 11) (oi := { dst := some 74, op := Go.Op.binOp Go.BinOp.sub 3 (Go.Operand.tmp 71) (Go.Operand.tmp 73) 3, type := 3, pos := "law.go:83", after := #[{ on := 8, ground := Go.Ground.data }, { on := 10, ground := Go.Ground.data }], guard := none }) (v := ?v12) rfl (by kernel_rfl) (by kernel_rfl) (by kernel_rfl) (fun _ _ _ h => h) (Or.inl ⟨by kernel_rfl, ?h12⟩) (by assumption) ?r12
  case h12 => (intro w hSw; (try dsimp only at hSw); go_simp; try with_reducible rfl)
  try simp only [Act.put, List.setIfInBounds_toArray, List.set_cons_zero, List.set_cons_succ]
  refine wpAnyH_ready (rs := [12]) (by kernel_rfl) (by simp) ?_
  refine AllReadyH.cons (o := { dst := some 75, op := Go.Op.call { callee := Go.Callee.value (Go.Operand.func 13), args := #[Go.Operand.tmp 63, Go.Operand.tmp 65, Go.Operand.tmp 74], argTypes := #[22, 3, 3] }, type := 22, pos := "law.go:83", after := #[{ on := 0, ground := Go.Ground.data }, { on := 2, ground := Go.Ground.data }, { on := 11, ground := Go.Ground.data }], guard := none }) rfl (fun K hK => ?_) AllReadyH.nil
  go_simp
  refine (qW.out _ (S2.out.below hHeld)).mono ?_
  rintro e v12 ⟨aW, cW, rfl, sW, b12⟩
  have SW := Lib.hid sW
  clear sW
  go_simp
  refine hK.out _ _ (hHeld.trans (b12.mono hHeld.size)) (fun hHeld => ?_)
  clear hK K
  try simp only [Act.put, List.setIfInBounds_toArray, List.set_cons_zero, List.set_cons_succ]
  refine wpAnyH_take (i := 13) (oi := { dst := some 9, op := Go.Op.assign (Go.Operand.tmp 75), type := 22, pos := "law.go:83", after := #[{ on := 12, ground := Go.Ground.data }, { on := 12, ground := Go.Ground.chain }, { on := 0, ground := Go.Ground.phase }, { on := 1, ground := Go.Ground.phase }, { on := 2, ground := Go.Ground.phase }, { on := 3, ground := Go.Ground.phase }, { on := 4, ground := Go.Ground.phase }, { on := 5, ground := Go.Ground.phase }, { on := 6, ground := Go.Ground.phase }, { on := 7, ground := Go.Ground.phase }, { on := 8, ground := Go.Ground.phase }, { on := 9, ground := Go.Ground.phase }, { on := 10, ground := Go.Ground.phase }, { on := 11, ground := Go.Ground.phase }, { on := 12, ground := Go.Ground.phase }], guard := none }) (v := ?v13) rfl (by kernel_rfl) (by kernel_rfl) (by kernel_rfl) (fun _ _ _ h => h) (Or.inl ⟨by kernel_rfl, ?h13⟩) (by assumption) ?r13
  case h13 => (intro w hSw; (try dsimp only at hSw); go_simp; try with_reducible rfl)
  try simp only [Act.put, List.setIfInBounds_toArray, List.set_cons_zero, List.set_cons_succ]
  refine wpAnyH_done (by kernel_rfl) ?_ _
  clear k24 k25 k26 k27 k28
  clear cv0
  replace Z1 := Lib.hid (Z1.out.below hHeld Z1.out.lt)
  replace Zs := Lib.hid (Zs.out.below hHeld Zs.out.lt)
  replace ZA := Lib.hid (ZA.out.below hHeld ZA.out.lt)
  replace BL := Lib.hid (BL.out.trans (hHeld.mono BL.out.size))
  replace S1 := Lib.hid (S1.out.below hHeld)
  replace S2 := Lib.hid (S2.out.below hHeld)
  replace SA := Lib.hid (SA.out.below hHeld)
  clear hHeld
  have k29 := Zs.out.cell 0
  have k30 := Zs.out.cell 1
  have k31 := Zs.out.cell 2
  have k32 := Zs.out.cell 3
  have k33 := Zs.out.cell 4
  have q := Lib.hid (qD.out _ aW cW SW.out)
  go_wp2_with fail
  with_reducible refine q.out.mono ?_
  rintro e uD ⟨aD, cD, rfl, sD, bD⟩
  clear k29 k30 k31 k32 k33
  clear q qD
  have k34 : uD.cell? ⟨w.heap.size, 0, none⟩ = some (.int .i64 n) := (Z1.out.below bD Z1.out.lt).cell 0
  have k35 : uD.cell? ⟨w.heap.size, 1, none⟩ = some (.slice a m ca) := (Z1.out.below bD Z1.out.lt).cell 1
  replace Z1 := Lib.hid (Z1.out.below bD Z1.out.lt)
  replace Zs := Lib.hid (Zs.out.below bD Zs.out.lt)
  replace ZA := Lib.hid (ZA.out.below bD ZA.out.lt)
  replace BL := Lib.hid (BL.out.trans (bD.mono BL.out.size))
  replace S1 := Lib.hid (S1.out.below bD)
  replace S2 := Lib.hid (S2.out.below bD)
  replace SA := Lib.hid (SA.out.below bD)
  replace SW := Lib.hid (SW.out.below bD)
  have SD := Lib.hid (sD)
  clear bD sD
  have q := Lib.hid (qHz.out _ aW cW S1.out SW.out)
  go_wp2_with fail
  with_reducible refine q.out.mono ?_
  rintro e uZ ⟨rfl, bZ⟩
  clear k34 k35
  clear q qHz
  replace Z1 := Lib.hid (Z1.out.below bZ Z1.out.lt)
  replace Zs := Lib.hid (Zs.out.below bZ Zs.out.lt)
  replace ZA := Lib.hid (ZA.out.below bZ ZA.out.lt)
  replace BL := Lib.hid (BL.out.trans (bZ.mono BL.out.size))
  replace S1 := Lib.hid (S1.out.below bZ)
  replace S2 := Lib.hid (S2.out.below bZ)
  replace SA := Lib.hid (SA.out.below bZ)
  replace SW := Lib.hid (SW.out.below bZ)
  replace SD := Lib.hid (SD.out.below bZ)
  clear bZ
  have q := Lib.hid (psame_any aD (some ⟨b, off, none⟩) v n cD cv _ SD.out S2.out)
  go_wp2_with fail
  with_reducible refine q.out.mono ?_
  rintro e uS ⟨rfl, bS⟩
  clear q
  replace Z1 := Lib.hid (Z1.out.below bS Z1.out.lt)
  replace Zs := Lib.hid (Zs.out.below bS Zs.out.lt)
  replace ZA := Lib.hid (ZA.out.below bS ZA.out.lt)
  replace BL := Lib.hid (BL.out.trans (bS.mono BL.out.size))
  replace S1 := Lib.hid (S1.out.below bS)
  replace S2 := Lib.hid (S2.out.below bS)
  replace SA := Lib.hid (SA.out.below bS)
  replace SW := Lib.hid (SW.out.below bS)
  replace SD := Lib.hid (SD.out.below bS)
  clear bS
  go_wp2
  go_ret
  exact ⟨rfl, BL.out⟩
end Go.Proofs.YtplgmmjppmpnoaaGreatDoor
/- PostBack: where a value was any. (Written by gen-post-back3.py.) -/
namespace Go.Proofs.YtplgmmjppmpnoaaGreatDoor
open Go.RowKit
set_option linter.unusedVariables false
set_option linter.unusedSimpArgs false

set_option maxRecDepth 100000 in
set_option maxHeartbeats 4000000 in
theorem pback_pick (n X p : Nat) (y c d : Int) (a : Option Addr) (b off m ca cv : Nat) (l v ws : List Int) (w : World) (h1 : SL w a m ca l) (h2 : SL w (some ⟨b, off, none⟩) n cv v) (g1 : ¬ 200 < m) (z1 : IsZ n l) (hX0 : 1 ≤ X) (hX : X ≤ n) (hp : p + 1 = X) (hxy : ((X : Int) == y) = false) (hF : Full n l) (hv : ∀ k, -1099511627776 ≤ valF v k ∧ valF v k ≤ 1099511627776) (hws : withL v X (leastK n l v X (n + 1)) = ws) (hr : rightB 3 X y c d n = true) (hn8 : n ≤ 8) (hA : hasB n (postL n l 3 X y c d) v = true) (hZ : hasB n l ws = true) (hD : ∀ W a3 c3, SL W a3 n c3 ws → Calls Tryz.prog 12 #[.agg #[.int .i64 3, .int .i64 X, .int .i64 y, .int .i64 c, .int .i64 d], .slice a3 n c3, .int .i64 (valF v X)] W (DoS 0 n v W)) : Calls Tryz.prog 4 #[.agg #[.int .i64 n, .slice a m ca], .agg #[.int .i64 3, .int .i64 X, .int .i64 y, .int .i64 c, .int .i64 d], .slice (some ⟨b, off, none⟩) n cv] w (Gives (.bool true) w) := by
  have hck : Hid (pchk n l 3 X y c d = 0) := Lib.hid (by unfold pchk; rw [z1.check, hr]; simp)
  have hXP := postL_isz z1 3 X y c d
  have qA := Lib.hid (fun W hs => (post_ok n 3 X y c d l z1 hr a m ca W hs).mono (fun e w' h => zoneE_lenB hXP.small h))
  have qHa := Lib.hid (fun W a2 m2 c2 (hs2 : SL W a2 m2 c2 (postL n l 3 X y c d)) (hs : SL W (some ⟨b, off, none⟩) n cv v) => has_any n a2 m2 c2 _ (some ⟨b, off, none⟩) n cv v W hs2 hs)
  rw [hA] at qHa
  have p2 : ¬ (20 : Int) < (n : Int) := by omega
  have qD := Lib.hid hD
  have qHz := Lib.hid (fun W a3 c3 (hs2 : SL W a m ca l) (hs : SL W a3 n c3 ws) => has_any n a m ca l a3 n c3 ws W hs2 hs)
  rw [hZ] at qHz
  have hlm := Lib.hid (show v.length = n from h2.len.symm)
  obtain ⟨i0, hii, hz0, hz1, hz2⟩ := info_parts infoInt
  have qW := Lib.hid (fun W hs => rwith_any (some ⟨b, off, none⟩) v n cv (by omega) X hX0 hX (leastK n l v X (n + 1)) W hs)
  rw [hws] at qW
  have hvi : Hid (v.getD p 0 = valF v X) := Lib.hid (by unfold valF; rw [if_neg (by omega)]; congr 1; omega)
  have hil : Hid (p < v.length) := Lib.hid (by rw [← h2.len]; omega)
  have hval := Lib.hid hv
  have hmat : Hid (∀ k, k ≤ n → -2199023255552 ≤ mat n l k X ∧ mat n l k X ≤ 2199023255552) := Lib.hid (fun k hk => full_near hF (place_lt hk hX))
  have QBd := Lib.hid (fun k (hk : k ≤ n) W (hS : SL W a m ca l) => bound_full hF hk hX a m ca W hS)
  have QVk := Lib.hid (fun k (hk : k ≤ n) W (hV : SL W (some ⟨b, off, none⟩) n cv v) => rvalue_any (some ⟨b, off, none⟩) v n cv hlm.out.symm (by omega) k hk W.heap.size W hV.sees)
  have hwi : IntKind.i64.wrap ((X : Int) - 1) = (p : Int) := by rw [wrap_small (by omega) (by omega)]; omega
  have hpn : (p : Int) < (n : Int) := by omega
  have hp0 : (0 : Int) ≤ (p : Int) := by omega
  have hxy3 : ((X : Int) != y) = true := by simpa using hxy
  clear z1 hr hXP hA hZ hD hws hv hF
  generalize postL n l 3 X y c d = P at *
  obtain ⟨W1, hW1⟩ : ∃ W1, W1 = (w.alloc (.cells #[.int .i64 n, .slice a m ca] 24)).alloc (.cells #[.int .i64 3, .int .i64 X, .int .i64 y, .int .i64 c, .int .i64 d] 26) := ⟨_, rfl⟩
  have Z1 : Hid (Holds W1 (w.heap.size) 24 #[.int .i64 n, .slice a m ca]) := Lib.hid (by rw [hW1]; exact (Holds.new w _ _).alloc _)
  have Zs : Hid (Holds W1 (w.heap.size + 1) 26 #[.int .i64 3, .int .i64 X, .int .i64 y, .int .i64 c, .int .i64 d]) := Lib.hid (by rw [hW1]; have q := Holds.new (w.alloc (.cells #[.int .i64 n, .slice a m ca] 24)) 26 #[.int .i64 3, .int .i64 X, .int .i64 y, .int .i64 c, .int .i64 d]; simpa using q)
  have BL := Lib.hid (show Below w.heap.size w W1 by rw [hW1]; exact (box_below _ _ _).alloc (by simp) _)
  have S1 := Lib.hid (h1.below BL.out)
  have S2 := Lib.hid (h2.below BL.out)
  have hW1' := Lib.hid hW1
  clear hW1
  clear h1 h2
  go_enter Tryz.func4, Tryz.ntmps4
  have k1 := Z1.out.cell 0
  have k2 := Z1.out.cell 1
  have k3 := Zs.out.cell 0
  have k4 := Zs.out.cell 1
  have k5 := Zs.out.cell 2
  have k6 := Zs.out.cell 3
  have k7 := Zs.out.cell 4
  have q := Lib.hid (by have := large_any a m ca S1.out.max W1; rwa [decide_eq_false (show ¬ (200 : Int) < (m : Int) by omega)] at this)
  go_wp2_with fail
  rw [← hW1'.out]
  with_reducible refine q.out.mono ?_
  rintro e u1 ⟨rfl, rfl⟩
  clear hW1'
  clear q
  have q := Lib.hid (by have := rchk_any n 3 X y c d l a m ca W1 S1.out; rwa [hck.out] at this)
  go_wp2_with fail
  with_reducible refine q.out.mono ?_
  rintro e u3 ⟨rfl, b3⟩
  clear k1 k2 k3 k4 k5 k6 k7
  clear q
  have k8 : u3.cell? ⟨w.heap.size, 0, none⟩ = some (.int .i64 n) := (Z1.out.below b3 Z1.out.lt).cell 0
  have k9 : u3.cell? ⟨w.heap.size, 1, none⟩ = some (.slice a m ca) := (Z1.out.below b3 Z1.out.lt).cell 1
  have k10 : u3.cell? ⟨w.heap.size + 1, 0, none⟩ = some (.int .i64 3) := (Zs.out.below b3 Zs.out.lt).cell 0
  have k11 : u3.cell? ⟨w.heap.size + 1, 1, none⟩ = some (.int .i64 X) := (Zs.out.below b3 Zs.out.lt).cell 1
  have k12 : u3.cell? ⟨w.heap.size + 1, 2, none⟩ = some (.int .i64 y) := (Zs.out.below b3 Zs.out.lt).cell 2
  have k13 : u3.cell? ⟨w.heap.size + 1, 3, none⟩ = some (.int .i64 c) := (Zs.out.below b3 Zs.out.lt).cell 3
  have k14 : u3.cell? ⟨w.heap.size + 1, 4, none⟩ = some (.int .i64 d) := (Zs.out.below b3 Zs.out.lt).cell 4
  replace Z1 := Lib.hid (Z1.out.below b3 Z1.out.lt)
  replace Zs := Lib.hid (Zs.out.below b3 Zs.out.lt)
  replace BL := Lib.hid (BL.out.trans (b3.mono BL.out.size))
  replace S1 := Lib.hid (S1.out.below b3)
  replace S2 := Lib.hid (S2.out.below b3)
  clear b3
  have q := Lib.hid (qA.out _ S1.out)
  go_wp2_with fail
  with_reducible refine q.out.mono ?_
  rintro e uA ⟨aA, cA, rfl, sA, bA⟩
  clear k8 k9 k10 k11 k12 k13 k14
  clear q qA
  have B0 := box_below uA #[.int .i64 n, .slice aA P.length cA] 24
  have B := bA.trans (B0.mono bA.size)
  replace Z1 := Lib.hid (Z1.out.below B Z1.out.lt)
  replace Zs := Lib.hid (Zs.out.below B Zs.out.lt)
  replace BL := Lib.hid (BL.out.trans (B.mono BL.out.size))
  replace S1 := Lib.hid (S1.out.below B)
  replace S2 := Lib.hid (S2.out.below B)
  have ZA := Lib.hid (Holds.new uA 24 #[.int .i64 n, .slice aA P.length cA])
  have SA := Lib.hid (sA.below B0)
  clear bA B B0 sA
  have q := Lib.hid (plives_any (uA.alloc (.cells #[.int .i64 n, .slice aA P.length cA] 24)))
  go_wp2_with fail
  with_reducible refine q.out.mono ?_
  rintro e uL ⟨rfl, bL⟩
  clear q
  have k15 : uL.cell? ⟨uA.heap.size, 0, none⟩ = some (.int .i64 n) := (ZA.out.below bL ZA.out.lt).cell 0
  have k16 : uL.cell? ⟨uA.heap.size, 1, none⟩ = some (.slice aA P.length cA) := (ZA.out.below bL ZA.out.lt).cell 1
  replace Z1 := Lib.hid (Z1.out.below bL Z1.out.lt)
  replace Zs := Lib.hid (Zs.out.below bL Zs.out.lt)
  replace ZA := Lib.hid (ZA.out.below bL ZA.out.lt)
  replace BL := Lib.hid (BL.out.trans (bL.mono BL.out.size))
  replace S1 := Lib.hid (S1.out.below bL)
  replace S2 := Lib.hid (S2.out.below bL)
  replace SA := Lib.hid (SA.out.below bL)
  clear bL
  have q := Lib.hid (qHa.out _ aA _ cA SA.out S2.out)
  go_wp2_with fail
  with_reducible refine q.out.mono ?_
  rintro e uH ⟨rfl, bH⟩
  clear k15 k16
  clear q qHa
  have k17 : uH.cell? ⟨w.heap.size, 0, none⟩ = some (.int .i64 n) := (Z1.out.below bH Z1.out.lt).cell 0
  have k18 : uH.cell? ⟨w.heap.size, 1, none⟩ = some (.slice a m ca) := (Z1.out.below bH Z1.out.lt).cell 1
  have k19 : uH.cell? ⟨w.heap.size + 1, 0, none⟩ = some (.int .i64 3) := (Zs.out.below bH Zs.out.lt).cell 0
  have k20 : uH.cell? ⟨w.heap.size + 1, 1, none⟩ = some (.int .i64 X) := (Zs.out.below bH Zs.out.lt).cell 1
  have k21 : uH.cell? ⟨w.heap.size + 1, 2, none⟩ = some (.int .i64 y) := (Zs.out.below bH Zs.out.lt).cell 2
  have k22 : uH.cell? ⟨w.heap.size + 1, 3, none⟩ = some (.int .i64 c) := (Zs.out.below bH Zs.out.lt).cell 3
  have k23 : uH.cell? ⟨w.heap.size + 1, 4, none⟩ = some (.int .i64 d) := (Zs.out.below bH Zs.out.lt).cell 4
  replace Z1 := Lib.hid (Z1.out.below bH Z1.out.lt)
  replace Zs := Lib.hid (Zs.out.below bH Zs.out.lt)
  replace ZA := Lib.hid (ZA.out.below bH ZA.out.lt)
  replace BL := Lib.hid (BL.out.trans (bH.mono BL.out.size))
  replace S1 := Lib.hid (S1.out.below bH)
  replace S2 := Lib.hid (S2.out.below bH)
  replace SA := Lib.hid (SA.out.below bH)
  clear bH
  go_wp2_with (at_builtin; refine wpList_append_sees _ rfl (.tmp 50) (.tmp 51) 22 rfl uH 3 i0 (.int .i64 0) 8 Tryz.underlying22 hii hz0 hz1 hz2 rfl .i64 _ [] (by exact own_empty 3 .i64 (Below.refl _ uH)) (by exact box_below _ _ _) uH.heap.size (some ⟨b, off, none⟩) v (by exact S2.out.sees.below (box_below _ _ _)) n cv hlm.out.symm rfl rfl (by have := hlm.out; simp; omega) (by omega) ?_; intro v2 w2 hown2 hw2; simp only [List.nil_append] at hown2; obtain ⟨a3, c3, e3, h3, s3⟩ := sees_own hown2; rw [hlm.out] at e3; subst e3; have b2 := Lib.hid hw2; clear hown2 hw2 h3 s3; have r0 := (Zs.out.below b2.out Zs.out.lt).cell 0; have r1 := (Zs.out.below b2.out Zs.out.lt).cell 1; have r2 := (Zs.out.below b2.out Zs.out.lt).cell 2; have r3 := (Zs.out.below b2.out Zs.out.lt).cell 3; have r4 := (Zs.out.below b2.out Zs.out.lt).cell 4; have cv0 : w2.cell? ⟨b, off + p, none⟩ = some (.int .i64 (valF v X)) := (by rw [← hvi.out]; exact sees_cell (S2.out.below b2.out).sees hil.out); have z0 := (Z1.out.below b2.out Z1.out.lt).cell 0)
  clear k17 k18 k19 k20 k21 k22 k23
  replace Z1 := Lib.hid (Z1.out.below b2.out Z1.out.lt)
  replace Zs := Lib.hid (Zs.out.below b2.out Zs.out.lt)
  replace ZA := Lib.hid (ZA.out.below b2.out ZA.out.lt)
  replace BL := Lib.hid (BL.out.trans (b2.out.mono BL.out.size))
  replace S1 := Lib.hid (S1.out.below b2.out)
  replace S2 := Lib.hid (S2.out.below b2.out)
  replace SA := Lib.hid (SA.out.below b2.out)
  clear b2
  go_loopw [11, 12] (fun q0 x wr => ∃ k : Nat, k ≤ n + 1 ∧ x = .int .i64 k ∧ q0 = .int .i64 (leastK n l v X k) ∧ Hid (Below w.heap.size w wr) ∧ Hid (Holds wr w.heap.size 24 #[.int .i64 n, .slice a m ca]) ∧ Hid (Holds wr (w.heap.size + 1) 26 #[.int .i64 3, .int .i64 X, .int .i64 y, .int .i64 c, .int .i64 d]) ∧ Hid (SL wr a m ca l) ∧ Hid (SL wr (some ⟨b, off, none⟩) n cv v)) (fun _ x _ => n + 1 - (intOf x).toNat)
  case atStart => exact ⟨0, by omega, rfl, rfl, BL, Z1, Zs, S1, S2⟩
  case round =>
    clear r0 r1 r2 r3 r4 cv0 z0 BL S1 S2 Z1 Zs SA ZA
    obtain ⟨k, hk, rfl, rfl, BL, Y1, Ys, S1, S2⟩ := hrel
    have k301 := Y1.out.cell 0
    have k302 := Y1.out.cell 1
    have k303 := Ys.out.cell 0
    have k304 := Ys.out.cell 1
    have k305 := Ys.out.cell 2
    have k306 := Ys.out.cell 3
    have k307 := Ys.out.cell 4
    by_cases hlt : k < n + 1
    · have hki : (k : Int) ≤ (n : Int) := by omega
      have bk := hval.out k
      have bm := hmat.out k (by omega)
      have qv := Lib.hid (fun W hS => QVk.out k (by omega) W hS)
      have hnx : Hid (leastK n l v X (k + 1) = if k ≠ X ∧ leastK n l v X k < valF v k - mat n l k X then valF v k - mat n l k X else leastK n l v X k) := Lib.hid rfl
      have qb := Lib.hid (QBd.out k (by omega) wr S1.out)
      obtain ⟨ln, hln⟩ : ∃ x, x = leastK n l v X (k + 1) := ⟨_, rfl⟩
      have hln1 := Lib.hid hln.symm
      rw [← hln] at hnx
      clear hln
      generalize leastK n l v X k = lk at *
      generalize valF v X = xX at *
      generalize valF v k = xk at *
      generalize mat n l k X = mk at *
      have hwk : IntKind.i64.wrap (xk - mk) = xk - mk := wrap_small (by omega) (by omega)
      by_cases e : k = X
      · have hn1 : Hid (ln = lk) := Lib.hid (by rw [hnx.out, if_neg (fun q => q.1 e)])
        clear hnx
        have e2 := e.symm
        clear e
        subst e2
        have q := Lib.hid (qb.out)
        go_wp2_with fail
        with_reducible refine q.out.mono ?_
        rintro e v1 ⟨rfl, b1⟩
        clear k301 k302 k303 k304 k305 k306 k307
        clear q qb
        have k501 : v1.cell? ⟨w.heap.size + 1, 0, none⟩ = some (.int .i64 3) := (Ys.out.below b1 Ys.out.lt).cell 0
        have k502 : v1.cell? ⟨w.heap.size + 1, 1, none⟩ = some (.int .i64 X) := (Ys.out.below b1 Ys.out.lt).cell 1
        have k503 : v1.cell? ⟨w.heap.size + 1, 2, none⟩ = some (.int .i64 y) := (Ys.out.below b1 Ys.out.lt).cell 2
        have k504 : v1.cell? ⟨w.heap.size + 1, 3, none⟩ = some (.int .i64 c) := (Ys.out.below b1 Ys.out.lt).cell 3
        have k505 : v1.cell? ⟨w.heap.size + 1, 4, none⟩ = some (.int .i64 d) := (Ys.out.below b1 Ys.out.lt).cell 4
        replace Y1 := Lib.hid (Y1.out.below b1 Y1.out.lt)
        replace Ys := Lib.hid (Ys.out.below b1 Ys.out.lt)
        replace BL := Lib.hid (BL.out.trans (b1.mono BL.out.size))
        replace S1 := Lib.hid (S1.out.below b1)
        replace S2 := Lib.hid (S2.out.below b1)
        clear b1
        have q := Lib.hid (qv.out v1 S2.out)
        go_wp2_with fail
        with_reducible refine q.out.mono ?_
        rintro e u1 ⟨rfl, rfl⟩
        clear q
        go_wp2
        go_roundw
        case rel => exact ⟨X + 1, by omega, by go_num, by rw [hln1.out, hn1.out], BL, Y1, Ys, S1, S2⟩
        case measure => simp [intOf]; omega
      · have e1 : (k == X) = false := by simpa using e
        by_cases hl : lk < xk - mk
        · have hn1 : Hid (ln = xk - mk) := Lib.hid (by rw [hnx.out, if_pos ⟨e, hl⟩])
          clear hnx
          have q := Lib.hid (qb.out)
          go_wp2_with fail
          with_reducible refine q.out.mono ?_
          rintro e v1 ⟨rfl, b1⟩
          clear k301 k302 k303 k304 k305 k306 k307
          clear q qb
          have k701 : v1.cell? ⟨w.heap.size + 1, 0, none⟩ = some (.int .i64 3) := (Ys.out.below b1 Ys.out.lt).cell 0
          have k702 : v1.cell? ⟨w.heap.size + 1, 1, none⟩ = some (.int .i64 X) := (Ys.out.below b1 Ys.out.lt).cell 1
          have k703 : v1.cell? ⟨w.heap.size + 1, 2, none⟩ = some (.int .i64 y) := (Ys.out.below b1 Ys.out.lt).cell 2
          have k704 : v1.cell? ⟨w.heap.size + 1, 3, none⟩ = some (.int .i64 c) := (Ys.out.below b1 Ys.out.lt).cell 3
          have k705 : v1.cell? ⟨w.heap.size + 1, 4, none⟩ = some (.int .i64 d) := (Ys.out.below b1 Ys.out.lt).cell 4
          replace Y1 := Lib.hid (Y1.out.below b1 Y1.out.lt)
          replace Ys := Lib.hid (Ys.out.below b1 Ys.out.lt)
          replace BL := Lib.hid (BL.out.trans (b1.mono BL.out.size))
          replace S1 := Lib.hid (S1.out.below b1)
          replace S2 := Lib.hid (S2.out.below b1)
          clear b1
          have q := Lib.hid (qv.out v1 S2.out)
          go_wp2_with fail
          with_reducible refine q.out.mono ?_
          rintro e u1 ⟨rfl, rfl⟩
          clear q
          go_wp2
          go_roundw
          case rel => exact ⟨k + 1, by omega, by go_num, by rw [hln1.out, hn1.out], BL, Y1, Ys, S1, S2⟩
          case measure => simp [intOf]; omega
        · have hn1 : Hid (ln = lk) := Lib.hid (by rw [hnx.out, if_neg (fun q => hl q.2)])
          clear hnx
          have q := Lib.hid (qb.out)
          go_wp2_with fail
          with_reducible refine q.out.mono ?_
          rintro e v1 ⟨rfl, b1⟩
          clear k301 k302 k303 k304 k305 k306 k307
          clear q qb
          have k701 : v1.cell? ⟨w.heap.size + 1, 0, none⟩ = some (.int .i64 3) := (Ys.out.below b1 Ys.out.lt).cell 0
          have k702 : v1.cell? ⟨w.heap.size + 1, 1, none⟩ = some (.int .i64 X) := (Ys.out.below b1 Ys.out.lt).cell 1
          have k703 : v1.cell? ⟨w.heap.size + 1, 2, none⟩ = some (.int .i64 y) := (Ys.out.below b1 Ys.out.lt).cell 2
          have k704 : v1.cell? ⟨w.heap.size + 1, 3, none⟩ = some (.int .i64 c) := (Ys.out.below b1 Ys.out.lt).cell 3
          have k705 : v1.cell? ⟨w.heap.size + 1, 4, none⟩ = some (.int .i64 d) := (Ys.out.below b1 Ys.out.lt).cell 4
          replace Y1 := Lib.hid (Y1.out.below b1 Y1.out.lt)
          replace Ys := Lib.hid (Ys.out.below b1 Ys.out.lt)
          replace BL := Lib.hid (BL.out.trans (b1.mono BL.out.size))
          replace S1 := Lib.hid (S1.out.below b1)
          replace S2 := Lib.hid (S2.out.below b1)
          clear b1
          have q := Lib.hid (qv.out v1 S2.out)
          go_wp2_with fail
          with_reducible refine q.out.mono ?_
          rintro e u1 ⟨rfl, rfl⟩
          clear q
          go_wp2
          go_roundw
          case rel => exact ⟨k + 1, by omega, by go_num, by rw [hln1.out, hn1.out], BL, Y1, Ys, S1, S2⟩
          case measure => simp [intOf]; omega
    · have hke : k = n + 1 := by omega
      subst hke
      generalize leastK n l v X (n + 1) = le at *
      generalize valF v X = xX at *
      have q := Lib.hid (qW.out wr S2.out)
      go_wp2_with fail
      with_reducible refine q.out.mono ?_
      rintro e v8 ⟨aW, cW, rfl, sW, bW⟩
      clear k301 k302 k303 k304 k305 k306 k307
      clear q qW
      have k801 : v8.cell? ⟨w.heap.size + 1, 0, none⟩ = some (.int .i64 3) := (Ys.out.below bW Ys.out.lt).cell 0
      have k802 : v8.cell? ⟨w.heap.size + 1, 1, none⟩ = some (.int .i64 X) := (Ys.out.below bW Ys.out.lt).cell 1
      have k803 : v8.cell? ⟨w.heap.size + 1, 2, none⟩ = some (.int .i64 y) := (Ys.out.below bW Ys.out.lt).cell 2
      have k804 : v8.cell? ⟨w.heap.size + 1, 3, none⟩ = some (.int .i64 c) := (Ys.out.below bW Ys.out.lt).cell 3
      have k805 : v8.cell? ⟨w.heap.size + 1, 4, none⟩ = some (.int .i64 d) := (Ys.out.below bW Ys.out.lt).cell 4
      replace Y1 := Lib.hid (Y1.out.below bW Y1.out.lt)
      replace Ys := Lib.hid (Ys.out.below bW Ys.out.lt)
      replace BL := Lib.hid (BL.out.trans (bW.mono BL.out.size))
      replace S1 := Lib.hid (S1.out.below bW)
      replace S2 := Lib.hid (S2.out.below bW)
      have SW := Lib.hid (sW)
      clear bW sW
      have Z1 := Y1
      have q := Lib.hid (qD.out _ aW cW SW.out)
      go_wp2_with fail
      with_reducible refine q.out.mono ?_
      rintro e uD ⟨aD, cD, rfl, sD, bD⟩
      clear k801 k802 k803 k804 k805
      clear q qD
      have k806 : uD.cell? ⟨w.heap.size, 0, none⟩ = some (.int .i64 n) := (Z1.out.below bD Z1.out.lt).cell 0
      have k807 : uD.cell? ⟨w.heap.size, 1, none⟩ = some (.slice a m ca) := (Z1.out.below bD Z1.out.lt).cell 1
      replace Ys := Lib.hid (Ys.out.below bD Ys.out.lt)
      replace Z1 := Lib.hid (Z1.out.below bD Z1.out.lt)
      replace BL := Lib.hid (BL.out.trans (bD.mono BL.out.size))
      replace S1 := Lib.hid (S1.out.below bD)
      replace S2 := Lib.hid (S2.out.below bD)
      replace SW := Lib.hid (SW.out.below bD)
      have SD := Lib.hid (sD)
      clear bD sD
      have q := Lib.hid (qHz.out _ aW cW S1.out SW.out)
      go_wp2_with fail
      with_reducible refine q.out.mono ?_
      rintro e uZ ⟨rfl, bZ⟩
      clear k806 k807
      clear q qHz
      replace Ys := Lib.hid (Ys.out.below bZ Ys.out.lt)
      replace Z1 := Lib.hid (Z1.out.below bZ Z1.out.lt)
      replace BL := Lib.hid (BL.out.trans (bZ.mono BL.out.size))
      replace S1 := Lib.hid (S1.out.below bZ)
      replace S2 := Lib.hid (S2.out.below bZ)
      replace SW := Lib.hid (SW.out.below bZ)
      replace SD := Lib.hid (SD.out.below bZ)
      clear bZ
      have q := Lib.hid (psame_any aD (some ⟨b, off, none⟩) v n cD cv _ SD.out S2.out)
      go_wp2_with fail
      with_reducible refine q.out.mono ?_
      rintro e uS ⟨rfl, bS⟩
      clear q
      replace Ys := Lib.hid (Ys.out.below bS Ys.out.lt)
      replace Z1 := Lib.hid (Z1.out.below bS Z1.out.lt)
      replace BL := Lib.hid (BL.out.trans (bS.mono BL.out.size))
      replace S1 := Lib.hid (S1.out.below bS)
      replace S2 := Lib.hid (S2.out.below bS)
      replace SW := Lib.hid (SW.out.below bS)
      replace SD := Lib.hid (SD.out.below bS)
      clear bS
      go_wp2
      go_ret
      exact ⟨rfl, BL.out⟩
set_option maxRecDepth 100000 in
set_option maxHeartbeats 4000000 in
theorem pback_tie (n X p : Nat) (y c d : Int) (a : Option Addr) (b off m ca cv : Nat) (l v ws : List Int) (w : World) (h1 : SL w a m ca l) (h2 : SL w (some ⟨b, off, none⟩) n cv v) (g1 : ¬ 200 < m) (z1 : IsZ n l) (hX0 : 1 ≤ X) (hX : X ≤ n) (hp : p + 1 = X) (hxy : ((X : Int) == y) = false) (hF : Full n l) (hv : ∀ k, -1099511627776 ≤ valF v k ∧ valF v k ≤ 1099511627776) (hws : withL v X (leastK n l v X (n + 1)) = ws) (hr : rightB 2 X y c d n = true) (hn8 : n ≤ 8) (hA : hasB n (postL n l 2 X y c d) v = true) (hZ : hasB n l ws = true) (hD : ∀ W a3 c3, SL W a3 n c3 ws → Calls Tryz.prog 12 #[.agg #[.int .i64 2, .int .i64 X, .int .i64 y, .int .i64 c, .int .i64 d], .slice a3 n c3, .int .i64 (valF v X)] W (DoS 0 n v W)) : Calls Tryz.prog 4 #[.agg #[.int .i64 n, .slice a m ca], .agg #[.int .i64 2, .int .i64 X, .int .i64 y, .int .i64 c, .int .i64 d], .slice (some ⟨b, off, none⟩) n cv] w (Gives (.bool true) w) := by
  have hck : Hid (pchk n l 2 X y c d = 0) := Lib.hid (by unfold pchk; rw [z1.check, hr]; simp)
  have hXP := postL_isz z1 2 X y c d
  have qA := Lib.hid (fun W hs => (post_ok n 2 X y c d l z1 hr a m ca W hs).mono (fun e w' h => zoneE_lenB hXP.small h))
  have qHa := Lib.hid (fun W a2 m2 c2 (hs2 : SL W a2 m2 c2 (postL n l 2 X y c d)) (hs : SL W (some ⟨b, off, none⟩) n cv v) => has_any n a2 m2 c2 _ (some ⟨b, off, none⟩) n cv v W hs2 hs)
  rw [hA] at qHa
  have p2 : ¬ (20 : Int) < (n : Int) := by omega
  have qD := Lib.hid hD
  have qHz := Lib.hid (fun W a3 c3 (hs2 : SL W a m ca l) (hs : SL W a3 n c3 ws) => has_any n a m ca l a3 n c3 ws W hs2 hs)
  rw [hZ] at qHz
  have hlm := Lib.hid (show v.length = n from h2.len.symm)
  obtain ⟨i0, hii, hz0, hz1, hz2⟩ := info_parts infoInt
  have qW := Lib.hid (fun W hs => rwith_any (some ⟨b, off, none⟩) v n cv (by omega) X hX0 hX (leastK n l v X (n + 1)) W hs)
  rw [hws] at qW
  have hvi : Hid (v.getD p 0 = valF v X) := Lib.hid (by unfold valF; rw [if_neg (by omega)]; congr 1; omega)
  have hil : Hid (p < v.length) := Lib.hid (by rw [← h2.len]; omega)
  have hval := Lib.hid hv
  have hmat : Hid (∀ k, k ≤ n → -2199023255552 ≤ mat n l k X ∧ mat n l k X ≤ 2199023255552) := Lib.hid (fun k hk => full_near hF (place_lt hk hX))
  have QBd := Lib.hid (fun k (hk : k ≤ n) W (hS : SL W a m ca l) => bound_full hF hk hX a m ca W hS)
  have QVk := Lib.hid (fun k (hk : k ≤ n) W (hV : SL W (some ⟨b, off, none⟩) n cv v) => rvalue_any (some ⟨b, off, none⟩) v n cv hlm.out.symm (by omega) k hk W.heap.size W hV.sees)
  have hwi : IntKind.i64.wrap ((X : Int) - 1) = (p : Int) := by rw [wrap_small (by omega) (by omega)]; omega
  have hpn : (p : Int) < (n : Int) := by omega
  have hp0 : (0 : Int) ≤ (p : Int) := by omega
  have hxy3 : ((X : Int) != y) = true := by simpa using hxy
  clear z1 hr hXP hA hZ hD hws hv hF
  generalize postL n l 2 X y c d = P at *
  obtain ⟨W1, hW1⟩ : ∃ W1, W1 = (w.alloc (.cells #[.int .i64 n, .slice a m ca] 24)).alloc (.cells #[.int .i64 2, .int .i64 X, .int .i64 y, .int .i64 c, .int .i64 d] 26) := ⟨_, rfl⟩
  have Z1 : Hid (Holds W1 (w.heap.size) 24 #[.int .i64 n, .slice a m ca]) := Lib.hid (by rw [hW1]; exact (Holds.new w _ _).alloc _)
  have Zs : Hid (Holds W1 (w.heap.size + 1) 26 #[.int .i64 2, .int .i64 X, .int .i64 y, .int .i64 c, .int .i64 d]) := Lib.hid (by rw [hW1]; have q := Holds.new (w.alloc (.cells #[.int .i64 n, .slice a m ca] 24)) 26 #[.int .i64 2, .int .i64 X, .int .i64 y, .int .i64 c, .int .i64 d]; simpa using q)
  have BL := Lib.hid (show Below w.heap.size w W1 by rw [hW1]; exact (box_below _ _ _).alloc (by simp) _)
  have S1 := Lib.hid (h1.below BL.out)
  have S2 := Lib.hid (h2.below BL.out)
  have hW1' := Lib.hid hW1
  clear hW1
  clear h1 h2
  go_enter Tryz.func4, Tryz.ntmps4
  have k1 := Z1.out.cell 0
  have k2 := Z1.out.cell 1
  have k3 := Zs.out.cell 0
  have k4 := Zs.out.cell 1
  have k5 := Zs.out.cell 2
  have k6 := Zs.out.cell 3
  have k7 := Zs.out.cell 4
  have q := Lib.hid (by have := large_any a m ca S1.out.max W1; rwa [decide_eq_false (show ¬ (200 : Int) < (m : Int) by omega)] at this)
  go_wp2_with fail
  rw [← hW1'.out]
  with_reducible refine q.out.mono ?_
  rintro e u1 ⟨rfl, rfl⟩
  clear hW1'
  clear q
  have q := Lib.hid (by have := rchk_any n 2 X y c d l a m ca W1 S1.out; rwa [hck.out] at this)
  go_wp2_with fail
  with_reducible refine q.out.mono ?_
  rintro e u3 ⟨rfl, b3⟩
  clear k1 k2 k3 k4 k5 k6 k7
  clear q
  have k8 : u3.cell? ⟨w.heap.size, 0, none⟩ = some (.int .i64 n) := (Z1.out.below b3 Z1.out.lt).cell 0
  have k9 : u3.cell? ⟨w.heap.size, 1, none⟩ = some (.slice a m ca) := (Z1.out.below b3 Z1.out.lt).cell 1
  have k10 : u3.cell? ⟨w.heap.size + 1, 0, none⟩ = some (.int .i64 2) := (Zs.out.below b3 Zs.out.lt).cell 0
  have k11 : u3.cell? ⟨w.heap.size + 1, 1, none⟩ = some (.int .i64 X) := (Zs.out.below b3 Zs.out.lt).cell 1
  have k12 : u3.cell? ⟨w.heap.size + 1, 2, none⟩ = some (.int .i64 y) := (Zs.out.below b3 Zs.out.lt).cell 2
  have k13 : u3.cell? ⟨w.heap.size + 1, 3, none⟩ = some (.int .i64 c) := (Zs.out.below b3 Zs.out.lt).cell 3
  have k14 : u3.cell? ⟨w.heap.size + 1, 4, none⟩ = some (.int .i64 d) := (Zs.out.below b3 Zs.out.lt).cell 4
  replace Z1 := Lib.hid (Z1.out.below b3 Z1.out.lt)
  replace Zs := Lib.hid (Zs.out.below b3 Zs.out.lt)
  replace BL := Lib.hid (BL.out.trans (b3.mono BL.out.size))
  replace S1 := Lib.hid (S1.out.below b3)
  replace S2 := Lib.hid (S2.out.below b3)
  clear b3
  have q := Lib.hid (qA.out _ S1.out)
  go_wp2_with fail
  with_reducible refine q.out.mono ?_
  rintro e uA ⟨aA, cA, rfl, sA, bA⟩
  clear k8 k9 k10 k11 k12 k13 k14
  clear q qA
  have B0 := box_below uA #[.int .i64 n, .slice aA P.length cA] 24
  have B := bA.trans (B0.mono bA.size)
  replace Z1 := Lib.hid (Z1.out.below B Z1.out.lt)
  replace Zs := Lib.hid (Zs.out.below B Zs.out.lt)
  replace BL := Lib.hid (BL.out.trans (B.mono BL.out.size))
  replace S1 := Lib.hid (S1.out.below B)
  replace S2 := Lib.hid (S2.out.below B)
  have ZA := Lib.hid (Holds.new uA 24 #[.int .i64 n, .slice aA P.length cA])
  have SA := Lib.hid (sA.below B0)
  clear bA B B0 sA
  have q := Lib.hid (plives_any (uA.alloc (.cells #[.int .i64 n, .slice aA P.length cA] 24)))
  go_wp2_with fail
  with_reducible refine q.out.mono ?_
  rintro e uL ⟨rfl, bL⟩
  clear q
  have k15 : uL.cell? ⟨uA.heap.size, 0, none⟩ = some (.int .i64 n) := (ZA.out.below bL ZA.out.lt).cell 0
  have k16 : uL.cell? ⟨uA.heap.size, 1, none⟩ = some (.slice aA P.length cA) := (ZA.out.below bL ZA.out.lt).cell 1
  replace Z1 := Lib.hid (Z1.out.below bL Z1.out.lt)
  replace Zs := Lib.hid (Zs.out.below bL Zs.out.lt)
  replace ZA := Lib.hid (ZA.out.below bL ZA.out.lt)
  replace BL := Lib.hid (BL.out.trans (bL.mono BL.out.size))
  replace S1 := Lib.hid (S1.out.below bL)
  replace S2 := Lib.hid (S2.out.below bL)
  replace SA := Lib.hid (SA.out.below bL)
  clear bL
  have q := Lib.hid (qHa.out _ aA _ cA SA.out S2.out)
  go_wp2_with fail
  with_reducible refine q.out.mono ?_
  rintro e uH ⟨rfl, bH⟩
  clear k15 k16
  clear q qHa
  have k17 : uH.cell? ⟨w.heap.size, 0, none⟩ = some (.int .i64 n) := (Z1.out.below bH Z1.out.lt).cell 0
  have k18 : uH.cell? ⟨w.heap.size, 1, none⟩ = some (.slice a m ca) := (Z1.out.below bH Z1.out.lt).cell 1
  have k19 : uH.cell? ⟨w.heap.size + 1, 0, none⟩ = some (.int .i64 2) := (Zs.out.below bH Zs.out.lt).cell 0
  have k20 : uH.cell? ⟨w.heap.size + 1, 1, none⟩ = some (.int .i64 X) := (Zs.out.below bH Zs.out.lt).cell 1
  have k21 : uH.cell? ⟨w.heap.size + 1, 2, none⟩ = some (.int .i64 y) := (Zs.out.below bH Zs.out.lt).cell 2
  have k22 : uH.cell? ⟨w.heap.size + 1, 3, none⟩ = some (.int .i64 c) := (Zs.out.below bH Zs.out.lt).cell 3
  have k23 : uH.cell? ⟨w.heap.size + 1, 4, none⟩ = some (.int .i64 d) := (Zs.out.below bH Zs.out.lt).cell 4
  replace Z1 := Lib.hid (Z1.out.below bH Z1.out.lt)
  replace Zs := Lib.hid (Zs.out.below bH Zs.out.lt)
  replace ZA := Lib.hid (ZA.out.below bH ZA.out.lt)
  replace BL := Lib.hid (BL.out.trans (bH.mono BL.out.size))
  replace S1 := Lib.hid (S1.out.below bH)
  replace S2 := Lib.hid (S2.out.below bH)
  replace SA := Lib.hid (SA.out.below bH)
  clear bH
  go_wp2_with (at_builtin; refine wpList_append_sees _ rfl (.tmp 50) (.tmp 51) 22 rfl uH 3 i0 (.int .i64 0) 8 Tryz.underlying22 hii hz0 hz1 hz2 rfl .i64 _ [] (by exact own_empty 3 .i64 (Below.refl _ uH)) (by exact box_below _ _ _) uH.heap.size (some ⟨b, off, none⟩) v (by exact S2.out.sees.below (box_below _ _ _)) n cv hlm.out.symm rfl rfl (by have := hlm.out; simp; omega) (by omega) ?_; intro v2 w2 hown2 hw2; simp only [List.nil_append] at hown2; obtain ⟨a3, c3, e3, h3, s3⟩ := sees_own hown2; rw [hlm.out] at e3; subst e3; have b2 := Lib.hid hw2; clear hown2 hw2 h3 s3; have r0 := (Zs.out.below b2.out Zs.out.lt).cell 0; have r1 := (Zs.out.below b2.out Zs.out.lt).cell 1; have r2 := (Zs.out.below b2.out Zs.out.lt).cell 2; have r3 := (Zs.out.below b2.out Zs.out.lt).cell 3; have r4 := (Zs.out.below b2.out Zs.out.lt).cell 4; have cv0 : w2.cell? ⟨b, off + p, none⟩ = some (.int .i64 (valF v X)) := (by rw [← hvi.out]; exact sees_cell (S2.out.below b2.out).sees hil.out); have z0 := (Z1.out.below b2.out Z1.out.lt).cell 0)
  clear k17 k18 k19 k20 k21 k22 k23
  replace Z1 := Lib.hid (Z1.out.below b2.out Z1.out.lt)
  replace Zs := Lib.hid (Zs.out.below b2.out Zs.out.lt)
  replace ZA := Lib.hid (ZA.out.below b2.out ZA.out.lt)
  replace BL := Lib.hid (BL.out.trans (b2.out.mono BL.out.size))
  replace S1 := Lib.hid (S1.out.below b2.out)
  replace S2 := Lib.hid (S2.out.below b2.out)
  replace SA := Lib.hid (SA.out.below b2.out)
  clear b2
  go_loopw [11, 12] (fun q0 x wr => ∃ k : Nat, k ≤ n + 1 ∧ x = .int .i64 k ∧ q0 = .int .i64 (leastK n l v X k) ∧ Hid (Below w.heap.size w wr) ∧ Hid (Holds wr w.heap.size 24 #[.int .i64 n, .slice a m ca]) ∧ Hid (Holds wr (w.heap.size + 1) 26 #[.int .i64 2, .int .i64 X, .int .i64 y, .int .i64 c, .int .i64 d]) ∧ Hid (SL wr a m ca l) ∧ Hid (SL wr (some ⟨b, off, none⟩) n cv v)) (fun _ x _ => n + 1 - (intOf x).toNat)
  case atStart => exact ⟨0, by omega, rfl, rfl, BL, Z1, Zs, S1, S2⟩
  case round =>
    clear r0 r1 r2 r3 r4 cv0 z0 BL S1 S2 Z1 Zs SA ZA
    obtain ⟨k, hk, rfl, rfl, BL, Y1, Ys, S1, S2⟩ := hrel
    have k301 := Y1.out.cell 0
    have k302 := Y1.out.cell 1
    have k303 := Ys.out.cell 0
    have k304 := Ys.out.cell 1
    have k305 := Ys.out.cell 2
    have k306 := Ys.out.cell 3
    have k307 := Ys.out.cell 4
    by_cases hlt : k < n + 1
    · have hki : (k : Int) ≤ (n : Int) := by omega
      have bk := hval.out k
      have bm := hmat.out k (by omega)
      have qv := Lib.hid (fun W hS => QVk.out k (by omega) W hS)
      have hnx : Hid (leastK n l v X (k + 1) = if k ≠ X ∧ leastK n l v X k < valF v k - mat n l k X then valF v k - mat n l k X else leastK n l v X k) := Lib.hid rfl
      have qb := Lib.hid (QBd.out k (by omega) wr S1.out)
      obtain ⟨ln, hln⟩ : ∃ x, x = leastK n l v X (k + 1) := ⟨_, rfl⟩
      have hln1 := Lib.hid hln.symm
      rw [← hln] at hnx
      clear hln
      generalize leastK n l v X k = lk at *
      generalize valF v X = xX at *
      generalize valF v k = xk at *
      generalize mat n l k X = mk at *
      have hwk : IntKind.i64.wrap (xk - mk) = xk - mk := wrap_small (by omega) (by omega)
      by_cases e : k = X
      · have hn1 : Hid (ln = lk) := Lib.hid (by rw [hnx.out, if_neg (fun q => q.1 e)])
        clear hnx
        have e2 := e.symm
        clear e
        subst e2
        have q := Lib.hid (qb.out)
        go_wp2_with fail
        with_reducible refine q.out.mono ?_
        rintro e v1 ⟨rfl, b1⟩
        clear k301 k302 k303 k304 k305 k306 k307
        clear q qb
        have k501 : v1.cell? ⟨w.heap.size + 1, 0, none⟩ = some (.int .i64 2) := (Ys.out.below b1 Ys.out.lt).cell 0
        have k502 : v1.cell? ⟨w.heap.size + 1, 1, none⟩ = some (.int .i64 X) := (Ys.out.below b1 Ys.out.lt).cell 1
        have k503 : v1.cell? ⟨w.heap.size + 1, 2, none⟩ = some (.int .i64 y) := (Ys.out.below b1 Ys.out.lt).cell 2
        have k504 : v1.cell? ⟨w.heap.size + 1, 3, none⟩ = some (.int .i64 c) := (Ys.out.below b1 Ys.out.lt).cell 3
        have k505 : v1.cell? ⟨w.heap.size + 1, 4, none⟩ = some (.int .i64 d) := (Ys.out.below b1 Ys.out.lt).cell 4
        replace Y1 := Lib.hid (Y1.out.below b1 Y1.out.lt)
        replace Ys := Lib.hid (Ys.out.below b1 Ys.out.lt)
        replace BL := Lib.hid (BL.out.trans (b1.mono BL.out.size))
        replace S1 := Lib.hid (S1.out.below b1)
        replace S2 := Lib.hid (S2.out.below b1)
        clear b1
        have q := Lib.hid (qv.out v1 S2.out)
        go_wp2_with fail
        with_reducible refine q.out.mono ?_
        rintro e u1 ⟨rfl, rfl⟩
        clear q
        go_wp2
        go_roundw
        case rel => exact ⟨X + 1, by omega, by go_num, by rw [hln1.out, hn1.out], BL, Y1, Ys, S1, S2⟩
        case measure => simp [intOf]; omega
      · have e1 : (k == X) = false := by simpa using e
        by_cases hl : lk < xk - mk
        · have hn1 : Hid (ln = xk - mk) := Lib.hid (by rw [hnx.out, if_pos ⟨e, hl⟩])
          clear hnx
          have q := Lib.hid (qb.out)
          go_wp2_with fail
          with_reducible refine q.out.mono ?_
          rintro e v1 ⟨rfl, b1⟩
          clear k301 k302 k303 k304 k305 k306 k307
          clear q qb
          have k701 : v1.cell? ⟨w.heap.size + 1, 0, none⟩ = some (.int .i64 2) := (Ys.out.below b1 Ys.out.lt).cell 0
          have k702 : v1.cell? ⟨w.heap.size + 1, 1, none⟩ = some (.int .i64 X) := (Ys.out.below b1 Ys.out.lt).cell 1
          have k703 : v1.cell? ⟨w.heap.size + 1, 2, none⟩ = some (.int .i64 y) := (Ys.out.below b1 Ys.out.lt).cell 2
          have k704 : v1.cell? ⟨w.heap.size + 1, 3, none⟩ = some (.int .i64 c) := (Ys.out.below b1 Ys.out.lt).cell 3
          have k705 : v1.cell? ⟨w.heap.size + 1, 4, none⟩ = some (.int .i64 d) := (Ys.out.below b1 Ys.out.lt).cell 4
          replace Y1 := Lib.hid (Y1.out.below b1 Y1.out.lt)
          replace Ys := Lib.hid (Ys.out.below b1 Ys.out.lt)
          replace BL := Lib.hid (BL.out.trans (b1.mono BL.out.size))
          replace S1 := Lib.hid (S1.out.below b1)
          replace S2 := Lib.hid (S2.out.below b1)
          clear b1
          have q := Lib.hid (qv.out v1 S2.out)
          go_wp2_with fail
          with_reducible refine q.out.mono ?_
          rintro e u1 ⟨rfl, rfl⟩
          clear q
          go_wp2
          go_roundw
          case rel => exact ⟨k + 1, by omega, by go_num, by rw [hln1.out, hn1.out], BL, Y1, Ys, S1, S2⟩
          case measure => simp [intOf]; omega
        · have hn1 : Hid (ln = lk) := Lib.hid (by rw [hnx.out, if_neg (fun q => hl q.2)])
          clear hnx
          have q := Lib.hid (qb.out)
          go_wp2_with fail
          with_reducible refine q.out.mono ?_
          rintro e v1 ⟨rfl, b1⟩
          clear k301 k302 k303 k304 k305 k306 k307
          clear q qb
          have k701 : v1.cell? ⟨w.heap.size + 1, 0, none⟩ = some (.int .i64 2) := (Ys.out.below b1 Ys.out.lt).cell 0
          have k702 : v1.cell? ⟨w.heap.size + 1, 1, none⟩ = some (.int .i64 X) := (Ys.out.below b1 Ys.out.lt).cell 1
          have k703 : v1.cell? ⟨w.heap.size + 1, 2, none⟩ = some (.int .i64 y) := (Ys.out.below b1 Ys.out.lt).cell 2
          have k704 : v1.cell? ⟨w.heap.size + 1, 3, none⟩ = some (.int .i64 c) := (Ys.out.below b1 Ys.out.lt).cell 3
          have k705 : v1.cell? ⟨w.heap.size + 1, 4, none⟩ = some (.int .i64 d) := (Ys.out.below b1 Ys.out.lt).cell 4
          replace Y1 := Lib.hid (Y1.out.below b1 Y1.out.lt)
          replace Ys := Lib.hid (Ys.out.below b1 Ys.out.lt)
          replace BL := Lib.hid (BL.out.trans (b1.mono BL.out.size))
          replace S1 := Lib.hid (S1.out.below b1)
          replace S2 := Lib.hid (S2.out.below b1)
          clear b1
          have q := Lib.hid (qv.out v1 S2.out)
          go_wp2_with fail
          with_reducible refine q.out.mono ?_
          rintro e u1 ⟨rfl, rfl⟩
          clear q
          go_wp2
          go_roundw
          case rel => exact ⟨k + 1, by omega, by go_num, by rw [hln1.out, hn1.out], BL, Y1, Ys, S1, S2⟩
          case measure => simp [intOf]; omega
    · have hke : k = n + 1 := by omega
      subst hke
      generalize leastK n l v X (n + 1) = le at *
      generalize valF v X = xX at *
      have q := Lib.hid (qW.out wr S2.out)
      go_wp2_with fail
      with_reducible refine q.out.mono ?_
      rintro e v8 ⟨aW, cW, rfl, sW, bW⟩
      clear k301 k302 k303 k304 k305 k306 k307
      clear q qW
      have k801 : v8.cell? ⟨w.heap.size + 1, 0, none⟩ = some (.int .i64 2) := (Ys.out.below bW Ys.out.lt).cell 0
      have k802 : v8.cell? ⟨w.heap.size + 1, 1, none⟩ = some (.int .i64 X) := (Ys.out.below bW Ys.out.lt).cell 1
      have k803 : v8.cell? ⟨w.heap.size + 1, 2, none⟩ = some (.int .i64 y) := (Ys.out.below bW Ys.out.lt).cell 2
      have k804 : v8.cell? ⟨w.heap.size + 1, 3, none⟩ = some (.int .i64 c) := (Ys.out.below bW Ys.out.lt).cell 3
      have k805 : v8.cell? ⟨w.heap.size + 1, 4, none⟩ = some (.int .i64 d) := (Ys.out.below bW Ys.out.lt).cell 4
      replace Y1 := Lib.hid (Y1.out.below bW Y1.out.lt)
      replace Ys := Lib.hid (Ys.out.below bW Ys.out.lt)
      replace BL := Lib.hid (BL.out.trans (bW.mono BL.out.size))
      replace S1 := Lib.hid (S1.out.below bW)
      replace S2 := Lib.hid (S2.out.below bW)
      have SW := Lib.hid (sW)
      clear bW sW
      have Z1 := Y1
      have q := Lib.hid (qD.out _ aW cW SW.out)
      go_wp2_with fail
      with_reducible refine q.out.mono ?_
      rintro e uD ⟨aD, cD, rfl, sD, bD⟩
      clear k801 k802 k803 k804 k805
      clear q qD
      have k806 : uD.cell? ⟨w.heap.size, 0, none⟩ = some (.int .i64 n) := (Z1.out.below bD Z1.out.lt).cell 0
      have k807 : uD.cell? ⟨w.heap.size, 1, none⟩ = some (.slice a m ca) := (Z1.out.below bD Z1.out.lt).cell 1
      replace Ys := Lib.hid (Ys.out.below bD Ys.out.lt)
      replace Z1 := Lib.hid (Z1.out.below bD Z1.out.lt)
      replace BL := Lib.hid (BL.out.trans (bD.mono BL.out.size))
      replace S1 := Lib.hid (S1.out.below bD)
      replace S2 := Lib.hid (S2.out.below bD)
      replace SW := Lib.hid (SW.out.below bD)
      have SD := Lib.hid (sD)
      clear bD sD
      have q := Lib.hid (qHz.out _ aW cW S1.out SW.out)
      go_wp2_with fail
      with_reducible refine q.out.mono ?_
      rintro e uZ ⟨rfl, bZ⟩
      clear k806 k807
      clear q qHz
      replace Ys := Lib.hid (Ys.out.below bZ Ys.out.lt)
      replace Z1 := Lib.hid (Z1.out.below bZ Z1.out.lt)
      replace BL := Lib.hid (BL.out.trans (bZ.mono BL.out.size))
      replace S1 := Lib.hid (S1.out.below bZ)
      replace S2 := Lib.hid (S2.out.below bZ)
      replace SW := Lib.hid (SW.out.below bZ)
      replace SD := Lib.hid (SD.out.below bZ)
      clear bZ
      have q := Lib.hid (psame_any aD (some ⟨b, off, none⟩) v n cD cv _ SD.out S2.out)
      go_wp2_with fail
      with_reducible refine q.out.mono ?_
      rintro e uS ⟨rfl, bS⟩
      clear q
      replace Ys := Lib.hid (Ys.out.below bS Ys.out.lt)
      replace Z1 := Lib.hid (Z1.out.below bS Z1.out.lt)
      replace BL := Lib.hid (BL.out.trans (bS.mono BL.out.size))
      replace S1 := Lib.hid (S1.out.below bS)
      replace S2 := Lib.hid (S2.out.below bS)
      replace SW := Lib.hid (SW.out.below bS)
      replace SD := Lib.hid (SD.out.below bS)
      clear bS
      go_wp2
      go_ret
      exact ⟨rfl, BL.out⟩
end Go.Proofs.YtplgmmjppmpnoaaGreatDoor
/- PostBack, whole: its walk. -/
namespace Go.Proofs.YtplgmmjppmpnoaaGreatDoor
open Go.RowKit
set_option linter.unusedVariables false
set_option linter.unusedSimpArgs false

theorem bval_in {v : List Int} {n : Nat} (hv : v.length = n) (hf : v.any farB = false) (k : Nat) : -1099511627776 ≤ valF v k ∧ valF v k ≤ 1099511627776 := by
  by_cases h0 : k = 0
  · subst h0; rw [valF_zero]; omega
  by_cases hk : k ≤ v.length
  · exact far_iff.1 hf k (by omega) hk
  · unfold valF
    have e : v.getD (k - 1) 0 = 0 := by simp [List.getD, show ¬ k - 1 < v.length by omega]
    rw [if_neg h0, e]
    omega
theorem bnear {x : Int} (h : -1099511627776 ≤ x ∧ x ≤ 1099511627776) : farB x = false := by
  unfold farB
  simp; omega
theorem with_back {v : List Int} {X : Nat} (hX0 : 1 ≤ X) (hX : X ≤ v.length) (x : Int) : withL (withL v X x) X (valF v X) = v := by
  unfold withL
  rw [List.set_set]
  unfold valF
  rw [if_neg (by omega)]
  apply List.ext_getElem
  · simp
  · intro j h1 h2
    rw [List.getElem_set]
    split
    · next e => subst e; simp [List.getD, h2]
    · rfl
set_option maxHeartbeats 1000000 in
theorem postBack_walk (w : World) (n : Int) (hn : (Lit.int .i64 n).wf = true) (a : Option Addr) (m ca : Nat) (l : List Int) (hl : l.length = m) (hm : m ≤ maxLen) (hc : m ≤ ca) (hw : ∀ n ∈ l, (Lit.int .i64 n).wf = true) (hs : Sees .i64 w.heap.size w a l) (k : Int) (hk : (Lit.int .i64 k).wf = true) (x : Int) (hx : (Lit.int .i64 x).wf = true) (y : Int) (hy : (Lit.int .i64 y).wf = true) (c : Int) (hcc : (Lit.int .i64 c).wf = true) (d : Int) (hd : (Lit.int .i64 d).wf = true)
    (av : Option Addr) (mv cv : Nat) (v : List Int) (hlv : v.length = mv) (hmv : mv ≤ maxLen) (hcv : mv ≤ cv) (hwv : ∀ n ∈ v, (Lit.int .i64 n).wf = true) (hsv : Sees .i64 w.heap.size w av v) : Calls Tryz.prog 4 #[.agg #[.int .i64 n, .slice a m ca], .agg #[.int .i64 k, .int .i64 x, .int .i64 y, .int .i64 c, .int .i64 d], .slice av mv cv] w (Gives (.bool true) w) := by
  have h1 : SL w a m ca l := ⟨hl.symm, hc, hm, hs⟩
  have h2 : SL w av mv cv v := ⟨hlv.symm, hcv, hmv, hsv⟩
  by_cases g1 : 200 < m
  · exact pback_g1 mv n k x y c d a av m ca cv l v w h1 h2 g1
  by_cases g2 : 20 < mv
  · exact pback_g2 mv n k x y c d a av m ca cv l v w h1 h2 g1 g2
  by_cases g3 : pchk n l k x y c d = 0
  rotate_left
  · exact pback_g3 mv n k x y c d a av m ca cv l v w h1 h2 g1 g2 g3
  obtain ⟨n, rfl, z1, hr⟩ := pchk_ok g3
  cases g4 : hasB n (postL n l k x y c d) v
  · exact pback_not n mv k x y c d a av m ca cv l v w h1 h2 g1 z1 hr g2 g4
  have hvn : v.length = n := by have g5 := g4; unfold hasB at g5; simp only [Bool.and_eq_true, decide_eq_true_eq] at g5; omega
  obtain rfl : mv = n := by omega
  have hH := (has_iff (postL_isz z1 k x y c d) hvn).1 g4
  have hin := bval_in hvn hH.2.1
  have hsome : 1 ≤ mv → ∃ b off, av = some ⟨b, off, none⟩ := fun h => by
    rcases hsv with e | ⟨b, off, e, _⟩
    · rw [e] at hvn; simp at hvn; omega
    · exact ⟨b, off, e⟩
  have hfull : ∀ ws, ws.length = mv → hasB mv l ws = true → Full mv l := fun ws hws h => by
    rcases z1.2 with e | e
    · exact absurd e ((has_iff z1 hws).1 h).1
    · exact e
  have hW := way_of hr
  cases hW with
  | skip => exact pback_same mv 1 0 0 0 0 a av m ca cv l v w h1 h2 g1 z1 hr z1.1 (by decide) (by decide) g4 (by unfold postL at g4; simpa using g4) (fun W a3 c3 hs => does_skip mv z1.1 v 0 a3 c3 W hs)
  | set X Y c q1 q2 q3 q4 =>
    obtain ⟨b, off, rfl⟩ := hsome (by omega)
    have hA : hasB mv (letL mv l X Y c) v = true := by unfold postL at g4; simpa using g4
    by_cases hXY : X = Y
    · subst hXY
      obtain ⟨i, rfl⟩ : ∃ i, X = i + 1 := ⟨X - 1, by omega⟩
      have ex : ((i + 1 : Nat) : Int) = (i : Int) + 1 := rfl
      have f := fact_mov z1 hvn q1 q2 c
      rw [hA] at f
      have f2 := f.symm
      simp only [Bool.and_eq_true, Bool.not_eq_true'] at f2
      obtain ⟨f3, f4, f5⟩ := f2
      have hwl : (withL v (i + 1) (valF v (i + 1) - c)).length = mv := by rw [withL_len, hvn]
      have hin2 := bval_in hwl ((has_iff z1 hwl).1 f5).2.1
      have eX : valF (withL v (i + 1) (valF v (i + 1) - c)) (i + 1) = valF v (i + 1) - c := by rw [withL_at q1 (by omega), if_pos rfl]
      rw [ex] at hr g4
      refine pback_mov mv i c a b off m ca cv l v _ w h1 h2 g1 z1 q2 (isVal_in q4) (hin _) rfl hr z1.1 g4 f5 (fun W a3 c3 hs => ?_)
      have q := does_set_near mv z1.1 (withL v (i + 1) (valF v (i + 1) - c)) (i + 1) (i + 1) c 0 q1 q2 q2 (isVal_in q4) (hin2 _) (by rw [eX, Int.sub_add_cancel]; exact bnear (hin _)) a3 c3 W hs
      rw [eX, Int.sub_add_cancel, with_back q1 (by omega)] at q
      exact q
    · obtain ⟨e1, e2⟩ := fact_tie z1 hvn q2 q3 hXY c hA
      have hZ := fact_least z1 hvn q1 q2 e2
      have hwl : (withL v X (leastK mv l v X (mv + 1))).length = mv := by rw [withL_len, hvn]
      have hin2 := bval_in hwl ((has_iff z1 hwl).1 hZ).2.1
      have eY : valF (withL v X (leastK mv l v X (mv + 1))) Y = valF v Y := by rw [withL_at q1 (by omega), if_neg (fun e => hXY e.symm)]
      refine pback_tie mv X (X - 1) Y c 0 a b off m ca cv l v _ w h1 h2 g1 z1 q1 q2 (by omega) (by simp; omega) (hfull _ hwl hZ) hin rfl hr z1.1 g4 hZ (fun W a3 c3 hs => ?_)
      have q := does_set_near mv z1.1 (withL v X (leastK mv l v X (mv + 1))) X Y c (valF v X) q1 q2 q3 (isVal_in q4) (hin2 _) (by rw [eY, ← e1]; exact bnear (hin _)) a3 c3 W hs
      rw [eY, ← e1, with_back q1 (by omega)] at q
      exact q
  | pick X c d q1 q2 q3 q4 q5 =>
    obtain ⟨b, off, rfl⟩ := hsome (by omega)
    have hA : hasB mv (limitL mv (limitL mv (forgetL mv l X) X 0 d) 0 X (-c)) v = true := by unfold postL at g4; simpa using g4
    have zf := forgetL_isz z1.1 l X
    have zl := limitL_isz z1.1 (forgetL mv l X) X 0 d
    have e2 := fact_limit zf hvn q2 (Nat.zero_le mv) d
    have e3 := fact_limit zl hvn (Nat.zero_le mv) q2 (-c)
    rw [hA, e2] at e3
    have e4 := e3.symm
    simp only [Bool.and_eq_true, decide_eq_true_eq] at e4
    obtain ⟨⟨e5, e6⟩, e7⟩ := e4
    rw [valF_zero] at e6 e7
    have hZ := fact_least z1 hvn q1 q2 e5
    have hwl : (withL v X (leastK mv l v X (mv + 1))).length = mv := by rw [withL_len, hvn]
    refine pback_pick mv X (X - 1) 0 c d a b off m ca cv l v _ w h1 h2 g1 z1 q1 q2 (by omega) (by simp; omega) (hfull _ hwl hZ) hin rfl hr z1.1 g4 hZ (fun W a3 c3 hs => ?_)
    have q := does_pick_in mv z1.1 (withL v X (leastK mv l v X (mv + 1))) X c d (valF v X) q1 q2 (by omega) (by omega) a3 c3 W hs
    rw [with_back q1 (by omega)] at q
    exact q
  | limit X Y c q1 q2 q3 q4 =>
    have e1 := fact_limit z1 hvn q1 q2 c
    have hA : hasB mv (limitL mv l X Y c) v = true := by unfold postL at g4; simpa using g4
    rw [hA] at e1
    have e2 := e1.symm
    simp only [Bool.and_eq_true, decide_eq_true_eq] at e2
    exact pback_same mv 4 X Y c 0 a av m ca cv l v w h1 h2 g1 z1 hr z1.1 (by decide) (by decide) g4 e2.1 (fun W a3 c3 hs => does_4_ok mv z1.1 v X Y c 0 q1 q2 (hin _) (hin _) (by omega) a3 c3 W hs)
  | check X Y c q1 q2 q3 q4 =>
    have e1 := fact_limit z1 hvn q1 q2 c
    have hA : hasB mv (limitL mv l X Y c) v = true := by unfold postL at g4; simpa using g4
    rw [hA] at e1
    have e2 := e1.symm
    simp only [Bool.and_eq_true, decide_eq_true_eq] at e2
    exact pback_same mv 5 X Y c 0 a av m ca cv l v w h1 h2 g1 z1 hr z1.1 (by decide) (by decide) g4 e2.1 (fun W a3 c3 hs => does_5_ok mv z1.1 v X Y c 0 q1 q2 (hin _) (hin _) (by omega) a3 c3 W hs)
end Go.Proofs.YtplgmmjppmpnoaaGreatDoor
