import Derived.Test.YtplgmmjppmpnoaaGreatDoorQ12
import Derived.Test.YtplgmmjppmpnoaaGreatDoorQ14
/- PostHas: the walk of the statement's function. (Written by gen-post-has.py.) -/
namespace Go.Proofs.YtplgmmjppmpnoaaGreatDoor
open Go.RowKit
set_option linter.unusedVariables false
set_option linter.unusedSimpArgs false

theorem zoneE_len' {n E : Int} {l : List Int} {w w' : World} {e : Ending} (hl : l.length ≤ 81) (h : ZoneE n l E w e w') : ∃ a c, e = .returned (.tuple #[.agg #[.int .i64 n, .slice a l.length c], .int .i64 E]) ∧ SL w' a l.length c l ∧ Below w.heap.size w w' := by
  obtain ⟨a, c, rfl, hc, hs, hb, -⟩ := h
  exact ⟨a, c, rfl, ⟨rfl, hc, by omega, hs⟩, hb⟩
set_option maxRecDepth 100000 in
set_option maxHeartbeats 4000000 in
theorem phas_g1 (mv : Nat) (n k x y c d ch : Int) (a av : Option Addr) (m ca cv : Nat) (l v : List Int) (w : World) (h1 : SL w a m ca l) (h2 : SL w av mv cv v) (g1 : 200 < m) : Calls Tryz.prog 3 #[.agg #[.int .i64 n, .slice a m ca], .agg #[.int .i64 k, .int .i64 x, .int .i64 y, .int .i64 c, .int .i64 d], .slice av mv cv, .int .i64 ch] w (Gives (.bool true) w) := by
  obtain ⟨W1, hW1⟩ : ∃ W1, W1 = (w.alloc (.cells #[.int .i64 n, .slice a m ca] 24)).alloc (.cells #[.int .i64 k, .int .i64 x, .int .i64 y, .int .i64 c, .int .i64 d] 26) := ⟨_, rfl⟩
  have Z1 : Hid (Holds W1 (w.heap.size) 24 #[.int .i64 n, .slice a m ca]) := Lib.hid (by rw [hW1]; exact (Holds.new w _ _).alloc _)
  have Zs : Hid (Holds W1 (w.heap.size + 1) 26 #[.int .i64 k, .int .i64 x, .int .i64 y, .int .i64 c, .int .i64 d]) := Lib.hid (by rw [hW1]; have q := Holds.new (w.alloc (.cells #[.int .i64 n, .slice a m ca] 24)) 26 #[.int .i64 k, .int .i64 x, .int .i64 y, .int .i64 c, .int .i64 d]; simpa using q)
  have BL := Lib.hid (show Below w.heap.size w W1 by rw [hW1]; exact (box_below _ _ _).alloc (by simp) _)
  have S1 := Lib.hid (h1.below BL.out)
  have S2 := Lib.hid (h2.below BL.out)
  have hW1' := Lib.hid hW1
  clear hW1
  clear h1 h2
  go_enter Tryz.func3, Tryz.ntmps3
  have k1 := Z1.out.cell 0
  have k2 := Z1.out.cell 1
  have k3 := Zs.out.cell 0
  have k4 := Zs.out.cell 1
  have k5 := Zs.out.cell 2
  have k6 := Zs.out.cell 3
  have k7 := Zs.out.cell 4
  have q := Lib.hid (by have := large_any a m ca S1.out.max W1; rwa [decide_eq_true (show (200 : Int) < (m : Int) by omega)] at this)
  go_wp2_with fail
  rw [← hW1'.out]
  with_reducible refine q.out.mono ?_
  rintro e u1 ⟨rfl, rfl⟩
  clear hW1'
  clear q
  go_wp2_with fail
  refine (plives_any _).mono ?_
  rintro e w9 ⟨rfl, b9⟩
  have bw := Lib.hid (BL.out.trans (b9.mono BL.out.size))
  clear b9
  clear k1 k2 k3 k4 k5 k6 k7
  go_wp2
  go_ret
  exact ⟨rfl, bw.out⟩
set_option maxRecDepth 100000 in
set_option maxHeartbeats 4000000 in
theorem phas_g2 (mv : Nat) (n k x y c d ch : Int) (a av : Option Addr) (m ca cv : Nat) (l v : List Int) (w : World) (h1 : SL w a m ca l) (h2 : SL w av mv cv v) (g1 : ¬ 200 < m) (g2 : 20 < mv) : Calls Tryz.prog 3 #[.agg #[.int .i64 n, .slice a m ca], .agg #[.int .i64 k, .int .i64 x, .int .i64 y, .int .i64 c, .int .i64 d], .slice av mv cv, .int .i64 ch] w (Gives (.bool true) w) := by
  have p2 : (20 : Int) < (mv : Int) := by omega
  obtain ⟨W1, hW1⟩ : ∃ W1, W1 = (w.alloc (.cells #[.int .i64 n, .slice a m ca] 24)).alloc (.cells #[.int .i64 k, .int .i64 x, .int .i64 y, .int .i64 c, .int .i64 d] 26) := ⟨_, rfl⟩
  have Z1 : Hid (Holds W1 (w.heap.size) 24 #[.int .i64 n, .slice a m ca]) := Lib.hid (by rw [hW1]; exact (Holds.new w _ _).alloc _)
  have Zs : Hid (Holds W1 (w.heap.size + 1) 26 #[.int .i64 k, .int .i64 x, .int .i64 y, .int .i64 c, .int .i64 d]) := Lib.hid (by rw [hW1]; have q := Holds.new (w.alloc (.cells #[.int .i64 n, .slice a m ca] 24)) 26 #[.int .i64 k, .int .i64 x, .int .i64 y, .int .i64 c, .int .i64 d]; simpa using q)
  have BL := Lib.hid (show Below w.heap.size w W1 by rw [hW1]; exact (box_below _ _ _).alloc (by simp) _)
  have S1 := Lib.hid (h1.below BL.out)
  have S2 := Lib.hid (h2.below BL.out)
  have hW1' := Lib.hid hW1
  clear hW1
  clear h1 h2
  go_enter Tryz.func3, Tryz.ntmps3
  have k1 := Z1.out.cell 0
  have k2 := Z1.out.cell 1
  have k3 := Zs.out.cell 0
  have k4 := Zs.out.cell 1
  have k5 := Zs.out.cell 2
  have k6 := Zs.out.cell 3
  have k7 := Zs.out.cell 4
  have q := Lib.hid (by have := large_any a m ca S1.out.max W1; rwa [decide_eq_false (show ¬ (200 : Int) < (m : Int) by omega)] at this)
  go_wp2_with fail
  rw [← hW1'.out]
  with_reducible refine q.out.mono ?_
  rintro e u1 ⟨rfl, rfl⟩
  clear hW1'
  clear q
  go_wp2_with fail
  refine (plives_any _).mono ?_
  rintro e w9 ⟨rfl, b9⟩
  have bw := Lib.hid (BL.out.trans (b9.mono BL.out.size))
  clear b9
  clear k1 k2 k3 k4 k5 k6 k7
  go_wp2
  go_ret
  exact ⟨rfl, bw.out⟩
set_option maxRecDepth 100000 in
set_option maxHeartbeats 4000000 in
theorem phas_g3 (mv : Nat) (n k x y c d ch : Int) (a av : Option Addr) (m ca cv : Nat) (l v : List Int) (w : World) (h1 : SL w a m ca l) (h2 : SL w av mv cv v) (g1 : ¬ 200 < m) (g2 : ¬ 20 < mv) (g3 : pchk n l k x y c d ≠ 0) : Calls Tryz.prog 3 #[.agg #[.int .i64 n, .slice a m ca], .agg #[.int .i64 k, .int .i64 x, .int .i64 y, .int .i64 c, .int .i64 d], .slice av mv cv, .int .i64 ch] w (Gives (.bool true) w) := by
  have p2 : ¬ (20 : Int) < (mv : Int) := by omega
  obtain ⟨E, hE⟩ : ∃ E, pchk n l k x y c d = E := ⟨_, rfl⟩
  have hck := Lib.hid hE
  rw [hE] at g3
  have gb : (E != 0) = true := by simpa using g3
  clear hE g3
  obtain ⟨W1, hW1⟩ : ∃ W1, W1 = (w.alloc (.cells #[.int .i64 n, .slice a m ca] 24)).alloc (.cells #[.int .i64 k, .int .i64 x, .int .i64 y, .int .i64 c, .int .i64 d] 26) := ⟨_, rfl⟩
  have Z1 : Hid (Holds W1 (w.heap.size) 24 #[.int .i64 n, .slice a m ca]) := Lib.hid (by rw [hW1]; exact (Holds.new w _ _).alloc _)
  have Zs : Hid (Holds W1 (w.heap.size + 1) 26 #[.int .i64 k, .int .i64 x, .int .i64 y, .int .i64 c, .int .i64 d]) := Lib.hid (by rw [hW1]; have q := Holds.new (w.alloc (.cells #[.int .i64 n, .slice a m ca] 24)) 26 #[.int .i64 k, .int .i64 x, .int .i64 y, .int .i64 c, .int .i64 d]; simpa using q)
  have BL := Lib.hid (show Below w.heap.size w W1 by rw [hW1]; exact (box_below _ _ _).alloc (by simp) _)
  have S1 := Lib.hid (h1.below BL.out)
  have S2 := Lib.hid (h2.below BL.out)
  have hW1' := Lib.hid hW1
  clear hW1
  clear h1 h2
  go_enter Tryz.func3, Tryz.ntmps3
  have k1 := Z1.out.cell 0
  have k2 := Z1.out.cell 1
  have k3 := Zs.out.cell 0
  have k4 := Zs.out.cell 1
  have k5 := Zs.out.cell 2
  have k6 := Zs.out.cell 3
  have k7 := Zs.out.cell 4
  have q := Lib.hid (by have := large_any a m ca S1.out.max W1; rwa [decide_eq_false (show ¬ (200 : Int) < (m : Int) by omega)] at this)
  go_wp2_with fail
  rw [← hW1'.out]
  with_reducible refine q.out.mono ?_
  rintro e u1 ⟨rfl, rfl⟩
  clear hW1'
  clear q
  have q := Lib.hid (by have := rchk_any n k x y c d l a m ca W1 S1.out; rwa [hck.out] at this)
  go_wp2_with fail
  with_reducible refine q.out.mono ?_
  rintro e u3 ⟨rfl, b3⟩
  clear k1 k2 k3 k4 k5 k6 k7
  clear q
  have k8 : u3.cell? ⟨w.heap.size, 0, none⟩ = some (.int .i64 n) := (Z1.out.below b3 Z1.out.lt).cell 0
  have k9 : u3.cell? ⟨w.heap.size, 1, none⟩ = some (.slice a m ca) := (Z1.out.below b3 Z1.out.lt).cell 1
  have k10 : u3.cell? ⟨w.heap.size + 1, 0, none⟩ = some (.int .i64 k) := (Zs.out.below b3 Zs.out.lt).cell 0
  have k11 : u3.cell? ⟨w.heap.size + 1, 1, none⟩ = some (.int .i64 x) := (Zs.out.below b3 Zs.out.lt).cell 1
  have k12 : u3.cell? ⟨w.heap.size + 1, 2, none⟩ = some (.int .i64 y) := (Zs.out.below b3 Zs.out.lt).cell 2
  have k13 : u3.cell? ⟨w.heap.size + 1, 3, none⟩ = some (.int .i64 c) := (Zs.out.below b3 Zs.out.lt).cell 3
  have k14 : u3.cell? ⟨w.heap.size + 1, 4, none⟩ = some (.int .i64 d) := (Zs.out.below b3 Zs.out.lt).cell 4
  replace Z1 := Lib.hid (Z1.out.below b3 Z1.out.lt)
  replace Zs := Lib.hid (Zs.out.below b3 Zs.out.lt)
  replace BL := Lib.hid (BL.out.trans (b3.mono BL.out.size))
  replace S1 := Lib.hid (S1.out.below b3)
  replace S2 := Lib.hid (S2.out.below b3)
  clear b3
  go_wp2_with fail
  refine (plives_any _).mono ?_
  rintro e w9 ⟨rfl, b9⟩
  have bw := Lib.hid (BL.out.trans (b9.mono BL.out.size))
  clear b9
  clear k8 k9 k10 k11 k12 k13 k14
  go_wp2
  go_ret
  exact ⟨rfl, bw.out⟩
set_option maxRecDepth 100000 in
set_option maxHeartbeats 4000000 in
theorem phas_g4 (mv : Nat) (n k x y c d ch : Int) (a av : Option Addr) (m ca cv : Nat) (l v : List Int) (w : World) (h1 : SL w a m ca l) (h2 : SL w av mv cv v) (g1 : ¬ 200 < m) (g2 : ¬ 20 < mv) (g3 : pchk n l k x y c d = 0) (g4 : hasB n l v = false) : Calls Tryz.prog 3 #[.agg #[.int .i64 n, .slice a m ca], .agg #[.int .i64 k, .int .i64 x, .int .i64 y, .int .i64 c, .int .i64 d], .slice av mv cv, .int .i64 ch] w (Gives (.bool true) w) := by
  have p2 : ¬ (20 : Int) < (mv : Int) := by omega
  have hck := Lib.hid g3
  have hhas := Lib.hid g4
  clear g3 g4
  obtain ⟨W1, hW1⟩ : ∃ W1, W1 = (w.alloc (.cells #[.int .i64 n, .slice a m ca] 24)).alloc (.cells #[.int .i64 k, .int .i64 x, .int .i64 y, .int .i64 c, .int .i64 d] 26) := ⟨_, rfl⟩
  have Z1 : Hid (Holds W1 (w.heap.size) 24 #[.int .i64 n, .slice a m ca]) := Lib.hid (by rw [hW1]; exact (Holds.new w _ _).alloc _)
  have Zs : Hid (Holds W1 (w.heap.size + 1) 26 #[.int .i64 k, .int .i64 x, .int .i64 y, .int .i64 c, .int .i64 d]) := Lib.hid (by rw [hW1]; have q := Holds.new (w.alloc (.cells #[.int .i64 n, .slice a m ca] 24)) 26 #[.int .i64 k, .int .i64 x, .int .i64 y, .int .i64 c, .int .i64 d]; simpa using q)
  have BL := Lib.hid (show Below w.heap.size w W1 by rw [hW1]; exact (box_below _ _ _).alloc (by simp) _)
  have S1 := Lib.hid (h1.below BL.out)
  have S2 := Lib.hid (h2.below BL.out)
  have hW1' := Lib.hid hW1
  clear hW1
  clear h1 h2
  go_enter Tryz.func3, Tryz.ntmps3
  have k1 := Z1.out.cell 0
  have k2 := Z1.out.cell 1
  have k3 := Zs.out.cell 0
  have k4 := Zs.out.cell 1
  have k5 := Zs.out.cell 2
  have k6 := Zs.out.cell 3
  have k7 := Zs.out.cell 4
  have q := Lib.hid (by have := large_any a m ca S1.out.max W1; rwa [decide_eq_false (show ¬ (200 : Int) < (m : Int) by omega)] at this)
  go_wp2_with fail
  rw [← hW1'.out]
  with_reducible refine q.out.mono ?_
  rintro e u1 ⟨rfl, rfl⟩
  clear hW1'
  clear q
  have q := Lib.hid (by have := rchk_any n k x y c d l a m ca W1 S1.out; rwa [hck.out] at this)
  go_wp2_with fail
  with_reducible refine q.out.mono ?_
  rintro e u3 ⟨rfl, b3⟩
  clear k1 k2 k3 k4 k5 k6 k7
  clear q
  have k8 : u3.cell? ⟨w.heap.size, 0, none⟩ = some (.int .i64 n) := (Z1.out.below b3 Z1.out.lt).cell 0
  have k9 : u3.cell? ⟨w.heap.size, 1, none⟩ = some (.slice a m ca) := (Z1.out.below b3 Z1.out.lt).cell 1
  have k10 : u3.cell? ⟨w.heap.size + 1, 0, none⟩ = some (.int .i64 k) := (Zs.out.below b3 Zs.out.lt).cell 0
  have k11 : u3.cell? ⟨w.heap.size + 1, 1, none⟩ = some (.int .i64 x) := (Zs.out.below b3 Zs.out.lt).cell 1
  have k12 : u3.cell? ⟨w.heap.size + 1, 2, none⟩ = some (.int .i64 y) := (Zs.out.below b3 Zs.out.lt).cell 2
  have k13 : u3.cell? ⟨w.heap.size + 1, 3, none⟩ = some (.int .i64 c) := (Zs.out.below b3 Zs.out.lt).cell 3
  have k14 : u3.cell? ⟨w.heap.size + 1, 4, none⟩ = some (.int .i64 d) := (Zs.out.below b3 Zs.out.lt).cell 4
  replace Z1 := Lib.hid (Z1.out.below b3 Z1.out.lt)
  replace Zs := Lib.hid (Zs.out.below b3 Zs.out.lt)
  replace BL := Lib.hid (BL.out.trans (b3.mono BL.out.size))
  replace S1 := Lib.hid (S1.out.below b3)
  replace S2 := Lib.hid (S2.out.below b3)
  clear b3
  have q := Lib.hid (by have := has_any n a m ca l av _ cv v u3 S1.out S2.out; rwa [hhas.out] at this)
  go_wp2_with fail
  with_reducible refine q.out.mono ?_
  rintro e u4 ⟨rfl, b4⟩
  clear k8 k9 k10 k11 k12 k13 k14
  clear q
  have k15 : u4.cell? ⟨w.heap.size, 0, none⟩ = some (.int .i64 n) := (Z1.out.below b4 Z1.out.lt).cell 0
  have k16 : u4.cell? ⟨w.heap.size, 1, none⟩ = some (.slice a m ca) := (Z1.out.below b4 Z1.out.lt).cell 1
  have k17 : u4.cell? ⟨w.heap.size + 1, 0, none⟩ = some (.int .i64 k) := (Zs.out.below b4 Zs.out.lt).cell 0
  have k18 : u4.cell? ⟨w.heap.size + 1, 1, none⟩ = some (.int .i64 x) := (Zs.out.below b4 Zs.out.lt).cell 1
  have k19 : u4.cell? ⟨w.heap.size + 1, 2, none⟩ = some (.int .i64 y) := (Zs.out.below b4 Zs.out.lt).cell 2
  have k20 : u4.cell? ⟨w.heap.size + 1, 3, none⟩ = some (.int .i64 c) := (Zs.out.below b4 Zs.out.lt).cell 3
  have k21 : u4.cell? ⟨w.heap.size + 1, 4, none⟩ = some (.int .i64 d) := (Zs.out.below b4 Zs.out.lt).cell 4
  replace Z1 := Lib.hid (Z1.out.below b4 Z1.out.lt)
  replace Zs := Lib.hid (Zs.out.below b4 Zs.out.lt)
  replace BL := Lib.hid (BL.out.trans (b4.mono BL.out.size))
  replace S1 := Lib.hid (S1.out.below b4)
  replace S2 := Lib.hid (S2.out.below b4)
  clear b4
  go_wp2_with fail
  refine (plives_any _).mono ?_
  rintro e w9 ⟨rfl, b9⟩
  have bw := Lib.hid (BL.out.trans (b9.mono BL.out.size))
  clear b9
  clear k15 k16 k17 k18 k19 k20 k21
  go_wp2
  go_ret
  exact ⟨rfl, bw.out⟩
set_option maxRecDepth 100000 in
set_option maxHeartbeats 4000000 in
theorem phas_s0 (n : Nat) (k x y c d ch : Int) (L : List Int) (a av : Option Addr) (m ca cv : Nat) (l v : List Int) (w : World) (h1 : SL w a m ca l) (h2 : SL w av n cv v) (hn8 : n ≤ 8) (g1 : ¬ 200 < m) (z1 : IsZ n l) (hr : rightB k x y c d n = true) (hh : hasB n l v = true) (hk4 : (k == 4) = false) (hk5 : (k == 5) = false) (hD : ∀ W, SL W av n cv v → Calls Tryz.prog 12 #[.agg #[.int .i64 k, .int .i64 x, .int .i64 y, .int .i64 c, .int .i64 d], .slice av n cv, .int .i64 ch] W (DoS 0 n L W)) (hB : hasB n (faultL n l k x y c) v = false) (hA : hasB n (postL n l k x y c d) L = true) : Calls Tryz.prog 3 #[.agg #[.int .i64 n, .slice a m ca], .agg #[.int .i64 k, .int .i64 x, .int .i64 y, .int .i64 c, .int .i64 d], .slice av n cv, .int .i64 ch] w (Gives (.bool true) w) := by
  have hck : Hid (pchk n l k x y c d = 0) := Lib.hid (by unfold pchk; rw [z1.check, hr]; simp)
  have hhas := Lib.hid hh
  have hXP := postL_isz z1 k x y c d
  have hXF := faultL_isz z1 k x y c
  have qA := Lib.hid (fun W hs => (post_ok n k x y c d l z1 hr a m ca W hs).mono (fun e w' h => zoneE_len' hXP.small h))
  have qB := Lib.hid (fun W hs => (fault_ok n k x y c d l z1 hr a m ca W hs).mono (fun e w' h => zoneE_len' hXF.small h))
  have qD := Lib.hid hD
  have qHb := Lib.hid (fun W a2 m2 c2 (hs2 : SL W a2 m2 c2 (faultL n l k x y c)) (hs : SL W av n cv v) => has_any n a2 m2 c2 _ av n cv v W hs2 hs)
  rw [hB] at qHb
  have p2 : ¬ (20 : Int) < (n : Int) := by omega
  have qHa := Lib.hid (fun W a2 m2 c2 a3 c3 (hs2 : SL W a2 m2 c2 (postL n l k x y c d)) (hs : SL W a3 n c3 L) => has_any n a2 m2 c2 _ a3 n c3 L W hs2 hs)
  rw [hA] at qHa
  clear z1 hr hh hXP hXF hD hB hA
  generalize postL n l k x y c d = P at *
  generalize faultL n l k x y c = R at *
  obtain ⟨W1, hW1⟩ : ∃ W1, W1 = (w.alloc (.cells #[.int .i64 n, .slice a m ca] 24)).alloc (.cells #[.int .i64 k, .int .i64 x, .int .i64 y, .int .i64 c, .int .i64 d] 26) := ⟨_, rfl⟩
  have Z1 : Hid (Holds W1 (w.heap.size) 24 #[.int .i64 n, .slice a m ca]) := Lib.hid (by rw [hW1]; exact (Holds.new w _ _).alloc _)
  have Zs : Hid (Holds W1 (w.heap.size + 1) 26 #[.int .i64 k, .int .i64 x, .int .i64 y, .int .i64 c, .int .i64 d]) := Lib.hid (by rw [hW1]; have q := Holds.new (w.alloc (.cells #[.int .i64 n, .slice a m ca] 24)) 26 #[.int .i64 k, .int .i64 x, .int .i64 y, .int .i64 c, .int .i64 d]; simpa using q)
  have BL := Lib.hid (show Below w.heap.size w W1 by rw [hW1]; exact (box_below _ _ _).alloc (by simp) _)
  have S1 := Lib.hid (h1.below BL.out)
  have S2 := Lib.hid (h2.below BL.out)
  have hW1' := Lib.hid hW1
  clear hW1
  clear h1 h2
  go_enter Tryz.func3, Tryz.ntmps3
  have k1 := Z1.out.cell 0
  have k2 := Z1.out.cell 1
  have k3 := Zs.out.cell 0
  have k4 := Zs.out.cell 1
  have k5 := Zs.out.cell 2
  have k6 := Zs.out.cell 3
  have k7 := Zs.out.cell 4
  have q := Lib.hid (by have := large_any a m ca S1.out.max W1; rwa [decide_eq_false (show ¬ (200 : Int) < (m : Int) by omega)] at this)
  go_wp2_with fail
  rw [← hW1'.out]
  with_reducible refine q.out.mono ?_
  rintro e u1 ⟨rfl, rfl⟩
  clear hW1'
  clear q
  have q := Lib.hid (by have := rchk_any n k x y c d l a m ca W1 S1.out; rwa [hck.out] at this)
  go_wp2_with fail
  with_reducible refine q.out.mono ?_
  rintro e u3 ⟨rfl, b3⟩
  clear k1 k2 k3 k4 k5 k6 k7
  clear q
  have k8 : u3.cell? ⟨w.heap.size, 0, none⟩ = some (.int .i64 n) := (Z1.out.below b3 Z1.out.lt).cell 0
  have k9 : u3.cell? ⟨w.heap.size, 1, none⟩ = some (.slice a m ca) := (Z1.out.below b3 Z1.out.lt).cell 1
  have k10 : u3.cell? ⟨w.heap.size + 1, 0, none⟩ = some (.int .i64 k) := (Zs.out.below b3 Zs.out.lt).cell 0
  have k11 : u3.cell? ⟨w.heap.size + 1, 1, none⟩ = some (.int .i64 x) := (Zs.out.below b3 Zs.out.lt).cell 1
  have k12 : u3.cell? ⟨w.heap.size + 1, 2, none⟩ = some (.int .i64 y) := (Zs.out.below b3 Zs.out.lt).cell 2
  have k13 : u3.cell? ⟨w.heap.size + 1, 3, none⟩ = some (.int .i64 c) := (Zs.out.below b3 Zs.out.lt).cell 3
  have k14 : u3.cell? ⟨w.heap.size + 1, 4, none⟩ = some (.int .i64 d) := (Zs.out.below b3 Zs.out.lt).cell 4
  replace Z1 := Lib.hid (Z1.out.below b3 Z1.out.lt)
  replace Zs := Lib.hid (Zs.out.below b3 Zs.out.lt)
  replace BL := Lib.hid (BL.out.trans (b3.mono BL.out.size))
  replace S1 := Lib.hid (S1.out.below b3)
  replace S2 := Lib.hid (S2.out.below b3)
  clear b3
  have q := Lib.hid (by have := has_any n a m ca l av _ cv v u3 S1.out S2.out; rwa [hhas.out] at this)
  go_wp2_with fail
  with_reducible refine q.out.mono ?_
  rintro e u4 ⟨rfl, b4⟩
  clear k8 k9 k10 k11 k12 k13 k14
  clear q
  have k15 : u4.cell? ⟨w.heap.size, 0, none⟩ = some (.int .i64 n) := (Z1.out.below b4 Z1.out.lt).cell 0
  have k16 : u4.cell? ⟨w.heap.size, 1, none⟩ = some (.slice a m ca) := (Z1.out.below b4 Z1.out.lt).cell 1
  have k17 : u4.cell? ⟨w.heap.size + 1, 0, none⟩ = some (.int .i64 k) := (Zs.out.below b4 Zs.out.lt).cell 0
  have k18 : u4.cell? ⟨w.heap.size + 1, 1, none⟩ = some (.int .i64 x) := (Zs.out.below b4 Zs.out.lt).cell 1
  have k19 : u4.cell? ⟨w.heap.size + 1, 2, none⟩ = some (.int .i64 y) := (Zs.out.below b4 Zs.out.lt).cell 2
  have k20 : u4.cell? ⟨w.heap.size + 1, 3, none⟩ = some (.int .i64 c) := (Zs.out.below b4 Zs.out.lt).cell 3
  have k21 : u4.cell? ⟨w.heap.size + 1, 4, none⟩ = some (.int .i64 d) := (Zs.out.below b4 Zs.out.lt).cell 4
  replace Z1 := Lib.hid (Z1.out.below b4 Z1.out.lt)
  replace Zs := Lib.hid (Zs.out.below b4 Zs.out.lt)
  replace BL := Lib.hid (BL.out.trans (b4.mono BL.out.size))
  replace S1 := Lib.hid (S1.out.below b4)
  replace S2 := Lib.hid (S2.out.below b4)
  clear b4
  have q := Lib.hid (qA.out _ S1.out)
  go_wp2_with fail
  with_reducible refine q.out.mono ?_
  rintro e uA ⟨aA, cA, rfl, sA, bA⟩
  clear k15 k16 k17 k18 k19 k20 k21
  clear q qA
  have k22 : uA.cell? ⟨w.heap.size, 0, none⟩ = some (.int .i64 n) := (Z1.out.below bA Z1.out.lt).cell 0
  have k23 : uA.cell? ⟨w.heap.size, 1, none⟩ = some (.slice a m ca) := (Z1.out.below bA Z1.out.lt).cell 1
  have k24 : w.heap.size < uA.heap.size := (Z1.out.below bA Z1.out.lt).lt
  have k25 : uA.cell? ⟨w.heap.size + 1, 0, none⟩ = some (.int .i64 k) := (Zs.out.below bA Zs.out.lt).cell 0
  have k26 : uA.cell? ⟨w.heap.size + 1, 1, none⟩ = some (.int .i64 x) := (Zs.out.below bA Zs.out.lt).cell 1
  have k27 : uA.cell? ⟨w.heap.size + 1, 2, none⟩ = some (.int .i64 y) := (Zs.out.below bA Zs.out.lt).cell 2
  have k28 : uA.cell? ⟨w.heap.size + 1, 3, none⟩ = some (.int .i64 c) := (Zs.out.below bA Zs.out.lt).cell 3
  have k29 : uA.cell? ⟨w.heap.size + 1, 4, none⟩ = some (.int .i64 d) := (Zs.out.below bA Zs.out.lt).cell 4
  have k30 : w.heap.size + 1 < uA.heap.size := (Zs.out.below bA Zs.out.lt).lt
  have B0 := box_below uA #[.int .i64 n, .slice aA P.length cA] 24
  have B := bA.trans (B0.mono bA.size)
  replace Z1 := Lib.hid (Z1.out.below B Z1.out.lt)
  replace Zs := Lib.hid (Zs.out.below B Zs.out.lt)
  replace BL := Lib.hid (BL.out.trans (B.mono BL.out.size))
  replace S1 := Lib.hid (S1.out.below B)
  replace S2 := Lib.hid (S2.out.below B)
  have ZA := Lib.hid (Holds.new uA 24 #[.int .i64 n, .slice aA P.length cA])
  have SA := Lib.hid (sA.below B0)
  clear bA B B0 sA
  have q := Lib.hid (qB.out _ S1.out)
  go_wp2_with fail
  with_reducible refine q.out.mono ?_
  rintro e uB ⟨aB, cB, rfl, sB, bB⟩
  clear k22 k23 k24 k25 k26 k27 k28 k29 k30
  clear q qB
  have k31 : uB.cell? ⟨w.heap.size + 1, 0, none⟩ = some (.int .i64 k) := (Zs.out.below bB Zs.out.lt).cell 0
  have k32 : uB.cell? ⟨w.heap.size + 1, 1, none⟩ = some (.int .i64 x) := (Zs.out.below bB Zs.out.lt).cell 1
  have k33 : uB.cell? ⟨w.heap.size + 1, 2, none⟩ = some (.int .i64 y) := (Zs.out.below bB Zs.out.lt).cell 2
  have k34 : uB.cell? ⟨w.heap.size + 1, 3, none⟩ = some (.int .i64 c) := (Zs.out.below bB Zs.out.lt).cell 3
  have k35 : uB.cell? ⟨w.heap.size + 1, 4, none⟩ = some (.int .i64 d) := (Zs.out.below bB Zs.out.lt).cell 4
  have k36 : w.heap.size + 1 < uB.heap.size := (Zs.out.below bB Zs.out.lt).lt
  have B0 := box_below uB #[.int .i64 n, .slice aB R.length cB] 24
  have B := bB.trans (B0.mono bB.size)
  replace Z1 := Lib.hid (Z1.out.below B Z1.out.lt)
  replace Zs := Lib.hid (Zs.out.below B Zs.out.lt)
  replace ZA := Lib.hid (ZA.out.below B ZA.out.lt)
  replace BL := Lib.hid (BL.out.trans (B.mono BL.out.size))
  replace S1 := Lib.hid (S1.out.below B)
  replace S2 := Lib.hid (S2.out.below B)
  replace SA := Lib.hid (SA.out.below B)
  have ZB := Lib.hid (Holds.new uB 24 #[.int .i64 n, .slice aB R.length cB])
  have SB := Lib.hid (sB.below B0)
  clear bB B B0 sB
  have q := Lib.hid (qD.out _ S2.out)
  go_wp2_with fail
  with_reducible refine q.out.mono ?_
  rintro e uD ⟨aD, cD, rfl, sD, bD⟩
  clear k31 k32 k33 k34 k35 k36
  clear q qD
  replace Z1 := Lib.hid (Z1.out.below bD Z1.out.lt)
  replace Zs := Lib.hid (Zs.out.below bD Zs.out.lt)
  replace ZA := Lib.hid (ZA.out.below bD ZA.out.lt)
  replace ZB := Lib.hid (ZB.out.below bD ZB.out.lt)
  replace BL := Lib.hid (BL.out.trans (bD.mono BL.out.size))
  replace S1 := Lib.hid (S1.out.below bD)
  replace S2 := Lib.hid (S2.out.below bD)
  replace SA := Lib.hid (SA.out.below bD)
  replace SB := Lib.hid (SB.out.below bD)
  have SD := Lib.hid (sD)
  clear bD sD
  have q := Lib.hid (plives_any uD)
  go_wp2_with fail
  with_reducible refine q.out.mono ?_
  rintro e uL ⟨rfl, bL⟩
  clear q
  have k37 : uL.cell? ⟨uB.heap.size, 0, none⟩ = some (.int .i64 n) := (ZB.out.below bL ZB.out.lt).cell 0
  have k38 : uL.cell? ⟨uB.heap.size, 1, none⟩ = some (.slice aB R.length cB) := (ZB.out.below bL ZB.out.lt).cell 1
  replace Z1 := Lib.hid (Z1.out.below bL Z1.out.lt)
  replace Zs := Lib.hid (Zs.out.below bL Zs.out.lt)
  replace ZA := Lib.hid (ZA.out.below bL ZA.out.lt)
  replace ZB := Lib.hid (ZB.out.below bL ZB.out.lt)
  replace BL := Lib.hid (BL.out.trans (bL.mono BL.out.size))
  replace S1 := Lib.hid (S1.out.below bL)
  replace S2 := Lib.hid (S2.out.below bL)
  replace SA := Lib.hid (SA.out.below bL)
  replace SB := Lib.hid (SB.out.below bL)
  replace SD := Lib.hid (SD.out.below bL)
  clear bL
  have q := Lib.hid (qHb.out _ aB _ cB SB.out S2.out)
  go_wp2_with fail
  with_reducible refine q.out.mono ?_
  rintro e uH ⟨rfl, bH⟩
  clear k37 k38
  clear q qHb
  have k39 : uH.cell? ⟨w.heap.size + 1, 0, none⟩ = some (.int .i64 k) := (Zs.out.below bH Zs.out.lt).cell 0
  have k40 : uH.cell? ⟨w.heap.size + 1, 1, none⟩ = some (.int .i64 x) := (Zs.out.below bH Zs.out.lt).cell 1
  have k41 : uH.cell? ⟨w.heap.size + 1, 2, none⟩ = some (.int .i64 y) := (Zs.out.below bH Zs.out.lt).cell 2
  have k42 : uH.cell? ⟨w.heap.size + 1, 3, none⟩ = some (.int .i64 c) := (Zs.out.below bH Zs.out.lt).cell 3
  have k43 : uH.cell? ⟨w.heap.size + 1, 4, none⟩ = some (.int .i64 d) := (Zs.out.below bH Zs.out.lt).cell 4
  have k44 : uH.cell? ⟨uA.heap.size, 0, none⟩ = some (.int .i64 n) := (ZA.out.below bH ZA.out.lt).cell 0
  have k45 : uH.cell? ⟨uA.heap.size, 1, none⟩ = some (.slice aA P.length cA) := (ZA.out.below bH ZA.out.lt).cell 1
  replace Z1 := Lib.hid (Z1.out.below bH Z1.out.lt)
  replace Zs := Lib.hid (Zs.out.below bH Zs.out.lt)
  replace ZA := Lib.hid (ZA.out.below bH ZA.out.lt)
  replace ZB := Lib.hid (ZB.out.below bH ZB.out.lt)
  replace BL := Lib.hid (BL.out.trans (bH.mono BL.out.size))
  replace S1 := Lib.hid (S1.out.below bH)
  replace S2 := Lib.hid (S2.out.below bH)
  replace SA := Lib.hid (SA.out.below bH)
  replace SB := Lib.hid (SB.out.below bH)
  replace SD := Lib.hid (SD.out.below bH)
  clear bH
  have q := Lib.hid (qHa.out _ aA _ cA aD cD SA.out SD.out)
  go_wp2_with fail
  with_reducible refine q.out.mono ?_
  rintro e uG ⟨rfl, bG⟩
  clear k39 k40 k41 k42 k43 k44 k45
  clear q
  replace Z1 := Lib.hid (Z1.out.below bG Z1.out.lt)
  replace Zs := Lib.hid (Zs.out.below bG Zs.out.lt)
  replace ZA := Lib.hid (ZA.out.below bG ZA.out.lt)
  replace ZB := Lib.hid (ZB.out.below bG ZB.out.lt)
  replace BL := Lib.hid (BL.out.trans (bG.mono BL.out.size))
  replace S1 := Lib.hid (S1.out.below bG)
  replace S2 := Lib.hid (S2.out.below bG)
  replace SA := Lib.hid (SA.out.below bG)
  replace SB := Lib.hid (SB.out.below bG)
  replace SD := Lib.hid (SD.out.below bG)
  clear bG
  go_wp2
  go_ret
  exact ⟨rfl, BL.out⟩
set_option maxRecDepth 100000 in
set_option maxHeartbeats 4000000 in
theorem phas_s1 (n : Nat) (k x y c d ch : Int) (mL : Nat) (L : List Int) (a av : Option Addr) (m ca cv : Nat) (l v : List Int) (w : World) (h1 : SL w a m ca l) (h2 : SL w av n cv v) (hn8 : n ≤ 8) (g1 : ¬ 200 < m) (z1 : IsZ n l) (hr : rightB k x y c d n = true) (hh : hasB n l v = true) (hk4 : (k == 4) = false) (hk5 : (k == 5) = false) (hD : ∀ W, SL W av n cv v → Calls Tryz.prog 12 #[.agg #[.int .i64 k, .int .i64 x, .int .i64 y, .int .i64 c, .int .i64 d], .slice av n cv, .int .i64 ch] W (DoS 130 mL L W)) (hB : hasB n (faultL n l k x y c) v = false) : Calls Tryz.prog 3 #[.agg #[.int .i64 n, .slice a m ca], .agg #[.int .i64 k, .int .i64 x, .int .i64 y, .int .i64 c, .int .i64 d], .slice av n cv, .int .i64 ch] w (Gives (.bool true) w) := by
  have hck : Hid (pchk n l k x y c d = 0) := Lib.hid (by unfold pchk; rw [z1.check, hr]; simp)
  have hhas := Lib.hid hh
  have hXP := postL_isz z1 k x y c d
  have hXF := faultL_isz z1 k x y c
  have qA := Lib.hid (fun W hs => (post_ok n k x y c d l z1 hr a m ca W hs).mono (fun e w' h => zoneE_len' hXP.small h))
  have qB := Lib.hid (fun W hs => (fault_ok n k x y c d l z1 hr a m ca W hs).mono (fun e w' h => zoneE_len' hXF.small h))
  have qD := Lib.hid hD
  have qHb := Lib.hid (fun W a2 m2 c2 (hs2 : SL W a2 m2 c2 (faultL n l k x y c)) (hs : SL W av n cv v) => has_any n a2 m2 c2 _ av n cv v W hs2 hs)
  rw [hB] at qHb
  have p2 : ¬ (20 : Int) < (n : Int) := by omega
  clear z1 hr hh hXP hXF hD hB
  generalize postL n l k x y c d = P at *
  generalize faultL n l k x y c = R at *
  obtain ⟨W1, hW1⟩ : ∃ W1, W1 = (w.alloc (.cells #[.int .i64 n, .slice a m ca] 24)).alloc (.cells #[.int .i64 k, .int .i64 x, .int .i64 y, .int .i64 c, .int .i64 d] 26) := ⟨_, rfl⟩
  have Z1 : Hid (Holds W1 (w.heap.size) 24 #[.int .i64 n, .slice a m ca]) := Lib.hid (by rw [hW1]; exact (Holds.new w _ _).alloc _)
  have Zs : Hid (Holds W1 (w.heap.size + 1) 26 #[.int .i64 k, .int .i64 x, .int .i64 y, .int .i64 c, .int .i64 d]) := Lib.hid (by rw [hW1]; have q := Holds.new (w.alloc (.cells #[.int .i64 n, .slice a m ca] 24)) 26 #[.int .i64 k, .int .i64 x, .int .i64 y, .int .i64 c, .int .i64 d]; simpa using q)
  have BL := Lib.hid (show Below w.heap.size w W1 by rw [hW1]; exact (box_below _ _ _).alloc (by simp) _)
  have S1 := Lib.hid (h1.below BL.out)
  have S2 := Lib.hid (h2.below BL.out)
  have hW1' := Lib.hid hW1
  clear hW1
  clear h1 h2
  go_enter Tryz.func3, Tryz.ntmps3
  have k1 := Z1.out.cell 0
  have k2 := Z1.out.cell 1
  have k3 := Zs.out.cell 0
  have k4 := Zs.out.cell 1
  have k5 := Zs.out.cell 2
  have k6 := Zs.out.cell 3
  have k7 := Zs.out.cell 4
  have q := Lib.hid (by have := large_any a m ca S1.out.max W1; rwa [decide_eq_false (show ¬ (200 : Int) < (m : Int) by omega)] at this)
  go_wp2_with fail
  rw [← hW1'.out]
  with_reducible refine q.out.mono ?_
  rintro e u1 ⟨rfl, rfl⟩
  clear hW1'
  clear q
  have q := Lib.hid (by have := rchk_any n k x y c d l a m ca W1 S1.out; rwa [hck.out] at this)
  go_wp2_with fail
  with_reducible refine q.out.mono ?_
  rintro e u3 ⟨rfl, b3⟩
  clear k1 k2 k3 k4 k5 k6 k7
  clear q
  have k8 : u3.cell? ⟨w.heap.size, 0, none⟩ = some (.int .i64 n) := (Z1.out.below b3 Z1.out.lt).cell 0
  have k9 : u3.cell? ⟨w.heap.size, 1, none⟩ = some (.slice a m ca) := (Z1.out.below b3 Z1.out.lt).cell 1
  have k10 : u3.cell? ⟨w.heap.size + 1, 0, none⟩ = some (.int .i64 k) := (Zs.out.below b3 Zs.out.lt).cell 0
  have k11 : u3.cell? ⟨w.heap.size + 1, 1, none⟩ = some (.int .i64 x) := (Zs.out.below b3 Zs.out.lt).cell 1
  have k12 : u3.cell? ⟨w.heap.size + 1, 2, none⟩ = some (.int .i64 y) := (Zs.out.below b3 Zs.out.lt).cell 2
  have k13 : u3.cell? ⟨w.heap.size + 1, 3, none⟩ = some (.int .i64 c) := (Zs.out.below b3 Zs.out.lt).cell 3
  have k14 : u3.cell? ⟨w.heap.size + 1, 4, none⟩ = some (.int .i64 d) := (Zs.out.below b3 Zs.out.lt).cell 4
  replace Z1 := Lib.hid (Z1.out.below b3 Z1.out.lt)
  replace Zs := Lib.hid (Zs.out.below b3 Zs.out.lt)
  replace BL := Lib.hid (BL.out.trans (b3.mono BL.out.size))
  replace S1 := Lib.hid (S1.out.below b3)
  replace S2 := Lib.hid (S2.out.below b3)
  clear b3
  have q := Lib.hid (by have := has_any n a m ca l av _ cv v u3 S1.out S2.out; rwa [hhas.out] at this)
  go_wp2_with fail
  with_reducible refine q.out.mono ?_
  rintro e u4 ⟨rfl, b4⟩
  clear k8 k9 k10 k11 k12 k13 k14
  clear q
  have k15 : u4.cell? ⟨w.heap.size, 0, none⟩ = some (.int .i64 n) := (Z1.out.below b4 Z1.out.lt).cell 0
  have k16 : u4.cell? ⟨w.heap.size, 1, none⟩ = some (.slice a m ca) := (Z1.out.below b4 Z1.out.lt).cell 1
  have k17 : u4.cell? ⟨w.heap.size + 1, 0, none⟩ = some (.int .i64 k) := (Zs.out.below b4 Zs.out.lt).cell 0
  have k18 : u4.cell? ⟨w.heap.size + 1, 1, none⟩ = some (.int .i64 x) := (Zs.out.below b4 Zs.out.lt).cell 1
  have k19 : u4.cell? ⟨w.heap.size + 1, 2, none⟩ = some (.int .i64 y) := (Zs.out.below b4 Zs.out.lt).cell 2
  have k20 : u4.cell? ⟨w.heap.size + 1, 3, none⟩ = some (.int .i64 c) := (Zs.out.below b4 Zs.out.lt).cell 3
  have k21 : u4.cell? ⟨w.heap.size + 1, 4, none⟩ = some (.int .i64 d) := (Zs.out.below b4 Zs.out.lt).cell 4
  replace Z1 := Lib.hid (Z1.out.below b4 Z1.out.lt)
  replace Zs := Lib.hid (Zs.out.below b4 Zs.out.lt)
  replace BL := Lib.hid (BL.out.trans (b4.mono BL.out.size))
  replace S1 := Lib.hid (S1.out.below b4)
  replace S2 := Lib.hid (S2.out.below b4)
  clear b4
  have q := Lib.hid (qA.out _ S1.out)
  go_wp2_with fail
  with_reducible refine q.out.mono ?_
  rintro e uA ⟨aA, cA, rfl, sA, bA⟩
  clear k15 k16 k17 k18 k19 k20 k21
  clear q qA
  have k22 : uA.cell? ⟨w.heap.size, 0, none⟩ = some (.int .i64 n) := (Z1.out.below bA Z1.out.lt).cell 0
  have k23 : uA.cell? ⟨w.heap.size, 1, none⟩ = some (.slice a m ca) := (Z1.out.below bA Z1.out.lt).cell 1
  have k24 : w.heap.size < uA.heap.size := (Z1.out.below bA Z1.out.lt).lt
  have k25 : uA.cell? ⟨w.heap.size + 1, 0, none⟩ = some (.int .i64 k) := (Zs.out.below bA Zs.out.lt).cell 0
  have k26 : uA.cell? ⟨w.heap.size + 1, 1, none⟩ = some (.int .i64 x) := (Zs.out.below bA Zs.out.lt).cell 1
  have k27 : uA.cell? ⟨w.heap.size + 1, 2, none⟩ = some (.int .i64 y) := (Zs.out.below bA Zs.out.lt).cell 2
  have k28 : uA.cell? ⟨w.heap.size + 1, 3, none⟩ = some (.int .i64 c) := (Zs.out.below bA Zs.out.lt).cell 3
  have k29 : uA.cell? ⟨w.heap.size + 1, 4, none⟩ = some (.int .i64 d) := (Zs.out.below bA Zs.out.lt).cell 4
  have k30 : w.heap.size + 1 < uA.heap.size := (Zs.out.below bA Zs.out.lt).lt
  have B0 := box_below uA #[.int .i64 n, .slice aA P.length cA] 24
  have B := bA.trans (B0.mono bA.size)
  replace Z1 := Lib.hid (Z1.out.below B Z1.out.lt)
  replace Zs := Lib.hid (Zs.out.below B Zs.out.lt)
  replace BL := Lib.hid (BL.out.trans (B.mono BL.out.size))
  replace S1 := Lib.hid (S1.out.below B)
  replace S2 := Lib.hid (S2.out.below B)
  have ZA := Lib.hid (Holds.new uA 24 #[.int .i64 n, .slice aA P.length cA])
  have SA := Lib.hid (sA.below B0)
  clear bA B B0 sA
  have q := Lib.hid (qB.out _ S1.out)
  go_wp2_with fail
  with_reducible refine q.out.mono ?_
  rintro e uB ⟨aB, cB, rfl, sB, bB⟩
  clear k22 k23 k24 k25 k26 k27 k28 k29 k30
  clear q qB
  have k31 : uB.cell? ⟨w.heap.size + 1, 0, none⟩ = some (.int .i64 k) := (Zs.out.below bB Zs.out.lt).cell 0
  have k32 : uB.cell? ⟨w.heap.size + 1, 1, none⟩ = some (.int .i64 x) := (Zs.out.below bB Zs.out.lt).cell 1
  have k33 : uB.cell? ⟨w.heap.size + 1, 2, none⟩ = some (.int .i64 y) := (Zs.out.below bB Zs.out.lt).cell 2
  have k34 : uB.cell? ⟨w.heap.size + 1, 3, none⟩ = some (.int .i64 c) := (Zs.out.below bB Zs.out.lt).cell 3
  have k35 : uB.cell? ⟨w.heap.size + 1, 4, none⟩ = some (.int .i64 d) := (Zs.out.below bB Zs.out.lt).cell 4
  have k36 : w.heap.size + 1 < uB.heap.size := (Zs.out.below bB Zs.out.lt).lt
  have B0 := box_below uB #[.int .i64 n, .slice aB R.length cB] 24
  have B := bB.trans (B0.mono bB.size)
  replace Z1 := Lib.hid (Z1.out.below B Z1.out.lt)
  replace Zs := Lib.hid (Zs.out.below B Zs.out.lt)
  replace ZA := Lib.hid (ZA.out.below B ZA.out.lt)
  replace BL := Lib.hid (BL.out.trans (B.mono BL.out.size))
  replace S1 := Lib.hid (S1.out.below B)
  replace S2 := Lib.hid (S2.out.below B)
  replace SA := Lib.hid (SA.out.below B)
  have ZB := Lib.hid (Holds.new uB 24 #[.int .i64 n, .slice aB R.length cB])
  have SB := Lib.hid (sB.below B0)
  clear bB B B0 sB
  have q := Lib.hid (qD.out _ S2.out)
  go_wp2_with fail
  with_reducible refine q.out.mono ?_
  rintro e uD ⟨aD, cD, rfl, sD, bD⟩
  clear k31 k32 k33 k34 k35 k36
  clear q qD
  replace Z1 := Lib.hid (Z1.out.below bD Z1.out.lt)
  replace Zs := Lib.hid (Zs.out.below bD Zs.out.lt)
  replace ZA := Lib.hid (ZA.out.below bD ZA.out.lt)
  replace ZB := Lib.hid (ZB.out.below bD ZB.out.lt)
  replace BL := Lib.hid (BL.out.trans (bD.mono BL.out.size))
  replace S1 := Lib.hid (S1.out.below bD)
  replace S2 := Lib.hid (S2.out.below bD)
  replace SA := Lib.hid (SA.out.below bD)
  replace SB := Lib.hid (SB.out.below bD)
  have SD := Lib.hid (sD)
  clear bD sD
  have q := Lib.hid (plives_any uD)
  go_wp2_with fail
  with_reducible refine q.out.mono ?_
  rintro e uL ⟨rfl, bL⟩
  clear q
  have k37 : uL.cell? ⟨uB.heap.size, 0, none⟩ = some (.int .i64 n) := (ZB.out.below bL ZB.out.lt).cell 0
  have k38 : uL.cell? ⟨uB.heap.size, 1, none⟩ = some (.slice aB R.length cB) := (ZB.out.below bL ZB.out.lt).cell 1
  replace Z1 := Lib.hid (Z1.out.below bL Z1.out.lt)
  replace Zs := Lib.hid (Zs.out.below bL Zs.out.lt)
  replace ZA := Lib.hid (ZA.out.below bL ZA.out.lt)
  replace ZB := Lib.hid (ZB.out.below bL ZB.out.lt)
  replace BL := Lib.hid (BL.out.trans (bL.mono BL.out.size))
  replace S1 := Lib.hid (S1.out.below bL)
  replace S2 := Lib.hid (S2.out.below bL)
  replace SA := Lib.hid (SA.out.below bL)
  replace SB := Lib.hid (SB.out.below bL)
  replace SD := Lib.hid (SD.out.below bL)
  clear bL
  have q := Lib.hid (qHb.out _ aB _ cB SB.out S2.out)
  go_wp2_with fail
  with_reducible refine q.out.mono ?_
  rintro e uH ⟨rfl, bH⟩
  clear k37 k38
  clear q qHb
  have k39 : uH.cell? ⟨w.heap.size + 1, 0, none⟩ = some (.int .i64 k) := (Zs.out.below bH Zs.out.lt).cell 0
  have k40 : uH.cell? ⟨w.heap.size + 1, 1, none⟩ = some (.int .i64 x) := (Zs.out.below bH Zs.out.lt).cell 1
  have k41 : uH.cell? ⟨w.heap.size + 1, 2, none⟩ = some (.int .i64 y) := (Zs.out.below bH Zs.out.lt).cell 2
  have k42 : uH.cell? ⟨w.heap.size + 1, 3, none⟩ = some (.int .i64 c) := (Zs.out.below bH Zs.out.lt).cell 3
  have k43 : uH.cell? ⟨w.heap.size + 1, 4, none⟩ = some (.int .i64 d) := (Zs.out.below bH Zs.out.lt).cell 4
  have k44 : uH.cell? ⟨uA.heap.size, 0, none⟩ = some (.int .i64 n) := (ZA.out.below bH ZA.out.lt).cell 0
  have k45 : uH.cell? ⟨uA.heap.size, 1, none⟩ = some (.slice aA P.length cA) := (ZA.out.below bH ZA.out.lt).cell 1
  replace Z1 := Lib.hid (Z1.out.below bH Z1.out.lt)
  replace Zs := Lib.hid (Zs.out.below bH Zs.out.lt)
  replace ZA := Lib.hid (ZA.out.below bH ZA.out.lt)
  replace ZB := Lib.hid (ZB.out.below bH ZB.out.lt)
  replace BL := Lib.hid (BL.out.trans (bH.mono BL.out.size))
  replace S1 := Lib.hid (S1.out.below bH)
  replace S2 := Lib.hid (S2.out.below bH)
  replace SA := Lib.hid (SA.out.below bH)
  replace SB := Lib.hid (SB.out.below bH)
  replace SD := Lib.hid (SD.out.below bH)
  clear bH
  go_wp2
  go_ret
  exact ⟨rfl, BL.out⟩
set_option maxRecDepth 100000 in
set_option maxHeartbeats 4000000 in
theorem phas_l0 (n : Nat) (x y c d ch : Int) (mL : Nat) (L : List Int) (a av : Option Addr) (m ca cv : Nat) (l v : List Int) (w : World) (h1 : SL w a m ca l) (h2 : SL w av n cv v) (hn8 : n ≤ 8) (g1 : ¬ 200 < m) (z1 : IsZ n l) (hr : rightB 4 x y c d n = true) (hh : hasB n l v = true) (hD : ∀ W, SL W av n cv v → Calls Tryz.prog 12 #[.agg #[.int .i64 4, .int .i64 x, .int .i64 y, .int .i64 c, .int .i64 d], .slice av n cv, .int .i64 ch] W (DoS 0 mL L W)) (hB : hasB n (faultL n l 4 x y c) v = false) (hA : hasB n (postL n l 4 x y c d) v = true) : Calls Tryz.prog 3 #[.agg #[.int .i64 n, .slice a m ca], .agg #[.int .i64 4, .int .i64 x, .int .i64 y, .int .i64 c, .int .i64 d], .slice av n cv, .int .i64 ch] w (Gives (.bool true) w) := by
  have hck : Hid (pchk n l 4 x y c d = 0) := Lib.hid (by unfold pchk; rw [z1.check, hr]; simp)
  have hhas := Lib.hid hh
  have hXP := postL_isz z1 4 x y c d
  have hXF := faultL_isz z1 4 x y c
  have qA := Lib.hid (fun W hs => (post_ok n 4 x y c d l z1 hr a m ca W hs).mono (fun e w' h => zoneE_len' hXP.small h))
  have qB := Lib.hid (fun W hs => (fault_ok n 4 x y c d l z1 hr a m ca W hs).mono (fun e w' h => zoneE_len' hXF.small h))
  have qD := Lib.hid hD
  have qHb := Lib.hid (fun W a2 m2 c2 (hs2 : SL W a2 m2 c2 (faultL n l 4 x y c)) (hs : SL W av n cv v) => has_any n a2 m2 c2 _ av n cv v W hs2 hs)
  rw [hB] at qHb
  have p2 : ¬ (20 : Int) < (n : Int) := by omega
  have qHa := Lib.hid (fun W a2 m2 c2 (hs2 : SL W a2 m2 c2 (postL n l 4 x y c d)) (hs : SL W av n cv v) => has_any n a2 m2 c2 _ av n cv v W hs2 hs)
  rw [hA] at qHa
  clear z1 hr hh hXP hXF hD hB hA
  generalize postL n l 4 x y c d = P at *
  generalize faultL n l 4 x y c = R at *
  obtain ⟨W1, hW1⟩ : ∃ W1, W1 = (w.alloc (.cells #[.int .i64 n, .slice a m ca] 24)).alloc (.cells #[.int .i64 4, .int .i64 x, .int .i64 y, .int .i64 c, .int .i64 d] 26) := ⟨_, rfl⟩
  have Z1 : Hid (Holds W1 (w.heap.size) 24 #[.int .i64 n, .slice a m ca]) := Lib.hid (by rw [hW1]; exact (Holds.new w _ _).alloc _)
  have Zs : Hid (Holds W1 (w.heap.size + 1) 26 #[.int .i64 4, .int .i64 x, .int .i64 y, .int .i64 c, .int .i64 d]) := Lib.hid (by rw [hW1]; have q := Holds.new (w.alloc (.cells #[.int .i64 n, .slice a m ca] 24)) 26 #[.int .i64 4, .int .i64 x, .int .i64 y, .int .i64 c, .int .i64 d]; simpa using q)
  have BL := Lib.hid (show Below w.heap.size w W1 by rw [hW1]; exact (box_below _ _ _).alloc (by simp) _)
  have S1 := Lib.hid (h1.below BL.out)
  have S2 := Lib.hid (h2.below BL.out)
  have hW1' := Lib.hid hW1
  clear hW1
  clear h1 h2
  go_enter Tryz.func3, Tryz.ntmps3
  have k1 := Z1.out.cell 0
  have k2 := Z1.out.cell 1
  have k3 := Zs.out.cell 0
  have k4 := Zs.out.cell 1
  have k5 := Zs.out.cell 2
  have k6 := Zs.out.cell 3
  have k7 := Zs.out.cell 4
  have q := Lib.hid (by have := large_any a m ca S1.out.max W1; rwa [decide_eq_false (show ¬ (200 : Int) < (m : Int) by omega)] at this)
  go_wp2_with fail
  rw [← hW1'.out]
  with_reducible refine q.out.mono ?_
  rintro e u1 ⟨rfl, rfl⟩
  clear hW1'
  clear q
  have q := Lib.hid (by have := rchk_any n 4 x y c d l a m ca W1 S1.out; rwa [hck.out] at this)
  go_wp2_with fail
  with_reducible refine q.out.mono ?_
  rintro e u3 ⟨rfl, b3⟩
  clear k1 k2 k3 k4 k5 k6 k7
  clear q
  have k8 : u3.cell? ⟨w.heap.size, 0, none⟩ = some (.int .i64 n) := (Z1.out.below b3 Z1.out.lt).cell 0
  have k9 : u3.cell? ⟨w.heap.size, 1, none⟩ = some (.slice a m ca) := (Z1.out.below b3 Z1.out.lt).cell 1
  have k10 : u3.cell? ⟨w.heap.size + 1, 0, none⟩ = some (.int .i64 4) := (Zs.out.below b3 Zs.out.lt).cell 0
  have k11 : u3.cell? ⟨w.heap.size + 1, 1, none⟩ = some (.int .i64 x) := (Zs.out.below b3 Zs.out.lt).cell 1
  have k12 : u3.cell? ⟨w.heap.size + 1, 2, none⟩ = some (.int .i64 y) := (Zs.out.below b3 Zs.out.lt).cell 2
  have k13 : u3.cell? ⟨w.heap.size + 1, 3, none⟩ = some (.int .i64 c) := (Zs.out.below b3 Zs.out.lt).cell 3
  have k14 : u3.cell? ⟨w.heap.size + 1, 4, none⟩ = some (.int .i64 d) := (Zs.out.below b3 Zs.out.lt).cell 4
  replace Z1 := Lib.hid (Z1.out.below b3 Z1.out.lt)
  replace Zs := Lib.hid (Zs.out.below b3 Zs.out.lt)
  replace BL := Lib.hid (BL.out.trans (b3.mono BL.out.size))
  replace S1 := Lib.hid (S1.out.below b3)
  replace S2 := Lib.hid (S2.out.below b3)
  clear b3
  have q := Lib.hid (by have := has_any n a m ca l av _ cv v u3 S1.out S2.out; rwa [hhas.out] at this)
  go_wp2_with fail
  with_reducible refine q.out.mono ?_
  rintro e u4 ⟨rfl, b4⟩
  clear k8 k9 k10 k11 k12 k13 k14
  clear q
  have k15 : u4.cell? ⟨w.heap.size, 0, none⟩ = some (.int .i64 n) := (Z1.out.below b4 Z1.out.lt).cell 0
  have k16 : u4.cell? ⟨w.heap.size, 1, none⟩ = some (.slice a m ca) := (Z1.out.below b4 Z1.out.lt).cell 1
  have k17 : u4.cell? ⟨w.heap.size + 1, 0, none⟩ = some (.int .i64 4) := (Zs.out.below b4 Zs.out.lt).cell 0
  have k18 : u4.cell? ⟨w.heap.size + 1, 1, none⟩ = some (.int .i64 x) := (Zs.out.below b4 Zs.out.lt).cell 1
  have k19 : u4.cell? ⟨w.heap.size + 1, 2, none⟩ = some (.int .i64 y) := (Zs.out.below b4 Zs.out.lt).cell 2
  have k20 : u4.cell? ⟨w.heap.size + 1, 3, none⟩ = some (.int .i64 c) := (Zs.out.below b4 Zs.out.lt).cell 3
  have k21 : u4.cell? ⟨w.heap.size + 1, 4, none⟩ = some (.int .i64 d) := (Zs.out.below b4 Zs.out.lt).cell 4
  replace Z1 := Lib.hid (Z1.out.below b4 Z1.out.lt)
  replace Zs := Lib.hid (Zs.out.below b4 Zs.out.lt)
  replace BL := Lib.hid (BL.out.trans (b4.mono BL.out.size))
  replace S1 := Lib.hid (S1.out.below b4)
  replace S2 := Lib.hid (S2.out.below b4)
  clear b4
  have q := Lib.hid (qA.out _ S1.out)
  go_wp2_with fail
  with_reducible refine q.out.mono ?_
  rintro e uA ⟨aA, cA, rfl, sA, bA⟩
  clear k15 k16 k17 k18 k19 k20 k21
  clear q qA
  have k22 : uA.cell? ⟨w.heap.size, 0, none⟩ = some (.int .i64 n) := (Z1.out.below bA Z1.out.lt).cell 0
  have k23 : uA.cell? ⟨w.heap.size, 1, none⟩ = some (.slice a m ca) := (Z1.out.below bA Z1.out.lt).cell 1
  have k24 : w.heap.size < uA.heap.size := (Z1.out.below bA Z1.out.lt).lt
  have k25 : uA.cell? ⟨w.heap.size + 1, 0, none⟩ = some (.int .i64 4) := (Zs.out.below bA Zs.out.lt).cell 0
  have k26 : uA.cell? ⟨w.heap.size + 1, 1, none⟩ = some (.int .i64 x) := (Zs.out.below bA Zs.out.lt).cell 1
  have k27 : uA.cell? ⟨w.heap.size + 1, 2, none⟩ = some (.int .i64 y) := (Zs.out.below bA Zs.out.lt).cell 2
  have k28 : uA.cell? ⟨w.heap.size + 1, 3, none⟩ = some (.int .i64 c) := (Zs.out.below bA Zs.out.lt).cell 3
  have k29 : uA.cell? ⟨w.heap.size + 1, 4, none⟩ = some (.int .i64 d) := (Zs.out.below bA Zs.out.lt).cell 4
  have k30 : w.heap.size + 1 < uA.heap.size := (Zs.out.below bA Zs.out.lt).lt
  have B0 := box_below uA #[.int .i64 n, .slice aA P.length cA] 24
  have B := bA.trans (B0.mono bA.size)
  replace Z1 := Lib.hid (Z1.out.below B Z1.out.lt)
  replace Zs := Lib.hid (Zs.out.below B Zs.out.lt)
  replace BL := Lib.hid (BL.out.trans (B.mono BL.out.size))
  replace S1 := Lib.hid (S1.out.below B)
  replace S2 := Lib.hid (S2.out.below B)
  have ZA := Lib.hid (Holds.new uA 24 #[.int .i64 n, .slice aA P.length cA])
  have SA := Lib.hid (sA.below B0)
  clear bA B B0 sA
  have q := Lib.hid (qB.out _ S1.out)
  go_wp2_with fail
  with_reducible refine q.out.mono ?_
  rintro e uB ⟨aB, cB, rfl, sB, bB⟩
  clear k22 k23 k24 k25 k26 k27 k28 k29 k30
  clear q qB
  have k31 : uB.cell? ⟨w.heap.size + 1, 0, none⟩ = some (.int .i64 4) := (Zs.out.below bB Zs.out.lt).cell 0
  have k32 : uB.cell? ⟨w.heap.size + 1, 1, none⟩ = some (.int .i64 x) := (Zs.out.below bB Zs.out.lt).cell 1
  have k33 : uB.cell? ⟨w.heap.size + 1, 2, none⟩ = some (.int .i64 y) := (Zs.out.below bB Zs.out.lt).cell 2
  have k34 : uB.cell? ⟨w.heap.size + 1, 3, none⟩ = some (.int .i64 c) := (Zs.out.below bB Zs.out.lt).cell 3
  have k35 : uB.cell? ⟨w.heap.size + 1, 4, none⟩ = some (.int .i64 d) := (Zs.out.below bB Zs.out.lt).cell 4
  have k36 : w.heap.size + 1 < uB.heap.size := (Zs.out.below bB Zs.out.lt).lt
  have B0 := box_below uB #[.int .i64 n, .slice aB R.length cB] 24
  have B := bB.trans (B0.mono bB.size)
  replace Z1 := Lib.hid (Z1.out.below B Z1.out.lt)
  replace Zs := Lib.hid (Zs.out.below B Zs.out.lt)
  replace ZA := Lib.hid (ZA.out.below B ZA.out.lt)
  replace BL := Lib.hid (BL.out.trans (B.mono BL.out.size))
  replace S1 := Lib.hid (S1.out.below B)
  replace S2 := Lib.hid (S2.out.below B)
  replace SA := Lib.hid (SA.out.below B)
  have ZB := Lib.hid (Holds.new uB 24 #[.int .i64 n, .slice aB R.length cB])
  have SB := Lib.hid (sB.below B0)
  clear bB B B0 sB
  have q := Lib.hid (qD.out _ S2.out)
  go_wp2_with fail
  with_reducible refine q.out.mono ?_
  rintro e uD ⟨aD, cD, rfl, sD, bD⟩
  clear k31 k32 k33 k34 k35 k36
  clear q qD
  replace Z1 := Lib.hid (Z1.out.below bD Z1.out.lt)
  replace Zs := Lib.hid (Zs.out.below bD Zs.out.lt)
  replace ZA := Lib.hid (ZA.out.below bD ZA.out.lt)
  replace ZB := Lib.hid (ZB.out.below bD ZB.out.lt)
  replace BL := Lib.hid (BL.out.trans (bD.mono BL.out.size))
  replace S1 := Lib.hid (S1.out.below bD)
  replace S2 := Lib.hid (S2.out.below bD)
  replace SA := Lib.hid (SA.out.below bD)
  replace SB := Lib.hid (SB.out.below bD)
  have SD := Lib.hid (sD)
  clear bD sD
  have q := Lib.hid (plives_any uD)
  go_wp2_with fail
  with_reducible refine q.out.mono ?_
  rintro e uL ⟨rfl, bL⟩
  clear q
  have k37 : uL.cell? ⟨uB.heap.size, 0, none⟩ = some (.int .i64 n) := (ZB.out.below bL ZB.out.lt).cell 0
  have k38 : uL.cell? ⟨uB.heap.size, 1, none⟩ = some (.slice aB R.length cB) := (ZB.out.below bL ZB.out.lt).cell 1
  replace Z1 := Lib.hid (Z1.out.below bL Z1.out.lt)
  replace Zs := Lib.hid (Zs.out.below bL Zs.out.lt)
  replace ZA := Lib.hid (ZA.out.below bL ZA.out.lt)
  replace ZB := Lib.hid (ZB.out.below bL ZB.out.lt)
  replace BL := Lib.hid (BL.out.trans (bL.mono BL.out.size))
  replace S1 := Lib.hid (S1.out.below bL)
  replace S2 := Lib.hid (S2.out.below bL)
  replace SA := Lib.hid (SA.out.below bL)
  replace SB := Lib.hid (SB.out.below bL)
  replace SD := Lib.hid (SD.out.below bL)
  clear bL
  have q := Lib.hid (qHb.out _ aB _ cB SB.out S2.out)
  go_wp2_with fail
  with_reducible refine q.out.mono ?_
  rintro e uH ⟨rfl, bH⟩
  clear k37 k38
  clear q qHb
  have k39 : uH.cell? ⟨w.heap.size + 1, 0, none⟩ = some (.int .i64 4) := (Zs.out.below bH Zs.out.lt).cell 0
  have k40 : uH.cell? ⟨w.heap.size + 1, 1, none⟩ = some (.int .i64 x) := (Zs.out.below bH Zs.out.lt).cell 1
  have k41 : uH.cell? ⟨w.heap.size + 1, 2, none⟩ = some (.int .i64 y) := (Zs.out.below bH Zs.out.lt).cell 2
  have k42 : uH.cell? ⟨w.heap.size + 1, 3, none⟩ = some (.int .i64 c) := (Zs.out.below bH Zs.out.lt).cell 3
  have k43 : uH.cell? ⟨w.heap.size + 1, 4, none⟩ = some (.int .i64 d) := (Zs.out.below bH Zs.out.lt).cell 4
  have k44 : uH.cell? ⟨uA.heap.size, 0, none⟩ = some (.int .i64 n) := (ZA.out.below bH ZA.out.lt).cell 0
  have k45 : uH.cell? ⟨uA.heap.size, 1, none⟩ = some (.slice aA P.length cA) := (ZA.out.below bH ZA.out.lt).cell 1
  replace Z1 := Lib.hid (Z1.out.below bH Z1.out.lt)
  replace Zs := Lib.hid (Zs.out.below bH Zs.out.lt)
  replace ZA := Lib.hid (ZA.out.below bH ZA.out.lt)
  replace ZB := Lib.hid (ZB.out.below bH ZB.out.lt)
  replace BL := Lib.hid (BL.out.trans (bH.mono BL.out.size))
  replace S1 := Lib.hid (S1.out.below bH)
  replace S2 := Lib.hid (S2.out.below bH)
  replace SA := Lib.hid (SA.out.below bH)
  replace SB := Lib.hid (SB.out.below bH)
  replace SD := Lib.hid (SD.out.below bH)
  clear bH
  have q := Lib.hid (qHa.out _ aA _ cA SA.out S2.out)
  go_wp2_with fail
  with_reducible refine q.out.mono ?_
  rintro e uG ⟨rfl, bG⟩
  clear k39 k40 k41 k42 k43 k44 k45
  clear q
  replace Z1 := Lib.hid (Z1.out.below bG Z1.out.lt)
  replace Zs := Lib.hid (Zs.out.below bG Zs.out.lt)
  replace ZA := Lib.hid (ZA.out.below bG ZA.out.lt)
  replace ZB := Lib.hid (ZB.out.below bG ZB.out.lt)
  replace BL := Lib.hid (BL.out.trans (bG.mono BL.out.size))
  replace S1 := Lib.hid (S1.out.below bG)
  replace S2 := Lib.hid (S2.out.below bG)
  replace SA := Lib.hid (SA.out.below bG)
  replace SB := Lib.hid (SB.out.below bG)
  replace SD := Lib.hid (SD.out.below bG)
  clear bG
  go_wp2
  go_ret
  exact ⟨rfl, BL.out⟩
set_option maxRecDepth 100000 in
set_option maxHeartbeats 4000000 in
theorem phas_l1 (n : Nat) (x y c d ch : Int) (mL : Nat) (L : List Int) (a av : Option Addr) (m ca cv : Nat) (l v : List Int) (w : World) (h1 : SL w a m ca l) (h2 : SL w av n cv v) (hn8 : n ≤ 8) (g1 : ¬ 200 < m) (z1 : IsZ n l) (hr : rightB 4 x y c d n = true) (hh : hasB n l v = true) (hD : ∀ W, SL W av n cv v → Calls Tryz.prog 12 #[.agg #[.int .i64 4, .int .i64 x, .int .i64 y, .int .i64 c, .int .i64 d], .slice av n cv, .int .i64 ch] W (DoS 130 mL L W)) (hB : hasB n (faultL n l 4 x y c) v = false) (hA : hasB n (postL n l 4 x y c d) v = false) : Calls Tryz.prog 3 #[.agg #[.int .i64 n, .slice a m ca], .agg #[.int .i64 4, .int .i64 x, .int .i64 y, .int .i64 c, .int .i64 d], .slice av n cv, .int .i64 ch] w (Gives (.bool true) w) := by
  have hck : Hid (pchk n l 4 x y c d = 0) := Lib.hid (by unfold pchk; rw [z1.check, hr]; simp)
  have hhas := Lib.hid hh
  have hXP := postL_isz z1 4 x y c d
  have hXF := faultL_isz z1 4 x y c
  have qA := Lib.hid (fun W hs => (post_ok n 4 x y c d l z1 hr a m ca W hs).mono (fun e w' h => zoneE_len' hXP.small h))
  have qB := Lib.hid (fun W hs => (fault_ok n 4 x y c d l z1 hr a m ca W hs).mono (fun e w' h => zoneE_len' hXF.small h))
  have qD := Lib.hid hD
  have qHb := Lib.hid (fun W a2 m2 c2 (hs2 : SL W a2 m2 c2 (faultL n l 4 x y c)) (hs : SL W av n cv v) => has_any n a2 m2 c2 _ av n cv v W hs2 hs)
  rw [hB] at qHb
  have p2 : ¬ (20 : Int) < (n : Int) := by omega
  have qHa := Lib.hid (fun W a2 m2 c2 (hs2 : SL W a2 m2 c2 (postL n l 4 x y c d)) (hs : SL W av n cv v) => has_any n a2 m2 c2 _ av n cv v W hs2 hs)
  rw [hA] at qHa
  clear z1 hr hh hXP hXF hD hB hA
  generalize postL n l 4 x y c d = P at *
  generalize faultL n l 4 x y c = R at *
  obtain ⟨W1, hW1⟩ : ∃ W1, W1 = (w.alloc (.cells #[.int .i64 n, .slice a m ca] 24)).alloc (.cells #[.int .i64 4, .int .i64 x, .int .i64 y, .int .i64 c, .int .i64 d] 26) := ⟨_, rfl⟩
  have Z1 : Hid (Holds W1 (w.heap.size) 24 #[.int .i64 n, .slice a m ca]) := Lib.hid (by rw [hW1]; exact (Holds.new w _ _).alloc _)
  have Zs : Hid (Holds W1 (w.heap.size + 1) 26 #[.int .i64 4, .int .i64 x, .int .i64 y, .int .i64 c, .int .i64 d]) := Lib.hid (by rw [hW1]; have q := Holds.new (w.alloc (.cells #[.int .i64 n, .slice a m ca] 24)) 26 #[.int .i64 4, .int .i64 x, .int .i64 y, .int .i64 c, .int .i64 d]; simpa using q)
  have BL := Lib.hid (show Below w.heap.size w W1 by rw [hW1]; exact (box_below _ _ _).alloc (by simp) _)
  have S1 := Lib.hid (h1.below BL.out)
  have S2 := Lib.hid (h2.below BL.out)
  have hW1' := Lib.hid hW1
  clear hW1
  clear h1 h2
  go_enter Tryz.func3, Tryz.ntmps3
  have k1 := Z1.out.cell 0
  have k2 := Z1.out.cell 1
  have k3 := Zs.out.cell 0
  have k4 := Zs.out.cell 1
  have k5 := Zs.out.cell 2
  have k6 := Zs.out.cell 3
  have k7 := Zs.out.cell 4
  have q := Lib.hid (by have := large_any a m ca S1.out.max W1; rwa [decide_eq_false (show ¬ (200 : Int) < (m : Int) by omega)] at this)
  go_wp2_with fail
  rw [← hW1'.out]
  with_reducible refine q.out.mono ?_
  rintro e u1 ⟨rfl, rfl⟩
  clear hW1'
  clear q
  have q := Lib.hid (by have := rchk_any n 4 x y c d l a m ca W1 S1.out; rwa [hck.out] at this)
  go_wp2_with fail
  with_reducible refine q.out.mono ?_
  rintro e u3 ⟨rfl, b3⟩
  clear k1 k2 k3 k4 k5 k6 k7
  clear q
  have k8 : u3.cell? ⟨w.heap.size, 0, none⟩ = some (.int .i64 n) := (Z1.out.below b3 Z1.out.lt).cell 0
  have k9 : u3.cell? ⟨w.heap.size, 1, none⟩ = some (.slice a m ca) := (Z1.out.below b3 Z1.out.lt).cell 1
  have k10 : u3.cell? ⟨w.heap.size + 1, 0, none⟩ = some (.int .i64 4) := (Zs.out.below b3 Zs.out.lt).cell 0
  have k11 : u3.cell? ⟨w.heap.size + 1, 1, none⟩ = some (.int .i64 x) := (Zs.out.below b3 Zs.out.lt).cell 1
  have k12 : u3.cell? ⟨w.heap.size + 1, 2, none⟩ = some (.int .i64 y) := (Zs.out.below b3 Zs.out.lt).cell 2
  have k13 : u3.cell? ⟨w.heap.size + 1, 3, none⟩ = some (.int .i64 c) := (Zs.out.below b3 Zs.out.lt).cell 3
  have k14 : u3.cell? ⟨w.heap.size + 1, 4, none⟩ = some (.int .i64 d) := (Zs.out.below b3 Zs.out.lt).cell 4
  replace Z1 := Lib.hid (Z1.out.below b3 Z1.out.lt)
  replace Zs := Lib.hid (Zs.out.below b3 Zs.out.lt)
  replace BL := Lib.hid (BL.out.trans (b3.mono BL.out.size))
  replace S1 := Lib.hid (S1.out.below b3)
  replace S2 := Lib.hid (S2.out.below b3)
  clear b3
  have q := Lib.hid (by have := has_any n a m ca l av _ cv v u3 S1.out S2.out; rwa [hhas.out] at this)
  go_wp2_with fail
  with_reducible refine q.out.mono ?_
  rintro e u4 ⟨rfl, b4⟩
  clear k8 k9 k10 k11 k12 k13 k14
  clear q
  have k15 : u4.cell? ⟨w.heap.size, 0, none⟩ = some (.int .i64 n) := (Z1.out.below b4 Z1.out.lt).cell 0
  have k16 : u4.cell? ⟨w.heap.size, 1, none⟩ = some (.slice a m ca) := (Z1.out.below b4 Z1.out.lt).cell 1
  have k17 : u4.cell? ⟨w.heap.size + 1, 0, none⟩ = some (.int .i64 4) := (Zs.out.below b4 Zs.out.lt).cell 0
  have k18 : u4.cell? ⟨w.heap.size + 1, 1, none⟩ = some (.int .i64 x) := (Zs.out.below b4 Zs.out.lt).cell 1
  have k19 : u4.cell? ⟨w.heap.size + 1, 2, none⟩ = some (.int .i64 y) := (Zs.out.below b4 Zs.out.lt).cell 2
  have k20 : u4.cell? ⟨w.heap.size + 1, 3, none⟩ = some (.int .i64 c) := (Zs.out.below b4 Zs.out.lt).cell 3
  have k21 : u4.cell? ⟨w.heap.size + 1, 4, none⟩ = some (.int .i64 d) := (Zs.out.below b4 Zs.out.lt).cell 4
  replace Z1 := Lib.hid (Z1.out.below b4 Z1.out.lt)
  replace Zs := Lib.hid (Zs.out.below b4 Zs.out.lt)
  replace BL := Lib.hid (BL.out.trans (b4.mono BL.out.size))
  replace S1 := Lib.hid (S1.out.below b4)
  replace S2 := Lib.hid (S2.out.below b4)
  clear b4
  have q := Lib.hid (qA.out _ S1.out)
  go_wp2_with fail
  with_reducible refine q.out.mono ?_
  rintro e uA ⟨aA, cA, rfl, sA, bA⟩
  clear k15 k16 k17 k18 k19 k20 k21
  clear q qA
  have k22 : uA.cell? ⟨w.heap.size, 0, none⟩ = some (.int .i64 n) := (Z1.out.below bA Z1.out.lt).cell 0
  have k23 : uA.cell? ⟨w.heap.size, 1, none⟩ = some (.slice a m ca) := (Z1.out.below bA Z1.out.lt).cell 1
  have k24 : w.heap.size < uA.heap.size := (Z1.out.below bA Z1.out.lt).lt
  have k25 : uA.cell? ⟨w.heap.size + 1, 0, none⟩ = some (.int .i64 4) := (Zs.out.below bA Zs.out.lt).cell 0
  have k26 : uA.cell? ⟨w.heap.size + 1, 1, none⟩ = some (.int .i64 x) := (Zs.out.below bA Zs.out.lt).cell 1
  have k27 : uA.cell? ⟨w.heap.size + 1, 2, none⟩ = some (.int .i64 y) := (Zs.out.below bA Zs.out.lt).cell 2
  have k28 : uA.cell? ⟨w.heap.size + 1, 3, none⟩ = some (.int .i64 c) := (Zs.out.below bA Zs.out.lt).cell 3
  have k29 : uA.cell? ⟨w.heap.size + 1, 4, none⟩ = some (.int .i64 d) := (Zs.out.below bA Zs.out.lt).cell 4
  have k30 : w.heap.size + 1 < uA.heap.size := (Zs.out.below bA Zs.out.lt).lt
  have B0 := box_below uA #[.int .i64 n, .slice aA P.length cA] 24
  have B := bA.trans (B0.mono bA.size)
  replace Z1 := Lib.hid (Z1.out.below B Z1.out.lt)
  replace Zs := Lib.hid (Zs.out.below B Zs.out.lt)
  replace BL := Lib.hid (BL.out.trans (B.mono BL.out.size))
  replace S1 := Lib.hid (S1.out.below B)
  replace S2 := Lib.hid (S2.out.below B)
  have ZA := Lib.hid (Holds.new uA 24 #[.int .i64 n, .slice aA P.length cA])
  have SA := Lib.hid (sA.below B0)
  clear bA B B0 sA
  have q := Lib.hid (qB.out _ S1.out)
  go_wp2_with fail
  with_reducible refine q.out.mono ?_
  rintro e uB ⟨aB, cB, rfl, sB, bB⟩
  clear k22 k23 k24 k25 k26 k27 k28 k29 k30
  clear q qB
  have k31 : uB.cell? ⟨w.heap.size + 1, 0, none⟩ = some (.int .i64 4) := (Zs.out.below bB Zs.out.lt).cell 0
  have k32 : uB.cell? ⟨w.heap.size + 1, 1, none⟩ = some (.int .i64 x) := (Zs.out.below bB Zs.out.lt).cell 1
  have k33 : uB.cell? ⟨w.heap.size + 1, 2, none⟩ = some (.int .i64 y) := (Zs.out.below bB Zs.out.lt).cell 2
  have k34 : uB.cell? ⟨w.heap.size + 1, 3, none⟩ = some (.int .i64 c) := (Zs.out.below bB Zs.out.lt).cell 3
  have k35 : uB.cell? ⟨w.heap.size + 1, 4, none⟩ = some (.int .i64 d) := (Zs.out.below bB Zs.out.lt).cell 4
  have k36 : w.heap.size + 1 < uB.heap.size := (Zs.out.below bB Zs.out.lt).lt
  have B0 := box_below uB #[.int .i64 n, .slice aB R.length cB] 24
  have B := bB.trans (B0.mono bB.size)
  replace Z1 := Lib.hid (Z1.out.below B Z1.out.lt)
  replace Zs := Lib.hid (Zs.out.below B Zs.out.lt)
  replace ZA := Lib.hid (ZA.out.below B ZA.out.lt)
  replace BL := Lib.hid (BL.out.trans (B.mono BL.out.size))
  replace S1 := Lib.hid (S1.out.below B)
  replace S2 := Lib.hid (S2.out.below B)
  replace SA := Lib.hid (SA.out.below B)
  have ZB := Lib.hid (Holds.new uB 24 #[.int .i64 n, .slice aB R.length cB])
  have SB := Lib.hid (sB.below B0)
  clear bB B B0 sB
  have q := Lib.hid (qD.out _ S2.out)
  go_wp2_with fail
  with_reducible refine q.out.mono ?_
  rintro e uD ⟨aD, cD, rfl, sD, bD⟩
  clear k31 k32 k33 k34 k35 k36
  clear q qD
  replace Z1 := Lib.hid (Z1.out.below bD Z1.out.lt)
  replace Zs := Lib.hid (Zs.out.below bD Zs.out.lt)
  replace ZA := Lib.hid (ZA.out.below bD ZA.out.lt)
  replace ZB := Lib.hid (ZB.out.below bD ZB.out.lt)
  replace BL := Lib.hid (BL.out.trans (bD.mono BL.out.size))
  replace S1 := Lib.hid (S1.out.below bD)
  replace S2 := Lib.hid (S2.out.below bD)
  replace SA := Lib.hid (SA.out.below bD)
  replace SB := Lib.hid (SB.out.below bD)
  have SD := Lib.hid (sD)
  clear bD sD
  have q := Lib.hid (plives_any uD)
  go_wp2_with fail
  with_reducible refine q.out.mono ?_
  rintro e uL ⟨rfl, bL⟩
  clear q
  have k37 : uL.cell? ⟨uB.heap.size, 0, none⟩ = some (.int .i64 n) := (ZB.out.below bL ZB.out.lt).cell 0
  have k38 : uL.cell? ⟨uB.heap.size, 1, none⟩ = some (.slice aB R.length cB) := (ZB.out.below bL ZB.out.lt).cell 1
  replace Z1 := Lib.hid (Z1.out.below bL Z1.out.lt)
  replace Zs := Lib.hid (Zs.out.below bL Zs.out.lt)
  replace ZA := Lib.hid (ZA.out.below bL ZA.out.lt)
  replace ZB := Lib.hid (ZB.out.below bL ZB.out.lt)
  replace BL := Lib.hid (BL.out.trans (bL.mono BL.out.size))
  replace S1 := Lib.hid (S1.out.below bL)
  replace S2 := Lib.hid (S2.out.below bL)
  replace SA := Lib.hid (SA.out.below bL)
  replace SB := Lib.hid (SB.out.below bL)
  replace SD := Lib.hid (SD.out.below bL)
  clear bL
  have q := Lib.hid (qHb.out _ aB _ cB SB.out S2.out)
  go_wp2_with fail
  with_reducible refine q.out.mono ?_
  rintro e uH ⟨rfl, bH⟩
  clear k37 k38
  clear q qHb
  have k39 : uH.cell? ⟨w.heap.size + 1, 0, none⟩ = some (.int .i64 4) := (Zs.out.below bH Zs.out.lt).cell 0
  have k40 : uH.cell? ⟨w.heap.size + 1, 1, none⟩ = some (.int .i64 x) := (Zs.out.below bH Zs.out.lt).cell 1
  have k41 : uH.cell? ⟨w.heap.size + 1, 2, none⟩ = some (.int .i64 y) := (Zs.out.below bH Zs.out.lt).cell 2
  have k42 : uH.cell? ⟨w.heap.size + 1, 3, none⟩ = some (.int .i64 c) := (Zs.out.below bH Zs.out.lt).cell 3
  have k43 : uH.cell? ⟨w.heap.size + 1, 4, none⟩ = some (.int .i64 d) := (Zs.out.below bH Zs.out.lt).cell 4
  have k44 : uH.cell? ⟨uA.heap.size, 0, none⟩ = some (.int .i64 n) := (ZA.out.below bH ZA.out.lt).cell 0
  have k45 : uH.cell? ⟨uA.heap.size, 1, none⟩ = some (.slice aA P.length cA) := (ZA.out.below bH ZA.out.lt).cell 1
  replace Z1 := Lib.hid (Z1.out.below bH Z1.out.lt)
  replace Zs := Lib.hid (Zs.out.below bH Zs.out.lt)
  replace ZA := Lib.hid (ZA.out.below bH ZA.out.lt)
  replace ZB := Lib.hid (ZB.out.below bH ZB.out.lt)
  replace BL := Lib.hid (BL.out.trans (bH.mono BL.out.size))
  replace S1 := Lib.hid (S1.out.below bH)
  replace S2 := Lib.hid (S2.out.below bH)
  replace SA := Lib.hid (SA.out.below bH)
  replace SB := Lib.hid (SB.out.below bH)
  replace SD := Lib.hid (SD.out.below bH)
  clear bH
  have q := Lib.hid (qHa.out _ aA _ cA SA.out S2.out)
  go_wp2_with fail
  with_reducible refine q.out.mono ?_
  rintro e uG ⟨rfl, bG⟩
  clear k39 k40 k41 k42 k43 k44 k45
  clear q
  replace Z1 := Lib.hid (Z1.out.below bG Z1.out.lt)
  replace Zs := Lib.hid (Zs.out.below bG Zs.out.lt)
  replace ZA := Lib.hid (ZA.out.below bG ZA.out.lt)
  replace ZB := Lib.hid (ZB.out.below bG ZB.out.lt)
  replace BL := Lib.hid (BL.out.trans (bG.mono BL.out.size))
  replace S1 := Lib.hid (S1.out.below bG)
  replace S2 := Lib.hid (S2.out.below bG)
  replace SA := Lib.hid (SA.out.below bG)
  replace SB := Lib.hid (SB.out.below bG)
  replace SD := Lib.hid (SD.out.below bG)
  clear bG
  go_wp2
  go_ret
  exact ⟨rfl, BL.out⟩
set_option maxRecDepth 100000 in
set_option maxHeartbeats 4000000 in
theorem phas_c0 (n : Nat) (x y c d ch : Int) (mL : Nat) (L : List Int) (a av : Option Addr) (m ca cv : Nat) (l v : List Int) (w : World) (h1 : SL w a m ca l) (h2 : SL w av n cv v) (hn8 : n ≤ 8) (g1 : ¬ 200 < m) (z1 : IsZ n l) (hr : rightB 5 x y c d n = true) (hh : hasB n l v = true) (hD : ∀ W, SL W av n cv v → Calls Tryz.prog 12 #[.agg #[.int .i64 5, .int .i64 x, .int .i64 y, .int .i64 c, .int .i64 d], .slice av n cv, .int .i64 ch] W (DoS 0 mL L W)) (hB : hasB n (faultL n l 5 x y c) v = false) (hA : hasB n (postL n l 5 x y c d) v = true) : Calls Tryz.prog 3 #[.agg #[.int .i64 n, .slice a m ca], .agg #[.int .i64 5, .int .i64 x, .int .i64 y, .int .i64 c, .int .i64 d], .slice av n cv, .int .i64 ch] w (Gives (.bool true) w) := by
  have hck : Hid (pchk n l 5 x y c d = 0) := Lib.hid (by unfold pchk; rw [z1.check, hr]; simp)
  have hhas := Lib.hid hh
  have hXP := postL_isz z1 5 x y c d
  have hXF := faultL_isz z1 5 x y c
  have qA := Lib.hid (fun W hs => (post_ok n 5 x y c d l z1 hr a m ca W hs).mono (fun e w' h => zoneE_len' hXP.small h))
  have qB := Lib.hid (fun W hs => (fault_ok n 5 x y c d l z1 hr a m ca W hs).mono (fun e w' h => zoneE_len' hXF.small h))
  have qD := Lib.hid hD
  have qHb := Lib.hid (fun W a2 m2 c2 (hs2 : SL W a2 m2 c2 (faultL n l 5 x y c)) (hs : SL W av n cv v) => has_any n a2 m2 c2 _ av n cv v W hs2 hs)
  rw [hB] at qHb
  have p2 : ¬ (20 : Int) < (n : Int) := by omega
  have qHa := Lib.hid (fun W a2 m2 c2 (hs2 : SL W a2 m2 c2 (postL n l 5 x y c d)) (hs : SL W av n cv v) => has_any n a2 m2 c2 _ av n cv v W hs2 hs)
  rw [hA] at qHa
  clear z1 hr hh hXP hXF hD hB hA
  generalize postL n l 5 x y c d = P at *
  generalize faultL n l 5 x y c = R at *
  obtain ⟨W1, hW1⟩ : ∃ W1, W1 = (w.alloc (.cells #[.int .i64 n, .slice a m ca] 24)).alloc (.cells #[.int .i64 5, .int .i64 x, .int .i64 y, .int .i64 c, .int .i64 d] 26) := ⟨_, rfl⟩
  have Z1 : Hid (Holds W1 (w.heap.size) 24 #[.int .i64 n, .slice a m ca]) := Lib.hid (by rw [hW1]; exact (Holds.new w _ _).alloc _)
  have Zs : Hid (Holds W1 (w.heap.size + 1) 26 #[.int .i64 5, .int .i64 x, .int .i64 y, .int .i64 c, .int .i64 d]) := Lib.hid (by rw [hW1]; have q := Holds.new (w.alloc (.cells #[.int .i64 n, .slice a m ca] 24)) 26 #[.int .i64 5, .int .i64 x, .int .i64 y, .int .i64 c, .int .i64 d]; simpa using q)
  have BL := Lib.hid (show Below w.heap.size w W1 by rw [hW1]; exact (box_below _ _ _).alloc (by simp) _)
  have S1 := Lib.hid (h1.below BL.out)
  have S2 := Lib.hid (h2.below BL.out)
  have hW1' := Lib.hid hW1
  clear hW1
  clear h1 h2
  go_enter Tryz.func3, Tryz.ntmps3
  have k1 := Z1.out.cell 0
  have k2 := Z1.out.cell 1
  have k3 := Zs.out.cell 0
  have k4 := Zs.out.cell 1
  have k5 := Zs.out.cell 2
  have k6 := Zs.out.cell 3
  have k7 := Zs.out.cell 4
  have q := Lib.hid (by have := large_any a m ca S1.out.max W1; rwa [decide_eq_false (show ¬ (200 : Int) < (m : Int) by omega)] at this)
  go_wp2_with fail
  rw [← hW1'.out]
  with_reducible refine q.out.mono ?_
  rintro e u1 ⟨rfl, rfl⟩
  clear hW1'
  clear q
  have q := Lib.hid (by have := rchk_any n 5 x y c d l a m ca W1 S1.out; rwa [hck.out] at this)
  go_wp2_with fail
  with_reducible refine q.out.mono ?_
  rintro e u3 ⟨rfl, b3⟩
  clear k1 k2 k3 k4 k5 k6 k7
  clear q
  have k8 : u3.cell? ⟨w.heap.size, 0, none⟩ = some (.int .i64 n) := (Z1.out.below b3 Z1.out.lt).cell 0
  have k9 : u3.cell? ⟨w.heap.size, 1, none⟩ = some (.slice a m ca) := (Z1.out.below b3 Z1.out.lt).cell 1
  have k10 : u3.cell? ⟨w.heap.size + 1, 0, none⟩ = some (.int .i64 5) := (Zs.out.below b3 Zs.out.lt).cell 0
  have k11 : u3.cell? ⟨w.heap.size + 1, 1, none⟩ = some (.int .i64 x) := (Zs.out.below b3 Zs.out.lt).cell 1
  have k12 : u3.cell? ⟨w.heap.size + 1, 2, none⟩ = some (.int .i64 y) := (Zs.out.below b3 Zs.out.lt).cell 2
  have k13 : u3.cell? ⟨w.heap.size + 1, 3, none⟩ = some (.int .i64 c) := (Zs.out.below b3 Zs.out.lt).cell 3
  have k14 : u3.cell? ⟨w.heap.size + 1, 4, none⟩ = some (.int .i64 d) := (Zs.out.below b3 Zs.out.lt).cell 4
  replace Z1 := Lib.hid (Z1.out.below b3 Z1.out.lt)
  replace Zs := Lib.hid (Zs.out.below b3 Zs.out.lt)
  replace BL := Lib.hid (BL.out.trans (b3.mono BL.out.size))
  replace S1 := Lib.hid (S1.out.below b3)
  replace S2 := Lib.hid (S2.out.below b3)
  clear b3
  have q := Lib.hid (by have := has_any n a m ca l av _ cv v u3 S1.out S2.out; rwa [hhas.out] at this)
  go_wp2_with fail
  with_reducible refine q.out.mono ?_
  rintro e u4 ⟨rfl, b4⟩
  clear k8 k9 k10 k11 k12 k13 k14
  clear q
  have k15 : u4.cell? ⟨w.heap.size, 0, none⟩ = some (.int .i64 n) := (Z1.out.below b4 Z1.out.lt).cell 0
  have k16 : u4.cell? ⟨w.heap.size, 1, none⟩ = some (.slice a m ca) := (Z1.out.below b4 Z1.out.lt).cell 1
  have k17 : u4.cell? ⟨w.heap.size + 1, 0, none⟩ = some (.int .i64 5) := (Zs.out.below b4 Zs.out.lt).cell 0
  have k18 : u4.cell? ⟨w.heap.size + 1, 1, none⟩ = some (.int .i64 x) := (Zs.out.below b4 Zs.out.lt).cell 1
  have k19 : u4.cell? ⟨w.heap.size + 1, 2, none⟩ = some (.int .i64 y) := (Zs.out.below b4 Zs.out.lt).cell 2
  have k20 : u4.cell? ⟨w.heap.size + 1, 3, none⟩ = some (.int .i64 c) := (Zs.out.below b4 Zs.out.lt).cell 3
  have k21 : u4.cell? ⟨w.heap.size + 1, 4, none⟩ = some (.int .i64 d) := (Zs.out.below b4 Zs.out.lt).cell 4
  replace Z1 := Lib.hid (Z1.out.below b4 Z1.out.lt)
  replace Zs := Lib.hid (Zs.out.below b4 Zs.out.lt)
  replace BL := Lib.hid (BL.out.trans (b4.mono BL.out.size))
  replace S1 := Lib.hid (S1.out.below b4)
  replace S2 := Lib.hid (S2.out.below b4)
  clear b4
  have q := Lib.hid (qA.out _ S1.out)
  go_wp2_with fail
  with_reducible refine q.out.mono ?_
  rintro e uA ⟨aA, cA, rfl, sA, bA⟩
  clear k15 k16 k17 k18 k19 k20 k21
  clear q qA
  have k22 : uA.cell? ⟨w.heap.size, 0, none⟩ = some (.int .i64 n) := (Z1.out.below bA Z1.out.lt).cell 0
  have k23 : uA.cell? ⟨w.heap.size, 1, none⟩ = some (.slice a m ca) := (Z1.out.below bA Z1.out.lt).cell 1
  have k24 : w.heap.size < uA.heap.size := (Z1.out.below bA Z1.out.lt).lt
  have k25 : uA.cell? ⟨w.heap.size + 1, 0, none⟩ = some (.int .i64 5) := (Zs.out.below bA Zs.out.lt).cell 0
  have k26 : uA.cell? ⟨w.heap.size + 1, 1, none⟩ = some (.int .i64 x) := (Zs.out.below bA Zs.out.lt).cell 1
  have k27 : uA.cell? ⟨w.heap.size + 1, 2, none⟩ = some (.int .i64 y) := (Zs.out.below bA Zs.out.lt).cell 2
  have k28 : uA.cell? ⟨w.heap.size + 1, 3, none⟩ = some (.int .i64 c) := (Zs.out.below bA Zs.out.lt).cell 3
  have k29 : uA.cell? ⟨w.heap.size + 1, 4, none⟩ = some (.int .i64 d) := (Zs.out.below bA Zs.out.lt).cell 4
  have k30 : w.heap.size + 1 < uA.heap.size := (Zs.out.below bA Zs.out.lt).lt
  have B0 := box_below uA #[.int .i64 n, .slice aA P.length cA] 24
  have B := bA.trans (B0.mono bA.size)
  replace Z1 := Lib.hid (Z1.out.below B Z1.out.lt)
  replace Zs := Lib.hid (Zs.out.below B Zs.out.lt)
  replace BL := Lib.hid (BL.out.trans (B.mono BL.out.size))
  replace S1 := Lib.hid (S1.out.below B)
  replace S2 := Lib.hid (S2.out.below B)
  have ZA := Lib.hid (Holds.new uA 24 #[.int .i64 n, .slice aA P.length cA])
  have SA := Lib.hid (sA.below B0)
  clear bA B B0 sA
  have q := Lib.hid (qB.out _ S1.out)
  go_wp2_with fail
  with_reducible refine q.out.mono ?_
  rintro e uB ⟨aB, cB, rfl, sB, bB⟩
  clear k22 k23 k24 k25 k26 k27 k28 k29 k30
  clear q qB
  have k31 : uB.cell? ⟨w.heap.size + 1, 0, none⟩ = some (.int .i64 5) := (Zs.out.below bB Zs.out.lt).cell 0
  have k32 : uB.cell? ⟨w.heap.size + 1, 1, none⟩ = some (.int .i64 x) := (Zs.out.below bB Zs.out.lt).cell 1
  have k33 : uB.cell? ⟨w.heap.size + 1, 2, none⟩ = some (.int .i64 y) := (Zs.out.below bB Zs.out.lt).cell 2
  have k34 : uB.cell? ⟨w.heap.size + 1, 3, none⟩ = some (.int .i64 c) := (Zs.out.below bB Zs.out.lt).cell 3
  have k35 : uB.cell? ⟨w.heap.size + 1, 4, none⟩ = some (.int .i64 d) := (Zs.out.below bB Zs.out.lt).cell 4
  have k36 : w.heap.size + 1 < uB.heap.size := (Zs.out.below bB Zs.out.lt).lt
  have B0 := box_below uB #[.int .i64 n, .slice aB R.length cB] 24
  have B := bB.trans (B0.mono bB.size)
  replace Z1 := Lib.hid (Z1.out.below B Z1.out.lt)
  replace Zs := Lib.hid (Zs.out.below B Zs.out.lt)
  replace ZA := Lib.hid (ZA.out.below B ZA.out.lt)
  replace BL := Lib.hid (BL.out.trans (B.mono BL.out.size))
  replace S1 := Lib.hid (S1.out.below B)
  replace S2 := Lib.hid (S2.out.below B)
  replace SA := Lib.hid (SA.out.below B)
  have ZB := Lib.hid (Holds.new uB 24 #[.int .i64 n, .slice aB R.length cB])
  have SB := Lib.hid (sB.below B0)
  clear bB B B0 sB
  have q := Lib.hid (qD.out _ S2.out)
  go_wp2_with fail
  with_reducible refine q.out.mono ?_
  rintro e uD ⟨aD, cD, rfl, sD, bD⟩
  clear k31 k32 k33 k34 k35 k36
  clear q qD
  replace Z1 := Lib.hid (Z1.out.below bD Z1.out.lt)
  replace Zs := Lib.hid (Zs.out.below bD Zs.out.lt)
  replace ZA := Lib.hid (ZA.out.below bD ZA.out.lt)
  replace ZB := Lib.hid (ZB.out.below bD ZB.out.lt)
  replace BL := Lib.hid (BL.out.trans (bD.mono BL.out.size))
  replace S1 := Lib.hid (S1.out.below bD)
  replace S2 := Lib.hid (S2.out.below bD)
  replace SA := Lib.hid (SA.out.below bD)
  replace SB := Lib.hid (SB.out.below bD)
  have SD := Lib.hid (sD)
  clear bD sD
  have q := Lib.hid (plives_any uD)
  go_wp2_with fail
  with_reducible refine q.out.mono ?_
  rintro e uL ⟨rfl, bL⟩
  clear q
  have k37 : uL.cell? ⟨uB.heap.size, 0, none⟩ = some (.int .i64 n) := (ZB.out.below bL ZB.out.lt).cell 0
  have k38 : uL.cell? ⟨uB.heap.size, 1, none⟩ = some (.slice aB R.length cB) := (ZB.out.below bL ZB.out.lt).cell 1
  replace Z1 := Lib.hid (Z1.out.below bL Z1.out.lt)
  replace Zs := Lib.hid (Zs.out.below bL Zs.out.lt)
  replace ZA := Lib.hid (ZA.out.below bL ZA.out.lt)
  replace ZB := Lib.hid (ZB.out.below bL ZB.out.lt)
  replace BL := Lib.hid (BL.out.trans (bL.mono BL.out.size))
  replace S1 := Lib.hid (S1.out.below bL)
  replace S2 := Lib.hid (S2.out.below bL)
  replace SA := Lib.hid (SA.out.below bL)
  replace SB := Lib.hid (SB.out.below bL)
  replace SD := Lib.hid (SD.out.below bL)
  clear bL
  have q := Lib.hid (qHb.out _ aB _ cB SB.out S2.out)
  go_wp2_with fail
  with_reducible refine q.out.mono ?_
  rintro e uH ⟨rfl, bH⟩
  clear k37 k38
  clear q qHb
  have k39 : uH.cell? ⟨w.heap.size + 1, 0, none⟩ = some (.int .i64 5) := (Zs.out.below bH Zs.out.lt).cell 0
  have k40 : uH.cell? ⟨w.heap.size + 1, 1, none⟩ = some (.int .i64 x) := (Zs.out.below bH Zs.out.lt).cell 1
  have k41 : uH.cell? ⟨w.heap.size + 1, 2, none⟩ = some (.int .i64 y) := (Zs.out.below bH Zs.out.lt).cell 2
  have k42 : uH.cell? ⟨w.heap.size + 1, 3, none⟩ = some (.int .i64 c) := (Zs.out.below bH Zs.out.lt).cell 3
  have k43 : uH.cell? ⟨w.heap.size + 1, 4, none⟩ = some (.int .i64 d) := (Zs.out.below bH Zs.out.lt).cell 4
  have k44 : uH.cell? ⟨uA.heap.size, 0, none⟩ = some (.int .i64 n) := (ZA.out.below bH ZA.out.lt).cell 0
  have k45 : uH.cell? ⟨uA.heap.size, 1, none⟩ = some (.slice aA P.length cA) := (ZA.out.below bH ZA.out.lt).cell 1
  replace Z1 := Lib.hid (Z1.out.below bH Z1.out.lt)
  replace Zs := Lib.hid (Zs.out.below bH Zs.out.lt)
  replace ZA := Lib.hid (ZA.out.below bH ZA.out.lt)
  replace ZB := Lib.hid (ZB.out.below bH ZB.out.lt)
  replace BL := Lib.hid (BL.out.trans (bH.mono BL.out.size))
  replace S1 := Lib.hid (S1.out.below bH)
  replace S2 := Lib.hid (S2.out.below bH)
  replace SA := Lib.hid (SA.out.below bH)
  replace SB := Lib.hid (SB.out.below bH)
  replace SD := Lib.hid (SD.out.below bH)
  clear bH
  have q := Lib.hid (qHa.out _ aA _ cA SA.out S2.out)
  go_wp2_with fail
  with_reducible refine q.out.mono ?_
  rintro e uG ⟨rfl, bG⟩
  clear k39 k40 k41 k42 k43 k44 k45
  clear q
  replace Z1 := Lib.hid (Z1.out.below bG Z1.out.lt)
  replace Zs := Lib.hid (Zs.out.below bG Zs.out.lt)
  replace ZA := Lib.hid (ZA.out.below bG ZA.out.lt)
  replace ZB := Lib.hid (ZB.out.below bG ZB.out.lt)
  replace BL := Lib.hid (BL.out.trans (bG.mono BL.out.size))
  replace S1 := Lib.hid (S1.out.below bG)
  replace S2 := Lib.hid (S2.out.below bG)
  replace SA := Lib.hid (SA.out.below bG)
  replace SB := Lib.hid (SB.out.below bG)
  replace SD := Lib.hid (SD.out.below bG)
  clear bG
  go_wp2
  go_ret
  exact ⟨rfl, BL.out⟩
set_option maxRecDepth 100000 in
set_option maxHeartbeats 4000000 in
theorem phas_c1 (n : Nat) (x y c d ch : Int) (mL : Nat) (L : List Int) (a av : Option Addr) (m ca cv : Nat) (l v : List Int) (w : World) (h1 : SL w a m ca l) (h2 : SL w av n cv v) (hn8 : n ≤ 8) (g1 : ¬ 200 < m) (z1 : IsZ n l) (hr : rightB 5 x y c d n = true) (hh : hasB n l v = true) (hD : ∀ W, SL W av n cv v → Calls Tryz.prog 12 #[.agg #[.int .i64 5, .int .i64 x, .int .i64 y, .int .i64 c, .int .i64 d], .slice av n cv, .int .i64 ch] W (DoS 131 mL L W)) (hB : hasB n (faultL n l 5 x y c) v = true) (hA : hasB n (postL n l 5 x y c d) v = false) : Calls Tryz.prog 3 #[.agg #[.int .i64 n, .slice a m ca], .agg #[.int .i64 5, .int .i64 x, .int .i64 y, .int .i64 c, .int .i64 d], .slice av n cv, .int .i64 ch] w (Gives (.bool true) w) := by
  have hck : Hid (pchk n l 5 x y c d = 0) := Lib.hid (by unfold pchk; rw [z1.check, hr]; simp)
  have hhas := Lib.hid hh
  have hXP := postL_isz z1 5 x y c d
  have hXF := faultL_isz z1 5 x y c
  have qA := Lib.hid (fun W hs => (post_ok n 5 x y c d l z1 hr a m ca W hs).mono (fun e w' h => zoneE_len' hXP.small h))
  have qB := Lib.hid (fun W hs => (fault_ok n 5 x y c d l z1 hr a m ca W hs).mono (fun e w' h => zoneE_len' hXF.small h))
  have qD := Lib.hid hD
  have qHb := Lib.hid (fun W a2 m2 c2 (hs2 : SL W a2 m2 c2 (faultL n l 5 x y c)) (hs : SL W av n cv v) => has_any n a2 m2 c2 _ av n cv v W hs2 hs)
  rw [hB] at qHb
  have p2 : ¬ (20 : Int) < (n : Int) := by omega
  have qHa := Lib.hid (fun W a2 m2 c2 (hs2 : SL W a2 m2 c2 (postL n l 5 x y c d)) (hs : SL W av n cv v) => has_any n a2 m2 c2 _ av n cv v W hs2 hs)
  rw [hA] at qHa
  clear z1 hr hh hXP hXF hD hB hA
  generalize postL n l 5 x y c d = P at *
  generalize faultL n l 5 x y c = R at *
  obtain ⟨W1, hW1⟩ : ∃ W1, W1 = (w.alloc (.cells #[.int .i64 n, .slice a m ca] 24)).alloc (.cells #[.int .i64 5, .int .i64 x, .int .i64 y, .int .i64 c, .int .i64 d] 26) := ⟨_, rfl⟩
  have Z1 : Hid (Holds W1 (w.heap.size) 24 #[.int .i64 n, .slice a m ca]) := Lib.hid (by rw [hW1]; exact (Holds.new w _ _).alloc _)
  have Zs : Hid (Holds W1 (w.heap.size + 1) 26 #[.int .i64 5, .int .i64 x, .int .i64 y, .int .i64 c, .int .i64 d]) := Lib.hid (by rw [hW1]; have q := Holds.new (w.alloc (.cells #[.int .i64 n, .slice a m ca] 24)) 26 #[.int .i64 5, .int .i64 x, .int .i64 y, .int .i64 c, .int .i64 d]; simpa using q)
  have BL := Lib.hid (show Below w.heap.size w W1 by rw [hW1]; exact (box_below _ _ _).alloc (by simp) _)
  have S1 := Lib.hid (h1.below BL.out)
  have S2 := Lib.hid (h2.below BL.out)
  have hW1' := Lib.hid hW1
  clear hW1
  clear h1 h2
  go_enter Tryz.func3, Tryz.ntmps3
  have k1 := Z1.out.cell 0
  have k2 := Z1.out.cell 1
  have k3 := Zs.out.cell 0
  have k4 := Zs.out.cell 1
  have k5 := Zs.out.cell 2
  have k6 := Zs.out.cell 3
  have k7 := Zs.out.cell 4
  have q := Lib.hid (by have := large_any a m ca S1.out.max W1; rwa [decide_eq_false (show ¬ (200 : Int) < (m : Int) by omega)] at this)
  go_wp2_with fail
  rw [← hW1'.out]
  with_reducible refine q.out.mono ?_
  rintro e u1 ⟨rfl, rfl⟩
  clear hW1'
  clear q
  have q := Lib.hid (by have := rchk_any n 5 x y c d l a m ca W1 S1.out; rwa [hck.out] at this)
  go_wp2_with fail
  with_reducible refine q.out.mono ?_
  rintro e u3 ⟨rfl, b3⟩
  clear k1 k2 k3 k4 k5 k6 k7
  clear q
  have k8 : u3.cell? ⟨w.heap.size, 0, none⟩ = some (.int .i64 n) := (Z1.out.below b3 Z1.out.lt).cell 0
  have k9 : u3.cell? ⟨w.heap.size, 1, none⟩ = some (.slice a m ca) := (Z1.out.below b3 Z1.out.lt).cell 1
  have k10 : u3.cell? ⟨w.heap.size + 1, 0, none⟩ = some (.int .i64 5) := (Zs.out.below b3 Zs.out.lt).cell 0
  have k11 : u3.cell? ⟨w.heap.size + 1, 1, none⟩ = some (.int .i64 x) := (Zs.out.below b3 Zs.out.lt).cell 1
  have k12 : u3.cell? ⟨w.heap.size + 1, 2, none⟩ = some (.int .i64 y) := (Zs.out.below b3 Zs.out.lt).cell 2
  have k13 : u3.cell? ⟨w.heap.size + 1, 3, none⟩ = some (.int .i64 c) := (Zs.out.below b3 Zs.out.lt).cell 3
  have k14 : u3.cell? ⟨w.heap.size + 1, 4, none⟩ = some (.int .i64 d) := (Zs.out.below b3 Zs.out.lt).cell 4
  replace Z1 := Lib.hid (Z1.out.below b3 Z1.out.lt)
  replace Zs := Lib.hid (Zs.out.below b3 Zs.out.lt)
  replace BL := Lib.hid (BL.out.trans (b3.mono BL.out.size))
  replace S1 := Lib.hid (S1.out.below b3)
  replace S2 := Lib.hid (S2.out.below b3)
  clear b3
  have q := Lib.hid (by have := has_any n a m ca l av _ cv v u3 S1.out S2.out; rwa [hhas.out] at this)
  go_wp2_with fail
  with_reducible refine q.out.mono ?_
  rintro e u4 ⟨rfl, b4⟩
  clear k8 k9 k10 k11 k12 k13 k14
  clear q
  have k15 : u4.cell? ⟨w.heap.size, 0, none⟩ = some (.int .i64 n) := (Z1.out.below b4 Z1.out.lt).cell 0
  have k16 : u4.cell? ⟨w.heap.size, 1, none⟩ = some (.slice a m ca) := (Z1.out.below b4 Z1.out.lt).cell 1
  have k17 : u4.cell? ⟨w.heap.size + 1, 0, none⟩ = some (.int .i64 5) := (Zs.out.below b4 Zs.out.lt).cell 0
  have k18 : u4.cell? ⟨w.heap.size + 1, 1, none⟩ = some (.int .i64 x) := (Zs.out.below b4 Zs.out.lt).cell 1
  have k19 : u4.cell? ⟨w.heap.size + 1, 2, none⟩ = some (.int .i64 y) := (Zs.out.below b4 Zs.out.lt).cell 2
  have k20 : u4.cell? ⟨w.heap.size + 1, 3, none⟩ = some (.int .i64 c) := (Zs.out.below b4 Zs.out.lt).cell 3
  have k21 : u4.cell? ⟨w.heap.size + 1, 4, none⟩ = some (.int .i64 d) := (Zs.out.below b4 Zs.out.lt).cell 4
  replace Z1 := Lib.hid (Z1.out.below b4 Z1.out.lt)
  replace Zs := Lib.hid (Zs.out.below b4 Zs.out.lt)
  replace BL := Lib.hid (BL.out.trans (b4.mono BL.out.size))
  replace S1 := Lib.hid (S1.out.below b4)
  replace S2 := Lib.hid (S2.out.below b4)
  clear b4
  have q := Lib.hid (qA.out _ S1.out)
  go_wp2_with fail
  with_reducible refine q.out.mono ?_
  rintro e uA ⟨aA, cA, rfl, sA, bA⟩
  clear k15 k16 k17 k18 k19 k20 k21
  clear q qA
  have k22 : uA.cell? ⟨w.heap.size, 0, none⟩ = some (.int .i64 n) := (Z1.out.below bA Z1.out.lt).cell 0
  have k23 : uA.cell? ⟨w.heap.size, 1, none⟩ = some (.slice a m ca) := (Z1.out.below bA Z1.out.lt).cell 1
  have k24 : w.heap.size < uA.heap.size := (Z1.out.below bA Z1.out.lt).lt
  have k25 : uA.cell? ⟨w.heap.size + 1, 0, none⟩ = some (.int .i64 5) := (Zs.out.below bA Zs.out.lt).cell 0
  have k26 : uA.cell? ⟨w.heap.size + 1, 1, none⟩ = some (.int .i64 x) := (Zs.out.below bA Zs.out.lt).cell 1
  have k27 : uA.cell? ⟨w.heap.size + 1, 2, none⟩ = some (.int .i64 y) := (Zs.out.below bA Zs.out.lt).cell 2
  have k28 : uA.cell? ⟨w.heap.size + 1, 3, none⟩ = some (.int .i64 c) := (Zs.out.below bA Zs.out.lt).cell 3
  have k29 : uA.cell? ⟨w.heap.size + 1, 4, none⟩ = some (.int .i64 d) := (Zs.out.below bA Zs.out.lt).cell 4
  have k30 : w.heap.size + 1 < uA.heap.size := (Zs.out.below bA Zs.out.lt).lt
  have B0 := box_below uA #[.int .i64 n, .slice aA P.length cA] 24
  have B := bA.trans (B0.mono bA.size)
  replace Z1 := Lib.hid (Z1.out.below B Z1.out.lt)
  replace Zs := Lib.hid (Zs.out.below B Zs.out.lt)
  replace BL := Lib.hid (BL.out.trans (B.mono BL.out.size))
  replace S1 := Lib.hid (S1.out.below B)
  replace S2 := Lib.hid (S2.out.below B)
  have ZA := Lib.hid (Holds.new uA 24 #[.int .i64 n, .slice aA P.length cA])
  have SA := Lib.hid (sA.below B0)
  clear bA B B0 sA
  have q := Lib.hid (qB.out _ S1.out)
  go_wp2_with fail
  with_reducible refine q.out.mono ?_
  rintro e uB ⟨aB, cB, rfl, sB, bB⟩
  clear k22 k23 k24 k25 k26 k27 k28 k29 k30
  clear q qB
  have k31 : uB.cell? ⟨w.heap.size + 1, 0, none⟩ = some (.int .i64 5) := (Zs.out.below bB Zs.out.lt).cell 0
  have k32 : uB.cell? ⟨w.heap.size + 1, 1, none⟩ = some (.int .i64 x) := (Zs.out.below bB Zs.out.lt).cell 1
  have k33 : uB.cell? ⟨w.heap.size + 1, 2, none⟩ = some (.int .i64 y) := (Zs.out.below bB Zs.out.lt).cell 2
  have k34 : uB.cell? ⟨w.heap.size + 1, 3, none⟩ = some (.int .i64 c) := (Zs.out.below bB Zs.out.lt).cell 3
  have k35 : uB.cell? ⟨w.heap.size + 1, 4, none⟩ = some (.int .i64 d) := (Zs.out.below bB Zs.out.lt).cell 4
  have k36 : w.heap.size + 1 < uB.heap.size := (Zs.out.below bB Zs.out.lt).lt
  have B0 := box_below uB #[.int .i64 n, .slice aB R.length cB] 24
  have B := bB.trans (B0.mono bB.size)
  replace Z1 := Lib.hid (Z1.out.below B Z1.out.lt)
  replace Zs := Lib.hid (Zs.out.below B Zs.out.lt)
  replace ZA := Lib.hid (ZA.out.below B ZA.out.lt)
  replace BL := Lib.hid (BL.out.trans (B.mono BL.out.size))
  replace S1 := Lib.hid (S1.out.below B)
  replace S2 := Lib.hid (S2.out.below B)
  replace SA := Lib.hid (SA.out.below B)
  have ZB := Lib.hid (Holds.new uB 24 #[.int .i64 n, .slice aB R.length cB])
  have SB := Lib.hid (sB.below B0)
  clear bB B B0 sB
  have q := Lib.hid (qD.out _ S2.out)
  go_wp2_with fail
  with_reducible refine q.out.mono ?_
  rintro e uD ⟨aD, cD, rfl, sD, bD⟩
  clear k31 k32 k33 k34 k35 k36
  clear q qD
  replace Z1 := Lib.hid (Z1.out.below bD Z1.out.lt)
  replace Zs := Lib.hid (Zs.out.below bD Zs.out.lt)
  replace ZA := Lib.hid (ZA.out.below bD ZA.out.lt)
  replace ZB := Lib.hid (ZB.out.below bD ZB.out.lt)
  replace BL := Lib.hid (BL.out.trans (bD.mono BL.out.size))
  replace S1 := Lib.hid (S1.out.below bD)
  replace S2 := Lib.hid (S2.out.below bD)
  replace SA := Lib.hid (SA.out.below bD)
  replace SB := Lib.hid (SB.out.below bD)
  have SD := Lib.hid (sD)
  clear bD sD
  have q := Lib.hid (plives_any uD)
  go_wp2_with fail
  with_reducible refine q.out.mono ?_
  rintro e uL ⟨rfl, bL⟩
  clear q
  have k37 : uL.cell? ⟨uB.heap.size, 0, none⟩ = some (.int .i64 n) := (ZB.out.below bL ZB.out.lt).cell 0
  have k38 : uL.cell? ⟨uB.heap.size, 1, none⟩ = some (.slice aB R.length cB) := (ZB.out.below bL ZB.out.lt).cell 1
  replace Z1 := Lib.hid (Z1.out.below bL Z1.out.lt)
  replace Zs := Lib.hid (Zs.out.below bL Zs.out.lt)
  replace ZA := Lib.hid (ZA.out.below bL ZA.out.lt)
  replace ZB := Lib.hid (ZB.out.below bL ZB.out.lt)
  replace BL := Lib.hid (BL.out.trans (bL.mono BL.out.size))
  replace S1 := Lib.hid (S1.out.below bL)
  replace S2 := Lib.hid (S2.out.below bL)
  replace SA := Lib.hid (SA.out.below bL)
  replace SB := Lib.hid (SB.out.below bL)
  replace SD := Lib.hid (SD.out.below bL)
  clear bL
  have q := Lib.hid (qHb.out _ aB _ cB SB.out S2.out)
  go_wp2_with fail
  with_reducible refine q.out.mono ?_
  rintro e uH ⟨rfl, bH⟩
  clear k37 k38
  clear q qHb
  have k39 : uH.cell? ⟨w.heap.size + 1, 0, none⟩ = some (.int .i64 5) := (Zs.out.below bH Zs.out.lt).cell 0
  have k40 : uH.cell? ⟨w.heap.size + 1, 1, none⟩ = some (.int .i64 x) := (Zs.out.below bH Zs.out.lt).cell 1
  have k41 : uH.cell? ⟨w.heap.size + 1, 2, none⟩ = some (.int .i64 y) := (Zs.out.below bH Zs.out.lt).cell 2
  have k42 : uH.cell? ⟨w.heap.size + 1, 3, none⟩ = some (.int .i64 c) := (Zs.out.below bH Zs.out.lt).cell 3
  have k43 : uH.cell? ⟨w.heap.size + 1, 4, none⟩ = some (.int .i64 d) := (Zs.out.below bH Zs.out.lt).cell 4
  have k44 : uH.cell? ⟨uA.heap.size, 0, none⟩ = some (.int .i64 n) := (ZA.out.below bH ZA.out.lt).cell 0
  have k45 : uH.cell? ⟨uA.heap.size, 1, none⟩ = some (.slice aA P.length cA) := (ZA.out.below bH ZA.out.lt).cell 1
  replace Z1 := Lib.hid (Z1.out.below bH Z1.out.lt)
  replace Zs := Lib.hid (Zs.out.below bH Zs.out.lt)
  replace ZA := Lib.hid (ZA.out.below bH ZA.out.lt)
  replace ZB := Lib.hid (ZB.out.below bH ZB.out.lt)
  replace BL := Lib.hid (BL.out.trans (bH.mono BL.out.size))
  replace S1 := Lib.hid (S1.out.below bH)
  replace S2 := Lib.hid (S2.out.below bH)
  replace SA := Lib.hid (SA.out.below bH)
  replace SB := Lib.hid (SB.out.below bH)
  replace SD := Lib.hid (SD.out.below bH)
  clear bH
  have q := Lib.hid (qHa.out _ aA _ cA SA.out S2.out)
  go_wp2_with fail
  with_reducible refine q.out.mono ?_
  rintro e uG ⟨rfl, bG⟩
  clear k39 k40 k41 k42 k43 k44 k45
  clear q
  replace Z1 := Lib.hid (Z1.out.below bG Z1.out.lt)
  replace Zs := Lib.hid (Zs.out.below bG Zs.out.lt)
  replace ZA := Lib.hid (ZA.out.below bG ZA.out.lt)
  replace ZB := Lib.hid (ZB.out.below bG ZB.out.lt)
  replace BL := Lib.hid (BL.out.trans (bG.mono BL.out.size))
  replace S1 := Lib.hid (S1.out.below bG)
  replace S2 := Lib.hid (S2.out.below bG)
  replace SA := Lib.hid (SA.out.below bG)
  replace SB := Lib.hid (SB.out.below bG)
  replace SD := Lib.hid (SD.out.below bG)
  clear bG
  go_wp2
  go_ret
  exact ⟨rfl, BL.out⟩
theorem phasB_none (n : Nat) (v : List Int) : hasB n [] v = false := by unfold hasB fullB; simp
theorem pvalF_in {v : List Int} {n : Nat} (hv : v.length = n) (hf : v.any farB = false) {i : Nat} (hi : i ≤ n) : -1099511627776 ≤ valF v i ∧ valF v i ≤ 1099511627776 := by
  by_cases h0 : i = 0
  · subst h0; rw [valF_zero]; omega
  · exact far_iff.1 hf i (by omega) (by omega)
theorem postHas_walk (w : World) (n : Int) (hn : (Lit.int .i64 n).wf = true) (a : Option Addr) (m ca : Nat) (l : List Int) (hl : l.length = m) (hm : m ≤ maxLen) (hc : m ≤ ca) (hw : ∀ n ∈ l, (Lit.int .i64 n).wf = true) (hs : Sees .i64 w.heap.size w a l) (k : Int) (hk : (Lit.int .i64 k).wf = true) (x : Int) (hx : (Lit.int .i64 x).wf = true) (y : Int) (hy : (Lit.int .i64 y).wf = true) (c : Int) (hcc : (Lit.int .i64 c).wf = true) (d : Int) (hd : (Lit.int .i64 d).wf = true)
    (av : Option Addr) (mv cv : Nat) (v : List Int) (hlv : v.length = mv) (hmv : mv ≤ maxLen) (hcv : mv ≤ cv) (hwv : ∀ n ∈ v, (Lit.int .i64 n).wf = true) (hsv : Sees .i64 w.heap.size w av v) (ch : Int) (hch : (Lit.int .i64 ch).wf = true) : Calls Tryz.prog 3 #[.agg #[.int .i64 n, .slice a m ca], .agg #[.int .i64 k, .int .i64 x, .int .i64 y, .int .i64 c, .int .i64 d], .slice av mv cv, .int .i64 ch] w (Gives (.bool true) w) := by
  have h1 : SL w a m ca l := ⟨hl.symm, hc, hm, hs⟩
  have h2 : SL w av mv cv v := ⟨hlv.symm, hcv, hmv, hsv⟩
  by_cases g1 : 200 < m
  · exact phas_g1 mv n k x y c d ch a av m ca cv l v w h1 h2 g1
  by_cases g2 : 20 < mv
  · exact phas_g2 mv n k x y c d ch a av m ca cv l v w h1 h2 g1 g2
  by_cases g3 : pchk n l k x y c d = 0
  rotate_left
  · exact phas_g3 mv n k x y c d ch a av m ca cv l v w h1 h2 g1 g2 g3
  cases g4 : hasB n l v
  · exact phas_g4 mv n k x y c d ch a av m ca cv l v w h1 h2 g1 g2 g3 g4
  obtain ⟨n, rfl, z1, hr⟩ := pchk_ok g3
  have hvn : v.length = n := by unfold hasB at g4; simp only [Bool.and_eq_true, decide_eq_true_eq] at g4; omega
  obtain rfl : mv = n := by omega
  have hH := (has_iff z1 hvn).1 g4
  have hin := fun {i : Nat} (hi : i ≤ mv) => pvalF_in hvn hH.2.1 hi
  have hW := way_of hr
  cases hW with
  | skip => exact phas_s0 mv 1 0 0 0 0 ch v a av m ca cv l v w h1 h2 z1.1 g1 z1 hr g4 (by decide) (by decide) (fun W hs => does_skip mv z1.1 v ch av cv W hs) (by unfold faultL; simpa using phasB_none mv v) (by unfold postL; simpa using g4)
  | set X Y c q1 q2 q3 q4 =>
    have hf := fact_let z1 hvn q1 q2 q3 g4 c
    have hb : hasB mv (faultL mv l 2 X Y c) v = false := by unfold faultL; simpa using phasB_none mv v
    cases hq : farB (valF v Y + c)
    · rw [hq] at hf
      exact phas_s0 mv 2 X Y c 0 ch _ a av m ca cv l v w h1 h2 z1.1 g1 z1 hr g4 (by decide) (by decide) (fun W hs => does_set_near mv z1.1 v X Y c ch q1 q2 q3 (isVal_in q4) (hin q3) hq av cv W hs) hb (by unfold postL; simpa using hf)
    · exact phas_s1 mv 2 X Y c 0 ch 0 [] a av m ca cv l v w h1 h2 z1.1 g1 z1 hr g4 (by decide) (by decide) (fun W hs => does_set_far mv z1.1 v X Y c ch q1 q2 q3 (isVal_in q4) (hin q3) hq av cv W hs) hb
  | pick X c d q1 q2 q3 q4 q5 =>
    have hb : hasB mv (faultL mv l 3 X 0 c) v = false := by unfold faultL; simpa using phasB_none mv v
    by_cases r1 : ch < c
    · exact phas_s1 mv 3 X 0 c d ch 0 [] a av m ca cv l v w h1 h2 z1.1 g1 z1 hr g4 (by decide) (by decide) (fun W hs => does_pick_lo mv z1.1 v X c d ch q1 q2 r1 av cv W hs) hb
    by_cases r2 : d < ch
    · exact phas_s1 mv 3 X 0 c d ch 0 [] a av m ca cv l v w h1 h2 z1.1 g1 z1 hr g4 (by decide) (by decide) (fun W hs => does_pick_hi mv z1.1 v X c d ch q1 q2 r1 r2 av cv W hs) hb
    have hc1 := isVal_in q3
    have hd1 := isVal_in q4
    have hL : (withL v X ch).length = mv := by rw [withL_len, hvn]
    have e1 := fact_forget z1 hvn q1 q2 g4 ch (by omega)
    have zf := forgetL_isz z1.1 l X
    have zl := limitL_isz z1.1 (forgetL mv l X) X 0 d
    have e2 := fact_limit zf hL q2 (Nat.zero_le mv) d
    have e3 := fact_limit zl hL (Nat.zero_le mv) q2 (-c)
    have v0 := valF_zero (withL v X ch)
    have vX : valF (withL v X ch) X = ch := by rw [withL_at q1 (by omega), if_pos rfl]
    rw [e1, vX, v0, Bool.true_and, decide_eq_true (by omega)] at e2
    rw [e2, vX, v0, Bool.true_and, decide_eq_true (by omega)] at e3
    exact phas_s0 mv 3 X 0 c d ch _ a av m ca cv l v w h1 h2 z1.1 g1 z1 hr g4 (by decide) (by decide) (fun W hs => does_pick_in mv z1.1 v X c d ch q1 q2 r1 r2 av cv W hs) hb (by unfold postL; simpa using e3)
  | limit X Y c q1 q2 q3 q4 =>
    have hb : hasB mv (faultL mv l 4 X Y c) v = false := by unfold faultL; simpa using phasB_none mv v
    have e1 := fact_limit z1 hvn q1 q2 c
    rw [g4, Bool.true_and] at e1
    by_cases r1 : c < valF v X - valF v Y
    · rw [decide_eq_false (by omega)] at e1
      exact phas_l1 mv X Y c 0 ch 0 [] a av m ca cv l v w h1 h2 z1.1 g1 z1 hr g4 (fun W hs => does_4_no mv z1.1 v X Y c ch q1 q2 (hin q2) (hin q1) r1 av cv W hs) hb (by unfold postL; simpa using e1)
    · rw [decide_eq_true (by omega)] at e1
      exact phas_l0 mv X Y c 0 ch mv v a av m ca cv l v w h1 h2 z1.1 g1 z1 hr g4 (fun W hs => does_4_ok mv z1.1 v X Y c ch q1 q2 (hin q2) (hin q1) r1 av cv W hs) hb (by unfold postL; simpa using e1)
  | check X Y c q1 q2 q3 q4 =>
    have e1 := fact_limit z1 hvn q1 q2 c
    rw [g4, Bool.true_and] at e1
    have e2 := fact_limit z1 hvn q2 q1 (-c - 1)
    rw [g4, Bool.true_and] at e2
    by_cases r1 : c < valF v X - valF v Y
    · rw [decide_eq_false (by omega)] at e1
      rw [decide_eq_true (by omega)] at e2
      exact phas_c1 mv X Y c 0 ch 0 [] a av m ca cv l v w h1 h2 z1.1 g1 z1 hr g4 (fun W hs => does_5_no mv z1.1 v X Y c ch q1 q2 (hin q2) (hin q1) r1 av cv W hs) (by unfold faultL; simpa using e2) (by unfold postL; simpa using e1)
    · rw [decide_eq_true (by omega)] at e1
      rw [decide_eq_false (by omega)] at e2
      exact phas_c0 mv X Y c 0 ch mv v a av m ca cv l v w h1 h2 z1.1 g1 z1 hr g4 (fun W hs => does_5_ok mv z1.1 v X Y c ch q1 q2 (hin q2) (hin q1) r1 av cv W hs) (by unfold faultL; simpa using e2) (by unfold postL; simpa using e1)
end Go.Proofs.YtplgmmjppmpnoaaGreatDoor
