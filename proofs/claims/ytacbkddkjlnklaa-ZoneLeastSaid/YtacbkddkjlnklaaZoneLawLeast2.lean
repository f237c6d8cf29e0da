/- ZoneLeast: the last cases, and the walk. (Written by gen-zone-least.py.) -/
import Derived.Test.YtacbkddkjlnklaaZoneLawLeast
namespace Go.Proofs.Ytacbkddkjlnklaa
open Go.RowKit
set_option linter.unusedVariables false
set_option linter.unusedSimpArgs false

set_option maxRecDepth 100000 in
set_option maxHeartbeats 4000000 in
theorem least_ff_tt (n : Nat) (a1 a2 a3 : Option Addr) (m1 m2 m3 c1 c2 c3 : Nat) (l1 l2 l3 : List Int) (w : World) (h1 : SL w a1 m1 c1 l1) (h2 : SL w a2 m2 c2 l2) (h3 : SL w a3 m3 c3 l3) (s1 : ¬ 200 < m1) (s2 : ¬ 200 < m2) (s3 : ¬ 200 < m3) (z1 : IsZ n l1) (z2 : IsZ n l2) (z3 : IsZ n l3) (hA : Full n l1) (hC : Full n l3) (hx : leqB l1 l3 = true) (hd : leqB l3 l1 = true) : Calls Try.prog 8 #[.agg #[.int .i64 n, .slice a1 m1 c1], .agg #[.int .i64 n, .slice a2 m2 c2], .agg #[.int .i64 n, .slice a3 m3 c3]] w (Gives (.bool true) w) := by
  have hm1 := len_pos hA.ne h1.len
  have p1 : (0 : Int) < (m1 : Int) := by omega
  have hm3 := len_pos hC.ne h3.len
  have p2 : ((m3 : Int) == 0) = false := by simp; omega
  have p3 : ¬ (m3 : Int) = 0 := by omega
  obtain ⟨W1, hW1⟩ : ∃ W1, W1 = ((w.alloc (.cells #[.int .i64 n, .slice a1 m1 c1] 24)).alloc (.cells #[.int .i64 n, .slice a2 m2 c2] 24)).alloc (.cells #[.int .i64 n, .slice a3 m3 c3] 24) := ⟨_, rfl⟩
  have X1 : T3 w W1 (.int .i64 n) (.slice a1 m1 c1) (.int .i64 n) (.slice a2 m2 c2) (.int .i64 n) (.slice a3 m3 c3) := by rw [hW1]; exact t3_new _ _ _ _ _ _ _
  have H1 := Lib.hid h1
  have H2 := Lib.hid h2
  have H3 := Lib.hid h3
  have X := Lib.hid X1
  have hW1' := Lib.hid hW1
  have k1 := X1.z1.cell 1
  have k3 := X1.z2.cell 1
  have k5 := X1.z3.cell 1
  have hl1 := Lib.hid (large_any a1 m1 c1 h1.max W1)
  have hl2 := Lib.hid (large_any a2 m2 c2 h2.max W1)
  have hl3 := Lib.hid (large_any a3 m3 c3 h3.max W1)
  have qt := Lib.hid (fun W (hW : Below w.heap.size w W) => rtwo_any n n a1 a2 m1 m2 c1 c2 l1 l2 W (H1.out.below hW) (H2.out.below hW))
  have qu := Lib.hid (fun W (hW : Below w.heap.size w W) => rtwo_any n n a1 a3 m1 m3 c1 c3 l1 l3 W (H1.out.below hW) (H3.out.below hW))
  rw [decide_eq_false (show ¬ (200 : Int) < (m1 : Int) by omega)] at hl1
  rw [decide_eq_false (show ¬ (200 : Int) < (m2 : Int) by omega)] at hl2
  rw [decide_eq_false (show ¬ (200 : Int) < (m3 : Int) by omega)] at hl3
  rw [z1.two z2] at qt
  rw [z1.two z3] at qu
  have hni : (n : Int) ≤ 8 := by have := z1.1; omega
  have e1 := joinL_small z1 z2
  have e2 := meetL_small z1 z2
  have zj := joinL_isz z1 z2
  have zm := meetL_isz z1 z2
  have qj := Lib.hid (fun W (hW : Below w.heap.size w W) => (zjoin_ok a1 a2 m1 m2 c1 c2 l1 l2 n z1 z2 W (H1.out.below hW) (H2.out.below hW)).mono (fun e w' h => ends_of (m := (joinL n l1 l2).length) rfl (by omega) h))
  have qm := Lib.hid (fun W (hW : Below w.heap.size w W) => (zmeet_ok a1 a2 m1 m2 c1 c2 l1 l2 n z1 z2 W (H1.out.below hW) (H2.out.below hW)).mono (fun e w' h => ends_of (m := (meetL n l1 l2).length) rfl (by omega) h))
  have r1 := Lib.hid (fun W (hW : Below w.heap.size w W) => zleq_ok a1 a3 m1 m3 c1 c3 l1 l3 n z1 z3 W (H1.out.below hW) (H3.out.below hW))
  rw [hx] at r1
  have r2 := Lib.hid (fun W (hW : Below w.heap.size w W) => zleq_ok a2 a3 m2 m3 c2 c3 l2 l3 n z2 z3 W (H2.out.below hW) (H3.out.below hW))
  have r3 := Lib.hid (fun W aj cj (hW : Below w.heap.size w W) (hJ : SL W aj (joinL n l1 l2).length cj (joinL n l1 l2)) => zleq_ok aj a3 (joinL n l1 l2).length m3 cj c3 (joinL n l1 l2) l3 n zj z3 W hJ (H3.out.below hW))
  rw [leq_join z1 z2 z3, hx, Bool.true_and] at r3
  have r4 := Lib.hid (fun W (hW : Below w.heap.size w W) => zleq_ok a3 a1 m3 m1 c3 c1 l3 l1 n z3 z1 W (H3.out.below hW) (H1.out.below hW))
  rw [hd] at r4
  have r5 := Lib.hid (fun W (hW : Below w.heap.size w W) => zleq_ok a3 a2 m3 m2 c3 c2 l3 l2 n z3 z2 W (H3.out.below hW) (H2.out.below hW))
  have r6 := Lib.hid (fun W am cm (hW : Below w.heap.size w W) (hM : SL W am (meetL n l1 l2).length cm (meetL n l1 l2)) => zleq_ok a3 am m3 (meetL n l1 l2).length c3 cm l3 (meetL n l1 l2) n z3 zm W (H3.out.below hW) hM)
  rw [leq_meet z1 z2 z3, hd, Bool.true_and] at r6
  have qp := Lib.hid (fun W (k : Nat) (hk : k ≤ n) (hW : Below w.heap.size w W) => (point_ok n a1 m1 c1 l1 k hk hA W (H1.out.below hW)).mono (R' := EndsP n (pointL n l1 k) W) (by rintro e w' ⟨a2, c2, rfl, hc2, hs, hb⟩; exact ⟨a2, c2, rfl, ⟨(point_len _ _ _).symm, hc2, by omega, hs⟩, hb⟩))
  have qh := Lib.hid (fun W (k : Nat) ap cp (hW : Below w.heap.size w W) (hP : SL W ap n cp (pointL n l1 k)) => has_any n a3 m3 c3 l3 ap n cp (pointL n l1 k) W (H3.out.below hW) hP)
  have hall := leq_points hA hC
  rw [hx] at hall
  obtain ⟨hh, hhe⟩ : ∃ hh : Nat → Bool, hh = fun k => hasB n l3 (pointL n l1 k) := ⟨_, rfl⟩
  have hend : Hid ((List.range (n + 1)).all hh = true) := Lib.hid (by rw [hhe]; exact hall.symm)
  have hq : Hid (∀ k, hasB n l3 (pointL n l1 k) = hh k) := Lib.hid (fun k => by rw [hhe])
  have hnx : Hid (∀ k, (List.range (k + 1)).all hh = ((List.range k).all hh && hh k)) := Lib.hid (fun k => by rw [List.range_succ, List.all_append]; simp)
  clear hall hhe
  clear hW1 X1 h1 h2 h3 z1 z2 z3 zj zm hx hd H1 H2 H3 hA hC hm1 hm3
  generalize hmj : (joinL n l1 l2).length = mj at *
  generalize hmm : (meetL n l1 l2).length = mm at *
  clear hmj hmm
  generalize joinL n l1 l2 = J at *
  generalize meetL n l1 l2 = M at *
  generalize leqB l2 l3 = y at *
  generalize leqB l3 l2 = ee at *
  go_enter Try.func8, Try.ntmps8
  go_wp2_with fail
  rw [← hW1'.out]
  refine hl1.out.mono ?_
  rintro e w1 ⟨rfl, rfl⟩
  go_wp2_with fail
  refine hl2.out.mono ?_
  rintro e w1 ⟨rfl, rfl⟩
  go_wp2_with fail
  refine hl3.out.mono ?_
  rintro e w1 ⟨rfl, rfl⟩
  clear hl1 hl2 hl3 hW1'
  have k0 := X.out.z1.cell 0
  have k2 := X.out.z2.cell 0
  have k4 := X.out.z3.cell 0
  have q := Lib.hid (qt.out _ X.out.bl)
  go_wp2_with fail
  refine q.out.mono ?_
  rintro e w2 ⟨rfl, b⟩
  replace X := Lib.hid (X.out.on b)
  clear k0 k1 k2 k3 k4 k5 q b qt
  have k1 := X.out.z1.cell 1
  have k3 := X.out.z2.cell 1
  have k5 := X.out.z3.cell 1
  have k0 := X.out.z1.cell 0
  have k2 := X.out.z2.cell 0
  have k4 := X.out.z3.cell 0
  have q := Lib.hid (qu.out _ X.out.bl)
  go_wp2_with fail
  refine q.out.mono ?_
  rintro e w3 ⟨rfl, b⟩
  replace X := Lib.hid (X.out.on b)
  clear k0 k1 k2 k3 k4 k5 q b qu
  have k1 := X.out.z1.cell 1
  have k3 := X.out.z2.cell 1
  have k5 := X.out.z3.cell 1
  have k0 := X.out.z1.cell 0
  have k2 := X.out.z2.cell 0
  have k4 := X.out.z3.cell 0
  have q := Lib.hid (qj.out _ X.out.bl)
  go_wp2_with fail
  refine q.out.mono ?_
  rintro e w4 ⟨a4x, c4x, rfl, s4, b4⟩
  clear k0 k1 k2 k3 k4 k5 q qj
  have k0 : w4.cell? ⟨w.heap.size, 0, none⟩ = some (.int .i64 n) := (X.out.z1.below b4 X.out.z1.lt).cell 0
  have k1 : w4.cell? ⟨w.heap.size, 1, none⟩ = some (.slice a1 m1 c1) := (X.out.z1.below b4 X.out.z1.lt).cell 1
  have k2 : w4.cell? ⟨w.heap.size + 1, 0, none⟩ = some (.int .i64 n) := (X.out.z2.below b4 X.out.z2.lt).cell 0
  have k3 : w4.cell? ⟨w.heap.size + 1, 1, none⟩ = some (.slice a2 m2 c2) := (X.out.z2.below b4 X.out.z2.lt).cell 1
  have k4 : w4.cell? ⟨w.heap.size + 1 + 1, 0, none⟩ = some (.int .i64 n) := (X.out.z3.below b4 X.out.z3.lt).cell 0
  have k5 : w4.cell? ⟨w.heap.size + 1 + 1, 1, none⟩ = some (.slice a3 m3 c3) := (X.out.z3.below b4 X.out.z3.lt).cell 1
  have k6 : w.heap.size < w4.heap.size := (X.out.z1.below b4 X.out.z1.lt).lt
  have k7 : w.heap.size + 1 < w4.heap.size := (X.out.z2.below b4 X.out.z2.lt).lt
  have k8 : w.heap.size + 1 + 1 < w4.heap.size := (X.out.z3.below b4 X.out.z3.lt).lt
  have B4 := b4.trans ((box_below w4 #[.int .i64 n, .slice a4x mj c4x] 24).mono b4.size)
  replace X := Lib.hid (X.out.on B4)
  have Zj := Lib.hid (Holds.new w4 24 #[.int .i64 n, .slice a4x mj c4x])
  have Sj := Lib.hid (s4.below (box_below w4 #[.int .i64 n, .slice a4x mj c4x] 24))
  clear b4 s4 B4
  have q := Lib.hid (qm.out _ X.out.bl)
  go_wp2_with fail
  refine q.out.mono ?_
  rintro e w5 ⟨a5x, c5x, rfl, s5, b5⟩
  clear k0 k1 k2 k3 k4 k5 k6 k7 k8 q qm
  have k0 : w5.cell? ⟨w.heap.size, 0, none⟩ = some (.int .i64 n) := (X.out.z1.below b5 X.out.z1.lt).cell 0
  have k1 : w5.cell? ⟨w.heap.size, 1, none⟩ = some (.slice a1 m1 c1) := (X.out.z1.below b5 X.out.z1.lt).cell 1
  have k2 : w5.cell? ⟨w.heap.size + 1, 0, none⟩ = some (.int .i64 n) := (X.out.z2.below b5 X.out.z2.lt).cell 0
  have k3 : w5.cell? ⟨w.heap.size + 1, 1, none⟩ = some (.slice a2 m2 c2) := (X.out.z2.below b5 X.out.z2.lt).cell 1
  have k4 : w5.cell? ⟨w.heap.size + 1 + 1, 0, none⟩ = some (.int .i64 n) := (X.out.z3.below b5 X.out.z3.lt).cell 0
  have k5 : w5.cell? ⟨w.heap.size + 1 + 1, 1, none⟩ = some (.slice a3 m3 c3) := (X.out.z3.below b5 X.out.z3.lt).cell 1
  have k6 : w.heap.size < w5.heap.size := (X.out.z1.below b5 X.out.z1.lt).lt
  have k7 : w.heap.size + 1 < w5.heap.size := (X.out.z2.below b5 X.out.z2.lt).lt
  have k8 : w.heap.size + 1 + 1 < w5.heap.size := (X.out.z3.below b5 X.out.z3.lt).lt
  have B5 := b5.trans ((box_below w5 #[.int .i64 n, .slice a5x mm c5x] 24).mono b5.size)
  replace X := Lib.hid (X.out.on B5)
  replace Zj := Lib.hid (Zj.out.below B5 Zj.out.lt)
  replace Sj := Lib.hid (Sj.out.below B5)
  have Zm := Lib.hid (Holds.new w5 24 #[.int .i64 n, .slice a5x mm c5x])
  have Sm := Lib.hid (s5.below (box_below w5 #[.int .i64 n, .slice a5x mm c5x] 24))
  clear b5 s5 B5
  have q := Lib.hid (r1.out _ X.out.bl)
  go_wp2_with fail
  refine q.out.mono ?_
  rintro e w6 ⟨rfl, b⟩
  replace X := Lib.hid (X.out.on b)
  replace Zj := Lib.hid (Zj.out.below b Zj.out.lt)
  replace Sj := Lib.hid (Sj.out.below b)
  replace Zm := Lib.hid (Zm.out.below b Zm.out.lt)
  replace Sm := Lib.hid (Sm.out.below b)
  clear k0 k1 k2 k3 k4 k5 k6 k7 k8 r1 q b
  have k0 := X.out.z1.cell 0
  have k1 := X.out.z1.cell 1
  have k2 := X.out.z2.cell 0
  have k3 := X.out.z2.cell 1
  have k4 := X.out.z3.cell 0
  have k5 := X.out.z3.cell 1
  have j0 := Zj.out.cell 0
  have j1 := Zj.out.cell 1
  have n0 := Zm.out.cell 0
  have n1 := Zm.out.cell 1
  have q := Lib.hid (r2.out _ X.out.bl)
  go_wp2_with fail
  refine q.out.mono ?_
  rintro e w7 ⟨rfl, b⟩
  replace X := Lib.hid (X.out.on b)
  replace Zj := Lib.hid (Zj.out.below b Zj.out.lt)
  replace Sj := Lib.hid (Sj.out.below b)
  replace Zm := Lib.hid (Zm.out.below b Zm.out.lt)
  replace Sm := Lib.hid (Sm.out.below b)
  clear k0 k1 k2 k3 k4 k5 j0 j1 n0 n1 r2 q b
  have k0 := X.out.z1.cell 0
  have k1 := X.out.z1.cell 1
  have k2 := X.out.z2.cell 0
  have k3 := X.out.z2.cell 1
  have k4 := X.out.z3.cell 0
  have k5 := X.out.z3.cell 1
  have j0 := Zj.out.cell 0
  have j1 := Zj.out.cell 1
  have n0 := Zm.out.cell 0
  have n1 := Zm.out.cell 1
  have q := Lib.hid (r3.out _ a4x c4x X.out.bl Sj.out)
  go_wp2_with fail
  refine q.out.mono ?_
  rintro e w8 ⟨rfl, b⟩
  replace X := Lib.hid (X.out.on b)
  replace Zj := Lib.hid (Zj.out.below b Zj.out.lt)
  replace Sj := Lib.hid (Sj.out.below b)
  replace Zm := Lib.hid (Zm.out.below b Zm.out.lt)
  replace Sm := Lib.hid (Sm.out.below b)
  clear k0 k1 k2 k3 k4 k5 j0 j1 n0 n1 r3 q b
  have k0 := X.out.z1.cell 0
  have k1 := X.out.z1.cell 1
  have k2 := X.out.z2.cell 0
  have k3 := X.out.z2.cell 1
  have k4 := X.out.z3.cell 0
  have k5 := X.out.z3.cell 1
  have j0 := Zj.out.cell 0
  have j1 := Zj.out.cell 1
  have n0 := Zm.out.cell 0
  have n1 := Zm.out.cell 1
  have q := Lib.hid (r4.out _ X.out.bl)
  go_wp2_with fail
  refine q.out.mono ?_
  rintro e w9 ⟨rfl, b⟩
  replace X := Lib.hid (X.out.on b)
  replace Zj := Lib.hid (Zj.out.below b Zj.out.lt)
  replace Sj := Lib.hid (Sj.out.below b)
  replace Zm := Lib.hid (Zm.out.below b Zm.out.lt)
  replace Sm := Lib.hid (Sm.out.below b)
  clear k0 k1 k2 k3 k4 k5 j0 j1 n0 n1 r4 q b
  have k0 := X.out.z1.cell 0
  have k1 := X.out.z1.cell 1
  have k2 := X.out.z2.cell 0
  have k3 := X.out.z2.cell 1
  have k4 := X.out.z3.cell 0
  have k5 := X.out.z3.cell 1
  have j0 := Zj.out.cell 0
  have j1 := Zj.out.cell 1
  have n0 := Zm.out.cell 0
  have n1 := Zm.out.cell 1
  have q := Lib.hid (r5.out _ X.out.bl)
  go_wp2_with fail
  refine q.out.mono ?_
  rintro e w10 ⟨rfl, b⟩
  replace X := Lib.hid (X.out.on b)
  replace Zj := Lib.hid (Zj.out.below b Zj.out.lt)
  replace Sj := Lib.hid (Sj.out.below b)
  replace Zm := Lib.hid (Zm.out.below b Zm.out.lt)
  replace Sm := Lib.hid (Sm.out.below b)
  clear k0 k1 k2 k3 k4 k5 j0 j1 n0 n1 r5 q b
  have k0 := X.out.z1.cell 0
  have k1 := X.out.z1.cell 1
  have k2 := X.out.z2.cell 0
  have k3 := X.out.z2.cell 1
  have k4 := X.out.z3.cell 0
  have k5 := X.out.z3.cell 1
  have j0 := Zj.out.cell 0
  have j1 := Zj.out.cell 1
  have n0 := Zm.out.cell 0
  have n1 := Zm.out.cell 1
  have q := Lib.hid (r6.out _ a5x c5x X.out.bl Sm.out)
  go_wp2_with fail
  refine q.out.mono ?_
  rintro e w11 ⟨rfl, b⟩
  replace X := Lib.hid (X.out.on b)
  replace Zj := Lib.hid (Zj.out.below b Zj.out.lt)
  replace Sj := Lib.hid (Sj.out.below b)
  replace Zm := Lib.hid (Zm.out.below b Zm.out.lt)
  replace Sm := Lib.hid (Sm.out.below b)
  clear k0 k1 k2 k3 k4 k5 j0 j1 n0 n1 r6 q b
  clear Zj Sj Zm Sm
  have hlv := Lib.hid (zlivesAt w _ X.out.bl)
  go_wp2_with fail
  refine hlv.out.mono ?_
  rintro e w12 ⟨rfl, b, -⟩
  replace X := Lib.hid (X.out.on b)
  clear b hlv
  have k0 := X.out.z1.cell 0
  have k1 := X.out.z1.cell 1
  have k5 := X.out.z3.cell 1
  go_wp2
  go_loopw [23, 24] (fun o x wr => ∃ k : Nat, k ≤ n + 1 ∧ x = .int .i64 k ∧ o = .bool (!(List.range k).all hh) ∧ Hid (T3 w wr (.int .i64 n) (.slice a1 m1 c1) (.int .i64 n) (.slice a2 m2 c2) (.int .i64 n) (.slice a3 m3 c3))) (fun _ x _ => n + 1 - (intOf x).toNat)
  case atStart => exact ⟨0, by omega, rfl, rfl, X⟩
  case round =>
    clear k0 k1 k5
    obtain ⟨k, hk, rfl, rfl, Y⟩ := hrel
    have k0 := Y.out.z1.cell 0
    have k1 := Y.out.z1.cell 1
    have k4 := Y.out.z3.cell 0
    have k5 := Y.out.z3.cell 1
    by_cases hlt : k < n + 1
    · have hki : (k : Int) ≤ (n : Int) := by omega
      have q := Lib.hid (qp.out wr k (by omega) Y.out.bl)
      have hnk := Lib.hid (hnx.out k)
      cases hak : (List.range k).all hh
      · have hnk2 : Hid ((List.range (k + 1)).all hh = false) := Lib.hid (by rw [hnk.out, hak, Bool.false_and])
        clear hnk hak
        rw [Bool.not_false]
        go_wp2_with fail
        refine q.out.mono ?_
        rintro e v1 ⟨ap, cp, rfl, sp, b⟩
        have Y1 := Lib.hid (Y.out.on b)
        clear b q k0 k1 k4 k5 Y sp
        go_wp2
        go_roundw
        case rel => exact ⟨k + 1, by omega, by go_num, by rw [hnk2.out]; rfl, Y1⟩
        case measure => simp [intOf]; omega
      · have hnk2 : Hid ((List.range (k + 1)).all hh = hh k) := Lib.hid (by rw [hnk.out, hak, Bool.true_and])
        clear hnk hak
        rw [Bool.not_true]
        go_wp2_with fail
        refine q.out.mono ?_
        rintro e v1 ⟨ap, cp, rfl, sp, b⟩
        have Y1 := Lib.hid (Y.out.on b)
        have q2 := Lib.hid (qh.out v1 k ap cp Y1.out.bl sp)
        rw [hq.out k] at q2
        generalize hh k = u at *
        clear b q k0 k1 k4 k5 Y sp
        have k4 := Y1.out.z3.cell 0
        have k5 := Y1.out.z3.cell 1
        go_wp2_with fail
        refine q2.out.mono ?_
        rintro e v2 ⟨rfl, b⟩
        have Y2 := Lib.hid (Y1.out.on b)
        clear b q2 k4 k5 Y1
        go_wp2
        go_roundw
        case rel => exact ⟨k + 1, by omega, by go_num, by rw [hnk2.out], Y2⟩
        case measure => simp [intOf]; omega
    · have hke : k = n + 1 := by omega
      have he : (List.range k).all hh = true := by rw [hke]; exact hend.out
      rw [he]
      go_wp2
      go_ret
      exact ⟨rfl, Y.out.bl⟩
set_option maxRecDepth 100000 in
set_option maxHeartbeats 4000000 in
theorem least_ff_tf (n : Nat) (a1 a2 a3 : Option Addr) (m1 m2 m3 c1 c2 c3 : Nat) (l1 l2 l3 : List Int) (w : World) (h1 : SL w a1 m1 c1 l1) (h2 : SL w a2 m2 c2 l2) (h3 : SL w a3 m3 c3 l3) (s1 : ¬ 200 < m1) (s2 : ¬ 200 < m2) (s3 : ¬ 200 < m3) (z1 : IsZ n l1) (z2 : IsZ n l2) (z3 : IsZ n l3) (hA : Full n l1) (hC : Full n l3) (hx : leqB l1 l3 = true) (hd : leqB l3 l1 = false) : Calls Try.prog 8 #[.agg #[.int .i64 n, .slice a1 m1 c1], .agg #[.int .i64 n, .slice a2 m2 c2], .agg #[.int .i64 n, .slice a3 m3 c3]] w (Gives (.bool true) w) := by
  have hm1 := len_pos hA.ne h1.len
  have p1 : (0 : Int) < (m1 : Int) := by omega
  have hm3 := len_pos hC.ne h3.len
  have p2 : ((m3 : Int) == 0) = false := by simp; omega
  have p3 : ¬ (m3 : Int) = 0 := by omega
  obtain ⟨W1, hW1⟩ : ∃ W1, W1 = ((w.alloc (.cells #[.int .i64 n, .slice a1 m1 c1] 24)).alloc (.cells #[.int .i64 n, .slice a2 m2 c2] 24)).alloc (.cells #[.int .i64 n, .slice a3 m3 c3] 24) := ⟨_, rfl⟩
  have X1 : T3 w W1 (.int .i64 n) (.slice a1 m1 c1) (.int .i64 n) (.slice a2 m2 c2) (.int .i64 n) (.slice a3 m3 c3) := by rw [hW1]; exact t3_new _ _ _ _ _ _ _
  have H1 := Lib.hid h1
  have H2 := Lib.hid h2
  have H3 := Lib.hid h3
  have X := Lib.hid X1
  have hW1' := Lib.hid hW1
  have k1 := X1.z1.cell 1
  have k3 := X1.z2.cell 1
  have k5 := X1.z3.cell 1
  have hl1 := Lib.hid (large_any a1 m1 c1 h1.max W1)
  have hl2 := Lib.hid (large_any a2 m2 c2 h2.max W1)
  have hl3 := Lib.hid (large_any a3 m3 c3 h3.max W1)
  have qt := Lib.hid (fun W (hW : Below w.heap.size w W) => rtwo_any n n a1 a2 m1 m2 c1 c2 l1 l2 W (H1.out.below hW) (H2.out.below hW))
  have qu := Lib.hid (fun W (hW : Below w.heap.size w W) => rtwo_any n n a1 a3 m1 m3 c1 c3 l1 l3 W (H1.out.below hW) (H3.out.below hW))
  rw [decide_eq_false (show ¬ (200 : Int) < (m1 : Int) by omega)] at hl1
  rw [decide_eq_false (show ¬ (200 : Int) < (m2 : Int) by omega)] at hl2
  rw [decide_eq_false (show ¬ (200 : Int) < (m3 : Int) by omega)] at hl3
  rw [z1.two z2] at qt
  rw [z1.two z3] at qu
  have hni : (n : Int) ≤ 8 := by have := z1.1; omega
  have e1 := joinL_small z1 z2
  have e2 := meetL_small z1 z2
  have zj := joinL_isz z1 z2
  have zm := meetL_isz z1 z2
  have qj := Lib.hid (fun W (hW : Below w.heap.size w W) => (zjoin_ok a1 a2 m1 m2 c1 c2 l1 l2 n z1 z2 W (H1.out.below hW) (H2.out.below hW)).mono (fun e w' h => ends_of (m := (joinL n l1 l2).length) rfl (by omega) h))
  have qm := Lib.hid (fun W (hW : Below w.heap.size w W) => (zmeet_ok a1 a2 m1 m2 c1 c2 l1 l2 n z1 z2 W (H1.out.below hW) (H2.out.below hW)).mono (fun e w' h => ends_of (m := (meetL n l1 l2).length) rfl (by omega) h))
  have r1 := Lib.hid (fun W (hW : Below w.heap.size w W) => zleq_ok a1 a3 m1 m3 c1 c3 l1 l3 n z1 z3 W (H1.out.below hW) (H3.out.below hW))
  rw [hx] at r1
  have r2 := Lib.hid (fun W (hW : Below w.heap.size w W) => zleq_ok a2 a3 m2 m3 c2 c3 l2 l3 n z2 z3 W (H2.out.below hW) (H3.out.below hW))
  have r3 := Lib.hid (fun W aj cj (hW : Below w.heap.size w W) (hJ : SL W aj (joinL n l1 l2).length cj (joinL n l1 l2)) => zleq_ok aj a3 (joinL n l1 l2).length m3 cj c3 (joinL n l1 l2) l3 n zj z3 W hJ (H3.out.below hW))
  rw [leq_join z1 z2 z3, hx, Bool.true_and] at r3
  have r4 := Lib.hid (fun W (hW : Below w.heap.size w W) => zleq_ok a3 a1 m3 m1 c3 c1 l3 l1 n z3 z1 W (H3.out.below hW) (H1.out.below hW))
  rw [hd] at r4
  have r5 := Lib.hid (fun W (hW : Below w.heap.size w W) => zleq_ok a3 a2 m3 m2 c3 c2 l3 l2 n z3 z2 W (H3.out.below hW) (H2.out.below hW))
  have r6 := Lib.hid (fun W am cm (hW : Below w.heap.size w W) (hM : SL W am (meetL n l1 l2).length cm (meetL n l1 l2)) => zleq_ok a3 am m3 (meetL n l1 l2).length c3 cm l3 (meetL n l1 l2) n z3 zm W (H3.out.below hW) hM)
  rw [leq_meet z1 z2 z3, hd, Bool.false_and] at r6
  have qp := Lib.hid (fun W (k : Nat) (hk : k ≤ n) (hW : Below w.heap.size w W) => (point_ok n a1 m1 c1 l1 k hk hA W (H1.out.below hW)).mono (R' := EndsP n (pointL n l1 k) W) (by rintro e w' ⟨a2, c2, rfl, hc2, hs, hb⟩; exact ⟨a2, c2, rfl, ⟨(point_len _ _ _).symm, hc2, by omega, hs⟩, hb⟩))
  have qh := Lib.hid (fun W (k : Nat) ap cp (hW : Below w.heap.size w W) (hP : SL W ap n cp (pointL n l1 k)) => has_any n a3 m3 c3 l3 ap n cp (pointL n l1 k) W (H3.out.below hW) hP)
  have hall := leq_points hA hC
  rw [hx] at hall
  obtain ⟨hh, hhe⟩ : ∃ hh : Nat → Bool, hh = fun k => hasB n l3 (pointL n l1 k) := ⟨_, rfl⟩
  have hend : Hid ((List.range (n + 1)).all hh = true) := Lib.hid (by rw [hhe]; exact hall.symm)
  have hq : Hid (∀ k, hasB n l3 (pointL n l1 k) = hh k) := Lib.hid (fun k => by rw [hhe])
  have hnx : Hid (∀ k, (List.range (k + 1)).all hh = ((List.range k).all hh && hh k)) := Lib.hid (fun k => by rw [List.range_succ, List.all_append]; simp)
  clear hall hhe
  clear hW1 X1 h1 h2 h3 z1 z2 z3 zj zm hx hd H1 H2 H3 hA hC hm1 hm3
  generalize hmj : (joinL n l1 l2).length = mj at *
  generalize hmm : (meetL n l1 l2).length = mm at *
  clear hmj hmm
  generalize joinL n l1 l2 = J at *
  generalize meetL n l1 l2 = M at *
  generalize leqB l2 l3 = y at *
  generalize leqB l3 l2 = ee at *
  go_enter Try.func8, Try.ntmps8
  go_wp2_with fail
  rw [← hW1'.out]
  refine hl1.out.mono ?_
  rintro e w1 ⟨rfl, rfl⟩
  go_wp2_with fail
  refine hl2.out.mono ?_
  rintro e w1 ⟨rfl, rfl⟩
  go_wp2_with fail
  refine hl3.out.mono ?_
  rintro e w1 ⟨rfl, rfl⟩
  clear hl1 hl2 hl3 hW1'
  have k0 := X.out.z1.cell 0
  have k2 := X.out.z2.cell 0
  have k4 := X.out.z3.cell 0
  have q := Lib.hid (qt.out _ X.out.bl)
  go_wp2_with fail
  refine q.out.mono ?_
  rintro e w2 ⟨rfl, b⟩
  replace X := Lib.hid (X.out.on b)
  clear k0 k1 k2 k3 k4 k5 q b qt
  have k1 := X.out.z1.cell 1
  have k3 := X.out.z2.cell 1
  have k5 := X.out.z3.cell 1
  have k0 := X.out.z1.cell 0
  have k2 := X.out.z2.cell 0
  have k4 := X.out.z3.cell 0
  have q := Lib.hid (qu.out _ X.out.bl)
  go_wp2_with fail
  refine q.out.mono ?_
  rintro e w3 ⟨rfl, b⟩
  replace X := Lib.hid (X.out.on b)
  clear k0 k1 k2 k3 k4 k5 q b qu
  have k1 := X.out.z1.cell 1
  have k3 := X.out.z2.cell 1
  have k5 := X.out.z3.cell 1
  have k0 := X.out.z1.cell 0
  have k2 := X.out.z2.cell 0
  have k4 := X.out.z3.cell 0
  have q := Lib.hid (qj.out _ X.out.bl)
  go_wp2_with fail
  refine q.out.mono ?_
  rintro e w4 ⟨a4x, c4x, rfl, s4, b4⟩
  clear k0 k1 k2 k3 k4 k5 q qj
  have k0 : w4.cell? ⟨w.heap.size, 0, none⟩ = some (.int .i64 n) := (X.out.z1.below b4 X.out.z1.lt).cell 0
  have k1 : w4.cell? ⟨w.heap.size, 1, none⟩ = some (.slice a1 m1 c1) := (X.out.z1.below b4 X.out.z1.lt).cell 1
  have k2 : w4.cell? ⟨w.heap.size + 1, 0, none⟩ = some (.int .i64 n) := (X.out.z2.below b4 X.out.z2.lt).cell 0
  have k3 : w4.cell? ⟨w.heap.size + 1, 1, none⟩ = some (.slice a2 m2 c2) := (X.out.z2.below b4 X.out.z2.lt).cell 1
  have k4 : w4.cell? ⟨w.heap.size + 1 + 1, 0, none⟩ = some (.int .i64 n) := (X.out.z3.below b4 X.out.z3.lt).cell 0
  have k5 : w4.cell? ⟨w.heap.size + 1 + 1, 1, none⟩ = some (.slice a3 m3 c3) := (X.out.z3.below b4 X.out.z3.lt).cell 1
  have k6 : w.heap.size < w4.heap.size := (X.out.z1.below b4 X.out.z1.lt).lt
  have k7 : w.heap.size + 1 < w4.heap.size := (X.out.z2.below b4 X.out.z2.lt).lt
  have k8 : w.heap.size + 1 + 1 < w4.heap.size := (X.out.z3.below b4 X.out.z3.lt).lt
  have B4 := b4.trans ((box_below w4 #[.int .i64 n, .slice a4x mj c4x] 24).mono b4.size)
  replace X := Lib.hid (X.out.on B4)
  have Zj := Lib.hid (Holds.new w4 24 #[.int .i64 n, .slice a4x mj c4x])
  have Sj := Lib.hid (s4.below (box_below w4 #[.int .i64 n, .slice a4x mj c4x] 24))
  clear b4 s4 B4
  have q := Lib.hid (qm.out _ X.out.bl)
  go_wp2_with fail
  refine q.out.mono ?_
  rintro e w5 ⟨a5x, c5x, rfl, s5, b5⟩
  clear k0 k1 k2 k3 k4 k5 k6 k7 k8 q qm
  have k0 : w5.cell? ⟨w.heap.size, 0, none⟩ = some (.int .i64 n) := (X.out.z1.below b5 X.out.z1.lt).cell 0
  have k1 : w5.cell? ⟨w.heap.size, 1, none⟩ = some (.slice a1 m1 c1) := (X.out.z1.below b5 X.out.z1.lt).cell 1
  have k2 : w5.cell? ⟨w.heap.size + 1, 0, none⟩ = some (.int .i64 n) := (X.out.z2.below b5 X.out.z2.lt).cell 0
  have k3 : w5.cell? ⟨w.heap.size + 1, 1, none⟩ = some (.slice a2 m2 c2) := (X.out.z2.below b5 X.out.z2.lt).cell 1
  have k4 : w5.cell? ⟨w.heap.size + 1 + 1, 0, none⟩ = some (.int .i64 n) := (X.out.z3.below b5 X.out.z3.lt).cell 0
  have k5 : w5.cell? ⟨w.heap.size + 1 + 1, 1, none⟩ = some (.slice a3 m3 c3) := (X.out.z3.below b5 X.out.z3.lt).cell 1
  have k6 : w.heap.size < w5.heap.size := (X.out.z1.below b5 X.out.z1.lt).lt
  have k7 : w.heap.size + 1 < w5.heap.size := (X.out.z2.below b5 X.out.z2.lt).lt
  have k8 : w.heap.size + 1 + 1 < w5.heap.size := (X.out.z3.below b5 X.out.z3.lt).lt
  have B5 := b5.trans ((box_below w5 #[.int .i64 n, .slice a5x mm c5x] 24).mono b5.size)
  replace X := Lib.hid (X.out.on B5)
  replace Zj := Lib.hid (Zj.out.below B5 Zj.out.lt)
  replace Sj := Lib.hid (Sj.out.below B5)
  have Zm := Lib.hid (Holds.new w5 24 #[.int .i64 n, .slice a5x mm c5x])
  have Sm := Lib.hid (s5.below (box_below w5 #[.int .i64 n, .slice a5x mm c5x] 24))
  clear b5 s5 B5
  have q := Lib.hid (r1.out _ X.out.bl)
  go_wp2_with fail
  refine q.out.mono ?_
  rintro e w6 ⟨rfl, b⟩
  replace X := Lib.hid (X.out.on b)
  replace Zj := Lib.hid (Zj.out.below b Zj.out.lt)
  replace Sj := Lib.hid (Sj.out.below b)
  replace Zm := Lib.hid (Zm.out.below b Zm.out.lt)
  replace Sm := Lib.hid (Sm.out.below b)
  clear k0 k1 k2 k3 k4 k5 k6 k7 k8 r1 q b
  have k0 := X.out.z1.cell 0
  have k1 := X.out.z1.cell 1
  have k2 := X.out.z2.cell 0
  have k3 := X.out.z2.cell 1
  have k4 := X.out.z3.cell 0
  have k5 := X.out.z3.cell 1
  have j0 := Zj.out.cell 0
  have j1 := Zj.out.cell 1
  have n0 := Zm.out.cell 0
  have n1 := Zm.out.cell 1
  have q := Lib.hid (r2.out _ X.out.bl)
  go_wp2_with fail
  refine q.out.mono ?_
  rintro e w7 ⟨rfl, b⟩
  replace X := Lib.hid (X.out.on b)
  replace Zj := Lib.hid (Zj.out.below b Zj.out.lt)
  replace Sj := Lib.hid (Sj.out.below b)
  replace Zm := Lib.hid (Zm.out.below b Zm.out.lt)
  replace Sm := Lib.hid (Sm.out.below b)
  clear k0 k1 k2 k3 k4 k5 j0 j1 n0 n1 r2 q b
  have k0 := X.out.z1.cell 0
  have k1 := X.out.z1.cell 1
  have k2 := X.out.z2.cell 0
  have k3 := X.out.z2.cell 1
  have k4 := X.out.z3.cell 0
  have k5 := X.out.z3.cell 1
  have j0 := Zj.out.cell 0
  have j1 := Zj.out.cell 1
  have n0 := Zm.out.cell 0
  have n1 := Zm.out.cell 1
  have q := Lib.hid (r3.out _ a4x c4x X.out.bl Sj.out)
  go_wp2_with fail
  refine q.out.mono ?_
  rintro e w8 ⟨rfl, b⟩
  replace X := Lib.hid (X.out.on b)
  replace Zj := Lib.hid (Zj.out.below b Zj.out.lt)
  replace Sj := Lib.hid (Sj.out.below b)
  replace Zm := Lib.hid (Zm.out.below b Zm.out.lt)
  replace Sm := Lib.hid (Sm.out.below b)
  clear k0 k1 k2 k3 k4 k5 j0 j1 n0 n1 r3 q b
  have k0 := X.out.z1.cell 0
  have k1 := X.out.z1.cell 1
  have k2 := X.out.z2.cell 0
  have k3 := X.out.z2.cell 1
  have k4 := X.out.z3.cell 0
  have k5 := X.out.z3.cell 1
  have j0 := Zj.out.cell 0
  have j1 := Zj.out.cell 1
  have n0 := Zm.out.cell 0
  have n1 := Zm.out.cell 1
  have q := Lib.hid (r4.out _ X.out.bl)
  go_wp2_with fail
  refine q.out.mono ?_
  rintro e w9 ⟨rfl, b⟩
  replace X := Lib.hid (X.out.on b)
  replace Zj := Lib.hid (Zj.out.below b Zj.out.lt)
  replace Sj := Lib.hid (Sj.out.below b)
  replace Zm := Lib.hid (Zm.out.below b Zm.out.lt)
  replace Sm := Lib.hid (Sm.out.below b)
  clear k0 k1 k2 k3 k4 k5 j0 j1 n0 n1 r4 q b
  have k0 := X.out.z1.cell 0
  have k1 := X.out.z1.cell 1
  have k2 := X.out.z2.cell 0
  have k3 := X.out.z2.cell 1
  have k4 := X.out.z3.cell 0
  have k5 := X.out.z3.cell 1
  have j0 := Zj.out.cell 0
  have j1 := Zj.out.cell 1
  have n0 := Zm.out.cell 0
  have n1 := Zm.out.cell 1
  have q := Lib.hid (r5.out _ X.out.bl)
  go_wp2_with fail
  refine q.out.mono ?_
  rintro e w10 ⟨rfl, b⟩
  replace X := Lib.hid (X.out.on b)
  replace Zj := Lib.hid (Zj.out.below b Zj.out.lt)
  replace Sj := Lib.hid (Sj.out.below b)
  replace Zm := Lib.hid (Zm.out.below b Zm.out.lt)
  replace Sm := Lib.hid (Sm.out.below b)
  clear k0 k1 k2 k3 k4 k5 j0 j1 n0 n1 r5 q b
  have k0 := X.out.z1.cell 0
  have k1 := X.out.z1.cell 1
  have k2 := X.out.z2.cell 0
  have k3 := X.out.z2.cell 1
  have k4 := X.out.z3.cell 0
  have k5 := X.out.z3.cell 1
  have j0 := Zj.out.cell 0
  have j1 := Zj.out.cell 1
  have n0 := Zm.out.cell 0
  have n1 := Zm.out.cell 1
  have q := Lib.hid (r6.out _ a5x c5x X.out.bl Sm.out)
  go_wp2_with fail
  refine q.out.mono ?_
  rintro e w11 ⟨rfl, b⟩
  replace X := Lib.hid (X.out.on b)
  replace Zj := Lib.hid (Zj.out.below b Zj.out.lt)
  replace Sj := Lib.hid (Sj.out.below b)
  replace Zm := Lib.hid (Zm.out.below b Zm.out.lt)
  replace Sm := Lib.hid (Sm.out.below b)
  clear k0 k1 k2 k3 k4 k5 j0 j1 n0 n1 r6 q b
  clear Zj Sj Zm Sm
  have hlv := Lib.hid (zlivesAt w _ X.out.bl)
  go_wp2_with fail
  refine hlv.out.mono ?_
  rintro e w12 ⟨rfl, b, -⟩
  replace X := Lib.hid (X.out.on b)
  clear b hlv
  have k0 := X.out.z1.cell 0
  have k1 := X.out.z1.cell 1
  have k5 := X.out.z3.cell 1
  go_wp2
  go_loopw [23, 24] (fun o x wr => ∃ k : Nat, k ≤ n + 1 ∧ x = .int .i64 k ∧ o = .bool (!(List.range k).all hh) ∧ Hid (T3 w wr (.int .i64 n) (.slice a1 m1 c1) (.int .i64 n) (.slice a2 m2 c2) (.int .i64 n) (.slice a3 m3 c3))) (fun _ x _ => n + 1 - (intOf x).toNat)
  case atStart => exact ⟨0, by omega, rfl, rfl, X⟩
  case round =>
    clear k0 k1 k5
    obtain ⟨k, hk, rfl, rfl, Y⟩ := hrel
    have k0 := Y.out.z1.cell 0
    have k1 := Y.out.z1.cell 1
    have k4 := Y.out.z3.cell 0
    have k5 := Y.out.z3.cell 1
    by_cases hlt : k < n + 1
    · have hki : (k : Int) ≤ (n : Int) := by omega
      have q := Lib.hid (qp.out wr k (by omega) Y.out.bl)
      have hnk := Lib.hid (hnx.out k)
      cases hak : (List.range k).all hh
      · have hnk2 : Hid ((List.range (k + 1)).all hh = false) := Lib.hid (by rw [hnk.out, hak, Bool.false_and])
        clear hnk hak
        rw [Bool.not_false]
        go_wp2_with fail
        refine q.out.mono ?_
        rintro e v1 ⟨ap, cp, rfl, sp, b⟩
        have Y1 := Lib.hid (Y.out.on b)
        clear b q k0 k1 k4 k5 Y sp
        go_wp2
        go_roundw
        case rel => exact ⟨k + 1, by omega, by go_num, by rw [hnk2.out]; rfl, Y1⟩
        case measure => simp [intOf]; omega
      · have hnk2 : Hid ((List.range (k + 1)).all hh = hh k) := Lib.hid (by rw [hnk.out, hak, Bool.true_and])
        clear hnk hak
        rw [Bool.not_true]
        go_wp2_with fail
        refine q.out.mono ?_
        rintro e v1 ⟨ap, cp, rfl, sp, b⟩
        have Y1 := Lib.hid (Y.out.on b)
        have q2 := Lib.hid (qh.out v1 k ap cp Y1.out.bl sp)
        rw [hq.out k] at q2
        generalize hh k = u at *
        clear b q k0 k1 k4 k5 Y sp
        have k4 := Y1.out.z3.cell 0
        have k5 := Y1.out.z3.cell 1
        go_wp2_with fail
        refine q2.out.mono ?_
        rintro e v2 ⟨rfl, b⟩
        have Y2 := Lib.hid (Y1.out.on b)
        clear b q2 k4 k5 Y1
        go_wp2
        go_roundw
        case rel => exact ⟨k + 1, by omega, by go_num, by rw [hnk2.out], Y2⟩
        case measure => simp [intOf]; omega
    · have hke : k = n + 1 := by omega
      have he : (List.range k).all hh = true := by rw [hke]; exact hend.out
      rw [he]
      go_wp2
      go_ret
      exact ⟨rfl, Y.out.bl⟩
set_option maxRecDepth 100000 in
set_option maxHeartbeats 4000000 in
theorem least_ff_ft (n : Nat) (a1 a2 a3 : Option Addr) (m1 m2 m3 c1 c2 c3 : Nat) (l1 l2 l3 : List Int) (w : World) (h1 : SL w a1 m1 c1 l1) (h2 : SL w a2 m2 c2 l2) (h3 : SL w a3 m3 c3 l3) (s1 : ¬ 200 < m1) (s2 : ¬ 200 < m2) (s3 : ¬ 200 < m3) (z1 : IsZ n l1) (z2 : IsZ n l2) (z3 : IsZ n l3) (hA : Full n l1) (hC : Full n l3) (hx : leqB l1 l3 = false) (hd : leqB l3 l1 = true) : Calls Try.prog 8 #[.agg #[.int .i64 n, .slice a1 m1 c1], .agg #[.int .i64 n, .slice a2 m2 c2], .agg #[.int .i64 n, .slice a3 m3 c3]] w (Gives (.bool true) w) := by
  have hm1 := len_pos hA.ne h1.len
  have p1 : (0 : Int) < (m1 : Int) := by omega
  have hm3 := len_pos hC.ne h3.len
  have p2 : ((m3 : Int) == 0) = false := by simp; omega
  have p3 : ¬ (m3 : Int) = 0 := by omega
  obtain ⟨W1, hW1⟩ : ∃ W1, W1 = ((w.alloc (.cells #[.int .i64 n, .slice a1 m1 c1] 24)).alloc (.cells #[.int .i64 n, .slice a2 m2 c2] 24)).alloc (.cells #[.int .i64 n, .slice a3 m3 c3] 24) := ⟨_, rfl⟩
  have X1 : T3 w W1 (.int .i64 n) (.slice a1 m1 c1) (.int .i64 n) (.slice a2 m2 c2) (.int .i64 n) (.slice a3 m3 c3) := by rw [hW1]; exact t3_new _ _ _ _ _ _ _
  have H1 := Lib.hid h1
  have H2 := Lib.hid h2
  have H3 := Lib.hid h3
  have X := Lib.hid X1
  have hW1' := Lib.hid hW1
  have k1 := X1.z1.cell 1
  have k3 := X1.z2.cell 1
  have k5 := X1.z3.cell 1
  have hl1 := Lib.hid (large_any a1 m1 c1 h1.max W1)
  have hl2 := Lib.hid (large_any a2 m2 c2 h2.max W1)
  have hl3 := Lib.hid (large_any a3 m3 c3 h3.max W1)
  have qt := Lib.hid (fun W (hW : Below w.heap.size w W) => rtwo_any n n a1 a2 m1 m2 c1 c2 l1 l2 W (H1.out.below hW) (H2.out.below hW))
  have qu := Lib.hid (fun W (hW : Below w.heap.size w W) => rtwo_any n n a1 a3 m1 m3 c1 c3 l1 l3 W (H1.out.below hW) (H3.out.below hW))
  rw [decide_eq_false (show ¬ (200 : Int) < (m1 : Int) by omega)] at hl1
  rw [decide_eq_false (show ¬ (200 : Int) < (m2 : Int) by omega)] at hl2
  rw [decide_eq_false (show ¬ (200 : Int) < (m3 : Int) by omega)] at hl3
  rw [z1.two z2] at qt
  rw [z1.two z3] at qu
  have hni : (n : Int) ≤ 8 := by have := z1.1; omega
  have e1 := joinL_small z1 z2
  have e2 := meetL_small z1 z2
  have zj := joinL_isz z1 z2
  have zm := meetL_isz z1 z2
  have qj := Lib.hid (fun W (hW : Below w.heap.size w W) => (zjoin_ok a1 a2 m1 m2 c1 c2 l1 l2 n z1 z2 W (H1.out.below hW) (H2.out.below hW)).mono (fun e w' h => ends_of (m := (joinL n l1 l2).length) rfl (by omega) h))
  have qm := Lib.hid (fun W (hW : Below w.heap.size w W) => (zmeet_ok a1 a2 m1 m2 c1 c2 l1 l2 n z1 z2 W (H1.out.below hW) (H2.out.below hW)).mono (fun e w' h => ends_of (m := (meetL n l1 l2).length) rfl (by omega) h))
  have r1 := Lib.hid (fun W (hW : Below w.heap.size w W) => zleq_ok a1 a3 m1 m3 c1 c3 l1 l3 n z1 z3 W (H1.out.below hW) (H3.out.below hW))
  rw [hx] at r1
  have r2 := Lib.hid (fun W (hW : Below w.heap.size w W) => zleq_ok a2 a3 m2 m3 c2 c3 l2 l3 n z2 z3 W (H2.out.below hW) (H3.out.below hW))
  have r3 := Lib.hid (fun W aj cj (hW : Below w.heap.size w W) (hJ : SL W aj (joinL n l1 l2).length cj (joinL n l1 l2)) => zleq_ok aj a3 (joinL n l1 l2).length m3 cj c3 (joinL n l1 l2) l3 n zj z3 W hJ (H3.out.below hW))
  rw [leq_join z1 z2 z3, hx, Bool.false_and] at r3
  have r4 := Lib.hid (fun W (hW : Below w.heap.size w W) => zleq_ok a3 a1 m3 m1 c3 c1 l3 l1 n z3 z1 W (H3.out.below hW) (H1.out.below hW))
  rw [hd] at r4
  have r5 := Lib.hid (fun W (hW : Below w.heap.size w W) => zleq_ok a3 a2 m3 m2 c3 c2 l3 l2 n z3 z2 W (H3.out.below hW) (H2.out.below hW))
  have r6 := Lib.hid (fun W am cm (hW : Below w.heap.size w W) (hM : SL W am (meetL n l1 l2).length cm (meetL n l1 l2)) => zleq_ok a3 am m3 (meetL n l1 l2).length c3 cm l3 (meetL n l1 l2) n z3 zm W (H3.out.below hW) hM)
  rw [leq_meet z1 z2 z3, hd, Bool.true_and] at r6
  have qp := Lib.hid (fun W (k : Nat) (hk : k ≤ n) (hW : Below w.heap.size w W) => (point_ok n a1 m1 c1 l1 k hk hA W (H1.out.below hW)).mono (R' := EndsP n (pointL n l1 k) W) (by rintro e w' ⟨a2, c2, rfl, hc2, hs, hb⟩; exact ⟨a2, c2, rfl, ⟨(point_len _ _ _).symm, hc2, by omega, hs⟩, hb⟩))
  have qh := Lib.hid (fun W (k : Nat) ap cp (hW : Below w.heap.size w W) (hP : SL W ap n cp (pointL n l1 k)) => has_any n a3 m3 c3 l3 ap n cp (pointL n l1 k) W (H3.out.below hW) hP)
  have hall := leq_points hA hC
  rw [hx] at hall
  obtain ⟨hh, hhe⟩ : ∃ hh : Nat → Bool, hh = fun k => hasB n l3 (pointL n l1 k) := ⟨_, rfl⟩
  have hend : Hid ((List.range (n + 1)).all hh = false) := Lib.hid (by rw [hhe]; exact hall.symm)
  have hq : Hid (∀ k, hasB n l3 (pointL n l1 k) = hh k) := Lib.hid (fun k => by rw [hhe])
  have hnx : Hid (∀ k, (List.range (k + 1)).all hh = ((List.range k).all hh && hh k)) := Lib.hid (fun k => by rw [List.range_succ, List.all_append]; simp)
  clear hall hhe
  clear hW1 X1 h1 h2 h3 z1 z2 z3 zj zm hx hd H1 H2 H3 hA hC hm1 hm3
  generalize hmj : (joinL n l1 l2).length = mj at *
  generalize hmm : (meetL n l1 l2).length = mm at *
  clear hmj hmm
  generalize joinL n l1 l2 = J at *
  generalize meetL n l1 l2 = M at *
  generalize leqB l2 l3 = y at *
  generalize leqB l3 l2 = ee at *
  go_enter Try.func8, Try.ntmps8
  go_wp2_with fail
  rw [← hW1'.out]
  refine hl1.out.mono ?_
  rintro e w1 ⟨rfl, rfl⟩
  go_wp2_with fail
  refine hl2.out.mono ?_
  rintro e w1 ⟨rfl, rfl⟩
  go_wp2_with fail
  refine hl3.out.mono ?_
  rintro e w1 ⟨rfl, rfl⟩
  clear hl1 hl2 hl3 hW1'
  have k0 := X.out.z1.cell 0
  have k2 := X.out.z2.cell 0
  have k4 := X.out.z3.cell 0
  have q := Lib.hid (qt.out _ X.out.bl)
  go_wp2_with fail
  refine q.out.mono ?_
  rintro e w2 ⟨rfl, b⟩
  replace X := Lib.hid (X.out.on b)
  clear k0 k1 k2 k3 k4 k5 q b qt
  have k1 := X.out.z1.cell 1
  have k3 := X.out.z2.cell 1
  have k5 := X.out.z3.cell 1
  have k0 := X.out.z1.cell 0
  have k2 := X.out.z2.cell 0
  have k4 := X.out.z3.cell 0
  have q := Lib.hid (qu.out _ X.out.bl)
  go_wp2_with fail
  refine q.out.mono ?_
  rintro e w3 ⟨rfl, b⟩
  replace X := Lib.hid (X.out.on b)
  clear k0 k1 k2 k3 k4 k5 q b qu
  have k1 := X.out.z1.cell 1
  have k3 := X.out.z2.cell 1
  have k5 := X.out.z3.cell 1
  have k0 := X.out.z1.cell 0
  have k2 := X.out.z2.cell 0
  have k4 := X.out.z3.cell 0
  have q := Lib.hid (qj.out _ X.out.bl)
  go_wp2_with fail
  refine q.out.mono ?_
  rintro e w4 ⟨a4x, c4x, rfl, s4, b4⟩
  clear k0 k1 k2 k3 k4 k5 q qj
  have k0 : w4.cell? ⟨w.heap.size, 0, none⟩ = some (.int .i64 n) := (X.out.z1.below b4 X.out.z1.lt).cell 0
  have k1 : w4.cell? ⟨w.heap.size, 1, none⟩ = some (.slice a1 m1 c1) := (X.out.z1.below b4 X.out.z1.lt).cell 1
  have k2 : w4.cell? ⟨w.heap.size + 1, 0, none⟩ = some (.int .i64 n) := (X.out.z2.below b4 X.out.z2.lt).cell 0
  have k3 : w4.cell? ⟨w.heap.size + 1, 1, none⟩ = some (.slice a2 m2 c2) := (X.out.z2.below b4 X.out.z2.lt).cell 1
  have k4 : w4.cell? ⟨w.heap.size + 1 + 1, 0, none⟩ = some (.int .i64 n) := (X.out.z3.below b4 X.out.z3.lt).cell 0
  have k5 : w4.cell? ⟨w.heap.size + 1 + 1, 1, none⟩ = some (.slice a3 m3 c3) := (X.out.z3.below b4 X.out.z3.lt).cell 1
  have k6 : w.heap.size < w4.heap.size := (X.out.z1.below b4 X.out.z1.lt).lt
  have k7 : w.heap.size + 1 < w4.heap.size := (X.out.z2.below b4 X.out.z2.lt).lt
  have k8 : w.heap.size + 1 + 1 < w4.heap.size := (X.out.z3.below b4 X.out.z3.lt).lt
  have B4 := b4.trans ((box_below w4 #[.int .i64 n, .slice a4x mj c4x] 24).mono b4.size)
  replace X := Lib.hid (X.out.on B4)
  have Zj := Lib.hid (Holds.new w4 24 #[.int .i64 n, .slice a4x mj c4x])
  have Sj := Lib.hid (s4.below (box_below w4 #[.int .i64 n, .slice a4x mj c4x] 24))
  clear b4 s4 B4
  have q := Lib.hid (qm.out _ X.out.bl)
  go_wp2_with fail
  refine q.out.mono ?_
  rintro e w5 ⟨a5x, c5x, rfl, s5, b5⟩
  clear k0 k1 k2 k3 k4 k5 k6 k7 k8 q qm
  have k0 : w5.cell? ⟨w.heap.size, 0, none⟩ = some (.int .i64 n) := (X.out.z1.below b5 X.out.z1.lt).cell 0
  have k1 : w5.cell? ⟨w.heap.size, 1, none⟩ = some (.slice a1 m1 c1) := (X.out.z1.below b5 X.out.z1.lt).cell 1
  have k2 : w5.cell? ⟨w.heap.size + 1, 0, none⟩ = some (.int .i64 n) := (X.out.z2.below b5 X.out.z2.lt).cell 0
  have k3 : w5.cell? ⟨w.heap.size + 1, 1, none⟩ = some (.slice a2 m2 c2) := (X.out.z2.below b5 X.out.z2.lt).cell 1
  have k4 : w5.cell? ⟨w.heap.size + 1 + 1, 0, none⟩ = some (.int .i64 n) := (X.out.z3.below b5 X.out.z3.lt).cell 0
  have k5 : w5.cell? ⟨w.heap.size + 1 + 1, 1, none⟩ = some (.slice a3 m3 c3) := (X.out.z3.below b5 X.out.z3.lt).cell 1
  have k6 : w.heap.size < w5.heap.size := (X.out.z1.below b5 X.out.z1.lt).lt
  have k7 : w.heap.size + 1 < w5.heap.size := (X.out.z2.below b5 X.out.z2.lt).lt
  have k8 : w.heap.size + 1 + 1 < w5.heap.size := (X.out.z3.below b5 X.out.z3.lt).lt
  have B5 := b5.trans ((box_below w5 #[.int .i64 n, .slice a5x mm c5x] 24).mono b5.size)
  replace X := Lib.hid (X.out.on B5)
  replace Zj := Lib.hid (Zj.out.below B5 Zj.out.lt)
  replace Sj := Lib.hid (Sj.out.below B5)
  have Zm := Lib.hid (Holds.new w5 24 #[.int .i64 n, .slice a5x mm c5x])
  have Sm := Lib.hid (s5.below (box_below w5 #[.int .i64 n, .slice a5x mm c5x] 24))
  clear b5 s5 B5
  have q := Lib.hid (r1.out _ X.out.bl)
  go_wp2_with fail
  refine q.out.mono ?_
  rintro e w6 ⟨rfl, b⟩
  replace X := Lib.hid (X.out.on b)
  replace Zj := Lib.hid (Zj.out.below b Zj.out.lt)
  replace Sj := Lib.hid (Sj.out.below b)
  replace Zm := Lib.hid (Zm.out.below b Zm.out.lt)
  replace Sm := Lib.hid (Sm.out.below b)
  clear k0 k1 k2 k3 k4 k5 k6 k7 k8 r1 q b
  have k0 := X.out.z1.cell 0
  have k1 := X.out.z1.cell 1
  have k2 := X.out.z2.cell 0
  have k3 := X.out.z2.cell 1
  have k4 := X.out.z3.cell 0
  have k5 := X.out.z3.cell 1
  have j0 := Zj.out.cell 0
  have j1 := Zj.out.cell 1
  have n0 := Zm.out.cell 0
  have n1 := Zm.out.cell 1
  have q := Lib.hid (r2.out _ X.out.bl)
  go_wp2_with fail
  refine q.out.mono ?_
  rintro e w7 ⟨rfl, b⟩
  replace X := Lib.hid (X.out.on b)
  replace Zj := Lib.hid (Zj.out.below b Zj.out.lt)
  replace Sj := Lib.hid (Sj.out.below b)
  replace Zm := Lib.hid (Zm.out.below b Zm.out.lt)
  replace Sm := Lib.hid (Sm.out.below b)
  clear k0 k1 k2 k3 k4 k5 j0 j1 n0 n1 r2 q b
  have k0 := X.out.z1.cell 0
  have k1 := X.out.z1.cell 1
  have k2 := X.out.z2.cell 0
  have k3 := X.out.z2.cell 1
  have k4 := X.out.z3.cell 0
  have k5 := X.out.z3.cell 1
  have j0 := Zj.out.cell 0
  have j1 := Zj.out.cell 1
  have n0 := Zm.out.cell 0
  have n1 := Zm.out.cell 1
  have q := Lib.hid (r3.out _ a4x c4x X.out.bl Sj.out)
  go_wp2_with fail
  refine q.out.mono ?_
  rintro e w8 ⟨rfl, b⟩
  replace X := Lib.hid (X.out.on b)
  replace Zj := Lib.hid (Zj.out.below b Zj.out.lt)
  replace Sj := Lib.hid (Sj.out.below b)
  replace Zm := Lib.hid (Zm.out.below b Zm.out.lt)
  replace Sm := Lib.hid (Sm.out.below b)
  clear k0 k1 k2 k3 k4 k5 j0 j1 n0 n1 r3 q b
  have k0 := X.out.z1.cell 0
  have k1 := X.out.z1.cell 1
  have k2 := X.out.z2.cell 0
  have k3 := X.out.z2.cell 1
  have k4 := X.out.z3.cell 0
  have k5 := X.out.z3.cell 1
  have j0 := Zj.out.cell 0
  have j1 := Zj.out.cell 1
  have n0 := Zm.out.cell 0
  have n1 := Zm.out.cell 1
  have q := Lib.hid (r4.out _ X.out.bl)
  go_wp2_with fail
  refine q.out.mono ?_
  rintro e w9 ⟨rfl, b⟩
  replace X := Lib.hid (X.out.on b)
  replace Zj := Lib.hid (Zj.out.below b Zj.out.lt)
  replace Sj := Lib.hid (Sj.out.below b)
  replace Zm := Lib.hid (Zm.out.below b Zm.out.lt)
  replace Sm := Lib.hid (Sm.out.below b)
  clear k0 k1 k2 k3 k4 k5 j0 j1 n0 n1 r4 q b
  have k0 := X.out.z1.cell 0
  have k1 := X.out.z1.cell 1
  have k2 := X.out.z2.cell 0
  have k3 := X.out.z2.cell 1
  have k4 := X.out.z3.cell 0
  have k5 := X.out.z3.cell 1
  have j0 := Zj.out.cell 0
  have j1 := Zj.out.cell 1
  have n0 := Zm.out.cell 0
  have n1 := Zm.out.cell 1
  have q := Lib.hid (r5.out _ X.out.bl)
  go_wp2_with fail
  refine q.out.mono ?_
  rintro e w10 ⟨rfl, b⟩
  replace X := Lib.hid (X.out.on b)
  replace Zj := Lib.hid (Zj.out.below b Zj.out.lt)
  replace Sj := Lib.hid (Sj.out.below b)
  replace Zm := Lib.hid (Zm.out.below b Zm.out.lt)
  replace Sm := Lib.hid (Sm.out.below b)
  clear k0 k1 k2 k3 k4 k5 j0 j1 n0 n1 r5 q b
  have k0 := X.out.z1.cell 0
  have k1 := X.out.z1.cell 1
  have k2 := X.out.z2.cell 0
  have k3 := X.out.z2.cell 1
  have k4 := X.out.z3.cell 0
  have k5 := X.out.z3.cell 1
  have j0 := Zj.out.cell 0
  have j1 := Zj.out.cell 1
  have n0 := Zm.out.cell 0
  have n1 := Zm.out.cell 1
  have q := Lib.hid (r6.out _ a5x c5x X.out.bl Sm.out)
  go_wp2_with fail
  refine q.out.mono ?_
  rintro e w11 ⟨rfl, b⟩
  replace X := Lib.hid (X.out.on b)
  replace Zj := Lib.hid (Zj.out.below b Zj.out.lt)
  replace Sj := Lib.hid (Sj.out.below b)
  replace Zm := Lib.hid (Zm.out.below b Zm.out.lt)
  replace Sm := Lib.hid (Sm.out.below b)
  clear k0 k1 k2 k3 k4 k5 j0 j1 n0 n1 r6 q b
  clear Zj Sj Zm Sm
  have hlv := Lib.hid (zlivesAt w _ X.out.bl)
  go_wp2_with fail
  refine hlv.out.mono ?_
  rintro e w12 ⟨rfl, b, -⟩
  replace X := Lib.hid (X.out.on b)
  clear b hlv
  have k0 := X.out.z1.cell 0
  have k1 := X.out.z1.cell 1
  have k5 := X.out.z3.cell 1
  go_wp2
  go_loopw [23, 24] (fun o x wr => ∃ k : Nat, k ≤ n + 1 ∧ x = .int .i64 k ∧ o = .bool (!(List.range k).all hh) ∧ Hid (T3 w wr (.int .i64 n) (.slice a1 m1 c1) (.int .i64 n) (.slice a2 m2 c2) (.int .i64 n) (.slice a3 m3 c3))) (fun _ x _ => n + 1 - (intOf x).toNat)
  case atStart => exact ⟨0, by omega, rfl, rfl, X⟩
  case round =>
    clear k0 k1 k5
    obtain ⟨k, hk, rfl, rfl, Y⟩ := hrel
    have k0 := Y.out.z1.cell 0
    have k1 := Y.out.z1.cell 1
    have k4 := Y.out.z3.cell 0
    have k5 := Y.out.z3.cell 1
    by_cases hlt : k < n + 1
    · have hki : (k : Int) ≤ (n : Int) := by omega
      have q := Lib.hid (qp.out wr k (by omega) Y.out.bl)
      have hnk := Lib.hid (hnx.out k)
      cases hak : (List.range k).all hh
      · have hnk2 : Hid ((List.range (k + 1)).all hh = false) := Lib.hid (by rw [hnk.out, hak, Bool.false_and])
        clear hnk hak
        rw [Bool.not_false]
        go_wp2_with fail
        refine q.out.mono ?_
        rintro e v1 ⟨ap, cp, rfl, sp, b⟩
        have Y1 := Lib.hid (Y.out.on b)
        clear b q k0 k1 k4 k5 Y sp
        go_wp2
        go_roundw
        case rel => exact ⟨k + 1, by omega, by go_num, by rw [hnk2.out]; rfl, Y1⟩
        case measure => simp [intOf]; omega
      · have hnk2 : Hid ((List.range (k + 1)).all hh = hh k) := Lib.hid (by rw [hnk.out, hak, Bool.true_and])
        clear hnk hak
        rw [Bool.not_true]
        go_wp2_with fail
        refine q.out.mono ?_
        rintro e v1 ⟨ap, cp, rfl, sp, b⟩
        have Y1 := Lib.hid (Y.out.on b)
        have q2 := Lib.hid (qh.out v1 k ap cp Y1.out.bl sp)
        rw [hq.out k] at q2
        generalize hh k = u at *
        clear b q k0 k1 k4 k5 Y sp
        have k4 := Y1.out.z3.cell 0
        have k5 := Y1.out.z3.cell 1
        go_wp2_with fail
        refine q2.out.mono ?_
        rintro e v2 ⟨rfl, b⟩
        have Y2 := Lib.hid (Y1.out.on b)
        clear b q2 k4 k5 Y1
        go_wp2
        go_roundw
        case rel => exact ⟨k + 1, by omega, by go_num, by rw [hnk2.out], Y2⟩
        case measure => simp [intOf]; omega
    · have hke : k = n + 1 := by omega
      have he : (List.range k).all hh = false := by rw [hke]; exact hend.out
      rw [he]
      go_wp2
      go_ret
      exact ⟨rfl, Y.out.bl⟩
set_option maxRecDepth 100000 in
set_option maxHeartbeats 4000000 in
theorem least_ff_ff (n : Nat) (a1 a2 a3 : Option Addr) (m1 m2 m3 c1 c2 c3 : Nat) (l1 l2 l3 : List Int) (w : World) (h1 : SL w a1 m1 c1 l1) (h2 : SL w a2 m2 c2 l2) (h3 : SL w a3 m3 c3 l3) (s1 : ¬ 200 < m1) (s2 : ¬ 200 < m2) (s3 : ¬ 200 < m3) (z1 : IsZ n l1) (z2 : IsZ n l2) (z3 : IsZ n l3) (hA : Full n l1) (hC : Full n l3) (hx : leqB l1 l3 = false) (hd : leqB l3 l1 = false) : Calls Try.prog 8 #[.agg #[.int .i64 n, .slice a1 m1 c1], .agg #[.int .i64 n, .slice a2 m2 c2], .agg #[.int .i64 n, .slice a3 m3 c3]] w (Gives (.bool true) w) := by
  have hm1 := len_pos hA.ne h1.len
  have p1 : (0 : Int) < (m1 : Int) := by omega
  have hm3 := len_pos hC.ne h3.len
  have p2 : ((m3 : Int) == 0) = false := by simp; omega
  have p3 : ¬ (m3 : Int) = 0 := by omega
  obtain ⟨W1, hW1⟩ : ∃ W1, W1 = ((w.alloc (.cells #[.int .i64 n, .slice a1 m1 c1] 24)).alloc (.cells #[.int .i64 n, .slice a2 m2 c2] 24)).alloc (.cells #[.int .i64 n, .slice a3 m3 c3] 24) := ⟨_, rfl⟩
  have X1 : T3 w W1 (.int .i64 n) (.slice a1 m1 c1) (.int .i64 n) (.slice a2 m2 c2) (.int .i64 n) (.slice a3 m3 c3) := by rw [hW1]; exact t3_new _ _ _ _ _ _ _
  have H1 := Lib.hid h1
  have H2 := Lib.hid h2
  have H3 := Lib.hid h3
  have X := Lib.hid X1
  have hW1' := Lib.hid hW1
  have k1 := X1.z1.cell 1
  have k3 := X1.z2.cell 1
  have k5 := X1.z3.cell 1
  have hl1 := Lib.hid (large_any a1 m1 c1 h1.max W1)
  have hl2 := Lib.hid (large_any a2 m2 c2 h2.max W1)
  have hl3 := Lib.hid (large_any a3 m3 c3 h3.max W1)
  have qt := Lib.hid (fun W (hW : Below w.heap.size w W) => rtwo_any n n a1 a2 m1 m2 c1 c2 l1 l2 W (H1.out.below hW) (H2.out.below hW))
  have qu := Lib.hid (fun W (hW : Below w.heap.size w W) => rtwo_any n n a1 a3 m1 m3 c1 c3 l1 l3 W (H1.out.below hW) (H3.out.below hW))
  rw [decide_eq_false (show ¬ (200 : Int) < (m1 : Int) by omega)] at hl1
  rw [decide_eq_false (show ¬ (200 : Int) < (m2 : Int) by omega)] at hl2
  rw [decide_eq_false (show ¬ (200 : Int) < (m3 : Int) by omega)] at hl3
  rw [z1.two z2] at qt
  rw [z1.two z3] at qu
  have hni : (n : Int) ≤ 8 := by have := z1.1; omega
  have e1 := joinL_small z1 z2
  have e2 := meetL_small z1 z2
  have zj := joinL_isz z1 z2
  have zm := meetL_isz z1 z2
  have qj := Lib.hid (fun W (hW : Below w.heap.size w W) => (zjoin_ok a1 a2 m1 m2 c1 c2 l1 l2 n z1 z2 W (H1.out.below hW) (H2.out.below hW)).mono (fun e w' h => ends_of (m := (joinL n l1 l2).length) rfl (by omega) h))
  have qm := Lib.hid (fun W (hW : Below w.heap.size w W) => (zmeet_ok a1 a2 m1 m2 c1 c2 l1 l2 n z1 z2 W (H1.out.below hW) (H2.out.below hW)).mono (fun e w' h => ends_of (m := (meetL n l1 l2).length) rfl (by omega) h))
  have r1 := Lib.hid (fun W (hW : Below w.heap.size w W) => zleq_ok a1 a3 m1 m3 c1 c3 l1 l3 n z1 z3 W (H1.out.below hW) (H3.out.below hW))
  rw [hx] at r1
  have r2 := Lib.hid (fun W (hW : Below w.heap.size w W) => zleq_ok a2 a3 m2 m3 c2 c3 l2 l3 n z2 z3 W (H2.out.below hW) (H3.out.below hW))
  have r3 := Lib.hid (fun W aj cj (hW : Below w.heap.size w W) (hJ : SL W aj (joinL n l1 l2).length cj (joinL n l1 l2)) => zleq_ok aj a3 (joinL n l1 l2).length m3 cj c3 (joinL n l1 l2) l3 n zj z3 W hJ (H3.out.below hW))
  rw [leq_join z1 z2 z3, hx, Bool.false_and] at r3
  have r4 := Lib.hid (fun W (hW : Below w.heap.size w W) => zleq_ok a3 a1 m3 m1 c3 c1 l3 l1 n z3 z1 W (H3.out.below hW) (H1.out.below hW))
  rw [hd] at r4
  have r5 := Lib.hid (fun W (hW : Below w.heap.size w W) => zleq_ok a3 a2 m3 m2 c3 c2 l3 l2 n z3 z2 W (H3.out.below hW) (H2.out.below hW))
  have r6 := Lib.hid (fun W am cm (hW : Below w.heap.size w W) (hM : SL W am (meetL n l1 l2).length cm (meetL n l1 l2)) => zleq_ok a3 am m3 (meetL n l1 l2).length c3 cm l3 (meetL n l1 l2) n z3 zm W (H3.out.below hW) hM)
  rw [leq_meet z1 z2 z3, hd, Bool.false_and] at r6
  have qp := Lib.hid (fun W (k : Nat) (hk : k ≤ n) (hW : Below w.heap.size w W) => (point_ok n a1 m1 c1 l1 k hk hA W (H1.out.below hW)).mono (R' := EndsP n (pointL n l1 k) W) (by rintro e w' ⟨a2, c2, rfl, hc2, hs, hb⟩; exact ⟨a2, c2, rfl, ⟨(point_len _ _ _).symm, hc2, by omega, hs⟩, hb⟩))
  have qh := Lib.hid (fun W (k : Nat) ap cp (hW : Below w.heap.size w W) (hP : SL W ap n cp (pointL n l1 k)) => has_any n a3 m3 c3 l3 ap n cp (pointL n l1 k) W (H3.out.below hW) hP)
  have hall := leq_points hA hC
  rw [hx] at hall
  obtain ⟨hh, hhe⟩ : ∃ hh : Nat → Bool, hh = fun k => hasB n l3 (pointL n l1 k) := ⟨_, rfl⟩
  have hend : Hid ((List.range (n + 1)).all hh = false) := Lib.hid (by rw [hhe]; exact hall.symm)
  have hq : Hid (∀ k, hasB n l3 (pointL n l1 k) = hh k) := Lib.hid (fun k => by rw [hhe])
  have hnx : Hid (∀ k, (List.range (k + 1)).all hh = ((List.range k).all hh && hh k)) := Lib.hid (fun k => by rw [List.range_succ, List.all_append]; simp)
  clear hall hhe
  clear hW1 X1 h1 h2 h3 z1 z2 z3 zj zm hx hd H1 H2 H3 hA hC hm1 hm3
  generalize hmj : (joinL n l1 l2).length = mj at *
  generalize hmm : (meetL n l1 l2).length = mm at *
  clear hmj hmm
  generalize joinL n l1 l2 = J at *
  generalize meetL n l1 l2 = M at *
  generalize leqB l2 l3 = y at *
  generalize leqB l3 l2 = ee at *
  go_enter Try.func8, Try.ntmps8
  go_wp2_with fail
  rw [← hW1'.out]
  refine hl1.out.mono ?_
  rintro e w1 ⟨rfl, rfl⟩
  go_wp2_with fail
  refine hl2.out.mono ?_
  rintro e w1 ⟨rfl, rfl⟩
  go_wp2_with fail
  refine hl3.out.mono ?_
  rintro e w1 ⟨rfl, rfl⟩
  clear hl1 hl2 hl3 hW1'
  have k0 := X.out.z1.cell 0
  have k2 := X.out.z2.cell 0
  have k4 := X.out.z3.cell 0
  have q := Lib.hid (qt.out _ X.out.bl)
  go_wp2_with fail
  refine q.out.mono ?_
  rintro e w2 ⟨rfl, b⟩
  replace X := Lib.hid (X.out.on b)
  clear k0 k1 k2 k3 k4 k5 q b qt
  have k1 := X.out.z1.cell 1
  have k3 := X.out.z2.cell 1
  have k5 := X.out.z3.cell 1
  have k0 := X.out.z1.cell 0
  have k2 := X.out.z2.cell 0
  have k4 := X.out.z3.cell 0
  have q := Lib.hid (qu.out _ X.out.bl)
  go_wp2_with fail
  refine q.out.mono ?_
  rintro e w3 ⟨rfl, b⟩
  replace X := Lib.hid (X.out.on b)
  clear k0 k1 k2 k3 k4 k5 q b qu
  have k1 := X.out.z1.cell 1
  have k3 := X.out.z2.cell 1
  have k5 := X.out.z3.cell 1
  have k0 := X.out.z1.cell 0
  have k2 := X.out.z2.cell 0
  have k4 := X.out.z3.cell 0
  have q := Lib.hid (qj.out _ X.out.bl)
  go_wp2_with fail
  refine q.out.mono ?_
  rintro e w4 ⟨a4x, c4x, rfl, s4, b4⟩
  clear k0 k1 k2 k3 k4 k5 q qj
  have k0 : w4.cell? ⟨w.heap.size, 0, none⟩ = some (.int .i64 n) := (X.out.z1.below b4 X.out.z1.lt).cell 0
  have k1 : w4.cell? ⟨w.heap.size, 1, none⟩ = some (.slice a1 m1 c1) := (X.out.z1.below b4 X.out.z1.lt).cell 1
  have k2 : w4.cell? ⟨w.heap.size + 1, 0, none⟩ = some (.int .i64 n) := (X.out.z2.below b4 X.out.z2.lt).cell 0
  have k3 : w4.cell? ⟨w.heap.size + 1, 1, none⟩ = some (.slice a2 m2 c2) := (X.out.z2.below b4 X.out.z2.lt).cell 1
  have k4 : w4.cell? ⟨w.heap.size + 1 + 1, 0, none⟩ = some (.int .i64 n) := (X.out.z3.below b4 X.out.z3.lt).cell 0
  have k5 : w4.cell? ⟨w.heap.size + 1 + 1, 1, none⟩ = some (.slice a3 m3 c3) := (X.out.z3.below b4 X.out.z3.lt).cell 1
  have k6 : w.heap.size < w4.heap.size := (X.out.z1.below b4 X.out.z1.lt).lt
  have k7 : w.heap.size + 1 < w4.heap.size := (X.out.z2.below b4 X.out.z2.lt).lt
  have k8 : w.heap.size + 1 + 1 < w4.heap.size := (X.out.z3.below b4 X.out.z3.lt).lt
  have B4 := b4.trans ((box_below w4 #[.int .i64 n, .slice a4x mj c4x] 24).mono b4.size)
  replace X := Lib.hid (X.out.on B4)
  have Zj := Lib.hid (Holds.new w4 24 #[.int .i64 n, .slice a4x mj c4x])
  have Sj := Lib.hid (s4.below (box_below w4 #[.int .i64 n, .slice a4x mj c4x] 24))
  clear b4 s4 B4
  have q := Lib.hid (qm.out _ X.out.bl)
  go_wp2_with fail
  refine q.out.mono ?_
  rintro e w5 ⟨a5x, c5x, rfl, s5, b5⟩
  clear k0 k1 k2 k3 k4 k5 k6 k7 k8 q qm
  have k0 : w5.cell? ⟨w.heap.size, 0, none⟩ = some (.int .i64 n) := (X.out.z1.below b5 X.out.z1.lt).cell 0
  have k1 : w5.cell? ⟨w.heap.size, 1, none⟩ = some (.slice a1 m1 c1) := (X.out.z1.below b5 X.out.z1.lt).cell 1
  have k2 : w5.cell? ⟨w.heap.size + 1, 0, none⟩ = some (.int .i64 n) := (X.out.z2.below b5 X.out.z2.lt).cell 0
  have k3 : w5.cell? ⟨w.heap.size + 1, 1, none⟩ = some (.slice a2 m2 c2) := (X.out.z2.below b5 X.out.z2.lt).cell 1
  have k4 : w5.cell? ⟨w.heap.size + 1 + 1, 0, none⟩ = some (.int .i64 n) := (X.out.z3.below b5 X.out.z3.lt).cell 0
  have k5 : w5.cell? ⟨w.heap.size + 1 + 1, 1, none⟩ = some (.slice a3 m3 c3) := (X.out.z3.below b5 X.out.z3.lt).cell 1
  have k6 : w.heap.size < w5.heap.size := (X.out.z1.below b5 X.out.z1.lt).lt
  have k7 : w.heap.size + 1 < w5.heap.size := (X.out.z2.below b5 X.out.z2.lt).lt
  have k8 : w.heap.size + 1 + 1 < w5.heap.size := (X.out.z3.below b5 X.out.z3.lt).lt
  have B5 := b5.trans ((box_below w5 #[.int .i64 n, .slice a5x mm c5x] 24).mono b5.size)
  replace X := Lib.hid (X.out.on B5)
  replace Zj := Lib.hid (Zj.out.below B5 Zj.out.lt)
  replace Sj := Lib.hid (Sj.out.below B5)
  have Zm := Lib.hid (Holds.new w5 24 #[.int .i64 n, .slice a5x mm c5x])
  have Sm := Lib.hid (s5.below (box_below w5 #[.int .i64 n, .slice a5x mm c5x] 24))
  clear b5 s5 B5
  have q := Lib.hid (r1.out _ X.out.bl)
  go_wp2_with fail
  refine q.out.mono ?_
  rintro e w6 ⟨rfl, b⟩
  replace X := Lib.hid (X.out.on b)
  replace Zj := Lib.hid (Zj.out.below b Zj.out.lt)
  replace Sj := Lib.hid (Sj.out.below b)
  replace Zm := Lib.hid (Zm.out.below b Zm.out.lt)
  replace Sm := Lib.hid (Sm.out.below b)
  clear k0 k1 k2 k3 k4 k5 k6 k7 k8 r1 q b
  have k0 := X.out.z1.cell 0
  have k1 := X.out.z1.cell 1
  have k2 := X.out.z2.cell 0
  have k3 := X.out.z2.cell 1
  have k4 := X.out.z3.cell 0
  have k5 := X.out.z3.cell 1
  have j0 := Zj.out.cell 0
  have j1 := Zj.out.cell 1
  have n0 := Zm.out.cell 0
  have n1 := Zm.out.cell 1
  have q := Lib.hid (r2.out _ X.out.bl)
  go_wp2_with fail
  refine q.out.mono ?_
  rintro e w7 ⟨rfl, b⟩
  replace X := Lib.hid (X.out.on b)
  replace Zj := Lib.hid (Zj.out.below b Zj.out.lt)
  replace Sj := Lib.hid (Sj.out.below b)
  replace Zm := Lib.hid (Zm.out.below b Zm.out.lt)
  replace Sm := Lib.hid (Sm.out.below b)
  clear k0 k1 k2 k3 k4 k5 j0 j1 n0 n1 r2 q b
  have k0 := X.out.z1.cell 0
  have k1 := X.out.z1.cell 1
  have k2 := X.out.z2.cell 0
  have k3 := X.out.z2.cell 1
  have k4 := X.out.z3.cell 0
  have k5 := X.out.z3.cell 1
  have j0 := Zj.out.cell 0
  have j1 := Zj.out.cell 1
  have n0 := Zm.out.cell 0
  have n1 := Zm.out.cell 1
  have q := Lib.hid (r3.out _ a4x c4x X.out.bl Sj.out)
  go_wp2_with fail
  refine q.out.mono ?_
  rintro e w8 ⟨rfl, b⟩
  replace X := Lib.hid (X.out.on b)
  replace Zj := Lib.hid (Zj.out.below b Zj.out.lt)
  replace Sj := Lib.hid (Sj.out.below b)
  replace Zm := Lib.hid (Zm.out.below b Zm.out.lt)
  replace Sm := Lib.hid (Sm.out.below b)
  clear k0 k1 k2 k3 k4 k5 j0 j1 n0 n1 r3 q b
  have k0 := X.out.z1.cell 0
  have k1 := X.out.z1.cell 1
  have k2 := X.out.z2.cell 0
  have k3 := X.out.z2.cell 1
  have k4 := X.out.z3.cell 0
  have k5 := X.out.z3.cell 1
  have j0 := Zj.out.cell 0
  have j1 := Zj.out.cell 1
  have n0 := Zm.out.cell 0
  have n1 := Zm.out.cell 1
  have q := Lib.hid (r4.out _ X.out.bl)
  go_wp2_with fail
  refine q.out.mono ?_
  rintro e w9 ⟨rfl, b⟩
  replace X := Lib.hid (X.out.on b)
  replace Zj := Lib.hid (Zj.out.below b Zj.out.lt)
  replace Sj := Lib.hid (Sj.out.below b)
  replace Zm := Lib.hid (Zm.out.below b Zm.out.lt)
  replace Sm := Lib.hid (Sm.out.below b)
  clear k0 k1 k2 k3 k4 k5 j0 j1 n0 n1 r4 q b
  have k0 := X.out.z1.cell 0
  have k1 := X.out.z1.cell 1
  have k2 := X.out.z2.cell 0
  have k3 := X.out.z2.cell 1
  have k4 := X.out.z3.cell 0
  have k5 := X.out.z3.cell 1
  have j0 := Zj.out.cell 0
  have j1 := Zj.out.cell 1
  have n0 := Zm.out.cell 0
  have n1 := Zm.out.cell 1
  have q := Lib.hid (r5.out _ X.out.bl)
  go_wp2_with fail
  refine q.out.mono ?_
  rintro e w10 ⟨rfl, b⟩
  replace X := Lib.hid (X.out.on b)
  replace Zj := Lib.hid (Zj.out.below b Zj.out.lt)
  replace Sj := Lib.hid (Sj.out.below b)
  replace Zm := Lib.hid (Zm.out.below b Zm.out.lt)
  replace Sm := Lib.hid (Sm.out.below b)
  clear k0 k1 k2 k3 k4 k5 j0 j1 n0 n1 r5 q b
  have k0 := X.out.z1.cell 0
  have k1 := X.out.z1.cell 1
  have k2 := X.out.z2.cell 0
  have k3 := X.out.z2.cell 1
  have k4 := X.out.z3.cell 0
  have k5 := X.out.z3.cell 1
  have j0 := Zj.out.cell 0
  have j1 := Zj.out.cell 1
  have n0 := Zm.out.cell 0
  have n1 := Zm.out.cell 1
  have q := Lib.hid (r6.out _ a5x c5x X.out.bl Sm.out)
  go_wp2_with fail
  refine q.out.mono ?_
  rintro e w11 ⟨rfl, b⟩
  replace X := Lib.hid (X.out.on b)
  replace Zj := Lib.hid (Zj.out.below b Zj.out.lt)
  replace Sj := Lib.hid (Sj.out.below b)
  replace Zm := Lib.hid (Zm.out.below b Zm.out.lt)
  replace Sm := Lib.hid (Sm.out.below b)
  clear k0 k1 k2 k3 k4 k5 j0 j1 n0 n1 r6 q b
  clear Zj Sj Zm Sm
  have hlv := Lib.hid (zlivesAt w _ X.out.bl)
  go_wp2_with fail
  refine hlv.out.mono ?_
  rintro e w12 ⟨rfl, b, -⟩
  replace X := Lib.hid (X.out.on b)
  clear b hlv
  have k0 := X.out.z1.cell 0
  have k1 := X.out.z1.cell 1
  have k5 := X.out.z3.cell 1
  go_wp2
  go_loopw [23, 24] (fun o x wr => ∃ k : Nat, k ≤ n + 1 ∧ x = .int .i64 k ∧ o = .bool (!(List.range k).all hh) ∧ Hid (T3 w wr (.int .i64 n) (.slice a1 m1 c1) (.int .i64 n) (.slice a2 m2 c2) (.int .i64 n) (.slice a3 m3 c3))) (fun _ x _ => n + 1 - (intOf x).toNat)
  case atStart => exact ⟨0, by omega, rfl, rfl, X⟩
  case round =>
    clear k0 k1 k5
    obtain ⟨k, hk, rfl, rfl, Y⟩ := hrel
    have k0 := Y.out.z1.cell 0
    have k1 := Y.out.z1.cell 1
    have k4 := Y.out.z3.cell 0
    have k5 := Y.out.z3.cell 1
    by_cases hlt : k < n + 1
    · have hki : (k : Int) ≤ (n : Int) := by omega
      have q := Lib.hid (qp.out wr k (by omega) Y.out.bl)
      have hnk := Lib.hid (hnx.out k)
      cases hak : (List.range k).all hh
      · have hnk2 : Hid ((List.range (k + 1)).all hh = false) := Lib.hid (by rw [hnk.out, hak, Bool.false_and])
        clear hnk hak
        rw [Bool.not_false]
        go_wp2_with fail
        refine q.out.mono ?_
        rintro e v1 ⟨ap, cp, rfl, sp, b⟩
        have Y1 := Lib.hid (Y.out.on b)
        clear b q k0 k1 k4 k5 Y sp
        go_wp2
        go_roundw
        case rel => exact ⟨k + 1, by omega, by go_num, by rw [hnk2.out]; rfl, Y1⟩
        case measure => simp [intOf]; omega
      · have hnk2 : Hid ((List.range (k + 1)).all hh = hh k) := Lib.hid (by rw [hnk.out, hak, Bool.true_and])
        clear hnk hak
        rw [Bool.not_true]
        go_wp2_with fail
        refine q.out.mono ?_
        rintro e v1 ⟨ap, cp, rfl, sp, b⟩
        have Y1 := Lib.hid (Y.out.on b)
        have q2 := Lib.hid (qh.out v1 k ap cp Y1.out.bl sp)
        rw [hq.out k] at q2
        generalize hh k = u at *
        clear b q k0 k1 k4 k5 Y sp
        have k4 := Y1.out.z3.cell 0
        have k5 := Y1.out.z3.cell 1
        go_wp2_with fail
        refine q2.out.mono ?_
        rintro e v2 ⟨rfl, b⟩
        have Y2 := Lib.hid (Y1.out.on b)
        clear b q2 k4 k5 Y1
        go_wp2
        go_roundw
        case rel => exact ⟨k + 1, by omega, by go_num, by rw [hnk2.out], Y2⟩
        case measure => simp [intOf]; omega
    · have hke : k = n + 1 := by omega
      have he : (List.range k).all hh = false := by rw [hke]; exact hend.out
      rw [he]
      go_wp2
      go_ret
      exact ⟨rfl, Y.out.bl⟩
theorem zoneLeast_walk (w : World) (n1 : Int) (hn1 : (Lit.int .i64 n1).wf = true) (a1 : Option Addr) (m1 c1 : Nat) (l1 : List Int) (hl1 : l1.length = m1) (hm1 : m1 ≤ maxLen) (hc1 : m1 ≤ c1) (hw1 : ∀ n ∈ l1, (Lit.int .i64 n).wf = true) (hs1 : Sees .i64 w.heap.size w a1 l1) (n2 : Int) (hn2 : (Lit.int .i64 n2).wf = true) (a2 : Option Addr) (m2 c2 : Nat) (l2 : List Int) (hl2 : l2.length = m2) (hm2 : m2 ≤ maxLen) (hc2 : m2 ≤ c2) (hw2 : ∀ n ∈ l2, (Lit.int .i64 n).wf = true) (hs2 : Sees .i64 w.heap.size w a2 l2) (n3 : Int) (hn3 : (Lit.int .i64 n3).wf = true) (a3 : Option Addr) (m3 c3 : Nat) (l3 : List Int) (hl3 : l3.length = m3) (hm3 : m3 ≤ maxLen) (hc3 : m3 ≤ c3) (hw3 : ∀ n ∈ l3, (Lit.int .i64 n).wf = true) (hs3 : Sees .i64 w.heap.size w a3 l3) : Calls Try.prog 8 #[.agg #[.int .i64 n1, .slice a1 m1 c1], .agg #[.int .i64 n2, .slice a2 m2 c2], .agg #[.int .i64 n3, .slice a3 m3 c3]] w (Gives (.bool true) w) := by
  have h1 : SL w a1 m1 c1 l1 := ⟨hl1.symm, hc1, by unfold maxLen at hm1; omega, hs1⟩
  have h2 : SL w a2 m2 c2 l2 := ⟨hl2.symm, hc2, by unfold maxLen at hm2; omega, hs2⟩
  have h3 : SL w a3 m3 c3 l3 := ⟨hl3.symm, hc3, by unfold maxLen at hm3; omega, hs3⟩
  by_cases b1 : 200 < m1
  · exact least_large1 n1 n2 n3 a1 a2 a3 m1 m2 m3 c1 c2 c3 l1 l2 l3 w h1 h2 h3 b1
  by_cases b2 : 200 < m2
  · exact least_large2 n1 n2 n3 a1 a2 a3 m1 m2 m3 c1 c2 c3 l1 l2 l3 w h1 h2 h3 b1 b2
  by_cases b3 : 200 < m3
  · exact least_large3 n1 n2 n3 a1 a2 a3 m1 m2 m3 c1 c2 c3 l1 l2 l3 w h1 h2 h3 b1 b2 b3
  rcases two_or n1 l1 n2 l2 with h | ⟨n, rfl, rfl, z1, z2⟩
  · exact least_bad1 n1 n2 n3 a1 a2 a3 m1 m2 m3 c1 c2 c3 l1 l2 l3 w h1 h2 h3 b1 b2 b3 h
  rcases two_or n l1 n3 l3 with h | ⟨k, e1, rfl, -, z3⟩
  · exact least_bad2 n n n3 a1 a2 a3 m1 m2 m3 c1 c2 c3 l1 l2 l3 w h1 h2 h3 b1 b2 b3 (z1.two z2) h
  have hk : n = k := by omega
  subst hk
  rcases z1.2 with q1 | q1
  · rcases z3.2 with q3 | q3
    · exact least_nn n a1 a2 a3 m1 m2 m3 c1 c2 c3 l1 l2 l3 w h1 h2 h3 b1 b2 b3 z1 z2 z3 q1 q3
    · exact least_nf n a1 a2 a3 m1 m2 m3 c1 c2 c3 l1 l2 l3 w h1 h2 h3 b1 b2 b3 z1 z2 z3 q1 q3
  · rcases z3.2 with q3 | q3
    · exact least_fn n a1 a2 a3 m1 m2 m3 c1 c2 c3 l1 l2 l3 w h1 h2 h3 b1 b2 b3 z1 z2 z3 q1 q3
    · cases hx : leqB l1 l3 <;> cases hd : leqB l3 l1
      · exact least_ff_ff n a1 a2 a3 m1 m2 m3 c1 c2 c3 l1 l2 l3 w h1 h2 h3 b1 b2 b3 z1 z2 z3 q1 q3 hx hd
      · exact least_ff_ft n a1 a2 a3 m1 m2 m3 c1 c2 c3 l1 l2 l3 w h1 h2 h3 b1 b2 b3 z1 z2 z3 q1 q3 hx hd
      · exact least_ff_tf n a1 a2 a3 m1 m2 m3 c1 c2 c3 l1 l2 l3 w h1 h2 h3 b1 b2 b3 z1 z2 z3 q1 q3 hx hd
      · exact least_ff_tt n a1 a2 a3 m1 m2 m3 c1 c2 c3 l1 l2 l3 w h1 h2 h3 b1 b2 b3 z1 z2 z3 q1 q3 hx hd
end Go.Proofs.Ytacbkddkjlnklaa
