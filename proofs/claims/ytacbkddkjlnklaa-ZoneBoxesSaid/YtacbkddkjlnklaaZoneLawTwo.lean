/- ZoneTwo: the walk of the statement's function. (Written by gen-zone-two.py.) -/
import Derived.Test.YtacbkddkjlnklaaZoneLives
namespace Go.Proofs.Ytacbkddkjlnklaa
open Go.RowKit
set_option linter.unusedVariables false
set_option linter.unusedSimpArgs false

theorem zlivesAt (w W : World) (hb : Below w.heap.size w W) : Calls Try.prog 10 #[] W (fun e w' => e = .returned (.bool true) ∧ Below W.heap.size W w' ∧ Below w.heap.size w w') :=
  (zlives_any W).mono (fun e w' h => ⟨h.1, h.2, hb.trans (h.2.mono hb.size)⟩)
theorem zrnil (w : World) (a : Option Addr) (c : Nat) (h : SL w a 0 c []) : Calls Try.prog 16 #[.agg #[.int .i64 0, .slice a 0 c], .agg #[.int .i64 0, .slice none 0 0]] w (Gives (.bool true) w) := by
  have := rsame_any 0 0 a none [] [] 0 0 c 0 w h (SL.nil w)
  simpa using this
theorem zrself (n : Int) (a1 a2 : Option Addr) (l : List Int) (m1 m2 c1 c2 : Nat) (w : World) (h1 : SL w a1 m1 c1 l) (h2 : SL w a2 m2 c2 l) :
    Calls Try.prog 16 #[.agg #[.int .i64 n, .slice a1 m1 c1], .agg #[.int .i64 n, .slice a2 m2 c2]] w (Gives (.bool true) w) := by
  have := rsame_any n n a1 a2 l l m1 m2 c1 c2 w h1 h2
  simpa using this
theorem meetL_small {n : Nat} {l1 l2 : List Int} (z1 : IsZ n l1) (z2 : IsZ n l2) : (meetL n l1 l2).length ≤ 81 := by
  unfold meetL
  split
  · simp
  · split
    · simp
    · exact closed_small z1.1 _
theorem joinL_small {n : Nat} {l1 l2 : List Int} (z1 : IsZ n l1) (z2 : IsZ n l2) : (joinL n l1 l2).length ≤ 81 := by
  unfold joinL
  split
  · exact z2.small
  · split
    · exact z1.small
    · exact closed_small z1.1 _
theorem widenL_small {n : Nat} {l1 l2 : List Int} (z1 : IsZ n l1) (z2 : IsZ n l2) : (widenL n l1 l2).length ≤ 81 := by
  unfold widenL
  split
  · exact z2.small
  · split
    · exact z1.small
    · exact closed_small z1.1 _
set_option maxRecDepth 100000 in
set_option maxHeartbeats 4000000 in
theorem two_large_a (n1 n2 : Int) (a1 a2 : Option Addr) (m1 m2 c1 c2 : Nat) (l1 l2 : List Int) (w : World) (h1 : SL w a1 m1 c1 l1) (h2 : SL w a2 m2 c2 l2) (hl : 200 < m1) : Calls Try.prog 3 #[.agg #[.int .i64 n1, .slice a1 m1 c1], .agg #[.int .i64 n2, .slice a2 m2 c2]] w (Gives (.bool true) w) := by
  obtain ⟨W1, hW1⟩ : ∃ W1, W1 = (w.alloc (.cells #[.int .i64 n1, .slice a1 m1 c1] 24)).alloc (.cells #[.int .i64 n2, .slice a2 m2 c2] 24) := ⟨_, rfl⟩
  have X1 : B2 w W1 (.int .i64 n1) (.slice a1 m1 c1) (.int .i64 n2) (.slice a2 m2 c2) := by rw [hW1]; exact b2_new _ _ _ _ _
  have H1 := Lib.hid h1
  have H2 := Lib.hid h2
  have X := Lib.hid X1
  have hW1' := Lib.hid hW1
  have k1 := X1.z1.cell 1
  have k2 := X1.z2.cell 1
  have hl1 := Lib.hid (large_any a1 m1 c1 h1.max W1)
  have hl2 := Lib.hid (large_any a2 m2 c2 h2.max W1)
  have hlv := Lib.hid (zlivesAt w W1 X1.bl)
  rw [decide_eq_true (show (200 : Int) < (m1 : Int) by omega)] at hl1
  clear hW1 X1 h1 h2
  go_enter Try.func3, Try.ntmps3
  go_wp2_with fail
  rw [← hW1'.out]
  refine hl1.out.mono ?_
  rintro e w1 ⟨rfl, rfl⟩
  go_wp2_with fail
  refine hlv.out.mono ?_
  rintro e w1 ⟨rfl, b1, bw1⟩
  have bw := Lib.hid bw1
  clear b1 bw1 hl1 hl2 hlv
  go_wp2
  go_ret
  exact ⟨rfl, bw.out⟩
set_option maxRecDepth 100000 in
set_option maxHeartbeats 4000000 in
theorem two_large_b (n1 n2 : Int) (a1 a2 : Option Addr) (m1 m2 c1 c2 : Nat) (l1 l2 : List Int) (w : World) (h1 : SL w a1 m1 c1 l1) (h2 : SL w a2 m2 c2 l2) (hs : ¬ 200 < m1) (hl : 200 < m2) : Calls Try.prog 3 #[.agg #[.int .i64 n1, .slice a1 m1 c1], .agg #[.int .i64 n2, .slice a2 m2 c2]] w (Gives (.bool true) w) := by
  obtain ⟨W1, hW1⟩ : ∃ W1, W1 = (w.alloc (.cells #[.int .i64 n1, .slice a1 m1 c1] 24)).alloc (.cells #[.int .i64 n2, .slice a2 m2 c2] 24) := ⟨_, rfl⟩
  have X1 : B2 w W1 (.int .i64 n1) (.slice a1 m1 c1) (.int .i64 n2) (.slice a2 m2 c2) := by rw [hW1]; exact b2_new _ _ _ _ _
  have H1 := Lib.hid h1
  have H2 := Lib.hid h2
  have X := Lib.hid X1
  have hW1' := Lib.hid hW1
  have k1 := X1.z1.cell 1
  have k2 := X1.z2.cell 1
  have hl1 := Lib.hid (large_any a1 m1 c1 h1.max W1)
  have hl2 := Lib.hid (large_any a2 m2 c2 h2.max W1)
  have hlv := Lib.hid (zlivesAt w W1 X1.bl)
  rw [decide_eq_false (show ¬ (200 : Int) < (m1 : Int) by omega)] at hl1
  rw [decide_eq_true (show (200 : Int) < (m2 : Int) by omega)] at hl2
  clear hW1 X1 h1 h2
  go_enter Try.func3, Try.ntmps3
  go_wp2_with fail
  rw [← hW1'.out]
  refine hl1.out.mono ?_
  rintro e w1 ⟨rfl, rfl⟩
  go_wp2_with fail
  refine hl2.out.mono ?_
  rintro e w1 ⟨rfl, rfl⟩
  go_wp2_with fail
  refine hlv.out.mono ?_
  rintro e w1 ⟨rfl, b1, bw1⟩
  have bw := Lib.hid bw1
  clear b1 bw1 hl1 hl2 hlv
  go_wp2
  go_ret
  exact ⟨rfl, bw.out⟩
set_option maxRecDepth 100000 in
set_option maxHeartbeats 4000000 in
theorem two_bad (n1 n2 : Int) (a1 a2 : Option Addr) (m1 m2 c1 c2 : Nat) (l1 l2 : List Int) (w : World) (h1 : SL w a1 m1 c1 l1) (h2 : SL w a2 m2 c2 l2) (hs1 : ¬ 200 < m1) (hs2 : ¬ 200 < m2) (hne : twoE n1 l1 n2 l2 ≠ 0) : Calls Try.prog 3 #[.agg #[.int .i64 n1, .slice a1 m1 c1], .agg #[.int .i64 n2, .slice a2 m2 c2]] w (Gives (.bool true) w) := by
  obtain ⟨W1, hW1⟩ : ∃ W1, W1 = (w.alloc (.cells #[.int .i64 n1, .slice a1 m1 c1] 24)).alloc (.cells #[.int .i64 n2, .slice a2 m2 c2] 24) := ⟨_, rfl⟩
  have X1 : B2 w W1 (.int .i64 n1) (.slice a1 m1 c1) (.int .i64 n2) (.slice a2 m2 c2) := by rw [hW1]; exact b2_new _ _ _ _ _
  have H1 := Lib.hid h1
  have H2 := Lib.hid h2
  have X := Lib.hid X1
  have hW1' := Lib.hid hW1
  have k1 := X1.z1.cell 1
  have k2 := X1.z2.cell 1
  have hl1 := Lib.hid (large_any a1 m1 c1 h1.max W1)
  have hl2 := Lib.hid (large_any a2 m2 c2 h2.max W1)
  rw [decide_eq_false (show ¬ (200 : Int) < (m1 : Int) by omega)] at hl1
  rw [decide_eq_false (show ¬ (200 : Int) < (m2 : Int) by omega)] at hl2
  have qt := Lib.hid (fun W (hW : Below w.heap.size w W) => rtwo_any n1 n2 a1 a2 m1 m2 c1 c2 l1 l2 W (H1.out.below hW) (H2.out.below hW))
  have ql := Lib.hid (fun W (hW : Below w.heap.size w W) => zleq_bad n1 n2 a1 a2 m1 m2 c1 c2 l1 l2 W (H1.out.below hW) (H2.out.below hW) hne)
  have qm := Lib.hid (fun W (hW : Below w.heap.size w W) => (zmeet_bad n1 n2 a1 a2 m1 m2 c1 c2 l1 l2 W (H1.out.below hW) (H2.out.below hW) hne).mono (fun e w' h => ends_of (m := 0) rfl (by decide) h))
  have qj := Lib.hid (fun W (hW : Below w.heap.size w W) => (zjoin_bad n1 n2 a1 a2 m1 m2 c1 c2 l1 l2 W (H1.out.below hW) (H2.out.below hW) hne).mono (fun e w' h => ends_of (m := 0) rfl (by decide) h))
  have qw := Lib.hid (fun W (hW : Below w.heap.size w W) => (zwiden_bad n1 n2 a1 a2 m1 m2 c1 c2 l1 l2 W (H1.out.below hW) (H2.out.below hW) hne).mono (fun e w' h => ends_of (m := 0) rfl (by decide) h))
  clear hW1 X1 h1 h2 H1 H2
  generalize twoE n1 l1 n2 l2 = E at *
  have e1 : (E != 0) = true := by simpa using hne
  go_enter Try.func3, Try.ntmps3
  go_wp2_with fail
  rw [← hW1'.out]
  refine hl1.out.mono ?_
  rintro e w1 ⟨rfl, rfl⟩
  go_wp2_with fail
  refine hl2.out.mono ?_
  rintro e w1 ⟨rfl, rfl⟩
  clear hl1 hl2 hW1'
  have k0 := X.out.z1.cell 0
  have k3 := X.out.z2.cell 0
  have q := Lib.hid (qt.out _ X.out.bl)
  go_wp2_with fail
  refine q.out.mono ?_
  rintro e w2 ⟨rfl, b2⟩
  replace X := Lib.hid (X.out.on b2)
  clear k0 k1 k2 k3 q b2 qt
  have k0 := X.out.z1.cell 0
  have k1 := X.out.z1.cell 1
  have k2 := X.out.z2.cell 0
  have k3 := X.out.z2.cell 1
  have q := Lib.hid (ql.out _ X.out.bl)
  go_wp2_with fail
  refine q.out.mono ?_
  rintro e w3 ⟨rfl, b3⟩
  replace X := Lib.hid (X.out.on b3)
  clear k0 k1 k2 k3 q b3 ql
  have k0 := X.out.z1.cell 0
  have k1 := X.out.z1.cell 1
  have k2 := X.out.z2.cell 0
  have k3 := X.out.z2.cell 1
  have q := Lib.hid (qm.out _ X.out.bl)
  go_wp2_with fail
  refine q.out.mono ?_
  rintro e w4 ⟨a4, c4, rfl, s4, b4⟩
  clear q qm k0 k1 k2 k3
  have k0 : w4.cell? ⟨w.heap.size, 0, none⟩ = some (.int .i64 n1) := (X.out.z1.below b4 X.out.z1.lt).cell 0
  have k1 : w4.cell? ⟨w.heap.size, 1, none⟩ = some (.slice a1 m1 c1) := (X.out.z1.below b4 X.out.z1.lt).cell 1
  have k2 : w4.cell? ⟨w.heap.size + 1, 0, none⟩ = some (.int .i64 n2) := (X.out.z2.below b4 X.out.z2.lt).cell 0
  have k3 : w4.cell? ⟨w.heap.size + 1, 1, none⟩ = some (.slice a2 m2 c2) := (X.out.z2.below b4 X.out.z2.lt).cell 1
  have k4 : w.heap.size < w4.heap.size := (X.out.z1.below b4 X.out.z1.lt).lt
  have k5 : w.heap.size + 1 < w4.heap.size := (X.out.z2.below b4 X.out.z2.lt).lt
  have B4 := b4.trans ((box_below w4 #[.int .i64 0, .slice a4 0 c4] 24).mono b4.size)
  replace X := Lib.hid (X.out.on B4)
  have Zm := Lib.hid (Holds.new w4 24 #[.int .i64 0, .slice a4 0 c4])
  have Sm := Lib.hid (s4.below (box_below w4 #[.int .i64 0, .slice a4 0 c4] 24))
  clear b4 s4 B4
  have q := Lib.hid (qj.out _ X.out.bl)
  go_wp2_with fail
  refine q.out.mono ?_
  rintro e w5 ⟨a5, c5, rfl, s5, b5⟩
  clear q qj k0 k1 k2 k3 k4 k5
  have k0 : w5.cell? ⟨w.heap.size, 0, none⟩ = some (.int .i64 n1) := (X.out.z1.below b5 X.out.z1.lt).cell 0
  have k1 : w5.cell? ⟨w.heap.size, 1, none⟩ = some (.slice a1 m1 c1) := (X.out.z1.below b5 X.out.z1.lt).cell 1
  have k2 : w5.cell? ⟨w.heap.size + 1, 0, none⟩ = some (.int .i64 n2) := (X.out.z2.below b5 X.out.z2.lt).cell 0
  have k3 : w5.cell? ⟨w.heap.size + 1, 1, none⟩ = some (.slice a2 m2 c2) := (X.out.z2.below b5 X.out.z2.lt).cell 1
  have k4 : w.heap.size < w5.heap.size := (X.out.z1.below b5 X.out.z1.lt).lt
  have k5 : w.heap.size + 1 < w5.heap.size := (X.out.z2.below b5 X.out.z2.lt).lt
  have B5 := b5.trans ((box_below w5 #[.int .i64 0, .slice a5 0 c5] 24).mono b5.size)
  replace X := Lib.hid (X.out.on B5)
  replace Zm := Lib.hid (Zm.out.below B5 Zm.out.lt)
  replace Sm := Lib.hid (Sm.out.below B5)
  have Zj := Lib.hid (Holds.new w5 24 #[.int .i64 0, .slice a5 0 c5])
  have Sj := Lib.hid (s5.below (box_below w5 #[.int .i64 0, .slice a5 0 c5] 24))
  clear b5 s5 B5
  have q := Lib.hid (qw.out _ X.out.bl)
  go_wp2_with fail
  refine q.out.mono ?_
  rintro e w6 ⟨a6, c6, rfl, s6, b6⟩
  clear q qw k0 k1 k2 k3 k4 k5
  have B6 := b6.trans ((box_below w6 #[.int .i64 0, .slice a6 0 c6] 24).mono b6.size)
  replace X := Lib.hid (X.out.on B6)
  replace Zm := Lib.hid (Zm.out.below B6 Zm.out.lt)
  replace Sm := Lib.hid (Sm.out.below B6)
  replace Zj := Lib.hid (Zj.out.below B6 Zj.out.lt)
  replace Sj := Lib.hid (Sj.out.below B6)
  have Zw := Lib.hid (Holds.new w6 24 #[.int .i64 0, .slice a6 0 c6])
  have Sw := Lib.hid (s6.below (box_below w6 #[.int .i64 0, .slice a6 0 c6] 24))
  clear b6 s6 B6
  have hlv := Lib.hid (zlivesAt w _ X.out.bl)
  go_wp2_with fail
  refine hlv.out.mono ?_
  rintro e w7 ⟨rfl, b7, -⟩
  replace X := Lib.hid (X.out.on b7)
  replace Zm := Lib.hid (Zm.out.below b7 Zm.out.lt)
  replace Sm := Lib.hid (Sm.out.below b7)
  replace Zj := Lib.hid (Zj.out.below b7 Zj.out.lt)
  replace Sj := Lib.hid (Sj.out.below b7)
  replace Zw := Lib.hid (Zw.out.below b7 Zw.out.lt)
  replace Sw := Lib.hid (Sw.out.below b7)
  clear b7 hlv
  have d0 := Zm.out.cell 0
  have d1 := Zm.out.cell 1
  have q := Lib.hid (zrnil _ a4 c4 Sm.out)
  go_wp2_with fail
  refine q.out.mono ?_
  rintro e v4 ⟨rfl, b⟩
  replace X := Lib.hid (X.out.on b)
  replace Zj := Lib.hid (Zj.out.below b Zj.out.lt)
  replace Zw := Lib.hid (Zw.out.below b Zw.out.lt)
  replace Sj := Lib.hid (Sj.out.below b)
  replace Sw := Lib.hid (Sw.out.below b)
  clear d0 d1 q b
  have d0 := Zj.out.cell 0
  have d1 := Zj.out.cell 1
  have q := Lib.hid (zrnil _ a5 c5 Sj.out)
  go_wp2_with fail
  refine q.out.mono ?_
  rintro e v5 ⟨rfl, b⟩
  replace X := Lib.hid (X.out.on b)
  replace Zj := Lib.hid (Zj.out.below b Zj.out.lt)
  replace Zw := Lib.hid (Zw.out.below b Zw.out.lt)
  replace Sj := Lib.hid (Sj.out.below b)
  replace Sw := Lib.hid (Sw.out.below b)
  clear d0 d1 q b
  have d0 := Zw.out.cell 0
  have d1 := Zw.out.cell 1
  have q := Lib.hid (zrnil _ a6 c6 Sw.out)
  go_wp2_with fail
  refine q.out.mono ?_
  rintro e v6 ⟨rfl, b⟩
  replace X := Lib.hid (X.out.on b)
  replace Zj := Lib.hid (Zj.out.below b Zj.out.lt)
  replace Zw := Lib.hid (Zw.out.below b Zw.out.lt)
  replace Sj := Lib.hid (Sj.out.below b)
  replace Sw := Lib.hid (Sw.out.below b)
  clear d0 d1 q b
  go_wp2
  go_ret
  exact ⟨rfl, X.out.bl⟩
set_option maxRecDepth 100000 in
set_option maxHeartbeats 4000000 in
theorem two_ok (n : Nat) (a1 a2 : Option Addr) (m1 m2 c1 c2 : Nat) (l1 l2 : List Int) (w : World) (h1 : SL w a1 m1 c1 l1) (h2 : SL w a2 m2 c2 l2) (hs1 : ¬ 200 < m1) (hs2 : ¬ 200 < m2) (z1 : IsZ n l1) (z2 : IsZ n l2) : Calls Try.prog 3 #[.agg #[.int .i64 n, .slice a1 m1 c1], .agg #[.int .i64 n, .slice a2 m2 c2]] w (Gives (.bool true) w) := by
  obtain ⟨W1, hW1⟩ : ∃ W1, W1 = (w.alloc (.cells #[.int .i64 n, .slice a1 m1 c1] 24)).alloc (.cells #[.int .i64 n, .slice a2 m2 c2] 24) := ⟨_, rfl⟩
  have X1 : B2 w W1 (.int .i64 n) (.slice a1 m1 c1) (.int .i64 n) (.slice a2 m2 c2) := by rw [hW1]; exact b2_new _ _ _ _ _
  have H1 := Lib.hid h1
  have H2 := Lib.hid h2
  have X := Lib.hid X1
  have hW1' := Lib.hid hW1
  have k1 := X1.z1.cell 1
  have k2 := X1.z2.cell 1
  have hl1 := Lib.hid (large_any a1 m1 c1 h1.max W1)
  have hl2 := Lib.hid (large_any a2 m2 c2 h2.max W1)
  rw [decide_eq_false (show ¬ (200 : Int) < (m1 : Int) by omega)] at hl1
  rw [decide_eq_false (show ¬ (200 : Int) < (m2 : Int) by omega)] at hl2
  have e1 := meetL_small z1 z2
  have e2 := joinL_small z1 z2
  have e3 := widenL_small z1 z2
  have hlen : l1 = [] ∨ l2 = [] ∨ m1 = m2 := by
    rcases z1.2 with q1 | q1
    · exact .inl q1
    · rcases z2.2 with q2 | q2
      · exact .inr (.inl q2)
      · exact .inr (.inr (by rw [h1.len, h2.len, q1.len, q2.len]))
  have qt := Lib.hid (fun W (hW : Below w.heap.size w W) => rtwo_any n n a1 a2 m1 m2 c1 c2 l1 l2 W (H1.out.below hW) (H2.out.below hW))
  rw [z1.two z2] at qt
  have ql := Lib.hid (fun W (hW : Below w.heap.size w W) => zleq_ok a1 a2 m1 m2 c1 c2 l1 l2 n z1 z2 W (H1.out.below hW) (H2.out.below hW))
  have qm := Lib.hid (fun W (hW : Below w.heap.size w W) => (zmeet_ok a1 a2 m1 m2 c1 c2 l1 l2 n z1 z2 W (H1.out.below hW) (H2.out.below hW)).mono (fun e w' h => ends_of (m := (meetL n l1 l2).length) rfl (by omega) h))
  have qj := Lib.hid (fun W (hW : Below w.heap.size w W) => (zjoin_ok a1 a2 m1 m2 c1 c2 l1 l2 n z1 z2 W (H1.out.below hW) (H2.out.below hW)).mono (fun e w' h => ends_of (m := (joinL n l1 l2).length) rfl (by omega) h))
  have qw := Lib.hid (fun W (hW : Below w.heap.size w W) => (zwiden_ok a1 a2 m1 m2 c1 c2 l1 l2 n z1 z2 W (H1.out.below hW) (H2.out.below hW)).mono (fun e w' h => ends_of (m := (widenL n l1 l2).length) rfl (by omega) h))
  have rl := Lib.hid (fun W (hW : Below w.heap.size w W) => rleq_any n n a1 a2 m1 m2 c1 c2 l1 l2 W (H1.out.below hW) (H2.out.below hW) hlen)
  have rm := Lib.hid (fun W (hW : Below w.heap.size w W) => rmeet_any a1 a2 m1 m2 c1 c2 l1 l2 n z1 z2 W (H1.out.below hW) (H2.out.below hW))
  have rj := Lib.hid (fun W (hW : Below w.heap.size w W) => rjoin_any a1 a2 m1 m2 c1 c2 l1 l2 n z1 z2 W (H1.out.below hW) (H2.out.below hW))
  have rw_ := Lib.hid (fun W (hW : Below w.heap.size w W) => rwiden_any a1 a2 m1 m2 c1 c2 l1 l2 n z1 z2 W (H1.out.below hW) (H2.out.below hW))
  clear hW1 X1 h1 h2 H1 H2 hlen z1 z2
  generalize hmm : (meetL n l1 l2).length = mm at *
  generalize hmj : (joinL n l1 l2).length = mj at *
  generalize hmw : (widenL n l1 l2).length = mw at *
  clear hmm hmj hmw
  generalize meetL n l1 l2 = R1 at *
  generalize joinL n l1 l2 = R2 at *
  generalize widenL n l1 l2 = R3 at *
  generalize leqB l1 l2 = u at *
  go_enter Try.func3, Try.ntmps3
  go_wp2_with fail
  rw [← hW1'.out]
  refine hl1.out.mono ?_
  rintro e w1 ⟨rfl, rfl⟩
  go_wp2_with fail
  refine hl2.out.mono ?_
  rintro e w1 ⟨rfl, rfl⟩
  clear hl1 hl2 hW1'
  have k0 := X.out.z1.cell 0
  have k3 := X.out.z2.cell 0
  have q := Lib.hid (qt.out _ X.out.bl)
  go_wp2_with fail
  refine q.out.mono ?_
  rintro e w2 ⟨rfl, b2⟩
  replace X := Lib.hid (X.out.on b2)
  clear k0 k1 k2 k3 q b2 qt
  have k0 := X.out.z1.cell 0
  have k1 := X.out.z1.cell 1
  have k2 := X.out.z2.cell 0
  have k3 := X.out.z2.cell 1
  have q := Lib.hid (ql.out _ X.out.bl)
  go_wp2_with fail
  refine q.out.mono ?_
  rintro e w3 ⟨rfl, b3⟩
  replace X := Lib.hid (X.out.on b3)
  clear k0 k1 k2 k3 q b3 ql
  have k0 := X.out.z1.cell 0
  have k1 := X.out.z1.cell 1
  have k2 := X.out.z2.cell 0
  have k3 := X.out.z2.cell 1
  have q := Lib.hid (qm.out _ X.out.bl)
  go_wp2_with fail
  refine q.out.mono ?_
  rintro e w4 ⟨a4, c4, rfl, s4, b4⟩
  clear q qm k0 k1 k2 k3
  have k0 : w4.cell? ⟨w.heap.size, 0, none⟩ = some (.int .i64 n) := (X.out.z1.below b4 X.out.z1.lt).cell 0
  have k1 : w4.cell? ⟨w.heap.size, 1, none⟩ = some (.slice a1 m1 c1) := (X.out.z1.below b4 X.out.z1.lt).cell 1
  have k2 : w4.cell? ⟨w.heap.size + 1, 0, none⟩ = some (.int .i64 n) := (X.out.z2.below b4 X.out.z2.lt).cell 0
  have k3 : w4.cell? ⟨w.heap.size + 1, 1, none⟩ = some (.slice a2 m2 c2) := (X.out.z2.below b4 X.out.z2.lt).cell 1
  have k4 : w.heap.size < w4.heap.size := (X.out.z1.below b4 X.out.z1.lt).lt
  have k5 : w.heap.size + 1 < w4.heap.size := (X.out.z2.below b4 X.out.z2.lt).lt
  have B4 := b4.trans ((box_below w4 #[.int .i64 n, .slice a4 mm c4] 24).mono b4.size)
  replace X := Lib.hid (X.out.on B4)
  have Zm := Lib.hid (Holds.new w4 24 #[.int .i64 n, .slice a4 mm c4])
  have Sm := Lib.hid (s4.below (box_below w4 #[.int .i64 n, .slice a4 mm c4] 24))
  clear b4 s4 B4
  have q := Lib.hid (qj.out _ X.out.bl)
  go_wp2_with fail
  refine q.out.mono ?_
  rintro e w5 ⟨a5, c5, rfl, s5, b5⟩
  clear q qj k0 k1 k2 k3 k4 k5
  have k0 : w5.cell? ⟨w.heap.size, 0, none⟩ = some (.int .i64 n) := (X.out.z1.below b5 X.out.z1.lt).cell 0
  have k1 : w5.cell? ⟨w.heap.size, 1, none⟩ = some (.slice a1 m1 c1) := (X.out.z1.below b5 X.out.z1.lt).cell 1
  have k2 : w5.cell? ⟨w.heap.size + 1, 0, none⟩ = some (.int .i64 n) := (X.out.z2.below b5 X.out.z2.lt).cell 0
  have k3 : w5.cell? ⟨w.heap.size + 1, 1, none⟩ = some (.slice a2 m2 c2) := (X.out.z2.below b5 X.out.z2.lt).cell 1
  have k4 : w.heap.size < w5.heap.size := (X.out.z1.below b5 X.out.z1.lt).lt
  have k5 : w.heap.size + 1 < w5.heap.size := (X.out.z2.below b5 X.out.z2.lt).lt
  have B5 := b5.trans ((box_below w5 #[.int .i64 n, .slice a5 mj c5] 24).mono b5.size)
  replace X := Lib.hid (X.out.on B5)
  replace Zm := Lib.hid (Zm.out.below B5 Zm.out.lt)
  replace Sm := Lib.hid (Sm.out.below B5)
  have Zj := Lib.hid (Holds.new w5 24 #[.int .i64 n, .slice a5 mj c5])
  have Sj := Lib.hid (s5.below (box_below w5 #[.int .i64 n, .slice a5 mj c5] 24))
  clear b5 s5 B5
  have q := Lib.hid (qw.out _ X.out.bl)
  go_wp2_with fail
  refine q.out.mono ?_
  rintro e w6 ⟨a6, c6, rfl, s6, b6⟩
  clear q qw k0 k1 k2 k3 k4 k5
  have B6 := b6.trans ((box_below w6 #[.int .i64 n, .slice a6 mw c6] 24).mono b6.size)
  replace X := Lib.hid (X.out.on B6)
  replace Zm := Lib.hid (Zm.out.below B6 Zm.out.lt)
  replace Sm := Lib.hid (Sm.out.below B6)
  replace Zj := Lib.hid (Zj.out.below B6 Zj.out.lt)
  replace Sj := Lib.hid (Sj.out.below B6)
  have Zw := Lib.hid (Holds.new w6 24 #[.int .i64 n, .slice a6 mw c6])
  have Sw := Lib.hid (s6.below (box_below w6 #[.int .i64 n, .slice a6 mw c6] 24))
  clear b6 s6 B6
  have hlv := Lib.hid (zlivesAt w _ X.out.bl)
  go_wp2_with fail
  refine hlv.out.mono ?_
  rintro e w7 ⟨rfl, b7, -⟩
  replace X := Lib.hid (X.out.on b7)
  replace Zm := Lib.hid (Zm.out.below b7 Zm.out.lt)
  replace Sm := Lib.hid (Sm.out.below b7)
  replace Zj := Lib.hid (Zj.out.below b7 Zj.out.lt)
  replace Sj := Lib.hid (Sj.out.below b7)
  replace Zw := Lib.hid (Zw.out.below b7 Zw.out.lt)
  replace Sw := Lib.hid (Sw.out.below b7)
  clear b7 hlv
  have hc0 : ∀ W, Below w7.heap.size w7 W → W.cell? ⟨w.heap.size, 0, none⟩ = some (.int .i64 n) := fun W hW => (X.out.z1.below hW X.out.z1.lt).cell 0
  have hc1 : ∀ W, Below w7.heap.size w7 W → W.cell? ⟨w.heap.size, 1, none⟩ = some (.slice a1 m1 c1) := fun W hW => (X.out.z1.below hW X.out.z1.lt).cell 1
  have hc2 : ∀ W, Below w7.heap.size w7 W → W.cell? ⟨w.heap.size + 1, 0, none⟩ = some (.int .i64 n) := fun W hW => (X.out.z2.below hW X.out.z2.lt).cell 0
  have hc3 : ∀ W, Below w7.heap.size w7 W → W.cell? ⟨w.heap.size + 1, 1, none⟩ = some (.slice a2 m2 c2) := fun W hW => (X.out.z2.below hW X.out.z2.lt).cell 1
  have dm0 : ∀ W, Below w7.heap.size w7 W → W.cell? ⟨w4.heap.size, 0, none⟩ = some (.int .i64 n) := fun W hW => (Zm.out.below hW Zm.out.lt).cell 0
  have dm1 : ∀ W, Below w7.heap.size w7 W → W.cell? ⟨w4.heap.size, 1, none⟩ = some (.slice a4 mm c4) := fun W hW => (Zm.out.below hW Zm.out.lt).cell 1
  have dj0 : ∀ W, Below w7.heap.size w7 W → W.cell? ⟨w5.heap.size, 0, none⟩ = some (.int .i64 n) := fun W hW => (Zj.out.below hW Zj.out.lt).cell 0
  have dj1 : ∀ W, Below w7.heap.size w7 W → W.cell? ⟨w5.heap.size, 1, none⟩ = some (.slice a5 mj c5) := fun W hW => (Zj.out.below hW Zj.out.lt).cell 1
  have dw0 : ∀ W, Below w7.heap.size w7 W → W.cell? ⟨w6.heap.size, 0, none⟩ = some (.int .i64 n) := fun W hW => (Zw.out.below hW Zw.out.lt).cell 0
  have dw1 : ∀ W, Below w7.heap.size w7 W → W.cell? ⟨w6.heap.size, 1, none⟩ = some (.slice a6 mw c6) := fun W hW => (Zw.out.below hW Zw.out.lt).cell 1
  have ht : Hid (∀ W, Below w7.heap.size w7 W → Below w.heap.size w W) := Lib.hid (fun W hW => X.out.bl.trans (hW.mono X.out.bl.size))
  go_wp2
  refine wp_drawn_on (fun W => Below w7.heap.size w7 W) (by kernel_rfl) (below_drew (Below.refl _ _)) (fun hHeld => ?_)
  refine wpAnyH_take (i := 0) (oi := { dst := some 91, op := Go.Op.move (Go.Operand.tmp 6), type := 4, pos := "law.go:46", after := #[], guard := none }) (v := ?v1) rfl (by kernel_rfl) (by kernel_rfl) (by kernel_rfl) (fun _ _ _ h => h) (Or.inl ⟨by kernel_rfl, ?h1⟩) (by assumption) ?r1
  case h1 => (intro w hSw; (try dsimp only at hSw); go_simp; try with_reducible rfl)
  try simp only [Act.put, List.setIfInBounds_toArray, List.set_cons_zero, List.set_cons_succ]
  refine wpAnyH_take (i := 1) (oi := { dst := some 92, op := Go.Op.load 24 (Go.Operand.tmp 2), type := 24, pos := "law.go:46", after := #[], guard := none }) (v := ?v2) rfl (by kernel_rfl) (by kernel_rfl) (by kernel_rfl) (fun _ _ _ h => h) (Or.inl ⟨by kernel_rfl, ?h2⟩) (by assumption) ?r2
  case h2 => (intro w hSw; (try dsimp only at hSw); go_simp; try with_reducible rfl)
  try simp only [Act.put, List.setIfInBounds_toArray, List.set_cons_zero, List.set_cons_succ]
  refine wpAnyH_take (i := 2) (oi := { dst := some 93, op := Go.Op.load 24 (Go.Operand.tmp 3), type := 24, pos := "law.go:46", after := #[], guard := none }) (v := ?v3) rfl (by kernel_rfl) (by kernel_rfl) (by kernel_rfl) (fun _ _ _ h => h) (Or.inl ⟨by kernel_rfl, ?h3⟩) (by assumption) ?r3
  case h3 => (intro w hSw; (try dsimp only at hSw); go_simp; try with_reducible rfl)
  try simp only [Act.put, List.setIfInBounds_toArray, List.set_cons_zero, List.set_cons_succ]
  refine wpAnyH_ready (rs := [3]) (by kernel_rfl) (by simp) ?_
  refine AllReadyH.cons (o := { dst := some 94, op := Go.Op.call { callee := Go.Callee.value (Go.Operand.func 17), args := #[Go.Operand.tmp 92, Go.Operand.tmp 93], argTypes := #[24, 24] }, type := 4, pos := "law.go:46", after := #[{ on := 1, ground := Go.Ground.data }, { on := 2, ground := Go.Ground.data }], guard := none }) rfl (fun K hK => ?_) AllReadyH.nil
  go_simp
  refine (rl.out _ (ht.out _ hHeld)).mono ?_
  rintro e v3 ⟨rfl, b3⟩
  go_simp
  refine hK.out _ _ (hHeld.trans (b3.mono hHeld.size)) (fun hHeld => ?_)
  clear hK K
  try simp only [Act.put, List.setIfInBounds_toArray, List.set_cons_zero, List.set_cons_succ]
  refine wpAnyH_take (i := 4) (oi := { dst := some 95, op := Go.Op.binOp Go.BinOp.eql 4 (Go.Operand.tmp 91) (Go.Operand.tmp 94) 4, type := 4, pos := "law.go:46", after := #[{ on := 0, ground := Go.Ground.data }, { on := 3, ground := Go.Ground.data }], guard := none }) (v := ?v4) rfl (by kernel_rfl) (by kernel_rfl) (by kernel_rfl) (fun _ _ _ h => h) (Or.inl ⟨by kernel_rfl, ?h4⟩) (by assumption) ?r4
  case h4 => (intro w hSw; (try dsimp only at hSw); go_simp; try with_reducible rfl)
  try simp only [Act.put, List.setIfInBounds_toArray, List.set_cons_zero, List.set_cons_succ]
  refine wpAnyH_take (i := 5) (oi := { dst := some 96, op := Go.Op.move (Go.Operand.tmp 95), type := 4, pos := "law.go:46", after := #[{ on := 4, ground := Go.Ground.data }, { on := 3, ground := Go.Ground.chain }], guard := none }) (v := ?v5) rfl (by kernel_rfl) (by kernel_rfl) (by kernel_rfl) (fun _ _ _ h => h) (Or.inl ⟨by kernel_rfl, ?h5⟩) (by assumption) ?r5
  case h5 => (intro w hSw; (try dsimp only at hSw); go_simp; try with_reducible rfl)
  try simp only [Act.put, List.setIfInBounds_toArray, List.set_cons_zero, List.set_cons_succ]
  refine wpAnyH_take (i := 6) (oi := { dst := some 97, op := Go.Op.load 24 (Go.Operand.tmp 8), type := 24, pos := "law.go:46", after := #[{ on := 5, ground := Go.Ground.guard }], guard := some (5, true) }) (v := ?v6) rfl (by kernel_rfl) (by kernel_rfl) (by kernel_rfl) (fun _ _ _ h => h) (Or.inl ⟨by kernel_rfl, ?h6⟩) (by assumption) ?r6
  case h6 => (intro w hSw; (try dsimp only at hSw); go_simp; try with_reducible rfl)
  try simp only [Act.put, List.setIfInBounds_toArray, List.set_cons_zero, List.set_cons_succ]
  refine wpAnyH_take (i := 7) (oi := { dst := some 98, op := Go.Op.load 24 (Go.Operand.tmp 2), type := 24, pos := "law.go:46", after := #[{ on := 5, ground := Go.Ground.guard }], guard := some (5, true) }) (v := ?v7) rfl (by kernel_rfl) (by kernel_rfl) (by kernel_rfl) (fun _ _ _ h => h) (Or.inl ⟨by kernel_rfl, ?h7⟩) (by assumption) ?r7
  case h7 => (intro w hSw; (try dsimp only at hSw); go_simp; try with_reducible rfl)
  try simp only [Act.put, List.setIfInBounds_toArray, List.set_cons_zero, List.set_cons_succ]
  refine wpAnyH_take (i := 8) (oi := { dst := some 99, op := Go.Op.load 24 (Go.Operand.tmp 3), type := 24, pos := "law.go:46", after := #[{ on := 5, ground := Go.Ground.guard }], guard := some (5, true) }) (v := ?v8) rfl (by kernel_rfl) (by kernel_rfl) (by kernel_rfl) (fun _ _ _ h => h) (Or.inl ⟨by kernel_rfl, ?h8⟩) (by assumption) ?r8
  case h8 => (intro w hSw; (try dsimp only at hSw); go_simp; try with_reducible rfl)
  try simp only [Act.put, List.setIfInBounds_toArray, List.set_cons_zero, List.set_cons_succ]
  refine wpAnyH_ready (rs := [9]) (by kernel_rfl) (by simp) ?_
  refine AllReadyH.cons (o := { dst := some 100, op := Go.Op.call { callee := Go.Callee.value (Go.Operand.func 18), args := #[Go.Operand.tmp 98, Go.Operand.tmp 99], argTypes := #[24, 24] }, type := 24, pos := "law.go:46", after := #[{ on := 7, ground := Go.Ground.data }, { on := 8, ground := Go.Ground.data }, { on := 5, ground := Go.Ground.chain }, { on := 5, ground := Go.Ground.guard }], guard := some (5, true) }) rfl (fun K hK => ?_) AllReadyH.nil
  go_simp
  refine (rm.out _ (ht.out _ hHeld)).mono ?_
  rintro e v9 ⟨x9, y9, z9, rfl, s9, b9, -⟩
  have t9 := Lib.hid (zrself n a4 x9 _ mm y9 c4 z9 _ (Sm.out.below (hHeld.trans (b9.mono hHeld.size))) s9)
  go_simp
  refine hK.out _ _ (hHeld.trans (b9.mono hHeld.size)) (fun hHeld => ?_)
  clear hK K
  try simp only [Act.put, List.setIfInBounds_toArray, List.set_cons_zero, List.set_cons_succ]
  refine wpAnyH_ready (rs := [10]) (by kernel_rfl) (by simp) ?_
  refine AllReadyH.cons (o := { dst := some 101, op := Go.Op.call { callee := Go.Callee.value (Go.Operand.func 16), args := #[Go.Operand.tmp 97, Go.Operand.tmp 100], argTypes := #[24, 24] }, type := 4, pos := "law.go:46", after := #[{ on := 6, ground := Go.Ground.data }, { on := 9, ground := Go.Ground.data }, { on := 9, ground := Go.Ground.chain }, { on := 5, ground := Go.Ground.guard }], guard := some (5, true) }) rfl (fun K hK => ?_) AllReadyH.nil
  go_simp
  refine t9.out.mono ?_
  rintro e v10 ⟨rfl, b10⟩
  go_simp
  refine hK.out _ _ (hHeld.trans (b10.mono hHeld.size)) (fun hHeld => ?_)
  clear hK K
  try simp only [Act.put, List.setIfInBounds_toArray, List.set_cons_zero, List.set_cons_succ]
  refine wpAnyH_take (i := 11) (oi := { dst := some 102, op := Go.Op.pick (Go.Operand.tmp 96) (Go.Operand.tmp 101) (Go.Operand.const (Go.Value.bool false)), type := 4, pos := "law.go:46", after := #[{ on := 5, ground := Go.Ground.data }, { on := 10, ground := Go.Ground.data }], guard := none }) (v := ?v9) rfl (by kernel_rfl) (by kernel_rfl) (by kernel_rfl) (fun _ _ _ h => h) (Or.inl ⟨by kernel_rfl, ?h9⟩) (by assumption) ?r9
  case h9 => (intro w hSw; (try dsimp only at hSw); go_simp; try with_reducible rfl)
  try simp only [Act.put, List.setIfInBounds_toArray, List.set_cons_zero, List.set_cons_succ]
  refine wpAnyH_take (i := 12) (oi := { dst := some 103, op := Go.Op.move (Go.Operand.tmp 102), type := 4, pos := "law.go:46", after := #[{ on := 11, ground := Go.Ground.data }, { on := 10, ground := Go.Ground.chain }], guard := none }) (v := ?v10) rfl (by kernel_rfl) (by kernel_rfl) (by kernel_rfl) (fun _ _ _ h => h) (Or.inl ⟨by kernel_rfl, ?h10⟩) (by assumption) ?r10
  case h10 => (intro w hSw; (try dsimp only at hSw); go_simp; try with_reducible rfl)
  try simp only [Act.put, List.setIfInBounds_toArray, List.set_cons_zero, List.set_cons_succ]
  refine wpAnyH_take (i := 13) (oi := { dst := some 104, op := Go.Op.load 24 (Go.Operand.tmp 10), type := 24, pos := "law.go:46", after := #[{ on := 12, ground := Go.Ground.guard }], guard := some (12, true) }) (v := ?v11) rfl (by kernel_rfl) (by kernel_rfl) (by kernel_rfl) (fun _ _ _ h => h) (Or.inl ⟨by kernel_rfl, ?h11⟩) (by assumption) ?r11
  case h11 => (intro w hSw; (try dsimp only at hSw); go_simp; try with_reducible rfl)
  try simp only [Act.put, List.setIfInBounds_toArray, List.set_cons_zero, List.set_cons_succ]
  refine wpAnyH_take (i := 14) (oi := { dst := some 105, op := Go.Op.load 24 (Go.Operand.tmp 2), type := 24, pos := "law.go:46", after := #[{ on := 12, ground := Go.Ground.guard }], guard := some (12, true) }) (v := ?v12) rfl (by kernel_rfl) (by kernel_rfl) (by kernel_rfl) (fun _ _ _ h => h) (Or.inl ⟨by kernel_rfl, ?h12⟩) (by assumption) ?r12
  case h12 => (intro w hSw; (try dsimp only at hSw); go_simp; try with_reducible rfl)
  try simp only [Act.put, List.setIfInBounds_toArray, List.set_cons_zero, List.set_cons_succ]
  refine wpAnyH_take (i := 15) (oi := { dst := some 106, op := Go.Op.load 24 (Go.Operand.tmp 3), type := 24, pos := "law.go:46", after := #[{ on := 12, ground := Go.Ground.guard }], guard := some (12, true) }) (v := ?v13) rfl (by kernel_rfl) (by kernel_rfl) (by kernel_rfl) (fun _ _ _ h => h) (Or.inl ⟨by kernel_rfl, ?h13⟩) (by assumption) ?r13
  case h13 => (intro w hSw; (try dsimp only at hSw); go_simp; try with_reducible rfl)
  try simp only [Act.put, List.setIfInBounds_toArray, List.set_cons_zero, List.set_cons_succ]
  refine wpAnyH_ready (rs := [16]) (by kernel_rfl) (by simp) ?_
  refine AllReadyH.cons (o := { dst := some 107, op := Go.Op.call { callee := Go.Callee.value (Go.Operand.func 19), args := #[Go.Operand.tmp 105, Go.Operand.tmp 106], argTypes := #[24, 24] }, type := 24, pos := "law.go:46", after := #[{ on := 14, ground := Go.Ground.data }, { on := 15, ground := Go.Ground.data }, { on := 12, ground := Go.Ground.chain }, { on := 12, ground := Go.Ground.guard }], guard := some (12, true) }) rfl (fun K hK => ?_) AllReadyH.nil
  go_simp
  refine (rj.out _ (ht.out _ hHeld)).mono ?_
  rintro e v16 ⟨x16, y16, z16, rfl, s16, b16⟩
  have t16 := Lib.hid (zrself n a5 x16 _ mj y16 c5 z16 _ (Sj.out.below (hHeld.trans (b16.mono hHeld.size))) s16)
  go_simp
  refine hK.out _ _ (hHeld.trans (b16.mono hHeld.size)) (fun hHeld => ?_)
  clear hK K
  try simp only [Act.put, List.setIfInBounds_toArray, List.set_cons_zero, List.set_cons_succ]
  refine wpAnyH_ready (rs := [17]) (by kernel_rfl) (by simp) ?_
  refine AllReadyH.cons (o := { dst := some 108, op := Go.Op.call { callee := Go.Callee.value (Go.Operand.func 16), args := #[Go.Operand.tmp 104, Go.Operand.tmp 107], argTypes := #[24, 24] }, type := 4, pos := "law.go:46", after := #[{ on := 13, ground := Go.Ground.data }, { on := 16, ground := Go.Ground.data }, { on := 16, ground := Go.Ground.chain }, { on := 12, ground := Go.Ground.guard }], guard := some (12, true) }) rfl (fun K hK => ?_) AllReadyH.nil
  go_simp
  refine t16.out.mono ?_
  rintro e v17 ⟨rfl, b17⟩
  go_simp
  refine hK.out _ _ (hHeld.trans (b17.mono hHeld.size)) (fun hHeld => ?_)
  clear hK K
  try simp only [Act.put, List.setIfInBounds_toArray, List.set_cons_zero, List.set_cons_succ]
  refine wpAnyH_take (i := 18) (oi := { dst := some 109, op := Go.Op.pick (Go.Operand.tmp 103) (Go.Operand.tmp 108) (Go.Operand.const (Go.Value.bool false)), type := 4, pos := "law.go:46", after := #[{ on := 12, ground := Go.Ground.data }, { on := 17, ground := Go.Ground.data }], guard := none }) (v := ?v14) rfl (by kernel_rfl) (by kernel_rfl) (by kernel_rfl) (fun _ _ _ h => h) (Or.inl ⟨by kernel_rfl, ?h14⟩) (by assumption) ?r14
  case h14 => (intro w hSw; (try dsimp only at hSw); go_simp; try with_reducible rfl)
  try simp only [Act.put, List.setIfInBounds_toArray, List.set_cons_zero, List.set_cons_succ]
  refine wpAnyH_take (i := 19) (oi := { dst := some 110, op := Go.Op.move (Go.Operand.tmp 109), type := 4, pos := "law.go:46", after := #[{ on := 18, ground := Go.Ground.data }, { on := 17, ground := Go.Ground.chain }], guard := none }) (v := ?v15) rfl (by kernel_rfl) (by kernel_rfl) (by kernel_rfl) (fun _ _ _ h => h) (Or.inl ⟨by kernel_rfl, ?h15⟩) (by assumption) ?r15
  case h15 => (intro w hSw; (try dsimp only at hSw); go_simp; try with_reducible rfl)
  try simp only [Act.put, List.setIfInBounds_toArray, List.set_cons_zero, List.set_cons_succ]
  refine wpAnyH_take (i := 20) (oi := { dst := some 111, op := Go.Op.load 24 (Go.Operand.tmp 12), type := 24, pos := "law.go:46", after := #[{ on := 19, ground := Go.Ground.guard }], guard := some (19, true) }) (v := ?v16) rfl (by kernel_rfl) (by kernel_rfl) (by kernel_rfl) (fun _ _ _ h => h) (Or.inl ⟨by kernel_rfl, ?h16⟩) (by assumption) ?r16
  case h16 => (intro w hSw; (try dsimp only at hSw); go_simp; try with_reducible rfl)
  try simp only [Act.put, List.setIfInBounds_toArray, List.set_cons_zero, List.set_cons_succ]
  refine wpAnyH_take (i := 21) (oi := { dst := some 112, op := Go.Op.load 24 (Go.Operand.tmp 2), type := 24, pos := "law.go:46", after := #[{ on := 19, ground := Go.Ground.guard }], guard := some (19, true) }) (v := ?v17) rfl (by kernel_rfl) (by kernel_rfl) (by kernel_rfl) (fun _ _ _ h => h) (Or.inl ⟨by kernel_rfl, ?h17⟩) (by assumption) ?r17
  case h17 => (intro w hSw; (try dsimp only at hSw); go_simp; try with_reducible rfl)
  try simp only [Act.put, List.setIfInBounds_toArray, List.set_cons_zero, List.set_cons_succ]
  refine wpAnyH_take (i := 22) (oi := { dst := some 113, op := Go.Op.load 24 (Go.Operand.tmp 3), type := 24, pos := "law.go:46", after := #[{ on := 19, ground := Go.Ground.guard }], guard := some (19, true) }) (v := ?v18) rfl (by kernel_rfl) (by kernel_rfl) (by kernel_rfl) (fun _ _ _ h => h) (Or.inl ⟨by kernel_rfl, ?h18⟩) (by assumption) ?r18
  case h18 => (intro w hSw; (try dsimp only at hSw); go_simp; try with_reducible rfl)
  try simp only [Act.put, List.setIfInBounds_toArray, List.set_cons_zero, List.set_cons_succ]
  refine wpAnyH_ready (rs := [23]) (by kernel_rfl) (by simp) ?_
  refine AllReadyH.cons (o := { dst := some 114, op := Go.Op.call { callee := Go.Callee.value (Go.Operand.func 20), args := #[Go.Operand.tmp 112, Go.Operand.tmp 113], argTypes := #[24, 24] }, type := 24, pos := "law.go:46", after := #[{ on := 21, ground := Go.Ground.data }, { on := 22, ground := Go.Ground.data }, { on := 19, ground := Go.Ground.chain }, { on := 19, ground := Go.Ground.guard }], guard := some (19, true) }) rfl (fun K hK => ?_) AllReadyH.nil
  go_simp
  refine (rw_.out _ (ht.out _ hHeld)).mono ?_
  rintro e v23 ⟨x23, y23, z23, rfl, s23, b23⟩
  have t23 := Lib.hid (zrself n a6 x23 _ mw y23 c6 z23 _ (Sw.out.below (hHeld.trans (b23.mono hHeld.size))) s23)
  go_simp
  refine hK.out _ _ (hHeld.trans (b23.mono hHeld.size)) (fun hHeld => ?_)
  clear hK K
  try simp only [Act.put, List.setIfInBounds_toArray, List.set_cons_zero, List.set_cons_succ]
  refine wpAnyH_ready (rs := [24]) (by kernel_rfl) (by simp) ?_
  refine AllReadyH.cons (o := { dst := some 115, op := Go.Op.call { callee := Go.Callee.value (Go.Operand.func 16), args := #[Go.Operand.tmp 111, Go.Operand.tmp 114], argTypes := #[24, 24] }, type := 4, pos := "law.go:46", after := #[{ on := 20, ground := Go.Ground.data }, { on := 23, ground := Go.Ground.data }, { on := 23, ground := Go.Ground.chain }, { on := 19, ground := Go.Ground.guard }], guard := some (19, true) }) rfl (fun K hK => ?_) AllReadyH.nil
  go_simp
  refine t23.out.mono ?_
  rintro e v24 ⟨rfl, b24⟩
  go_simp
  refine hK.out _ _ (hHeld.trans (b24.mono hHeld.size)) (fun hHeld => ?_)
  clear hK K
  try simp only [Act.put, List.setIfInBounds_toArray, List.set_cons_zero, List.set_cons_succ]
  refine wpAnyH_take (i := 25) (oi := { dst := some 116, op := Go.Op.pick (Go.Operand.tmp 110) (Go.Operand.tmp 115) (Go.Operand.const (Go.Value.bool false)), type := 4, pos := "law.go:46", after := #[{ on := 19, ground := Go.Ground.data }, { on := 24, ground := Go.Ground.data }], guard := none }) (v := ?v19) rfl (by kernel_rfl) (by kernel_rfl) (by kernel_rfl) (fun _ _ _ h => h) (Or.inl ⟨by kernel_rfl, ?h19⟩) (by assumption) ?r19
  case h19 => (intro w hSw; (try dsimp only at hSw); go_simp; try with_reducible rfl)
  try simp only [Act.put, List.setIfInBounds_toArray, List.set_cons_zero, List.set_cons_succ]
  refine wpAnyH_take (i := 26) (oi := { dst := some 4, op := Go.Op.assign (Go.Operand.tmp 116), type := 4, pos := "law.go:46", after := #[{ on := 25, ground := Go.Ground.data }, { on := 24, ground := Go.Ground.chain }, { on := 0, ground := Go.Ground.phase }, { on := 1, ground := Go.Ground.phase }, { on := 2, ground := Go.Ground.phase }, { on := 3, ground := Go.Ground.phase }, { on := 4, ground := Go.Ground.phase }, { on := 5, ground := Go.Ground.phase }, { on := 6, ground := Go.Ground.phase }, { on := 7, ground := Go.Ground.phase }, { on := 8, ground := Go.Ground.phase }, { on := 9, ground := Go.Ground.phase }, { on := 10, ground := Go.Ground.phase }, { on := 11, ground := Go.Ground.phase }, { on := 12, ground := Go.Ground.phase }, { on := 13, ground := Go.Ground.phase }, { on := 14, ground := Go.Ground.phase }, { on := 15, ground := Go.Ground.phase }, { on := 16, ground := Go.Ground.phase }, { on := 17, ground := Go.Ground.phase }, { on := 18, ground := Go.Ground.phase }, { on := 19, ground := Go.Ground.phase }, { on := 20, ground := Go.Ground.phase }, { on := 21, ground := Go.Ground.phase }, { on := 22, ground := Go.Ground.phase }, { on := 23, ground := Go.Ground.phase }, { on := 24, ground := Go.Ground.phase }, { on := 25, ground := Go.Ground.phase }], guard := none }) (v := ?v20) rfl (by kernel_rfl) (by kernel_rfl) (by kernel_rfl) (fun _ _ _ h => h) (Or.inl ⟨by kernel_rfl, ?h20⟩) (by assumption) ?r20
  case h20 => (intro w hSw; (try dsimp only at hSw); go_simp; try with_reducible rfl)
  try simp only [Act.put, List.setIfInBounds_toArray, List.set_cons_zero, List.set_cons_succ]
  refine wpAnyH_done (by kernel_rfl) ?_ _
  have bf := Lib.hid (ht.out _ hHeld)
  clear hc0 hc1 hc2 hc3 dm0 dm1 dj0 dj1 dw0 dw1
  go_wp2
  go_ret
  exact ⟨rfl, bf.out⟩
theorem zoneTwo_walk (w : World) (n1 : Int) (hn1 : (Lit.int .i64 n1).wf = true) (a1 : Option Addr) (m1 c1 : Nat) (l1 : List Int) (hl1 : l1.length = m1) (hm1 : m1 ≤ maxLen) (hc1 : m1 ≤ c1) (hw1 : ∀ n ∈ l1, (Lit.int .i64 n).wf = true) (hs1 : Sees .i64 w.heap.size w a1 l1)
    (n2 : Int) (hn2 : (Lit.int .i64 n2).wf = true) (a2 : Option Addr) (m2 c2 : Nat) (l2 : List Int) (hl2 : l2.length = m2) (hm2 : m2 ≤ maxLen) (hc2 : m2 ≤ c2) (hw2 : ∀ n ∈ l2, (Lit.int .i64 n).wf = true) (hs2 : Sees .i64 w.heap.size w a2 l2) :
    Calls Try.prog 3 #[.agg #[.int .i64 n1, .slice a1 m1 c1], .agg #[.int .i64 n2, .slice a2 m2 c2]] w (Gives (.bool true) w) := by
  have h1 : SL w a1 m1 c1 l1 := ⟨hl1.symm, hc1, by unfold maxLen at hm1; omega, hs1⟩
  have h2 : SL w a2 m2 c2 l2 := ⟨hl2.symm, hc2, by unfold maxLen at hm2; omega, hs2⟩
  by_cases b1 : 200 < m1
  · exact two_large_a n1 n2 a1 a2 m1 m2 c1 c2 l1 l2 w h1 h2 b1
  by_cases b2 : 200 < m2
  · exact two_large_b n1 n2 a1 a2 m1 m2 c1 c2 l1 l2 w h1 h2 b1 b2
  rcases two_or n1 l1 n2 l2 with h | ⟨n, rfl, rfl, z1, z2⟩
  · exact two_bad n1 n2 a1 a2 m1 m2 c1 c2 l1 l2 w h1 h2 b1 b2 h
  · exact two_ok n a1 a2 m1 m2 c1 c2 l1 l2 w h1 h2 b1 b2 z1 z2
end Go.Proofs.Ytacbkddkjlnklaa
