/- Zones put together: unlessEmpty, Meet, Join, Widen. (Written by gen-zone-join.py.) -/
import Derived.Test.YtacbkddkjlnklaaZonePairs
namespace Go.Proofs.Ytacbkddkjlnklaa
open Go.RowKit
set_option linter.unusedVariables false
set_option linter.unusedSimpArgs false

theorem fmeet_any (x y : Int) (W : World) : Calls Try.prog 50 #[.int .i64 x, .int .i64 y] W (Tells (.int .i64 (min x y)) W) := by
  rw [← ite_min]
  by_cases h : y < x
  · rw [if_pos h]
    go_enter Try.func50, Try.ntmps50
    go_wp2
    go_ret
    exact ⟨rfl, rfl⟩
  · rw [if_neg h]
    go_enter Try.func50, Try.ntmps50
    go_wp2
    go_ret
    exact ⟨rfl, rfl⟩
theorem fjoin_any (x y : Int) (W : World) : Calls Try.prog 52 #[.int .i64 x, .int .i64 y] W (Tells (.int .i64 (max x y)) W) := by
  rw [← ite_max]
  by_cases h : x < y
  · rw [if_pos h]
    go_enter Try.func52, Try.ntmps52
    go_wp2
    go_ret
    exact ⟨rfl, rfl⟩
  · rw [if_neg h]
    go_enter Try.func52, Try.ntmps52
    go_wp2
    go_ret
    exact ⟨rfl, rfl⟩
def wid (x y : Int) : Int := if y ≤ x then x else 4398046511104
theorem fwiden_any (x y : Int) (W : World) : Calls Try.prog 53 #[.int .i64 x, .int .i64 y] W (Tells (.int .i64 (wid x y)) W) := by
  unfold wid
  by_cases h : y ≤ x
  · rw [if_pos h]
    go_enter Try.func53, Try.ntmps53
    go_wp2
    go_ret
    exact ⟨rfl, rfl⟩
  · rw [if_neg h]
    go_enter Try.func53, Try.ntmps53
    go_wp2
    go_ret
    exact ⟨rfl, rfl⟩
/-- Two zones and a third one's block. -/
structure B3 (w W : World) (x1 y1 x2 y2 : Value) : Prop where
  bl : Below w.heap.size w W
  z1 : ZH W w.heap.size x1 y1
  z2 : ZH W (w.heap.size + 1) x2 y2
  z3 : ZH W (w.heap.size + 1 + 1) (.int .i64 0) (.slice none 0 0)
theorem B3.on {w W W' : World} {x1 y1 x2 y2 : Value} (h : B3 w W x1 y1 x2 y2) (hb : Below W.heap.size W W') : B3 w W' x1 y1 x2 y2 := ⟨h.bl.trans (hb.mono h.bl.size), h.z1.below hb h.z1.lt, h.z2.below hb h.z2.lt, h.z3.below hb h.z3.lt⟩
theorem b3_new (w : World) (x1 y1 x2 y2 : Value) : B3 w (((w.alloc (.cells #[x1, y1] 24)).alloc (.cells #[x2, y2] 24)).alloc (.cells #[.int .i64 0, .slice none 0 0] 24)) x1 y1 x2 y2 := by
  refine ⟨(box2_below _ _ _ _ _).alloc (by simp; omega) _, ((Holds.new w _ _).alloc _).alloc _, ?_, ?_⟩
  · have := (Holds.new (w.alloc (.cells #[x1, y1] 24)) 24 #[x2, y2]).alloc (.cells #[.int .i64 0, .slice none 0 0] 24)
    simpa using this
  · have := Holds.new ((w.alloc (.cells #[x1, y1] 24)).alloc (.cells #[x2, y2] 24)) 24 #[.int .i64 0, .slice none 0 0]
    simpa using this
/-- A zone: empty, or with valuations. -/
def IsZ (n : Nat) (l : List Int) : Prop := n ≤ 8 ∧ (l = [] ∨ Full n l)
theorem isZ_of {n : Int} {l : List Int} (h : checkB n l = true) : ∃ k : Nat, n = k ∧ IsZ k l := by
  have hm : mayB n = true := by
    cases q : mayB n
    · rw [checkB_no q] at h; cases h
    · rfl
  obtain ⟨k, rfl, hk⟩ := mayB_of hm
  refine ⟨k, rfl, hk, ?_⟩
  by_cases h0 : l = []
  · exact .inl h0
  · right
    by_cases hl : l.length = sz k
    · rw [checkB_sz hk h0 hl] at h
      exact ⟨hk, hl, h0, of_decide_eq_true h⟩
    · rw [checkB_len h0 hl] at h; cases h
theorem IsZ.check {n : Nat} {l : List Int} (h : IsZ n l) : checkB n l = true := by
  rcases h.2 with e | hF
  · rw [e]; exact checkB_nil (mayB_nat h.1)
  · rw [checkB_sz hF.le hF.ne hF.len]; exact decide_eq_true hF.fix
theorem IsZ.small {n : Nat} {l : List Int} (h : IsZ n l) : l.length ≤ 81 := by
  rcases h.2 with e | hF
  · rw [e]; simp
  · have := sz_le h.1; rw [hF.len]; exact this
theorem IsZ.two {n : Nat} {l1 l2 : List Int} (h1 : IsZ n l1) (h2 : IsZ n l2) : twoE n l1 n l2 = 0 := by unfold twoE; rw [if_neg (by rw [h1.check, h2.check]; simp), if_pos rfl]
theorem two_or (n1 : Int) (l1 : List Int) (n2 : Int) (l2 : List Int) : (twoE n1 l1 n2 l2 ≠ 0) ∨ ∃ n : Nat, n1 = n ∧ n2 = n ∧ IsZ n l1 ∧ IsZ n l2 := by
  unfold twoE
  by_cases h : checkB n1 l1 = false ∨ checkB n2 l2 = false
  · left; rw [if_pos h]; omega
  · rw [if_neg h]
    by_cases hn : n1 = n2
    · right
      have h1 : checkB n1 l1 = true := by cases q : checkB n1 l1; exact absurd (.inl q) h; rfl
      have h2 : checkB n2 l2 = true := by cases q : checkB n2 l2; exact absurd (.inr q) h; rfl
      obtain ⟨k, rfl, hk⟩ := isZ_of h1
      subst hn
      obtain ⟨k2, hk2, hz⟩ := isZ_of h2
      have : k = k2 := by omega
      subst this
      exact ⟨k, rfl, rfl, hk, hz⟩
    · left; rw [if_neg hn]; omega
set_option maxRecDepth 100000 in
set_option maxHeartbeats 1000000 in
theorem un_join_bad (n1 n2 : Int) (a1 a2 : Option Addr) (m1 m2 c1 c2 : Nat) (l1 l2 : List Int) (w : World) (h1 : SL w a1 m1 c1 l1) (h2 : SL w a2 m2 c2 l2) (hne : twoE n1 l1 n2 l2 ≠ 0) : Calls Try.prog 51 #[.agg #[.int .i64 n1, .slice a1 m1 c1], .agg #[.int .i64 n2, .slice a2 m2 c2], .func (.func 52) #[] #[]] w (ZoneE 0 [] (twoE n1 l1 n2 l2) w) := by
  obtain ⟨W1, hW1⟩ : ∃ W1, W1 = ((w.alloc (.cells #[.int .i64 n1, .slice a1 m1 c1] 24)).alloc (.cells #[.int .i64 n2, .slice a2 m2 c2] 24)).alloc (.cells #[.int .i64 0, .slice none 0 0] 24) := ⟨_, rfl⟩
  have X1 : B3 w W1 (.int .i64 n1) (.slice a1 m1 c1) (.int .i64 n2) (.slice a2 m2 c2) := by rw [hW1]; exact b3_new _ _ _ _ _
  have q1 := Lib.hid (ztwo_any n1 n2 a1 a2 l1 l2 m1 m2 c1 c2 W1 (h1.below X1.bl) (h2.below X1.bl))
  have H1 := Lib.hid h1
  have H2 := Lib.hid h2
  have X1' := Lib.hid X1
  have hW1' := Lib.hid hW1
  clear hW1 X1 h1 h2
  generalize twoE n1 l1 n2 l2 = E at *
  have e1 : (E != 0) = true := by simpa using hne
  go_enter Try.func51, Try.ntmps51
  go_wp2_with fail
  rw [← hW1'.out]
  refine q1.out.mono ?_
  rintro e w2 ⟨rfl, b2⟩
  have X2 := Lib.hid (X1'.out.on b2)
  clear b2 X1' q1
  have y0 := X2.out.z3.cell 0
  have y1 := X2.out.z3.cell 1
  have f0 := X2.out.z3.free 0
  have f1 := X2.out.z3.free 1
  have hfin := Lib.hid (zone_none X2.out.bl (by omega) X2.out.z3 0 E)
  go_wp2
  exact zone_ret2 hfin.out.1 hfin.out.2.1 _ _ 6 7 rfl rfl rfl rfl
set_option maxRecDepth 100000 in
set_option maxHeartbeats 1000000 in
theorem un_join_a (a1 a2 : Option Addr) (m1 m2 c1 c2 : Nat) (l1 l2 : List Int) (n : Nat) (z1 : IsZ n l1) (z2 : IsZ n l2) (w : World) (h1 : SL w a1 m1 c1 l1) (h2 : SL w a2 m2 c2 l2) (hn : l1 = []) : Calls Try.prog 51 #[.agg #[.int .i64 n, .slice a1 m1 c1], .agg #[.int .i64 n, .slice a2 m2 c2], .func (.func 52) #[] #[]] w (ZoneE n l2 0 w) := by
  obtain ⟨W1, hW1⟩ : ∃ W1, W1 = ((w.alloc (.cells #[.int .i64 n, .slice a1 m1 c1] 24)).alloc (.cells #[.int .i64 n, .slice a2 m2 c2] 24)).alloc (.cells #[.int .i64 0, .slice none 0 0] 24) := ⟨_, rfl⟩
  have X1 : B3 w W1 (.int .i64 n) (.slice a1 m1 c1) (.int .i64 n) (.slice a2 m2 c2) := by rw [hW1]; exact b3_new _ _ _ _ _
  have q1 := Lib.hid (ztwo_any n n a1 a2 l1 l2 m1 m2 c1 c2 W1 (h1.below X1.bl) (h2.below X1.bl))
  have H1 := Lib.hid h1
  have H2 := Lib.hid h2
  have X1' := Lib.hid X1
  have hW1' := Lib.hid hW1
  rw [z1.two z2] at q1
  have q2 := Lib.hid (fun W (hW : Below w.heap.size w W) => zempty_any n a1 m1 c1 l1 W (H1.out.below hW))
  have q3 := Lib.hid (fun W (hW : Below w.heap.size w W) => zempty_any n a2 m2 c2 l2 W (H2.out.below hW))
  rw [decide_eq_true hn] at q2
  have hsm := z2.small
  have hcl := Lib.hid (fun W (hW : Below w.heap.size w W) => zclone_any n a2 m2 c2 l2 (by have := H2.out.len; omega) W (H2.out.below hW))
  clear hW1 X1 h1 h2 hn
  go_enter Try.func51, Try.ntmps51
  go_wp2_with fail
  rw [← hW1'.out]
  refine q1.out.mono ?_
  rintro e w2 ⟨rfl, b2⟩
  have X2 := Lib.hid (X1'.out.on b2)
  clear b2 X1' q1
  have k0 := X2.out.z1.cell 0
  have k1 := X2.out.z1.cell 1
  have p2 := Lib.hid (q2.out w2 X2.out.bl)
  go_wp2_with fail
  refine p2.out.mono ?_
  rintro e w3 ⟨rfl, b3⟩
  have X3 := Lib.hid (X2.out.on b3)
  clear b3 X2 p2 k0 k1
  have p3 := Lib.hid (hcl.out w3 X3.out.bl)
  have k0 := X3.out.z2.cell 0
  have k1 := X3.out.z2.cell 1
  go_wp2_with fail
  refine p3.out.mono ?_
  rintro e w7 ⟨a7, c7, rfl, hc7, s7, b7, nw7⟩
  have Zd := X3.out.z3.below b7 X3.out.z3.lt
  have y0 := Zd.cell 0
  have y1 := Zd.cell 1
  have f0 := Zd.free 0
  have f1 := Zd.free 1
  have hfin := Lib.hid (zone_put (n := n) (err := 0) X3.out.bl (by omega) X3.out.z3 hc7 s7 b7 nw7)
  clear Zd k0 k1
  go_wp2
  exact zone_ret2 hfin.out.1 hfin.out.2.1 _ _ 6 7 rfl rfl rfl rfl
set_option maxRecDepth 100000 in
set_option maxHeartbeats 1000000 in
theorem un_join_b (a1 a2 : Option Addr) (m1 m2 c1 c2 : Nat) (l1 l2 : List Int) (n : Nat) (z1 : IsZ n l1) (z2 : IsZ n l2) (w : World) (h1 : SL w a1 m1 c1 l1) (h2 : SL w a2 m2 c2 l2) (hn1 : l1 ≠ []) (hn : l2 = []) : Calls Try.prog 51 #[.agg #[.int .i64 n, .slice a1 m1 c1], .agg #[.int .i64 n, .slice a2 m2 c2], .func (.func 52) #[] #[]] w (ZoneE n l1 0 w) := by
  obtain ⟨W1, hW1⟩ : ∃ W1, W1 = ((w.alloc (.cells #[.int .i64 n, .slice a1 m1 c1] 24)).alloc (.cells #[.int .i64 n, .slice a2 m2 c2] 24)).alloc (.cells #[.int .i64 0, .slice none 0 0] 24) := ⟨_, rfl⟩
  have X1 : B3 w W1 (.int .i64 n) (.slice a1 m1 c1) (.int .i64 n) (.slice a2 m2 c2) := by rw [hW1]; exact b3_new _ _ _ _ _
  have q1 := Lib.hid (ztwo_any n n a1 a2 l1 l2 m1 m2 c1 c2 W1 (h1.below X1.bl) (h2.below X1.bl))
  have H1 := Lib.hid h1
  have H2 := Lib.hid h2
  have X1' := Lib.hid X1
  have hW1' := Lib.hid hW1
  rw [z1.two z2] at q1
  have q2 := Lib.hid (fun W (hW : Below w.heap.size w W) => zempty_any n a1 m1 c1 l1 W (H1.out.below hW))
  have q3 := Lib.hid (fun W (hW : Below w.heap.size w W) => zempty_any n a2 m2 c2 l2 W (H2.out.below hW))
  rw [decide_eq_false hn1] at q2
  rw [decide_eq_true hn] at q3
  have hsm := z1.small
  have hcl := Lib.hid (fun W (hW : Below w.heap.size w W) => zclone_any n a1 m1 c1 l1 (by have := H1.out.len; omega) W (H1.out.below hW))
  clear hW1 X1 h1 h2 hn hn1
  go_enter Try.func51, Try.ntmps51
  go_wp2_with fail
  rw [← hW1'.out]
  refine q1.out.mono ?_
  rintro e w2 ⟨rfl, b2⟩
  have X2 := Lib.hid (X1'.out.on b2)
  clear b2 X1' q1
  have k0 := X2.out.z1.cell 0
  have k1 := X2.out.z1.cell 1
  have p2 := Lib.hid (q2.out w2 X2.out.bl)
  go_wp2_with fail
  refine p2.out.mono ?_
  rintro e w3 ⟨rfl, b3⟩
  have X3 := Lib.hid (X2.out.on b3)
  clear b3 X2 p2 k0 k1
  have k0 := X3.out.z2.cell 0
  have k1 := X3.out.z2.cell 1
  have p3 := Lib.hid (q3.out w3 X3.out.bl)
  go_wp2_with fail
  refine p3.out.mono ?_
  rintro e w4 ⟨rfl, b4⟩
  have X4 := Lib.hid (X3.out.on b4)
  clear b4 X3 p3 k0 k1
  have p4 := Lib.hid (hcl.out w4 X4.out.bl)
  have k0 := X4.out.z1.cell 0
  have k1 := X4.out.z1.cell 1
  go_wp2_with fail
  refine p4.out.mono ?_
  rintro e w7 ⟨a7, c7, rfl, hc7, s7, b7, nw7⟩
  have Zd := X4.out.z3.below b7 X4.out.z3.lt
  have y0 := Zd.cell 0
  have y1 := Zd.cell 1
  have f0 := Zd.free 0
  have f1 := Zd.free 1
  have hfin := Lib.hid (zone_put (n := n) (err := 0) X4.out.bl (by omega) X4.out.z3 hc7 s7 b7 nw7)
  clear Zd k0 k1
  go_wp2
  exact zone_ret2 hfin.out.1 hfin.out.2.1 _ _ 6 7 rfl rfl rfl rfl
set_option maxRecDepth 100000 in
set_option maxHeartbeats 1000000 in
theorem un_join_c (a1 a2 : Option Addr) (m1 m2 c1 c2 : Nat) (l1 l2 : List Int) (n : Nat) (z1 : IsZ n l1) (z2 : IsZ n l2) (w : World) (h1 : SL w a1 m1 c1 l1) (h2 : SL w a2 m2 c2 l2) (hF1 : Full n l1) (hF2 : Full n l2) : Calls Try.prog 51 #[.agg #[.int .i64 n, .slice a1 m1 c1], .agg #[.int .i64 n, .slice a2 m2 c2], .func (.func 52) #[] #[]] w (ZoneE n (closedL n (pw max l1 l2)) 0 w) := by
  obtain ⟨W1, hW1⟩ : ∃ W1, W1 = ((w.alloc (.cells #[.int .i64 n, .slice a1 m1 c1] 24)).alloc (.cells #[.int .i64 n, .slice a2 m2 c2] 24)).alloc (.cells #[.int .i64 0, .slice none 0 0] 24) := ⟨_, rfl⟩
  have X1 : B3 w W1 (.int .i64 n) (.slice a1 m1 c1) (.int .i64 n) (.slice a2 m2 c2) := by rw [hW1]; exact b3_new _ _ _ _ _
  have q1 := Lib.hid (ztwo_any n n a1 a2 l1 l2 m1 m2 c1 c2 W1 (h1.below X1.bl) (h2.below X1.bl))
  have H1 := Lib.hid h1
  have H2 := Lib.hid h2
  have X1' := Lib.hid X1
  have hW1' := Lib.hid hW1
  rw [z1.two z2] at q1
  have q2 := Lib.hid (fun W (hW : Below w.heap.size w W) => zempty_any n a1 m1 c1 l1 W (H1.out.below hW))
  have q3 := Lib.hid (fun W (hW : Below w.heap.size w W) => zempty_any n a2 m2 c2 l2 W (H2.out.below hW))
  rw [decide_eq_false hF1.ne] at q2
  rw [decide_eq_false hF2.ne] at q3
  have hp := Lib.hid (fun W (hW : Below w.heap.size w W) => pairs_join max (fun x y W => fjoin_any x y W) n hF1.le a1 a2 m1 m2 c1 c2 l1 l2 hF1.len hF2.len W (H1.out.below hW) (H2.out.below hW))
  clear hW1 X1 h1 h2 hF1 hF2
  generalize closedL n (pw max l1 l2) = R at *
  go_enter Try.func51, Try.ntmps51
  go_wp2_with fail
  rw [← hW1'.out]
  refine q1.out.mono ?_
  rintro e w2 ⟨rfl, b2⟩
  have X2 := Lib.hid (X1'.out.on b2)
  clear b2 X1' q1
  have k0 := X2.out.z1.cell 0
  have k1 := X2.out.z1.cell 1
  have p2 := Lib.hid (q2.out w2 X2.out.bl)
  go_wp2_with fail
  refine p2.out.mono ?_
  rintro e w3 ⟨rfl, b3⟩
  have X3 := Lib.hid (X2.out.on b3)
  clear b3 X2 p2 k0 k1
  have k0 := X3.out.z2.cell 0
  have k1 := X3.out.z2.cell 1
  have p3 := Lib.hid (q3.out w3 X3.out.bl)
  go_wp2_with fail
  refine p3.out.mono ?_
  rintro e w4 ⟨rfl, b4⟩
  have X4 := Lib.hid (X3.out.on b4)
  clear b4 X3 p3 k0 k1
  have p4 := Lib.hid (hp.out w4 X4.out.bl)
  have j0 := X4.out.z2.cell 0
  have j1 := X4.out.z2.cell 1
  have k0 := X4.out.z1.cell 0
  have k1 := X4.out.z1.cell 1
  go_wp2_with fail
  refine p4.out.mono ?_
  rintro e w7 ⟨a7, c7, rfl, hc7, s7, b7, nw7⟩
  have Zd := X4.out.z3.below b7 X4.out.z3.lt
  have y0 := Zd.cell 0
  have y1 := Zd.cell 1
  have f0 := Zd.free 0
  have f1 := Zd.free 1
  have hfin := Lib.hid (zone_put (n := n) (err := 0) X4.out.bl (by omega) X4.out.z3 hc7 s7 b7 nw7)
  clear Zd k0 k1
  go_wp2
  exact zone_ret2 hfin.out.1 hfin.out.2.1 _ _ 6 7 rfl rfl rfl rfl
set_option maxRecDepth 100000 in
set_option maxHeartbeats 1000000 in
theorem zjoin_of (n1 n2 : Int) (R : List Int) (nr E : Int) (a1 a2 : Option Addr) (m1 m2 c1 c2 : Nat) (l1 l2 : List Int) (w : World) (h1 : SL w a1 m1 c1 l1) (h2 : SL w a2 m2 c2 l2) (hq : ∀ W, Below w.heap.size w W → Calls Try.prog 51 #[.agg #[.int .i64 n1, .slice a1 m1 c1], .agg #[.int .i64 n2, .slice a2 m2 c2], .func (.func 52) #[] #[]] W (ZoneE nr R E W)) : Calls Try.prog 14 #[.agg #[.int .i64 n1, .slice a1 m1 c1], .agg #[.int .i64 n2, .slice a2 m2 c2]] w (ZoneE nr R E w) := by
  obtain ⟨W1, hW1⟩ : ∃ W1, W1 = ((w.alloc (.cells #[.int .i64 n1, .slice a1 m1 c1] 24)).alloc (.cells #[.int .i64 n2, .slice a2 m2 c2] 24)).alloc (.cells #[.int .i64 0, .slice none 0 0] 24) := ⟨_, rfl⟩
  have X1 : B3 w W1 (.int .i64 n1) (.slice a1 m1 c1) (.int .i64 n2) (.slice a2 m2 c2) := by rw [hW1]; exact b3_new _ _ _ _ _
  have q1 := Lib.hid (hq W1 X1.bl)
  have X1' := Lib.hid X1
  have hW1' := Lib.hid hW1
  clear hW1 X1 h1 h2 hq
  go_enter Try.func14, Try.ntmps14
  go_wp2_with fail
  rw [← hW1'.out]
  refine q1.out.mono ?_
  rintro e w7 ⟨a7, c7, rfl, hc7, s7, b7, nw7⟩
  have Zd := X1'.out.z3.below b7 X1'.out.z3.lt
  have y0 := Zd.cell 0
  have y1 := Zd.cell 1
  have f0 := Zd.free 0
  have f1 := Zd.free 1
  have hfin := Lib.hid (zone_put (n := nr) (err := E) X1'.out.bl (by omega) X1'.out.z3 hc7 s7 b7 nw7)
  clear Zd
  go_wp2
  exact zone_ret2 hfin.out.1 hfin.out.2.1 _ _ 4 5 rfl rfl rfl rfl
/-- What Join comes to. -/
def joinL (n : Nat) (l1 l2 : List Int) : List Int := if l1 = [] then l2 else if l2 = [] then l1 else closedL n (pw max l1 l2)
theorem zjoin_ok (a1 a2 : Option Addr) (m1 m2 c1 c2 : Nat) (l1 l2 : List Int) (n : Nat) (z1 : IsZ n l1) (z2 : IsZ n l2) (w : World) (h1 : SL w a1 m1 c1 l1) (h2 : SL w a2 m2 c2 l2) : Calls Try.prog 14 #[.agg #[.int .i64 n, .slice a1 m1 c1], .agg #[.int .i64 n, .slice a2 m2 c2]] w (ZoneE n (joinL n l1 l2) 0 w) := by
  refine zjoin_of n n _ n 0 a1 a2 m1 m2 c1 c2 l1 l2 w h1 h2 (fun W hW => ?_)
  unfold joinL
  split
  · rename_i e; exact un_join_a a1 a2 m1 m2 c1 c2 l1 l2 n z1 z2 W (h1.below hW) (h2.below hW) e
  · rename_i e
    split
    · rename_i e2; exact un_join_b a1 a2 m1 m2 c1 c2 l1 l2 n z1 z2 W (h1.below hW) (h2.below hW) e e2
    · rename_i e2
      exact un_join_c a1 a2 m1 m2 c1 c2 l1 l2 n z1 z2 W (h1.below hW) (h2.below hW) (z1.2.resolve_left e) (z2.2.resolve_left e2)
theorem zjoin_bad (n1 n2 : Int) (a1 a2 : Option Addr) (m1 m2 c1 c2 : Nat) (l1 l2 : List Int) (w : World) (h1 : SL w a1 m1 c1 l1) (h2 : SL w a2 m2 c2 l2) (hne : twoE n1 l1 n2 l2 ≠ 0) : Calls Try.prog 14 #[.agg #[.int .i64 n1, .slice a1 m1 c1], .agg #[.int .i64 n2, .slice a2 m2 c2]] w (ZoneE 0 [] (twoE n1 l1 n2 l2) w) :=
  zjoin_of n1 n2 _ 0 _ a1 a2 m1 m2 c1 c2 l1 l2 w h1 h2 (fun W hW => un_join_bad n1 n2 a1 a2 m1 m2 c1 c2 l1 l2 W (h1.below hW) (h2.below hW) hne)
set_option maxRecDepth 100000 in
set_option maxHeartbeats 1000000 in
theorem un_widen_bad (n1 n2 : Int) (a1 a2 : Option Addr) (m1 m2 c1 c2 : Nat) (l1 l2 : List Int) (w : World) (h1 : SL w a1 m1 c1 l1) (h2 : SL w a2 m2 c2 l2) (hne : twoE n1 l1 n2 l2 ≠ 0) : Calls Try.prog 51 #[.agg #[.int .i64 n1, .slice a1 m1 c1], .agg #[.int .i64 n2, .slice a2 m2 c2], .func (.func 53) #[] #[]] w (ZoneE 0 [] (twoE n1 l1 n2 l2) w) := by
  obtain ⟨W1, hW1⟩ : ∃ W1, W1 = ((w.alloc (.cells #[.int .i64 n1, .slice a1 m1 c1] 24)).alloc (.cells #[.int .i64 n2, .slice a2 m2 c2] 24)).alloc (.cells #[.int .i64 0, .slice none 0 0] 24) := ⟨_, rfl⟩
  have X1 : B3 w W1 (.int .i64 n1) (.slice a1 m1 c1) (.int .i64 n2) (.slice a2 m2 c2) := by rw [hW1]; exact b3_new _ _ _ _ _
  have q1 := Lib.hid (ztwo_any n1 n2 a1 a2 l1 l2 m1 m2 c1 c2 W1 (h1.below X1.bl) (h2.below X1.bl))
  have H1 := Lib.hid h1
  have H2 := Lib.hid h2
  have X1' := Lib.hid X1
  have hW1' := Lib.hid hW1
  clear hW1 X1 h1 h2
  generalize twoE n1 l1 n2 l2 = E at *
  have e1 : (E != 0) = true := by simpa using hne
  go_enter Try.func51, Try.ntmps51
  go_wp2_with fail
  rw [← hW1'.out]
  refine q1.out.mono ?_
  rintro e w2 ⟨rfl, b2⟩
  have X2 := Lib.hid (X1'.out.on b2)
  clear b2 X1' q1
  have y0 := X2.out.z3.cell 0
  have y1 := X2.out.z3.cell 1
  have f0 := X2.out.z3.free 0
  have f1 := X2.out.z3.free 1
  have hfin := Lib.hid (zone_none X2.out.bl (by omega) X2.out.z3 0 E)
  go_wp2
  exact zone_ret2 hfin.out.1 hfin.out.2.1 _ _ 6 7 rfl rfl rfl rfl
set_option maxRecDepth 100000 in
set_option maxHeartbeats 1000000 in
theorem un_widen_a (a1 a2 : Option Addr) (m1 m2 c1 c2 : Nat) (l1 l2 : List Int) (n : Nat) (z1 : IsZ n l1) (z2 : IsZ n l2) (w : World) (h1 : SL w a1 m1 c1 l1) (h2 : SL w a2 m2 c2 l2) (hn : l1 = []) : Calls Try.prog 51 #[.agg #[.int .i64 n, .slice a1 m1 c1], .agg #[.int .i64 n, .slice a2 m2 c2], .func (.func 53) #[] #[]] w (ZoneE n l2 0 w) := by
  obtain ⟨W1, hW1⟩ : ∃ W1, W1 = ((w.alloc (.cells #[.int .i64 n, .slice a1 m1 c1] 24)).alloc (.cells #[.int .i64 n, .slice a2 m2 c2] 24)).alloc (.cells #[.int .i64 0, .slice none 0 0] 24) := ⟨_, rfl⟩
  have X1 : B3 w W1 (.int .i64 n) (.slice a1 m1 c1) (.int .i64 n) (.slice a2 m2 c2) := by rw [hW1]; exact b3_new _ _ _ _ _
  have q1 := Lib.hid (ztwo_any n n a1 a2 l1 l2 m1 m2 c1 c2 W1 (h1.below X1.bl) (h2.below X1.bl))
  have H1 := Lib.hid h1
  have H2 := Lib.hid h2
  have X1' := Lib.hid X1
  have hW1' := Lib.hid hW1
  rw [z1.two z2] at q1
  have q2 := Lib.hid (fun W (hW : Below w.heap.size w W) => zempty_any n a1 m1 c1 l1 W (H1.out.below hW))
  have q3 := Lib.hid (fun W (hW : Below w.heap.size w W) => zempty_any n a2 m2 c2 l2 W (H2.out.below hW))
  rw [decide_eq_true hn] at q2
  have hsm := z2.small
  have hcl := Lib.hid (fun W (hW : Below w.heap.size w W) => zclone_any n a2 m2 c2 l2 (by have := H2.out.len; omega) W (H2.out.below hW))
  clear hW1 X1 h1 h2 hn
  go_enter Try.func51, Try.ntmps51
  go_wp2_with fail
  rw [← hW1'.out]
  refine q1.out.mono ?_
  rintro e w2 ⟨rfl, b2⟩
  have X2 := Lib.hid (X1'.out.on b2)
  clear b2 X1' q1
  have k0 := X2.out.z1.cell 0
  have k1 := X2.out.z1.cell 1
  have p2 := Lib.hid (q2.out w2 X2.out.bl)
  go_wp2_with fail
  refine p2.out.mono ?_
  rintro e w3 ⟨rfl, b3⟩
  have X3 := Lib.hid (X2.out.on b3)
  clear b3 X2 p2 k0 k1
  have p3 := Lib.hid (hcl.out w3 X3.out.bl)
  have k0 := X3.out.z2.cell 0
  have k1 := X3.out.z2.cell 1
  go_wp2_with fail
  refine p3.out.mono ?_
  rintro e w7 ⟨a7, c7, rfl, hc7, s7, b7, nw7⟩
  have Zd := X3.out.z3.below b7 X3.out.z3.lt
  have y0 := Zd.cell 0
  have y1 := Zd.cell 1
  have f0 := Zd.free 0
  have f1 := Zd.free 1
  have hfin := Lib.hid (zone_put (n := n) (err := 0) X3.out.bl (by omega) X3.out.z3 hc7 s7 b7 nw7)
  clear Zd k0 k1
  go_wp2
  exact zone_ret2 hfin.out.1 hfin.out.2.1 _ _ 6 7 rfl rfl rfl rfl
set_option maxRecDepth 100000 in
set_option maxHeartbeats 1000000 in
theorem un_widen_b (a1 a2 : Option Addr) (m1 m2 c1 c2 : Nat) (l1 l2 : List Int) (n : Nat) (z1 : IsZ n l1) (z2 : IsZ n l2) (w : World) (h1 : SL w a1 m1 c1 l1) (h2 : SL w a2 m2 c2 l2) (hn1 : l1 ≠ []) (hn : l2 = []) : Calls Try.prog 51 #[.agg #[.int .i64 n, .slice a1 m1 c1], .agg #[.int .i64 n, .slice a2 m2 c2], .func (.func 53) #[] #[]] w (ZoneE n l1 0 w) := by
  obtain ⟨W1, hW1⟩ : ∃ W1, W1 = ((w.alloc (.cells #[.int .i64 n, .slice a1 m1 c1] 24)).alloc (.cells #[.int .i64 n, .slice a2 m2 c2] 24)).alloc (.cells #[.int .i64 0, .slice none 0 0] 24) := ⟨_, rfl⟩
  have X1 : B3 w W1 (.int .i64 n) (.slice a1 m1 c1) (.int .i64 n) (.slice a2 m2 c2) := by rw [hW1]; exact b3_new _ _ _ _ _
  have q1 := Lib.hid (ztwo_any n n a1 a2 l1 l2 m1 m2 c1 c2 W1 (h1.below X1.bl) (h2.below X1.bl))
  have H1 := Lib.hid h1
  have H2 := Lib.hid h2
  have X1' := Lib.hid X1
  have hW1' := Lib.hid hW1
  rw [z1.two z2] at q1
  have q2 := Lib.hid (fun W (hW : Below w.heap.size w W) => zempty_any n a1 m1 c1 l1 W (H1.out.below hW))
  have q3 := Lib.hid (fun W (hW : Below w.heap.size w W) => zempty_any n a2 m2 c2 l2 W (H2.out.below hW))
  rw [decide_eq_false hn1] at q2
  rw [decide_eq_true hn] at q3
  have hsm := z1.small
  have hcl := Lib.hid (fun W (hW : Below w.heap.size w W) => zclone_any n a1 m1 c1 l1 (by have := H1.out.len; omega) W (H1.out.below hW))
  clear hW1 X1 h1 h2 hn hn1
  go_enter Try.func51, Try.ntmps51
  go_wp2_with fail
  rw [← hW1'.out]
  refine q1.out.mono ?_
  rintro e w2 ⟨rfl, b2⟩
  have X2 := Lib.hid (X1'.out.on b2)
  clear b2 X1' q1
  have k0 := X2.out.z1.cell 0
  have k1 := X2.out.z1.cell 1
  have p2 := Lib.hid (q2.out w2 X2.out.bl)
  go_wp2_with fail
  refine p2.out.mono ?_
  rintro e w3 ⟨rfl, b3⟩
  have X3 := Lib.hid (X2.out.on b3)
  clear b3 X2 p2 k0 k1
  have k0 := X3.out.z2.cell 0
  have k1 := X3.out.z2.cell 1
  have p3 := Lib.hid (q3.out w3 X3.out.bl)
  go_wp2_with fail
  refine p3.out.mono ?_
  rintro e w4 ⟨rfl, b4⟩
  have X4 := Lib.hid (X3.out.on b4)
  clear b4 X3 p3 k0 k1
  have p4 := Lib.hid (hcl.out w4 X4.out.bl)
  have k0 := X4.out.z1.cell 0
  have k1 := X4.out.z1.cell 1
  go_wp2_with fail
  refine p4.out.mono ?_
  rintro e w7 ⟨a7, c7, rfl, hc7, s7, b7, nw7⟩
  have Zd := X4.out.z3.below b7 X4.out.z3.lt
  have y0 := Zd.cell 0
  have y1 := Zd.cell 1
  have f0 := Zd.free 0
  have f1 := Zd.free 1
  have hfin := Lib.hid (zone_put (n := n) (err := 0) X4.out.bl (by omega) X4.out.z3 hc7 s7 b7 nw7)
  clear Zd k0 k1
  go_wp2
  exact zone_ret2 hfin.out.1 hfin.out.2.1 _ _ 6 7 rfl rfl rfl rfl
set_option maxRecDepth 100000 in
set_option maxHeartbeats 1000000 in
theorem un_widen_c (a1 a2 : Option Addr) (m1 m2 c1 c2 : Nat) (l1 l2 : List Int) (n : Nat) (z1 : IsZ n l1) (z2 : IsZ n l2) (w : World) (h1 : SL w a1 m1 c1 l1) (h2 : SL w a2 m2 c2 l2) (hF1 : Full n l1) (hF2 : Full n l2) : Calls Try.prog 51 #[.agg #[.int .i64 n, .slice a1 m1 c1], .agg #[.int .i64 n, .slice a2 m2 c2], .func (.func 53) #[] #[]] w (ZoneE n (closedL n (pw wid l1 l2)) 0 w) := by
  obtain ⟨W1, hW1⟩ : ∃ W1, W1 = ((w.alloc (.cells #[.int .i64 n, .slice a1 m1 c1] 24)).alloc (.cells #[.int .i64 n, .slice a2 m2 c2] 24)).alloc (.cells #[.int .i64 0, .slice none 0 0] 24) := ⟨_, rfl⟩
  have X1 : B3 w W1 (.int .i64 n) (.slice a1 m1 c1) (.int .i64 n) (.slice a2 m2 c2) := by rw [hW1]; exact b3_new _ _ _ _ _
  have q1 := Lib.hid (ztwo_any n n a1 a2 l1 l2 m1 m2 c1 c2 W1 (h1.below X1.bl) (h2.below X1.bl))
  have H1 := Lib.hid h1
  have H2 := Lib.hid h2
  have X1' := Lib.hid X1
  have hW1' := Lib.hid hW1
  rw [z1.two z2] at q1
  have q2 := Lib.hid (fun W (hW : Below w.heap.size w W) => zempty_any n a1 m1 c1 l1 W (H1.out.below hW))
  have q3 := Lib.hid (fun W (hW : Below w.heap.size w W) => zempty_any n a2 m2 c2 l2 W (H2.out.below hW))
  rw [decide_eq_false hF1.ne] at q2
  rw [decide_eq_false hF2.ne] at q3
  have hp := Lib.hid (fun W (hW : Below w.heap.size w W) => pairs_widen wid (fun x y W => fwiden_any x y W) n hF1.le a1 a2 m1 m2 c1 c2 l1 l2 hF1.len hF2.len W (H1.out.below hW) (H2.out.below hW))
  clear hW1 X1 h1 h2 hF1 hF2
  generalize closedL n (pw wid l1 l2) = R at *
  go_enter Try.func51, Try.ntmps51
  go_wp2_with fail
  rw [← hW1'.out]
  refine q1.out.mono ?_
  rintro e w2 ⟨rfl, b2⟩
  have X2 := Lib.hid (X1'.out.on b2)
  clear b2 X1' q1
  have k0 := X2.out.z1.cell 0
  have k1 := X2.out.z1.cell 1
  have p2 := Lib.hid (q2.out w2 X2.out.bl)
  go_wp2_with fail
  refine p2.out.mono ?_
  rintro e w3 ⟨rfl, b3⟩
  have X3 := Lib.hid (X2.out.on b3)
  clear b3 X2 p2 k0 k1
  have k0 := X3.out.z2.cell 0
  have k1 := X3.out.z2.cell 1
  have p3 := Lib.hid (q3.out w3 X3.out.bl)
  go_wp2_with fail
  refine p3.out.mono ?_
  rintro e w4 ⟨rfl, b4⟩
  have X4 := Lib.hid (X3.out.on b4)
  clear b4 X3 p3 k0 k1
  have p4 := Lib.hid (hp.out w4 X4.out.bl)
  have j0 := X4.out.z2.cell 0
  have j1 := X4.out.z2.cell 1
  have k0 := X4.out.z1.cell 0
  have k1 := X4.out.z1.cell 1
  go_wp2_with fail
  refine p4.out.mono ?_
  rintro e w7 ⟨a7, c7, rfl, hc7, s7, b7, nw7⟩
  have Zd := X4.out.z3.below b7 X4.out.z3.lt
  have y0 := Zd.cell 0
  have y1 := Zd.cell 1
  have f0 := Zd.free 0
  have f1 := Zd.free 1
  have hfin := Lib.hid (zone_put (n := n) (err := 0) X4.out.bl (by omega) X4.out.z3 hc7 s7 b7 nw7)
  clear Zd k0 k1
  go_wp2
  exact zone_ret2 hfin.out.1 hfin.out.2.1 _ _ 6 7 rfl rfl rfl rfl
set_option maxRecDepth 100000 in
set_option maxHeartbeats 1000000 in
theorem zwiden_of (n1 n2 : Int) (R : List Int) (nr E : Int) (a1 a2 : Option Addr) (m1 m2 c1 c2 : Nat) (l1 l2 : List Int) (w : World) (h1 : SL w a1 m1 c1 l1) (h2 : SL w a2 m2 c2 l2) (hq : ∀ W, Below w.heap.size w W → Calls Try.prog 51 #[.agg #[.int .i64 n1, .slice a1 m1 c1], .agg #[.int .i64 n2, .slice a2 m2 c2], .func (.func 53) #[] #[]] W (ZoneE nr R E W)) : Calls Try.prog 15 #[.agg #[.int .i64 n1, .slice a1 m1 c1], .agg #[.int .i64 n2, .slice a2 m2 c2]] w (ZoneE nr R E w) := by
  obtain ⟨W1, hW1⟩ : ∃ W1, W1 = ((w.alloc (.cells #[.int .i64 n1, .slice a1 m1 c1] 24)).alloc (.cells #[.int .i64 n2, .slice a2 m2 c2] 24)).alloc (.cells #[.int .i64 0, .slice none 0 0] 24) := ⟨_, rfl⟩
  have X1 : B3 w W1 (.int .i64 n1) (.slice a1 m1 c1) (.int .i64 n2) (.slice a2 m2 c2) := by rw [hW1]; exact b3_new _ _ _ _ _
  have q1 := Lib.hid (hq W1 X1.bl)
  have X1' := Lib.hid X1
  have hW1' := Lib.hid hW1
  clear hW1 X1 h1 h2 hq
  go_enter Try.func15, Try.ntmps15
  go_wp2_with fail
  rw [← hW1'.out]
  refine q1.out.mono ?_
  rintro e w7 ⟨a7, c7, rfl, hc7, s7, b7, nw7⟩
  have Zd := X1'.out.z3.below b7 X1'.out.z3.lt
  have y0 := Zd.cell 0
  have y1 := Zd.cell 1
  have f0 := Zd.free 0
  have f1 := Zd.free 1
  have hfin := Lib.hid (zone_put (n := nr) (err := E) X1'.out.bl (by omega) X1'.out.z3 hc7 s7 b7 nw7)
  clear Zd
  go_wp2
  exact zone_ret2 hfin.out.1 hfin.out.2.1 _ _ 4 5 rfl rfl rfl rfl
/-- What Widen comes to. -/
def widenL (n : Nat) (l1 l2 : List Int) : List Int := if l1 = [] then l2 else if l2 = [] then l1 else closedL n (pw wid l1 l2)
theorem zwiden_ok (a1 a2 : Option Addr) (m1 m2 c1 c2 : Nat) (l1 l2 : List Int) (n : Nat) (z1 : IsZ n l1) (z2 : IsZ n l2) (w : World) (h1 : SL w a1 m1 c1 l1) (h2 : SL w a2 m2 c2 l2) : Calls Try.prog 15 #[.agg #[.int .i64 n, .slice a1 m1 c1], .agg #[.int .i64 n, .slice a2 m2 c2]] w (ZoneE n (widenL n l1 l2) 0 w) := by
  refine zwiden_of n n _ n 0 a1 a2 m1 m2 c1 c2 l1 l2 w h1 h2 (fun W hW => ?_)
  unfold widenL
  split
  · rename_i e; exact un_widen_a a1 a2 m1 m2 c1 c2 l1 l2 n z1 z2 W (h1.below hW) (h2.below hW) e
  · rename_i e
    split
    · rename_i e2; exact un_widen_b a1 a2 m1 m2 c1 c2 l1 l2 n z1 z2 W (h1.below hW) (h2.below hW) e e2
    · rename_i e2
      exact un_widen_c a1 a2 m1 m2 c1 c2 l1 l2 n z1 z2 W (h1.below hW) (h2.below hW) (z1.2.resolve_left e) (z2.2.resolve_left e2)
theorem zwiden_bad (n1 n2 : Int) (a1 a2 : Option Addr) (m1 m2 c1 c2 : Nat) (l1 l2 : List Int) (w : World) (h1 : SL w a1 m1 c1 l1) (h2 : SL w a2 m2 c2 l2) (hne : twoE n1 l1 n2 l2 ≠ 0) : Calls Try.prog 15 #[.agg #[.int .i64 n1, .slice a1 m1 c1], .agg #[.int .i64 n2, .slice a2 m2 c2]] w (ZoneE 0 [] (twoE n1 l1 n2 l2) w) :=
  zwiden_of n1 n2 _ 0 _ a1 a2 m1 m2 c1 c2 l1 l2 w h1 h2 (fun W hW => un_widen_bad n1 n2 a1 a2 m1 m2 c1 c2 l1 l2 W (h1.below hW) (h2.below hW) hne)
set_option maxRecDepth 100000 in
set_option maxHeartbeats 1000000 in
theorem zmeet_bad (n1 n2 : Int) (a1 a2 : Option Addr) (m1 m2 c1 c2 : Nat) (l1 l2 : List Int) (w : World) (h1 : SL w a1 m1 c1 l1) (h2 : SL w a2 m2 c2 l2) (hne : twoE n1 l1 n2 l2 ≠ 0) : Calls Try.prog 13 #[.agg #[.int .i64 n1, .slice a1 m1 c1], .agg #[.int .i64 n2, .slice a2 m2 c2]] w (ZoneE 0 [] (twoE n1 l1 n2 l2) w) := by
  obtain ⟨W1, hW1⟩ : ∃ W1, W1 = ((w.alloc (.cells #[.int .i64 n1, .slice a1 m1 c1] 24)).alloc (.cells #[.int .i64 n2, .slice a2 m2 c2] 24)).alloc (.cells #[.int .i64 0, .slice none 0 0] 24) := ⟨_, rfl⟩
  have X1 : B3 w W1 (.int .i64 n1) (.slice a1 m1 c1) (.int .i64 n2) (.slice a2 m2 c2) := by rw [hW1]; exact b3_new _ _ _ _ _
  have q1 := Lib.hid (ztwo_any n1 n2 a1 a2 l1 l2 m1 m2 c1 c2 W1 (h1.below X1.bl) (h2.below X1.bl))
  have H1 := Lib.hid h1
  have H2 := Lib.hid h2
  have X1' := Lib.hid X1
  have hW1' := Lib.hid hW1
  clear hW1 X1 h1 h2
  generalize twoE n1 l1 n2 l2 = E at *
  have e1 : (E != 0) = true := by simpa using hne
  go_enter Try.func13, Try.ntmps13
  go_wp2_with fail
  rw [← hW1'.out]
  refine q1.out.mono ?_
  rintro e w2 ⟨rfl, b2⟩
  have X2 := Lib.hid (X1'.out.on b2)
  clear b2 X1' q1
  have y0 := X2.out.z3.cell 0
  have y1 := X2.out.z3.cell 1
  have f0 := X2.out.z3.free 0
  have f1 := X2.out.z3.free 1
  have hfin := Lib.hid (zone_none X2.out.bl (by omega) X2.out.z3 0 E)
  go_wp2
  exact zone_ret2 hfin.out.1 hfin.out.2.1 _ _ 4 5 rfl rfl rfl rfl
set_option maxRecDepth 100000 in
set_option maxHeartbeats 1000000 in
theorem zmeet_a (a1 a2 : Option Addr) (m1 m2 c1 c2 : Nat) (l1 l2 : List Int) (n : Nat) (z1 : IsZ n l1) (z2 : IsZ n l2) (w : World) (h1 : SL w a1 m1 c1 l1) (h2 : SL w a2 m2 c2 l2) (hn : l1 = []) : Calls Try.prog 13 #[.agg #[.int .i64 n, .slice a1 m1 c1], .agg #[.int .i64 n, .slice a2 m2 c2]] w (ZoneE n [] 0 w) := by
  obtain ⟨W1, hW1⟩ : ∃ W1, W1 = ((w.alloc (.cells #[.int .i64 n, .slice a1 m1 c1] 24)).alloc (.cells #[.int .i64 n, .slice a2 m2 c2] 24)).alloc (.cells #[.int .i64 0, .slice none 0 0] 24) := ⟨_, rfl⟩
  have X1 : B3 w W1 (.int .i64 n) (.slice a1 m1 c1) (.int .i64 n) (.slice a2 m2 c2) := by rw [hW1]; exact b3_new _ _ _ _ _
  have q1 := Lib.hid (ztwo_any n n a1 a2 l1 l2 m1 m2 c1 c2 W1 (h1.below X1.bl) (h2.below X1.bl))
  have H1 := Lib.hid h1
  have H2 := Lib.hid h2
  have X1' := Lib.hid X1
  have hW1' := Lib.hid hW1
  rw [z1.two z2] at q1
  have q2 := Lib.hid (fun W (hW : Below w.heap.size w W) => zempty_any n a1 m1 c1 l1 W (H1.out.below hW))
  have q3 := Lib.hid (fun W (hW : Below w.heap.size w W) => zempty_any n a2 m2 c2 l2 W (H2.out.below hW))
  rw [decide_eq_true hn] at q2
  clear hW1 X1 h1 h2 hn
  go_enter Try.func13, Try.ntmps13
  go_wp2_with fail
  rw [← hW1'.out]
  refine q1.out.mono ?_
  rintro e w2 ⟨rfl, b2⟩
  have X2 := Lib.hid (X1'.out.on b2)
  clear b2 X1' q1
  have k0 := X2.out.z1.cell 0
  have k1 := X2.out.z1.cell 1
  have p2 := Lib.hid (q2.out w2 X2.out.bl)
  go_wp2_with fail
  refine p2.out.mono ?_
  rintro e w3 ⟨rfl, b3⟩
  have X3 := Lib.hid (X2.out.on b3)
  clear b3 X2 p2 k0 k1
  have k0 := X3.out.z1.cell 0
  have y0 := X3.out.z3.cell 0
  have y1 := X3.out.z3.cell 1
  have f0 := X3.out.z3.free 0
  have f1 := X3.out.z3.free 1
  have hfin := Lib.hid (zone_none X3.out.bl (by omega) X3.out.z3 n 0)
  go_wp2
  exact zone_ret2 hfin.out.1 hfin.out.2.1 _ _ 4 5 rfl rfl rfl rfl
set_option maxRecDepth 100000 in
set_option maxHeartbeats 1000000 in
theorem zmeet_b (a1 a2 : Option Addr) (m1 m2 c1 c2 : Nat) (l1 l2 : List Int) (n : Nat) (z1 : IsZ n l1) (z2 : IsZ n l2) (w : World) (h1 : SL w a1 m1 c1 l1) (h2 : SL w a2 m2 c2 l2) (hn1 : l1 ≠ []) (hn : l2 = []) : Calls Try.prog 13 #[.agg #[.int .i64 n, .slice a1 m1 c1], .agg #[.int .i64 n, .slice a2 m2 c2]] w (ZoneE n [] 0 w) := by
  obtain ⟨W1, hW1⟩ : ∃ W1, W1 = ((w.alloc (.cells #[.int .i64 n, .slice a1 m1 c1] 24)).alloc (.cells #[.int .i64 n, .slice a2 m2 c2] 24)).alloc (.cells #[.int .i64 0, .slice none 0 0] 24) := ⟨_, rfl⟩
  have X1 : B3 w W1 (.int .i64 n) (.slice a1 m1 c1) (.int .i64 n) (.slice a2 m2 c2) := by rw [hW1]; exact b3_new _ _ _ _ _
  have q1 := Lib.hid (ztwo_any n n a1 a2 l1 l2 m1 m2 c1 c2 W1 (h1.below X1.bl) (h2.below X1.bl))
  have H1 := Lib.hid h1
  have H2 := Lib.hid h2
  have X1' := Lib.hid X1
  have hW1' := Lib.hid hW1
  rw [z1.two z2] at q1
  have q2 := Lib.hid (fun W (hW : Below w.heap.size w W) => zempty_any n a1 m1 c1 l1 W (H1.out.below hW))
  have q3 := Lib.hid (fun W (hW : Below w.heap.size w W) => zempty_any n a2 m2 c2 l2 W (H2.out.below hW))
  rw [decide_eq_false hn1] at q2
  rw [decide_eq_true hn] at q3
  clear hW1 X1 h1 h2 hn hn1
  go_enter Try.func13, Try.ntmps13
  go_wp2_with fail
  rw [← hW1'.out]
  refine q1.out.mono ?_
  rintro e w2 ⟨rfl, b2⟩
  have X2 := Lib.hid (X1'.out.on b2)
  clear b2 X1' q1
  have k0 := X2.out.z1.cell 0
  have k1 := X2.out.z1.cell 1
  have p2 := Lib.hid (q2.out w2 X2.out.bl)
  go_wp2_with fail
  refine p2.out.mono ?_
  rintro e w3 ⟨rfl, b3⟩
  have X3 := Lib.hid (X2.out.on b3)
  clear b3 X2 p2 k0 k1
  have k0 := X3.out.z2.cell 0
  have k1 := X3.out.z2.cell 1
  have p3 := Lib.hid (q3.out w3 X3.out.bl)
  go_wp2_with fail
  refine p3.out.mono ?_
  rintro e w4 ⟨rfl, b4⟩
  have X4 := Lib.hid (X3.out.on b4)
  clear b4 X3 p3 k0 k1
  have k0 := X4.out.z1.cell 0
  have y0 := X4.out.z3.cell 0
  have y1 := X4.out.z3.cell 1
  have f0 := X4.out.z3.free 0
  have f1 := X4.out.z3.free 1
  have hfin := Lib.hid (zone_none X4.out.bl (by omega) X4.out.z3 n 0)
  go_wp2
  exact zone_ret2 hfin.out.1 hfin.out.2.1 _ _ 4 5 rfl rfl rfl rfl
set_option maxRecDepth 100000 in
set_option maxHeartbeats 1000000 in
theorem zmeet_c (a1 a2 : Option Addr) (m1 m2 c1 c2 : Nat) (l1 l2 : List Int) (n : Nat) (z1 : IsZ n l1) (z2 : IsZ n l2) (w : World) (h1 : SL w a1 m1 c1 l1) (h2 : SL w a2 m2 c2 l2) (hF1 : Full n l1) (hF2 : Full n l2) : Calls Try.prog 13 #[.agg #[.int .i64 n, .slice a1 m1 c1], .agg #[.int .i64 n, .slice a2 m2 c2]] w (ZoneE n (closedL n (pw min l1 l2)) 0 w) := by
  obtain ⟨W1, hW1⟩ : ∃ W1, W1 = ((w.alloc (.cells #[.int .i64 n, .slice a1 m1 c1] 24)).alloc (.cells #[.int .i64 n, .slice a2 m2 c2] 24)).alloc (.cells #[.int .i64 0, .slice none 0 0] 24) := ⟨_, rfl⟩
  have X1 : B3 w W1 (.int .i64 n) (.slice a1 m1 c1) (.int .i64 n) (.slice a2 m2 c2) := by rw [hW1]; exact b3_new _ _ _ _ _
  have q1 := Lib.hid (ztwo_any n n a1 a2 l1 l2 m1 m2 c1 c2 W1 (h1.below X1.bl) (h2.below X1.bl))
  have H1 := Lib.hid h1
  have H2 := Lib.hid h2
  have X1' := Lib.hid X1
  have hW1' := Lib.hid hW1
  rw [z1.two z2] at q1
  have q2 := Lib.hid (fun W (hW : Below w.heap.size w W) => zempty_any n a1 m1 c1 l1 W (H1.out.below hW))
  have q3 := Lib.hid (fun W (hW : Below w.heap.size w W) => zempty_any n a2 m2 c2 l2 W (H2.out.below hW))
  rw [decide_eq_false hF1.ne] at q2
  rw [decide_eq_false hF2.ne] at q3
  have hp := Lib.hid (fun W (hW : Below w.heap.size w W) => pairs_meet min (fun x y W => fmeet_any x y W) n hF1.le a1 a2 m1 m2 c1 c2 l1 l2 hF1.len hF2.len W (H1.out.below hW) (H2.out.below hW))
  clear hW1 X1 h1 h2 hF1 hF2
  generalize closedL n (pw min l1 l2) = R at *
  go_enter Try.func13, Try.ntmps13
  go_wp2_with fail
  rw [← hW1'.out]
  refine q1.out.mono ?_
  rintro e w2 ⟨rfl, b2⟩
  have X2 := Lib.hid (X1'.out.on b2)
  clear b2 X1' q1
  have k0 := X2.out.z1.cell 0
  have k1 := X2.out.z1.cell 1
  have p2 := Lib.hid (q2.out w2 X2.out.bl)
  go_wp2_with fail
  refine p2.out.mono ?_
  rintro e w3 ⟨rfl, b3⟩
  have X3 := Lib.hid (X2.out.on b3)
  clear b3 X2 p2 k0 k1
  have k0 := X3.out.z2.cell 0
  have k1 := X3.out.z2.cell 1
  have p3 := Lib.hid (q3.out w3 X3.out.bl)
  go_wp2_with fail
  refine p3.out.mono ?_
  rintro e w4 ⟨rfl, b4⟩
  have X4 := Lib.hid (X3.out.on b4)
  clear b4 X3 p3 k0 k1
  have p4 := Lib.hid (hp.out w4 X4.out.bl)
  have j0 := X4.out.z2.cell 0
  have j1 := X4.out.z2.cell 1
  have k0 := X4.out.z1.cell 0
  have k1 := X4.out.z1.cell 1
  go_wp2_with fail
  refine p4.out.mono ?_
  rintro e w7 ⟨a7, c7, rfl, hc7, s7, b7, nw7⟩
  have Zd := X4.out.z3.below b7 X4.out.z3.lt
  have y0 := Zd.cell 0
  have y1 := Zd.cell 1
  have f0 := Zd.free 0
  have f1 := Zd.free 1
  have hfin := Lib.hid (zone_put (n := n) (err := 0) X4.out.bl (by omega) X4.out.z3 hc7 s7 b7 nw7)
  clear Zd k0 k1
  go_wp2
  exact zone_ret2 hfin.out.1 hfin.out.2.1 _ _ 4 5 rfl rfl rfl rfl
def meetL (n : Nat) (l1 l2 : List Int) : List Int := if l1 = [] then [] else if l2 = [] then [] else closedL n (pw min l1 l2)
theorem zmeet_ok (a1 a2 : Option Addr) (m1 m2 c1 c2 : Nat) (l1 l2 : List Int) (n : Nat) (z1 : IsZ n l1) (z2 : IsZ n l2) (w : World) (h1 : SL w a1 m1 c1 l1) (h2 : SL w a2 m2 c2 l2) : Calls Try.prog 13 #[.agg #[.int .i64 n, .slice a1 m1 c1], .agg #[.int .i64 n, .slice a2 m2 c2]] w (ZoneE n (meetL n l1 l2) 0 w) := by
  unfold meetL
  split
  · rename_i e; exact zmeet_a a1 a2 m1 m2 c1 c2 l1 l2 n z1 z2 w h1 h2 e
  · rename_i e
    split
    · rename_i e2; exact zmeet_b a1 a2 m1 m2 c1 c2 l1 l2 n z1 z2 w h1 h2 e e2
    · rename_i e2; exact zmeet_c a1 a2 m1 m2 c1 c2 l1 l2 n z1 z2 w h1 h2 (z1.2.resolve_left e) (z2.2.resolve_left e2)
end Go.Proofs.Ytacbkddkjlnklaa
