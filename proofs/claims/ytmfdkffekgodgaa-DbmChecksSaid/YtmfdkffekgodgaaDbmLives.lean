/- Zones: lives. -/
import Derived.Test.YtmfdkffekgodgaaDbmHolds
namespace Go.Proofs.Ytmfdkffekgodgaa
open Go.RowKit
set_option linter.unusedVariables false
set_option linter.unusedSimpArgs false

def zM : List Int := [1125899906842624, 1125899906842624, 1125899906842624, 1125899906842624, 1125899906842624, 3, 4, 1125899906842624, 1125899906842624]
def zY : List Int := [1125899906842624, -8, 1125899906842624, 1125899906842624, 1125899906842624, 3, 4, 1125899906842624, 1125899906842624]
def zD : List Int := [0, 1099511627776, 1099511627776, 7, 0, 3, 4, 1099511627780, 0]
def zA : List Int := [0, 1099511627776, 1099511627776, 0]
theorem zM_closed : closedL 2 zM = zD := by decide +kernel
theorem zY_closed : closedL 2 zY = [] := by decide +kernel
theorem zD_fix : zD = closedL 2 zD := by decide +kernel
theorem zD_full : Full 2 zD := ⟨by omega, rfl, by decide, zD_fix⟩
theorem zA_all : allL 1 = zA := by decide +kernel
def EndsZ (n err : Int) (m : Nat) (l : List Int) (w : World) (e : Ending) (w' : World) : Prop :=
  ∃ a c, e = .returned (.tuple #[.agg #[.int .i64 n, .slice a m c], .int .i64 err]) ∧ SL w' a m c l ∧ Below w.heap.size w w'
theorem ends_of {n err : Int} {m : Nat} {l : List Int} {w : World} {e : Ending} {w' : World} (hm : l.length = m) (hmx : m ≤ 9223372036854775807) (h : ZoneE n l err w e w') : EndsZ n err m l w e w' := by
  obtain ⟨a, c, rfl, hc, hs, hb, -⟩ := h
  subst hm
  exact ⟨a, c, rfl, ⟨rfl, hc, hmx, hs⟩, hb⟩
theorem EndsZ.from {n err : Int} {m : Nat} {l : List Int} {w w1 : World} {e : Ending} {w' : World} (h : EndsZ n err m l w1 e w') (hb : Below w.heap.size w w1) : EndsZ n err m l w e w' := by
  obtain ⟨a, c, rfl, hs, hb2⟩ := h
  exact ⟨a, c, rfl, hs, hb.trans (hb2.mono hb.size)⟩
theorem Gives.from {v : Value} {w w1 : World} {e : Ending} {w' : World} (h : Gives v w1 e w') (hb : Below w.heap.size w w1) : Gives v w e w' := ⟨h.1, hb.trans (h.2.mono hb.size)⟩
theorem sl_lit (W : World) (e : TypeId) (l : List Int) (m : Nat) (cs : Array Value) (h : cs = (nums .i64 l).toArray) (hm : m = l.length) (hmx : m ≤ 9223372036854775807) : SL (W.alloc (.cells cs e)) (some ⟨W.heap.size, 0, none⟩) m m l :=
  ⟨hm, Nat.le_refl _, hmx, by simpa using sees_new .i64 W e l cs h⟩
theorem c1_any (W : World) : Calls Try.prog 9 #[.int .i64 2, .slice (some ⟨W.heap.size, 0, none⟩) 9 9] (W.alloc (.cells #[.int .i64 1125899906842624, .int .i64 1125899906842624, .int .i64 1125899906842624, .int .i64 1125899906842624, .int .i64 1125899906842624, .int .i64 3, .int .i64 4, .int .i64 1125899906842624, .int .i64 1125899906842624] 3)) (EndsZ 2 0 9 zD W) := by
  have h := dclose_ok 2 (by omega) (some ⟨W.heap.size, 0, none⟩) zM 9 9 rfl rfl _ (sl_lit W 3 zM 9 _ rfl rfl (by omega)).sees
  rw [zM_closed] at h
  exact h.mono (fun e w' he => (ends_of rfl (by decide) he).from (box_below _ _ _))
theorem c2_any (W : World) : Calls Try.prog 9 #[.int .i64 2, .slice (some ⟨W.heap.size, 0, none⟩) 9 9] (W.alloc (.cells #[.int .i64 1125899906842624, .int .i64 (-8), .int .i64 1125899906842624, .int .i64 1125899906842624, .int .i64 1125899906842624, .int .i64 3, .int .i64 4, .int .i64 1125899906842624, .int .i64 1125899906842624] 3)) (EndsZ 2 0 0 [] W) := by
  have h := dclose_ok 2 (by omega) (some ⟨W.heap.size, 0, none⟩) zY 9 9 rfl rfl _ (sl_lit W 3 zY 9 _ rfl rfl (by omega)).sees
  rw [zY_closed] at h
  exact h.mono (fun e w' he => (ends_of rfl (by decide) he).from (box_below _ _ _))
theorem c3_any (W : World) (k : Nat) : Calls Try.prog 9 #[.int .i64 2, .slice (some ⟨k, 0, none⟩) 1 1] (W.alloc (.cells #[.int .i64 1] 3)) (EndsZ 0 1 0 [] W) := by
  have h := dclose_no 2 (some ⟨k, 0, none⟩) 1 1 (by omega) (by decide) (W.alloc (.cells #[.int .i64 1] 3))
  exact h.mono (fun e w' he => (ends_of rfl (by decide) he).from (box_below _ _ _))
theorem al_any (W : World) : Calls Try.prog 10 #[.int .i64 1] W (EndsZ 1 0 4 zA W) := by
  have h := dall_ok 1 (by omega) W
  rw [zA_all] at h
  exact h.mono (fun e w' he => ends_of rfl (by decide) he)
theorem b1_any (W : World) (a : Option Addr) (c : Nat) (h : SL W a 9 c zD) : Calls Try.prog 18 #[.agg #[.int .i64 2, .slice a 9 c], .int .i64 1, .int .i64 0] W (Gives (.tuple #[.int .i64 7, .bool true]) W) := by
  have h := bound_any 2 a 9 c zD 1 0 W h
  rwa [show bndV 2 zD 1 0 = 7 by decide +kernel, show bndB 2 zD 1 0 = true by decide +kernel] at h
def EndsP (m : Nat) (l : List Int) (w : World) (e : Ending) (w' : World) : Prop := ∃ a c, e = .returned (.tuple #[.slice a m c, .bool true]) ∧ SL w' a m c l ∧ Below w.heap.size w w'
theorem p1_any (W : World) (a : Option Addr) (c : Nat) (h : SL W a 9 c zD) : Calls Try.prog 19 #[.agg #[.int .i64 2, .slice a 9 c], .int .i64 0] W (EndsP 2 [7, 4] W) := by
  have h := point_ok 2 a 9 c zD 0 (by omega) zD_full W h
  refine h.mono ?_
  rintro e w' ⟨a2, c2, rfl, hc2, hs, hb⟩
  exact ⟨a2, c2, rfl, ⟨rfl, hc2, by omega, hs⟩, hb⟩
theorem e1_any (W : World) (a : Option Addr) (c : Nat) (h : SL W a 0 c []) : Calls Try.prog 17 #[.agg #[.int .i64 2, .slice a 0 c]] W (Gives (.bool true) W) := by
  have h := empty_any 2 a 0 c [] W h
  rwa [show emptyB 2 [] = true by decide +kernel] at h
theorem e2_any (W : World) (a : Option Addr) (c : Nat) (h : SL W a 9 c zD) : Calls Try.prog 17 #[.agg #[.int .i64 2, .slice a 9 c]] W (Gives (.bool false) W) := by
  have h := empty_any 2 a 9 c zD W h
  rwa [show emptyB 2 zD = false by decide +kernel] at h
theorem k1_any (W : World) (a : Option Addr) (c : Nat) (h : SL W a 9 c zD) : Calls Try.prog 16 #[.agg #[.int .i64 2, .slice a 9 c]] W (Gives (.int .i64 0) W) := by
  have h := dcheck_any 2 a 9 c zD W h
  rwa [show chk 2 zD = 0 by decide +kernel] at h
theorem k2_any (W : World) : Calls Try.prog 16 #[.agg #[.int .i64 1, .slice (some ⟨W.heap.size, 0, none⟩) 4 4]] (W.alloc (.cells #[.int .i64 0, .int .i64 0, .int .i64 0, .int .i64 1] 3)) (Gives (.int .i64 80) W) := by
  have h := dcheck_any 1 _ 4 4 [0, 0, 0, 1] _ (sl_lit W 3 [0, 0, 0, 1] 4 _ rfl rfl (by omega))
  rw [show chk 1 [0, 0, 0, 1] = 80 by decide +kernel] at h
  exact h.mono (fun e w' he => he.from (box_below _ _ _))
theorem h1_any (W : World) (a : Option Addr) (c : Nat) (h : SL W a 9 c zD) : Calls Try.prog 21 #[.agg #[.int .i64 2, .slice a 9 c], .slice (some ⟨W.heap.size, 0, none⟩) 2 2] (W.alloc (.cells #[.int .i64 7, .int .i64 4] 3)) (Gives (.bool true) W) := by
  have h := has_any 2 a 9 c zD _ 2 2 [7, 4] _ (h.below (box_below _ _ _)) (sl_lit W 3 [7, 4] 2 _ rfl rfl (by omega))
  rw [show hasB 2 zD [7, 4] = true by decide +kernel] at h
  exact h.mono (fun e w' he => he.from (box_below _ _ _))
theorem h2_any (W : World) (a : Option Addr) (c : Nat) (h : SL W a 9 c zD) : Calls Try.prog 21 #[.agg #[.int .i64 2, .slice a 9 c], .slice (some ⟨W.heap.size, 0, none⟩) 2 2] (W.alloc (.cells #[.int .i64 8, .int .i64 4] 3)) (Gives (.bool false) W) := by
  have h := has_any 2 a 9 c zD _ 2 2 [8, 4] _ (h.below (box_below _ _ _)) (sl_lit W 3 [8, 4] 2 _ rfl rfl (by omega))
  rw [show hasB 2 zD [8, 4] = false by decide +kernel] at h
  exact h.mono (fun e w' he => he.from (box_below _ _ _))
theorem s1_any (W : World) (a : Option Addr) (c : Nat) (h : SL W a 4 c zA) : Calls Try.prog 12 #[.agg #[.int .i64 1, .slice a 4 c], .agg #[.int .i64 1, .slice (some ⟨W.heap.size, 0, none⟩) 4 4]] (W.alloc (.cells #[.int .i64 0, .int .i64 1099511627776, .int .i64 1099511627776, .int .i64 0] 3)) (Gives (.bool true) W) := by
  have h := dsame_any 1 1 a _ zA zA 4 4 c 4 _ (h.below (box_below _ _ _)) (sl_lit W 3 zA 4 _ rfl rfl (by omega))
  simp only [decide_true, Bool.and_true] at h
  exact h.mono (fun e w' he => he.from (box_below _ _ _))
/-- What lives has laid so far. -/
structure Lv (w W : World) (g1 g5 g11 : Nat) (a1 a5 ap a11 : Option Addr) (c1 c5 cp c11 : Nat) : Prop where
  bl : Below w.heap.size w W
  z1 : ZH W g1 (.int .i64 2) (.slice a1 9 c1)
  s1 : SL W a1 9 c1 zD
  z5 : ZH W g5 (.int .i64 2) (.slice a5 0 c5)
  s5 : SL W a5 0 c5 []
  sp : SL W ap 2 cp [7, 4]
  z11 : ZH W g11 (.int .i64 1) (.slice a11 4 c11)
  s11 : SL W a11 4 c11 zA
theorem Lv.on {w W W' : World} {g1 g5 g11 : Nat} {a1 a5 ap a11 : Option Addr} {c1 c5 cp c11 : Nat} (h : Lv w W g1 g5 g11 a1 a5 ap a11 c1 c5 cp c11) (hb : Below W.heap.size W W') : Lv w W' g1 g5 g11 a1 a5 ap a11 c1 c5 cp c11 :=
  ⟨h.bl.trans (hb.mono h.bl.size), h.z1.below hb h.z1.lt, h.s1.below hb, h.z5.below hb h.z5.lt, h.s5.below hb, h.sp.below hb, h.z11.below hb h.z11.lt, h.s11.below hb⟩
set_option maxRecDepth 100000 in
set_option maxHeartbeats 800000 in
theorem lives_dbm (w : World) : Calls Try.prog 8 #[] w (Gives (.bool true) w) := by
  have k1 := Lib.hid (fun W => c1_any W)
  have k2 := Lib.hid (fun W => c2_any W)
  have k3 := Lib.hid (fun W k => c3_any W k)
  have k4 := Lib.hid (fun W => al_any W)
  go_enter Try.func8, Try.ntmps8
  go_wp2_with fail
  refine (k1.out _).mono ?_
  rintro e w1 ⟨a1, c1, rfl, s1, b1⟩
  have Z1 := Holds.new w1 26 #[.int .i64 2, .slice a1 9 c1]
  have B1 := box_below w1 #[.int .i64 2, .slice a1 9 c1] 26
  have S1 := s1.below B1
  have hb1 := Lib.hid (b1_any _ a1 c1 S1)
  have Bw := b1.trans (B1.mono b1.size)
  clear s1 b1 B1 k1
  go_wp2_with fail
  refine hb1.out.mono ?_
  rintro e w2 ⟨rfl, b2⟩
  replace Z1 := Z1.below b2 Z1.lt
  replace S1 := S1.below b2
  replace Bw := Bw.trans (b2.mono Bw.size)
  clear hb1 b2
  generalize w1.heap.size = g1 at *
  have Z1' := Lib.hid Z1
  have S1' := Lib.hid S1
  have Bw' := Lib.hid Bw
  clear Z1 S1 Bw
  go_wp2_with fail
  refine (k2.out _).mono ?_
  rintro e w3 ⟨a5, c5, rfl, s5, b3⟩
  have B3 := b3.trans ((box_below w3 #[.int .i64 2, .slice a5 0 c5] 26).mono b3.size)
  have Z5' := Lib.hid (Holds.new w3 26 #[.int .i64 2, .slice a5 0 c5])
  have S5' := Lib.hid (s5.below (box_below w3 #[.int .i64 2, .slice a5 0 c5] 26))
  replace Z1' := Lib.hid (Z1'.out.below B3 Z1'.out.lt)
  replace S1' := Lib.hid (S1'.out.below B3)
  replace Bw' := Lib.hid (Bw'.out.trans (B3.mono Bw'.out.size))
  clear B3 b3 s5 k2
  go_wp2_with fail
  refine (k3.out _ _).mono ?_
  rintro e w4 ⟨a7, c7, rfl, s7, b4⟩
  have d0 : w4.cell? ⟨g1, 0, none⟩ = some (.int .i64 2) := (Z1'.out.below b4 Z1'.out.lt).cell 0
  have d1 : w4.cell? ⟨g1, 1, none⟩ = some (.slice a1 9 c1) := (Z1'.out.below b4 Z1'.out.lt).cell 1
  have d2 : g1 < w4.heap.size := (Z1'.out.below b4 Z1'.out.lt).lt
  have B4 := b4.trans ((box_below w4 #[.int .i64 0, .slice a7 0 c7] 26).mono b4.size)
  replace Z5' := Lib.hid (Z5'.out.below B4 Z5'.out.lt)
  replace S5' := Lib.hid (S5'.out.below B4)
  replace Z1' := Lib.hid (Z1'.out.below B4 Z1'.out.lt)
  replace S1' := Lib.hid (S1'.out.below B4)
  replace Bw' := Lib.hid (Bw'.out.trans (B4.mono Bw'.out.size))
  have hp := Lib.hid (p1_any _ a1 c1 S1'.out)
  clear B4 b4 s7 k3
  generalize w3.heap.size = g5 at *
  go_wp2_with fail
  refine hp.out.mono ?_
  rintro e w5 ⟨ap, cp, rfl, sp, b5⟩
  have SP' := Lib.hid sp
  replace Z5' := Lib.hid (Z5'.out.below b5 Z5'.out.lt)
  replace S5' := Lib.hid (S5'.out.below b5)
  replace Z1' := Lib.hid (Z1'.out.below b5 Z1'.out.lt)
  replace S1' := Lib.hid (S1'.out.below b5)
  replace Bw' := Lib.hid (Bw'.out.trans (b5.mono Bw'.out.size))
  clear d0 d1 d2 b5 sp hp
  go_wp2_with fail
  refine (k4.out _).mono ?_
  rintro e w6 ⟨a11, c11, rfl, s11, b6⟩
  have B6 := b6.trans ((box_below w6 #[.int .i64 1, .slice a11 4 c11] 26).mono b6.size)
  obtain ⟨W, hW⟩ : ∃ W, W = w6.alloc (.cells #[.int .i64 1, .slice a11 4 c11] 26) := ⟨_, rfl⟩
  have L : Lv w W g1 g5 w6.heap.size a1 a5 ap a11 c1 c5 cp c11 := by
    rw [hW]
    exact ⟨Bw'.out.trans (B6.mono Bw'.out.size), Z1'.out.below B6 Z1'.out.lt, S1'.out.below B6, Z5'.out.below B6 Z5'.out.lt, S5'.out.below B6, SP'.out.below B6, Holds.new _ _ _, s11.below (box_below _ _ _)⟩
  have L0 := Lib.hid L
  have hW' := Lib.hid hW
  have x1 : w6.cell? ⟨g5, 0, none⟩ = some (.int .i64 2) := (Z5'.out.below b6 Z5'.out.lt).cell 0
  have x2 : w6.cell? ⟨g5, 1, none⟩ = some (.slice a5 0 c5) := (Z5'.out.below b6 Z5'.out.lt).cell 1
  have x3 : g5 < w6.heap.size := (Z5'.out.below b6 Z5'.out.lt).lt
  have q1 := Lib.hid (e1_any _ a5 c5 L.s5)
  clear L hW B6 b6 s11 Z1' S1' Z5' S5' Bw' SP' k4
  go_wp2_with fail
  rw [← hW'.out]
  refine q1.out.mono ?_
  rintro e W1 ⟨rfl, y1⟩
  generalize w6.heap.size = g11 at *
  clear q1 x1 x2 x3 hW'
  have L1 := Lib.hid (L0.out.on y1)
  clear L0 y1
  have x1 := L1.out.z1.cell 0
  have x2 := L1.out.z1.cell 1
  have q1 := Lib.hid (e2_any _ a1 c1 L1.out.s1)
  go_wp2_with fail
  refine q1.out.mono ?_
  rintro e W2 ⟨rfl, y1⟩
  clear q1 x1 x2
  have L2 := Lib.hid (L1.out.on y1)
  clear L1 y1
  have x1 := L2.out.z1.cell 0
  have x2 := L2.out.z1.cell 1
  have q1 := Lib.hid (k1_any _ a1 c1 L2.out.s1)
  go_wp2_with fail
  refine q1.out.mono ?_
  rintro e W3 ⟨rfl, y1⟩
  clear q1 x1 x2
  have L3 := Lib.hid (L2.out.on y1)
  clear L2 y1
  have q1 := Lib.hid (k2_any W3)
  go_wp2_with fail
  refine q1.out.mono ?_
  rintro e W4 ⟨rfl, y1⟩
  clear q1
  have L4 := Lib.hid (L3.out.on y1)
  clear L3 y1
  have x1 := L4.out.z1.cell 0
  have x2 := L4.out.z1.cell 1
  have q1 := Lib.hid (h1_any _ a1 c1 L4.out.s1)
  go_wp2_with fail
  refine q1.out.mono ?_
  rintro e W5 ⟨rfl, y1⟩
  clear q1 x1 x2
  have L5 := Lib.hid (L4.out.on y1)
  clear L4 y1
  have x1 := L5.out.z1.cell 0
  have x2 := L5.out.z1.cell 1
  have q1 := Lib.hid (h2_any _ a1 c1 L5.out.s1)
  go_wp2_with fail
  refine q1.out.mono ?_
  rintro e W6 ⟨rfl, y1⟩
  clear q1 x1 x2
  have L6 := Lib.hid (L5.out.on y1)
  clear L5 y1
  have x1 := L6.out.z11.cell 0
  have x2 := L6.out.z11.cell 1
  obtain ⟨bp, op, rfl, -, x3⟩ := sees_at' L6.out.sp.sees (i := 0) (by decide)
  obtain ⟨bp2, op2, hpe, -, x4⟩ := sees_at' L6.out.sp.sees (i := 1) (by decide)
  injection hpe with hpe
  injection hpe with u1 u2 _
  subst u1 u2
  have x5 : W6.cell? ⟨bp, op, none⟩ = some (.int .i64 7) := x3
  have x6 : W6.cell? ⟨bp, op + 1, none⟩ = some (.int .i64 4) := x4
  clear x3 x4
  have q1 := Lib.hid (s1_any _ a11 c11 L6.out.s11)
  go_wp2_with fail
  refine q1.out.mono ?_
  rintro e W7 ⟨rfl, y1⟩
  clear q1 x1 x2
  have L7 := Lib.hid (L6.out.on y1)
  clear L6 y1
  go_wp2
  go_ret
  exact ⟨rfl, L7.out.bl⟩
end Go.Proofs.Ytmfdkffekgodgaa
