/- Zones put together: lives. (Written by gen-zone-lives.py.) -/
import Derived.Test.YtacbkddkjlnklaaZoneBox
namespace Go.Proofs.Ytacbkddkjlnklaa
open Go.RowKit
set_option linter.unusedVariables false
set_option linter.unusedSimpArgs false

def lZ : List Int := [0, 0, -3, 1099511627776, 0, 1099511627773, 5, 5, 0]
def lY : List Int := [0, -1, -3, 1099511627776, 0, 1099511627773, 5, 4, 0]
def lV : List Int := [0, -2, -3, 4, 0, -1, 5, 1, 0]
theorem lZ_is : closedL 2 (boxK 2 [(0, 1099511627776), (3, 5)] 2) = lZ := by decide +kernel
theorem lY_is : letMovL 2 lZ 1 1 = lY := by decide +kernel
theorem lV_is : letTieL 2 lZ 1 2 (-1) = lV := by decide +kernel
theorem lZ_full : Full 2 lZ := ⟨by omega, rfl, by decide, by decide +kernel⟩
theorem lY_full : Full 2 lY := ⟨by omega, rfl, by decide, by decide +kernel⟩
theorem lV_full : Full 2 lV := ⟨by omega, rfl, by decide, by decide +kernel⟩
theorem zsame_self (n : Int) (a1 a2 : Option Addr) (l : List Int) (m c1 c2 : Nat) (w : World) (h1 : SL w a1 m c1 l) (h2 : SL w a2 m c2 l) :
    Calls Try.prog 46 #[.agg #[.int .i64 n, .slice a1 m c1], .agg #[.int .i64 n, .slice a2 m c2]] w (Gives (.bool true) w) := by
  have := dsame_any n n a1 a2 l l m m c1 c2 w h1 h2
  simpa using this
theorem zq (l : List Int) (h : Full 2 l) : IsZ 2 l := ⟨by omega, .inr h⟩
theorem t1_any (W : World) : Calls Try.prog 32 #[.slice (some ⟨W.heap.size, 0, none⟩) 2 2] (W.alloc (.cells #[.int .i64 0, .int .i64 1099511627776, .int .i64 3, .int .i64 5] 38)) (EndsZ 2 0 9 lZ W) := by
  have hs : ItS (W.alloc (.cells #[.int .i64 0, .int .i64 1099511627776, .int .i64 3, .int .i64 5] 38)).heap.size (W.alloc (.cells #[.int .i64 0, .int .i64 1099511627776, .int .i64 3, .int .i64 5] 38)) (some ⟨W.heap.size, 0, none⟩) [(0, 1099511627776), (3, 5)] := by
    refine .inr ⟨W.heap.size, 0, rfl, by simp, fun k hk => ?_⟩
    have hH := Holds.new W 38 #[.int .i64 0, .int .i64 1099511627776, .int .i64 3, .int .i64 5]
    match k, hk with
    | 0, _ => exact ⟨hH.cell 0, hH.cell 1⟩
    | 1, _ => exact ⟨hH.cell 2, hH.cell 3⟩
    | k + 2, hk => simp at hk; omega
  have h := zbox_any 2 (by omega) [(0, 1099511627776), (3, 5)] rfl (some ⟨W.heap.size, 0, none⟩) 2 _ hs
  rw [lZ_is] at h
  exact h.mono (fun e w' he => (ends_of rfl (by decide) he).from (box_below _ _ _))
theorem t2_any (W : World) (a : Option Addr) (c : Nat) (h : SL W a 9 c lZ) : Calls Try.prog 23 #[.agg #[.int .i64 2, .slice a 9 c], .int .i64 1, .int .i64 1, .int .i64 1] W (EndsZ 2 0 9 lY W) := by
  have h := zlet_mov_in 2 lZ (zq _ lZ_full) 1 (by omega) (by omega) 1 a 9 c W h (by omega) (by omega)
  rw [lY_is] at h
  exact h.mono (fun e w' he => ends_of rfl (by decide) he)
theorem t3_any (W : World) (a : Option Addr) (c : Nat) (h : SL W a 9 c lY) : Calls Try.prog 24 #[.agg #[.int .i64 2, .slice a 9 c], .int .i64 1] W (Gives (.tuple #[.agg #[.int .i64 1, .int .i64 1099511627776], .int .i64 0]) W) := by
  have h := zitv_full 2 1 (by omega) lY lY_full a 9 c W h
  rwa [show -(mat 2 lY 0 1) = 1 by decide +kernel, show mat 2 lY 1 0 = 1099511627776 by decide +kernel] at h
theorem t4_any (W : World) (a : Option Addr) (c : Nat) (h : SL W a 9 c lZ) : Calls Try.prog 23 #[.agg #[.int .i64 2, .slice a 9 c], .int .i64 1, .int .i64 2, .int .i64 (-1)] W (EndsZ 2 0 9 lV W) := by
  have h := zlet_tie_in 2 lZ (zq _ lZ_full) 1 2 (by omega) (by omega) (by omega) (-1) a 9 c W h (by omega) (by omega) (by omega)
  rw [lV_is] at h
  exact h.mono (fun e w' he => ends_of rfl (by decide) he)
theorem t5_any (W : World) (a : Option Addr) (c : Nat) (h : SL W a 9 c lV) : Calls Try.prog 44 #[.agg #[.int .i64 2, .slice a 9 c], .int .i64 1, .int .i64 2] W (Gives (.tuple #[.int .i64 (-1), .bool true]) W) := by
  have h := bound_full lV_full (i := 1) (j := 2) (by omega) (by omega) a 9 c W h
  rwa [show mat 2 lV 1 2 = -1 by decide +kernel] at h
theorem t6_any (W : World) (a1 a2 : Option Addr) (c1 c2 : Nat) (h1 : SL W a1 9 c1 lY) (h2 : SL W a2 9 c2 lZ) : Calls Try.prog 12 #[.agg #[.int .i64 2, .slice a1 9 c1], .agg #[.int .i64 2, .slice a2 9 c2]] W (Gives (.tuple #[.bool true, .int .i64 0]) W) := by
  have h := zleq_ok a1 a2 9 9 c1 c2 lY lZ 2 (zq _ lY_full) (zq _ lZ_full) W h1 h2
  rwa [show leqB lY lZ = true by decide +kernel] at h
theorem t7_any (W : World) (a1 a2 : Option Addr) (c1 c2 : Nat) (h1 : SL W a1 9 c1 lZ) (h2 : SL W a2 9 c2 lV) : Calls Try.prog 13 #[.agg #[.int .i64 2, .slice a1 9 c1], .agg #[.int .i64 2, .slice a2 9 c2]] W (EndsZ 2 0 9 lV W) := by
  have h := zmeet_ok a1 a2 9 9 c1 c2 lZ lV 2 (zq _ lZ_full) (zq _ lV_full) W h1 h2
  rw [show meetL 2 lZ lV = lV by decide +kernel] at h
  exact h.mono (fun e w' he => ends_of rfl (by decide) he)
theorem t8_any (W : World) (a1 a2 : Option Addr) (c1 c2 : Nat) (h1 : SL W a1 9 c1 lZ) (h2 : SL W a2 9 c2 lV) : Calls Try.prog 14 #[.agg #[.int .i64 2, .slice a1 9 c1], .agg #[.int .i64 2, .slice a2 9 c2]] W (EndsZ 2 0 9 lZ W) := by
  have h := zjoin_ok a1 a2 9 9 c1 c2 lZ lV 2 (zq _ lZ_full) (zq _ lV_full) W h1 h2
  rw [show joinL 2 lZ lV = lZ by decide +kernel] at h
  exact h.mono (fun e w' he => ends_of rfl (by decide) he)
theorem t9_any (W : World) (a : Option Addr) (c : Nat) (h : SL W a 9 c lZ) : Calls Try.prog 21 #[.agg #[.int .i64 2, .slice a 9 c], .int .i64 0, .int .i64 3, .int .i64 1] W (EndsZ 0 1 0 [] W) := by
  have e : chkE 2 lZ 0 0 3 = 1 := by decide +kernel
  have h := zlimit_bad 2 0 3 1 a 9 c lZ W h (by rw [e]; decide)
  rw [e] at h
  exact h.mono (fun e w' he => ends_of rfl (by decide) he)
theorem t10_any (W : World) : Calls Try.prog 22 #[.agg #[.int .i64 9, .slice none 0 0], .int .i64 1] W (EndsZ 0 80 0 [] W) := by
  have e : chkE 9 [] 1 1 0 = 80 := by decide +kernel
  have h := zforget_bad 9 1 none 0 0 [] W (SL.nil W) (by rw [e]; decide)
  rw [e] at h
  exact h.mono (fun e w' he => ends_of rfl (by decide) he)
set_option maxRecDepth 100000 in
set_option maxHeartbeats 4000000 in
theorem zlives_any (w : World) : Calls Try.prog 10 #[] w (Gives (.bool true) w) := by
  have q1 := Lib.hid (fun W => t1_any W)
  have q10 := Lib.hid (fun W => t10_any W)
  go_enter Try.func10, Try.ntmps10
  go_wp2_with fail
  refine (q1.out _).mono ?_
  rintro e w1 ⟨a1, c1, rfl, s1, b1⟩
  clear q1
  have B1 := b1.trans ((box_below w1 #[.int .i64 2, .slice a1 9 c1] 24).mono b1.size)
  have BL := Lib.hid B1
  have Zz := Lib.hid (Holds.new w1 24 #[.int .i64 2, .slice a1 9 c1])
  have Sz := Lib.hid (s1.below (box_below w1 #[.int .i64 2, .slice a1 9 c1] 24))
  clear b1 s1 B1
  have q2 := Lib.hid (t2_any _ a1 c1 Sz.out)
  go_wp2_with fail
  refine q2.out.mono ?_
  rintro e w2 ⟨a2, c2, rfl, s2, b2⟩
  clear q2
  have B2 := b2.trans ((box_below w2 #[.int .i64 2, .slice a2 9 c2] 24).mono b2.size)
  replace BL := Lib.hid (BL.out.trans (B2.mono BL.out.size))
  replace Zz := Lib.hid (Zz.out.below B2 Zz.out.lt)
  replace Sz := Lib.hid (Sz.out.below B2)
  have Zy := Lib.hid (Holds.new w2 24 #[.int .i64 2, .slice a2 9 c2])
  have Sy := Lib.hid (s2.below (box_below w2 #[.int .i64 2, .slice a2 9 c2] 24))
  clear b2 s2 B2
  have q3 := Lib.hid (t3_any _ a2 c2 Sy.out)
  go_wp2_with fail
  refine q3.out.mono ?_
  rintro e w3 ⟨rfl, b3⟩
  clear q3
  have dz0 : w3.cell? ⟨w1.heap.size, 0, none⟩ = some (.int .i64 2) := (Zz.out.below b3 Zz.out.lt).cell 0
  have dz1 : w3.cell? ⟨w1.heap.size, 1, none⟩ = some (.slice a1 9 c1) := (Zz.out.below b3 Zz.out.lt).cell 1
  have dz2 : w1.heap.size < w3.heap.size := (Zz.out.below b3 Zz.out.lt).lt
  have B3 := b3.trans ((box_below w3 #[.int .i64 1, .int .i64 1099511627776] 38).mono b3.size)
  replace BL := Lib.hid (BL.out.trans (B3.mono BL.out.size))
  replace Zz := Lib.hid (Zz.out.below B3 Zz.out.lt)
  replace Sz := Lib.hid (Sz.out.below B3)
  replace Zy := Lib.hid (Zy.out.below B3 Zy.out.lt)
  replace Sy := Lib.hid (Sy.out.below B3)
  have Zx := Lib.hid (show HI _ w3.heap.size 1 1099511627776 from Holds.new w3 38 #[.int .i64 1, .int .i64 1099511627776])
  clear b3 B3
  have q4 := Lib.hid (t4_any _ a1 c1 Sz.out)
  go_wp2_with fail
  refine q4.out.mono ?_
  rintro e w4 ⟨a4, c4, rfl, s4, b4⟩
  clear q4 dz0 dz1 dz2
  have B4 := b4.trans ((box_below w4 #[.int .i64 2, .slice a4 9 c4] 24).mono b4.size)
  replace BL := Lib.hid (BL.out.trans (B4.mono BL.out.size))
  replace Zz := Lib.hid (Zz.out.below B4 Zz.out.lt)
  replace Sz := Lib.hid (Sz.out.below B4)
  replace Zy := Lib.hid (Zy.out.below B4 Zy.out.lt)
  replace Sy := Lib.hid (Sy.out.below B4)
  replace Zx := Lib.hid (Zx.out.below B4 Zx.out.lt)
  have Zv := Lib.hid (Holds.new w4 24 #[.int .i64 2, .slice a4 9 c4])
  have Sv := Lib.hid (s4.below (box_below w4 #[.int .i64 2, .slice a4 9 c4] 24))
  clear b4 s4 B4
  have q5 := Lib.hid (t5_any _ a4 c4 Sv.out)
  go_wp2_with fail
  refine q5.out.mono ?_
  rintro e w5 ⟨rfl, b5⟩
  replace BL := Lib.hid (BL.out.trans (b5.mono BL.out.size))
  replace Zz := Lib.hid (Zz.out.below b5 Zz.out.lt)
  replace Sz := Lib.hid (Sz.out.below b5)
  replace Zy := Lib.hid (Zy.out.below b5 Zy.out.lt)
  replace Sy := Lib.hid (Sy.out.below b5)
  replace Zx := Lib.hid (Zx.out.below b5 Zx.out.lt)
  replace Zv := Lib.hid (Zv.out.below b5 Zv.out.lt)
  replace Sv := Lib.hid (Sv.out.below b5)
  clear q5 b5
  have dy0 := Zy.out.cell 0
  have dy1 := Zy.out.cell 1
  have dz0 := Zz.out.cell 0
  have dz1 := Zz.out.cell 1
  have q6 := Lib.hid (t6_any _ a2 a1 c2 c1 Sy.out Sz.out)
  go_wp2_with fail
  refine q6.out.mono ?_
  rintro e w6 ⟨rfl, b6⟩
  replace BL := Lib.hid (BL.out.trans (b6.mono BL.out.size))
  replace Zz := Lib.hid (Zz.out.below b6 Zz.out.lt)
  replace Sz := Lib.hid (Sz.out.below b6)
  replace Zy := Lib.hid (Zy.out.below b6 Zy.out.lt)
  replace Sy := Lib.hid (Sy.out.below b6)
  replace Zx := Lib.hid (Zx.out.below b6 Zx.out.lt)
  replace Zv := Lib.hid (Zv.out.below b6 Zv.out.lt)
  replace Sv := Lib.hid (Sv.out.below b6)
  clear q6 dy0 dy1 dz0 dz1 b6
  have dz0 := Zz.out.cell 0
  have dz1 := Zz.out.cell 1
  have dv0 := Zv.out.cell 0
  have dv1 := Zv.out.cell 1
  have q7 := Lib.hid (t7_any _ a1 a4 c1 c4 Sz.out Sv.out)
  go_wp2_with fail
  refine q7.out.mono ?_
  rintro e w7 ⟨a7, c7, rfl, s7, b7⟩
  clear q7 dz0 dz1 dv0 dv1
  have dz0 : w7.cell? ⟨w1.heap.size, 0, none⟩ = some (.int .i64 2) := (Zz.out.below b7 Zz.out.lt).cell 0
  have dz1 : w7.cell? ⟨w1.heap.size, 1, none⟩ = some (.slice a1 9 c1) := (Zz.out.below b7 Zz.out.lt).cell 1
  have dz2 : w1.heap.size < w7.heap.size := (Zz.out.below b7 Zz.out.lt).lt
  have dv0 : w7.cell? ⟨w4.heap.size, 0, none⟩ = some (.int .i64 2) := (Zv.out.below b7 Zv.out.lt).cell 0
  have dv1 : w7.cell? ⟨w4.heap.size, 1, none⟩ = some (.slice a4 9 c4) := (Zv.out.below b7 Zv.out.lt).cell 1
  have dv2 : w4.heap.size < w7.heap.size := (Zv.out.below b7 Zv.out.lt).lt
  have B7 := b7.trans ((box_below w7 #[.int .i64 2, .slice a7 9 c7] 24).mono b7.size)
  replace BL := Lib.hid (BL.out.trans (B7.mono BL.out.size))
  replace Zz := Lib.hid (Zz.out.below B7 Zz.out.lt)
  replace Sz := Lib.hid (Sz.out.below B7)
  replace Zy := Lib.hid (Zy.out.below B7 Zy.out.lt)
  replace Sy := Lib.hid (Sy.out.below B7)
  replace Zx := Lib.hid (Zx.out.below B7 Zx.out.lt)
  replace Zv := Lib.hid (Zv.out.below B7 Zv.out.lt)
  replace Sv := Lib.hid (Sv.out.below B7)
  have Zm := Lib.hid (Holds.new w7 24 #[.int .i64 2, .slice a7 9 c7])
  have Sm := Lib.hid (s7.below (box_below w7 #[.int .i64 2, .slice a7 9 c7] 24))
  clear b7 s7 B7
  have q8 := Lib.hid (t8_any _ a1 a4 c1 c4 Sz.out Sv.out)
  go_wp2_with fail
  refine q8.out.mono ?_
  rintro e w8 ⟨a8, c8, rfl, s8, b8⟩
  clear q8 dz0 dz1 dz2 dv0 dv1 dv2
  have dz0 : w8.cell? ⟨w1.heap.size, 0, none⟩ = some (.int .i64 2) := (Zz.out.below b8 Zz.out.lt).cell 0
  have dz1 : w8.cell? ⟨w1.heap.size, 1, none⟩ = some (.slice a1 9 c1) := (Zz.out.below b8 Zz.out.lt).cell 1
  have dz2 : w1.heap.size < w8.heap.size := (Zz.out.below b8 Zz.out.lt).lt
  have B8 := b8.trans ((box_below w8 #[.int .i64 2, .slice a8 9 c8] 24).mono b8.size)
  replace BL := Lib.hid (BL.out.trans (B8.mono BL.out.size))
  replace Zz := Lib.hid (Zz.out.below B8 Zz.out.lt)
  replace Sz := Lib.hid (Sz.out.below B8)
  replace Zy := Lib.hid (Zy.out.below B8 Zy.out.lt)
  replace Sy := Lib.hid (Sy.out.below B8)
  replace Zx := Lib.hid (Zx.out.below B8 Zx.out.lt)
  replace Zv := Lib.hid (Zv.out.below B8 Zv.out.lt)
  replace Sv := Lib.hid (Sv.out.below B8)
  replace Zm := Lib.hid (Zm.out.below B8 Zm.out.lt)
  replace Sm := Lib.hid (Sm.out.below B8)
  have Zn := Lib.hid (Holds.new w8 24 #[.int .i64 2, .slice a8 9 c8])
  have Sn := Lib.hid (s8.below (box_below w8 #[.int .i64 2, .slice a8 9 c8] 24))
  clear b8 s8 B8
  have q9 := Lib.hid (t9_any _ a1 c1 Sz.out)
  go_wp2_with fail
  refine q9.out.mono ?_
  rintro e w9 ⟨a9, c9, rfl, s9, b9⟩
  clear q9 dz0 dz1 dz2
  have B9 := b9.trans ((box_below w9 #[.int .i64 0, .slice a9 0 c9] 24).mono b9.size)
  replace BL := Lib.hid (BL.out.trans (B9.mono BL.out.size))
  replace Zz := Lib.hid (Zz.out.below B9 Zz.out.lt)
  replace Sz := Lib.hid (Sz.out.below B9)
  replace Zy := Lib.hid (Zy.out.below B9 Zy.out.lt)
  replace Sy := Lib.hid (Sy.out.below B9)
  replace Zx := Lib.hid (Zx.out.below B9 Zx.out.lt)
  replace Zv := Lib.hid (Zv.out.below B9 Zv.out.lt)
  replace Sv := Lib.hid (Sv.out.below B9)
  replace Zm := Lib.hid (Zm.out.below B9 Zm.out.lt)
  replace Sm := Lib.hid (Sm.out.below B9)
  replace Zn := Lib.hid (Zn.out.below B9 Zn.out.lt)
  replace Sn := Lib.hid (Sn.out.below B9)
  clear b9 s9 B9
  go_wp2_with fail
  refine (q10.out _).mono ?_
  rintro e w10 ⟨a10, c10, rfl, s10, b10⟩
  clear q10
  have dx0 : w10.cell? ⟨w3.heap.size, 0, none⟩ = some (.int .i64 1) := (Zx.out.below b10 Zx.out.lt).cell 0
  have dx1 : w10.cell? ⟨w3.heap.size, 1, none⟩ = some (.int .i64 1099511627776) := (Zx.out.below b10 Zx.out.lt).cell 1
  have dx2 : w3.heap.size < w10.heap.size := (Zx.out.below b10 Zx.out.lt).lt
  have dm0 : w10.cell? ⟨w7.heap.size, 0, none⟩ = some (.int .i64 2) := (Zm.out.below b10 Zm.out.lt).cell 0
  have dm1 : w10.cell? ⟨w7.heap.size, 1, none⟩ = some (.slice a7 9 c7) := (Zm.out.below b10 Zm.out.lt).cell 1
  have dm2 : w7.heap.size < w10.heap.size := (Zm.out.below b10 Zm.out.lt).lt
  have dv0 : w10.cell? ⟨w4.heap.size, 0, none⟩ = some (.int .i64 2) := (Zv.out.below b10 Zv.out.lt).cell 0
  have dv1 : w10.cell? ⟨w4.heap.size, 1, none⟩ = some (.slice a4 9 c4) := (Zv.out.below b10 Zv.out.lt).cell 1
  have dv2 : w4.heap.size < w10.heap.size := (Zv.out.below b10 Zv.out.lt).lt
  have B10 := b10.trans ((box_below w10 #[.int .i64 0, .slice a10 0 c10] 24).mono b10.size)
  replace BL := Lib.hid (BL.out.trans (B10.mono BL.out.size))
  replace Zz := Lib.hid (Zz.out.below B10 Zz.out.lt)
  replace Sz := Lib.hid (Sz.out.below B10)
  replace Zy := Lib.hid (Zy.out.below B10 Zy.out.lt)
  replace Sy := Lib.hid (Sy.out.below B10)
  replace Zx := Lib.hid (Zx.out.below B10 Zx.out.lt)
  replace Zv := Lib.hid (Zv.out.below B10 Zv.out.lt)
  replace Sv := Lib.hid (Sv.out.below B10)
  replace Zm := Lib.hid (Zm.out.below B10 Zm.out.lt)
  replace Sm := Lib.hid (Sm.out.below B10)
  replace Zn := Lib.hid (Zn.out.below B10 Zn.out.lt)
  replace Sn := Lib.hid (Sn.out.below B10)
  clear b10 s10 B10
  have q11 := Lib.hid (zsame_self 2 a7 a4 lV 9 c7 c4 _ Sm.out Sv.out)
  go_wp2_with fail
  refine q11.out.mono ?_
  rintro e w11 ⟨rfl, b11⟩
  replace BL := Lib.hid (BL.out.trans (b11.mono BL.out.size))
  replace Zz := Lib.hid (Zz.out.below b11 Zz.out.lt)
  replace Sz := Lib.hid (Sz.out.below b11)
  replace Zy := Lib.hid (Zy.out.below b11 Zy.out.lt)
  replace Sy := Lib.hid (Sy.out.below b11)
  replace Zx := Lib.hid (Zx.out.below b11 Zx.out.lt)
  replace Zv := Lib.hid (Zv.out.below b11 Zv.out.lt)
  replace Sv := Lib.hid (Sv.out.below b11)
  replace Zm := Lib.hid (Zm.out.below b11 Zm.out.lt)
  replace Sm := Lib.hid (Sm.out.below b11)
  replace Zn := Lib.hid (Zn.out.below b11 Zn.out.lt)
  replace Sn := Lib.hid (Sn.out.below b11)
  clear q11 dx0 dx1 dx2 dm0 dm1 dm2 dv0 dv1 dv2 b11
  have dn0 := Zn.out.cell 0
  have dn1 := Zn.out.cell 1
  have dz0 := Zz.out.cell 0
  have dz1 := Zz.out.cell 1
  have q12 := Lib.hid (zsame_self 2 a8 a1 lZ 9 c8 c1 _ Sn.out Sz.out)
  go_wp2_with fail
  refine q12.out.mono ?_
  rintro e w12 ⟨rfl, b12⟩
  replace BL := Lib.hid (BL.out.trans (b12.mono BL.out.size))
  replace Zz := Lib.hid (Zz.out.below b12 Zz.out.lt)
  replace Sz := Lib.hid (Sz.out.below b12)
  replace Zy := Lib.hid (Zy.out.below b12 Zy.out.lt)
  replace Sy := Lib.hid (Sy.out.below b12)
  replace Zx := Lib.hid (Zx.out.below b12 Zx.out.lt)
  replace Zv := Lib.hid (Zv.out.below b12 Zv.out.lt)
  replace Sv := Lib.hid (Sv.out.below b12)
  replace Zm := Lib.hid (Zm.out.below b12 Zm.out.lt)
  replace Sm := Lib.hid (Sm.out.below b12)
  replace Zn := Lib.hid (Zn.out.below b12 Zn.out.lt)
  replace Sn := Lib.hid (Sn.out.below b12)
  clear q12 dn0 dn1 dz0 dz1 b12
  go_wp2
  go_ret
  exact ⟨rfl, BL.out⟩
end Go.Proofs.Ytacbkddkjlnklaa
