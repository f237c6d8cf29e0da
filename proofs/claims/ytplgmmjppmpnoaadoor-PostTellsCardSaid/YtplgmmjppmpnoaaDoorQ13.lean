import Derived.Test.YtplgmmjppmpnoaaDoorQ09
import Derived.Test.YtplgmmjppmpnoaaDoorQ10
import Derived.Test.YtplgmmjppmpnoaaDoorQ12
/- The document's answers: what is behind a statement, and at fault. (Written by gen-postrefdo.py.) -/
namespace Go.Proofs.YtplgmmjppmpnoaaDoor
open Go.RowKit
set_option linter.unusedVariables false
set_option linter.unusedSimpArgs false

theorem p3_mk (w : World) (zn zm rn rm : Value) (st : Array Value) : P3 w (((w.alloc (.cells #[zn, zm] 24)).alloc (.cells st 26)).alloc (.cells #[rn, rm] 24)) zn zm st rn rm := by
  refine ⟨((box_below _ _ _).alloc (by simp) _).alloc (by simp; omega) _, ((Holds.new w _ _).alloc _).alloc _, ?_, ?_⟩
  · have := (Holds.new (w.alloc (.cells #[zn, zm] 24)) 26 st).alloc (.cells #[rn, rm] 24)
    simpa using this
  · have := Holds.new ((w.alloc (.cells #[zn, zm] 24)).alloc (.cells st 26)) 24 #[rn, rm]
    simpa using this
theorem p3_on {w W W' : World} {zn zm : Value} {st : Array Value} (h : ∃ rn rm, P3 w W zn zm st rn rm) (hb : Below W.heap.size W W') : ∃ rn rm, P3 w W' zn zm st rn rm := by
  obtain ⟨rn, rm, h⟩ := h
  exact ⟨rn, rm, h.on hb⟩
theorem p3_sl {w W : World} {zn zm : Value} {st : Array Value} {a : Option Addr} {m c : Nat} {l : List Int} (h : ∃ rn rm, P3 w W zn zm st rn rm) (hs : SL w a m c l) : SL W a m c l := by
  obtain ⟨rn, rm, h⟩ := h
  exact hs.below h.bl
theorem p3_setr {w W : World} {zn zm : Value} {st : Array Value} (h : ∃ rn rm, P3 w W zn zm st rn rm) (u v : Value) : ∃ rn rm, P3 w ((W.setCell ⟨w.heap.size + 2, 0, none⟩ u).setCell ⟨w.heap.size + 2, 1, none⟩ v) zn zm st rn rm := by
  obtain ⟨rn, rm, h⟩ := h
  exact ⟨u, v, (h.bl.setCell (p := ⟨w.heap.size + 2, 0, none⟩) (by simp) _).setCell (p := ⟨w.heap.size + 2, 1, none⟩) (by simp) _, (h.z.far (p := ⟨w.heap.size + 2, 0, none⟩) (by simp) _).far (p := ⟨w.heap.size + 2, 1, none⟩) (by simp) _, (h.s.far (p := ⟨w.heap.size + 2, 0, none⟩) (by simp) _).far (p := ⟨w.heap.size + 2, 1, none⟩) (by simp) _, zh_set h.r _ _⟩
set_option maxRecDepth 100000 in
set_option maxHeartbeats 400000 in
theorem rpost_skip (n : Nat) (l : List Int)  (a : Option Addr) (m ca : Nat) (w : World) (h : SL w a m ca l) : Calls Tryd.prog 13 #[.agg #[.int .i64 n, .slice a m ca], .agg #[.int .i64 1, .int .i64 0, .int .i64 0, .int .i64 0, .int .i64 0]] w (ZoneR n l w) := by
  have X := Lib.hid (p3_mk w (.int .i64 n) (.slice a m ca) (.int .i64 n) (.slice a m ca) #[.int .i64 1, .int .i64 0, .int .i64 0, .int .i64 0, .int .i64 0])
  have hS := Lib.hid (h.below X.out.bl)
  clear h
  go_enter Tryd.func13, Tryd.ntmps13
  go_wp2
  exact zone_ret X.out.r ⟨a, m, ca, rfl, hS.out, X.out.bl⟩ _ _ 4 rfl rfl rfl
set_option maxRecDepth 100000 in
set_option maxHeartbeats 400000 in
theorem rfault_1 (n : Nat) (l : List Int) (x y c d : Int) (a : Option Addr) (m ca : Nat) (w : World) (h : SL w a m ca l) : Calls Tryd.prog 12 #[.agg #[.int .i64 n, .slice a m ca], .agg #[.int .i64 1, .int .i64 x, .int .i64 y, .int .i64 c, .int .i64 d]] w (ZoneR n [] w) := by
  have X := Lib.hid (p3_mk w (.int .i64 n) (.slice a m ca) (.int .i64 n) (.slice none 0 0) #[.int .i64 1, .int .i64 x, .int .i64 y, .int .i64 c, .int .i64 d])
  have hS := Lib.hid (h.below X.out.bl)
  clear h
  go_enter Tryd.func12, Tryd.ntmps12
  go_wp2
  exact zone_ret X.out.r ⟨none, 0, 0, rfl, SL.nil _, X.out.bl⟩ _ _ 4 rfl rfl rfl
set_option maxRecDepth 100000 in
set_option maxHeartbeats 400000 in
theorem rfault_2 (n : Nat) (l : List Int) (x y c d : Int) (a : Option Addr) (m ca : Nat) (w : World) (h : SL w a m ca l) : Calls Tryd.prog 12 #[.agg #[.int .i64 n, .slice a m ca], .agg #[.int .i64 2, .int .i64 x, .int .i64 y, .int .i64 c, .int .i64 d]] w (ZoneR n [] w) := by
  have X := Lib.hid (p3_mk w (.int .i64 n) (.slice a m ca) (.int .i64 n) (.slice none 0 0) #[.int .i64 2, .int .i64 x, .int .i64 y, .int .i64 c, .int .i64 d])
  have hS := Lib.hid (h.below X.out.bl)
  clear h
  go_enter Tryd.func12, Tryd.ntmps12
  go_wp2
  exact zone_ret X.out.r ⟨none, 0, 0, rfl, SL.nil _, X.out.bl⟩ _ _ 4 rfl rfl rfl
set_option maxRecDepth 100000 in
set_option maxHeartbeats 400000 in
theorem rfault_3 (n : Nat) (l : List Int) (x y c d : Int) (a : Option Addr) (m ca : Nat) (w : World) (h : SL w a m ca l) : Calls Tryd.prog 12 #[.agg #[.int .i64 n, .slice a m ca], .agg #[.int .i64 3, .int .i64 x, .int .i64 y, .int .i64 c, .int .i64 d]] w (ZoneR n [] w) := by
  have X := Lib.hid (p3_mk w (.int .i64 n) (.slice a m ca) (.int .i64 n) (.slice none 0 0) #[.int .i64 3, .int .i64 x, .int .i64 y, .int .i64 c, .int .i64 d])
  have hS := Lib.hid (h.below X.out.bl)
  clear h
  go_enter Tryd.func12, Tryd.ntmps12
  go_wp2
  exact zone_ret X.out.r ⟨none, 0, 0, rfl, SL.nil _, X.out.bl⟩ _ _ 4 rfl rfl rfl
set_option maxRecDepth 100000 in
set_option maxHeartbeats 400000 in
theorem rfault_4 (n : Nat) (l : List Int) (x y c d : Int) (a : Option Addr) (m ca : Nat) (w : World) (h : SL w a m ca l) : Calls Tryd.prog 12 #[.agg #[.int .i64 n, .slice a m ca], .agg #[.int .i64 4, .int .i64 x, .int .i64 y, .int .i64 c, .int .i64 d]] w (ZoneR n [] w) := by
  have X := Lib.hid (p3_mk w (.int .i64 n) (.slice a m ca) (.int .i64 n) (.slice none 0 0) #[.int .i64 4, .int .i64 x, .int .i64 y, .int .i64 c, .int .i64 d])
  have hS := Lib.hid (h.below X.out.bl)
  clear h
  go_enter Tryd.func12, Tryd.ntmps12
  go_wp2
  exact zone_ret X.out.r ⟨none, 0, 0, rfl, SL.nil _, X.out.bl⟩ _ _ 4 rfl rfl rfl
set_option maxRecDepth 100000 in
set_option maxHeartbeats 400000 in
theorem rpost_set (n : Nat) (l : List Int) (hz : IsZ n l) (X Y : Nat) (hx0 : 1 ≤ X) (hx : X ≤ n) (hy : Y ≤ n) (c : Int) (a : Option Addr) (m ca : Nat) (w : World) (h : SL w a m ca l) : Calls Tryd.prog 13 #[.agg #[.int .i64 n, .slice a m ca], .agg #[.int .i64 2, .int .i64 X, .int .i64 Y, .int .i64 c, .int .i64 0]] w (ZoneR n (letL n l X Y c) w) := by
  obtain ⟨W1, hW1⟩ : ∃ W1, W1 = ((w.alloc (.cells #[.int .i64 n, .slice a m ca] 24)).alloc (.cells #[.int .i64 2, .int .i64 X, .int .i64 Y, .int .i64 c, .int .i64 0] 26)).alloc (.cells #[.int .i64 0, .slice none 0 0] 24) := ⟨_, rfl⟩
  have X1 : P3 w W1 (.int .i64 n) (.slice a m ca) #[.int .i64 2, .int .i64 X, .int .i64 Y, .int .i64 c, .int .i64 0] (.int .i64 0) (.slice none 0 0) := by rw [hW1]; exact p3_new _ _ _ _
  have hW1' := Lib.hid hW1
  have XP := Lib.hid X1
  have k0 := X1.z.cell 0
  have k1 := X1.z.cell 1
  have s0 := X1.s.cell 0
  have s1 := X1.s.cell 1
  have s2 := X1.s.cell 2
  have s3 := X1.s.cell 3
  have s4 := X1.s.cell 4
  have q := Lib.hid (rlet_any n l hz X Y hx0 hx hy c a m ca W1 (h.below X1.bl))
  clear hW1 X1 h hz
  generalize (letL n l X Y c) = R at *
  go_enter Tryd.func13, Tryd.ntmps13
  go_wp2_with fail
  rw [← hW1'.out]
  refine q.out.mono ?_
  rintro e w7 ⟨a7, m7, c7, rfl, s7, b7, nw7⟩
  have Zd := XP.out.r.below b7 XP.out.r.lt
  have y0 := Zd.cell 0
  have y1 := Zd.cell 1
  have f0 := Zd.free 0
  have f1 := Zd.free 1
  have hfin := Lib.hid (zone_putN (n := n) XP.out.bl (by omega) XP.out.r s7 b7 nw7)
  clear Zd q k0 k1 s0 s1 s2 s3 s4 hW1'
  go_wp2
  exact zone_ret hfin.out.1 hfin.out.2.r _ _ 4 rfl rfl rfl
set_option maxRecDepth 100000 in
set_option maxHeartbeats 400000 in
theorem rpost_4 (n : Nat) (l : List Int) (hz : IsZ n l) (X Y : Nat) (hx : X ≤ n) (hy : Y ≤ n) (c : Int) (a : Option Addr) (m ca : Nat) (w : World) (h : SL w a m ca l) : Calls Tryd.prog 13 #[.agg #[.int .i64 n, .slice a m ca], .agg #[.int .i64 4, .int .i64 X, .int .i64 Y, .int .i64 c, .int .i64 0]] w (ZoneR n (limitL n l X Y c) w) := by
  obtain ⟨W1, hW1⟩ : ∃ W1, W1 = ((w.alloc (.cells #[.int .i64 n, .slice a m ca] 24)).alloc (.cells #[.int .i64 4, .int .i64 X, .int .i64 Y, .int .i64 c, .int .i64 0] 26)).alloc (.cells #[.int .i64 0, .slice none 0 0] 24) := ⟨_, rfl⟩
  have X1 : P3 w W1 (.int .i64 n) (.slice a m ca) #[.int .i64 4, .int .i64 X, .int .i64 Y, .int .i64 c, .int .i64 0] (.int .i64 0) (.slice none 0 0) := by rw [hW1]; exact p3_new _ _ _ _
  have hW1' := Lib.hid hW1
  have XP := Lib.hid X1
  have k0 := X1.z.cell 0
  have k1 := X1.z.cell 1
  have s0 := X1.s.cell 0
  have s1 := X1.s.cell 1
  have s2 := X1.s.cell 2
  have s3 := X1.s.cell 3
  have s4 := X1.s.cell 4
  have q := Lib.hid (rlim_any n l hz X Y hx hy c a m ca W1 (h.below X1.bl))
  clear hW1 X1 h hz
  generalize (limitL n l X Y c) = R at *
  go_enter Tryd.func13, Tryd.ntmps13
  go_wp2_with fail
  rw [← hW1'.out]
  refine q.out.mono ?_
  rintro e w7 ⟨a7, m7, c7, rfl, s7, b7, nw7⟩
  have Zd := XP.out.r.below b7 XP.out.r.lt
  have y0 := Zd.cell 0
  have y1 := Zd.cell 1
  have f0 := Zd.free 0
  have f1 := Zd.free 1
  have hfin := Lib.hid (zone_putN (n := n) XP.out.bl (by omega) XP.out.r s7 b7 nw7)
  clear Zd q k0 k1 s0 s1 s2 s3 s4 hW1'
  go_wp2
  exact zone_ret hfin.out.1 hfin.out.2.r _ _ 4 rfl rfl rfl
set_option maxRecDepth 100000 in
set_option maxHeartbeats 400000 in
theorem rpost_5 (n : Nat) (l : List Int) (hz : IsZ n l) (X Y : Nat) (hx : X ≤ n) (hy : Y ≤ n) (c : Int) (a : Option Addr) (m ca : Nat) (w : World) (h : SL w a m ca l) : Calls Tryd.prog 13 #[.agg #[.int .i64 n, .slice a m ca], .agg #[.int .i64 5, .int .i64 X, .int .i64 Y, .int .i64 c, .int .i64 0]] w (ZoneR n (limitL n l X Y c) w) := by
  obtain ⟨W1, hW1⟩ : ∃ W1, W1 = ((w.alloc (.cells #[.int .i64 n, .slice a m ca] 24)).alloc (.cells #[.int .i64 5, .int .i64 X, .int .i64 Y, .int .i64 c, .int .i64 0] 26)).alloc (.cells #[.int .i64 0, .slice none 0 0] 24) := ⟨_, rfl⟩
  have X1 : P3 w W1 (.int .i64 n) (.slice a m ca) #[.int .i64 5, .int .i64 X, .int .i64 Y, .int .i64 c, .int .i64 0] (.int .i64 0) (.slice none 0 0) := by rw [hW1]; exact p3_new _ _ _ _
  have hW1' := Lib.hid hW1
  have XP := Lib.hid X1
  have k0 := X1.z.cell 0
  have k1 := X1.z.cell 1
  have s0 := X1.s.cell 0
  have s1 := X1.s.cell 1
  have s2 := X1.s.cell 2
  have s3 := X1.s.cell 3
  have s4 := X1.s.cell 4
  have q := Lib.hid (rlim_any n l hz X Y hx hy c a m ca W1 (h.below X1.bl))
  clear hW1 X1 h hz
  generalize (limitL n l X Y c) = R at *
  go_enter Tryd.func13, Tryd.ntmps13
  go_wp2_with fail
  rw [← hW1'.out]
  refine q.out.mono ?_
  rintro e w7 ⟨a7, m7, c7, rfl, s7, b7, nw7⟩
  have Zd := XP.out.r.below b7 XP.out.r.lt
  have y0 := Zd.cell 0
  have y1 := Zd.cell 1
  have f0 := Zd.free 0
  have f1 := Zd.free 1
  have hfin := Lib.hid (zone_putN (n := n) XP.out.bl (by omega) XP.out.r s7 b7 nw7)
  clear Zd q k0 k1 s0 s1 s2 s3 s4 hW1'
  go_wp2
  exact zone_ret hfin.out.1 hfin.out.2.r _ _ 4 rfl rfl rfl
set_option maxRecDepth 100000 in
set_option maxHeartbeats 400000 in
theorem rfault_5 (n : Nat) (l : List Int) (hz : IsZ n l) (X Y : Nat) (hx : X ≤ n) (hy : Y ≤ n) (c : Int) (hc : -1099511627776 ≤ c ∧ c ≤ 1099511627776) (a : Option Addr) (m ca : Nat) (w : World) (h : SL w a m ca l) : Calls Tryd.prog 12 #[.agg #[.int .i64 n, .slice a m ca], .agg #[.int .i64 5, .int .i64 X, .int .i64 Y, .int .i64 c, .int .i64 0]] w (ZoneR n (limitL n l Y X (-c - 1)) w) := by
  obtain ⟨W1, hW1⟩ : ∃ W1, W1 = ((w.alloc (.cells #[.int .i64 n, .slice a m ca] 24)).alloc (.cells #[.int .i64 5, .int .i64 X, .int .i64 Y, .int .i64 c, .int .i64 0] 26)).alloc (.cells #[.int .i64 0, .slice none 0 0] 24) := ⟨_, rfl⟩
  have X1 : P3 w W1 (.int .i64 n) (.slice a m ca) #[.int .i64 5, .int .i64 X, .int .i64 Y, .int .i64 c, .int .i64 0] (.int .i64 0) (.slice none 0 0) := by rw [hW1]; exact p3_new _ _ _ _
  have hW1' := Lib.hid hW1
  have XP := Lib.hid X1
  have k0 := X1.z.cell 0
  have k1 := X1.z.cell 1
  have s0 := X1.s.cell 0
  have s1 := X1.s.cell 1
  have s2 := X1.s.cell 2
  have s3 := X1.s.cell 3
  have s4 := X1.s.cell 4
  have wr1 : IntKind.i64.wrap (-c) = -c := by simp [IntKind.wrap, IntKind.bits, IntKind.signed]; omega
  have wr2 : IntKind.i64.wrap (-c - 1) = -c - 1 := by simp [IntKind.wrap, IntKind.bits, IntKind.signed]; omega
  have q := Lib.hid (rlim_any n l hz Y X hy hx (-c - 1) a m ca W1 (h.below X1.bl))
  clear hW1 X1 h hz
  generalize (limitL n l Y X (-c - 1)) = R at *
  go_enter Tryd.func12, Tryd.ntmps12
  go_wp2_with fail
  rw [← hW1'.out]
  refine q.out.mono ?_
  rintro e w7 ⟨a7, m7, c7, rfl, s7, b7, nw7⟩
  have Zd := XP.out.r.below b7 XP.out.r.lt
  have y0 := Zd.cell 0
  have y1 := Zd.cell 1
  have f0 := Zd.free 0
  have f1 := Zd.free 1
  have hfin := Lib.hid (zone_putN (n := n) XP.out.bl (by omega) XP.out.r s7 b7 nw7)
  clear Zd q k0 k1 s0 s1 s2 s3 s4 hW1'
  go_wp2
  exact zone_ret hfin.out.1 hfin.out.2.r _ _ 4 rfl rfl rfl
set_option maxRecDepth 100000 in
set_option maxHeartbeats 400000 in
theorem rpost_pick (n : Nat) (l : List Int) (hz : IsZ n l) (X : Nat) (hx0 : 1 ≤ X) (hx : X ≤ n) (c d : Int) (hc : -1099511627776 ≤ c ∧ c ≤ 1099511627776) (a : Option Addr) (m ca : Nat) (w : World) (h : SL w a m ca l) : Calls Tryd.prog 13 #[.agg #[.int .i64 n, .slice a m ca], .agg #[.int .i64 3, .int .i64 X, .int .i64 0, .int .i64 c, .int .i64 d]] w (ZoneR n (limitL n (limitL n (forgetL n l X) X 0 d) 0 X (-c)) w) := by
  obtain ⟨W1, hW1⟩ : ∃ W1, W1 = ((w.alloc (.cells #[.int .i64 n, .slice a m ca] 24)).alloc (.cells #[.int .i64 3, .int .i64 X, .int .i64 0, .int .i64 c, .int .i64 d] 26)).alloc (.cells #[.int .i64 0, .slice none 0 0] 24) := ⟨_, rfl⟩
  have X1 : P3 w W1 (.int .i64 n) (.slice a m ca) #[.int .i64 3, .int .i64 X, .int .i64 0, .int .i64 c, .int .i64 d] (.int .i64 0) (.slice none 0 0) := by rw [hW1]; exact p3_new _ _ _ _
  have hW1' := Lib.hid hW1
  have XP := Lib.hid X1
  have k0 := X1.z.cell 0
  have k1 := X1.z.cell 1
  have s0 := X1.s.cell 0
  have s1 := X1.s.cell 1
  have s3 := X1.s.cell 3
  have s4 := X1.s.cell 4
  have hn := hz.1
  have wr1 : IntKind.i64.wrap (-c) = -c := by simp [IntKind.wrap, IntKind.bits, IntKind.signed]; omega
  have q1 := Lib.hid (fun W hs => rfor_any n l hz X hx a m ca W hs)
  have hS := Lib.hid h
  have hL1 := Lib.hid (fun W aa mm cc hs => rlim_any n (forgetL n l X) (forgetL_isz hn l X) X 0 hx (Nat.zero_le _) d aa mm cc W hs)
  have hL2 := Lib.hid (fun W aa mm cc hs => rlim_any n (limitL n (forgetL n l X) X 0 d) (limitL_isz hn _ _ _ _) 0 X (Nat.zero_le _) hx (-c) aa mm cc W hs)
  rw [show ((0 : Nat) : Int) = 0 from rfl] at hL1 hL2
  clear hW1 X1 h hz hc s0
  generalize limitL n (limitL n (forgetL n l X) X 0 d) 0 X (-c) = R3 at *
  generalize limitL n (forgetL n l X) X 0 d = R2 at *
  generalize forgetL n l X = R1 at *
  have f0 : ∀ W, (∃ rn rm, P3 w W (.int .i64 n) (.slice a m ca) #[.int .i64 3, .int .i64 X, .int .i64 0, .int .i64 c, .int .i64 d] rn rm) → W.cell? ⟨w.heap.size, 0, none⟩ = some (.int .i64 n) := fun W ⟨_, _, h⟩ => h.z.cell 0
  have f1 : ∀ W, (∃ rn rm, P3 w W (.int .i64 n) (.slice a m ca) #[.int .i64 3, .int .i64 X, .int .i64 0, .int .i64 c, .int .i64 d] rn rm) → W.cell? ⟨w.heap.size, 1, none⟩ = some (.slice a m ca) := fun W ⟨_, _, h⟩ => h.z.cell 1
  have f3 : ∀ W, (∃ rn rm, P3 w W (.int .i64 n) (.slice a m ca) #[.int .i64 3, .int .i64 X, .int .i64 0, .int .i64 c, .int .i64 d] rn rm) → W.cell? ⟨w.heap.size + 1, 1, none⟩ = some (.int .i64 X) := fun W ⟨_, _, h⟩ => h.s.cell 1
  have f5 : ∀ W, (∃ rn rm, P3 w W (.int .i64 n) (.slice a m ca) #[.int .i64 3, .int .i64 X, .int .i64 0, .int .i64 c, .int .i64 d] rn rm) → W.cell? ⟨w.heap.size + 1, 3, none⟩ = some (.int .i64 c) := fun W ⟨_, _, h⟩ => h.s.cell 3
  have f6 : ∀ W, (∃ rn rm, P3 w W (.int .i64 n) (.slice a m ca) #[.int .i64 3, .int .i64 X, .int .i64 0, .int .i64 c, .int .i64 d] rn rm) → W.cell? ⟨w.heap.size + 1, 4, none⟩ = some (.int .i64 d) := fun W ⟨_, _, h⟩ => h.s.cell 4
  clear k0 k1 s1 s3 s4
  go_enter Tryd.func13, Tryd.ntmps13
  go_wp2
  rw [← hW1'.out]
  clear hW1'
  refine wp_drawn_on (fun W => ∃ rn rm, P3 w W (.int .i64 n) (.slice a m ca) #[.int .i64 3, .int .i64 X, .int .i64 0, .int .i64 c, .int .i64 d] rn rm) (by kernel_rfl) (⟨_, _, XP.out.on (below_drew (Below.refl _ _))⟩) (fun hHeld => ?_)
  refine wpAnyH_take (i := 0) (oi := { dst := some 19, op := Go.Op.load 24 (Go.Operand.tmp 2), type := 24, pos := "ref.go:28", after := #[], guard := none }) (v := ?v1) rfl (by kernel_rfl) (by kernel_rfl) (by kernel_rfl) (fun _ _ _ h => h) (Or.inl ⟨by kernel_rfl, ?h1⟩) (by assumption) ?r1
  case h1 => (intro w hSw; (try dsimp only at hSw); go_simp; try with_reducible rfl)
  try simp only [Act.put, List.setIfInBounds_toArray, List.set_cons_zero, List.set_cons_succ]
  refine wpAnyH_take (i := 1) (oi := { dst := some 20, op := Go.Op.fieldAddr 26 (Go.Operand.tmp 3) 1, type := 0, pos := "ref.go:28", after := #[], guard := none }) (v := ?v2) rfl (by kernel_rfl) (by kernel_rfl) (by kernel_rfl) (fun _ _ _ h => h) (Or.inl ⟨by kernel_rfl, ?h2⟩) (by assumption) ?r2
  case h2 => (intro w hSw; (try dsimp only at hSw); go_simp; try with_reducible rfl)
  try simp only [Act.put, List.setIfInBounds_toArray, List.set_cons_zero, List.set_cons_succ]
  refine wpAnyH_take (i := 2) (oi := { dst := some 21, op := Go.Op.load 3 (Go.Operand.tmp 20), type := 3, pos := "ref.go:28", after := #[{ on := 1, ground := Go.Ground.data }], guard := none }) (v := ?v3) rfl (by kernel_rfl) (by kernel_rfl) (by kernel_rfl) (fun _ _ _ h => h) (Or.inl ⟨by kernel_rfl, ?h3⟩) (by assumption) ?r3
  case h3 => (intro w hSw; (try dsimp only at hSw); go_simp; try with_reducible rfl)
  try simp only [Act.put, List.setIfInBounds_toArray, List.set_cons_zero, List.set_cons_succ]
  refine wpAnyH_take (i := 4) (oi := { dst := some 23, op := Go.Op.fieldAddr 26 (Go.Operand.tmp 3) 1, type := 0, pos := "ref.go:28", after := #[], guard := none }) (v := ?v4) rfl (by kernel_rfl) (by kernel_rfl) (by kernel_rfl) (fun _ _ _ h => h) (Or.inl ⟨by kernel_rfl, ?h4⟩) (by assumption) ?r4
  case h4 => (intro w hSw; (try dsimp only at hSw); go_simp; try with_reducible rfl)
  try simp only [Act.put, List.setIfInBounds_toArray, List.set_cons_zero, List.set_cons_succ]
  refine wpAnyH_take (i := 5) (oi := { dst := some 24, op := Go.Op.load 3 (Go.Operand.tmp 23), type := 3, pos := "ref.go:28", after := #[{ on := 4, ground := Go.Ground.data }], guard := none }) (v := ?v5) rfl (by kernel_rfl) (by kernel_rfl) (by kernel_rfl) (fun _ _ _ h => h) (Or.inl ⟨by kernel_rfl, ?h5⟩) (by assumption) ?r5
  case h5 => (intro w hSw; (try dsimp only at hSw); go_simp; try with_reducible rfl)
  try simp only [Act.put, List.setIfInBounds_toArray, List.set_cons_zero, List.set_cons_succ]
  refine wpAnyH_take (i := 6) (oi := { dst := some 25, op := Go.Op.fieldAddr 26 (Go.Operand.tmp 3) 4, type := 0, pos := "ref.go:28", after := #[], guard := none }) (v := ?v6) rfl (by kernel_rfl) (by kernel_rfl) (by kernel_rfl) (fun _ _ _ h => h) (Or.inl ⟨by kernel_rfl, ?h6⟩) (by assumption) ?r6
  case h6 => (intro w hSw; (try dsimp only at hSw); go_simp; try with_reducible rfl)
  try simp only [Act.put, List.setIfInBounds_toArray, List.set_cons_zero, List.set_cons_succ]
  refine wpAnyH_take (i := 7) (oi := { dst := some 26, op := Go.Op.load 3 (Go.Operand.tmp 25), type := 3, pos := "ref.go:28", after := #[{ on := 6, ground := Go.Ground.data }], guard := none }) (v := ?v7) rfl (by kernel_rfl) (by kernel_rfl) (by kernel_rfl) (fun _ _ _ h => h) (Or.inl ⟨by kernel_rfl, ?h7⟩) (by assumption) ?r7
  case h7 => (intro w hSw; (try dsimp only at hSw); go_simp; try with_reducible rfl)
  try simp only [Act.put, List.setIfInBounds_toArray, List.set_cons_zero, List.set_cons_succ]
  refine wpAnyH_take (i := 9) (oi := { dst := some 28, op := Go.Op.fieldAddr 26 (Go.Operand.tmp 3) 1, type := 0, pos := "ref.go:28", after := #[], guard := none }) (v := ?v8) rfl (by kernel_rfl) (by kernel_rfl) (by kernel_rfl) (fun _ _ _ h => h) (Or.inl ⟨by kernel_rfl, ?h8⟩) (by assumption) ?r8
  case h8 => (intro w hSw; (try dsimp only at hSw); go_simp; try with_reducible rfl)
  try simp only [Act.put, List.setIfInBounds_toArray, List.set_cons_zero, List.set_cons_succ]
  refine wpAnyH_take (i := 10) (oi := { dst := some 29, op := Go.Op.load 3 (Go.Operand.tmp 28), type := 3, pos := "ref.go:28", after := #[{ on := 9, ground := Go.Ground.data }], guard := none }) (v := ?v9) rfl (by kernel_rfl) (by kernel_rfl) (by kernel_rfl) (fun _ _ _ h => h) (Or.inl ⟨by kernel_rfl, ?h9⟩) (by assumption) ?r9
  case h9 => (intro w hSw; (try dsimp only at hSw); go_simp; try with_reducible rfl)
  try simp only [Act.put, List.setIfInBounds_toArray, List.set_cons_zero, List.set_cons_succ]
  refine wpAnyH_take (i := 11) (oi := { dst := some 30, op := Go.Op.fieldAddr 26 (Go.Operand.tmp 3) 3, type := 0, pos := "ref.go:28", after := #[], guard := none }) (v := ?v10) rfl (by kernel_rfl) (by kernel_rfl) (by kernel_rfl) (fun _ _ _ h => h) (Or.inl ⟨by kernel_rfl, ?h10⟩) (by assumption) ?r10
  case h10 => (intro w hSw; (try dsimp only at hSw); go_simp; try with_reducible rfl)
  try simp only [Act.put, List.setIfInBounds_toArray, List.set_cons_zero, List.set_cons_succ]
  refine wpAnyH_take (i := 12) (oi := { dst := some 31, op := Go.Op.load 3 (Go.Operand.tmp 30), type := 3, pos := "ref.go:28", after := #[{ on := 11, ground := Go.Ground.data }], guard := none }) (v := ?v11) rfl (by kernel_rfl) (by kernel_rfl) (by kernel_rfl) (fun _ _ _ h => h) (Or.inl ⟨by kernel_rfl, ?h11⟩) (by assumption) ?r11
  case h11 => (intro w hSw; (try dsimp only at hSw); go_simp; try with_reducible rfl)
  try simp only [Act.put, List.setIfInBounds_toArray, List.set_cons_zero, List.set_cons_succ]
  refine wpAnyH_take (i := 13) (oi := { dst := some 32, op := Go.Op.unOp Go.UnOp.neg 3 (Go.Operand.tmp 31), type := 3, pos := "ref.go:28", after := #[{ on := 12, ground := Go.Ground.data }], guard := none }) (v := ?v12) rfl (by kernel_rfl) (by kernel_rfl) (by kernel_rfl) (fun _ _ _ h => h) (Or.inl ⟨by kernel_rfl, ?h12⟩) (by assumption) ?r12
  case h12 => (intro w hSw; (try dsimp only at hSw); go_simp; try with_reducible rfl)
  try simp only [Act.put, List.setIfInBounds_toArray, List.set_cons_zero, List.set_cons_succ]
  refine wpAnyH_ready (rs := [3]) (by kernel_rfl) (by simp) ?_
  refine AllReadyH.cons (o := { dst := some 22, op := Go.Op.call { callee := Go.Callee.value (Go.Operand.func 23), args := #[Go.Operand.tmp 19, Go.Operand.tmp 21], argTypes := #[24, 3] }, type := 24, pos := "ref.go:28", after := #[{ on := 0, ground := Go.Ground.data }, { on := 2, ground := Go.Ground.data }], guard := none }) rfl (fun K hK => ?_) AllReadyH.nil
  go_simp
  refine (q1.out _ (p3_sl hHeld hS.out)).mono ?_
  rintro e v3 ⟨a3, m3, c3, rfl, t3, b3, nw3⟩
  have T3 := Lib.hid (hL1.out v3 a3 m3 c3 t3)
  go_simp
  refine hK.out _ _ (p3_on hHeld b3) (fun hHeld => ?_)
  clear hK K
  try simp only [Act.put, List.setIfInBounds_toArray, List.set_cons_zero, List.set_cons_succ]
  refine wpAnyH_ready (rs := [8]) (by kernel_rfl) (by simp) ?_
  refine AllReadyH.cons (o := { dst := some 27, op := Go.Op.call { callee := Go.Callee.value (Go.Operand.func 21), args := #[Go.Operand.tmp 22, Go.Operand.tmp 24, Go.Operand.const (Go.Value.int Go.IntKind.i64 0), Go.Operand.tmp 26], argTypes := #[24, 3, 3, 3] }, type := 24, pos := "ref.go:28", after := #[{ on := 3, ground := Go.Ground.data }, { on := 5, ground := Go.Ground.data }, { on := 7, ground := Go.Ground.data }, { on := 3, ground := Go.Ground.chain }], guard := none }) rfl (fun K hK => ?_) AllReadyH.nil
  go_simp
  refine T3.out.mono ?_
  rintro e v8 ⟨a8, m8, c8, rfl, t8, b8, nw8⟩
  have T8 := Lib.hid (hL2.out v8 a8 m8 c8 t8)
  go_simp
  refine hK.out _ _ (p3_on hHeld b8) (fun hHeld => ?_)
  clear hK K
  try simp only [Act.put, List.setIfInBounds_toArray, List.set_cons_zero, List.set_cons_succ]
  refine wpAnyH_ready (rs := [14]) (by kernel_rfl) (by simp) ?_
  refine AllReadyH.cons (o := { dst := some 33, op := Go.Op.call { callee := Go.Callee.value (Go.Operand.func 21), args := #[Go.Operand.tmp 27, Go.Operand.const (Go.Value.int Go.IntKind.i64 0), Go.Operand.tmp 29, Go.Operand.tmp 32], argTypes := #[24, 3, 3, 3] }, type := 24, pos := "ref.go:28", after := #[{ on := 8, ground := Go.Ground.data }, { on := 10, ground := Go.Ground.data }, { on := 13, ground := Go.Ground.data }, { on := 8, ground := Go.Ground.chain }], guard := none }) rfl (fun K hK => ?_) AllReadyH.nil
  go_simp
  have hH := hHeld
  obtain ⟨rn, rm, Q⟩ := hH
  refine T8.out.mono ?_
  rintro e v14 ⟨a14, m14, c14, rfl, t14, b14, nw14⟩
  have Zd := Q.r.below b14 Q.r.lt
  have y0 := Zd.cell 0
  have y1 := Zd.cell 1
  have g0 := Zd.free 0
  have g1 := Zd.free 1
  have hfin := Lib.hid (zone_putN (n := n) Q.bl (by omega) Q.r t14 b14 nw14)
  clear Zd Q
  go_simp
  refine hK.out _ _ (p3_on hHeld b14) (fun hHeld => ?_)
  clear hK K
  try simp only [Act.put, List.setIfInBounds_toArray, List.set_cons_zero, List.set_cons_succ]
  refine wpAnyH_ready (rs := [15]) (by kernel_rfl) (by simp) ?_
  refine AllReadyH.cons (o := { dst := none, op := Go.Op.store 24 (Go.Operand.tmp 4) (Go.Operand.tmp 33), type := 0, pos := "ref.go:28", after := #[{ on := 14, ground := Go.Ground.data }, { on := 14, ground := Go.Ground.chain }, { on := 0, ground := Go.Ground.phase }, { on := 1, ground := Go.Ground.phase }, { on := 2, ground := Go.Ground.phase }, { on := 3, ground := Go.Ground.phase }, { on := 4, ground := Go.Ground.phase }, { on := 5, ground := Go.Ground.phase }, { on := 6, ground := Go.Ground.phase }, { on := 7, ground := Go.Ground.phase }, { on := 8, ground := Go.Ground.phase }, { on := 9, ground := Go.Ground.phase }, { on := 10, ground := Go.Ground.phase }, { on := 11, ground := Go.Ground.phase }, { on := 12, ground := Go.Ground.phase }, { on := 13, ground := Go.Ground.phase }, { on := 14, ground := Go.Ground.phase }], guard := none }) rfl (fun K hK => ?_) AllReadyH.nil
  go_simp
  refine hK.out _ _ (p3_setr hHeld _ _) (fun hHeld => ?_)
  clear hK K
  try simp only [Act.put, List.setIfInBounds_toArray, List.set_cons_zero, List.set_cons_succ]
  refine wpAnyH_done (by kernel_rfl) ?_ _
  go_wp2
  exact zone_ret hfin.out.1 hfin.out.2.r _ _ 4 rfl rfl rfl
theorem rpost_any (n : Nat) (k x y c d : Int) (l : List Int) (hz : IsZ n l) (hr : rightB k x y c d n = true) (a : Option Addr) (m ca : Nat) (w : World) (h : SL w a m ca l) : Calls Tryd.prog 13 #[.agg #[.int .i64 n, .slice a m ca], .agg #[.int .i64 k, .int .i64 x, .int .i64 y, .int .i64 c, .int .i64 d]] w (ZoneR n (postL n l k x y c d) w) := by
  have hw := way_of hr
  cases hw with
  | skip => exact rpost_skip n l a m ca w h
  | set X Y c h1 h2 h3 h4 => exact rpost_set n l hz X Y h1 h2 h3 c a m ca w h
  | pick X c d h1 h2 h3 h4 h5 => exact rpost_pick n l hz X h1 h2 c d (isVal_in h3) a m ca w h
  | limit X Y c h1 h2 h3 h4 => exact rpost_4 n l hz X Y h1 h2 c a m ca w h
  | check X Y c h1 h2 h3 h4 => exact rpost_5 n l hz X Y h1 h2 c a m ca w h
theorem rfault_any (n : Nat) (k x y c d : Int) (l : List Int) (hz : IsZ n l) (hr : rightB k x y c d n = true) (a : Option Addr) (m ca : Nat) (w : World) (h : SL w a m ca l) : Calls Tryd.prog 12 #[.agg #[.int .i64 n, .slice a m ca], .agg #[.int .i64 k, .int .i64 x, .int .i64 y, .int .i64 c, .int .i64 d]] w (ZoneR n (faultL n l k x y c) w) := by
  have hw := way_of hr
  cases hw with
  | skip => exact rfault_1 n l _ _ _ _ a m ca w h
  | set X Y c h1 h2 h3 h4 => exact rfault_2 n l _ _ _ _ a m ca w h
  | pick X c d h1 h2 h3 h4 h5 => exact rfault_3 n l _ _ _ _ a m ca w h
  | limit X Y c h1 h2 h3 h4 => exact rfault_4 n l _ _ _ _ a m ca w h
  | check X Y c h1 h2 h3 h4 => exact rfault_5 n l hz X Y h1 h2 c (isVal_in h4) a m ca w h
end Go.Proofs.YtplgmmjppmpnoaaDoor
/- Plain mathematics of PostTells: nothing is behind a check just where all of the zone is at fault. -/
namespace Go.Proofs.YtplgmmjppmpnoaaDoor
open Go.RowKit
set_option linter.unusedVariables false

theorem limit_nil {n : Nat} {l : List Int} (hz : IsZ n l) (hF : Full n l) {X Y : Nat} (hX : X ≤ n) (hY : Y ≤ n) (c : Int) : limitL n l X Y c = [] ↔ mat n l Y X ≤ -c - 1 := by
  have hne := hF.ne
  constructor
  · intro e
    by_cases hq : mat n l Y X ≤ -c - 1
    · exact hq
    exfalso
    have hh : Has n l (pointL n l X) := by
      refine ⟨hne, point_near hF hX, ?_⟩
      intro i j hi hj
      unfold difF
      rw [point_at hF hi hX, point_at hF hj hX]
      have := hF.closed.tri i X j hi hX hj
      omega
    have h2 : Has n (limitL n l X Y c) (pointL n l X) := by
      rw [has_limit hz hX hY c]
      refine ⟨hh, ?_⟩
      unfold difF
      rw [point_at hF hX hX, point_at hF hY hX, hF.closed.zero X hX]
      omega
    exact h2.1 e
  · intro hq
    by_cases e : limitL n l X Y c = []
    · exact e
    exfalso
    have hD : Full n (limitL n l X Y c) := (limitL_isz hz.1 l X Y c).2.resolve_left e
    have h1 : Lies n (limitL n l X Y c) (limitL n l X Y c) := ⟨e, fun i j _ _ => Int.le_refl _⟩
    obtain ⟨⟨-, h2⟩, h3⟩ := (lies_limit hD hz hX hY c).1 h1
    have h4 := h2 Y X hY hX
    have h5 := hD.closed.tri X X Y hX hX hY
    have h6 := hD.closed.zero X hX
    omega
theorem limit_all {n : Nat} {l : List Int} (hz : IsZ n l) (hF : Full n l) {X Y : Nat} (hX : X ≤ n) (hY : Y ≤ n) (c : Int) : limitL n l X Y c = l ↔ mat n l X Y ≤ c := by
  have hne := hF.ne
  constructor
  · intro e
    have h1 : Lies n l (limitL n l X Y c) := by rw [e]; exact ⟨hne, fun i j _ _ => Int.le_refl _⟩
    exact ((lies_limit hF hz hX hY c).1 h1).2
  · intro hq
    refine lies_ext (limitL_isz hz.1 l X Y c) hz fun D hD => ?_
    rw [lies_limit hD hz hX hY c]
    exact ⟨fun h => h.1, fun h => ⟨h, Int.le_trans (h.2 X Y hX hY) hq⟩⟩
theorem must_is {n : Nat} {l : List Int} (hz : IsZ n l) {k x y c d : Int} (hr : rightB k x y c d n = true) : (decide (postL n l k x y c d = []) && !decide (faultL n l k x y c = [])) = (!decide (faultL n l k x y c = []) && decide (faultL n l k x y c = l)) := by
  by_cases hf : faultL n l k x y c = []
  · rw [decide_eq_true hf]; simp
  rw [decide_eq_false hf]
  have hw := way_of hr
  cases hw with
  | skip => exact absurd (by unfold faultL; rfl) hf
  | set X Y c _ _ _ _ => exact absurd (by unfold faultL; rfl) hf
  | pick X c d _ _ _ _ _ => exact absurd (by unfold faultL; rfl) hf
  | limit X Y c _ _ _ _ => exact absurd (by unfold faultL; rfl) hf
  | check X Y c hX hY hXY hc =>
    have e1 : faultL n l 5 X Y c = limitL n l Y X (-c - 1) := by unfold faultL; rw [if_pos rfl]; simp
    have e2 : postL n l 5 X Y c 0 = limitL n l X Y c := by unfold postL; simp
    rw [e1] at hf ⊢
    rw [e2]
    have hne : l ≠ [] := fun e => hf (by subst e; unfold limitL stepL; simp)
    have hF := hz.2.resolve_left hne
    have h1 := limit_nil hz hF hX hY c
    have h2 := limit_all hz hF hY hX (-c - 1)
    rw [Bool.not_false, Bool.and_true, Bool.true_and, decide_eq_decide, h1, h2]
end Go.Proofs.YtplgmmjppmpnoaaDoor
