import Derived.Test.YtplgmmjppmpnoaaDoorQ08
/- Zones changed: check, Limit, Forget, Let. (Written by gen-zone-limit.py.) -/
namespace Go.Proofs.YtplgmmjppmpnoaaDoor
open Go.RowKit
set_option linter.unusedVariables false
set_option linter.unusedSimpArgs false

theorem full_near {n : Nat} {l : List Int} (hF : Full n l) {p : Nat} (hp : p < sz n) : -2199023255552 ≤ l.getD p 0 ∧ l.getD p 0 ≤ 2199023255552 := by
  obtain ⟨q1, q2, q3⟩ := place_of hp
  have e : l.getD p 0 = mat n l (p / (n + 1)) (p % (n + 1)) := by unfold mat; rw [q3]
  have h1 := hF.up q1 q2
  have h2 := hF.low q1 q2
  have h3 := widestF_le (p / (n + 1)) (p % (n + 1))
  have h4 := widestF_le (p % (n + 1)) (p / (n + 1))
  omega
/-- What is wrong with a zone, or the numbers of its variables. -/
def chkE (n : Int) (l : List Int) (least i j : Int) : Int := if checkB n l = false then 80 else if i < least ∨ n < i ∨ j < 0 ∨ n < j then 1 else 0
theorem zcheck_bad (n least i j : Int) (a : Option Addr) (m c : Nat) (l : List Int) (w : World) (h : SL w a m c l) (hk : checkB n l = false) : Calls Tryd.prog 67 #[.agg #[.int .i64 n, .slice a m c], .int .i64 least, .int .i64 i, .int .i64 j] w (Gives (.int .i64 80) w) := by
  obtain ⟨W1, hW1⟩ : ∃ W1, W1 = w.alloc (.cells #[.int .i64 n, .slice a m c] 24) := ⟨_, rfl⟩
  have hB : Below w.heap.size w W1 := by rw [hW1]; exact box_below _ _ _
  have Z1 : ZH W1 w.heap.size (.int .i64 n) (.slice a m c) := by rw [hW1]; exact Holds.new w _ _
  have q1 := Lib.hid (dcheck_any n a m c l W1 (h.below hB))
  have hW1' := Lib.hid hW1
  have hB' := Lib.hid hB
  have Z1' := Lib.hid Z1
  clear hW1 hB Z1 h
  rw [show chk n l = 80 by unfold chk; rw [hk]; rfl] at q1
  clear hk
  go_enter Tryd.func67, Tryd.ntmps67
  go_wp2_with fail
  rw [← hW1'.out]
  refine q1.out.mono ?_
  rintro e w2 ⟨rfl, b2⟩
  have k0 := (Z1'.out.below b2 Z1'.out.lt).cell 0
  have bl := Lib.hid (hB'.out.trans (b2.mono hB'.out.size))
  clear b2 q1 Z1' hW1'
  go_wp2
  go_ret
  exact ⟨rfl, bl.out⟩
theorem zcheck_c0 (n least i j : Int) (a : Option Addr) (m c : Nat) (l : List Int) (w : World) (h : SL w a m c l) (hk : checkB n l = true) (d1 : i < least) : Calls Tryd.prog 67 #[.agg #[.int .i64 n, .slice a m c], .int .i64 least, .int .i64 i, .int .i64 j] w (Gives (.int .i64 1) w) := by
  obtain ⟨W1, hW1⟩ : ∃ W1, W1 = w.alloc (.cells #[.int .i64 n, .slice a m c] 24) := ⟨_, rfl⟩
  have hB : Below w.heap.size w W1 := by rw [hW1]; exact box_below _ _ _
  have Z1 : ZH W1 w.heap.size (.int .i64 n) (.slice a m c) := by rw [hW1]; exact Holds.new w _ _
  have q1 := Lib.hid (dcheck_any n a m c l W1 (h.below hB))
  have hW1' := Lib.hid hW1
  have hB' := Lib.hid hB
  have Z1' := Lib.hid Z1
  clear hW1 hB Z1 h
  rw [show chk n l = 0 by unfold chk; rw [hk]; rfl] at q1
  clear hk
  go_enter Tryd.func67, Tryd.ntmps67
  go_wp2_with fail
  rw [← hW1'.out]
  refine q1.out.mono ?_
  rintro e w2 ⟨rfl, b2⟩
  have k0 := (Z1'.out.below b2 Z1'.out.lt).cell 0
  have bl := Lib.hid (hB'.out.trans (b2.mono hB'.out.size))
  clear b2 q1 Z1' hW1'
  go_wp2
  go_ret
  exact ⟨rfl, bl.out⟩
theorem zcheck_c1 (n least i j : Int) (a : Option Addr) (m c : Nat) (l : List Int) (w : World) (h : SL w a m c l) (hk : checkB n l = true) (d1 : ¬ i < least) (d2 : n < i) : Calls Tryd.prog 67 #[.agg #[.int .i64 n, .slice a m c], .int .i64 least, .int .i64 i, .int .i64 j] w (Gives (.int .i64 1) w) := by
  obtain ⟨W1, hW1⟩ : ∃ W1, W1 = w.alloc (.cells #[.int .i64 n, .slice a m c] 24) := ⟨_, rfl⟩
  have hB : Below w.heap.size w W1 := by rw [hW1]; exact box_below _ _ _
  have Z1 : ZH W1 w.heap.size (.int .i64 n) (.slice a m c) := by rw [hW1]; exact Holds.new w _ _
  have q1 := Lib.hid (dcheck_any n a m c l W1 (h.below hB))
  have hW1' := Lib.hid hW1
  have hB' := Lib.hid hB
  have Z1' := Lib.hid Z1
  clear hW1 hB Z1 h
  rw [show chk n l = 0 by unfold chk; rw [hk]; rfl] at q1
  clear hk
  go_enter Tryd.func67, Tryd.ntmps67
  go_wp2_with fail
  rw [← hW1'.out]
  refine q1.out.mono ?_
  rintro e w2 ⟨rfl, b2⟩
  have k0 := (Z1'.out.below b2 Z1'.out.lt).cell 0
  have bl := Lib.hid (hB'.out.trans (b2.mono hB'.out.size))
  clear b2 q1 Z1' hW1'
  go_wp2
  go_ret
  exact ⟨rfl, bl.out⟩
theorem zcheck_c2 (n least i j : Int) (a : Option Addr) (m c : Nat) (l : List Int) (w : World) (h : SL w a m c l) (hk : checkB n l = true) (d1 : ¬ i < least) (d2 : ¬ n < i) (d3 : j < 0) : Calls Tryd.prog 67 #[.agg #[.int .i64 n, .slice a m c], .int .i64 least, .int .i64 i, .int .i64 j] w (Gives (.int .i64 1) w) := by
  obtain ⟨W1, hW1⟩ : ∃ W1, W1 = w.alloc (.cells #[.int .i64 n, .slice a m c] 24) := ⟨_, rfl⟩
  have hB : Below w.heap.size w W1 := by rw [hW1]; exact box_below _ _ _
  have Z1 : ZH W1 w.heap.size (.int .i64 n) (.slice a m c) := by rw [hW1]; exact Holds.new w _ _
  have q1 := Lib.hid (dcheck_any n a m c l W1 (h.below hB))
  have hW1' := Lib.hid hW1
  have hB' := Lib.hid hB
  have Z1' := Lib.hid Z1
  clear hW1 hB Z1 h
  rw [show chk n l = 0 by unfold chk; rw [hk]; rfl] at q1
  clear hk
  go_enter Tryd.func67, Tryd.ntmps67
  go_wp2_with fail
  rw [← hW1'.out]
  refine q1.out.mono ?_
  rintro e w2 ⟨rfl, b2⟩
  have k0 := (Z1'.out.below b2 Z1'.out.lt).cell 0
  have bl := Lib.hid (hB'.out.trans (b2.mono hB'.out.size))
  clear b2 q1 Z1' hW1'
  go_wp2
  go_ret
  exact ⟨rfl, bl.out⟩
theorem zcheck_c3 (n least i j : Int) (a : Option Addr) (m c : Nat) (l : List Int) (w : World) (h : SL w a m c l) (hk : checkB n l = true) (d1 : ¬ i < least) (d2 : ¬ n < i) (d3 : ¬ j < 0) (d4 : n < j) : Calls Tryd.prog 67 #[.agg #[.int .i64 n, .slice a m c], .int .i64 least, .int .i64 i, .int .i64 j] w (Gives (.int .i64 1) w) := by
  obtain ⟨W1, hW1⟩ : ∃ W1, W1 = w.alloc (.cells #[.int .i64 n, .slice a m c] 24) := ⟨_, rfl⟩
  have hB : Below w.heap.size w W1 := by rw [hW1]; exact box_below _ _ _
  have Z1 : ZH W1 w.heap.size (.int .i64 n) (.slice a m c) := by rw [hW1]; exact Holds.new w _ _
  have q1 := Lib.hid (dcheck_any n a m c l W1 (h.below hB))
  have hW1' := Lib.hid hW1
  have hB' := Lib.hid hB
  have Z1' := Lib.hid Z1
  clear hW1 hB Z1 h
  rw [show chk n l = 0 by unfold chk; rw [hk]; rfl] at q1
  clear hk
  go_enter Tryd.func67, Tryd.ntmps67
  go_wp2_with fail
  rw [← hW1'.out]
  refine q1.out.mono ?_
  rintro e w2 ⟨rfl, b2⟩
  have k0 := (Z1'.out.below b2 Z1'.out.lt).cell 0
  have bl := Lib.hid (hB'.out.trans (b2.mono hB'.out.size))
  clear b2 q1 Z1' hW1'
  go_wp2
  go_ret
  exact ⟨rfl, bl.out⟩
theorem zcheck_ok (n least i j : Int) (a : Option Addr) (m c : Nat) (l : List Int) (w : World) (h : SL w a m c l) (hk : checkB n l = true) (d1 : ¬ i < least) (d2 : ¬ n < i) (d3 : ¬ j < 0) (d4 : ¬ n < j) : Calls Tryd.prog 67 #[.agg #[.int .i64 n, .slice a m c], .int .i64 least, .int .i64 i, .int .i64 j] w (Gives (.int .i64 0) w) := by
  obtain ⟨W1, hW1⟩ : ∃ W1, W1 = w.alloc (.cells #[.int .i64 n, .slice a m c] 24) := ⟨_, rfl⟩
  have hB : Below w.heap.size w W1 := by rw [hW1]; exact box_below _ _ _
  have Z1 : ZH W1 w.heap.size (.int .i64 n) (.slice a m c) := by rw [hW1]; exact Holds.new w _ _
  have q1 := Lib.hid (dcheck_any n a m c l W1 (h.below hB))
  have hW1' := Lib.hid hW1
  have hB' := Lib.hid hB
  have Z1' := Lib.hid Z1
  clear hW1 hB Z1 h
  rw [show chk n l = 0 by unfold chk; rw [hk]; rfl] at q1
  clear hk
  go_enter Tryd.func67, Tryd.ntmps67
  go_wp2_with fail
  rw [← hW1'.out]
  refine q1.out.mono ?_
  rintro e w2 ⟨rfl, b2⟩
  have k0 := (Z1'.out.below b2 Z1'.out.lt).cell 0
  have bl := Lib.hid (hB'.out.trans (b2.mono hB'.out.size))
  clear b2 q1 Z1' hW1'
  go_wp2
  go_ret
  exact ⟨rfl, bl.out⟩
theorem zcheck_any (n least i j : Int) (a : Option Addr) (m c : Nat) (l : List Int) (w : World) (h : SL w a m c l) : Calls Tryd.prog 67 #[.agg #[.int .i64 n, .slice a m c], .int .i64 least, .int .i64 i, .int .i64 j] w (Gives (.int .i64 (chkE n l least i j)) w) := by
  unfold chkE
  cases hk : checkB n l
  · rw [if_pos rfl]; exact zcheck_bad n least i j a m c l w h hk
  · rw [if_neg (by decide)]
    by_cases d1 : i < least
    · rw [if_pos (.inl d1)]; exact zcheck_c0 n least i j a m c l w h hk d1
    by_cases d2 : n < i
    · rw [if_pos (.inr (.inl d2))]; exact zcheck_c1 n least i j a m c l w h hk d1 d2
    by_cases d3 : j < 0
    · rw [if_pos (.inr (.inr (.inl d3)))]; exact zcheck_c2 n least i j a m c l w h hk d1 d2 d3
    by_cases d4 : n < j
    · rw [if_pos (.inr (.inr (.inr d4)))]; exact zcheck_c3 n least i j a m c l w h hk d1 d2 d3 d4
    · rw [if_neg (by omega)]; exact zcheck_ok n least i j a m c l w h hk d1 d2 d3 d4
theorem chkE_ok {n : Nat} {l : List Int} (hz : IsZ n l) {least i j : Int} (h1 : least ≤ i) (h2 : i ≤ n) (h3 : 0 ≤ j) (h4 : j ≤ n) : chkE n l least i j = 0 := by
  unfold chkE
  rw [hz.check, if_neg (by decide), if_neg (by omega)]
/-- Two blocks: a zone, and the answer's. -/
structure B1 (w W : World) (x y : Value) : Prop where
  bl : Below w.heap.size w W
  z1 : ZH W w.heap.size x y
  z2 : ZH W (w.heap.size + 1) (.int .i64 0) (.slice none 0 0)
theorem B1.on {w W W' : World} {x y : Value} (h : B1 w W x y) (hb : Below W.heap.size W W') : B1 w W' x y := ⟨h.bl.trans (hb.mono h.bl.size), h.z1.below hb h.z1.lt, h.z2.below hb h.z2.lt⟩
theorem b1_new (w : World) (x y : Value) : B1 w ((w.alloc (.cells #[x, y] 24)).alloc (.cells #[.int .i64 0, .slice none 0 0] 24)) x y := by
  refine ⟨box2_below _ _ _ _ _, (Holds.new w _ _).alloc _, ?_⟩
  have := Holds.new (w.alloc (.cells #[x, y] 24)) 24 #[.int .i64 0, .slice none 0 0]
  simpa using this
theorem fun_row (W : World) (t : TypeId) (cs : Array Value) : ∀ W', Below (W.alloc (.cells cs t)).heap.size (W.alloc (.cells cs t)) W' → ∀ k v, cs[k]? = some v → W'.cell? ⟨W.heap.size, k, none⟩ = some v := by
  intro W' hW' k v hk
  have := ((Holds.new W t cs).below hW' (by simp)).cell k
  rw [this, hk]
set_option maxRecDepth 100000 in
set_option maxHeartbeats 400000 in
theorem zlimit_bad (n i j c : Int) (a : Option Addr) (m ca : Nat) (l : List Int) (w : World) (h : SL w a m ca l) (hne : chkE n l 0 i j ≠ 0) : Calls Tryd.prog 48 #[.agg #[.int .i64 n, .slice a m ca], .int .i64 i, .int .i64 j, .int .i64 c] w (ZoneE 0 [] (chkE n l 0 i j) w) := by
  obtain ⟨W1, hW1⟩ : ∃ W1, W1 = (w.alloc (.cells #[.int .i64 n, .slice a m ca] 24)).alloc (.cells #[.int .i64 0, .slice none 0 0] 24) := ⟨_, rfl⟩
  have X1 : B1 w W1 (.int .i64 n) (.slice a m ca) := by rw [hW1]; exact b1_new _ _ _
  have q1 := Lib.hid (zcheck_any n 0 i j a m ca l W1 (h.below X1.bl))
  have hW1' := Lib.hid hW1
  have X1' := Lib.hid X1
  clear hW1 X1 h
  generalize chkE n l 0 i j = E at *
  have e1 : (E != 0) = true := by simpa using hne
  go_enter Tryd.func48, Tryd.ntmps48
  go_wp2_with fail
  rw [← hW1'.out]
  refine q1.out.mono ?_
  rintro e w2 ⟨rfl, b2⟩
  have X2 := Lib.hid (X1'.out.on b2)
  clear b2 X1' q1
  have y0 := X2.out.z2.cell 0
  have y1 := X2.out.z2.cell 1
  have f0 := X2.out.z2.free 0
  have f1 := X2.out.z2.free 1
  have hfin := Lib.hid (zone_none X2.out.bl (by omega) X2.out.z2 0 E)
  go_wp2
  exact zone_ret2 hfin.out.1 hfin.out.2.1 _ _ 8 9 rfl rfl rfl rfl
set_option maxRecDepth 100000 in
set_option maxHeartbeats 400000 in
theorem zforget_bad (n i : Int) (a : Option Addr) (m ca : Nat) (l : List Int) (w : World) (h : SL w a m ca l) (hne : chkE n l 1 i 0 ≠ 0) : Calls Tryd.prog 47 #[.agg #[.int .i64 n, .slice a m ca], .int .i64 i] w (ZoneE 0 [] (chkE n l 1 i 0) w) := by
  obtain ⟨W1, hW1⟩ : ∃ W1, W1 = (w.alloc (.cells #[.int .i64 n, .slice a m ca] 24)).alloc (.cells #[.int .i64 0, .slice none 0 0] 24) := ⟨_, rfl⟩
  have X1 : B1 w W1 (.int .i64 n) (.slice a m ca) := by rw [hW1]; exact b1_new _ _ _
  have q1 := Lib.hid (zcheck_any n 1 i 0 a m ca l W1 (h.below X1.bl))
  have hW1' := Lib.hid hW1
  have X1' := Lib.hid X1
  clear hW1 X1 h
  generalize chkE n l 1 i 0 = E at *
  have e1 : (E != 0) = true := by simpa using hne
  go_enter Tryd.func47, Tryd.ntmps47
  go_wp2_with fail
  rw [← hW1'.out]
  refine q1.out.mono ?_
  rintro e w2 ⟨rfl, b2⟩
  have X2 := Lib.hid (X1'.out.on b2)
  clear b2 X1' q1
  have y0 := X2.out.z2.cell 0
  have y1 := X2.out.z2.cell 1
  have f0 := X2.out.z2.free 0
  have f1 := X2.out.z2.free 1
  have hfin := Lib.hid (zone_none X2.out.bl (by omega) X2.out.z2 0 E)
  go_wp2
  exact zone_ret2 hfin.out.1 hfin.out.2.1 _ _ 4 5 rfl rfl rfl rfl
set_option maxRecDepth 100000 in
set_option maxHeartbeats 400000 in
theorem zlet_bad (n i j c : Int) (a : Option Addr) (m ca : Nat) (l : List Int) (w : World) (h : SL w a m ca l) (hne : chkE n l 1 i j ≠ 0) : Calls Tryd.prog 46 #[.agg #[.int .i64 n, .slice a m ca], .int .i64 i, .int .i64 j, .int .i64 c] w (ZoneE 0 [] (chkE n l 1 i j) w) := by
  obtain ⟨W1, hW1⟩ : ∃ W1, W1 = (w.alloc (.cells #[.int .i64 n, .slice a m ca] 24)).alloc (.cells #[.int .i64 0, .slice none 0 0] 24) := ⟨_, rfl⟩
  have X1 : B1 w W1 (.int .i64 n) (.slice a m ca) := by rw [hW1]; exact b1_new _ _ _
  have q1 := Lib.hid (zcheck_any n 1 i j a m ca l W1 (h.below X1.bl))
  have hW1' := Lib.hid hW1
  have X1' := Lib.hid X1
  clear hW1 X1 h
  generalize chkE n l 1 i j = E at *
  have e1 : (E != 0) = true := by simpa using hne
  go_enter Tryd.func46, Tryd.ntmps46
  go_wp2_with fail
  rw [← hW1'.out]
  refine q1.out.mono ?_
  rintro e w2 ⟨rfl, b2⟩
  have X2 := Lib.hid (X1'.out.on b2)
  clear b2 X1' q1
  have y0 := X2.out.z2.cell 0
  have y1 := X2.out.z2.cell 1
  have f0 := X2.out.z2.free 0
  have f1 := X2.out.z2.free 1
  have hfin := Lib.hid (zone_none X2.out.bl (by omega) X2.out.z2 0 E)
  go_wp2
  exact zone_ret2 hfin.out.1 hfin.out.2.1 _ _ 8 9 rfl rfl rfl rfl
def limitL (n : Nat) (l : List Int) (i j : Nat) (c : Int) : List Int := stepL n (fun l => limL n l i j c) l
set_option maxRecDepth 100000 in
set_option maxHeartbeats 400000 in
theorem zlimit_ok (n : Nat) (l : List Int) (hz : IsZ n l) (i j : Nat) (hi : i ≤ n) (hj : j ≤ n) (c : Int) (a : Option Addr) (m ca : Nat) (w : World) (h : SL w a m ca l)  : Calls Tryd.prog 48 #[.agg #[.int .i64 n, .slice a m ca], .int .i64 i, .int .i64 j, .int .i64 c] w (ZoneE n (limitL n l i j c) 0 w) := by
  obtain ⟨W1, hW1⟩ : ∃ W1, W1 = (w.alloc (.cells #[.int .i64 n, .slice a m ca] 24)).alloc (.cells #[.int .i64 0, .slice none 0 0] 24) := ⟨_, rfl⟩
  have X1 : B1 w W1 (.int .i64 n) (.slice a m ca) := by rw [hW1]; exact b1_new _ _ _
  have q1 := Lib.hid (zcheck_any n 0 i j a m ca l W1 (h.below X1.bl))
  rw [chkE_ok hz (by omega) (by omega) (by omega) (by omega)] at q1
  have hn := hz.1
  have hS := Lib.hid h
  have q2 := Lib.hid (fun W (hW : Below w.heap.size w W) => change_lim n hn l hz a m ca i j c (fun L g cap base W hF hl ho => by simpa using mlimit_any n hn i j hi hj c g cap base L hl W ho) (W.alloc (.cells #[.func (.func 72) #[] #[]] 74)) ((hS.out.below hW).below (box_below _ _ _)) W.heap.size (by simp) (fun W2 hW2 => fun_row _ _ _ W2 hW2 0 _ rfl))
  rw [show stepL n (fun l => limL n l ((i : Int)).toNat ((j : Int)).toNat c) l = limitL n l i j c from rfl] at q2
  have hW1' := Lib.hid hW1
  have X1' := Lib.hid X1
  have hbb := Lib.hid (fun (W : World) => box_below W #[.func (.func 72) #[] #[]] 74)
  clear hW1 X1 h hz
  generalize (limitL n l i j c) = R at *
  go_enter Tryd.func48, Tryd.ntmps48
  go_wp2_with fail
  rw [← hW1'.out]
  refine q1.out.mono ?_
  rintro e w2 ⟨rfl, b2⟩
  have X2 := Lib.hid (X1'.out.on b2)
  clear b2 X1' q1
  have k0 := X2.out.z1.cell 0
  have k1 := X2.out.z1.cell 1
  have kl := X2.out.z1.lt
  have p2 := Lib.hid (q2.out w2 X2.out.bl)
  go_wp2_with fail
  refine p2.out.mono ?_
  rintro e w7 ⟨a7, c7, rfl, hc7, s7, b7, nw7⟩
  have X3 := X2.out.on (hbb.out w2)
  have Zd := X3.z2.below b7 X3.z2.lt
  have y0 := Zd.cell 0
  have y1 := Zd.cell 1
  have f0 := Zd.free 0
  have f1 := Zd.free 1
  have hfin := Lib.hid (zone_put (n := n) (err := 0) X3.bl (by omega) X3.z2 hc7 s7 b7 nw7)
  clear Zd X3 p2
  go_wp2
  exact zone_ret2 hfin.out.1 hfin.out.2.1 _ _ 8 9 rfl rfl rfl rfl
def forgetL (n : Nat) (l : List Int) (i : Nat) : List Int := stepL n (fun l => forL n l i) l
set_option maxRecDepth 100000 in
set_option maxHeartbeats 400000 in
theorem zforget_ok (n : Nat) (l : List Int) (hz : IsZ n l) (i : Nat) (hi0 : 1 ≤ i) (hi : i ≤ n) (a : Option Addr) (m ca : Nat) (w : World) (h : SL w a m ca l)  : Calls Tryd.prog 47 #[.agg #[.int .i64 n, .slice a m ca], .int .i64 i] w (ZoneE n (forgetL n l i) 0 w) := by
  obtain ⟨W1, hW1⟩ : ∃ W1, W1 = (w.alloc (.cells #[.int .i64 n, .slice a m ca] 24)).alloc (.cells #[.int .i64 0, .slice none 0 0] 24) := ⟨_, rfl⟩
  have X1 : B1 w W1 (.int .i64 n) (.slice a m ca) := by rw [hW1]; exact b1_new _ _ _
  have q1 := Lib.hid (zcheck_any n 1 i 0 a m ca l W1 (h.below X1.bl))
  rw [chkE_ok hz (by omega) (by omega) (by omega) (by omega)] at q1
  have hn := hz.1
  have hS := Lib.hid h
  have q2 := Lib.hid (fun W (hW : Below w.heap.size w W) => change_for n hn l hz a m ca i 0 0 (fun L g cap base W hF hl ho => by simpa using mforget_any n hn i 0 hi (Nat.zero_le _) 0 (by omega) g cap base L hl W ho) (W.alloc (.cells #[.func (.func 70) #[] #[]] 74)) ((hS.out.below hW).below (box_below _ _ _)) W.heap.size (by simp) (fun W2 hW2 => fun_row _ _ _ W2 hW2 0 _ rfl))
  rw [show stepL n (fun l => forL n l ((i : Int)).toNat) l = forgetL n l i from rfl] at q2
  have hW1' := Lib.hid hW1
  have X1' := Lib.hid X1
  have hbb := Lib.hid (fun (W : World) => box_below W #[.func (.func 70) #[] #[]] 74)
  clear hW1 X1 h hz
  generalize (forgetL n l i) = R at *
  go_enter Tryd.func47, Tryd.ntmps47
  go_wp2_with fail
  rw [← hW1'.out]
  refine q1.out.mono ?_
  rintro e w2 ⟨rfl, b2⟩
  have X2 := Lib.hid (X1'.out.on b2)
  clear b2 X1' q1
  have k0 := X2.out.z1.cell 0
  have k1 := X2.out.z1.cell 1
  have kl := X2.out.z1.lt
  have p2 := Lib.hid (q2.out w2 X2.out.bl)
  go_wp2_with fail
  refine p2.out.mono ?_
  rintro e w7 ⟨a7, c7, rfl, hc7, s7, b7, nw7⟩
  have X3 := X2.out.on (hbb.out w2)
  have Zd := X3.z2.below b7 X3.z2.lt
  have y0 := Zd.cell 0
  have y1 := Zd.cell 1
  have f0 := Zd.free 0
  have f1 := Zd.free 1
  have hfin := Lib.hid (zone_put (n := n) (err := 0) X3.bl (by omega) X3.z2 hc7 s7 b7 nw7)
  clear Zd X3 p2
  go_wp2
  exact zone_ret2 hfin.out.1 hfin.out.2.1 _ _ 4 5 rfl rfl rfl rfl
def clampL (c : Int) : Int := max (-4398046511104) (min 4398046511104 c)
def letMovL (n : Nat) (l : List Int) (i : Nat) (c : Int) : List Int := stepL n (fun l => movL n l i c) l
def letTieL (n : Nat) (l : List Int) (i j : Nat) (c : Int) : List Int := stepL n (fun l => tieL n l i j c) (stepL n (fun l => forL n l i) l)
theorem full_all {n : Nat} {l : List Int} (hF : Full n l) (p : Nat) : -2199023255552 ≤ l.getD p 0 ∧ l.getD p 0 ≤ 2199023255552 := by
  by_cases hp : p < sz n
  · have := full_near hF hp; exact this
  · have e : l.getD p 0 = 0 := by simp only [List.getD]; rw [List.getElem?_eq_none (by rw [hF.len]; omega)]; rfl
    rw [e]; omega
set_option maxRecDepth 100000 in
set_option maxHeartbeats 400000 in
theorem zlet_mov_lo (n : Nat) (l : List Int) (hz : IsZ n l) (i : Nat) (hi0 : 1 ≤ i) (hi : i ≤ n) (c : Int) (a : Option Addr) (m ca : Nat) (w : World) (h : SL w a m ca l) (hc1 : c ≤ -4398046511104) : Calls Tryd.prog 46 #[.agg #[.int .i64 n, .slice a m ca], .int .i64 i, .int .i64 i, .int .i64 c] w (ZoneE n (letMovL n l i (-4398046511104)) 0 w) := by
  obtain ⟨W1, hW1⟩ : ∃ W1, W1 = (w.alloc (.cells #[.int .i64 n, .slice a m ca] 24)).alloc (.cells #[.int .i64 0, .slice none 0 0] 24) := ⟨_, rfl⟩
  have X1 : B1 w W1 (.int .i64 n) (.slice a m ca) := by rw [hW1]; exact b1_new _ _ _
  have q1 := Lib.hid (zcheck_any n 1 i i a m ca l W1 (h.below X1.bl))
  rw [chkE_ok hz (by omega) (by omega) (by omega) (by omega)] at q1
  have hn := hz.1
  have hS := Lib.hid h
  have q2 := Lib.hid (fun W (hW : Below w.heap.size w W) => change_mov n hn l hz a m ca i i (-4398046511104) (fun L g cap base W hF hl ho => by simpa using mmove_any n hn i i hi hi (-4398046511104) (by omega) g cap base L hl (full_all hF) W ho) (W.alloc (.cells #[.func (.func 69) #[] #[]] 74)) ((hS.out.below hW).below (box_below _ _ _)) W.heap.size (by simp) (fun W2 hW2 => fun_row _ _ _ W2 hW2 0 _ rfl))
  rw [show stepL n (fun l => movL n l ((i : Int)).toNat (-4398046511104)) l = letMovL n l i (-4398046511104) from rfl] at q2
  have hW1' := Lib.hid hW1
  have X1' := Lib.hid X1
  have hbb := Lib.hid (fun (W : World) => box_below W #[.func (.func 69) #[] #[]] 74)
  clear hW1 X1 h hz
  generalize (letMovL n l i (-4398046511104)) = R at *
  go_enter Tryd.func46, Tryd.ntmps46
  go_wp2_with fail
  rw [← hW1'.out]
  refine q1.out.mono ?_
  rintro e w2 ⟨rfl, b2⟩
  have X2 := Lib.hid (X1'.out.on b2)
  clear b2 X1' q1
  have k0 := X2.out.z1.cell 0
  have k1 := X2.out.z1.cell 1
  have kl := X2.out.z1.lt
  have hwb := Lib.hid (box_below w2 #[.int .i64 i, .int .i64 i, .int .i64 (-4398046511104)] 72)
  have X2b := Lib.hid (X2.out.on hwb.out)
  have p2 := Lib.hid (q2.out _ X2b.out.bl)
  rw [show (w2.alloc (.cells #[.int .i64 i, .int .i64 i, .int .i64 (-4398046511104)] 72)).heap.size = w2.heap.size + 1 by simp] at p2
  clear q2
  go_wp2_with fail
  refine p2.out.mono ?_
  rintro e w7 ⟨a7, c7, rfl, hc7, s7, b7, nw7⟩
  have X3 := X2b.out.on (hbb.out _)
  have Zd := X3.z2.below b7 X3.z2.lt
  have y0 := Zd.cell 0
  have y1 := Zd.cell 1
  have f0 := Zd.free 0
  have f1 := Zd.free 1
  have hfin := Lib.hid (zone_put (n := n) (err := 0) X3.bl (by omega) X3.z2 hc7 s7 b7 nw7)
  clear Zd X3 p2
  go_wp2
  exact zone_ret2 hfin.out.1 hfin.out.2.1 _ _ 8 9 rfl rfl rfl rfl
set_option maxRecDepth 100000 in
set_option maxHeartbeats 400000 in
theorem zlet_tie_lo (n : Nat) (l : List Int) (hz : IsZ n l) (i j : Nat) (hi0 : 1 ≤ i) (hi : i ≤ n) (hj : j ≤ n) (c : Int) (a : Option Addr) (m ca : Nat) (w : World) (h : SL w a m ca l) (hij : i ≠ j) (hc1 : c ≤ -4398046511104) : Calls Tryd.prog 46 #[.agg #[.int .i64 n, .slice a m ca], .int .i64 i, .int .i64 j, .int .i64 c] w (ZoneE n (letTieL n l i j (-4398046511104)) 0 w) := by
  obtain ⟨W1, hW1⟩ : ∃ W1, W1 = (w.alloc (.cells #[.int .i64 n, .slice a m ca] 24)).alloc (.cells #[.int .i64 0, .slice none 0 0] 24) := ⟨_, rfl⟩
  have X1 : B1 w W1 (.int .i64 n) (.slice a m ca) := by rw [hW1]; exact b1_new _ _ _
  have q1 := Lib.hid (zcheck_any n 1 i j a m ca l W1 (h.below X1.bl))
  rw [chkE_ok hz (by omega) (by omega) (by omega) (by omega)] at q1
  have hn := hz.1
  have hij1 : ((i : Int) == (j : Int)) = false := by simp; omega
  have hij2 : ¬ (i : Int) = (j : Int) := by omega
  have hS := Lib.hid h
  have q2 := Lib.hid (fun W (hW : Below w.heap.size w W) => change_tie n hn l hz a m ca i j (-4398046511104) (fun L g cap base W hF hl ho => by simpa using mforget_any n hn i j hi hj (-4398046511104) (by omega) g cap base L hl W ho) (fun L g cap base W hF hl ho => by simpa using mtie_any n hn i j hi hj (-4398046511104) (by omega) g cap base L hl W ho) (W.alloc (.cells #[.func (.func 70) #[] #[], .func (.func 71) #[] #[]] 74)) ((hS.out.below hW).below (box_below _ _ _)) W.heap.size (by simp) (fun W2 hW2 => ⟨fun_row _ _ _ W2 hW2 0 _ rfl, fun_row _ _ _ W2 hW2 1 _ rfl⟩))
  rw [show stepL n (fun l => tieL n l ((i : Int)).toNat ((j : Int)).toNat (-4398046511104)) (stepL n (fun l => forL n l ((i : Int)).toNat) l) = letTieL n l i j (-4398046511104) from rfl] at q2
  have hW1' := Lib.hid hW1
  have X1' := Lib.hid X1
  have hbb := Lib.hid (fun (W : World) => box_below W #[.func (.func 70) #[] #[], .func (.func 71) #[] #[]] 74)
  clear hW1 X1 h hz
  generalize (letTieL n l i j (-4398046511104)) = R at *
  go_enter Tryd.func46, Tryd.ntmps46
  go_wp2_with fail
  rw [← hW1'.out]
  refine q1.out.mono ?_
  rintro e w2 ⟨rfl, b2⟩
  have X2 := Lib.hid (X1'.out.on b2)
  clear b2 X1' q1
  have k0 := X2.out.z1.cell 0
  have k1 := X2.out.z1.cell 1
  have kl := X2.out.z1.lt
  have hwb := Lib.hid (box_below w2 #[.int .i64 i, .int .i64 j, .int .i64 (-4398046511104)] 72)
  have X2b := Lib.hid (X2.out.on hwb.out)
  have p2 := Lib.hid (q2.out _ X2b.out.bl)
  rw [show (w2.alloc (.cells #[.int .i64 i, .int .i64 j, .int .i64 (-4398046511104)] 72)).heap.size = w2.heap.size + 1 by simp] at p2
  clear q2
  go_wp2_with fail
  refine p2.out.mono ?_
  rintro e w7 ⟨a7, c7, rfl, hc7, s7, b7, nw7⟩
  have X3 := X2b.out.on (hbb.out _)
  have Zd := X3.z2.below b7 X3.z2.lt
  have y0 := Zd.cell 0
  have y1 := Zd.cell 1
  have f0 := Zd.free 0
  have f1 := Zd.free 1
  have hfin := Lib.hid (zone_put (n := n) (err := 0) X3.bl (by omega) X3.z2 hc7 s7 b7 nw7)
  clear Zd X3 p2
  go_wp2
  exact zone_ret2 hfin.out.1 hfin.out.2.1 _ _ 8 9 rfl rfl rfl rfl
set_option maxRecDepth 100000 in
set_option maxHeartbeats 400000 in
theorem zlet_mov_hi (n : Nat) (l : List Int) (hz : IsZ n l) (i : Nat) (hi0 : 1 ≤ i) (hi : i ≤ n) (c : Int) (a : Option Addr) (m ca : Nat) (w : World) (h : SL w a m ca l) (hc1 : 4398046511104 ≤ c) : Calls Tryd.prog 46 #[.agg #[.int .i64 n, .slice a m ca], .int .i64 i, .int .i64 i, .int .i64 c] w (ZoneE n (letMovL n l i 4398046511104) 0 w) := by
  obtain ⟨W1, hW1⟩ : ∃ W1, W1 = (w.alloc (.cells #[.int .i64 n, .slice a m ca] 24)).alloc (.cells #[.int .i64 0, .slice none 0 0] 24) := ⟨_, rfl⟩
  have X1 : B1 w W1 (.int .i64 n) (.slice a m ca) := by rw [hW1]; exact b1_new _ _ _
  have q1 := Lib.hid (zcheck_any n 1 i i a m ca l W1 (h.below X1.bl))
  rw [chkE_ok hz (by omega) (by omega) (by omega) (by omega)] at q1
  have hn := hz.1
  have hS := Lib.hid h
  have q2 := Lib.hid (fun W (hW : Below w.heap.size w W) => change_mov n hn l hz a m ca i i 4398046511104 (fun L g cap base W hF hl ho => by simpa using mmove_any n hn i i hi hi 4398046511104 (by omega) g cap base L hl (full_all hF) W ho) (W.alloc (.cells #[.func (.func 69) #[] #[]] 74)) ((hS.out.below hW).below (box_below _ _ _)) W.heap.size (by simp) (fun W2 hW2 => fun_row _ _ _ W2 hW2 0 _ rfl))
  rw [show stepL n (fun l => movL n l ((i : Int)).toNat 4398046511104) l = letMovL n l i 4398046511104 from rfl] at q2
  have hW1' := Lib.hid hW1
  have X1' := Lib.hid X1
  have hbb := Lib.hid (fun (W : World) => box_below W #[.func (.func 69) #[] #[]] 74)
  clear hW1 X1 h hz
  generalize (letMovL n l i 4398046511104) = R at *
  go_enter Tryd.func46, Tryd.ntmps46
  go_wp2_with fail
  rw [← hW1'.out]
  refine q1.out.mono ?_
  rintro e w2 ⟨rfl, b2⟩
  have X2 := Lib.hid (X1'.out.on b2)
  clear b2 X1' q1
  have k0 := X2.out.z1.cell 0
  have k1 := X2.out.z1.cell 1
  have kl := X2.out.z1.lt
  have hwb := Lib.hid (box_below w2 #[.int .i64 i, .int .i64 i, .int .i64 4398046511104] 72)
  have X2b := Lib.hid (X2.out.on hwb.out)
  have p2 := Lib.hid (q2.out _ X2b.out.bl)
  rw [show (w2.alloc (.cells #[.int .i64 i, .int .i64 i, .int .i64 4398046511104] 72)).heap.size = w2.heap.size + 1 by simp] at p2
  clear q2
  go_wp2_with fail
  refine p2.out.mono ?_
  rintro e w7 ⟨a7, c7, rfl, hc7, s7, b7, nw7⟩
  have X3 := X2b.out.on (hbb.out _)
  have Zd := X3.z2.below b7 X3.z2.lt
  have y0 := Zd.cell 0
  have y1 := Zd.cell 1
  have f0 := Zd.free 0
  have f1 := Zd.free 1
  have hfin := Lib.hid (zone_put (n := n) (err := 0) X3.bl (by omega) X3.z2 hc7 s7 b7 nw7)
  clear Zd X3 p2
  go_wp2
  exact zone_ret2 hfin.out.1 hfin.out.2.1 _ _ 8 9 rfl rfl rfl rfl
set_option maxRecDepth 100000 in
set_option maxHeartbeats 400000 in
theorem zlet_tie_hi (n : Nat) (l : List Int) (hz : IsZ n l) (i j : Nat) (hi0 : 1 ≤ i) (hi : i ≤ n) (hj : j ≤ n) (c : Int) (a : Option Addr) (m ca : Nat) (w : World) (h : SL w a m ca l) (hij : i ≠ j) (hc1 : 4398046511104 ≤ c) : Calls Tryd.prog 46 #[.agg #[.int .i64 n, .slice a m ca], .int .i64 i, .int .i64 j, .int .i64 c] w (ZoneE n (letTieL n l i j 4398046511104) 0 w) := by
  obtain ⟨W1, hW1⟩ : ∃ W1, W1 = (w.alloc (.cells #[.int .i64 n, .slice a m ca] 24)).alloc (.cells #[.int .i64 0, .slice none 0 0] 24) := ⟨_, rfl⟩
  have X1 : B1 w W1 (.int .i64 n) (.slice a m ca) := by rw [hW1]; exact b1_new _ _ _
  have q1 := Lib.hid (zcheck_any n 1 i j a m ca l W1 (h.below X1.bl))
  rw [chkE_ok hz (by omega) (by omega) (by omega) (by omega)] at q1
  have hn := hz.1
  have hij1 : ((i : Int) == (j : Int)) = false := by simp; omega
  have hij2 : ¬ (i : Int) = (j : Int) := by omega
  have hS := Lib.hid h
  have q2 := Lib.hid (fun W (hW : Below w.heap.size w W) => change_tie n hn l hz a m ca i j 4398046511104 (fun L g cap base W hF hl ho => by simpa using mforget_any n hn i j hi hj 4398046511104 (by omega) g cap base L hl W ho) (fun L g cap base W hF hl ho => by simpa using mtie_any n hn i j hi hj 4398046511104 (by omega) g cap base L hl W ho) (W.alloc (.cells #[.func (.func 70) #[] #[], .func (.func 71) #[] #[]] 74)) ((hS.out.below hW).below (box_below _ _ _)) W.heap.size (by simp) (fun W2 hW2 => ⟨fun_row _ _ _ W2 hW2 0 _ rfl, fun_row _ _ _ W2 hW2 1 _ rfl⟩))
  rw [show stepL n (fun l => tieL n l ((i : Int)).toNat ((j : Int)).toNat 4398046511104) (stepL n (fun l => forL n l ((i : Int)).toNat) l) = letTieL n l i j 4398046511104 from rfl] at q2
  have hW1' := Lib.hid hW1
  have X1' := Lib.hid X1
  have hbb := Lib.hid (fun (W : World) => box_below W #[.func (.func 70) #[] #[], .func (.func 71) #[] #[]] 74)
  clear hW1 X1 h hz
  generalize (letTieL n l i j 4398046511104) = R at *
  go_enter Tryd.func46, Tryd.ntmps46
  go_wp2_with fail
  rw [← hW1'.out]
  refine q1.out.mono ?_
  rintro e w2 ⟨rfl, b2⟩
  have X2 := Lib.hid (X1'.out.on b2)
  clear b2 X1' q1
  have k0 := X2.out.z1.cell 0
  have k1 := X2.out.z1.cell 1
  have kl := X2.out.z1.lt
  have hwb := Lib.hid (box_below w2 #[.int .i64 i, .int .i64 j, .int .i64 4398046511104] 72)
  have X2b := Lib.hid (X2.out.on hwb.out)
  have p2 := Lib.hid (q2.out _ X2b.out.bl)
  rw [show (w2.alloc (.cells #[.int .i64 i, .int .i64 j, .int .i64 4398046511104] 72)).heap.size = w2.heap.size + 1 by simp] at p2
  clear q2
  go_wp2_with fail
  refine p2.out.mono ?_
  rintro e w7 ⟨a7, c7, rfl, hc7, s7, b7, nw7⟩
  have X3 := X2b.out.on (hbb.out _)
  have Zd := X3.z2.below b7 X3.z2.lt
  have y0 := Zd.cell 0
  have y1 := Zd.cell 1
  have f0 := Zd.free 0
  have f1 := Zd.free 1
  have hfin := Lib.hid (zone_put (n := n) (err := 0) X3.bl (by omega) X3.z2 hc7 s7 b7 nw7)
  clear Zd X3 p2
  go_wp2
  exact zone_ret2 hfin.out.1 hfin.out.2.1 _ _ 8 9 rfl rfl rfl rfl
set_option maxRecDepth 100000 in
set_option maxHeartbeats 400000 in
theorem zlet_mov_in (n : Nat) (l : List Int) (hz : IsZ n l) (i : Nat) (hi0 : 1 ≤ i) (hi : i ≤ n) (c : Int) (a : Option Addr) (m ca : Nat) (w : World) (h : SL w a m ca l) (hc1 : -4398046511104 < c) (hc2 : c < 4398046511104) : Calls Tryd.prog 46 #[.agg #[.int .i64 n, .slice a m ca], .int .i64 i, .int .i64 i, .int .i64 c] w (ZoneE n (letMovL n l i c) 0 w) := by
  obtain ⟨W1, hW1⟩ : ∃ W1, W1 = (w.alloc (.cells #[.int .i64 n, .slice a m ca] 24)).alloc (.cells #[.int .i64 0, .slice none 0 0] 24) := ⟨_, rfl⟩
  have X1 : B1 w W1 (.int .i64 n) (.slice a m ca) := by rw [hW1]; exact b1_new _ _ _
  have q1 := Lib.hid (zcheck_any n 1 i i a m ca l W1 (h.below X1.bl))
  rw [chkE_ok hz (by omega) (by omega) (by omega) (by omega)] at q1
  have hn := hz.1
  have hS := Lib.hid h
  have q2 := Lib.hid (fun W (hW : Below w.heap.size w W) => change_mov n hn l hz a m ca i i c (fun L g cap base W hF hl ho => by simpa using mmove_any n hn i i hi hi c (by omega) g cap base L hl (full_all hF) W ho) (W.alloc (.cells #[.func (.func 69) #[] #[]] 74)) ((hS.out.below hW).below (box_below _ _ _)) W.heap.size (by simp) (fun W2 hW2 => fun_row _ _ _ W2 hW2 0 _ rfl))
  rw [show stepL n (fun l => movL n l ((i : Int)).toNat c) l = letMovL n l i c from rfl] at q2
  have hW1' := Lib.hid hW1
  have X1' := Lib.hid X1
  have hbb := Lib.hid (fun (W : World) => box_below W #[.func (.func 69) #[] #[]] 74)
  clear hW1 X1 h hz
  generalize (letMovL n l i c) = R at *
  go_enter Tryd.func46, Tryd.ntmps46
  go_wp2_with fail
  rw [← hW1'.out]
  refine q1.out.mono ?_
  rintro e w2 ⟨rfl, b2⟩
  have X2 := Lib.hid (X1'.out.on b2)
  clear b2 X1' q1
  have k0 := X2.out.z1.cell 0
  have k1 := X2.out.z1.cell 1
  have kl := X2.out.z1.lt
  have hwb := Lib.hid (box_below w2 #[.int .i64 i, .int .i64 i, .int .i64 c] 72)
  have X2b := Lib.hid (X2.out.on hwb.out)
  have p2 := Lib.hid (q2.out _ X2b.out.bl)
  rw [show (w2.alloc (.cells #[.int .i64 i, .int .i64 i, .int .i64 c] 72)).heap.size = w2.heap.size + 1 by simp] at p2
  clear q2
  go_wp2_with fail
  refine p2.out.mono ?_
  rintro e w7 ⟨a7, c7, rfl, hc7, s7, b7, nw7⟩
  have X3 := X2b.out.on (hbb.out _)
  have Zd := X3.z2.below b7 X3.z2.lt
  have y0 := Zd.cell 0
  have y1 := Zd.cell 1
  have f0 := Zd.free 0
  have f1 := Zd.free 1
  have hfin := Lib.hid (zone_put (n := n) (err := 0) X3.bl (by omega) X3.z2 hc7 s7 b7 nw7)
  clear Zd X3 p2
  go_wp2
  exact zone_ret2 hfin.out.1 hfin.out.2.1 _ _ 8 9 rfl rfl rfl rfl
set_option maxRecDepth 100000 in
set_option maxHeartbeats 400000 in
theorem zlet_tie_in (n : Nat) (l : List Int) (hz : IsZ n l) (i j : Nat) (hi0 : 1 ≤ i) (hi : i ≤ n) (hj : j ≤ n) (c : Int) (a : Option Addr) (m ca : Nat) (w : World) (h : SL w a m ca l) (hij : i ≠ j) (hc1 : -4398046511104 < c) (hc2 : c < 4398046511104) : Calls Tryd.prog 46 #[.agg #[.int .i64 n, .slice a m ca], .int .i64 i, .int .i64 j, .int .i64 c] w (ZoneE n (letTieL n l i j c) 0 w) := by
  obtain ⟨W1, hW1⟩ : ∃ W1, W1 = (w.alloc (.cells #[.int .i64 n, .slice a m ca] 24)).alloc (.cells #[.int .i64 0, .slice none 0 0] 24) := ⟨_, rfl⟩
  have X1 : B1 w W1 (.int .i64 n) (.slice a m ca) := by rw [hW1]; exact b1_new _ _ _
  have q1 := Lib.hid (zcheck_any n 1 i j a m ca l W1 (h.below X1.bl))
  rw [chkE_ok hz (by omega) (by omega) (by omega) (by omega)] at q1
  have hn := hz.1
  have hij1 : ((i : Int) == (j : Int)) = false := by simp; omega
  have hij2 : ¬ (i : Int) = (j : Int) := by omega
  have hS := Lib.hid h
  have q2 := Lib.hid (fun W (hW : Below w.heap.size w W) => change_tie n hn l hz a m ca i j c (fun L g cap base W hF hl ho => by simpa using mforget_any n hn i j hi hj c (by omega) g cap base L hl W ho) (fun L g cap base W hF hl ho => by simpa using mtie_any n hn i j hi hj c (by omega) g cap base L hl W ho) (W.alloc (.cells #[.func (.func 70) #[] #[], .func (.func 71) #[] #[]] 74)) ((hS.out.below hW).below (box_below _ _ _)) W.heap.size (by simp) (fun W2 hW2 => ⟨fun_row _ _ _ W2 hW2 0 _ rfl, fun_row _ _ _ W2 hW2 1 _ rfl⟩))
  rw [show stepL n (fun l => tieL n l ((i : Int)).toNat ((j : Int)).toNat c) (stepL n (fun l => forL n l ((i : Int)).toNat) l) = letTieL n l i j c from rfl] at q2
  have hW1' := Lib.hid hW1
  have X1' := Lib.hid X1
  have hbb := Lib.hid (fun (W : World) => box_below W #[.func (.func 70) #[] #[], .func (.func 71) #[] #[]] 74)
  clear hW1 X1 h hz
  generalize (letTieL n l i j c) = R at *
  go_enter Tryd.func46, Tryd.ntmps46
  go_wp2_with fail
  rw [← hW1'.out]
  refine q1.out.mono ?_
  rintro e w2 ⟨rfl, b2⟩
  have X2 := Lib.hid (X1'.out.on b2)
  clear b2 X1' q1
  have k0 := X2.out.z1.cell 0
  have k1 := X2.out.z1.cell 1
  have kl := X2.out.z1.lt
  have hwb := Lib.hid (box_below w2 #[.int .i64 i, .int .i64 j, .int .i64 c] 72)
  have X2b := Lib.hid (X2.out.on hwb.out)
  have p2 := Lib.hid (q2.out _ X2b.out.bl)
  rw [show (w2.alloc (.cells #[.int .i64 i, .int .i64 j, .int .i64 c] 72)).heap.size = w2.heap.size + 1 by simp] at p2
  clear q2
  go_wp2_with fail
  refine p2.out.mono ?_
  rintro e w7 ⟨a7, c7, rfl, hc7, s7, b7, nw7⟩
  have X3 := X2b.out.on (hbb.out _)
  have Zd := X3.z2.below b7 X3.z2.lt
  have y0 := Zd.cell 0
  have y1 := Zd.cell 1
  have f0 := Zd.free 0
  have f1 := Zd.free 1
  have hfin := Lib.hid (zone_put (n := n) (err := 0) X3.bl (by omega) X3.z2 hc7 s7 b7 nw7)
  clear Zd X3 p2
  go_wp2
  exact zone_ret2 hfin.out.1 hfin.out.2.1 _ _ 8 9 rfl rfl rfl rfl
end Go.Proofs.YtplgmmjppmpnoaaDoor
/- Zones and intervals: val.Clip, Neg; itv.None, All, Of, Meet; zone.Itv. -/
namespace Go.Proofs.YtplgmmjppmpnoaaDoor
open Go.RowKit
set_option linter.unusedVariables false
set_option linter.unusedSimpArgs false

def clipV (n : Int) : Int := if 1099511627776 < n then 1099511627776 else if n < -1099511627776 then -1099511627776 else n
theorem clipV_id {n : Int} (h0 : -1099511627776 ≤ n) (h1 : n ≤ 1099511627776) : clipV n = n := by unfold clipV; rw [if_neg (by omega), if_neg (by omega)]
theorem clipV_in (n : Int) : -1099511627776 ≤ clipV n ∧ clipV n ≤ 1099511627776 := by unfold clipV; split <;> (try split) <;> omega
theorem vclip_any (n : Int) (w : World) : Calls Tryd.prog 85 #[.int .i64 n] w (Tells (.int .i64 (clipV n)) w) := by
  have hf : Hid (clipV n = if 1099511627776 < n then 1099511627776 else if n < -1099511627776 then -1099511627776 else n) := Lib.hid rfl
  generalize clipV n = F at *
  go_enter Tryd.func85, Tryd.ntmps85
  go_wp2
  all_goals (go_ret; refine ⟨ret_int ?_, rfl⟩; rw [hf.out]; clear hf; grind)
theorem info_itv : (Tryd.prog.info? 38).map (·.size) = some 2 := by kernel_rfl
abbrev HI (w : World) (g : Nat) (x y : Int) : Prop := Holds w g 38 #[.int .i64 x, .int .i64 y]
theorem hi_set {w : World} {g : Nat} {a b : Int} (h : HI w g a b) (x y : Int) : HI ((w.setCell ⟨g, 0, none⟩ (.int .i64 x)).setCell ⟨g, 1, none⟩ (.int .i64 y)) g x y := by
  have h1 := (h.set 0 (.int .i64 x)).set 1 (.int .i64 y)
  simpa using h1
theorem itv_ret {Q : Ending → World → Prop} {w : World} {g : Nat} {x y : Int} (hg : HI w g x y) (hQ : Q (.returned (.agg #[.int .i64 x, .int .i64 y])) w) (act : Act) (f : Func) (n : Nat) (hf : f.results = #[.cell n 38]) (ha : act.tmps.getD n undef = .pointer (some ⟨g, 0, none⟩)) (hd : act.defers = []) :
    bodyPost Tryd.prog f Q Exit.ret act w :=
  bodyPost_ret (results_cell_row hf _ _ g 38 #[.int .i64 x, .int .i64 y] (0, 0) _ ha hg Tryd.underlying38 rfl (by rw [info_itv]; rfl)) hd hQ
theorem itv_ret2 {Q : Ending → World → Prop} {w : World} {g : Nat} {x y : Int} {u : Value} (hg : HI w g x y) (hQ : Q (.returned (.tuple #[.agg #[.int .i64 x, .int .i64 y], u])) w) (act : Act) (f : Func) (n m : Nat) (hf : f.results = #[.cell n 38, .tmp m]) (ha : act.tmps.getD n undef = .pointer (some ⟨g, 0, none⟩)) (hm : act.tmps.getD m undef = u) (hd : act.defers = []) :
    bodyPost Tryd.prog f Q Exit.ret act w := by
  refine bodyPost_ret (v := .tuple #[.agg #[.int .i64 x, .int .i64 y], u]) ?_ hd hQ
  rw [results_cell_tmp hf, ha, hm]
  simp [asAddr, run_loadVar_row w g 38 38 #[.int .i64 x, .int .i64 y] (0, 0) _ hg Tryd.underlying38 rfl (by rw [info_itv]; rfl), Result.andThen]
def ofP (a b : Int) : Int × Int := if b < a ∨ 1099511627776 < a ∨ b < -1099511627776 then (1, 0) else (clipV a, clipV b)
def itvL (n : Nat) (l : List Int) (i : Nat) : Int × Int := if l = [] then (1, 0) else (-(mat n l 0 i), mat n l i 0)
theorem of_near {a b : Int} (h : a ≤ b) (h1 : -1099511627776 ≤ a) (h2 : b ≤ 1099511627776) : ofP a b = (a, b) := by
  unfold ofP
  rw [if_neg (by omega), clipV_id h1 (by omega), clipV_id (by omega) h2]
/-- Blocks of a zone and of an interval. -/
structure B1i (w W : World) (x y : Value) : Prop where
  bl : Below w.heap.size w W
  z1 : ZH W w.heap.size x y
  z2 : HI W (w.heap.size + 1) 0 0
theorem B1i.on {w W W' : World} {x y : Value} (h : B1i w W x y) (hb : Below W.heap.size W W') : B1i w W' x y := ⟨h.bl.trans (hb.mono h.bl.size), h.z1.below hb h.z1.lt, h.z2.below hb h.z2.lt⟩
theorem b1i_new (w : World) (x y : Value) : B1i w ((w.alloc (.cells #[x, y] 24)).alloc (.cells #[.int .i64 0, .int .i64 0] 38)) x y := by
  refine ⟨box2_below _ _ _ _ _, (Holds.new w _ _).alloc _, ?_⟩
  have := Holds.new (w.alloc (.cells #[x, y] 24)) 38 #[.int .i64 0, .int .i64 0]
  simpa using this
theorem hi_fin {w W : World} {x y : Value} (h : B1i w W x y) (a b : Int) (E : Value) : HI ((W.setCell ⟨w.heap.size + 1, 0, none⟩ (.int .i64 a)).setCell ⟨w.heap.size + 1, 1, none⟩ (.int .i64 b)) (w.heap.size + 1) a b ∧ Gives (.tuple #[.agg #[.int .i64 a, .int .i64 b], E]) w (.returned (.tuple #[.agg #[.int .i64 a, .int .i64 b], E])) ((W.setCell ⟨w.heap.size + 1, 0, none⟩ (.int .i64 a)).setCell ⟨w.heap.size + 1, 1, none⟩ (.int .i64 b)) :=
  ⟨hi_set h.z2 a b, rfl, (h.bl.setCell (p := ⟨w.heap.size + 1, 0, none⟩) (by show _ ≤ _ + 1; omega) _).setCell (p := ⟨w.heap.size + 1, 1, none⟩) (by show _ ≤ _ + 1; omega) _⟩
end Go.Proofs.YtplgmmjppmpnoaaDoor
/- Zones and intervals: Box. (Written by gen-zone-box.py.) -/
namespace Go.Proofs.YtplgmmjppmpnoaaDoor
open Go.RowKit
set_option linter.unusedVariables false
set_option linter.unusedSimpArgs false

/-- A slice of intervals. -/
def ItS (B : Nat) (w : World) (a : Option Addr) (xs : List (Int × Int)) : Prop :=
  xs = [] ∨ ∃ b off, a = some ⟨b, off, none⟩ ∧ b < B ∧ ∀ k, k < xs.length → w.cell? ⟨b, off + k * 2, none⟩ = some (.int .i64 (xs.getD k (0, 0)).1) ∧ w.cell? ⟨b, off + k * 2 + 1, none⟩ = some (.int .i64 (xs.getD k (0, 0)).2)
theorem ItS.below {B : Nat} {w w' : World} {a : Option Addr} {xs : List (Int × Int)} (h : ItS B w a xs) (hb : Below B w w') : ItS B w' a xs := by
  rcases h with h | ⟨b, off, e, hB, h⟩
  · exact .inl h
  · exact .inr ⟨b, off, e, hB, fun k hk => ⟨(hb.cell (p := ⟨b, _, none⟩) hB).trans (h k hk).1, (hb.cell (p := ⟨b, _, none⟩) hB).trans (h k hk).2⟩⟩
theorem ItS.at_ {B : Nat} {w : World} {a : Option Addr} {xs : List (Int × Int)} (h : ItS B w a xs) {k : Nat} (hk : k < xs.length) : ∃ b off, a = some ⟨b, off, none⟩ ∧ b < B ∧ w.cell? ⟨b, off + k * 2, none⟩ = some (.int .i64 (xs.getD k (0, 0)).1) ∧ w.cell? ⟨b, off + k * 2 + 1, none⟩ = some (.int .i64 (xs.getD k (0, 0)).2) := by
  rcases h with h | ⟨b, off, e, hB, h⟩
  · rw [h] at hk; simp at hk
  · exact ⟨b, off, e, hB, (h k hk).1, (h k hk).2⟩
def boxP (xs : List (Int × Int)) (k : Nat) : Int × Int := ofP (xs.getD k (0, 0)).1 (xs.getD k (0, 0)).2
def boxK (n : Nat) (xs : List (Int × Int)) : Nat → List Int
  | 0 => allL n
  | k + 1 => limL n (limL n (boxK n xs k) (k + 1) 0 (boxP xs k).2) 0 (k + 1) (-(clipV (boxP xs k).1))
theorem boxK_len (n : Nat) (xs : List (Int × Int)) (k : Nat) : (boxK n xs k).length = sz n := by
  induction k with
  | zero => exact matL_len _ _
  | succ k ih => simp only [boxK]; rw [limL_len, limL_len, ih]
/-- What Box has in hand. -/
structure Bq (w W : World) (g gz : Nat) (n : Nat) (s cap : Nat) : Prop where
  bl : Below w.heap.size w W
  hgz : w.heap.size < gz
  hsz : gz + 2 ≤ W.heap.size
  rb : ZH W w.heap.size (.int .i64 0) (.slice none 0 0)
  zb : ZH W gz (.int .i64 n) (.slice (some ⟨g, 0, none⟩) s cap)
  mb : Holds W (gz + 1) 77 #[.int .i64 n, .slice (some ⟨g, 0, none⟩) s cap]
theorem Bq.on {w W W' : World} {g gz n s cap : Nat} (h : Bq w W g gz n s cap) (hb : Below W.heap.size W W') : Bq w W' g gz n s cap := ⟨h.bl.trans (hb.mono h.bl.size), h.hgz, Nat.le_trans h.hsz hb.size, h.rb.below hb h.rb.lt, h.zb.below hb h.zb.lt, h.mb.below hb h.mb.lt⟩
theorem Bq.onE {w W W' : World} {g gz n s cap : Nat} (h : Bq w W g gz n s cap) (hg : w.heap.size < g) (hgz : g < gz) (hb : BelowE [g] W.heap.size W W') : Bq w W' g gz n s cap :=
  ⟨h.bl.trans (BelowE.none ((hb.mono h.bl.size).less (by intro x hx hlt; simp at hx; omega))), h.hgz, Nat.le_trans h.hsz hb.size, h.rb.belowE hb h.rb.lt (by simp; omega), h.zb.belowE hb h.zb.lt (by simp; omega), h.mb.belowE hb h.mb.lt (by simp; omega)⟩
theorem Bq.set {w W : World} {g gz n s cap q : Nat} (h : Bq w W g gz n s cap) (hq : gz + 2 ≤ q) (u v : Value) : Bq w ((W.setCell ⟨q, 0, none⟩ u).setCell ⟨q, 1, none⟩ v) g gz n s cap :=
  ⟨(h.bl.setCell (p := ⟨q, 0, none⟩) (by have := h.hgz; show _ ≤ q; omega) _).setCell (p := ⟨q, 1, none⟩) (by have := h.hgz; show _ ≤ q; omega) _, h.hgz, by simpa using h.hsz,
   (h.rb.far (p := ⟨q, 0, none⟩) (by have := h.hgz; show _ ≠ q; omega) _).far (p := ⟨q, 1, none⟩) (by have := h.hgz; show _ ≠ q; omega) _, (h.zb.far (p := ⟨q, 0, none⟩) (by show _ ≠ q; omega) _).far (p := ⟨q, 1, none⟩) (by show _ ≠ q; omega) _, (h.mb.far (p := ⟨q, 0, none⟩) (by show _ ≠ q; omega) _).far (p := ⟨q, 1, none⟩) (by show _ ≠ q; omega) _⟩
theorem own_set2 {w : World} {base g q : Nat} {e : TypeId} {m n c : Nat} {xs : List Value} (h : w.ownsRow base e 1 (.slice (some ⟨g, 0, none⟩) m c) n xs) (hg : g ≠ q) (u v : Value) : ((w.setCell ⟨q, 0, none⟩ u).setCell ⟨q, 1, none⟩ v).ownsRow base e 1 (.slice (some ⟨g, 0, none⟩) m c) n xs := by
  have hE : BelowE [q] w.heap.size w ((w.setCell ⟨q, 0, none⟩ u).setCell ⟨q, 1, none⟩ v) := ((BelowE.refl _ _ _).setIn (p := ⟨q, 0, none⟩) (by simp) _).setIn (p := ⟨q, 1, none⟩) (by simp) _
  exact own_belowE h hE (fun k hk => by simp [Value.ownBlock] at hk; simp; omega)
end Go.Proofs.YtplgmmjppmpnoaaDoor
/- Zones put together: lives. (Written by gen-zone-lives.py.) -/
namespace Go.Proofs.YtplgmmjppmpnoaaDoor
open Go.RowKit
set_option linter.unusedVariables false
set_option linter.unusedSimpArgs false

def lZ : List Int := [0, 0, -3, 1099511627776, 0, 1099511627773, 5, 5, 0]
def lY : List Int := [0, -1, -3, 1099511627776, 0, 1099511627773, 5, 4, 0]
def lV : List Int := [0, -2, -3, 4, 0, -1, 5, 1, 0]
theorem lZ_is : closedL 2 (boxK 2 [(0, 1099511627776), (3, 5)] 2) = lZ := by decide +kernel
theorem lY_is : letMovL 2 lZ 1 1 = lY := by decide +kernel
theorem lV_is : letTieL 2 lZ 1 2 (-1) = lV := by decide +kernel
theorem lZ_full : Full 2 lZ := ⟨by omega, rfl, by decide, by decide +kernel⟩
theorem lY_full : Full 2 lY := ⟨by omega, rfl, by decide, by decide +kernel⟩
theorem lV_full : Full 2 lV := ⟨by omega, rfl, by decide, by decide +kernel⟩
theorem zq (l : List Int) (h : Full 2 l) : IsZ 2 l := ⟨by omega, .inr h⟩
theorem t2_any (W : World) (a : Option Addr) (c : Nat) (h : SL W a 9 c lZ) : Calls Tryd.prog 46 #[.agg #[.int .i64 2, .slice a 9 c], .int .i64 1, .int .i64 1, .int .i64 1] W (EndsZ 2 0 9 lY W) := by
  have h := zlet_mov_in 2 lZ (zq _ lZ_full) 1 (by omega) (by omega) 1 a 9 c W h (by omega) (by omega)
  rw [lY_is] at h
  exact h.mono (fun e w' he => ends_of rfl (by decide) he)
theorem t4_any (W : World) (a : Option Addr) (c : Nat) (h : SL W a 9 c lZ) : Calls Tryd.prog 46 #[.agg #[.int .i64 2, .slice a 9 c], .int .i64 1, .int .i64 2, .int .i64 (-1)] W (EndsZ 2 0 9 lV W) := by
  have h := zlet_tie_in 2 lZ (zq _ lZ_full) 1 2 (by omega) (by omega) (by omega) (-1) a 9 c W h (by omega) (by omega) (by omega)
  rw [lV_is] at h
  exact h.mono (fun e w' he => ends_of rfl (by decide) he)
theorem t9_any (W : World) (a : Option Addr) (c : Nat) (h : SL W a 9 c lZ) : Calls Tryd.prog 48 #[.agg #[.int .i64 2, .slice a 9 c], .int .i64 0, .int .i64 3, .int .i64 1] W (EndsZ 0 1 0 [] W) := by
  have e : chkE 2 lZ 0 0 3 = 1 := by decide +kernel
  have h := zlimit_bad 2 0 3 1 a 9 c lZ W h (by rw [e]; decide)
  rw [e] at h
  exact h.mono (fun e w' he => ends_of rfl (by decide) he)
theorem t10_any (W : World) : Calls Tryd.prog 47 #[.agg #[.int .i64 9, .slice none 0 0], .int .i64 1] W (EndsZ 0 80 0 [] W) := by
  have e : chkE 9 [] 1 1 0 = 80 := by decide +kernel
  have h := zforget_bad 9 1 none 0 0 [] W (SL.nil W) (by rw [e]; decide)
  rw [e] at h
  exact h.mono (fun e w' he => ends_of rfl (by decide) he)
end Go.Proofs.YtplgmmjppmpnoaaDoor
/- Zones changed: the document's Var, Or0, Limit, Itv. -/
namespace Go.Proofs.YtplgmmjppmpnoaaDoor
open Go.RowKit
set_option linter.unusedVariables false
set_option linter.unusedSimpArgs false

theorem b1_new2 (w : World) (x y x2 y2 : Value) : Below w.heap.size w ((w.alloc (.cells #[x, y] 24)).alloc (.cells #[x2, y2] 24)) ∧ ZH ((w.alloc (.cells #[x, y] 24)).alloc (.cells #[x2, y2] 24)) (w.heap.size + 1) x2 y2 := by
  refine ⟨box2_below _ _ _ _ _, ?_⟩
  have := Holds.new (w.alloc (.cells #[x, y] 24)) 24 #[x2, y2]
  simpa using this
theorem rlim_nil (n : Nat) (i j c : Int) (a : Option Addr) (ca : Nat) (w : World) : Calls Tryd.prog 21 #[.agg #[.int .i64 n, .slice a 0 ca], .int .i64 i, .int .i64 j, .int .i64 c] w (ZoneN n [] w) := by
  obtain ⟨hb, hz⟩ := b1_new2 w (.int .i64 n) (.slice a 0 ca) (.int .i64 n) (.slice a 0 ca)
  have hb' := Lib.hid hb
  have hz' := Lib.hid hz
  clear hb hz
  go_enter Tryd.func21, Tryd.ntmps21
  go_wp2
  exact zone_ret hz'.out ⟨a, 0, ca, rfl, ⟨rfl, Nat.zero_le _, by omega, .inl rfl⟩, hb'.out, .inl rfl⟩ _ _ 8 rfl rfl rfl
set_option maxRecDepth 100000 in
set_option maxHeartbeats 1000000 in
theorem rlim_full (n : Nat) (l : List Int) (hF : Full n l) (i j : Nat) (hi : i ≤ n) (hj : j ≤ n) (c : Int) (a : Option Addr) (m ca : Nat) (w : World) (h : SL w a m ca l) : Calls Tryd.prog 21 #[.agg #[.int .i64 n, .slice a m ca], .int .i64 i, .int .i64 j, .int .i64 c] w (ZoneN n (closedL n (limL n l i j c)) w) := by
  obtain ⟨i0, hii, hz0, hz1, hz2⟩ := info_parts infoInt
  obtain ⟨W1, hW1⟩ : ∃ W1, W1 = (w.alloc (.cells #[.int .i64 n, .slice a m ca] 24)).alloc (.cells #[.int .i64 0, .slice none 0 0] 24) := ⟨_, rfl⟩
  have X1 : B1 w W1 (.int .i64 n) (.slice a m ca) := by rw [hW1]; exact b1_new _ _ _
  have hpos := sz_pos n
  have hs81 := sz_le hF.le
  have hm : m = sz n := by rw [h.len, hF.len]
  have p1 : ((m : Int) == 0) = false := by simp; omega
  have p2 : ¬ (m : Int) = 0 := by omega
  obtain ⟨p, q, u1, u2, u3, hq, hqs, -, -, -⟩ := place_wraps hF.le hi hj
  have hqm : (q : Int) < (m : Int) := by omega
  have hL : limL n l i j c = l.set q (min (l.getD q 0) c) := by unfold limL; rw [hq]
  have hrc := Lib.hid (fun b cb W (hs : Sees .i64 W.heap.size W b (limL n l i j c)) => rclose_any n hF.le b (limL n l i j c) m cb (by rw [limL_len, hF.len, hm]) hm W hs)
  have hsm : Hid ((closedL n (limL n l i j c)).length ≤ 1000) := Lib.hid (by have := closed_small hF.le (limL n l i j c); omega)
  have hlm := Lib.hid (show l.length = m by rw [hF.len, hm])
  have hmb : m ≤ 81 := by omega
  have hS := Lib.hid (h.below X1.bl)
  have X1' := Lib.hid X1
  have k0 := X1.z1.cell 0
  have k1 := X1.z1.cell 1
  have hW1' := Lib.hid hW1
  have hbe : Hid (Below W1.heap.size W1 (W1.alloc (.cells #[] 3))) := Lib.hid (box_below _ _ _)
  have hsz1 : Hid (W1.heap.size = w.heap.size + 1 + 1) := Lib.hid (by rw [hW1]; simp)
  have hm0 : Hid (m ≠ 0) := Lib.hid (by omega)
  obtain ⟨x, hx⟩ : ∃ x, x = l.getD q 0 := ⟨_, rfl⟩
  have hxl : Hid (l.getD q 0 = x) := Lib.hid hx.symm
  have hLlt : Hid (c < x → limL n l i j c = l.set q c) := Lib.hid (fun hc => by rw [hL, ← hx, show min x c = c by omega])
  have hLge : Hid (¬ c < x → limL n l i j c = l) := Lib.hid (fun hc => by
    rw [hL, ← hx, show min x c = x by omega, hx]
    apply List.ext_getElem (by simp)
    intro t h1 h2
    rw [List.getElem_set]
    split
    · rename_i e; subst e; simp [List.getD, h2]
    · rfl)
  have hgoal : Hid (∀ (g cap : Nat) (W : World), B1 w W (.int .i64 n) (.slice a m ca) → W.ownsRow W1.heap.size 3 1 (.slice (some ⟨g, 0, none⟩) m cap) m (nums .i64 (limL n l i j c)) → Calls Tryd.prog 27 #[.int .i64 n, .slice (some ⟨g, 0, none⟩) m cap] W (fun e w' => ∃ a7 m7 c7, e = .returned (.agg #[.int .i64 n, .slice a7 m7 c7]) ∧ B1 w w' (.int .i64 n) (.slice a m ca) ∧ SL w' a7 m7 c7 (closedL n (limL n l i j c)) ∧ ZH ((w'.setCell ⟨w.heap.size + 1, 0, none⟩ (.int .i64 n)).setCell ⟨w.heap.size + 1, 1, none⟩ (.slice a7 m7 c7)) (w.heap.size + 1) (.int .i64 n) (.slice a7 m7 c7) ∧ ZoneN n (closedL n (limL n l i j c)) w (.returned (.agg #[.int .i64 n, .slice a7 m7 c7])) ((w'.setCell ⟨w.heap.size + 1, 0, none⟩ (.int .i64 n)).setCell ⟨w.heap.size + 1, 1, none⟩ (.slice a7 m7 c7)))) := Lib.hid (fun g cap W hX hO => by
    obtain ⟨b, cb, hv, -, ss⟩ := sees_own hO
    injection hv with e1 e2 e3
    subst e1 e3
    refine (hrc.out _ cap W ss).mono ?_
    intro e w7 hz7
    obtain ⟨a7, m7, c7, rfl, s7, b7, nw7⟩ := zoneN_of hsm.out hz7
    obtain ⟨f1, f2⟩ := zone_putN (n := n) hX.bl (by omega) hX.z2 s7 b7 nw7
    exact ⟨a7, m7, c7, rfl, hX.on b7, s7, f1, f2⟩)
  clear hW1 X1 h hF hm hpos hq hqs hL hx hrc hsm
  generalize limL n l i j c = L at *
  generalize closedL n L = R at *
  by_cases hc : c < x
  · have hLe := Lib.hid (hLlt.out hc)
    clear hLlt hLge
    go_enter Tryd.func21, Tryd.ntmps21
    go_wp2_with (at_builtin; rw [← hW1'.out]; refine wpList_append_sees _ rfl (.tmp 16) (.tmp 18) 22 rfl W1 3 i0 (.int .i64 0) 8 Tryd.underlying22 hii hz0 hz1 hz2 rfl .i64 _ [] (by exact own_empty 3 .i64 (Below.refl _ W1)) (by exact hbe.out) W1.heap.size a l (by exact hS.out.sees.below hbe.out) m ca hS.out.len (by rw [hsz1.out]; rfl) rfl (by have := hlm.out; simp; omega) (by omega) ?_; intro v2 w2 hown2 hw2; simp only [List.nil_append] at hown2; rw [hlm.out] at hown2; obtain ⟨g, cap, rfl, hg⟩ := own_some hown2 hm0.out; have m0 := own_at hown2 (i := q) (by have := hlm.out; omega); rw [hxl.out] at m0; have mf := hown2.frozenAt q; have X2 := Lib.hid (X1'.out.on hw2); have d0 := X2.out.z1.cell 0; have d1 := X2.out.z1.cell 1; have O2 := Lib.hid hown2; have d2 : (w2.setCell ⟨g, q, none⟩ (.int .i64 c)).cell? ⟨w.heap.size, 0, none⟩ = some (.int .i64 n) := (World.cell?_setCell_far w2 ⟨g, q, none⟩ ⟨w.heap.size, 0, none⟩ (.int .i64 c) (by have := hsz1.out; show g ≠ w.heap.size; omega)).trans d0; clear hown2 hw2 k0 k1)
    have hB1 : Hid (B1 w (w2.setCell ⟨g, q, none⟩ (.int .i64 c)) (.int .i64 n) (.slice a m ca)) := Lib.hid (by
      have hE : BelowE [g] w2.heap.size w2 (w2.setCell ⟨g, q, none⟩ (.int .i64 c)) := (BelowE.refl _ _ _).setIn (p := ⟨g, q, none⟩) (by simp) _
      have := hsz1.out
      exact ⟨X2.out.bl.setCell (p := ⟨g, q, none⟩) (by show _ ≤ g; omega) _, X2.out.z1.belowE hE X2.out.z1.lt (by simp; omega), X2.out.z2.belowE hE X2.out.z2.lt (by simp; omega)⟩)
    have hcall := Lib.hid (hgoal.out g cap _ hB1.out (by rw [hLe.out]; exact own_put O2.out q c))
    refine hcall.out.mono ?_
    rintro e w7 ⟨a7, m7, c7, rfl, Y, s7, z1, z2⟩
    have y0 := Y.z2.cell 0
    have y1 := Y.z2.cell 1
    have f0 := Y.z2.free 0
    have f1 := Y.z2.free 1
    have z1' := Lib.hid z1
    have z2' := Lib.hid z2
    clear Y s7 z1 z2
    go_wp2
    exact zone_ret z1'.out z2'.out _ _ 8 rfl rfl rfl
  · have hLe := Lib.hid (hLge.out hc)
    clear hLlt hLge
    go_enter Tryd.func21, Tryd.ntmps21
    go_wp2_with (at_builtin; rw [← hW1'.out]; refine wpList_append_sees _ rfl (.tmp 16) (.tmp 18) 22 rfl W1 3 i0 (.int .i64 0) 8 Tryd.underlying22 hii hz0 hz1 hz2 rfl .i64 _ [] (by exact own_empty 3 .i64 (Below.refl _ W1)) (by exact hbe.out) W1.heap.size a l (by exact hS.out.sees.below hbe.out) m ca hS.out.len (by rw [hsz1.out]; rfl) rfl (by have := hlm.out; simp; omega) (by omega) ?_; intro v2 w2 hown2 hw2; simp only [List.nil_append] at hown2; rw [hlm.out] at hown2; obtain ⟨g, cap, rfl, hg⟩ := own_some hown2 hm0.out; have m0 := own_at hown2 (i := q) (by have := hlm.out; omega); rw [hxl.out] at m0; have mf := hown2.frozenAt q; have X2 := Lib.hid (X1'.out.on hw2); have d0 := X2.out.z1.cell 0; have d1 := X2.out.z1.cell 1; have O2 := Lib.hid hown2; have B2' := Lib.hid hw2; clear hown2 hw2 k0 k1)
    have hcall := Lib.hid (hgoal.out g cap _ X2.out (by rw [hLe.out]; exact O2.out))
    refine hcall.out.mono ?_
    rintro e w7 ⟨a7, m7, c7, rfl, Y, s7, z1, z2⟩
    have y0 := Y.z2.cell 0
    have y1 := Y.z2.cell 1
    have f0 := Y.z2.free 0
    have f1 := Y.z2.free 1
    have z1' := Lib.hid z1
    have z2' := Lib.hid z2
    clear Y s7 z1 z2
    go_wp2
    exact zone_ret z1'.out z2'.out _ _ 8 rfl rfl rfl
theorem rnone_any (w : World) : Calls Tryd.prog 49 #[] w (Gives (.agg #[.int .i64 1, .int .i64 0]) w) := by
  go_enter Tryd.func49, Tryd.ntmps49
  go_wp2
  exact itv_ret (Holds.new w _ _) ⟨rfl, box_below _ _ _⟩ _ _ 0 rfl rfl rfl
end Go.Proofs.YtplgmmjppmpnoaaDoor
/- Zones changed: the document's Itv, Forget. -/
namespace Go.Proofs.YtplgmmjppmpnoaaDoor
open Go.RowKit
set_option linter.unusedVariables false
set_option linter.unusedSimpArgs false

end Go.Proofs.YtplgmmjppmpnoaaDoor
/- Zones changed: the document's Forget. -/
namespace Go.Proofs.YtplgmmjppmpnoaaDoor
open Go.RowKit
set_option linter.unusedVariables false
set_option linter.unusedSimpArgs false

def farAll (n : Nat) (l : List Int) (i : Nat) : List Int := (List.range (sz n)).map fun k => if k / (n + 1) = i ∨ k % (n + 1) = i then 4398046511104 else l.getD k 0
theorem farAll_len (n : Nat) (l : List Int) (i : Nat) : (farAll n l i).length = sz n := by simp [farAll]
theorem farAll_at {n : Nat} (l : List Int) (i : Nat) {a b : Nat} (ha : a ≤ n) (hb : b ≤ n) : mat n (farAll n l i) a b = if a = i ∨ b = i then 4398046511104 else mat n l a b := by
  have h := place_lt ha hb
  unfold mat farAll sz
  simp [List.getD, h, place_div hb, place_mod hb]
theorem far_clip {n i : Nat} (hi : i ≤ n) {l : List Int} (hF : Full n l) : clipL n (farAll n l i) = clipL n (forL n l i) := by
  refine mat_ext (clip_len _ _) (clip_len _ _) (fun a b ha hb => ?_)
  have hlen : l.length = (n + 1) * (n + 1) := hF.len
  unfold clipL
  rw [mat_matL _ ha hb, mat_matL _ ha hb]
  unfold clipF
  rw [farAll_at l i ha hb, show mat n (forL n l i) a b = _ from othK_at (F := fun _ => 4398046511104) (G := fun _ => 4398046511104) hi hlen (n + 1) (by omega) a b ha hb]
  by_cases h1 : a = i
  · subst h1
    by_cases h2 : b = a
    · subst h2
      have := hF.closed.zero b hi
      rw [if_pos (by omega), if_neg (by omega), if_neg (by omega), this]
      have : widestF b b = 0 := by unfold widestF; simp
      rw [this]
      decide
    · rw [if_pos (by omega), if_pos (by omega)]
  · by_cases h2 : b = i
    · subst h2
      rw [if_pos (by omega), if_neg (by omega), if_pos (by omega)]
    · rw [if_neg (by omega), if_neg (by omega), if_neg (by omega)]
theorem far_closed {n i : Nat} (hi : i ≤ n) {l : List Int} (hF : Full n l) : closedL n (farAll n l i) = closedL n (forL n l i) := by unfold closedL; rw [far_clip hi hF]
theorem rfor_nil (n : Nat) (i : Int) (a : Option Addr) (ca : Nat) (w : World) : Calls Tryd.prog 23 #[.agg #[.int .i64 n, .slice a 0 ca], .int .i64 i] w (ZoneN n [] w) := by
  obtain ⟨hb, hz⟩ := b1_new2 w (.int .i64 n) (.slice a 0 ca) (.int .i64 n) (.slice a 0 ca)
  have hb' := Lib.hid hb
  have hz' := Lib.hid hz
  clear hb hz
  go_enter Tryd.func23, Tryd.ntmps23
  go_wp2
  exact zone_ret hz'.out ⟨a, 0, ca, rfl, ⟨rfl, Nat.zero_le _, by omega, .inl rfl⟩, hb'.out, .inl rfl⟩ _ _ 4 rfl rfl rfl
set_option maxRecDepth 100000 in
set_option maxHeartbeats 1000000 in
theorem rfor_full (n : Nat) (l : List Int) (hF : Full n l) (i : Nat) (hi : i ≤ n) (a : Option Addr) (m ca : Nat) (w : World) (h : SL w a m ca l) : Calls Tryd.prog 23 #[.agg #[.int .i64 n, .slice a m ca], .int .i64 i] w (ZoneN n (closedL n (forL n l i)) w) := by
  rw [← far_closed hi hF]
  obtain ⟨i0, hii, hz0, hz1, hz2⟩ := info_parts infoInt
  obtain ⟨W1, hW1⟩ : ∃ W1, W1 = (w.alloc (.cells #[.int .i64 n, .slice a m ca] 24)).alloc (.cells #[.int .i64 0, .slice none 0 0] 24) := ⟨_, rfl⟩
  have X1 : B1 w W1 (.int .i64 n) (.slice a m ca) := by rw [hW1]; exact b1_new _ _ _
  have H1 := Lib.hid h
  have X1' := Lib.hid X1
  have k0 := X1.z1.cell 0
  have k1 := X1.z1.cell 1
  have hs81 := sz_le hF.le
  have hpos := sz_pos n
  have hn8 : (n : Int) ≤ 8 := by have := hF.le; omega
  have hm : m = sz n := by rw [h.len, hF.len]
  have p1 : ((m : Int) == 0) = false := by simp; omega
  have p2 : ¬ (m : Int) = 0 := by omega
  have hsq : ((n : Int) + 1) * ((n : Int) + 1) = (m : Int) := by rw [hm]; unfold sz; simp
  have hwn : IntKind.i64.wrap ((n : Int) + 1) = (n : Int) + 1 := wrap_small (by omega) (by omega)
  have hws : IntKind.i64.wrap (m : Int) = (m : Int) := wrap_small (by omega) (by omega)
  have hmi : m ≤ 81 := by omega
  have hlen : Hid ((farAll n l i).length = m) := Lib.hid (by rw [farAll_len, hm])
  have hat : Hid (∀ k, k < m → (farAll n l i).take k ++ [if k / (n + 1) = i ∨ k % (n + 1) = i then 4398046511104 else l.getD k 0] = (farAll n l i).take (k + 1)) := Lib.hid (fun k hk => by
    have hl : k < (farAll n l i).length := by rw [farAll_len, ← hm]; exact hk
    have e : (farAll n l i)[k] = if k / (n + 1) = i ∨ k % (n + 1) = i then 4398046511104 else l.getD k 0 := by simp only [farAll, List.getElem_map, List.getElem_range]
    rw [← List.take_append_getElem hl, e])
  have hrc := Lib.hid (fun a c W (h : Sees .i64 W.heap.size W a (farAll n l i)) => rclose_any n hF.le a (farAll n l i) m c (by rw [farAll_len, hm]) hm W h)
  have hsm : Hid ((closedL n (farAll n l i)).length ≤ 1000) := Lib.hid (by have := closed_small hF.le (farAll n l i); omega)
  have hW1' := Lib.hid hW1
  clear X1 h hF hm hs81 hpos
  generalize farAll n l i = P at *
  generalize closedL n P = R at *
  go_enter Tryd.func23, Tryd.ntmps23
  go_wp2
  rw [← hW1]
  clear hW1 k0 k1 hW1'
  go_loopw [6, 7] (fun v x wr => ∃ k : Nat, k ≤ m ∧ x = .int .i64 k ∧ Hid (wr.ownsRow W1.heap.size 3 1 v (P.take k).length (nums .i64 (P.take k))) ∧ Hid (Below W1.heap.size W1 wr)) (fun _ x _ => m - (intOf x).toNat)
  case atStart => exact ⟨0, by omega, rfl, Lib.hid (by rw [List.take_zero]; exact ⟨rfl, .inl ⟨rfl, rfl⟩⟩), Lib.hid (Below.refl _ _)⟩
  case round =>
    obtain ⟨k, hk, rfl, hown, hb⟩ := hrel
    have X2 := Lib.hid (X1'.out.on hb.out)
    have k0 := X2.out.z1.cell 0
    have k1 := X2.out.z1.cell 1
    by_cases hlt : k < m
    · have hki : (k : Int) < (m : Int) := by omega
      have T1 := Lib.hid (H1.out.below X2.out.bl)
      obtain ⟨b1, o1, rfl, -, e1⟩ := sees_at' T1.out.sees (i := k) (by have := T1.out.len; omega)
      have hnx := Lib.hid (hat.out k hlt)
      have hrl : (P.take k).length ≤ 81 := by have := hlen.out; rw [List.length_take]; omega
      obtain ⟨q, hq⟩ : ∃ q : Nat, q = k / (n + 1) := ⟨_, rfl⟩
      obtain ⟨r, hr⟩ : ∃ r : Nat, r = k % (n + 1) := ⟨_, rfl⟩
      have t1 : ((k : Int)).tdiv ((n : Int) + 1) = (q : Int) := by rw [Int.tdiv_eq_ediv_of_nonneg (by omega), hq, Int.natCast_ediv]; rfl
      have t2 : ((k : Int)).tmod ((n : Int) + 1) = (r : Int) := by rw [Int.tmod_eq_emod_of_nonneg (by omega), hr, Int.natCast_emod]; rfl
      have hq9 : q ≤ 81 := by have := Nat.div_le_self k (n + 1); omega
      have hr9 : r ≤ 81 := by have := Nat.mod_le k (n + 1); omega
      have hwq : IntKind.i64.wrap (q : Int) = (q : Int) := wrap_small (by omega) (by omega)
      have hwr : IntKind.i64.wrap (r : Int) = (r : Int) := wrap_small (by omega) (by omega)
      have hn0 : ¬ ((n : Int) + 1 = 0) := by omega
      rw [← hq, ← hr] at hnx
      clear T1 hq hr
      generalize l.getD k 0 = x at *
      by_cases hqi : q = i
      · rw [if_pos (by omega)] at hnx
        have hqe : (q : Int) = (i : Int) := by omega
        go_wp2_with (at_builtin; refine wpList_append1 _ rfl _ _ 22 rfl W1 3 i0 (.int .i64 0) 8 Tryd.underlying22 hii hz0 hz1 hz2 rfl .i64 4398046511104 _ _ hown.out hb.out rfl rfl (by omega) (by omega) ?_; intro v' w' hown2 hb2; have hown2' := Lib.hid hown2; have hb2' := Lib.hid hb2; clear hown2 hb2)
        go_roundw
        case rel => exact ⟨k + 1, by omega, by go_num, by rw [← hnx.out]; exact hown2', hb2'⟩
        case measure => simp [intOf]; omega
      · have hqe : ¬ (q : Int) = (i : Int) := by omega
        by_cases hri : r = i
        · rw [if_pos (by omega)] at hnx
          have hre : (r : Int) = (i : Int) := by omega
          go_wp2_with (at_builtin; refine wpList_append1 _ rfl _ _ 22 rfl W1 3 i0 (.int .i64 0) 8 Tryd.underlying22 hii hz0 hz1 hz2 rfl .i64 4398046511104 _ _ hown.out hb.out rfl rfl (by omega) (by omega) ?_; intro v' w' hown2 hb2; have hown2' := Lib.hid hown2; have hb2' := Lib.hid hb2; clear hown2 hb2)
          go_roundw
          case rel => exact ⟨k + 1, by omega, by go_num, by rw [← hnx.out]; exact hown2', hb2'⟩
          case measure => simp [intOf]; omega
        · rw [if_neg (by omega)] at hnx
          have hre : ¬ (r : Int) = (i : Int) := by omega
          have hrb : ((r : Int) == (i : Int)) = false := by simp; omega
          have hqb : ((q : Int) == (i : Int)) = false := by simp; omega
          go_wp2_with (at_builtin; refine wpList_append1 _ rfl _ _ 22 rfl W1 3 i0 (.int .i64 0) 8 Tryd.underlying22 hii hz0 hz1 hz2 rfl .i64 x _ _ hown.out hb.out rfl rfl (by omega) (by omega) ?_; intro v' w' hown2 hb2; have hown2' := Lib.hid hown2; have hb2' := Lib.hid hb2; clear hown2 hb2)
          go_roundw
          case rel => exact ⟨k + 1, by omega, by go_num, by rw [← hnx.out]; exact hown2', hb2'⟩
          case measure => simp [intOf]; omega
    · have hke : k = m := by omega
      have htk : P.take k = P := List.take_of_length_le (by have := hlen.out; omega)
      have hw := hown.out
      rw [htk] at hw
      obtain ⟨a5, c5, hv, -, hs⟩ := sees_own hw
      rw [hlen.out] at hv
      subst hv
      have hcall := Lib.hid (hrc.out a5 c5 wr hs)
      clear hown hw hs htk hrc hat
      go_wp2_with fail
      refine hcall.out.mono ?_
      intro e w7 hz7
      obtain ⟨a7, m7, c7, rfl, s7, b7, nw7⟩ := zoneN_of hsm.out hz7
      have Zd := X2.out.z2.below b7 X2.out.z2.lt
      have y0 := Zd.cell 0
      have y1 := Zd.cell 1
      have f0 := Zd.free 0
      have f1 := Zd.free 1
      have hfin := Lib.hid (zone_putN (n := n) X2.out.bl (by omega) X2.out.z2 s7 b7 nw7)
      clear Zd hcall hz7
      go_wp2
      exact zone_ret hfin.out.1 hfin.out.2 _ _ 4 rfl rfl rfl
end Go.Proofs.YtplgmmjppmpnoaaDoor
/- Zones changed: the document's Let, of another variable. -/
namespace Go.Proofs.YtplgmmjppmpnoaaDoor
open Go.RowKit
set_option linter.unusedVariables false
set_option linter.unusedSimpArgs false

theorem rlim_any (n : Nat) (l : List Int) (hz : IsZ n l) (i j : Nat) (hi : i ≤ n) (hj : j ≤ n) (c : Int) (a : Option Addr) (m ca : Nat) (w : World) (h : SL w a m ca l) : Calls Tryd.prog 21 #[.agg #[.int .i64 n, .slice a m ca], .int .i64 i, .int .i64 j, .int .i64 c] w (ZoneN n (limitL n l i j c) w) := by
  unfold limitL stepL
  rcases hz.2 with e | hF
  · subst e
    have hm : m = 0 := by rw [h.len]; rfl
    subst hm
    rw [if_pos rfl]
    exact rlim_nil n i j c a ca w
  · rw [if_neg hF.ne]
    exact rlim_full n l hF i j hi hj c a m ca w h
theorem rfor_any (n : Nat) (l : List Int) (hz : IsZ n l) (i : Nat) (hi : i ≤ n) (a : Option Addr) (m ca : Nat) (w : World) (h : SL w a m ca l) : Calls Tryd.prog 23 #[.agg #[.int .i64 n, .slice a m ca], .int .i64 i] w (ZoneN n (forgetL n l i) w) := by
  unfold forgetL stepL
  rcases hz.2 with e | hF
  · subst e
    have hm : m = 0 := by rw [h.len]; rfl
    subst hm
    rw [if_pos rfl]
    exact rfor_nil n i a ca w
  · rw [if_neg hF.ne]
    exact rfor_full n l hF i hi a m ca w h
theorem rlet_far (n : Nat) (i j c : Int) (a : Option Addr) (m ca : Nat) (w : World) (hm : m ≤ 9223372036854775807) (hc : 2199023255552 < c ∨ c < -2199023255552 ∨ m = 0) : Calls Tryd.prog 22 #[.agg #[.int .i64 n, .slice a m ca], .int .i64 i, .int .i64 j, .int .i64 c] w (ZoneN n [] w) := by
  obtain ⟨hb, hz⟩ := b1_new2 w (.int .i64 n) (.slice a m ca) (.int .i64 n) (.slice none 0 0)
  have hb' := Lib.hid hb
  have hz' := Lib.hid hz
  clear hb hz
  have hsplit : (2199023255552 < c) ∨ (¬ 2199023255552 < c ∧ c < -2199023255552) ∨ (¬ 2199023255552 < c ∧ ¬ c < -2199023255552 ∧ m = 0) := by omega
  clear hc
  rcases hsplit with h1 | ⟨h1, h2⟩ | ⟨h1, h2, h3⟩
  · go_enter Tryd.func22, Tryd.ntmps22
    go_wp2
    exact zone_ret hz'.out ⟨none, 0, 0, rfl, SL.nil _, hb'.out, .inl rfl⟩ _ _ 8 rfl rfl rfl
  · go_enter Tryd.func22, Tryd.ntmps22
    go_wp2
    exact zone_ret hz'.out ⟨none, 0, 0, rfl, SL.nil _, hb'.out, .inl rfl⟩ _ _ 8 rfl rfl rfl
  · subst h3
    go_enter Tryd.func22, Tryd.ntmps22
    go_wp2
    exact zone_ret hz'.out ⟨none, 0, 0, rfl, SL.nil _, hb'.out, .inl rfl⟩ _ _ 8 rfl rfl rfl
set_option maxRecDepth 100000 in
set_option maxHeartbeats 1000000 in
theorem rlet_ne (n : Nat) (l : List Int) (hF : Full n l) (i j : Nat) (hi : i ≤ n) (hj : j ≤ n) (hij : i ≠ j) (c : Int) (hc1 : c ≤ 2199023255552) (hc2 : -2199023255552 ≤ c) (a : Option Addr) (m ca : Nat) (w : World) (h : SL w a m ca l) : Calls Tryd.prog 22 #[.agg #[.int .i64 n, .slice a m ca], .int .i64 i, .int .i64 j, .int .i64 c] w (ZoneN n (limitL n (limitL n (forgetL n l i) i j c) j i (-c)) w) := by
  obtain ⟨W1, hW1⟩ : ∃ W1, W1 = (w.alloc (.cells #[.int .i64 n, .slice a m ca] 24)).alloc (.cells #[.int .i64 0, .slice none 0 0] 24) := ⟨_, rfl⟩
  have X1 : B1 w W1 (.int .i64 n) (.slice a m ca) := by rw [hW1]; exact b1_new _ _ _
  have hpos := sz_pos n
  have hs81 := sz_le hF.le
  have hm : m = sz n := by rw [h.len, hF.len]
  have p1 : ((m : Int) == 0) = false := by simp; omega
  have p2 : ¬ (m : Int) = 0 := by omega
  have hw : IntKind.i64.wrap (-c) = -c := wrap_small (by omega) (by omega)
  have g1 : ¬ 2199023255552 < c := by omega
  have g2 : ¬ c < -2199023255552 := by omega
  have hne : ((i : Int) != (j : Int)) = true := by simp; omega
  have q1 := Lib.hid (rfor_any n l ⟨hF.le, .inr hF⟩ i hi a m ca W1 (h.below X1.bl))
  have z1 : IsZ n (forgetL n l i) := stepL_isz hF.le _ _
  have z2 : IsZ n (limitL n (forgetL n l i) i j c) := stepL_isz hF.le _ _
  have z3 : IsZ n (limitL n (limitL n (forgetL n l i) i j c) j i (-c)) := stepL_isz hF.le _ _
  have q2 := Lib.hid (fun a m ca W h => rlim_any n _ z1 i j hi hj c a m ca W h)
  have q3 := Lib.hid (fun a m ca W h => rlim_any n _ z2 j i hj hi (-c) a m ca W h)
  have k0 := X1.z1.cell 0
  have k1 := X1.z1.cell 1
  have hW1' := Lib.hid hW1
  have X1' := Lib.hid X1
  have hmi : (m : Int) ≤ 81 := by omega
  clear X1 hW1 h hF hm hpos hs81 z1 z2 z3 hij
  generalize limitL n (limitL n (forgetL n l i) i j c) j i (-c) = R3 at *
  generalize limitL n (forgetL n l i) i j c = R2 at *
  generalize forgetL n l i = R1 at *
  go_enter Tryd.func22, Tryd.ntmps22
  go_wp2_with fail
  rw [← hW1'.out]
  refine q1.out.mono ?_
  rintro e w2 ⟨a2, m2, c2, rfl, s2, b2, nw2⟩
  have T2 := Lib.hid (q2.out a2 m2 c2 w2 s2)
  have X2 := Lib.hid (X1'.out.on b2)
  clear q1 q2 X1' b2 nw2 s2 k0 k1
  go_wp2_with fail
  refine T2.out.mono ?_
  rintro e w3 ⟨a3, m3, c3, rfl, s3, b3, nw3⟩
  have T3 := Lib.hid (q3.out a3 m3 c3 w3 s3)
  have X3 := Lib.hid (X2.out.on b3)
  clear T2 q3 X2 b3 nw3 s3
  go_wp2_with fail
  refine T3.out.mono ?_
  rintro e w4 ⟨a4, m4, c4, rfl, s4, b4, nw4⟩
  have Zd := X3.out.z2.below b4 X3.out.z2.lt
  have y0 := Zd.cell 0
  have y1 := Zd.cell 1
  have f0 := Zd.free 0
  have f1 := Zd.free 1
  have hfin := Lib.hid (zone_putN (n := n) X3.out.bl (by omega) X3.out.z2 s4 b4 nw4)
  clear Zd T3
  go_wp2
  exact zone_ret hfin.out.1 hfin.out.2 _ _ 8 rfl rfl rfl
end Go.Proofs.YtplgmmjppmpnoaaDoor
/- Zones changed: the document's Let, of the variable itself. -/
namespace Go.Proofs.YtplgmmjppmpnoaaDoor
open Go.RowKit
set_option linter.unusedVariables false
set_option linter.unusedSimpArgs false

theorem B1.set {w W : World} {x y : Value} (h : B1 w W x y) {g : Nat} (hg : w.heap.size + 2 ≤ g) (o : Nat) (u : Value) : B1 w (W.setCell ⟨g, o, none⟩ u) x y := by
  have hE : BelowE [g] W.heap.size W (W.setCell ⟨g, o, none⟩ u) := (BelowE.refl _ _ _).setIn (p := ⟨g, o, none⟩) (by simp) _
  exact ⟨h.bl.setCell (p := ⟨g, o, none⟩) (by show _ ≤ g; omega) _, h.z1.belowE hE h.z1.lt (by simp; omega), h.z2.belowE hE h.z2.lt (by simp; omega)⟩
set_option maxRecDepth 100000 in
set_option maxHeartbeats 2000000 in
theorem rlet_eq (n : Nat) (l : List Int) (hF : Full n l) (i : Nat) (hi : i ≤ n) (c : Int) (hc1 : c ≤ 2199023255552) (hc2 : -2199023255552 ≤ c) (a : Option Addr) (m ca : Nat) (w : World) (h : SL w a m ca l) : Calls Tryd.prog 22 #[.agg #[.int .i64 n, .slice a m ca], .int .i64 i, .int .i64 i, .int .i64 c] w (ZoneN n (closedL n (movL n l i c)) w) := by
  obtain ⟨i0, hii, hz0, hz1, hz2⟩ := info_parts infoInt
  obtain ⟨W1, hW1⟩ : ∃ W1, W1 = (w.alloc (.cells #[.int .i64 n, .slice a m ca] 24)).alloc (.cells #[.int .i64 0, .slice none 0 0] 24) := ⟨_, rfl⟩
  have X1 : B1 w W1 (.int .i64 n) (.slice a m ca) := by rw [hW1]; exact b1_new _ _ _
  have hpos := sz_pos n
  have hs81 := sz_le hF.le
  have hn8 : (n : Int) ≤ 8 := by have := hF.le; omega
  have hm : m = sz n := by rw [h.len, hF.len]
  have p1 : ((m : Int) == 0) = false := by simp; omega
  have p2 : ¬ (m : Int) = 0 := by omega
  have g1 : ¬ 2199023255552 < c := by omega
  have g2 : ¬ c < -2199023255552 := by omega
  have hwn : IntKind.i64.wrap ((n : Int) + 1) = (n : Int) + 1 := wrap_small (by omega) (by omega)
  have hl : l.length = sz n := hF.len
  have hlb := full_all hF
  have hlen : Hid (∀ k, (othK (fun x => x + c) (fun x => x - c) n i l k).length = m) := Lib.hid (fun k => by rw [othK_len, hl, hm])
  have hstep : Hid (∀ k, othK (fun x => x + c) (fun x => x - c) n i l (k + 1) = if k = i then othK (fun x => x + c) (fun x => x - c) n i l k else pairL (fun x => x + c) (fun x => x - c) (othK (fun x => x + c) (fun x => x - c) n i l k) (i * (n + 1) + k) (k * (n + 1) + i)) := Lib.hid (fun k => rfl)
  have hpw := Lib.hid (fun k (hk : k ≤ n) => And.intro (place_wraps hF.le hi hk) (place_wraps hF.le hk hi))
  have hpv : Hid (∀ k, k ≤ n → k ≠ i → (-9000000000000 ≤ (othK (fun x => x + c) (fun x => x - c) n i l k).getD (i * (n + 1) + k) 0 ∧ (othK (fun x => x + c) (fun x => x - c) n i l k).getD (i * (n + 1) + k) 0 ≤ 9000000000000) ∧ (-9000000000000 ≤ (othK (fun x => x + c) (fun x => x - c) n i l k).getD (k * (n + 1) + i) 0 ∧ (othK (fun x => x + c) (fun x => x - c) n i l k).getD (k * (n + 1) + i) 0 ≤ 9000000000000)) := Lib.hid (fun k hk hki => by
    obtain ⟨e1, e2⟩ := othK_places (F := fun x => x + c) (G := fun x => x - c) hi hk hki hl
    rw [e1, e2]
    have r1 := hlb (i * (n + 1) + k)
    have r2 := hlb (k * (n + 1) + i)
    unfold mat
    omega)
  have hpd : Hid (∀ k, k ≤ n → k ≠ i → i * (n + 1) + k ≠ k * (n + 1) + i) := Lib.hid (fun k hk hki e => by
    have := congrArg (fun x => x % (n + 1)) e
    simp only [place_mod hk, place_mod hi] at this
    exact hki this)
  have hst : Hid (othK (fun x => x + c) (fun x => x - c) n i l 0 = l) := Lib.hid rfl
  have hrc := Lib.hid (fun b cb W (hs : Sees .i64 W.heap.size W b (movL n l i c)) => rclose_any n hF.le b (movL n l i c) m cb (by unfold movL; rw [hlen.out]) hm W hs)
  have hsm : Hid ((closedL n (movL n l i c)).length ≤ 1000) := Lib.hid (by have := closed_small hF.le (movL n l i c); omega)
  have hlm := Lib.hid (show l.length = m by rw [hF.len, hm])
  have hmb : m ≤ 81 := by omega
  have hS := Lib.hid (h.below X1.bl)
  have X1' := Lib.hid X1
  have k0 := X1.z1.cell 0
  have k1 := X1.z1.cell 1
  have hW1' := Lib.hid hW1
  have hbe : Hid (Below W1.heap.size W1 (W1.alloc (.cells #[] 3))) := Lib.hid (box_below _ _ _)
  have hsz1 : Hid (W1.heap.size = w.heap.size + 1 + 1) := Lib.hid (by rw [hW1]; simp)
  have hm0 : Hid (m ≠ 0) := Lib.hid (by omega)
  have hms : Hid (m = sz n) := Lib.hid hm
  have hmv : movL n l i c = othK (fun x => x + c) (fun x => x - c) n i l (n + 1) := rfl
  rw [hmv] at hrc hsm ⊢
  clear hW1 X1 h hF hpos hlb hl hmv hs81 hm
  generalize hQ : othK (fun x => x + c) (fun x => x - c) n i l = Q at *
  clear hQ
  generalize closedL n (Q (n + 1)) = R at *
  go_enter Tryd.func22, Tryd.ntmps22
  go_wp2_with (at_builtin; rw [← hW1'.out]; refine wpList_append_sees _ rfl (.tmp 45) (.tmp 47) 22 rfl W1 3 i0 (.int .i64 0) 8 Tryd.underlying22 hii hz0 hz1 hz2 rfl .i64 _ [] (by exact own_empty 3 .i64 (Below.refl _ W1)) (by exact hbe.out) W1.heap.size a l (by exact hS.out.sees.below hbe.out) m ca hS.out.len (by rw [hsz1.out]; rfl) rfl (by have := hlm.out; simp; omega) (by omega) ?_; intro v2 w2 hown2 hw2; simp only [List.nil_append] at hown2; rw [hlm.out] at hown2; obtain ⟨g, cap, rfl, hg⟩ := own_some hown2 hm0.out; have X2 := Lib.hid (X1'.out.on hw2); have O2 := Lib.hid hown2; clear hown2 hw2 k0 k1)
  have hglt := Lib.hid (O2.out.lt g rfl).1
  go_loopw [11] (fun x wr => ∃ k : Nat, k ≤ n + 1 ∧ x = .int .i64 k ∧ Hid (wr.ownsRow W1.heap.size 3 1 (.slice (some ⟨g, 0, none⟩) m cap) m (nums .i64 (Q k))) ∧ Hid (B1 w wr (.int .i64 n) (.slice a m ca))) (fun x _ => n + 1 - (intOf x).toNat)
  case atStart => exact ⟨0, by omega, rfl, Lib.hid (by rw [hst.out]; exact O2.out), X2⟩
  case round =>
    clear O2 X2
    obtain ⟨k, hkn, rfl, hown, hX⟩ := hrel
    by_cases hlt : k < n + 1
    · have hki : (k : Int) < (n : Int) + 1 := by omega
      by_cases hk : k = i
      · subst hk
        have hnx : Hid (wr.ownsRow W1.heap.size 3 1 (.slice (some ⟨g, 0, none⟩) m cap) m (nums .i64 (Q (k + 1)))) := Lib.hid (by rw [hstep.out, if_pos rfl]; exact hown.out)
        clear hown
        go_wp2
        go_roundw
        case rel => exact ⟨k + 1, by omega, by go_num, hnx, hX⟩
        case measure => simp [intOf]; omega
      · have hne : ((k : Int) != (i : Int)) = true := by simp; omega
        have hne2 : ¬ (k : Int) = (i : Int) := by omega
        obtain ⟨⟨r1, q1, -, u2, u3, e1, s1, -, -, -⟩, ⟨r2, q2, -, u5, u6, e2, s2, -, -, -⟩⟩ := hpw.out k (by omega)
        have hd := hpd.out k (by omega) hk
        have hv := hpv.out k (by omega) hk
        have hnx : Hid (pairL (fun x => x + c) (fun x => x - c) (Q k) (i * (n + 1) + k) (k * (n + 1) + i) = Q (k + 1)) := Lib.hid (by rw [hstep.out, if_neg hk])
        rw [← e1, ← e2] at hd hv hnx
        have hlk := hlen.out k
        have o1 := own_put hown.out q1 ((Q k).getD q1 0 + c)
        have o2 := own_put o1 q2 ((Q k).getD q2 0 - c)
        have hms' := hms.out
        have m0 := own_at hown.out (i := q1) (by omega)
        have m1 := own_at hown.out (i := q2) (by omega)
        have mf := hown.out.frozenAt q1
        have m2 : (wr.setCell ⟨g, q1, none⟩ (.int .i64 ((Q k).getD q1 0 + c))).cell? ⟨g, q2, none⟩ = some (.int .i64 ((Q k).getD q2 0)) := by
          have := own_at o1 (i := q2) (by rw [List.length_set]; omega)
          rw [this]
          simp [List.getD, List.getElem?_set, hd]
        have mg := o1.frozenAt q2
        have hgs : Hid (w.heap.size + 2 ≤ g) := Lib.hid (by have := hglt.out; have := hsz1.out; omega)
        have hY := Lib.hid ((hX.out.set hgs.out q1 (.int .i64 ((Q k).getD q1 0 + c))).set hgs.out q2 (.int .i64 ((Q k).getD q2 0 - c)))
        have hO : Hid (((wr.setCell ⟨g, q1, none⟩ (.int .i64 ((Q k).getD q1 0 + c))).setCell ⟨g, q2, none⟩ (.int .i64 ((Q k).getD q2 0 - c))).ownsRow W1.heap.size 3 1 (.slice (some ⟨g, 0, none⟩) m cap) m (nums .i64 (Q (k + 1)))) := Lib.hid (by rw [← hnx.out]; exact o2)
        have hq1 : (q1 : Int) < (m : Int) := by omega
        have hq2 : (q2 : Int) < (m : Int) := by omega
        clear o1 o2 hown hX hnx e1 e2 s1 s2 hlk hms' hd
        generalize (Q k).getD q1 0 = x at *
        generalize (Q k).getD q2 0 = y at *
        have hwa : IntKind.i64.wrap (x + c) = x + c := wrap_small (by omega) (by omega)
        have hwb : IntKind.i64.wrap (y - c) = y - c := wrap_small (by omega) (by omega)
        clear hv
        go_wp2
        go_roundw
        case rel => exact ⟨k + 1, by omega, by go_num, hO, hY⟩
        case measure => simp [intOf]; omega
    · have hke : k = n + 1 := by omega
      have hki : ¬ (k : Int) < (n : Int) + 1 := by omega
      have hw := hown.out
      rw [hke] at hw
      obtain ⟨b5, c5, hv5, -, hs⟩ := sees_own hw
      injection hv5 with v1 v2 v3
      subst v1 v3
      have hcall := Lib.hid (hrc.out _ cap wr hs)
      have k0 := hX.out.z1.cell 0
      clear hown hs hrc hw v2
      go_wp2_with fail
      refine hcall.out.mono ?_
      intro e w7 hz7
      obtain ⟨a7, m7, c7, rfl, s7, b7, nw7⟩ := zoneN_of hsm.out hz7
      have Zd := hX.out.z2.below b7 hX.out.z2.lt
      have y0 := Zd.cell 0
      have y1 := Zd.cell 1
      have f0 := Zd.free 0
      have f1 := Zd.free 1
      have hfin := Lib.hid (zone_putN (n := n) hX.out.bl (by omega) hX.out.z2 s7 b7 nw7)
      clear Zd hcall hz7
      go_wp2
      exact zone_ret hfin.out.1 hfin.out.2 _ _ 8 rfl rfl rfl
end Go.Proofs.YtplgmmjppmpnoaaDoor
/- Zones changed: to close once, or between two limits, comes to the same. -/
namespace Go.Proofs.YtplgmmjppmpnoaaDoor
open Go.RowKit
set_option linter.unusedVariables false
set_option linter.unusedSimpArgs false

theorem limL_at {n : Nat} {l : List Int} (hl : l.length = sz n) {i j : Nat} (hi : i ≤ n) (hj : j ≤ n) (c : Int) {a b : Nat} (ha : a ≤ n) (hb : b ≤ n) : mat n (limL n l i j c) a b = if a = i ∧ b = j then min (mat n l i j) c else mat n l a b := by
  have hp : i * (n + 1) + j < l.length := by rw [hl]; exact place_lt hi hj
  by_cases e : a = i ∧ b = j
  · obtain ⟨rfl, rfl⟩ := e
    rw [if_pos ⟨rfl, rfl⟩]
    unfold mat limL
    simp [List.getD, hp]
  · rw [if_neg e]
    have hne : i * (n + 1) + j ≠ a * (n + 1) + b := by
      intro h
      have h1 := congrArg (fun x => x % (n + 1)) h
      have h2 := congrArg (fun x => x / (n + 1)) h
      simp only [place_mod hj, place_mod hb] at h1
      simp only [place_div hj, place_div hb] at h2
      exact e ⟨h2.symm, h1.symm⟩
    unfold mat limL
    simp [List.getD, List.getElem?_set, hne]
/-- A zone with valuations lies in another. -/
def Lies (n : Nat) (D A : List Int) : Prop := A ≠ [] ∧ Leq n (mat n D) (mat n A)
theorem lies_ext {n : Nat} {A B : List Int} (hA : IsZ n A) (hB : IsZ n B) (h : ∀ D, Full n D → (Lies n D A ↔ Lies n D B)) : A = B := by
  rcases hA.2 with eA | fA
  · rcases hB.2 with eB | fB
    · rw [eA, eB]
    · have := ((h B fB).2 ⟨fB.ne, fun i j _ _ => Int.le_refl _⟩).1
      exact absurd eA this
  · have h1 := (h A fA).1 ⟨fA.ne, fun i j _ _ => Int.le_refl _⟩
    have fB := hB.2.resolve_left h1.1
    have h2 := (h B fB).2 ⟨fB.ne, fun i j _ _ => Int.le_refl _⟩
    exact mat_ext fA.len fB.len (fun i j hi hj => Int.le_antisymm (h1.2 i j hi hj) (h2.2 i j hi hj))
theorem full_in {n : Nat} {D : List Int} (hD : Full n D) {i j : Nat} (hi : i ≤ n) (hj : j ≤ n) : mat n D i j ≤ widestF i j ∧ -2199023255552 ≤ mat n D i j := by
  have a := hD.up hi hj
  have b := hD.low hi hj
  have c := widestF_le j i
  omega
theorem lies_step {n : Nat} {D X : List Int} (hD : Full n D) (hX : IsZ n X) (f : List Int → List Int) (P : Prop) (hf : X ≠ [] → ((∀ i j, i ≤ n → j ≤ n → mat n D i j ≤ mat n (f X) i j) ↔ Leq n (mat n D) (mat n X) ∧ P)) : Lies n D (stepL n f X) ↔ Lies n D X ∧ P := by
  unfold stepL
  by_cases e : X = []
  · rw [if_pos e]
    constructor
    · intro h; exact absurd rfl h.1
    · intro h; exact absurd e h.1.1
  · rw [if_neg e]
    have hc : Leq n (mat n D) (mat n (clipL n (f X))) ↔ ∀ i j, i ≤ n → j ≤ n → mat n D i j ≤ mat n (f X) i j := by
      constructor
      · intro h i j hi hj
        have a := h i j hi hj
        unfold clipL at a
        rw [mat_matL _ hi hj] at a
        unfold clipF at a
        have := full_in hD hi hj
        omega
      · intro h i j hi hj
        have a := h i j hi hj
        have := full_in hD hi hj
        unfold clipL
        rw [mat_matL _ hi hj]
        unfold clipF
        omega
    constructor
    · intro h
      obtain ⟨-, -, h5⟩ := closedL_is h.1
      obtain ⟨q1, q2⟩ := (hf e).1 (hc.1 (fun i j hi hj => Int.le_trans (h.2 i j hi hj) (h5 i j hi hj)))
      exact ⟨⟨e, q1⟩, q2⟩
    · rintro ⟨⟨-, h1⟩, h2⟩
      obtain ⟨q1, q2⟩ := closedL_max hD.closed (hc.2 ((hf e).2 ⟨h1, h2⟩))
      exact ⟨closedL_ne q1, q2⟩
theorem lim_leq {n : Nat} {D l : List Int} (hl : l.length = sz n) {i j : Nat} (hi : i ≤ n) (hj : j ≤ n) (c : Int) : (∀ a b, a ≤ n → b ≤ n → mat n D a b ≤ mat n (limL n l i j c) a b) ↔ Leq n (mat n D) (mat n l) ∧ mat n D i j ≤ c := by
  constructor
  · intro h
    refine ⟨fun a b ha hb => ?_, ?_⟩
    · have q := h a b ha hb
      rw [limL_at hl hi hj c ha hb] at q
      split at q
      · rename_i e; obtain ⟨rfl, rfl⟩ := e; omega
      · exact q
    · have q := h i j hi hj
      rw [limL_at hl hi hj c hi hj, if_pos ⟨rfl, rfl⟩] at q
      omega
  · rintro ⟨h1, h2⟩ a b ha hb
    have q := h1 a b ha hb
    rw [limL_at hl hi hj c ha hb]
    split
    · rename_i e; obtain ⟨rfl, rfl⟩ := e; omega
    · exact q
theorem lies_limit {n : Nat} {D X : List Int} (hD : Full n D) (hX : IsZ n X) {i j : Nat} (hi : i ≤ n) (hj : j ≤ n) (c : Int) : Lies n D (limitL n X i j c) ↔ Lies n D X ∧ mat n D i j ≤ c :=
  lies_step hD hX _ _ (fun e => lim_leq (hX.2.resolve_left e).len hi hj c)
theorem lies_tie {n : Nat} {D X : List Int} (hD : Full n D) (hX : IsZ n X) {i j : Nat} (hi : i ≤ n) (hj : j ≤ n) (c : Int) : Lies n D (stepL n (fun l => tieL n l i j c) X) ↔ Lies n D X ∧ mat n D i j ≤ c ∧ mat n D j i ≤ -c :=
  lies_step hD hX _ _ (fun e => by
    have hl := (hX.2.resolve_left e).len
    show (∀ a b, a ≤ n → b ≤ n → mat n D a b ≤ mat n (limL n (limL n X i j c) j i (-c)) a b) ↔ _
    rw [lim_leq (by rw [limL_len, hl]) hj hi (-c), ← and_assoc]
    refine and_congr_left fun _ => ?_
    exact lim_leq hl hi hj c)
/-- Let of another variable: the program's way and the document's. -/
theorem tie_both {n : Nat} (hn : n ≤ 8) (l : List Int) {i j : Nat} (hi : i ≤ n) (hj : j ≤ n) (c : Int) : letTieL n l i j c = limitL n (limitL n (forgetL n l i) i j c) j i (-c) := by
  have hX : IsZ n (forgetL n l i) := stepL_isz hn _ _
  have hY : IsZ n (limitL n (forgetL n l i) i j c) := stepL_isz hn _ _
  refine lies_ext (stepL_isz hn _ _) (stepL_isz hn _ _) (fun D hD => ?_)
  rw [lies_limit hD hY hj hi, lies_limit hD hX hi hj, and_assoc]
  exact lies_tie hD hX hi hj c
/-- A number further off than two variables may lie makes nothing. -/
theorem tie_far {n : Nat} (hn : n ≤ 8) (l : List Int) {i j : Nat} (hi : i ≤ n) (hj : j ≤ n) (c : Int) (hc : 2199023255552 < c ∨ c < -2199023255552) : letTieL n l i j c = [] := by
  have hX : IsZ n (forgetL n l i) := stepL_isz hn _ _
  have hA : IsZ n (letTieL n l i j c) := stepL_isz hn _ _
  rcases hA.2 with e | fA
  · exact e
  · have h := (lies_tie fA hX hi hj c).1 ⟨fA.ne, fun a b _ _ => Int.le_refl _⟩
    have h1 := full_in fA hi hj
    have h2 := full_in fA hj hi
    have h3 := widestF_le i j
    have h4 := widestF_le j i
    obtain ⟨-, r1, r2⟩ := h
    omega
end Go.Proofs.YtplgmmjppmpnoaaDoor
/- Zones changed: Let, the program's and the document's. -/
namespace Go.Proofs.YtplgmmjppmpnoaaDoor
open Go.RowKit
set_option linter.unusedVariables false
set_option linter.unusedSimpArgs false

theorem mov_far {n : Nat} {l : List Int} (hz : IsZ n l) {i : Nat} (hi0 : 1 ≤ i) (hi : i ≤ n) (c : Int) (hc : 2199023255552 < c ∨ c < -2199023255552) : letMovL n l i c = [] := by
  unfold letMovL stepL
  split
  · rfl
  · rename_i hne
    have hF := hz.2.resolve_left hne
    by_cases e : closedL n (movL n l i c) = []
    · exact e
    · have fA := closed_full hF.le e
      obtain ⟨-, -, h5⟩ := closedL_is e
      have hlen : l.length = (n + 1) * (n + 1) := hF.len
      have a1 := h5 i 0 hi (Nat.zero_le n)
      have a2 := h5 0 i (Nat.zero_le n) hi
      unfold clipL at a1 a2
      rw [mat_matL _ hi (Nat.zero_le n)] at a1
      rw [mat_matL _ (Nat.zero_le n) hi] at a2
      unfold clipF at a1 a2
      rw [show mat n (movL n l i c) i 0 = _ from othK_at (F := fun x => x + c) (G := fun x => x - c) hi hlen (n + 1) (by omega) i 0 hi (Nat.zero_le n), if_pos (by omega)] at a1
      rw [show mat n (movL n l i c) 0 i = _ from othK_at (F := fun x => x + c) (G := fun x => x - c) hi hlen (n + 1) (by omega) 0 i (Nat.zero_le n) hi, if_neg (by omega), if_pos (by omega)] at a2
      have b1 := fA.low hi (Nat.zero_le n)
      have b2 := fA.low (Nat.zero_le n) hi
      have c1 := hF.up hi (Nat.zero_le n)
      have c2 := hF.up (Nat.zero_le n) hi
      have w1 : widestF i 0 = 1099511627776 := by unfold widestF; rw [if_neg (by omega), if_pos (by omega)]
      have w2 : widestF 0 i = 1099511627776 := by unfold widestF; rw [if_neg (by omega), if_pos (by omega)]
      omega
/-- A variable that is another one and a number, or itself and a number. -/
def letL (n : Nat) (l : List Int) (i j : Nat) (c : Int) : List Int := if i = j then letMovL n l i c else letTieL n l i j c
theorem letL_isz {n : Nat} (hn : n ≤ 8) (l : List Int) (i j : Nat) (c : Int) : IsZ n (letL n l i j c) := by
  unfold letL
  split
  · exact stepL_isz hn _ _
  · exact stepL_isz hn _ _
theorem letL_far {n : Nat} {l : List Int} (hz : IsZ n l) {i j : Nat} (hi0 : 1 ≤ i) (hi : i ≤ n) (hj : j ≤ n) (c : Int) (hc : 2199023255552 < c ∨ c < -2199023255552) : letL n l i j c = [] := by
  unfold letL
  split
  · exact mov_far hz hi0 hi c hc
  · exact tie_far hz.1 l hi hj c hc
theorem letL_nil (n i j : Nat) (c : Int) : letL n [] i j c = [] := by
  unfold letL letMovL letTieL stepL
  simp
theorem zlet_ok (n : Nat) (l : List Int) (hz : IsZ n l) (i j : Nat) (hi0 : 1 ≤ i) (hi : i ≤ n) (hj : j ≤ n) (c : Int) (a : Option Addr) (m ca : Nat) (w : World) (h : SL w a m ca l) : Calls Tryd.prog 46 #[.agg #[.int .i64 n, .slice a m ca], .int .i64 i, .int .i64 j, .int .i64 c] w (ZoneE n (letL n l i j c) 0 w) := by
  by_cases hij : i = j
  · subst hij
    by_cases h1 : c ≤ -4398046511104
    · have := zlet_mov_lo n l hz i hi0 hi c a m ca w h h1
      rw [mov_far hz hi0 hi _ (by omega)] at this
      rw [letL_far hz hi0 hi hj c (by omega)]
      exact this
    · by_cases h2 : 4398046511104 ≤ c
      · have := zlet_mov_hi n l hz i hi0 hi c a m ca w h h2
        rw [mov_far hz hi0 hi _ (by omega)] at this
        rw [letL_far hz hi0 hi hj c (by omega)]
        exact this
      · unfold letL
        rw [if_pos rfl]
        exact zlet_mov_in n l hz i hi0 hi c a m ca w h (by omega) (by omega)
  · by_cases h1 : c ≤ -4398046511104
    · have := zlet_tie_lo n l hz i j hi0 hi hj c a m ca w h hij h1
      rw [tie_far hz.1 l hi hj _ (by omega)] at this
      rw [letL_far hz hi0 hi hj c (by omega)]
      exact this
    · by_cases h2 : 4398046511104 ≤ c
      · have := zlet_tie_hi n l hz i j hi0 hi hj c a m ca w h hij h2
        rw [tie_far hz.1 l hi hj _ (by omega)] at this
        rw [letL_far hz hi0 hi hj c (by omega)]
        exact this
      · unfold letL
        rw [if_neg hij]
        exact zlet_tie_in n l hz i j hi0 hi hj c a m ca w h hij (by omega) (by omega)
theorem rlet_any (n : Nat) (l : List Int) (hz : IsZ n l) (i j : Nat) (hi0 : 1 ≤ i) (hi : i ≤ n) (hj : j ≤ n) (c : Int) (a : Option Addr) (m ca : Nat) (w : World) (h : SL w a m ca l) : Calls Tryd.prog 22 #[.agg #[.int .i64 n, .slice a m ca], .int .i64 i, .int .i64 j, .int .i64 c] w (ZoneN n (letL n l i j c) w) := by
  have hm : m ≤ 81 := by have := hz.small; rw [h.len]; exact this
  by_cases hc : 2199023255552 < c ∨ c < -2199023255552
  · rw [letL_far hz hi0 hi hj c hc]
    exact rlet_far n i j c a m ca w (by omega) (by omega)
  · rcases hz.2 with e | hF
    · have hm0 : m = 0 := by rw [h.len, e]; rfl
      rw [e, letL_nil]
      exact rlet_far n i j c a m ca w (by omega) (by omega)
    · by_cases hij : i = j
      · subst hij
        unfold letL letMovL stepL
        rw [if_pos rfl, if_neg hF.ne]
        exact rlet_eq n l hF i hi c (by omega) (by omega) a m ca w h
      · unfold letL
        rw [if_neg hij, tie_both hF.le l hi hj c]
        exact rlet_ne n l hF i j hi hj hij c (by omega) (by omega) a m ca w h
end Go.Proofs.YtplgmmjppmpnoaaDoor
/- ZoneTwo: the walk of the statement's function. (Written by gen-zone-two.py.) -/
namespace Go.Proofs.YtplgmmjppmpnoaaDoor
open Go.RowKit
set_option linter.unusedVariables false
set_option linter.unusedSimpArgs false

theorem zrnil (w : World) (a : Option Addr) (c : Nat) (h : SL w a 0 c []) : Calls Tryd.prog 9 #[.agg #[.int .i64 0, .slice a 0 c], .agg #[.int .i64 0, .slice none 0 0]] w (Gives (.bool true) w) := by
  have := rsame_any 0 0 a none [] [] 0 0 c 0 w h (SL.nil w)
  simpa using this
theorem zrself (n : Int) (a1 a2 : Option Addr) (l : List Int) (m1 m2 c1 c2 : Nat) (w : World) (h1 : SL w a1 m1 c1 l) (h2 : SL w a2 m2 c2 l) :
    Calls Tryd.prog 9 #[.agg #[.int .i64 n, .slice a1 m1 c1], .agg #[.int .i64 n, .slice a2 m2 c2]] w (Gives (.bool true) w) := by
  have := rsame_any n n a1 a2 l l m1 m2 c1 c2 w h1 h2
  simpa using this
theorem meetL_small {n : Nat} {l1 l2 : List Int} (z1 : IsZ n l1) (z2 : IsZ n l2) : (meetL n l1 l2).length ≤ 81 := by
  unfold meetL
  split
  · simp
  · split
    · simp
    · exact closed_small z1.1 _
theorem joinL_small {n : Nat} {l1 l2 : List Int} (z1 : IsZ n l1) (z2 : IsZ n l2) : (joinL n l1 l2).length ≤ 81 := by
  unfold joinL
  split
  · exact z2.small
  · split
    · exact z1.small
    · exact closed_small z1.1 _
theorem widenL_small {n : Nat} {l1 l2 : List Int} (z1 : IsZ n l1) (z2 : IsZ n l2) : (widenL n l1 l2).length ≤ 81 := by
  unfold widenL
  split
  · exact z2.small
  · split
    · exact z1.small
    · exact closed_small z1.1 _
end Go.Proofs.YtplgmmjppmpnoaaDoor
/- ZoneLeast: joins and meets as bounds; points. Plain lists. -/
namespace Go.Proofs.YtplgmmjppmpnoaaDoor
open Go.RowKit
set_option linter.unusedVariables false
set_option linter.unusedSimpArgs false

theorem leqB_iff {n : Nat} {l1 l2 : List Int} (h1 : Full n l1) (h2 : Full n l2) : leqB l1 l2 = true ↔ Leq n (mat n l1) (mat n l2) := by
  unfold leqB
  rw [if_neg h1.ne, if_neg h2.ne, List.all_eq_true]
  constructor
  · intro h i j hi hj
    have := h (i * (n + 1) + j) (List.mem_range.2 (by rw [h1.len]; exact place_lt hi hj))
    exact of_decide_eq_true this
  · intro h t ht
    rw [List.mem_range, h1.len] at ht
    obtain ⟨q1, q2, q3⟩ := place_of ht
    have := h _ _ q1 q2
    unfold mat at this
    rw [q3] at this
    exact decide_eq_true this
theorem leqB_nil (l : List Int) : leqB [] l = true := by unfold leqB; rw [if_pos rfl]
theorem leqB_none {l : List Int} (h : l ≠ []) : leqB l [] = false := by unfold leqB; rw [if_neg h, if_pos rfl]
theorem pw_mat {n : Nat} {F : Int → Int → Int} {l1 l2 : List Int} (h1 : Full n l1) {i j : Nat} (hi : i ≤ n) (hj : j ≤ n) : mat n (pw F l1 l2) i j = F (mat n l1 i j) (mat n l2 i j) := by
  unfold mat
  exact pw_at F l1 l2 (by rw [h1.len]; exact place_lt hi hj)
theorem join_full {n : Nat} {l1 l2 : List Int} (h1 : Full n l1) (h2 : Full n l2) : closedL n (pw max l1 l2) = pw max l1 l2 := by
  refine closedL_fix (by rw [pw_len]; exact h1.len) ⟨fun i hi => ?_, fun i j k hi hj hk => ?_⟩ (fun i j hi hj => ?_)
  · rw [pw_mat h1 hi hi, h1.closed.zero i hi, h2.closed.zero i hi]; rfl
  · rw [pw_mat h1 hi hj, pw_mat h1 hi hk, pw_mat h1 hk hj]
    have a := h1.closed.tri i j k hi hj hk
    have b := h2.closed.tri i j k hi hj hk
    omega
  · rw [pw_mat h1 hi hj]
    have a := h1.up hi hj
    have b := h2.up hi hj
    omega
theorem join_is {n : Nat} {l1 l2 : List Int} (h1 : Full n l1) (h2 : Full n l2) : Full n (pw max l1 l2) := by
  have e := join_full h1 h2
  have hl : (pw max l1 l2).length = sz n := by rw [pw_len]; exact h1.len
  exact ⟨h1.le, hl, by intro q; rw [q] at hl; have := sz_pos n; exact this hl.symm, e.symm⟩
theorem joinL_isz {n : Nat} {l1 l2 : List Int} (z1 : IsZ n l1) (z2 : IsZ n l2) : IsZ n (joinL n l1 l2) := by
  unfold joinL
  split
  · exact z2
  · rename_i e1
    split
    · exact z1
    · rename_i e2
      rw [join_full (z1.2.resolve_left e1) (z2.2.resolve_left e2)]
      exact ⟨z1.1, .inr (join_is (z1.2.resolve_left e1) (z2.2.resolve_left e2))⟩
theorem meetL_isz {n : Nat} {l1 l2 : List Int} (z1 : IsZ n l1) (z2 : IsZ n l2) : IsZ n (meetL n l1 l2) := by
  unfold meetL
  split
  · exact ⟨z1.1, .inl rfl⟩
  · split
    · exact ⟨z1.1, .inl rfl⟩
    · by_cases h : closedL n (pw min l1 l2) = []
      · exact ⟨z1.1, .inl h⟩
      · exact ⟨z1.1, .inr (closed_full z1.1 h)⟩
theorem leq_join {n : Nat} {l1 l2 l3 : List Int} (z1 : IsZ n l1) (z2 : IsZ n l2) (z3 : IsZ n l3) : leqB (joinL n l1 l2) l3 = (leqB l1 l3 && leqB l2 l3) := by
  unfold joinL
  split
  · rename_i e; rw [e, leqB_nil, Bool.true_and]
  · rename_i e1
    split
    · rename_i e2; rw [e2, leqB_nil, Bool.and_true]
    · rename_i e2
      have h1 := z1.2.resolve_left e1
      have h2 := z2.2.resolve_left e2
      rw [join_full h1 h2]
      by_cases e3 : l3 = []
      · rw [e3, leqB_none (join_is h1 h2).ne, leqB_none e1, Bool.false_and]
      · have h3 := z3.2.resolve_left e3
        rw [Bool.eq_iff_iff, Bool.and_eq_true, leqB_iff (join_is h1 h2) h3, leqB_iff h1 h3, leqB_iff h2 h3]
        constructor
        · intro h
          constructor
          · intro i j hi hj
            have := h i j hi hj
            rw [pw_mat h1 hi hj] at this
            omega
          · intro i j hi hj
            have := h i j hi hj
            rw [pw_mat h1 hi hj] at this
            omega
        · rintro ⟨ha, hb⟩ i j hi hj
          rw [pw_mat h1 hi hj]
          have a := ha i j hi hj
          have b := hb i j hi hj
          omega
theorem leq_meet {n : Nat} {l1 l2 l3 : List Int} (z1 : IsZ n l1) (z2 : IsZ n l2) (z3 : IsZ n l3) : leqB l3 (meetL n l1 l2) = (leqB l3 l1 && leqB l3 l2) := by
  by_cases e3 : l3 = []
  · rw [e3, leqB_nil, leqB_nil, leqB_nil]; rfl
  have h3 := z3.2.resolve_left e3
  unfold meetL
  split
  · rename_i e; rw [e, leqB_none e3, Bool.false_and]
  · rename_i e1
    split
    · rename_i e2; rw [e2, leqB_none e3, Bool.and_false]
    · rename_i e2
      have h1 := z1.2.resolve_left e1
      have h2 := z2.2.resolve_left e2
      have hclip : ∀ D : Nat → Nat → Int, (∀ i j, i ≤ n → j ≤ n → D i j ≤ widestF i j ∧ -2199023255552 ≤ D i j) → (Leq n D (mat n (clipL n (pw min l1 l2))) ↔ Leq n D (mat n l1) ∧ Leq n D (mat n l2)) := by
        intro D hD
        constructor
        · intro h
          constructor
          · intro i j hi hj
            have a := h i j hi hj
            unfold clipL at a
            rw [mat_matL _ hi hj] at a
            have b := hD i j hi hj
            unfold clipF at a
            rw [pw_mat h1 hi hj] at a
            omega
          · intro i j hi hj
            have a := h i j hi hj
            unfold clipL at a
            rw [mat_matL _ hi hj] at a
            have b := hD i j hi hj
            unfold clipF at a
            rw [pw_mat h1 hi hj] at a
            omega
        · rintro ⟨ha, hb⟩ i j hi hj
          have a := ha i j hi hj
          have b := hb i j hi hj
          have c := hD i j hi hj
          unfold clipL
          rw [mat_matL _ hi hj]
          unfold clipF
          rw [pw_mat h1 hi hj]
          omega
      have hD3 : ∀ i j, i ≤ n → j ≤ n → mat n l3 i j ≤ widestF i j ∧ -2199023255552 ≤ mat n l3 i j := fun i j hi hj => by
        have a := h3.up hi hj
        have b := h3.low hi hj
        have c := widestF_le j i
        omega
      rw [Bool.eq_iff_iff, Bool.and_eq_true, leqB_iff h3 h1, leqB_iff h3 h2]
      constructor
      · intro h
        have hne : closedL n (pw min l1 l2) ≠ [] := by
          intro e; rw [e, leqB_none e3] at h; cases h
        have hM := closed_full z1.1 hne
        rw [leqB_iff h3 hM] at h
        obtain ⟨-, -, h5⟩ := closedL_is hne
        exact (hclip _ hD3).1 (fun i j hi hj => Int.le_trans (h i j hi hj) (h5 i j hi hj))
      · intro h
        obtain ⟨q1, q2⟩ := closedL_max h3.closed ((hclip _ hD3).2 h)
        have hM := closed_full z1.1 (closedL_ne q1)
        exact (leqB_iff h3 hM).2 q2
theorem leq_points {n : Nat} {l1 l3 : List Int} (h1 : Full n l1) (h3 : Full n l3) : leqB l1 l3 = (List.range (n + 1)).all fun k => hasB n l3 (pointL n l1 k) := by
  have ht : (((n : Nat) : Int)).toNat = n := by omega
  have hh : ∀ k, k ≤ n → (hasB n l3 (pointL n l1 k) = true ↔ Leq n (difF (pointL n l1 k)) (mat n l3)) := by
    intro k hk
    unfold hasB
    rw [h3.is, point_len, ht, point_near h1 hk, decide_eq_true rfl, Bool.true_and, Bool.true_and, Bool.not_false, Bool.true_and, cells_iff]
  rw [Bool.eq_iff_iff, leqB_iff h1 h3, List.all_eq_true]
  constructor
  · intro h k hk
    rw [List.mem_range] at hk
    rw [hh k (by omega)]
    intro i j hi hj
    unfold difF
    rw [point_at h1 hi (by omega), point_at h1 hj (by omega)]
    have a := h i j hi hj
    have b := h1.closed.tri i k j hi (by omega) hj
    omega
  · intro h i j hi hj
    have a := (hh j hj).1 (h j (List.mem_range.2 (by omega))) i j hi hj
    unfold difF at a
    rw [point_at h1 hi hj, point_at h1 hj hj, h1.closed.zero j hj] at a
    omega
end Go.Proofs.YtplgmmjppmpnoaaDoor
