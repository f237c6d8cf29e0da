/- Zones changed: check, Limit, Forget, Let. (Written by gen-zone-limit.py.) -/
import Derived.Test.YtacbkddkjlnklaaZoneChange
namespace Go.Proofs.Ytacbkddkjlnklaa
open Go.RowKit
set_option linter.unusedVariables false
set_option linter.unusedSimpArgs false

theorem full_near {n : Nat} {l : List Int} (hF : Full n l) {p : Nat} (hp : p < sz n) : -2199023255552 ≤ l.getD p 0 ∧ l.getD p 0 ≤ 2199023255552 := by
  obtain ⟨q1, q2, q3⟩ := place_of hp
  have e : l.getD p 0 = mat n l (p / (n + 1)) (p % (n + 1)) := by unfold mat; rw [q3]
  have h1 := hF.up q1 q2
  have h2 := hF.low q1 q2
  have h3 := widestF_le (p / (n + 1)) (p % (n + 1))
  have h4 := widestF_le (p % (n + 1)) (p / (n + 1))
  omega
/-- What is wrong with a zone, or the numbers of its variables. -/
def chkE (n : Int) (l : List Int) (least i j : Int) : Int := if checkB n l = false then 80 else if i < least ∨ n < i ∨ j < 0 ∨ n < j then 1 else 0
theorem zcheck_bad (n least i j : Int) (a : Option Addr) (m c : Nat) (l : List Int) (w : World) (h : SL w a m c l) (hk : checkB n l = false) : Calls Try.prog 55 #[.agg #[.int .i64 n, .slice a m c], .int .i64 least, .int .i64 i, .int .i64 j] w (Gives (.int .i64 80) w) := by
  obtain ⟨W1, hW1⟩ : ∃ W1, W1 = w.alloc (.cells #[.int .i64 n, .slice a m c] 24) := ⟨_, rfl⟩
  have hB : Below w.heap.size w W1 := by rw [hW1]; exact box_below _ _ _
  have Z1 : ZH W1 w.heap.size (.int .i64 n) (.slice a m c) := by rw [hW1]; exact Holds.new w _ _
  have q1 := Lib.hid (dcheck_any n a m c l W1 (h.below hB))
  have hW1' := Lib.hid hW1
  have hB' := Lib.hid hB
  have Z1' := Lib.hid Z1
  clear hW1 hB Z1 h
  rw [show chk n l = 80 by unfold chk; rw [hk]; rfl] at q1
  clear hk
  go_enter Try.func55, Try.ntmps55
  go_wp2_with fail
  rw [← hW1'.out]
  refine q1.out.mono ?_
  rintro e w2 ⟨rfl, b2⟩
  have k0 := (Z1'.out.below b2 Z1'.out.lt).cell 0
  have bl := Lib.hid (hB'.out.trans (b2.mono hB'.out.size))
  clear b2 q1 Z1' hW1'
  go_wp2
  go_ret
  exact ⟨rfl, bl.out⟩
theorem zcheck_c0 (n least i j : Int) (a : Option Addr) (m c : Nat) (l : List Int) (w : World) (h : SL w a m c l) (hk : checkB n l = true) (d1 : i < least) : Calls Try.prog 55 #[.agg #[.int .i64 n, .slice a m c], .int .i64 least, .int .i64 i, .int .i64 j] w (Gives (.int .i64 1) w) := by
  obtain ⟨W1, hW1⟩ : ∃ W1, W1 = w.alloc (.cells #[.int .i64 n, .slice a m c] 24) := ⟨_, rfl⟩
  have hB : Below w.heap.size w W1 := by rw [hW1]; exact box_below _ _ _
  have Z1 : ZH W1 w.heap.size (.int .i64 n) (.slice a m c) := by rw [hW1]; exact Holds.new w _ _
  have q1 := Lib.hid (dcheck_any n a m c l W1 (h.below hB))
  have hW1' := Lib.hid hW1
  have hB' := Lib.hid hB
  have Z1' := Lib.hid Z1
  clear hW1 hB Z1 h
  rw [show chk n l = 0 by unfold chk; rw [hk]; rfl] at q1
  clear hk
  go_enter Try.func55, Try.ntmps55
  go_wp2_with fail
  rw [← hW1'.out]
  refine q1.out.mono ?_
  rintro e w2 ⟨rfl, b2⟩
  have k0 := (Z1'.out.below b2 Z1'.out.lt).cell 0
  have bl := Lib.hid (hB'.out.trans (b2.mono hB'.out.size))
  clear b2 q1 Z1' hW1'
  go_wp2
  go_ret
  exact ⟨rfl, bl.out⟩
theorem zcheck_c1 (n least i j : Int) (a : Option Addr) (m c : Nat) (l : List Int) (w : World) (h : SL w a m c l) (hk : checkB n l = true) (d1 : ¬ i < least) (d2 : n < i) : Calls Try.prog 55 #[.agg #[.int .i64 n, .slice a m c], .int .i64 least, .int .i64 i, .int .i64 j] w (Gives (.int .i64 1) w) := by
  obtain ⟨W1, hW1⟩ : ∃ W1, W1 = w.alloc (.cells #[.int .i64 n, .slice a m c] 24) := ⟨_, rfl⟩
  have hB : Below w.heap.size w W1 := by rw [hW1]; exact box_below _ _ _
  have Z1 : ZH W1 w.heap.size (.int .i64 n) (.slice a m c) := by rw [hW1]; exact Holds.new w _ _
  have q1 := Lib.hid (dcheck_any n a m c l W1 (h.below hB))
  have hW1' := Lib.hid hW1
  have hB' := Lib.hid hB
  have Z1' := Lib.hid Z1
  clear hW1 hB Z1 h
  rw [show chk n l = 0 by unfold chk; rw [hk]; rfl] at q1
  clear hk
  go_enter Try.func55, Try.ntmps55
  go_wp2_with fail
  rw [← hW1'.out]
  refine q1.out.mono ?_
  rintro e w2 ⟨rfl, b2⟩
  have k0 := (Z1'.out.below b2 Z1'.out.lt).cell 0
  have bl := Lib.hid (hB'.out.trans (b2.mono hB'.out.size))
  clear b2 q1 Z1' hW1'
  go_wp2
  go_ret
  exact ⟨rfl, bl.out⟩
theorem zcheck_c2 (n least i j : Int) (a : Option Addr) (m c : Nat) (l : List Int) (w : World) (h : SL w a m c l) (hk : checkB n l = true) (d1 : ¬ i < least) (d2 : ¬ n < i) (d3 : j < 0) : Calls Try.prog 55 #[.agg #[.int .i64 n, .slice a m c], .int .i64 least, .int .i64 i, .int .i64 j] w (Gives (.int .i64 1) w) := by
  obtain ⟨W1, hW1⟩ : ∃ W1, W1 = w.alloc (.cells #[.int .i64 n, .slice a m c] 24) := ⟨_, rfl⟩
  have hB : Below w.heap.size w W1 := by rw [hW1]; exact box_below _ _ _
  have Z1 : ZH W1 w.heap.size (.int .i64 n) (.slice a m c) := by rw [hW1]; exact Holds.new w _ _
  have q1 := Lib.hid (dcheck_any n a m c l W1 (h.below hB))
  have hW1' := Lib.hid hW1
  have hB' := Lib.hid hB
  have Z1' := Lib.hid Z1
  clear hW1 hB Z1 h
  rw [show chk n l = 0 by unfold chk; rw [hk]; rfl] at q1
  clear hk
  go_enter Try.func55, Try.ntmps55
  go_wp2_with fail
  rw [← hW1'.out]
  refine q1.out.mono ?_
  rintro e w2 ⟨rfl, b2⟩
  have k0 := (Z1'.out.below b2 Z1'.out.lt).cell 0
  have bl := Lib.hid (hB'.out.trans (b2.mono hB'.out.size))
  clear b2 q1 Z1' hW1'
  go_wp2
  go_ret
  exact ⟨rfl, bl.out⟩
theorem zcheck_c3 (n least i j : Int) (a : Option Addr) (m c : Nat) (l : List Int) (w : World) (h : SL w a m c l) (hk : checkB n l = true) (d1 : ¬ i < least) (d2 : ¬ n < i) (d3 : ¬ j < 0) (d4 : n < j) : Calls Try.prog 55 #[.agg #[.int .i64 n, .slice a m c], .int .i64 least, .int .i64 i, .int .i64 j] w (Gives (.int .i64 1) w) := by
  obtain ⟨W1, hW1⟩ : ∃ W1, W1 = w.alloc (.cells #[.int .i64 n, .slice a m c] 24) := ⟨_, rfl⟩
  have hB : Below w.heap.size w W1 := by rw [hW1]; exact box_below _ _ _
  have Z1 : ZH W1 w.heap.size (.int .i64 n) (.slice a m c) := by rw [hW1]; exact Holds.new w _ _
  have q1 := Lib.hid (dcheck_any n a m c l W1 (h.below hB))
  have hW1' := Lib.hid hW1
  have hB' := Lib.hid hB
  have Z1' := Lib.hid Z1
  clear hW1 hB Z1 h
  rw [show chk n l = 0 by unfold chk; rw [hk]; rfl] at q1
  clear hk
  go_enter Try.func55, Try.ntmps55
  go_wp2_with fail
  rw [← hW1'.out]
  refine q1.out.mono ?_
  rintro e w2 ⟨rfl, b2⟩
  have k0 := (Z1'.out.below b2 Z1'.out.lt).cell 0
  have bl := Lib.hid (hB'.out.trans (b2.mono hB'.out.size))
  clear b2 q1 Z1' hW1'
  go_wp2
  go_ret
  exact ⟨rfl, bl.out⟩
theorem zcheck_ok (n least i j : Int) (a : Option Addr) (m c : Nat) (l : List Int) (w : World) (h : SL w a m c l) (hk : checkB n l = true) (d1 : ¬ i < least) (d2 : ¬ n < i) (d3 : ¬ j < 0) (d4 : ¬ n < j) : Calls Try.prog 55 #[.agg #[.int .i64 n, .slice a m c], .int .i64 least, .int .i64 i, .int .i64 j] w (Gives (.int .i64 0) w) := by
  obtain ⟨W1, hW1⟩ : ∃ W1, W1 = w.alloc (.cells #[.int .i64 n, .slice a m c] 24) := ⟨_, rfl⟩
  have hB : Below w.heap.size w W1 := by rw [hW1]; exact box_below _ _ _
  have Z1 : ZH W1 w.heap.size (.int .i64 n) (.slice a m c) := by rw [hW1]; exact Holds.new w _ _
  have q1 := Lib.hid (dcheck_any n a m c l W1 (h.below hB))
  have hW1' := Lib.hid hW1
  have hB' := Lib.hid hB
  have Z1' := Lib.hid Z1
  clear hW1 hB Z1 h
  rw [show chk n l = 0 by unfold chk; rw [hk]; rfl] at q1
  clear hk
  go_enter Try.func55, Try.ntmps55
  go_wp2_with fail
  rw [← hW1'.out]
  refine q1.out.mono ?_
  rintro e w2 ⟨rfl, b2⟩
  have k0 := (Z1'.out.below b2 Z1'.out.lt).cell 0
  have bl := Lib.hid (hB'.out.trans (b2.mono hB'.out.size))
  clear b2 q1 Z1' hW1'
  go_wp2
  go_ret
  exact ⟨rfl, bl.out⟩
theorem zcheck_any (n least i j : Int) (a : Option Addr) (m c : Nat) (l : List Int) (w : World) (h : SL w a m c l) : Calls Try.prog 55 #[.agg #[.int .i64 n, .slice a m c], .int .i64 least, .int .i64 i, .int .i64 j] w (Gives (.int .i64 (chkE n l least i j)) w) := by
  unfold chkE
  cases hk : checkB n l
  · rw [if_pos rfl]; exact zcheck_bad n least i j a m c l w h hk
  · rw [if_neg (by decide)]
    by_cases d1 : i < least
    · rw [if_pos (.inl d1)]; exact zcheck_c0 n least i j a m c l w h hk d1
    by_cases d2 : n < i
    · rw [if_pos (.inr (.inl d2))]; exact zcheck_c1 n least i j a m c l w h hk d1 d2
    by_cases d3 : j < 0
    · rw [if_pos (.inr (.inr (.inl d3)))]; exact zcheck_c2 n least i j a m c l w h hk d1 d2 d3
    by_cases d4 : n < j
    · rw [if_pos (.inr (.inr (.inr d4)))]; exact zcheck_c3 n least i j a m c l w h hk d1 d2 d3 d4
    · rw [if_neg (by omega)]; exact zcheck_ok n least i j a m c l w h hk d1 d2 d3 d4
theorem chkE_ok {n : Nat} {l : List Int} (hz : IsZ n l) {least i j : Int} (h1 : least ≤ i) (h2 : i ≤ n) (h3 : 0 ≤ j) (h4 : j ≤ n) : chkE n l least i j = 0 := by
  unfold chkE
  rw [hz.check, if_neg (by decide), if_neg (by omega)]
/-- Two blocks: a zone, and the answer's. -/
structure B1 (w W : World) (x y : Value) : Prop where
  bl : Below w.heap.size w W
  z1 : ZH W w.heap.size x y
  z2 : ZH W (w.heap.size + 1) (.int .i64 0) (.slice none 0 0)
theorem B1.on {w W W' : World} {x y : Value} (h : B1 w W x y) (hb : Below W.heap.size W W') : B1 w W' x y := ⟨h.bl.trans (hb.mono h.bl.size), h.z1.below hb h.z1.lt, h.z2.below hb h.z2.lt⟩
theorem b1_new (w : World) (x y : Value) : B1 w ((w.alloc (.cells #[x, y] 24)).alloc (.cells #[.int .i64 0, .slice none 0 0] 24)) x y := by
  refine ⟨box2_below _ _ _ _ _, (Holds.new w _ _).alloc _, ?_⟩
  have := Holds.new (w.alloc (.cells #[x, y] 24)) 24 #[.int .i64 0, .slice none 0 0]
  simpa using this
theorem fun_row (W : World) (t : TypeId) (cs : Array Value) : ∀ W', Below (W.alloc (.cells cs t)).heap.size (W.alloc (.cells cs t)) W' → ∀ k v, cs[k]? = some v → W'.cell? ⟨W.heap.size, k, none⟩ = some v := by
  intro W' hW' k v hk
  have := ((Holds.new W t cs).below hW' (by simp)).cell k
  rw [this, hk]
set_option maxRecDepth 100000 in
set_option maxHeartbeats 400000 in
theorem zlimit_bad (n i j c : Int) (a : Option Addr) (m ca : Nat) (l : List Int) (w : World) (h : SL w a m ca l) (hne : chkE n l 0 i j ≠ 0) : Calls Try.prog 21 #[.agg #[.int .i64 n, .slice a m ca], .int .i64 i, .int .i64 j, .int .i64 c] w (ZoneE 0 [] (chkE n l 0 i j) w) := by
  obtain ⟨W1, hW1⟩ : ∃ W1, W1 = (w.alloc (.cells #[.int .i64 n, .slice a m ca] 24)).alloc (.cells #[.int .i64 0, .slice none 0 0] 24) := ⟨_, rfl⟩
  have X1 : B1 w W1 (.int .i64 n) (.slice a m ca) := by rw [hW1]; exact b1_new _ _ _
  have q1 := Lib.hid (zcheck_any n 0 i j a m ca l W1 (h.below X1.bl))
  have hW1' := Lib.hid hW1
  have X1' := Lib.hid X1
  clear hW1 X1 h
  generalize chkE n l 0 i j = E at *
  have e1 : (E != 0) = true := by simpa using hne
  go_enter Try.func21, Try.ntmps21
  go_wp2_with fail
  rw [← hW1'.out]
  refine q1.out.mono ?_
  rintro e w2 ⟨rfl, b2⟩
  have X2 := Lib.hid (X1'.out.on b2)
  clear b2 X1' q1
  have y0 := X2.out.z2.cell 0
  have y1 := X2.out.z2.cell 1
  have f0 := X2.out.z2.free 0
  have f1 := X2.out.z2.free 1
  have hfin := Lib.hid (zone_none X2.out.bl (by omega) X2.out.z2 0 E)
  go_wp2
  exact zone_ret2 hfin.out.1 hfin.out.2.1 _ _ 8 9 rfl rfl rfl rfl
set_option maxRecDepth 100000 in
set_option maxHeartbeats 400000 in
theorem zforget_bad (n i : Int) (a : Option Addr) (m ca : Nat) (l : List Int) (w : World) (h : SL w a m ca l) (hne : chkE n l 1 i 0 ≠ 0) : Calls Try.prog 22 #[.agg #[.int .i64 n, .slice a m ca], .int .i64 i] w (ZoneE 0 [] (chkE n l 1 i 0) w) := by
  obtain ⟨W1, hW1⟩ : ∃ W1, W1 = (w.alloc (.cells #[.int .i64 n, .slice a m ca] 24)).alloc (.cells #[.int .i64 0, .slice none 0 0] 24) := ⟨_, rfl⟩
  have X1 : B1 w W1 (.int .i64 n) (.slice a m ca) := by rw [hW1]; exact b1_new _ _ _
  have q1 := Lib.hid (zcheck_any n 1 i 0 a m ca l W1 (h.below X1.bl))
  have hW1' := Lib.hid hW1
  have X1' := Lib.hid X1
  clear hW1 X1 h
  generalize chkE n l 1 i 0 = E at *
  have e1 : (E != 0) = true := by simpa using hne
  go_enter Try.func22, Try.ntmps22
  go_wp2_with fail
  rw [← hW1'.out]
  refine q1.out.mono ?_
  rintro e w2 ⟨rfl, b2⟩
  have X2 := Lib.hid (X1'.out.on b2)
  clear b2 X1' q1
  have y0 := X2.out.z2.cell 0
  have y1 := X2.out.z2.cell 1
  have f0 := X2.out.z2.free 0
  have f1 := X2.out.z2.free 1
  have hfin := Lib.hid (zone_none X2.out.bl (by omega) X2.out.z2 0 E)
  go_wp2
  exact zone_ret2 hfin.out.1 hfin.out.2.1 _ _ 4 5 rfl rfl rfl rfl
set_option maxRecDepth 100000 in
set_option maxHeartbeats 400000 in
theorem zlet_bad (n i j c : Int) (a : Option Addr) (m ca : Nat) (l : List Int) (w : World) (h : SL w a m ca l) (hne : chkE n l 1 i j ≠ 0) : Calls Try.prog 23 #[.agg #[.int .i64 n, .slice a m ca], .int .i64 i, .int .i64 j, .int .i64 c] w (ZoneE 0 [] (chkE n l 1 i j) w) := by
  obtain ⟨W1, hW1⟩ : ∃ W1, W1 = (w.alloc (.cells #[.int .i64 n, .slice a m ca] 24)).alloc (.cells #[.int .i64 0, .slice none 0 0] 24) := ⟨_, rfl⟩
  have X1 : B1 w W1 (.int .i64 n) (.slice a m ca) := by rw [hW1]; exact b1_new _ _ _
  have q1 := Lib.hid (zcheck_any n 1 i j a m ca l W1 (h.below X1.bl))
  have hW1' := Lib.hid hW1
  have X1' := Lib.hid X1
  clear hW1 X1 h
  generalize chkE n l 1 i j = E at *
  have e1 : (E != 0) = true := by simpa using hne
  go_enter Try.func23, Try.ntmps23
  go_wp2_with fail
  rw [← hW1'.out]
  refine q1.out.mono ?_
  rintro e w2 ⟨rfl, b2⟩
  have X2 := Lib.hid (X1'.out.on b2)
  clear b2 X1' q1
  have y0 := X2.out.z2.cell 0
  have y1 := X2.out.z2.cell 1
  have f0 := X2.out.z2.free 0
  have f1 := X2.out.z2.free 1
  have hfin := Lib.hid (zone_none X2.out.bl (by omega) X2.out.z2 0 E)
  go_wp2
  exact zone_ret2 hfin.out.1 hfin.out.2.1 _ _ 8 9 rfl rfl rfl rfl
def limitL (n : Nat) (l : List Int) (i j : Nat) (c : Int) : List Int := stepL n (fun l => limL n l i j c) l
set_option maxRecDepth 100000 in
set_option maxHeartbeats 400000 in
theorem zlimit_ok (n : Nat) (l : List Int) (hz : IsZ n l) (i j : Nat) (hi : i ≤ n) (hj : j ≤ n) (c : Int) (a : Option Addr) (m ca : Nat) (w : World) (h : SL w a m ca l)  : Calls Try.prog 21 #[.agg #[.int .i64 n, .slice a m ca], .int .i64 i, .int .i64 j, .int .i64 c] w (ZoneE n (limitL n l i j c) 0 w) := by
  obtain ⟨W1, hW1⟩ : ∃ W1, W1 = (w.alloc (.cells #[.int .i64 n, .slice a m ca] 24)).alloc (.cells #[.int .i64 0, .slice none 0 0] 24) := ⟨_, rfl⟩
  have X1 : B1 w W1 (.int .i64 n) (.slice a m ca) := by rw [hW1]; exact b1_new _ _ _
  have q1 := Lib.hid (zcheck_any n 0 i j a m ca l W1 (h.below X1.bl))
  rw [chkE_ok hz (by omega) (by omega) (by omega) (by omega)] at q1
  have hn := hz.1
  have hS := Lib.hid h
  have q2 := Lib.hid (fun W (hW : Below w.heap.size w W) => change_lim n hn l hz a m ca i j c (fun L g cap base W hF hl ho => by simpa using mlimit_any n hn i j hi hj c g cap base L hl W ho) (W.alloc (.cells #[.func (.func 57) #[] #[]] 73)) ((hS.out.below hW).below (box_below _ _ _)) W.heap.size (by simp) (fun W2 hW2 => fun_row _ _ _ W2 hW2 0 _ rfl))
  rw [show stepL n (fun l => limL n l ((i : Int)).toNat ((j : Int)).toNat c) l = limitL n l i j c from rfl] at q2
  have hW1' := Lib.hid hW1
  have X1' := Lib.hid X1
  have hbb := Lib.hid (fun (W : World) => box_below W #[.func (.func 57) #[] #[]] 73)
  clear hW1 X1 h hz
  generalize (limitL n l i j c) = R at *
  go_enter Try.func21, Try.ntmps21
  go_wp2_with fail
  rw [← hW1'.out]
  refine q1.out.mono ?_
  rintro e w2 ⟨rfl, b2⟩
  have X2 := Lib.hid (X1'.out.on b2)
  clear b2 X1' q1
  have k0 := X2.out.z1.cell 0
  have k1 := X2.out.z1.cell 1
  have kl := X2.out.z1.lt
  have p2 := Lib.hid (q2.out w2 X2.out.bl)
  go_wp2_with fail
  refine p2.out.mono ?_
  rintro e w7 ⟨a7, c7, rfl, hc7, s7, b7, nw7⟩
  have X3 := X2.out.on (hbb.out w2)
  have Zd := X3.z2.below b7 X3.z2.lt
  have y0 := Zd.cell 0
  have y1 := Zd.cell 1
  have f0 := Zd.free 0
  have f1 := Zd.free 1
  have hfin := Lib.hid (zone_put (n := n) (err := 0) X3.bl (by omega) X3.z2 hc7 s7 b7 nw7)
  clear Zd X3 p2
  go_wp2
  exact zone_ret2 hfin.out.1 hfin.out.2.1 _ _ 8 9 rfl rfl rfl rfl
def forgetL (n : Nat) (l : List Int) (i : Nat) : List Int := stepL n (fun l => forL n l i) l
set_option maxRecDepth 100000 in
set_option maxHeartbeats 400000 in
theorem zforget_ok (n : Nat) (l : List Int) (hz : IsZ n l) (i : Nat) (hi0 : 1 ≤ i) (hi : i ≤ n) (a : Option Addr) (m ca : Nat) (w : World) (h : SL w a m ca l)  : Calls Try.prog 22 #[.agg #[.int .i64 n, .slice a m ca], .int .i64 i] w (ZoneE n (forgetL n l i) 0 w) := by
  obtain ⟨W1, hW1⟩ : ∃ W1, W1 = (w.alloc (.cells #[.int .i64 n, .slice a m ca] 24)).alloc (.cells #[.int .i64 0, .slice none 0 0] 24) := ⟨_, rfl⟩
  have X1 : B1 w W1 (.int .i64 n) (.slice a m ca) := by rw [hW1]; exact b1_new _ _ _
  have q1 := Lib.hid (zcheck_any n 1 i 0 a m ca l W1 (h.below X1.bl))
  rw [chkE_ok hz (by omega) (by omega) (by omega) (by omega)] at q1
  have hn := hz.1
  have hS := Lib.hid h
  have q2 := Lib.hid (fun W (hW : Below w.heap.size w W) => change_for n hn l hz a m ca i 0 0 (fun L g cap base W hF hl ho => by simpa using mforget_any n hn i 0 hi (Nat.zero_le _) 0 (by omega) g cap base L hl W ho) (W.alloc (.cells #[.func (.func 58) #[] #[]] 73)) ((hS.out.below hW).below (box_below _ _ _)) W.heap.size (by simp) (fun W2 hW2 => fun_row _ _ _ W2 hW2 0 _ rfl))
  rw [show stepL n (fun l => forL n l ((i : Int)).toNat) l = forgetL n l i from rfl] at q2
  have hW1' := Lib.hid hW1
  have X1' := Lib.hid X1
  have hbb := Lib.hid (fun (W : World) => box_below W #[.func (.func 58) #[] #[]] 73)
  clear hW1 X1 h hz
  generalize (forgetL n l i) = R at *
  go_enter Try.func22, Try.ntmps22
  go_wp2_with fail
  rw [← hW1'.out]
  refine q1.out.mono ?_
  rintro e w2 ⟨rfl, b2⟩
  have X2 := Lib.hid (X1'.out.on b2)
  clear b2 X1' q1
  have k0 := X2.out.z1.cell 0
  have k1 := X2.out.z1.cell 1
  have kl := X2.out.z1.lt
  have p2 := Lib.hid (q2.out w2 X2.out.bl)
  go_wp2_with fail
  refine p2.out.mono ?_
  rintro e w7 ⟨a7, c7, rfl, hc7, s7, b7, nw7⟩
  have X3 := X2.out.on (hbb.out w2)
  have Zd := X3.z2.below b7 X3.z2.lt
  have y0 := Zd.cell 0
  have y1 := Zd.cell 1
  have f0 := Zd.free 0
  have f1 := Zd.free 1
  have hfin := Lib.hid (zone_put (n := n) (err := 0) X3.bl (by omega) X3.z2 hc7 s7 b7 nw7)
  clear Zd X3 p2
  go_wp2
  exact zone_ret2 hfin.out.1 hfin.out.2.1 _ _ 4 5 rfl rfl rfl rfl
def clampL (c : Int) : Int := max (-4398046511104) (min 4398046511104 c)
def letMovL (n : Nat) (l : List Int) (i : Nat) (c : Int) : List Int := stepL n (fun l => movL n l i c) l
def letTieL (n : Nat) (l : List Int) (i j : Nat) (c : Int) : List Int := stepL n (fun l => tieL n l i j c) (stepL n (fun l => forL n l i) l)
theorem full_all {n : Nat} {l : List Int} (hF : Full n l) (p : Nat) : -2199023255552 ≤ l.getD p 0 ∧ l.getD p 0 ≤ 2199023255552 := by
  by_cases hp : p < sz n
  · have := full_near hF hp; exact this
  · have e : l.getD p 0 = 0 := by simp only [List.getD]; rw [List.getElem?_eq_none (by rw [hF.len]; omega)]; rfl
    rw [e]; omega
set_option maxRecDepth 100000 in
set_option maxHeartbeats 400000 in
theorem zlet_mov_lo (n : Nat) (l : List Int) (hz : IsZ n l) (i : Nat) (hi0 : 1 ≤ i) (hi : i ≤ n) (c : Int) (a : Option Addr) (m ca : Nat) (w : World) (h : SL w a m ca l) (hc1 : c ≤ -4398046511104) : Calls Try.prog 23 #[.agg #[.int .i64 n, .slice a m ca], .int .i64 i, .int .i64 i, .int .i64 c] w (ZoneE n (letMovL n l i (-4398046511104)) 0 w) := by
  obtain ⟨W1, hW1⟩ : ∃ W1, W1 = (w.alloc (.cells #[.int .i64 n, .slice a m ca] 24)).alloc (.cells #[.int .i64 0, .slice none 0 0] 24) := ⟨_, rfl⟩
  have X1 : B1 w W1 (.int .i64 n) (.slice a m ca) := by rw [hW1]; exact b1_new _ _ _
  have q1 := Lib.hid (zcheck_any n 1 i i a m ca l W1 (h.below X1.bl))
  rw [chkE_ok hz (by omega) (by omega) (by omega) (by omega)] at q1
  have hn := hz.1
  have hS := Lib.hid h
  have q2 := Lib.hid (fun W (hW : Below w.heap.size w W) => change_mov n hn l hz a m ca i i (-4398046511104) (fun L g cap base W hF hl ho => by simpa using mmove_any n hn i i hi hi (-4398046511104) (by omega) g cap base L hl (full_all hF) W ho) (W.alloc (.cells #[.func (.func 59) #[] #[]] 73)) ((hS.out.below hW).below (box_below _ _ _)) W.heap.size (by simp) (fun W2 hW2 => fun_row _ _ _ W2 hW2 0 _ rfl))
  rw [show stepL n (fun l => movL n l ((i : Int)).toNat (-4398046511104)) l = letMovL n l i (-4398046511104) from rfl] at q2
  have hW1' := Lib.hid hW1
  have X1' := Lib.hid X1
  have hbb := Lib.hid (fun (W : World) => box_below W #[.func (.func 59) #[] #[]] 73)
  clear hW1 X1 h hz
  generalize (letMovL n l i (-4398046511104)) = R at *
  go_enter Try.func23, Try.ntmps23
  go_wp2_with fail
  rw [← hW1'.out]
  refine q1.out.mono ?_
  rintro e w2 ⟨rfl, b2⟩
  have X2 := Lib.hid (X1'.out.on b2)
  clear b2 X1' q1
  have k0 := X2.out.z1.cell 0
  have k1 := X2.out.z1.cell 1
  have kl := X2.out.z1.lt
  have hwb := Lib.hid (box_below w2 #[.int .i64 i, .int .i64 i, .int .i64 (-4398046511104)] 72)
  have X2b := Lib.hid (X2.out.on hwb.out)
  have p2 := Lib.hid (q2.out _ X2b.out.bl)
  rw [show (w2.alloc (.cells #[.int .i64 i, .int .i64 i, .int .i64 (-4398046511104)] 72)).heap.size = w2.heap.size + 1 by simp] at p2
  clear q2
  go_wp2_with fail
  refine p2.out.mono ?_
  rintro e w7 ⟨a7, c7, rfl, hc7, s7, b7, nw7⟩
  have X3 := X2b.out.on (hbb.out _)
  have Zd := X3.z2.below b7 X3.z2.lt
  have y0 := Zd.cell 0
  have y1 := Zd.cell 1
  have f0 := Zd.free 0
  have f1 := Zd.free 1
  have hfin := Lib.hid (zone_put (n := n) (err := 0) X3.bl (by omega) X3.z2 hc7 s7 b7 nw7)
  clear Zd X3 p2
  go_wp2
  exact zone_ret2 hfin.out.1 hfin.out.2.1 _ _ 8 9 rfl rfl rfl rfl
set_option maxRecDepth 100000 in
set_option maxHeartbeats 400000 in
theorem zlet_tie_lo (n : Nat) (l : List Int) (hz : IsZ n l) (i j : Nat) (hi0 : 1 ≤ i) (hi : i ≤ n) (hj : j ≤ n) (c : Int) (a : Option Addr) (m ca : Nat) (w : World) (h : SL w a m ca l) (hij : i ≠ j) (hc1 : c ≤ -4398046511104) : Calls Try.prog 23 #[.agg #[.int .i64 n, .slice a m ca], .int .i64 i, .int .i64 j, .int .i64 c] w (ZoneE n (letTieL n l i j (-4398046511104)) 0 w) := by
  obtain ⟨W1, hW1⟩ : ∃ W1, W1 = (w.alloc (.cells #[.int .i64 n, .slice a m ca] 24)).alloc (.cells #[.int .i64 0, .slice none 0 0] 24) := ⟨_, rfl⟩
  have X1 : B1 w W1 (.int .i64 n) (.slice a m ca) := by rw [hW1]; exact b1_new _ _ _
  have q1 := Lib.hid (zcheck_any n 1 i j a m ca l W1 (h.below X1.bl))
  rw [chkE_ok hz (by omega) (by omega) (by omega) (by omega)] at q1
  have hn := hz.1
  have hij1 : ((i : Int) == (j : Int)) = false := by simp; omega
  have hij2 : ¬ (i : Int) = (j : Int) := by omega
  have hS := Lib.hid h
  have q2 := Lib.hid (fun W (hW : Below w.heap.size w W) => change_tie n hn l hz a m ca i j (-4398046511104) (fun L g cap base W hF hl ho => by simpa using mforget_any n hn i j hi hj (-4398046511104) (by omega) g cap base L hl W ho) (fun L g cap base W hF hl ho => by simpa using mtie_any n hn i j hi hj (-4398046511104) (by omega) g cap base L hl W ho) (W.alloc (.cells #[.func (.func 58) #[] #[], .func (.func 60) #[] #[]] 73)) ((hS.out.below hW).below (box_below _ _ _)) W.heap.size (by simp) (fun W2 hW2 => ⟨fun_row _ _ _ W2 hW2 0 _ rfl, fun_row _ _ _ W2 hW2 1 _ rfl⟩))
  rw [show stepL n (fun l => tieL n l ((i : Int)).toNat ((j : Int)).toNat (-4398046511104)) (stepL n (fun l => forL n l ((i : Int)).toNat) l) = letTieL n l i j (-4398046511104) from rfl] at q2
  have hW1' := Lib.hid hW1
  have X1' := Lib.hid X1
  have hbb := Lib.hid (fun (W : World) => box_below W #[.func (.func 58) #[] #[], .func (.func 60) #[] #[]] 73)
  clear hW1 X1 h hz
  generalize (letTieL n l i j (-4398046511104)) = R at *
  go_enter Try.func23, Try.ntmps23
  go_wp2_with fail
  rw [← hW1'.out]
  refine q1.out.mono ?_
  rintro e w2 ⟨rfl, b2⟩
  have X2 := Lib.hid (X1'.out.on b2)
  clear b2 X1' q1
  have k0 := X2.out.z1.cell 0
  have k1 := X2.out.z1.cell 1
  have kl := X2.out.z1.lt
  have hwb := Lib.hid (box_below w2 #[.int .i64 i, .int .i64 j, .int .i64 (-4398046511104)] 72)
  have X2b := Lib.hid (X2.out.on hwb.out)
  have p2 := Lib.hid (q2.out _ X2b.out.bl)
  rw [show (w2.alloc (.cells #[.int .i64 i, .int .i64 j, .int .i64 (-4398046511104)] 72)).heap.size = w2.heap.size + 1 by simp] at p2
  clear q2
  go_wp2_with fail
  refine p2.out.mono ?_
  rintro e w7 ⟨a7, c7, rfl, hc7, s7, b7, nw7⟩
  have X3 := X2b.out.on (hbb.out _)
  have Zd := X3.z2.below b7 X3.z2.lt
  have y0 := Zd.cell 0
  have y1 := Zd.cell 1
  have f0 := Zd.free 0
  have f1 := Zd.free 1
  have hfin := Lib.hid (zone_put (n := n) (err := 0) X3.bl (by omega) X3.z2 hc7 s7 b7 nw7)
  clear Zd X3 p2
  go_wp2
  exact zone_ret2 hfin.out.1 hfin.out.2.1 _ _ 8 9 rfl rfl rfl rfl
set_option maxRecDepth 100000 in
set_option maxHeartbeats 400000 in
theorem zlet_mov_hi (n : Nat) (l : List Int) (hz : IsZ n l) (i : Nat) (hi0 : 1 ≤ i) (hi : i ≤ n) (c : Int) (a : Option Addr) (m ca : Nat) (w : World) (h : SL w a m ca l) (hc1 : 4398046511104 ≤ c) : Calls Try.prog 23 #[.agg #[.int .i64 n, .slice a m ca], .int .i64 i, .int .i64 i, .int .i64 c] w (ZoneE n (letMovL n l i 4398046511104) 0 w) := by
  obtain ⟨W1, hW1⟩ : ∃ W1, W1 = (w.alloc (.cells #[.int .i64 n, .slice a m ca] 24)).alloc (.cells #[.int .i64 0, .slice none 0 0] 24) := ⟨_, rfl⟩
  have X1 : B1 w W1 (.int .i64 n) (.slice a m ca) := by rw [hW1]; exact b1_new _ _ _
  have q1 := Lib.hid (zcheck_any n 1 i i a m ca l W1 (h.below X1.bl))
  rw [chkE_ok hz (by omega) (by omega) (by omega) (by omega)] at q1
  have hn := hz.1
  have hS := Lib.hid h
  have q2 := Lib.hid (fun W (hW : Below w.heap.size w W) => change_mov n hn l hz a m ca i i 4398046511104 (fun L g cap base W hF hl ho => by simpa using mmove_any n hn i i hi hi 4398046511104 (by omega) g cap base L hl (full_all hF) W ho) (W.alloc (.cells #[.func (.func 59) #[] #[]] 73)) ((hS.out.below hW).below (box_below _ _ _)) W.heap.size (by simp) (fun W2 hW2 => fun_row _ _ _ W2 hW2 0 _ rfl))
  rw [show stepL n (fun l => movL n l ((i : Int)).toNat 4398046511104) l = letMovL n l i 4398046511104 from rfl] at q2
  have hW1' := Lib.hid hW1
  have X1' := Lib.hid X1
  have hbb := Lib.hid (fun (W : World) => box_below W #[.func (.func 59) #[] #[]] 73)
  clear hW1 X1 h hz
  generalize (letMovL n l i 4398046511104) = R at *
  go_enter Try.func23, Try.ntmps23
  go_wp2_with fail
  rw [← hW1'.out]
  refine q1.out.mono ?_
  rintro e w2 ⟨rfl, b2⟩
  have X2 := Lib.hid (X1'.out.on b2)
  clear b2 X1' q1
  have k0 := X2.out.z1.cell 0
  have k1 := X2.out.z1.cell 1
  have kl := X2.out.z1.lt
  have hwb := Lib.hid (box_below w2 #[.int .i64 i, .int .i64 i, .int .i64 4398046511104] 72)
  have X2b := Lib.hid (X2.out.on hwb.out)
  have p2 := Lib.hid (q2.out _ X2b.out.bl)
  rw [show (w2.alloc (.cells #[.int .i64 i, .int .i64 i, .int .i64 4398046511104] 72)).heap.size = w2.heap.size + 1 by simp] at p2
  clear q2
  go_wp2_with fail
  refine p2.out.mono ?_
  rintro e w7 ⟨a7, c7, rfl, hc7, s7, b7, nw7⟩
  have X3 := X2b.out.on (hbb.out _)
  have Zd := X3.z2.below b7 X3.z2.lt
  have y0 := Zd.cell 0
  have y1 := Zd.cell 1
  have f0 := Zd.free 0
  have f1 := Zd.free 1
  have hfin := Lib.hid (zone_put (n := n) (err := 0) X3.bl (by omega) X3.z2 hc7 s7 b7 nw7)
  clear Zd X3 p2
  go_wp2
  exact zone_ret2 hfin.out.1 hfin.out.2.1 _ _ 8 9 rfl rfl rfl rfl
set_option maxRecDepth 100000 in
set_option maxHeartbeats 400000 in
theorem zlet_tie_hi (n : Nat) (l : List Int) (hz : IsZ n l) (i j : Nat) (hi0 : 1 ≤ i) (hi : i ≤ n) (hj : j ≤ n) (c : Int) (a : Option Addr) (m ca : Nat) (w : World) (h : SL w a m ca l) (hij : i ≠ j) (hc1 : 4398046511104 ≤ c) : Calls Try.prog 23 #[.agg #[.int .i64 n, .slice a m ca], .int .i64 i, .int .i64 j, .int .i64 c] w (ZoneE n (letTieL n l i j 4398046511104) 0 w) := by
  obtain ⟨W1, hW1⟩ : ∃ W1, W1 = (w.alloc (.cells #[.int .i64 n, .slice a m ca] 24)).alloc (.cells #[.int .i64 0, .slice none 0 0] 24) := ⟨_, rfl⟩
  have X1 : B1 w W1 (.int .i64 n) (.slice a m ca) := by rw [hW1]; exact b1_new _ _ _
  have q1 := Lib.hid (zcheck_any n 1 i j a m ca l W1 (h.below X1.bl))
  rw [chkE_ok hz (by omega) (by omega) (by omega) (by omega)] at q1
  have hn := hz.1
  have hij1 : ((i : Int) == (j : Int)) = false := by simp; omega
  have hij2 : ¬ (i : Int) = (j : Int) := by omega
  have hS := Lib.hid h
  have q2 := Lib.hid (fun W (hW : Below w.heap.size w W) => change_tie n hn l hz a m ca i j 4398046511104 (fun L g cap base W hF hl ho => by simpa using mforget_any n hn i j hi hj 4398046511104 (by omega) g cap base L hl W ho) (fun L g cap base W hF hl ho => by simpa using mtie_any n hn i j hi hj 4398046511104 (by omega) g cap base L hl W ho) (W.alloc (.cells #[.func (.func 58) #[] #[], .func (.func 60) #[] #[]] 73)) ((hS.out.below hW).below (box_below _ _ _)) W.heap.size (by simp) (fun W2 hW2 => ⟨fun_row _ _ _ W2 hW2 0 _ rfl, fun_row _ _ _ W2 hW2 1 _ rfl⟩))
  rw [show stepL n (fun l => tieL n l ((i : Int)).toNat ((j : Int)).toNat 4398046511104) (stepL n (fun l => forL n l ((i : Int)).toNat) l) = letTieL n l i j 4398046511104 from rfl] at q2
  have hW1' := Lib.hid hW1
  have X1' := Lib.hid X1
  have hbb := Lib.hid (fun (W : World) => box_below W #[.func (.func 58) #[] #[], .func (.func 60) #[] #[]] 73)
  clear hW1 X1 h hz
  generalize (letTieL n l i j 4398046511104) = R at *
  go_enter Try.func23, Try.ntmps23
  go_wp2_with fail
  rw [← hW1'.out]
  refine q1.out.mono ?_
  rintro e w2 ⟨rfl, b2⟩
  have X2 := Lib.hid (X1'.out.on b2)
  clear b2 X1' q1
  have k0 := X2.out.z1.cell 0
  have k1 := X2.out.z1.cell 1
  have kl := X2.out.z1.lt
  have hwb := Lib.hid (box_below w2 #[.int .i64 i, .int .i64 j, .int .i64 4398046511104] 72)
  have X2b := Lib.hid (X2.out.on hwb.out)
  have p2 := Lib.hid (q2.out _ X2b.out.bl)
  rw [show (w2.alloc (.cells #[.int .i64 i, .int .i64 j, .int .i64 4398046511104] 72)).heap.size = w2.heap.size + 1 by simp] at p2
  clear q2
  go_wp2_with fail
  refine p2.out.mono ?_
  rintro e w7 ⟨a7, c7, rfl, hc7, s7, b7, nw7⟩
  have X3 := X2b.out.on (hbb.out _)
  have Zd := X3.z2.below b7 X3.z2.lt
  have y0 := Zd.cell 0
  have y1 := Zd.cell 1
  have f0 := Zd.free 0
  have f1 := Zd.free 1
  have hfin := Lib.hid (zone_put (n := n) (err := 0) X3.bl (by omega) X3.z2 hc7 s7 b7 nw7)
  clear Zd X3 p2
  go_wp2
  exact zone_ret2 hfin.out.1 hfin.out.2.1 _ _ 8 9 rfl rfl rfl rfl
set_option maxRecDepth 100000 in
set_option maxHeartbeats 400000 in
theorem zlet_mov_in (n : Nat) (l : List Int) (hz : IsZ n l) (i : Nat) (hi0 : 1 ≤ i) (hi : i ≤ n) (c : Int) (a : Option Addr) (m ca : Nat) (w : World) (h : SL w a m ca l) (hc1 : -4398046511104 < c) (hc2 : c < 4398046511104) : Calls Try.prog 23 #[.agg #[.int .i64 n, .slice a m ca], .int .i64 i, .int .i64 i, .int .i64 c] w (ZoneE n (letMovL n l i c) 0 w) := by
  obtain ⟨W1, hW1⟩ : ∃ W1, W1 = (w.alloc (.cells #[.int .i64 n, .slice a m ca] 24)).alloc (.cells #[.int .i64 0, .slice none 0 0] 24) := ⟨_, rfl⟩
  have X1 : B1 w W1 (.int .i64 n) (.slice a m ca) := by rw [hW1]; exact b1_new _ _ _
  have q1 := Lib.hid (zcheck_any n 1 i i a m ca l W1 (h.below X1.bl))
  rw [chkE_ok hz (by omega) (by omega) (by omega) (by omega)] at q1
  have hn := hz.1
  have hS := Lib.hid h
  have q2 := Lib.hid (fun W (hW : Below w.heap.size w W) => change_mov n hn l hz a m ca i i c (fun L g cap base W hF hl ho => by simpa using mmove_any n hn i i hi hi c (by omega) g cap base L hl (full_all hF) W ho) (W.alloc (.cells #[.func (.func 59) #[] #[]] 73)) ((hS.out.below hW).below (box_below _ _ _)) W.heap.size (by simp) (fun W2 hW2 => fun_row _ _ _ W2 hW2 0 _ rfl))
  rw [show stepL n (fun l => movL n l ((i : Int)).toNat c) l = letMovL n l i c from rfl] at q2
  have hW1' := Lib.hid hW1
  have X1' := Lib.hid X1
  have hbb := Lib.hid (fun (W : World) => box_below W #[.func (.func 59) #[] #[]] 73)
  clear hW1 X1 h hz
  generalize (letMovL n l i c) = R at *
  go_enter Try.func23, Try.ntmps23
  go_wp2_with fail
  rw [← hW1'.out]
  refine q1.out.mono ?_
  rintro e w2 ⟨rfl, b2⟩
  have X2 := Lib.hid (X1'.out.on b2)
  clear b2 X1' q1
  have k0 := X2.out.z1.cell 0
  have k1 := X2.out.z1.cell 1
  have kl := X2.out.z1.lt
  have hwb := Lib.hid (box_below w2 #[.int .i64 i, .int .i64 i, .int .i64 c] 72)
  have X2b := Lib.hid (X2.out.on hwb.out)
  have p2 := Lib.hid (q2.out _ X2b.out.bl)
  rw [show (w2.alloc (.cells #[.int .i64 i, .int .i64 i, .int .i64 c] 72)).heap.size = w2.heap.size + 1 by simp] at p2
  clear q2
  go_wp2_with fail
  refine p2.out.mono ?_
  rintro e w7 ⟨a7, c7, rfl, hc7, s7, b7, nw7⟩
  have X3 := X2b.out.on (hbb.out _)
  have Zd := X3.z2.below b7 X3.z2.lt
  have y0 := Zd.cell 0
  have y1 := Zd.cell 1
  have f0 := Zd.free 0
  have f1 := Zd.free 1
  have hfin := Lib.hid (zone_put (n := n) (err := 0) X3.bl (by omega) X3.z2 hc7 s7 b7 nw7)
  clear Zd X3 p2
  go_wp2
  exact zone_ret2 hfin.out.1 hfin.out.2.1 _ _ 8 9 rfl rfl rfl rfl
set_option maxRecDepth 100000 in
set_option maxHeartbeats 400000 in
theorem zlet_tie_in (n : Nat) (l : List Int) (hz : IsZ n l) (i j : Nat) (hi0 : 1 ≤ i) (hi : i ≤ n) (hj : j ≤ n) (c : Int) (a : Option Addr) (m ca : Nat) (w : World) (h : SL w a m ca l) (hij : i ≠ j) (hc1 : -4398046511104 < c) (hc2 : c < 4398046511104) : Calls Try.prog 23 #[.agg #[.int .i64 n, .slice a m ca], .int .i64 i, .int .i64 j, .int .i64 c] w (ZoneE n (letTieL n l i j c) 0 w) := by
  obtain ⟨W1, hW1⟩ : ∃ W1, W1 = (w.alloc (.cells #[.int .i64 n, .slice a m ca] 24)).alloc (.cells #[.int .i64 0, .slice none 0 0] 24) := ⟨_, rfl⟩
  have X1 : B1 w W1 (.int .i64 n) (.slice a m ca) := by rw [hW1]; exact b1_new _ _ _
  have q1 := Lib.hid (zcheck_any n 1 i j a m ca l W1 (h.below X1.bl))
  rw [chkE_ok hz (by omega) (by omega) (by omega) (by omega)] at q1
  have hn := hz.1
  have hij1 : ((i : Int) == (j : Int)) = false := by simp; omega
  have hij2 : ¬ (i : Int) = (j : Int) := by omega
  have hS := Lib.hid h
  have q2 := Lib.hid (fun W (hW : Below w.heap.size w W) => change_tie n hn l hz a m ca i j c (fun L g cap base W hF hl ho => by simpa using mforget_any n hn i j hi hj c (by omega) g cap base L hl W ho) (fun L g cap base W hF hl ho => by simpa using mtie_any n hn i j hi hj c (by omega) g cap base L hl W ho) (W.alloc (.cells #[.func (.func 58) #[] #[], .func (.func 60) #[] #[]] 73)) ((hS.out.below hW).below (box_below _ _ _)) W.heap.size (by simp) (fun W2 hW2 => ⟨fun_row _ _ _ W2 hW2 0 _ rfl, fun_row _ _ _ W2 hW2 1 _ rfl⟩))
  rw [show stepL n (fun l => tieL n l ((i : Int)).toNat ((j : Int)).toNat c) (stepL n (fun l => forL n l ((i : Int)).toNat) l) = letTieL n l i j c from rfl] at q2
  have hW1' := Lib.hid hW1
  have X1' := Lib.hid X1
  have hbb := Lib.hid (fun (W : World) => box_below W #[.func (.func 58) #[] #[], .func (.func 60) #[] #[]] 73)
  clear hW1 X1 h hz
  generalize (letTieL n l i j c) = R at *
  go_enter Try.func23, Try.ntmps23
  go_wp2_with fail
  rw [← hW1'.out]
  refine q1.out.mono ?_
  rintro e w2 ⟨rfl, b2⟩
  have X2 := Lib.hid (X1'.out.on b2)
  clear b2 X1' q1
  have k0 := X2.out.z1.cell 0
  have k1 := X2.out.z1.cell 1
  have kl := X2.out.z1.lt
  have hwb := Lib.hid (box_below w2 #[.int .i64 i, .int .i64 j, .int .i64 c] 72)
  have X2b := Lib.hid (X2.out.on hwb.out)
  have p2 := Lib.hid (q2.out _ X2b.out.bl)
  rw [show (w2.alloc (.cells #[.int .i64 i, .int .i64 j, .int .i64 c] 72)).heap.size = w2.heap.size + 1 by simp] at p2
  clear q2
  go_wp2_with fail
  refine p2.out.mono ?_
  rintro e w7 ⟨a7, c7, rfl, hc7, s7, b7, nw7⟩
  have X3 := X2b.out.on (hbb.out _)
  have Zd := X3.z2.below b7 X3.z2.lt
  have y0 := Zd.cell 0
  have y1 := Zd.cell 1
  have f0 := Zd.free 0
  have f1 := Zd.free 1
  have hfin := Lib.hid (zone_put (n := n) (err := 0) X3.bl (by omega) X3.z2 hc7 s7 b7 nw7)
  clear Zd X3 p2
  go_wp2
  exact zone_ret2 hfin.out.1 hfin.out.2.1 _ _ 8 9 rfl rfl rfl rfl
end Go.Proofs.Ytacbkddkjlnklaa
