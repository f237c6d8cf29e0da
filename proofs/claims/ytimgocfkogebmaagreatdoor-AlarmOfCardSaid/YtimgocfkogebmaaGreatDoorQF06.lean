/-
  Words and walks under the law's proof.
-/
import Derived.Test.YtimgocfkogebmaaGreatDoorQF04
import Derived.Test.YtimgocfkogebmaaGreatDoorQF05
namespace Go.Proofs.YtimgocfkogebmaaGreatDoor
open Go.RowKit
set_option linter.unusedVariables false
set_option linter.unusedSimpArgs false
theorem full_near {n : Nat} {l : List Int} (hF : Full n l) {p : Nat} (hp : p < sz n) : -2199023255552 ≤ l.getD p 0 ∧ l.getD p 0 ≤ 2199023255552 := by
  obtain ⟨q1, q2, q3⟩ := place_of hp
  have e : l.getD p 0 = mat n l (p / (n + 1)) (p % (n + 1)) := by unfold mat; rw [q3]
  have h1 := hF.up q1 q2
  have h2 := hF.low q1 q2
  have h3 := widestF_le (p / (n + 1)) (p % (n + 1))
  have h4 := widestF_le (p % (n + 1)) (p / (n + 1))
  omega
def chkE (n : Int) (l : List Int) (least i j : Int) : Int := if checkB n l = false then 80 else if i < least ∨ n < i ∨ j < 0 ∨ n < j then 1 else 0
theorem zcheck_bad (n least i j : Int) (a : Option Addr) (m c : Nat) (l : List Int) (w : World) (h : SL w a m c l) (hk : checkB n l = false) : Calls Tryz.prog 209 #[.agg #[.int .i64 n, .slice a m c], .int .i64 least, .int .i64 i, .int .i64 j] w (Gives (.int .i64 80) w) := by
  obtain ⟨W1, hW1⟩ : ∃ W1, W1 = w.alloc (.cells #[.int .i64 n, .slice a m c] 51) := ⟨_, rfl⟩
  have hB : Below w.heap.size w W1 := by rw [hW1]; exact box_below _ _ _
  have Z1 : ZH W1 w.heap.size (.int .i64 n) (.slice a m c) := by rw [hW1]; exact Holds.new w _ _
  have q1 := Lib.hid (dcheck_any n a m c l W1 (h.below hB))
  have hW1' := Lib.hid hW1
  have hB' := Lib.hid hB
  have Z1' := Lib.hid Z1
  clear hW1 hB Z1 h
  rw [show chk n l = 80 by unfold chk; rw [hk]; rfl] at q1
  clear hk
  go_enter Tryz.func209, Tryz.ntmps209
  go_wp2_with fail
  rw [← hW1'.out]
  refine q1.out.mono ?_
  rintro e w2 ⟨rfl, b2⟩
  have k0 := (Z1'.out.below b2 Z1'.out.lt).cell 0
  have bl := Lib.hid (hB'.out.trans (b2.mono hB'.out.size))
  clear b2 q1 Z1' hW1'
  go_wp2
  go_ret
  exact ⟨rfl, bl.out⟩
theorem zcheck_c0 (n least i j : Int) (a : Option Addr) (m c : Nat) (l : List Int) (w : World) (h : SL w a m c l) (hk : checkB n l = true) (d1 : i < least) : Calls Tryz.prog 209 #[.agg #[.int .i64 n, .slice a m c], .int .i64 least, .int .i64 i, .int .i64 j] w (Gives (.int .i64 1) w) := by
  obtain ⟨W1, hW1⟩ : ∃ W1, W1 = w.alloc (.cells #[.int .i64 n, .slice a m c] 51) := ⟨_, rfl⟩
  have hB : Below w.heap.size w W1 := by rw [hW1]; exact box_below _ _ _
  have Z1 : ZH W1 w.heap.size (.int .i64 n) (.slice a m c) := by rw [hW1]; exact Holds.new w _ _
  have q1 := Lib.hid (dcheck_any n a m c l W1 (h.below hB))
  have hW1' := Lib.hid hW1
  have hB' := Lib.hid hB
  have Z1' := Lib.hid Z1
  clear hW1 hB Z1 h
  rw [show chk n l = 0 by unfold chk; rw [hk]; rfl] at q1
  clear hk
  go_enter Tryz.func209, Tryz.ntmps209
  go_wp2_with fail
  rw [← hW1'.out]
  refine q1.out.mono ?_
  rintro e w2 ⟨rfl, b2⟩
  have k0 := (Z1'.out.below b2 Z1'.out.lt).cell 0
  have bl := Lib.hid (hB'.out.trans (b2.mono hB'.out.size))
  clear b2 q1 Z1' hW1'
  go_wp2
  go_ret
  exact ⟨rfl, bl.out⟩
theorem zcheck_c1 (n least i j : Int) (a : Option Addr) (m c : Nat) (l : List Int) (w : World) (h : SL w a m c l) (hk : checkB n l = true) (d1 : ¬ i < least) (d2 : n < i) : Calls Tryz.prog 209 #[.agg #[.int .i64 n, .slice a m c], .int .i64 least, .int .i64 i, .int .i64 j] w (Gives (.int .i64 1) w) := by
  obtain ⟨W1, hW1⟩ : ∃ W1, W1 = w.alloc (.cells #[.int .i64 n, .slice a m c] 51) := ⟨_, rfl⟩
  have hB : Below w.heap.size w W1 := by rw [hW1]; exact box_below _ _ _
  have Z1 : ZH W1 w.heap.size (.int .i64 n) (.slice a m c) := by rw [hW1]; exact Holds.new w _ _
  have q1 := Lib.hid (dcheck_any n a m c l W1 (h.below hB))
  have hW1' := Lib.hid hW1
  have hB' := Lib.hid hB
  have Z1' := Lib.hid Z1
  clear hW1 hB Z1 h
  rw [show chk n l = 0 by unfold chk; rw [hk]; rfl] at q1
  clear hk
  go_enter Tryz.func209, Tryz.ntmps209
  go_wp2_with fail
  rw [← hW1'.out]
  refine q1.out.mono ?_
  rintro e w2 ⟨rfl, b2⟩
  have k0 := (Z1'.out.below b2 Z1'.out.lt).cell 0
  have bl := Lib.hid (hB'.out.trans (b2.mono hB'.out.size))
  clear b2 q1 Z1' hW1'
  go_wp2
  go_ret
  exact ⟨rfl, bl.out⟩
theorem zcheck_c2 (n least i j : Int) (a : Option Addr) (m c : Nat) (l : List Int) (w : World) (h : SL w a m c l) (hk : checkB n l = true) (d1 : ¬ i < least) (d2 : ¬ n < i) (d3 : j < 0) : Calls Tryz.prog 209 #[.agg #[.int .i64 n, .slice a m c], .int .i64 least, .int .i64 i, .int .i64 j] w (Gives (.int .i64 1) w) := by
  obtain ⟨W1, hW1⟩ : ∃ W1, W1 = w.alloc (.cells #[.int .i64 n, .slice a m c] 51) := ⟨_, rfl⟩
  have hB : Below w.heap.size w W1 := by rw [hW1]; exact box_below _ _ _
  have Z1 : ZH W1 w.heap.size (.int .i64 n) (.slice a m c) := by rw [hW1]; exact Holds.new w _ _
  have q1 := Lib.hid (dcheck_any n a m c l W1 (h.below hB))
  have hW1' := Lib.hid hW1
  have hB' := Lib.hid hB
  have Z1' := Lib.hid Z1
  clear hW1 hB Z1 h
  rw [show chk n l = 0 by unfold chk; rw [hk]; rfl] at q1
  clear hk
  go_enter Tryz.func209, Tryz.ntmps209
  go_wp2_with fail
  rw [← hW1'.out]
  refine q1.out.mono ?_
  rintro e w2 ⟨rfl, b2⟩
  have k0 := (Z1'.out.below b2 Z1'.out.lt).cell 0
  have bl := Lib.hid (hB'.out.trans (b2.mono hB'.out.size))
  clear b2 q1 Z1' hW1'
  go_wp2
  go_ret
  exact ⟨rfl, bl.out⟩
theorem zcheck_c3 (n least i j : Int) (a : Option Addr) (m c : Nat) (l : List Int) (w : World) (h : SL w a m c l) (hk : checkB n l = true) (d1 : ¬ i < least) (d2 : ¬ n < i) (d3 : ¬ j < 0) (d4 : n < j) : Calls Tryz.prog 209 #[.agg #[.int .i64 n, .slice a m c], .int .i64 least, .int .i64 i, .int .i64 j] w (Gives (.int .i64 1) w) := by
  obtain ⟨W1, hW1⟩ : ∃ W1, W1 = w.alloc (.cells #[.int .i64 n, .slice a m c] 51) := ⟨_, rfl⟩
  have hB : Below w.heap.size w W1 := by rw [hW1]; exact box_below _ _ _
  have Z1 : ZH W1 w.heap.size (.int .i64 n) (.slice a m c) := by rw [hW1]; exact Holds.new w _ _
  have q1 := Lib.hid (dcheck_any n a m c l W1 (h.below hB))
  have hW1' := Lib.hid hW1
  have hB' := Lib.hid hB
  have Z1' := Lib.hid Z1
  clear hW1 hB Z1 h
  rw [show chk n l = 0 by unfold chk; rw [hk]; rfl] at q1
  clear hk
  go_enter Tryz.func209, Tryz.ntmps209
  go_wp2_with fail
  rw [← hW1'.out]
  refine q1.out.mono ?_
  rintro e w2 ⟨rfl, b2⟩
  have k0 := (Z1'.out.below b2 Z1'.out.lt).cell 0
  have bl := Lib.hid (hB'.out.trans (b2.mono hB'.out.size))
  clear b2 q1 Z1' hW1'
  go_wp2
  go_ret
  exact ⟨rfl, bl.out⟩
theorem zcheck_ok (n least i j : Int) (a : Option Addr) (m c : Nat) (l : List Int) (w : World) (h : SL w a m c l) (hk : checkB n l = true) (d1 : ¬ i < least) (d2 : ¬ n < i) (d3 : ¬ j < 0) (d4 : ¬ n < j) : Calls Tryz.prog 209 #[.agg #[.int .i64 n, .slice a m c], .int .i64 least, .int .i64 i, .int .i64 j] w (Gives (.int .i64 0) w) := by
  obtain ⟨W1, hW1⟩ : ∃ W1, W1 = w.alloc (.cells #[.int .i64 n, .slice a m c] 51) := ⟨_, rfl⟩
  have hB : Below w.heap.size w W1 := by rw [hW1]; exact box_below _ _ _
  have Z1 : ZH W1 w.heap.size (.int .i64 n) (.slice a m c) := by rw [hW1]; exact Holds.new w _ _
  have q1 := Lib.hid (dcheck_any n a m c l W1 (h.below hB))
  have hW1' := Lib.hid hW1
  have hB' := Lib.hid hB
  have Z1' := Lib.hid Z1
  clear hW1 hB Z1 h
  rw [show chk n l = 0 by unfold chk; rw [hk]; rfl] at q1
  clear hk
  go_enter Tryz.func209, Tryz.ntmps209
  go_wp2_with fail
  rw [← hW1'.out]
  refine q1.out.mono ?_
  rintro e w2 ⟨rfl, b2⟩
  have k0 := (Z1'.out.below b2 Z1'.out.lt).cell 0
  have bl := Lib.hid (hB'.out.trans (b2.mono hB'.out.size))
  clear b2 q1 Z1' hW1'
  go_wp2
  go_ret
  exact ⟨rfl, bl.out⟩
theorem zcheck_any (n least i j : Int) (a : Option Addr) (m c : Nat) (l : List Int) (w : World) (h : SL w a m c l) : Calls Tryz.prog 209 #[.agg #[.int .i64 n, .slice a m c], .int .i64 least, .int .i64 i, .int .i64 j] w (Gives (.int .i64 (chkE n l least i j)) w) := by
  unfold chkE
  cases hk : checkB n l
  · rw [if_pos rfl]; exact zcheck_bad n least i j a m c l w h hk
  · rw [if_neg (by decide)]
    by_cases d1 : i < least
    · rw [if_pos (.inl d1)]; exact zcheck_c0 n least i j a m c l w h hk d1
    by_cases d2 : n < i
    · rw [if_pos (.inr (.inl d2))]; exact zcheck_c1 n least i j a m c l w h hk d1 d2
    by_cases d3 : j < 0
    · rw [if_pos (.inr (.inr (.inl d3)))]; exact zcheck_c2 n least i j a m c l w h hk d1 d2 d3
    by_cases d4 : n < j
    · rw [if_pos (.inr (.inr (.inr d4)))]; exact zcheck_c3 n least i j a m c l w h hk d1 d2 d3 d4
    · rw [if_neg (by omega)]; exact zcheck_ok n least i j a m c l w h hk d1 d2 d3 d4
theorem chkE_ok {n : Nat} {l : List Int} (hz : IsZ n l) {least i j : Int} (h1 : least ≤ i) (h2 : i ≤ n) (h3 : 0 ≤ j) (h4 : j ≤ n) : chkE n l least i j = 0 := by
  unfold chkE
  rw [hz.check, if_neg (by decide), if_neg (by omega)]
structure B1 (w W : World) (x y : Value) : Prop where
  bl : Below w.heap.size w W
  z1 : ZH W w.heap.size x y
  z2 : ZH W (w.heap.size + 1) (.int .i64 0) (.slice none 0 0)
theorem B1.on {w W W' : World} {x y : Value} (h : B1 w W x y) (hb : Below W.heap.size W W') : B1 w W' x y := ⟨h.bl.trans (hb.mono h.bl.size), h.z1.below hb h.z1.lt, h.z2.below hb h.z2.lt⟩
theorem b1_new (w : World) (x y : Value) : B1 w ((w.alloc (.cells #[x, y] 51)).alloc (.cells #[.int .i64 0, .slice none 0 0] 51)) x y := by
  refine ⟨box2_below _ _ _ _ _, (Holds.new w _ _).alloc _, ?_⟩
  have := Holds.new (w.alloc (.cells #[x, y] 51)) 51 #[.int .i64 0, .slice none 0 0]
  simpa using this
theorem fun_row (W : World) (t : TypeId) (cs : Array Value) : ∀ W', Below (W.alloc (.cells cs t)).heap.size (W.alloc (.cells cs t)) W' → ∀ k v, cs[k]? = some v → W'.cell? ⟨W.heap.size, k, none⟩ = some v := by
  intro W' hW' k v hk
  have := ((Holds.new W t cs).below hW' (by simp)).cell k
  rw [this, hk]
def limitL (n : Nat) (l : List Int) (i j : Nat) (c : Int) : List Int := stepL n (fun l => limL n l i j c) l
set_option maxRecDepth 100000 in
set_option maxHeartbeats 400000 in
theorem zlimit_ok (n : Nat) (l : List Int) (hz : IsZ n l) (i j : Nat) (hi : i ≤ n) (hj : j ≤ n) (c : Int) (a : Option Addr) (m ca : Nat) (w : World) (h : SL w a m ca l)  : Calls Tryz.prog 206 #[.agg #[.int .i64 n, .slice a m ca], .int .i64 i, .int .i64 j, .int .i64 c] w (ZoneE n (limitL n l i j c) 0 w) := by
  obtain ⟨W1, hW1⟩ : ∃ W1, W1 = (w.alloc (.cells #[.int .i64 n, .slice a m ca] 51)).alloc (.cells #[.int .i64 0, .slice none 0 0] 51) := ⟨_, rfl⟩
  have X1 : B1 w W1 (.int .i64 n) (.slice a m ca) := by rw [hW1]; exact b1_new _ _ _
  have q1 := Lib.hid (zcheck_any n 0 i j a m ca l W1 (h.below X1.bl))
  rw [chkE_ok hz (by omega) (by omega) (by omega) (by omega)] at q1
  have hn := hz.1
  have hS := Lib.hid h
  have q2 := Lib.hid (fun W (hW : Below w.heap.size w W) => change_lim n hn l hz a m ca i j c (fun L g cap base W hF hl ho => by simpa using mlimit_any n hn i j hi hj c g cap base L hl W ho) (W.alloc (.cells #[.func (.func 214) #[] #[]] 198)) ((hS.out.below hW).below (box_below _ _ _)) W.heap.size (by simp) (fun W2 hW2 => fun_row _ _ _ W2 hW2 0 _ rfl))
  rw [show stepL n (fun l => limL n l ((i : Int)).toNat ((j : Int)).toNat c) l = limitL n l i j c from rfl] at q2
  have hW1' := Lib.hid hW1
  have X1' := Lib.hid X1
  have hbb := Lib.hid (fun (W : World) => box_below W #[.func (.func 214) #[] #[]] 198)
  clear hW1 X1 h hz
  generalize (limitL n l i j c) = R at *
  go_enter Tryz.func206, Tryz.ntmps206
  go_wp2_with fail
  rw [← hW1'.out]
  refine q1.out.mono ?_
  rintro e w2 ⟨rfl, b2⟩
  have X2 := Lib.hid (X1'.out.on b2)
  clear b2 X1' q1
  have k0 := X2.out.z1.cell 0
  have k1 := X2.out.z1.cell 1
  have kl := X2.out.z1.lt
  have p2 := Lib.hid (q2.out w2 X2.out.bl)
  go_wp2_with fail
  refine p2.out.mono ?_
  rintro e w7 ⟨a7, c7, rfl, hc7, s7, b7, nw7⟩
  have X3 := X2.out.on (hbb.out w2)
  have Zd := X3.z2.below b7 X3.z2.lt
  have y0 := Zd.cell 0
  have y1 := Zd.cell 1
  have f0 := Zd.free 0
  have f1 := Zd.free 1
  have hfin := Lib.hid (zone_put (n := n) (err := 0) X3.bl (by omega) X3.z2 hc7 s7 b7 nw7)
  clear Zd X3 p2
  go_wp2
  exact zone_ret2 hfin.out.1 hfin.out.2.1 _ _ 8 9 rfl rfl rfl rfl
def forgetL (n : Nat) (l : List Int) (i : Nat) : List Int := stepL n (fun l => forL n l i) l
set_option maxRecDepth 100000 in
set_option maxHeartbeats 400000 in
theorem zforget_ok (n : Nat) (l : List Int) (hz : IsZ n l) (i : Nat) (hi0 : 1 ≤ i) (hi : i ≤ n) (a : Option Addr) (m ca : Nat) (w : World) (h : SL w a m ca l)  : Calls Tryz.prog 205 #[.agg #[.int .i64 n, .slice a m ca], .int .i64 i] w (ZoneE n (forgetL n l i) 0 w) := by
  obtain ⟨W1, hW1⟩ : ∃ W1, W1 = (w.alloc (.cells #[.int .i64 n, .slice a m ca] 51)).alloc (.cells #[.int .i64 0, .slice none 0 0] 51) := ⟨_, rfl⟩
  have X1 : B1 w W1 (.int .i64 n) (.slice a m ca) := by rw [hW1]; exact b1_new _ _ _
  have q1 := Lib.hid (zcheck_any n 1 i 0 a m ca l W1 (h.below X1.bl))
  rw [chkE_ok hz (by omega) (by omega) (by omega) (by omega)] at q1
  have hn := hz.1
  have hS := Lib.hid h
  have q2 := Lib.hid (fun W (hW : Below w.heap.size w W) => change_for n hn l hz a m ca i 0 0 (fun L g cap base W hF hl ho => by simpa using mforget_any n hn i 0 hi (Nat.zero_le _) 0 (by omega) g cap base L hl W ho) (W.alloc (.cells #[.func (.func 212) #[] #[]] 198)) ((hS.out.below hW).below (box_below _ _ _)) W.heap.size (by simp) (fun W2 hW2 => fun_row _ _ _ W2 hW2 0 _ rfl))
  rw [show stepL n (fun l => forL n l ((i : Int)).toNat) l = forgetL n l i from rfl] at q2
  have hW1' := Lib.hid hW1
  have X1' := Lib.hid X1
  have hbb := Lib.hid (fun (W : World) => box_below W #[.func (.func 212) #[] #[]] 198)
  clear hW1 X1 h hz
  generalize (forgetL n l i) = R at *
  go_enter Tryz.func205, Tryz.ntmps205
  go_wp2_with fail
  rw [← hW1'.out]
  refine q1.out.mono ?_
  rintro e w2 ⟨rfl, b2⟩
  have X2 := Lib.hid (X1'.out.on b2)
  clear b2 X1' q1
  have k0 := X2.out.z1.cell 0
  have k1 := X2.out.z1.cell 1
  have kl := X2.out.z1.lt
  have p2 := Lib.hid (q2.out w2 X2.out.bl)
  go_wp2_with fail
  refine p2.out.mono ?_
  rintro e w7 ⟨a7, c7, rfl, hc7, s7, b7, nw7⟩
  have X3 := X2.out.on (hbb.out w2)
  have Zd := X3.z2.below b7 X3.z2.lt
  have y0 := Zd.cell 0
  have y1 := Zd.cell 1
  have f0 := Zd.free 0
  have f1 := Zd.free 1
  have hfin := Lib.hid (zone_put (n := n) (err := 0) X3.bl (by omega) X3.z2 hc7 s7 b7 nw7)
  clear Zd X3 p2
  go_wp2
  exact zone_ret2 hfin.out.1 hfin.out.2.1 _ _ 4 5 rfl rfl rfl rfl
def letMovL (n : Nat) (l : List Int) (i : Nat) (c : Int) : List Int := stepL n (fun l => movL n l i c) l
def letTieL (n : Nat) (l : List Int) (i j : Nat) (c : Int) : List Int := stepL n (fun l => tieL n l i j c) (stepL n (fun l => forL n l i) l)
theorem full_all {n : Nat} {l : List Int} (hF : Full n l) (p : Nat) : -2199023255552 ≤ l.getD p 0 ∧ l.getD p 0 ≤ 2199023255552 := by
  by_cases hp : p < sz n
  · have := full_near hF hp; exact this
  · have e : l.getD p 0 = 0 := by simp only [List.getD]; rw [List.getElem?_eq_none (by rw [hF.len]; omega)]; rfl
    rw [e]; omega
set_option maxRecDepth 100000 in
set_option maxHeartbeats 400000 in
theorem zlet_mov_lo (n : Nat) (l : List Int) (hz : IsZ n l) (i : Nat) (hi0 : 1 ≤ i) (hi : i ≤ n) (c : Int) (a : Option Addr) (m ca : Nat) (w : World) (h : SL w a m ca l) (hc1 : c ≤ -4398046511104) : Calls Tryz.prog 204 #[.agg #[.int .i64 n, .slice a m ca], .int .i64 i, .int .i64 i, .int .i64 c] w (ZoneE n (letMovL n l i (-4398046511104)) 0 w) := by
  obtain ⟨W1, hW1⟩ : ∃ W1, W1 = (w.alloc (.cells #[.int .i64 n, .slice a m ca] 51)).alloc (.cells #[.int .i64 0, .slice none 0 0] 51) := ⟨_, rfl⟩
  have X1 : B1 w W1 (.int .i64 n) (.slice a m ca) := by rw [hW1]; exact b1_new _ _ _
  have q1 := Lib.hid (zcheck_any n 1 i i a m ca l W1 (h.below X1.bl))
  rw [chkE_ok hz (by omega) (by omega) (by omega) (by omega)] at q1
  have hn := hz.1
  have hS := Lib.hid h
  have q2 := Lib.hid (fun W (hW : Below w.heap.size w W) => change_mov n hn l hz a m ca i i (-4398046511104) (fun L g cap base W hF hl ho => by simpa using mmove_any n hn i i hi hi (-4398046511104) (by omega) g cap base L hl (full_all hF) W ho) (W.alloc (.cells #[.func (.func 211) #[] #[]] 198)) ((hS.out.below hW).below (box_below _ _ _)) W.heap.size (by simp) (fun W2 hW2 => fun_row _ _ _ W2 hW2 0 _ rfl))
  rw [show stepL n (fun l => movL n l ((i : Int)).toNat (-4398046511104)) l = letMovL n l i (-4398046511104) from rfl] at q2
  have hW1' := Lib.hid hW1
  have X1' := Lib.hid X1
  have hbb := Lib.hid (fun (W : World) => box_below W #[.func (.func 211) #[] #[]] 198)
  clear hW1 X1 h hz
  generalize (letMovL n l i (-4398046511104)) = R at *
  go_enter Tryz.func204, Tryz.ntmps204
  go_wp2_with fail
  rw [← hW1'.out]
  refine q1.out.mono ?_
  rintro e w2 ⟨rfl, b2⟩
  have X2 := Lib.hid (X1'.out.on b2)
  clear b2 X1' q1
  have k0 := X2.out.z1.cell 0
  have k1 := X2.out.z1.cell 1
  have kl := X2.out.z1.lt
  have hwb := Lib.hid (box_below w2 #[.int .i64 i, .int .i64 i, .int .i64 (-4398046511104)] 196)
  have X2b := Lib.hid (X2.out.on hwb.out)
  have p2 := Lib.hid (q2.out _ X2b.out.bl)
  rw [show (w2.alloc (.cells #[.int .i64 i, .int .i64 i, .int .i64 (-4398046511104)] 196)).heap.size = w2.heap.size + 1 by simp] at p2
  clear q2
  go_wp2_with fail
  refine p2.out.mono ?_
  rintro e w7 ⟨a7, c7, rfl, hc7, s7, b7, nw7⟩
  have X3 := X2b.out.on (hbb.out _)
  have Zd := X3.z2.below b7 X3.z2.lt
  have y0 := Zd.cell 0
  have y1 := Zd.cell 1
  have f0 := Zd.free 0
  have f1 := Zd.free 1
  have hfin := Lib.hid (zone_put (n := n) (err := 0) X3.bl (by omega) X3.z2 hc7 s7 b7 nw7)
  clear Zd X3 p2
  go_wp2
  exact zone_ret2 hfin.out.1 hfin.out.2.1 _ _ 8 9 rfl rfl rfl rfl
set_option maxRecDepth 100000 in
set_option maxHeartbeats 400000 in
theorem zlet_tie_lo (n : Nat) (l : List Int) (hz : IsZ n l) (i j : Nat) (hi0 : 1 ≤ i) (hi : i ≤ n) (hj : j ≤ n) (c : Int) (a : Option Addr) (m ca : Nat) (w : World) (h : SL w a m ca l) (hij : i ≠ j) (hc1 : c ≤ -4398046511104) : Calls Tryz.prog 204 #[.agg #[.int .i64 n, .slice a m ca], .int .i64 i, .int .i64 j, .int .i64 c] w (ZoneE n (letTieL n l i j (-4398046511104)) 0 w) := by
  obtain ⟨W1, hW1⟩ : ∃ W1, W1 = (w.alloc (.cells #[.int .i64 n, .slice a m ca] 51)).alloc (.cells #[.int .i64 0, .slice none 0 0] 51) := ⟨_, rfl⟩
  have X1 : B1 w W1 (.int .i64 n) (.slice a m ca) := by rw [hW1]; exact b1_new _ _ _
  have q1 := Lib.hid (zcheck_any n 1 i j a m ca l W1 (h.below X1.bl))
  rw [chkE_ok hz (by omega) (by omega) (by omega) (by omega)] at q1
  have hn := hz.1
  have hij1 : ((i : Int) == (j : Int)) = false := by simp; omega
  have hij2 : ¬ (i : Int) = (j : Int) := by omega
  have hS := Lib.hid h
  have q2 := Lib.hid (fun W (hW : Below w.heap.size w W) => change_tie n hn l hz a m ca i j (-4398046511104) (fun L g cap base W hF hl ho => by simpa using mforget_any n hn i j hi hj (-4398046511104) (by omega) g cap base L hl W ho) (fun L g cap base W hF hl ho => by simpa using mtie_any n hn i j hi hj (-4398046511104) (by omega) g cap base L hl W ho) (W.alloc (.cells #[.func (.func 212) #[] #[], .func (.func 213) #[] #[]] 198)) ((hS.out.below hW).below (box_below _ _ _)) W.heap.size (by simp) (fun W2 hW2 => ⟨fun_row _ _ _ W2 hW2 0 _ rfl, fun_row _ _ _ W2 hW2 1 _ rfl⟩))
  rw [show stepL n (fun l => tieL n l ((i : Int)).toNat ((j : Int)).toNat (-4398046511104)) (stepL n (fun l => forL n l ((i : Int)).toNat) l) = letTieL n l i j (-4398046511104) from rfl] at q2
  have hW1' := Lib.hid hW1
  have X1' := Lib.hid X1
  have hbb := Lib.hid (fun (W : World) => box_below W #[.func (.func 212) #[] #[], .func (.func 213) #[] #[]] 198)
  clear hW1 X1 h hz
  generalize (letTieL n l i j (-4398046511104)) = R at *
  go_enter Tryz.func204, Tryz.ntmps204
  go_wp2_with fail
  rw [← hW1'.out]
  refine q1.out.mono ?_
  rintro e w2 ⟨rfl, b2⟩
  have X2 := Lib.hid (X1'.out.on b2)
  clear b2 X1' q1
  have k0 := X2.out.z1.cell 0
  have k1 := X2.out.z1.cell 1
  have kl := X2.out.z1.lt
  have hwb := Lib.hid (box_below w2 #[.int .i64 i, .int .i64 j, .int .i64 (-4398046511104)] 196)
  have X2b := Lib.hid (X2.out.on hwb.out)
  have p2 := Lib.hid (q2.out _ X2b.out.bl)
  rw [show (w2.alloc (.cells #[.int .i64 i, .int .i64 j, .int .i64 (-4398046511104)] 196)).heap.size = w2.heap.size + 1 by simp] at p2
  clear q2
  go_wp2_with fail
  refine p2.out.mono ?_
  rintro e w7 ⟨a7, c7, rfl, hc7, s7, b7, nw7⟩
  have X3 := X2b.out.on (hbb.out _)
  have Zd := X3.z2.below b7 X3.z2.lt
  have y0 := Zd.cell 0
  have y1 := Zd.cell 1
  have f0 := Zd.free 0
  have f1 := Zd.free 1
  have hfin := Lib.hid (zone_put (n := n) (err := 0) X3.bl (by omega) X3.z2 hc7 s7 b7 nw7)
  clear Zd X3 p2
  go_wp2
  exact zone_ret2 hfin.out.1 hfin.out.2.1 _ _ 8 9 rfl rfl rfl rfl
set_option maxRecDepth 100000 in
set_option maxHeartbeats 400000 in
theorem zlet_mov_hi (n : Nat) (l : List Int) (hz : IsZ n l) (i : Nat) (hi0 : 1 ≤ i) (hi : i ≤ n) (c : Int) (a : Option Addr) (m ca : Nat) (w : World) (h : SL w a m ca l) (hc1 : 4398046511104 ≤ c) : Calls Tryz.prog 204 #[.agg #[.int .i64 n, .slice a m ca], .int .i64 i, .int .i64 i, .int .i64 c] w (ZoneE n (letMovL n l i 4398046511104) 0 w) := by
  obtain ⟨W1, hW1⟩ : ∃ W1, W1 = (w.alloc (.cells #[.int .i64 n, .slice a m ca] 51)).alloc (.cells #[.int .i64 0, .slice none 0 0] 51) := ⟨_, rfl⟩
  have X1 : B1 w W1 (.int .i64 n) (.slice a m ca) := by rw [hW1]; exact b1_new _ _ _
  have q1 := Lib.hid (zcheck_any n 1 i i a m ca l W1 (h.below X1.bl))
  rw [chkE_ok hz (by omega) (by omega) (by omega) (by omega)] at q1
  have hn := hz.1
  have hS := Lib.hid h
  have q2 := Lib.hid (fun W (hW : Below w.heap.size w W) => change_mov n hn l hz a m ca i i 4398046511104 (fun L g cap base W hF hl ho => by simpa using mmove_any n hn i i hi hi 4398046511104 (by omega) g cap base L hl (full_all hF) W ho) (W.alloc (.cells #[.func (.func 211) #[] #[]] 198)) ((hS.out.below hW).below (box_below _ _ _)) W.heap.size (by simp) (fun W2 hW2 => fun_row _ _ _ W2 hW2 0 _ rfl))
  rw [show stepL n (fun l => movL n l ((i : Int)).toNat 4398046511104) l = letMovL n l i 4398046511104 from rfl] at q2
  have hW1' := Lib.hid hW1
  have X1' := Lib.hid X1
  have hbb := Lib.hid (fun (W : World) => box_below W #[.func (.func 211) #[] #[]] 198)
  clear hW1 X1 h hz
  generalize (letMovL n l i 4398046511104) = R at *
  go_enter Tryz.func204, Tryz.ntmps204
  go_wp2_with fail
  rw [← hW1'.out]
  refine q1.out.mono ?_
  rintro e w2 ⟨rfl, b2⟩
  have X2 := Lib.hid (X1'.out.on b2)
  clear b2 X1' q1
  have k0 := X2.out.z1.cell 0
  have k1 := X2.out.z1.cell 1
  have kl := X2.out.z1.lt
  have hwb := Lib.hid (box_below w2 #[.int .i64 i, .int .i64 i, .int .i64 4398046511104] 196)
  have X2b := Lib.hid (X2.out.on hwb.out)
  have p2 := Lib.hid (q2.out _ X2b.out.bl)
  rw [show (w2.alloc (.cells #[.int .i64 i, .int .i64 i, .int .i64 4398046511104] 196)).heap.size = w2.heap.size + 1 by simp] at p2
  clear q2
  go_wp2_with fail
  refine p2.out.mono ?_
  rintro e w7 ⟨a7, c7, rfl, hc7, s7, b7, nw7⟩
  have X3 := X2b.out.on (hbb.out _)
  have Zd := X3.z2.below b7 X3.z2.lt
  have y0 := Zd.cell 0
  have y1 := Zd.cell 1
  have f0 := Zd.free 0
  have f1 := Zd.free 1
  have hfin := Lib.hid (zone_put (n := n) (err := 0) X3.bl (by omega) X3.z2 hc7 s7 b7 nw7)
  clear Zd X3 p2
  go_wp2
  exact zone_ret2 hfin.out.1 hfin.out.2.1 _ _ 8 9 rfl rfl rfl rfl
set_option maxRecDepth 100000 in
set_option maxHeartbeats 400000 in
theorem zlet_tie_hi (n : Nat) (l : List Int) (hz : IsZ n l) (i j : Nat) (hi0 : 1 ≤ i) (hi : i ≤ n) (hj : j ≤ n) (c : Int) (a : Option Addr) (m ca : Nat) (w : World) (h : SL w a m ca l) (hij : i ≠ j) (hc1 : 4398046511104 ≤ c) : Calls Tryz.prog 204 #[.agg #[.int .i64 n, .slice a m ca], .int .i64 i, .int .i64 j, .int .i64 c] w (ZoneE n (letTieL n l i j 4398046511104) 0 w) := by
  obtain ⟨W1, hW1⟩ : ∃ W1, W1 = (w.alloc (.cells #[.int .i64 n, .slice a m ca] 51)).alloc (.cells #[.int .i64 0, .slice none 0 0] 51) := ⟨_, rfl⟩
  have X1 : B1 w W1 (.int .i64 n) (.slice a m ca) := by rw [hW1]; exact b1_new _ _ _
  have q1 := Lib.hid (zcheck_any n 1 i j a m ca l W1 (h.below X1.bl))
  rw [chkE_ok hz (by omega) (by omega) (by omega) (by omega)] at q1
  have hn := hz.1
  have hij1 : ((i : Int) == (j : Int)) = false := by simp; omega
  have hij2 : ¬ (i : Int) = (j : Int) := by omega
  have hS := Lib.hid h
  have q2 := Lib.hid (fun W (hW : Below w.heap.size w W) => change_tie n hn l hz a m ca i j 4398046511104 (fun L g cap base W hF hl ho => by simpa using mforget_any n hn i j hi hj 4398046511104 (by omega) g cap base L hl W ho) (fun L g cap base W hF hl ho => by simpa using mtie_any n hn i j hi hj 4398046511104 (by omega) g cap base L hl W ho) (W.alloc (.cells #[.func (.func 212) #[] #[], .func (.func 213) #[] #[]] 198)) ((hS.out.below hW).below (box_below _ _ _)) W.heap.size (by simp) (fun W2 hW2 => ⟨fun_row _ _ _ W2 hW2 0 _ rfl, fun_row _ _ _ W2 hW2 1 _ rfl⟩))
  rw [show stepL n (fun l => tieL n l ((i : Int)).toNat ((j : Int)).toNat 4398046511104) (stepL n (fun l => forL n l ((i : Int)).toNat) l) = letTieL n l i j 4398046511104 from rfl] at q2
  have hW1' := Lib.hid hW1
  have X1' := Lib.hid X1
  have hbb := Lib.hid (fun (W : World) => box_below W #[.func (.func 212) #[] #[], .func (.func 213) #[] #[]] 198)
  clear hW1 X1 h hz
  generalize (letTieL n l i j 4398046511104) = R at *
  go_enter Tryz.func204, Tryz.ntmps204
  go_wp2_with fail
  rw [← hW1'.out]
  refine q1.out.mono ?_
  rintro e w2 ⟨rfl, b2⟩
  have X2 := Lib.hid (X1'.out.on b2)
  clear b2 X1' q1
  have k0 := X2.out.z1.cell 0
  have k1 := X2.out.z1.cell 1
  have kl := X2.out.z1.lt
  have hwb := Lib.hid (box_below w2 #[.int .i64 i, .int .i64 j, .int .i64 4398046511104] 196)
  have X2b := Lib.hid (X2.out.on hwb.out)
  have p2 := Lib.hid (q2.out _ X2b.out.bl)
  rw [show (w2.alloc (.cells #[.int .i64 i, .int .i64 j, .int .i64 4398046511104] 196)).heap.size = w2.heap.size + 1 by simp] at p2
  clear q2
  go_wp2_with fail
  refine p2.out.mono ?_
  rintro e w7 ⟨a7, c7, rfl, hc7, s7, b7, nw7⟩
  have X3 := X2b.out.on (hbb.out _)
  have Zd := X3.z2.below b7 X3.z2.lt
  have y0 := Zd.cell 0
  have y1 := Zd.cell 1
  have f0 := Zd.free 0
  have f1 := Zd.free 1
  have hfin := Lib.hid (zone_put (n := n) (err := 0) X3.bl (by omega) X3.z2 hc7 s7 b7 nw7)
  clear Zd X3 p2
  go_wp2
  exact zone_ret2 hfin.out.1 hfin.out.2.1 _ _ 8 9 rfl rfl rfl rfl
set_option maxRecDepth 100000 in
set_option maxHeartbeats 400000 in
theorem zlet_mov_in (n : Nat) (l : List Int) (hz : IsZ n l) (i : Nat) (hi0 : 1 ≤ i) (hi : i ≤ n) (c : Int) (a : Option Addr) (m ca : Nat) (w : World) (h : SL w a m ca l) (hc1 : -4398046511104 < c) (hc2 : c < 4398046511104) : Calls Tryz.prog 204 #[.agg #[.int .i64 n, .slice a m ca], .int .i64 i, .int .i64 i, .int .i64 c] w (ZoneE n (letMovL n l i c) 0 w) := by
  obtain ⟨W1, hW1⟩ : ∃ W1, W1 = (w.alloc (.cells #[.int .i64 n, .slice a m ca] 51)).alloc (.cells #[.int .i64 0, .slice none 0 0] 51) := ⟨_, rfl⟩
  have X1 : B1 w W1 (.int .i64 n) (.slice a m ca) := by rw [hW1]; exact b1_new _ _ _
  have q1 := Lib.hid (zcheck_any n 1 i i a m ca l W1 (h.below X1.bl))
  rw [chkE_ok hz (by omega) (by omega) (by omega) (by omega)] at q1
  have hn := hz.1
  have hS := Lib.hid h
  have q2 := Lib.hid (fun W (hW : Below w.heap.size w W) => change_mov n hn l hz a m ca i i c (fun L g cap base W hF hl ho => by simpa using mmove_any n hn i i hi hi c (by omega) g cap base L hl (full_all hF) W ho) (W.alloc (.cells #[.func (.func 211) #[] #[]] 198)) ((hS.out.below hW).below (box_below _ _ _)) W.heap.size (by simp) (fun W2 hW2 => fun_row _ _ _ W2 hW2 0 _ rfl))
  rw [show stepL n (fun l => movL n l ((i : Int)).toNat c) l = letMovL n l i c from rfl] at q2
  have hW1' := Lib.hid hW1
  have X1' := Lib.hid X1
  have hbb := Lib.hid (fun (W : World) => box_below W #[.func (.func 211) #[] #[]] 198)
  clear hW1 X1 h hz
  generalize (letMovL n l i c) = R at *
  go_enter Tryz.func204, Tryz.ntmps204
  go_wp2_with fail
  rw [← hW1'.out]
  refine q1.out.mono ?_
  rintro e w2 ⟨rfl, b2⟩
  have X2 := Lib.hid (X1'.out.on b2)
  clear b2 X1' q1
  have k0 := X2.out.z1.cell 0
  have k1 := X2.out.z1.cell 1
  have kl := X2.out.z1.lt
  have hwb := Lib.hid (box_below w2 #[.int .i64 i, .int .i64 i, .int .i64 c] 196)
  have X2b := Lib.hid (X2.out.on hwb.out)
  have p2 := Lib.hid (q2.out _ X2b.out.bl)
  rw [show (w2.alloc (.cells #[.int .i64 i, .int .i64 i, .int .i64 c] 196)).heap.size = w2.heap.size + 1 by simp] at p2
  clear q2
  go_wp2_with fail
  refine p2.out.mono ?_
  rintro e w7 ⟨a7, c7, rfl, hc7, s7, b7, nw7⟩
  have X3 := X2b.out.on (hbb.out _)
  have Zd := X3.z2.below b7 X3.z2.lt
  have y0 := Zd.cell 0
  have y1 := Zd.cell 1
  have f0 := Zd.free 0
  have f1 := Zd.free 1
  have hfin := Lib.hid (zone_put (n := n) (err := 0) X3.bl (by omega) X3.z2 hc7 s7 b7 nw7)
  clear Zd X3 p2
  go_wp2
  exact zone_ret2 hfin.out.1 hfin.out.2.1 _ _ 8 9 rfl rfl rfl rfl
set_option maxRecDepth 100000 in
set_option maxHeartbeats 400000 in
theorem zlet_tie_in (n : Nat) (l : List Int) (hz : IsZ n l) (i j : Nat) (hi0 : 1 ≤ i) (hi : i ≤ n) (hj : j ≤ n) (c : Int) (a : Option Addr) (m ca : Nat) (w : World) (h : SL w a m ca l) (hij : i ≠ j) (hc1 : -4398046511104 < c) (hc2 : c < 4398046511104) : Calls Tryz.prog 204 #[.agg #[.int .i64 n, .slice a m ca], .int .i64 i, .int .i64 j, .int .i64 c] w (ZoneE n (letTieL n l i j c) 0 w) := by
  obtain ⟨W1, hW1⟩ : ∃ W1, W1 = (w.alloc (.cells #[.int .i64 n, .slice a m ca] 51)).alloc (.cells #[.int .i64 0, .slice none 0 0] 51) := ⟨_, rfl⟩
  have X1 : B1 w W1 (.int .i64 n) (.slice a m ca) := by rw [hW1]; exact b1_new _ _ _
  have q1 := Lib.hid (zcheck_any n 1 i j a m ca l W1 (h.below X1.bl))
  rw [chkE_ok hz (by omega) (by omega) (by omega) (by omega)] at q1
  have hn := hz.1
  have hij1 : ((i : Int) == (j : Int)) = false := by simp; omega
  have hij2 : ¬ (i : Int) = (j : Int) := by omega
  have hS := Lib.hid h
  have q2 := Lib.hid (fun W (hW : Below w.heap.size w W) => change_tie n hn l hz a m ca i j c (fun L g cap base W hF hl ho => by simpa using mforget_any n hn i j hi hj c (by omega) g cap base L hl W ho) (fun L g cap base W hF hl ho => by simpa using mtie_any n hn i j hi hj c (by omega) g cap base L hl W ho) (W.alloc (.cells #[.func (.func 212) #[] #[], .func (.func 213) #[] #[]] 198)) ((hS.out.below hW).below (box_below _ _ _)) W.heap.size (by simp) (fun W2 hW2 => ⟨fun_row _ _ _ W2 hW2 0 _ rfl, fun_row _ _ _ W2 hW2 1 _ rfl⟩))
  rw [show stepL n (fun l => tieL n l ((i : Int)).toNat ((j : Int)).toNat c) (stepL n (fun l => forL n l ((i : Int)).toNat) l) = letTieL n l i j c from rfl] at q2
  have hW1' := Lib.hid hW1
  have X1' := Lib.hid X1
  have hbb := Lib.hid (fun (W : World) => box_below W #[.func (.func 212) #[] #[], .func (.func 213) #[] #[]] 198)
  clear hW1 X1 h hz
  generalize (letTieL n l i j c) = R at *
  go_enter Tryz.func204, Tryz.ntmps204
  go_wp2_with fail
  rw [← hW1'.out]
  refine q1.out.mono ?_
  rintro e w2 ⟨rfl, b2⟩
  have X2 := Lib.hid (X1'.out.on b2)
  clear b2 X1' q1
  have k0 := X2.out.z1.cell 0
  have k1 := X2.out.z1.cell 1
  have kl := X2.out.z1.lt
  have hwb := Lib.hid (box_below w2 #[.int .i64 i, .int .i64 j, .int .i64 c] 196)
  have X2b := Lib.hid (X2.out.on hwb.out)
  have p2 := Lib.hid (q2.out _ X2b.out.bl)
  rw [show (w2.alloc (.cells #[.int .i64 i, .int .i64 j, .int .i64 c] 196)).heap.size = w2.heap.size + 1 by simp] at p2
  clear q2
  go_wp2_with fail
  refine p2.out.mono ?_
  rintro e w7 ⟨a7, c7, rfl, hc7, s7, b7, nw7⟩
  have X3 := X2b.out.on (hbb.out _)
  have Zd := X3.z2.below b7 X3.z2.lt
  have y0 := Zd.cell 0
  have y1 := Zd.cell 1
  have f0 := Zd.free 0
  have f1 := Zd.free 1
  have hfin := Lib.hid (zone_put (n := n) (err := 0) X3.bl (by omega) X3.z2 hc7 s7 b7 nw7)
  clear Zd X3 p2
  go_wp2
  exact zone_ret2 hfin.out.1 hfin.out.2.1 _ _ 8 9 rfl rfl rfl rfl
end Go.Proofs.YtimgocfkogebmaaGreatDoor
namespace Go.Proofs.YtimgocfkogebmaaGreatDoor
open Go.RowKit
set_option linter.unusedVariables false
set_option linter.unusedSimpArgs false
def clipV (n : Int) : Int := if 1099511627776 < n then 1099511627776 else if n < -1099511627776 then -1099511627776 else n
theorem clipV_id {n : Int} (h0 : -1099511627776 ≤ n) (h1 : n ≤ 1099511627776) : clipV n = n := by unfold clipV; rw [if_neg (by omega), if_neg (by omega)]
theorem clipV_in (n : Int) : -1099511627776 ≤ clipV n ∧ clipV n ≤ 1099511627776 := by unfold clipV; split <;> (try split) <;> omega
theorem info_itv : (Tryz.prog.info? 101).map (·.size) = some 2 := by kernel_rfl
abbrev HI (w : World) (g : Nat) (x y : Int) : Prop := Holds w g 101 #[.int .i64 x, .int .i64 y]
theorem hi_set {w : World} {g : Nat} {a b : Int} (h : HI w g a b) (x y : Int) : HI ((w.setCell ⟨g, 0, none⟩ (.int .i64 x)).setCell ⟨g, 1, none⟩ (.int .i64 y)) g x y := by
  have h1 := (h.set 0 (.int .i64 x)).set 1 (.int .i64 y)
  simpa using h1
theorem itv_ret {Q : Ending → World → Prop} {w : World} {g : Nat} {x y : Int} (hg : HI w g x y) (hQ : Q (.returned (.agg #[.int .i64 x, .int .i64 y])) w) (act : Act) (f : Func) (n : Nat) (hf : f.results = #[.cell n 101]) (ha : act.tmps.getD n undef = .pointer (some ⟨g, 0, none⟩)) (hd : act.defers = []) :
    bodyPost Tryz.prog f Q Exit.ret act w :=
  bodyPost_ret (results_cell_row hf _ _ g 101 #[.int .i64 x, .int .i64 y] (0, 0) _ ha hg Tryz.underlying101 rfl (by rw [info_itv]; rfl)) hd hQ
def ofP (a b : Int) : Int × Int := if b < a ∨ 1099511627776 < a ∨ b < -1099511627776 then (1, 0) else (clipV a, clipV b)
structure B1i (w W : World) (x y : Value) : Prop where
  bl : Below w.heap.size w W
  z1 : ZH W w.heap.size x y
  z2 : HI W (w.heap.size + 1) 0 0
theorem B1i.on {w W W' : World} {x y : Value} (h : B1i w W x y) (hb : Below W.heap.size W W') : B1i w W' x y := ⟨h.bl.trans (hb.mono h.bl.size), h.z1.below hb h.z1.lt, h.z2.below hb h.z2.lt⟩
end Go.Proofs.YtimgocfkogebmaaGreatDoor
namespace Go.Proofs.YtimgocfkogebmaaGreatDoor
open Go.RowKit
set_option linter.unusedVariables false
set_option linter.unusedSimpArgs false
def ItS (B : Nat) (w : World) (a : Option Addr) (xs : List (Int × Int)) : Prop :=
  xs = [] ∨ ∃ b off, a = some ⟨b, off, none⟩ ∧ b < B ∧ ∀ k, k < xs.length → w.cell? ⟨b, off + k * 2, none⟩ = some (.int .i64 (xs.getD k (0, 0)).1) ∧ w.cell? ⟨b, off + k * 2 + 1, none⟩ = some (.int .i64 (xs.getD k (0, 0)).2)
theorem ItS.below {B : Nat} {w w' : World} {a : Option Addr} {xs : List (Int × Int)} (h : ItS B w a xs) (hb : Below B w w') : ItS B w' a xs := by
  rcases h with h | ⟨b, off, e, hB, h⟩
  · exact .inl h
  · exact .inr ⟨b, off, e, hB, fun k hk => ⟨(hb.cell (p := ⟨b, _, none⟩) hB).trans (h k hk).1, (hb.cell (p := ⟨b, _, none⟩) hB).trans (h k hk).2⟩⟩
theorem ItS.at_ {B : Nat} {w : World} {a : Option Addr} {xs : List (Int × Int)} (h : ItS B w a xs) {k : Nat} (hk : k < xs.length) : ∃ b off, a = some ⟨b, off, none⟩ ∧ b < B ∧ w.cell? ⟨b, off + k * 2, none⟩ = some (.int .i64 (xs.getD k (0, 0)).1) ∧ w.cell? ⟨b, off + k * 2 + 1, none⟩ = some (.int .i64 (xs.getD k (0, 0)).2) := by
  rcases h with h | ⟨b, off, e, hB, h⟩
  · rw [h] at hk; simp at hk
  · exact ⟨b, off, e, hB, (h k hk).1, (h k hk).2⟩
def boxP (xs : List (Int × Int)) (k : Nat) : Int × Int := ofP (xs.getD k (0, 0)).1 (xs.getD k (0, 0)).2
def boxK (n : Nat) (xs : List (Int × Int)) : Nat → List Int
  | 0 => allL n
  | k + 1 => limL n (limL n (boxK n xs k) (k + 1) 0 (boxP xs k).2) 0 (k + 1) (-(clipV (boxP xs k).1))
theorem boxK_len (n : Nat) (xs : List (Int × Int)) (k : Nat) : (boxK n xs k).length = sz n := by
  induction k with
  | zero => exact matL_len _ _
  | succ k ih => simp only [boxK]; rw [limL_len, limL_len, ih]
structure Bq (w W : World) (g gz : Nat) (n : Nat) (s cap : Nat) : Prop where
  bl : Below w.heap.size w W
  hgz : w.heap.size < gz
  hsz : gz + 2 ≤ W.heap.size
  rb : ZH W w.heap.size (.int .i64 0) (.slice none 0 0)
  zb : ZH W gz (.int .i64 n) (.slice (some ⟨g, 0, none⟩) s cap)
  mb : Holds W (gz + 1) 201 #[.int .i64 n, .slice (some ⟨g, 0, none⟩) s cap]
theorem Bq.on {w W W' : World} {g gz n s cap : Nat} (h : Bq w W g gz n s cap) (hb : Below W.heap.size W W') : Bq w W' g gz n s cap := ⟨h.bl.trans (hb.mono h.bl.size), h.hgz, Nat.le_trans h.hsz hb.size, h.rb.below hb h.rb.lt, h.zb.below hb h.zb.lt, h.mb.below hb h.mb.lt⟩
theorem Bq.onE {w W W' : World} {g gz n s cap : Nat} (h : Bq w W g gz n s cap) (hg : w.heap.size < g) (hgz : g < gz) (hb : BelowE [g] W.heap.size W W') : Bq w W' g gz n s cap :=
  ⟨h.bl.trans (BelowE.none ((hb.mono h.bl.size).less (by intro x hx hlt; simp at hx; omega))), h.hgz, Nat.le_trans h.hsz hb.size, h.rb.belowE hb h.rb.lt (by simp; omega), h.zb.belowE hb h.zb.lt (by simp; omega), h.mb.belowE hb h.mb.lt (by simp; omega)⟩
theorem Bq.set {w W : World} {g gz n s cap q : Nat} (h : Bq w W g gz n s cap) (hq : gz + 2 ≤ q) (u v : Value) : Bq w ((W.setCell ⟨q, 0, none⟩ u).setCell ⟨q, 1, none⟩ v) g gz n s cap :=
  ⟨(h.bl.setCell (p := ⟨q, 0, none⟩) (by have := h.hgz; show _ ≤ q; omega) _).setCell (p := ⟨q, 1, none⟩) (by have := h.hgz; show _ ≤ q; omega) _, h.hgz, by simpa using h.hsz,
   (h.rb.far (p := ⟨q, 0, none⟩) (by have := h.hgz; show _ ≠ q; omega) _).far (p := ⟨q, 1, none⟩) (by have := h.hgz; show _ ≠ q; omega) _, (h.zb.far (p := ⟨q, 0, none⟩) (by show _ ≠ q; omega) _).far (p := ⟨q, 1, none⟩) (by show _ ≠ q; omega) _, (h.mb.far (p := ⟨q, 0, none⟩) (by show _ ≠ q; omega) _).far (p := ⟨q, 1, none⟩) (by show _ ≠ q; omega) _⟩
end Go.Proofs.YtimgocfkogebmaaGreatDoor
namespace Go.Proofs.YtimgocfkogebmaaGreatDoor
open Go.RowKit
set_option linter.unusedVariables false
set_option linter.unusedSimpArgs false
theorem b1_new2 (w : World) (x y x2 y2 : Value) : Below w.heap.size w ((w.alloc (.cells #[x, y] 51)).alloc (.cells #[x2, y2] 51)) ∧ ZH ((w.alloc (.cells #[x, y] 51)).alloc (.cells #[x2, y2] 51)) (w.heap.size + 1) x2 y2 := by
  refine ⟨box2_below _ _ _ _ _, ?_⟩
  have := Holds.new (w.alloc (.cells #[x, y] 51)) 51 #[x2, y2]
  simpa using this
theorem rlim_nil (n : Nat) (i j c : Int) (a : Option Addr) (ca : Nat) (w : World) : Calls Tryz.prog 92 #[.agg #[.int .i64 n, .slice a 0 ca], .int .i64 i, .int .i64 j, .int .i64 c] w (ZoneN n [] w) := by
  obtain ⟨hb, hz⟩ := b1_new2 w (.int .i64 n) (.slice a 0 ca) (.int .i64 n) (.slice a 0 ca)
  have hb' := Lib.hid hb
  have hz' := Lib.hid hz
  clear hb hz
  go_enter Tryz.func92, Tryz.ntmps92
  go_wp2
  exact zone_ret hz'.out ⟨a, 0, ca, rfl, ⟨rfl, Nat.zero_le _, by omega, .inl rfl⟩, hb'.out, .inl rfl⟩ _ _ 8 rfl rfl rfl
set_option maxRecDepth 100000 in
set_option maxHeartbeats 1000000 in
theorem rlim_full (n : Nat) (l : List Int) (hF : Full n l) (i j : Nat) (hi : i ≤ n) (hj : j ≤ n) (c : Int) (a : Option Addr) (m ca : Nat) (w : World) (h : SL w a m ca l) : Calls Tryz.prog 92 #[.agg #[.int .i64 n, .slice a m ca], .int .i64 i, .int .i64 j, .int .i64 c] w (ZoneN n (closedL n (limL n l i j c)) w) := by
  obtain ⟨i0, hii, hz0, hz1, hz2⟩ := info_parts zinfoInt
  obtain ⟨W1, hW1⟩ : ∃ W1, W1 = (w.alloc (.cells #[.int .i64 n, .slice a m ca] 51)).alloc (.cells #[.int .i64 0, .slice none 0 0] 51) := ⟨_, rfl⟩
  have X1 : B1 w W1 (.int .i64 n) (.slice a m ca) := by rw [hW1]; exact b1_new _ _ _
  have hpos := sz_pos n
  have hs81 := sz_le hF.le
  have hm : m = sz n := by rw [h.len, hF.len]
  have p1 : ((m : Int) == 0) = false := by simp; omega
  have p2 : ¬ (m : Int) = 0 := by omega
  obtain ⟨p, q, u1, u2, u3, hq, hqs, -, -, -⟩ := place_wraps hF.le hi hj
  have hqm : (q : Int) < (m : Int) := by omega
  have hL : limL n l i j c = l.set q (min (l.getD q 0) c) := by unfold limL; rw [hq]
  have hrc := Lib.hid (fun b cb W (hs : Sees .i64 W.heap.size W b (limL n l i j c)) => rclose_any n hF.le b (limL n l i j c) m cb (by rw [limL_len, hF.len, hm]) hm W hs)
  have hsm : Hid ((closedL n (limL n l i j c)).length ≤ 1000) := Lib.hid (by have := closed_small hF.le (limL n l i j c); omega)
  have hlm := Lib.hid (show l.length = m by rw [hF.len, hm])
  have hmb : m ≤ 81 := by omega
  have hS := Lib.hid (h.below X1.bl)
  have X1' := Lib.hid X1
  have k0 := X1.z1.cell 0
  have k1 := X1.z1.cell 1
  have hW1' := Lib.hid hW1
  have hbe : Hid (Below W1.heap.size W1 (W1.alloc (.cells #[] 3))) := Lib.hid (box_below _ _ _)
  have hsz1 : Hid (W1.heap.size = w.heap.size + 1 + 1) := Lib.hid (by rw [hW1]; simp)
  have hm0 : Hid (m ≠ 0) := Lib.hid (by omega)
  obtain ⟨x, hx⟩ : ∃ x, x = l.getD q 0 := ⟨_, rfl⟩
  have hxl : Hid (l.getD q 0 = x) := Lib.hid hx.symm
  have hLlt : Hid (c < x → limL n l i j c = l.set q c) := Lib.hid (fun hc => by rw [hL, ← hx, show min x c = c by omega])
  have hLge : Hid (¬ c < x → limL n l i j c = l) := Lib.hid (fun hc => by
    rw [hL, ← hx, show min x c = x by omega, hx]
    apply List.ext_getElem (by simp)
    intro t h1 h2
    rw [List.getElem_set]
    split
    · rename_i e; subst e; simp [List.getD, h2]
    · rfl)
  have hgoal : Hid (∀ (g cap : Nat) (W : World), B1 w W (.int .i64 n) (.slice a m ca) → W.ownsRow W1.heap.size 3 1 (.slice (some ⟨g, 0, none⟩) m cap) m (nums .i64 (limL n l i j c)) → Calls Tryz.prog 116 #[.int .i64 n, .slice (some ⟨g, 0, none⟩) m cap] W (fun e w' => ∃ a7 m7 c7, e = .returned (.agg #[.int .i64 n, .slice a7 m7 c7]) ∧ B1 w w' (.int .i64 n) (.slice a m ca) ∧ SL w' a7 m7 c7 (closedL n (limL n l i j c)) ∧ ZH ((w'.setCell ⟨w.heap.size + 1, 0, none⟩ (.int .i64 n)).setCell ⟨w.heap.size + 1, 1, none⟩ (.slice a7 m7 c7)) (w.heap.size + 1) (.int .i64 n) (.slice a7 m7 c7) ∧ ZoneN n (closedL n (limL n l i j c)) w (.returned (.agg #[.int .i64 n, .slice a7 m7 c7])) ((w'.setCell ⟨w.heap.size + 1, 0, none⟩ (.int .i64 n)).setCell ⟨w.heap.size + 1, 1, none⟩ (.slice a7 m7 c7)))) := Lib.hid (fun g cap W hX hO => by
    obtain ⟨b, cb, hv, -, ss⟩ := sees_own hO
    injection hv with e1 e2 e3
    subst e1 e3
    refine (hrc.out _ cap W ss).mono ?_
    intro e w7 hz7
    obtain ⟨a7, m7, c7, rfl, s7, b7, nw7⟩ := zoneN_of hsm.out hz7
    obtain ⟨f1, f2⟩ := zone_putN (n := n) hX.bl (by omega) hX.z2 s7 b7 nw7
    exact ⟨a7, m7, c7, rfl, hX.on b7, s7, f1, f2⟩)
  clear hW1 X1 h hF hm hpos hq hqs hL hx hrc hsm
  generalize limL n l i j c = L at *
  generalize closedL n L = R at *
  by_cases hc : c < x
  · have hLe := Lib.hid (hLlt.out hc)
    clear hLlt hLge
    go_enter Tryz.func92, Tryz.ntmps92
    go_wp2_with (at_builtin; rw [← hW1'.out]; refine wpList_append_sees _ rfl (.tmp 16) (.tmp 18) 49 rfl W1 3 i0 (.int .i64 0) 8 Tryz.underlying49 hii hz0 hz1 hz2 rfl .i64 _ [] (by exact own_empty 3 .i64 (Below.refl _ W1)) (by exact hbe.out) W1.heap.size a l (by exact hS.out.sees.below hbe.out) m ca hS.out.len (by rw [hsz1.out]; rfl) rfl (by have := hlm.out; simp; omega) (by omega) ?_; intro v2 w2 hown2 hw2; simp only [List.nil_append] at hown2; rw [hlm.out] at hown2; obtain ⟨g, cap, rfl, hg⟩ := own_some hown2 hm0.out; have m0 := own_at hown2 (i := q) (by have := hlm.out; omega); rw [hxl.out] at m0; have mf := hown2.frozenAt q; have X2 := Lib.hid (X1'.out.on hw2); have d0 := X2.out.z1.cell 0; have d1 := X2.out.z1.cell 1; have O2 := Lib.hid hown2; have d2 : (w2.setCell ⟨g, q, none⟩ (.int .i64 c)).cell? ⟨w.heap.size, 0, none⟩ = some (.int .i64 n) := (World.cell?_setCell_far w2 ⟨g, q, none⟩ ⟨w.heap.size, 0, none⟩ (.int .i64 c) (by have := hsz1.out; show g ≠ w.heap.size; omega)).trans d0; clear hown2 hw2 k0 k1)
    have hB1 : Hid (B1 w (w2.setCell ⟨g, q, none⟩ (.int .i64 c)) (.int .i64 n) (.slice a m ca)) := Lib.hid (by
      have hE : BelowE [g] w2.heap.size w2 (w2.setCell ⟨g, q, none⟩ (.int .i64 c)) := (BelowE.refl _ _ _).setIn (p := ⟨g, q, none⟩) (by simp) _
      have := hsz1.out
      exact ⟨X2.out.bl.setCell (p := ⟨g, q, none⟩) (by show _ ≤ g; omega) _, X2.out.z1.belowE hE X2.out.z1.lt (by simp; omega), X2.out.z2.belowE hE X2.out.z2.lt (by simp; omega)⟩)
    have hcall := Lib.hid (hgoal.out g cap _ hB1.out (by rw [hLe.out]; exact own_put O2.out q c))
    refine hcall.out.mono ?_
    rintro e w7 ⟨a7, m7, c7, rfl, Y, s7, z1, z2⟩
    have y0 := Y.z2.cell 0
    have y1 := Y.z2.cell 1
    have f0 := Y.z2.free 0
    have f1 := Y.z2.free 1
    have z1' := Lib.hid z1
    have z2' := Lib.hid z2
    clear Y s7 z1 z2
    go_wp2
    exact zone_ret z1'.out z2'.out _ _ 8 rfl rfl rfl
  · have hLe := Lib.hid (hLge.out hc)
    clear hLlt hLge
    go_enter Tryz.func92, Tryz.ntmps92
    go_wp2_with (at_builtin; rw [← hW1'.out]; refine wpList_append_sees _ rfl (.tmp 16) (.tmp 18) 49 rfl W1 3 i0 (.int .i64 0) 8 Tryz.underlying49 hii hz0 hz1 hz2 rfl .i64 _ [] (by exact own_empty 3 .i64 (Below.refl _ W1)) (by exact hbe.out) W1.heap.size a l (by exact hS.out.sees.below hbe.out) m ca hS.out.len (by rw [hsz1.out]; rfl) rfl (by have := hlm.out; simp; omega) (by omega) ?_; intro v2 w2 hown2 hw2; simp only [List.nil_append] at hown2; rw [hlm.out] at hown2; obtain ⟨g, cap, rfl, hg⟩ := own_some hown2 hm0.out; have m0 := own_at hown2 (i := q) (by have := hlm.out; omega); rw [hxl.out] at m0; have mf := hown2.frozenAt q; have X2 := Lib.hid (X1'.out.on hw2); have d0 := X2.out.z1.cell 0; have d1 := X2.out.z1.cell 1; have O2 := Lib.hid hown2; have B2' := Lib.hid hw2; clear hown2 hw2 k0 k1)
    have hcall := Lib.hid (hgoal.out g cap _ X2.out (by rw [hLe.out]; exact O2.out))
    refine hcall.out.mono ?_
    rintro e w7 ⟨a7, m7, c7, rfl, Y, s7, z1, z2⟩
    have y0 := Y.z2.cell 0
    have y1 := Y.z2.cell 1
    have f0 := Y.z2.free 0
    have f1 := Y.z2.free 1
    have z1' := Lib.hid z1
    have z2' := Lib.hid z2
    clear Y s7 z1 z2
    go_wp2
    exact zone_ret z1'.out z2'.out _ _ 8 rfl rfl rfl
theorem rnone_any (w : World) : Calls Tryz.prog 194 #[] w (Gives (.agg #[.int .i64 1, .int .i64 0]) w) := by
  go_enter Tryz.func194, Tryz.ntmps194
  go_wp2
  exact itv_ret (Holds.new w _ _) ⟨rfl, box_below _ _ _⟩ _ _ 0 rfl rfl rfl
end Go.Proofs.YtimgocfkogebmaaGreatDoor
namespace Go.Proofs.YtimgocfkogebmaaGreatDoor
open Go.RowKit
set_option linter.unusedVariables false
set_option linter.unusedSimpArgs false
theorem rlim_any (n : Nat) (l : List Int) (hz : IsZ n l) (i j : Nat) (hi : i ≤ n) (hj : j ≤ n) (c : Int) (a : Option Addr) (m ca : Nat) (w : World) (h : SL w a m ca l) : Calls Tryz.prog 92 #[.agg #[.int .i64 n, .slice a m ca], .int .i64 i, .int .i64 j, .int .i64 c] w (ZoneN n (limitL n l i j c) w) := by
  unfold limitL stepL
  rcases hz.2 with e | hF
  · subst e
    have hm : m = 0 := by rw [h.len]; rfl
    subst hm
    rw [if_pos rfl]
    exact rlim_nil n i j c a ca w
  · rw [if_neg hF.ne]
    exact rlim_full n l hF i j hi hj c a m ca w h
end Go.Proofs.YtimgocfkogebmaaGreatDoor
namespace Go.Proofs.YtimgocfkogebmaaGreatDoor
open Go.RowKit
set_option linter.unusedVariables false
set_option linter.unusedSimpArgs false
theorem B1.set {w W : World} {x y : Value} (h : B1 w W x y) {g : Nat} (hg : w.heap.size + 2 ≤ g) (o : Nat) (u : Value) : B1 w (W.setCell ⟨g, o, none⟩ u) x y := by
  have hE : BelowE [g] W.heap.size W (W.setCell ⟨g, o, none⟩ u) := (BelowE.refl _ _ _).setIn (p := ⟨g, o, none⟩) (by simp) _
  exact ⟨h.bl.setCell (p := ⟨g, o, none⟩) (by show _ ≤ g; omega) _, h.z1.belowE hE h.z1.lt (by simp; omega), h.z2.belowE hE h.z2.lt (by simp; omega)⟩
end Go.Proofs.YtimgocfkogebmaaGreatDoor
namespace Go.Proofs.YtimgocfkogebmaaGreatDoor
open Go.RowKit
set_option linter.unusedVariables false
set_option linter.unusedSimpArgs false
theorem limL_at {n : Nat} {l : List Int} (hl : l.length = sz n) {i j : Nat} (hi : i ≤ n) (hj : j ≤ n) (c : Int) {a b : Nat} (ha : a ≤ n) (hb : b ≤ n) : mat n (limL n l i j c) a b = if a = i ∧ b = j then min (mat n l i j) c else mat n l a b := by
  have hp : i * (n + 1) + j < l.length := by rw [hl]; exact place_lt hi hj
  by_cases e : a = i ∧ b = j
  · obtain ⟨rfl, rfl⟩ := e
    rw [if_pos ⟨rfl, rfl⟩]
    unfold mat limL
    simp [List.getD, hp]
  · rw [if_neg e]
    have hne : i * (n + 1) + j ≠ a * (n + 1) + b := by
      intro h
      have h1 := congrArg (fun x => x % (n + 1)) h
      have h2 := congrArg (fun x => x / (n + 1)) h
      simp only [place_mod hj, place_mod hb] at h1
      simp only [place_div hj, place_div hb] at h2
      exact e ⟨h2.symm, h1.symm⟩
    unfold mat limL
    simp [List.getD, List.getElem?_set, hne]
def Lies (n : Nat) (D A : List Int) : Prop := A ≠ [] ∧ Leq n (mat n D) (mat n A)
theorem lies_ext {n : Nat} {A B : List Int} (hA : IsZ n A) (hB : IsZ n B) (h : ∀ D, Full n D → (Lies n D A ↔ Lies n D B)) : A = B := by
  rcases hA.2 with eA | fA
  · rcases hB.2 with eB | fB
    · rw [eA, eB]
    · have := ((h B fB).2 ⟨fB.ne, fun i j _ _ => Int.le_refl _⟩).1
      exact absurd eA this
  · have h1 := (h A fA).1 ⟨fA.ne, fun i j _ _ => Int.le_refl _⟩
    have fB := hB.2.resolve_left h1.1
    have h2 := (h B fB).2 ⟨fB.ne, fun i j _ _ => Int.le_refl _⟩
    exact mat_ext fA.len fB.len (fun i j hi hj => Int.le_antisymm (h1.2 i j hi hj) (h2.2 i j hi hj))
theorem full_in {n : Nat} {D : List Int} (hD : Full n D) {i j : Nat} (hi : i ≤ n) (hj : j ≤ n) : mat n D i j ≤ widestF i j ∧ -2199023255552 ≤ mat n D i j := by
  have a := hD.up hi hj
  have b := hD.low hi hj
  have c := widestF_le j i
  omega
theorem lies_step {n : Nat} {D X : List Int} (hD : Full n D) (hX : IsZ n X) (f : List Int → List Int) (P : Prop) (hf : X ≠ [] → ((∀ i j, i ≤ n → j ≤ n → mat n D i j ≤ mat n (f X) i j) ↔ Leq n (mat n D) (mat n X) ∧ P)) : Lies n D (stepL n f X) ↔ Lies n D X ∧ P := by
  unfold stepL
  by_cases e : X = []
  · rw [if_pos e]
    constructor
    · intro h; exact absurd rfl h.1
    · intro h; exact absurd e h.1.1
  · rw [if_neg e]
    have hc : Leq n (mat n D) (mat n (clipL n (f X))) ↔ ∀ i j, i ≤ n → j ≤ n → mat n D i j ≤ mat n (f X) i j := by
      constructor
      · intro h i j hi hj
        have a := h i j hi hj
        unfold clipL at a
        rw [mat_matL _ hi hj] at a
        unfold clipF at a
        have := full_in hD hi hj
        omega
      · intro h i j hi hj
        have a := h i j hi hj
        have := full_in hD hi hj
        unfold clipL
        rw [mat_matL _ hi hj]
        unfold clipF
        omega
    constructor
    · intro h
      obtain ⟨-, -, h5⟩ := closedL_is h.1
      obtain ⟨q1, q2⟩ := (hf e).1 (hc.1 (fun i j hi hj => Int.le_trans (h.2 i j hi hj) (h5 i j hi hj)))
      exact ⟨⟨e, q1⟩, q2⟩
    · rintro ⟨⟨-, h1⟩, h2⟩
      obtain ⟨q1, q2⟩ := closedL_max hD.closed (hc.2 ((hf e).2 ⟨h1, h2⟩))
      exact ⟨closedL_ne q1, q2⟩
theorem lim_leq {n : Nat} {D l : List Int} (hl : l.length = sz n) {i j : Nat} (hi : i ≤ n) (hj : j ≤ n) (c : Int) : (∀ a b, a ≤ n → b ≤ n → mat n D a b ≤ mat n (limL n l i j c) a b) ↔ Leq n (mat n D) (mat n l) ∧ mat n D i j ≤ c := by
  constructor
  · intro h
    refine ⟨fun a b ha hb => ?_, ?_⟩
    · have q := h a b ha hb
      rw [limL_at hl hi hj c ha hb] at q
      split at q
      · rename_i e; obtain ⟨rfl, rfl⟩ := e; omega
      · exact q
    · have q := h i j hi hj
      rw [limL_at hl hi hj c hi hj, if_pos ⟨rfl, rfl⟩] at q
      omega
  · rintro ⟨h1, h2⟩ a b ha hb
    have q := h1 a b ha hb
    rw [limL_at hl hi hj c ha hb]
    split
    · rename_i e; obtain ⟨rfl, rfl⟩ := e; omega
    · exact q
theorem lies_limit {n : Nat} {D X : List Int} (hD : Full n D) (hX : IsZ n X) {i j : Nat} (hi : i ≤ n) (hj : j ≤ n) (c : Int) : Lies n D (limitL n X i j c) ↔ Lies n D X ∧ mat n D i j ≤ c :=
  lies_step hD hX _ _ (fun e => lim_leq (hX.2.resolve_left e).len hi hj c)
theorem lies_tie {n : Nat} {D X : List Int} (hD : Full n D) (hX : IsZ n X) {i j : Nat} (hi : i ≤ n) (hj : j ≤ n) (c : Int) : Lies n D (stepL n (fun l => tieL n l i j c) X) ↔ Lies n D X ∧ mat n D i j ≤ c ∧ mat n D j i ≤ -c :=
  lies_step hD hX _ _ (fun e => by
    have hl := (hX.2.resolve_left e).len
    show (∀ a b, a ≤ n → b ≤ n → mat n D a b ≤ mat n (limL n (limL n X i j c) j i (-c)) a b) ↔ _
    rw [lim_leq (by rw [limL_len, hl]) hj hi (-c), ← and_assoc]
    refine and_congr_left fun _ => ?_
    exact lim_leq hl hi hj c)
theorem tie_far {n : Nat} (hn : n ≤ 8) (l : List Int) {i j : Nat} (hi : i ≤ n) (hj : j ≤ n) (c : Int) (hc : 2199023255552 < c ∨ c < -2199023255552) : letTieL n l i j c = [] := by
  have hX : IsZ n (forgetL n l i) := stepL_isz hn _ _
  have hA : IsZ n (letTieL n l i j c) := stepL_isz hn _ _
  rcases hA.2 with e | fA
  · exact e
  · have h := (lies_tie fA hX hi hj c).1 ⟨fA.ne, fun a b _ _ => Int.le_refl _⟩
    have h1 := full_in fA hi hj
    have h2 := full_in fA hj hi
    have h3 := widestF_le i j
    have h4 := widestF_le j i
    obtain ⟨-, r1, r2⟩ := h
    omega
end Go.Proofs.YtimgocfkogebmaaGreatDoor
namespace Go.Proofs.YtimgocfkogebmaaGreatDoor
open Go.RowKit
set_option linter.unusedVariables false
set_option linter.unusedSimpArgs false
theorem mov_far {n : Nat} {l : List Int} (hz : IsZ n l) {i : Nat} (hi0 : 1 ≤ i) (hi : i ≤ n) (c : Int) (hc : 2199023255552 < c ∨ c < -2199023255552) : letMovL n l i c = [] := by
  unfold letMovL stepL
  split
  · rfl
  · rename_i hne
    have hF := hz.2.resolve_left hne
    by_cases e : closedL n (movL n l i c) = []
    · exact e
    · have fA := closed_full hF.le e
      obtain ⟨-, -, h5⟩ := closedL_is e
      have hlen : l.length = (n + 1) * (n + 1) := hF.len
      have a1 := h5 i 0 hi (Nat.zero_le n)
      have a2 := h5 0 i (Nat.zero_le n) hi
      unfold clipL at a1 a2
      rw [mat_matL _ hi (Nat.zero_le n)] at a1
      rw [mat_matL _ (Nat.zero_le n) hi] at a2
      unfold clipF at a1 a2
      rw [show mat n (movL n l i c) i 0 = _ from othK_at (F := fun x => x + c) (G := fun x => x - c) hi hlen (n + 1) (by omega) i 0 hi (Nat.zero_le n), if_pos (by omega)] at a1
      rw [show mat n (movL n l i c) 0 i = _ from othK_at (F := fun x => x + c) (G := fun x => x - c) hi hlen (n + 1) (by omega) 0 i (Nat.zero_le n) hi, if_neg (by omega), if_pos (by omega)] at a2
      have b1 := fA.low hi (Nat.zero_le n)
      have b2 := fA.low (Nat.zero_le n) hi
      have c1 := hF.up hi (Nat.zero_le n)
      have c2 := hF.up (Nat.zero_le n) hi
      have w1 : widestF i 0 = 1099511627776 := by unfold widestF; rw [if_neg (by omega), if_pos (by omega)]
      have w2 : widestF 0 i = 1099511627776 := by unfold widestF; rw [if_neg (by omega), if_pos (by omega)]
      omega
def letL (n : Nat) (l : List Int) (i j : Nat) (c : Int) : List Int := if i = j then letMovL n l i c else letTieL n l i j c
theorem letL_isz {n : Nat} (hn : n ≤ 8) (l : List Int) (i j : Nat) (c : Int) : IsZ n (letL n l i j c) := by
  unfold letL
  split
  · exact stepL_isz hn _ _
  · exact stepL_isz hn _ _
theorem letL_far {n : Nat} {l : List Int} (hz : IsZ n l) {i j : Nat} (hi0 : 1 ≤ i) (hi : i ≤ n) (hj : j ≤ n) (c : Int) (hc : 2199023255552 < c ∨ c < -2199023255552) : letL n l i j c = [] := by
  unfold letL
  split
  · exact mov_far hz hi0 hi c hc
  · exact tie_far hz.1 l hi hj c hc
theorem zlet_ok (n : Nat) (l : List Int) (hz : IsZ n l) (i j : Nat) (hi0 : 1 ≤ i) (hi : i ≤ n) (hj : j ≤ n) (c : Int) (a : Option Addr) (m ca : Nat) (w : World) (h : SL w a m ca l) : Calls Tryz.prog 204 #[.agg #[.int .i64 n, .slice a m ca], .int .i64 i, .int .i64 j, .int .i64 c] w (ZoneE n (letL n l i j c) 0 w) := by
  by_cases hij : i = j
  · subst hij
    by_cases h1 : c ≤ -4398046511104
    · have := zlet_mov_lo n l hz i hi0 hi c a m ca w h h1
      rw [mov_far hz hi0 hi _ (by omega)] at this
      rw [letL_far hz hi0 hi hj c (by omega)]
      exact this
    · by_cases h2 : 4398046511104 ≤ c
      · have := zlet_mov_hi n l hz i hi0 hi c a m ca w h h2
        rw [mov_far hz hi0 hi _ (by omega)] at this
        rw [letL_far hz hi0 hi hj c (by omega)]
        exact this
      · unfold letL
        rw [if_pos rfl]
        exact zlet_mov_in n l hz i hi0 hi c a m ca w h (by omega) (by omega)
  · by_cases h1 : c ≤ -4398046511104
    · have := zlet_tie_lo n l hz i j hi0 hi hj c a m ca w h hij h1
      rw [tie_far hz.1 l hi hj _ (by omega)] at this
      rw [letL_far hz hi0 hi hj c (by omega)]
      exact this
    · by_cases h2 : 4398046511104 ≤ c
      · have := zlet_tie_hi n l hz i j hi0 hi hj c a m ca w h hij h2
        rw [tie_far hz.1 l hi hj _ (by omega)] at this
        rw [letL_far hz hi0 hi hj c (by omega)]
        exact this
      · unfold letL
        rw [if_neg hij]
        exact zlet_tie_in n l hz i j hi0 hi hj c a m ca w h hij (by omega) (by omega)
end Go.Proofs.YtimgocfkogebmaaGreatDoor
namespace Go.Proofs.YtimgocfkogebmaaGreatDoor
open Go.RowKit
set_option linter.unusedVariables false
set_option linter.unusedSimpArgs false
def Has (n : Nat) (l v : List Int) : Prop := l ≠ [] ∧ v.any farB = false ∧ Leq n (difF v) (mat n l)
theorem has_closed {n : Nat} {m v : List Int} : Has n (closedL n m) v ↔ v.any farB = false ∧ Leq n (difF v) (mat n m) := by
  constructor
  · rintro ⟨h1, h2, h3⟩
    refine ⟨h2, (dif_clip h2).1 fun i j hi hj => ?_⟩
    exact Int.le_trans (h3 i j hi hj) ((closedL_is h1).2.2 i j hi hj)
  · rintro ⟨h1, h2⟩
    obtain ⟨q1, q2⟩ := closedL_max (dif_closed n v) ((dif_clip h1).2 h2)
    exact ⟨closedL_ne q1, h1, q2⟩
theorem has_step {n : Nat} {X v : List Int} (f : List Int → List Int) : Has n (stepL n f X) v ↔ X ≠ [] ∧ v.any farB = false ∧ Leq n (difF v) (mat n (f X)) := by
  unfold stepL
  by_cases e : X = []
  · rw [if_pos e]
    constructor
    · intro h; exact absurd rfl h.1
    · intro h; exact absurd e h.1
  · rw [if_neg e, has_closed]
    constructor
    · intro h; exact ⟨e, h⟩
    · intro h; exact h.2
theorem lim_leqF {n : Nat} {D : Nat → Nat → Int} {l : List Int} (hl : l.length = sz n) {i j : Nat} (hi : i ≤ n) (hj : j ≤ n) (c : Int) : Leq n D (mat n (limL n l i j c)) ↔ Leq n D (mat n l) ∧ D i j ≤ c := by
  constructor
  · intro h
    refine ⟨fun a b ha hb => ?_, ?_⟩
    · have q := h a b ha hb
      rw [limL_at hl hi hj c ha hb] at q
      split at q
      · rename_i e; obtain ⟨rfl, rfl⟩ := e; omega
      · exact q
    · have q := h i j hi hj
      rw [limL_at hl hi hj c hi hj, if_pos ⟨rfl, rfl⟩] at q
      omega
  · rintro ⟨h1, h2⟩ a b ha hb
    have q := h1 a b ha hb
    rw [limL_at hl hi hj c ha hb]
    split
    · rename_i e; obtain ⟨rfl, rfl⟩ := e; omega
    · exact q
theorem has_limit {n : Nat} {X v : List Int} (hX : IsZ n X) {i j : Nat} (hi : i ≤ n) (hj : j ≤ n) (c : Int) : Has n (limitL n X i j c) v ↔ Has n X v ∧ difF v i j ≤ c := by
  unfold limitL
  rw [has_step]
  unfold Has
  constructor
  · rintro ⟨h1, h2, h3⟩
    have := (lim_leqF (hX.2.resolve_left h1).len hi hj c).1 h3
    exact ⟨⟨h1, h2, this.1⟩, this.2⟩
  · rintro ⟨⟨h1, h2, h3⟩, h4⟩
    exact ⟨h1, h2, (lim_leqF (hX.2.resolve_left h1).len hi hj c).2 ⟨h3, h4⟩⟩
end Go.Proofs.YtimgocfkogebmaaGreatDoor
namespace Go.Proofs.YtimgocfkogebmaaGreatDoor
open Go.RowKit
set_option linter.unusedVariables false
set_option linter.unusedSimpArgs false
theorem forgetL_isz {n : Nat} (hn : n ≤ 8) (l : List Int) (i : Nat) : IsZ n (forgetL n l i) := stepL_isz hn _ _
theorem limitL_isz {n : Nat} (hn : n ≤ 8) (l : List Int) (i j : Nat) (c : Int) : IsZ n (limitL n l i j c) := stepL_isz hn _ _
end Go.Proofs.YtimgocfkogebmaaGreatDoor
namespace Go.Proofs.YtimgocfkogebmaaGreatDoor
open Go.RowKit
set_option linter.unusedVariables false
set_option linter.unusedSimpArgs false
structure P3 (w W : World) (zn zm : Value) (st : Array Value) (rn rm : Value) : Prop where
  bl : Below w.heap.size w W
  z : ZH W w.heap.size zn zm
  s : Holds W (w.heap.size + 1) 73 st
  r : ZH W (w.heap.size + 2) rn rm
theorem P3.on {w W W' : World} {zn zm rn rm : Value} {st : Array Value} (h : P3 w W zn zm st rn rm) (hb : Below W.heap.size W W') : P3 w W' zn zm st rn rm :=
  ⟨h.bl.trans (hb.mono h.bl.size), h.z.below hb h.z.lt, h.s.below hb h.s.lt, h.r.below hb h.r.lt⟩
theorem p3_new (w : World) (zn zm : Value) (st : Array Value) : P3 w (((w.alloc (.cells #[zn, zm] 51)).alloc (.cells st 73)).alloc (.cells #[.int .i64 0, .slice none 0 0] 51)) zn zm st (.int .i64 0) (.slice none 0 0) := by
  refine ⟨((box_below _ _ _).alloc (by simp) _).alloc (by simp; omega) _, ((Holds.new w _ _).alloc _).alloc _, ?_, ?_⟩
  · have := (Holds.new (w.alloc (.cells #[zn, zm] 51)) 73 st).alloc (.cells #[.int .i64 0, .slice none 0 0] 51)
    simpa using this
  · have := Holds.new ((w.alloc (.cells #[zn, zm] 51)).alloc (.cells st 73)) 51 #[.int .i64 0, .slice none 0 0]
    simpa using this
theorem P3.setz {w W : World} {zn zm rn rm : Value} {st : Array Value} (h : P3 w W zn zm st rn rm) (u v : Value) : P3 w ((W.setCell ⟨w.heap.size, 0, none⟩ u).setCell ⟨w.heap.size, 1, none⟩ v) u v st rn rm :=
  ⟨(h.bl.setCell (p := ⟨w.heap.size, 0, none⟩) (Nat.le_refl _) _).setCell (p := ⟨w.heap.size, 1, none⟩) (Nat.le_refl _) _, zh_set h.z _ _, (h.s.far (p := ⟨w.heap.size, 0, none⟩) (by simp) _).far (p := ⟨w.heap.size, 1, none⟩) (by simp) _, (h.r.far (p := ⟨w.heap.size, 0, none⟩) (by simp) _).far (p := ⟨w.heap.size, 1, none⟩) (by simp) _⟩
set_option maxRecDepth 100000 in
set_option maxHeartbeats 400000 in
theorem let_any (n : Nat) (l : List Int) (hz : IsZ n l) (k x y c d : Int) (X Y : Nat) (ex : x = X) (ey : y = Y) (hx0 : 1 ≤ X) (hx : X ≤ n) (hy : Y ≤ n) (a : Option Addr) (m ca : Nat) (w : World) (h : SL w a m ca l) : Calls Tryz.prog 185 #[.agg #[.int .i64 n, .slice a m ca], .agg #[.int .i64 k, .int .i64 x, .int .i64 y, .int .i64 c, .int .i64 d]] w (ZoneE n (letL n l X Y c) 0 w) := by
  obtain ⟨W1, hW1⟩ : ∃ W1, W1 = ((w.alloc (.cells #[.int .i64 n, .slice a m ca] 51)).alloc (.cells #[.int .i64 k, .int .i64 x, .int .i64 y, .int .i64 c, .int .i64 d] 73)).alloc (.cells #[.int .i64 0, .slice none 0 0] 51) := ⟨_, rfl⟩
  have X1 : P3 w W1 (.int .i64 n) (.slice a m ca) #[.int .i64 k, .int .i64 x, .int .i64 y, .int .i64 c, .int .i64 d] (.int .i64 0) (.slice none 0 0) := by rw [hW1]; exact p3_new _ _ _ _
  have hW1' := Lib.hid hW1
  have XP := Lib.hid X1
  have k0 := X1.z.cell 0
  have k1 := X1.z.cell 1
  have s1 := X1.s.cell 1
  have s2 := X1.s.cell 2
  have s3 := X1.s.cell 3
  have s4 := X1.s.cell 4
  subst ex ey
  have q := Lib.hid ((fun W hs => zlet_ok n l hz X Y hx0 hx hy c a m ca W hs) W1 (h.below X1.bl))
  clear hW1 X1 h hz
  generalize (letL n l X Y c) = R at *
  go_enter Tryz.func185, Tryz.ntmps185
  go_wp2_with fail
  rw [← hW1'.out]
  refine q.out.mono ?_
  rintro e w7 ⟨a7, c7, rfl, hc7, s7, b7, nw7⟩
  have Zd := XP.out.r.below b7 XP.out.r.lt
  have y0 := Zd.cell 0
  have y1 := Zd.cell 1
  have f0 := Zd.free 0
  have f1 := Zd.free 1
  have hfin := Lib.hid (zone_put (n := n) (err := 0) XP.out.bl (by omega) XP.out.r hc7 s7 b7 nw7)
  clear Zd q k0 k1 s1 s2 s3 s4 hW1'
  go_wp2
  exact zone_ret2 hfin.out.1 hfin.out.2.1 _ _ 4 5 rfl rfl rfl rfl
set_option maxRecDepth 100000 in
set_option maxHeartbeats 400000 in
theorem plimit_any (n : Nat) (l : List Int) (hz : IsZ n l) (k x y c d : Int) (X Y : Nat) (ex : x = X) (ey : y = Y) (hx : X ≤ n) (hy : Y ≤ n) (a : Option Addr) (m ca : Nat) (w : World) (h : SL w a m ca l) : Calls Tryz.prog 187 #[.agg #[.int .i64 n, .slice a m ca], .agg #[.int .i64 k, .int .i64 x, .int .i64 y, .int .i64 c, .int .i64 d]] w (ZoneE n (limitL n l X Y c) 0 w) := by
  obtain ⟨W1, hW1⟩ : ∃ W1, W1 = ((w.alloc (.cells #[.int .i64 n, .slice a m ca] 51)).alloc (.cells #[.int .i64 k, .int .i64 x, .int .i64 y, .int .i64 c, .int .i64 d] 73)).alloc (.cells #[.int .i64 0, .slice none 0 0] 51) := ⟨_, rfl⟩
  have X1 : P3 w W1 (.int .i64 n) (.slice a m ca) #[.int .i64 k, .int .i64 x, .int .i64 y, .int .i64 c, .int .i64 d] (.int .i64 0) (.slice none 0 0) := by rw [hW1]; exact p3_new _ _ _ _
  have hW1' := Lib.hid hW1
  have XP := Lib.hid X1
  have k0 := X1.z.cell 0
  have k1 := X1.z.cell 1
  have s1 := X1.s.cell 1
  have s2 := X1.s.cell 2
  have s3 := X1.s.cell 3
  have s4 := X1.s.cell 4
  subst ex ey
  have q := Lib.hid ((fun W hs => zlimit_ok n l hz X Y hx hy c a m ca W hs) W1 (h.below X1.bl))
  clear hW1 X1 h hz
  generalize (limitL n l X Y c) = R at *
  go_enter Tryz.func187, Tryz.ntmps187
  go_wp2_with fail
  rw [← hW1'.out]
  refine q.out.mono ?_
  rintro e w7 ⟨a7, c7, rfl, hc7, s7, b7, nw7⟩
  have Zd := XP.out.r.below b7 XP.out.r.lt
  have y0 := Zd.cell 0
  have y1 := Zd.cell 1
  have f0 := Zd.free 0
  have f1 := Zd.free 1
  have hfin := Lib.hid (zone_put (n := n) (err := 0) XP.out.bl (by omega) XP.out.r hc7 s7 b7 nw7)
  clear Zd q k0 k1 s1 s2 s3 s4 hW1'
  go_wp2
  exact zone_ret2 hfin.out.1 hfin.out.2.1 _ _ 4 5 rfl rfl rfl rfl
set_option maxRecDepth 100000 in
set_option maxHeartbeats 400000 in
theorem beyond_any (n : Nat) (l : List Int) (hz : IsZ n l) (k x y c d : Int) (X Y : Nat) (ex : x = X) (ey : y = Y) (hx : X ≤ n) (hy : Y ≤ n) (hc : -1099511627776 ≤ c ∧ c ≤ 1099511627776) (a : Option Addr) (m ca : Nat) (w : World) (h : SL w a m ca l) : Calls Tryz.prog 199 #[.agg #[.int .i64 n, .slice a m ca], .agg #[.int .i64 k, .int .i64 x, .int .i64 y, .int .i64 c, .int .i64 d]] w (ZoneE n (limitL n l Y X (-c - 1)) 0 w) := by
  obtain ⟨W1, hW1⟩ : ∃ W1, W1 = ((w.alloc (.cells #[.int .i64 n, .slice a m ca] 51)).alloc (.cells #[.int .i64 k, .int .i64 x, .int .i64 y, .int .i64 c, .int .i64 d] 73)).alloc (.cells #[.int .i64 0, .slice none 0 0] 51) := ⟨_, rfl⟩
  have X1 : P3 w W1 (.int .i64 n) (.slice a m ca) #[.int .i64 k, .int .i64 x, .int .i64 y, .int .i64 c, .int .i64 d] (.int .i64 0) (.slice none 0 0) := by rw [hW1]; exact p3_new _ _ _ _
  have hW1' := Lib.hid hW1
  have XP := Lib.hid X1
  have k0 := X1.z.cell 0
  have k1 := X1.z.cell 1
  have s1 := X1.s.cell 1
  have s2 := X1.s.cell 2
  have s3 := X1.s.cell 3
  have s4 := X1.s.cell 4
  subst ex ey
  have wr1 : IntKind.i64.wrap (-c) = -c := by simp [IntKind.wrap, IntKind.bits, IntKind.signed]; omega
  have wr2 : IntKind.i64.wrap (-c - 1) = -c - 1 := by simp [IntKind.wrap, IntKind.bits, IntKind.signed]; omega
  have q := Lib.hid ((fun W hs => zlimit_ok n l hz Y X hy hx (-c - 1) a m ca W hs) W1 (h.below X1.bl))
  clear hW1 X1 h hz
  generalize (limitL n l Y X (-c - 1)) = R at *
  go_enter Tryz.func199, Tryz.ntmps199
  go_wp2_with fail
  rw [← hW1'.out]
  refine q.out.mono ?_
  rintro e w7 ⟨a7, c7, rfl, hc7, s7, b7, nw7⟩
  have Zd := XP.out.r.below b7 XP.out.r.lt
  have y0 := Zd.cell 0
  have y1 := Zd.cell 1
  have f0 := Zd.free 0
  have f1 := Zd.free 1
  have hfin := Lib.hid (zone_put (n := n) (err := 0) XP.out.bl (by omega) XP.out.r hc7 s7 b7 nw7)
  clear Zd q k0 k1 s1 s2 s3 s4 hW1'
  go_wp2
  exact zone_ret2 hfin.out.1 hfin.out.2.1 _ _ 4 5 rfl rfl rfl rfl
theorem never_any (n k x y c d : Int) (a : Option Addr) (m ca : Nat) (w : World) : Calls Tryz.prog 198 #[.agg #[.int .i64 n, .slice a m ca], .agg #[.int .i64 k, .int .i64 x, .int .i64 y, .int .i64 c, .int .i64 d]] w (ZoneE n [] 0 w) := by
  obtain ⟨W1, hW1⟩ : ∃ W1, W1 = ((w.alloc (.cells #[.int .i64 n, .slice a m ca] 51)).alloc (.cells #[.int .i64 k, .int .i64 x, .int .i64 y, .int .i64 c, .int .i64 d] 73)).alloc (.cells #[.int .i64 0, .slice none 0 0] 51) := ⟨_, rfl⟩
  have X1 : P3 w W1 (.int .i64 n) (.slice a m ca) #[.int .i64 k, .int .i64 x, .int .i64 y, .int .i64 c, .int .i64 d] (.int .i64 0) (.slice none 0 0) := by rw [hW1]; exact p3_new _ _ _ _
  have hW1' := Lib.hid hW1
  have XP := Lib.hid X1
  have k0 := X1.z.cell 0
  have k1 := X1.z.cell 1
  have s1 := X1.s.cell 1
  have s2 := X1.s.cell 2
  have s3 := X1.s.cell 3
  have s4 := X1.s.cell 4
  have y0 := X1.r.cell 0
  have y1 := X1.r.cell 1
  have f0 := X1.r.free 0
  have f1 := X1.r.free 1
  have hfin := Lib.hid (zone_none X1.bl (by omega : w.heap.size ≤ w.heap.size + 2) X1.r n 0)
  clear X1 hW1
  go_enter Tryz.func198, Tryz.ntmps198
  go_wp2_with (rw [← hW1'.out])
  exact zone_ret2 hfin.out.1 hfin.out.2.1 _ _ 4 5 rfl rfl rfl rfl
set_option maxRecDepth 100000 in
set_option maxHeartbeats 400000 in
theorem pskip_any (n : Nat) (l : List Int) (hz : IsZ n l) (k x y c d : Int) (a : Option Addr) (m ca : Nat) (w : World) (h : SL w a m ca l) : Calls Tryz.prog 184 #[.agg #[.int .i64 n, .slice a m ca], .agg #[.int .i64 k, .int .i64 x, .int .i64 y, .int .i64 c, .int .i64 d]] w (ZoneE n l 0 w) := by
  obtain ⟨W1, hW1⟩ : ∃ W1, W1 = ((w.alloc (.cells #[.int .i64 n, .slice a m ca] 51)).alloc (.cells #[.int .i64 k, .int .i64 x, .int .i64 y, .int .i64 c, .int .i64 d] 73)).alloc (.cells #[.int .i64 0, .slice none 0 0] 51) := ⟨_, rfl⟩
  have X1 : P3 w W1 (.int .i64 n) (.slice a m ca) #[.int .i64 k, .int .i64 x, .int .i64 y, .int .i64 c, .int .i64 d] (.int .i64 0) (.slice none 0 0) := by rw [hW1]; exact p3_new _ _ _ _
  have hW1' := Lib.hid hW1
  have XP := Lib.hid X1
  have k0 := X1.z.cell 0
  have k1 := X1.z.cell 1
  have s1 := X1.s.cell 1
  have s2 := X1.s.cell 2
  have s3 := X1.s.cell 3
  have s4 := X1.s.cell 4
  have hsm := hz.small
  have hcl := Lib.hid (fun W (hW : Below w.heap.size w W) => iclone_any a l m ca h.len (by omega) W ((h.below hW).sees))
  have f0 : ∀ W, (Below w.heap.size w W ∧ ZH W w.heap.size (.int .i64 n) (.slice a m ca)) → W.cell? ⟨w.heap.size, 0, none⟩ = some (.int .i64 n) := fun W hW => hW.2.cell 0
  have f1 : ∀ W, (Below w.heap.size w W ∧ ZH W w.heap.size (.int .i64 n) (.slice a m ca)) → W.cell? ⟨w.heap.size, 1, none⟩ = some (.slice a m ca) := fun W hW => hW.2.cell 1
  clear hW1 X1 h hz k0 k1 s1 s2 s3 s4 hsm
  go_enter Tryz.func184, Tryz.ntmps184
  go_wp2
  rw [← hW1'.out]
  refine wp_drawn_on (fun W => Below w.heap.size w W ∧ ZH W w.heap.size (.int .i64 n) (.slice a m ca)) (by kernel_rfl) (⟨XP.out.bl.drew, XP.out.z.drew⟩) (fun hHeld => ?_)
  refine wT 0 (v := ?v1) rfl (by kernel_rfl) (fun _ _ _ h => h) ?h1 (by assumption) ?r1
  case h1 => (intro w hSw; (try dsimp only at hSw); go_simp; try with_reducible rfl)
  refine wT 1 (v := ?v2) rfl (by kernel_rfl) (fun _ _ _ h => h) ?h2 (by assumption) ?r2
  case h2 => (intro w hSw; (try dsimp only at hSw); go_simp; try with_reducible rfl)
  refine wT 2 (v := ?v3) rfl (by kernel_rfl) (fun _ _ _ h => h) ?h3 (by assumption) ?r3
  case h3 => (intro w hSw; (try dsimp only at hSw); go_simp; try with_reducible rfl)
  refine wT 3 (v := ?v4) rfl (by kernel_rfl) (fun _ _ _ h => h) ?h4 (by assumption) ?r4
  case h4 => (intro w hSw; (try dsimp only at hSw); go_simp; try with_reducible rfl)
  try simp only [Act.put, List.setIfInBounds_toArray, List.set_cons_zero, List.set_cons_succ]
  refine wpAnyH_ready (rs := [4]) (by kernel_rfl) (by simp) ?_
  refine AllReadyH.cons (o := ⟨_, _, _, _, _, _⟩) rfl (fun K hK => ?_) AllReadyH.nil
  go_simp
  refine (hcl.out _ hHeld.1).mono ?_
  intro e u4 hm
  have b4 : Below W1.drew.heap.size W1.drew u4 := by obtain ⟨_, _, _, hb⟩ := hm; exact hb
  obtain ⟨a4, c4, rfl, hz4, hfin4⟩ := zone_end hHeld.1 (by omega : w.heap.size ≤ w.heap.size + 2) XP.out.r.drew hm
  have hx4 := And.intro (hHeld.1.trans (b4.mono hHeld.1.size)) (hHeld.2.below b4 hHeld.2.lt)
  have y0 := hz4.cell 0
  have y1 := hz4.cell 1
  have g0 := hz4.free 0
  have g1 := hz4.free 1
  go_simp
  refine hK.out _ _ (hx4) (fun hHeld => ?_)
  clear hK K
  refine wT 5 (v := ?v5) rfl (by kernel_rfl) (fun _ _ _ h => h) ?h5 (by assumption) ?r5
  case h5 => (intro w hSw; (try dsimp only at hSw); go_simp; try with_reducible rfl)
  try simp only [Act.put, List.setIfInBounds_toArray, List.set_cons_zero, List.set_cons_succ]
  refine wpAnyH_ready (rs := [6]) (by kernel_rfl) (by simp) ?_
  refine AllReadyH.cons (o := ⟨_, _, _, _, _, _⟩) rfl (fun K hK => ?_) AllReadyH.nil
  go_simp
  have hx6 := And.intro ((hHeld.1.setCell (p := ⟨w.heap.size + 2, 0, none⟩) (by show w.heap.size ≤ w.heap.size + 2; omega) (.int .i64 n)).setCell (p := ⟨w.heap.size + 2, 1, none⟩) (by show w.heap.size ≤ w.heap.size + 2; omega) (.slice a4 l.length c4)) ((hHeld.2.far (p := ⟨w.heap.size + 2, 0, none⟩) (by simp) (.int .i64 n)).far (p := ⟨w.heap.size + 2, 1, none⟩) (by simp) (.slice a4 l.length c4))
  refine hK.out _ _ (hx6) (fun hHeld => ?_)
  clear hK K
  refine wT 7 (v := ?v6) rfl (by kernel_rfl) (fun _ _ _ h => h) ?h6 (by assumption) ?r6
  case h6 => (intro w hSw; (try dsimp only at hSw); go_simp; try with_reducible rfl)
  try simp only [Act.put, List.setIfInBounds_toArray, List.set_cons_zero, List.set_cons_succ]
  refine wpAnyH_done (by kernel_rfl) ?_ _
  have hfin := Lib.hid (hfin4 n 0)
  clear hfin4 hz4 hm hx4 hx6 hHeld y0 y1 g0 g1 f0 f1
  go_wp2
  exact zone_ret2 hfin.out.1 hfin.out.2.1 _ _ 4 5 rfl rfl rfl rfl
set_option maxRecDepth 100000 in
set_option maxHeartbeats 1000000 in
theorem ppick_any (n : Nat) (l : List Int) (hz : IsZ n l) (k x y c d : Int) (X : Nat) (ex : x = X) (hx0 : 1 ≤ X) (hx : X ≤ n) (hc : -1099511627776 ≤ c ∧ c ≤ 1099511627776) (a : Option Addr) (m ca : Nat) (w : World) (h : SL w a m ca l) : Calls Tryz.prog 186 #[.agg #[.int .i64 n, .slice a m ca], .agg #[.int .i64 k, .int .i64 x, .int .i64 y, .int .i64 c, .int .i64 d]] w (ZoneE n (limitL n (limitL n (forgetL n l X) X 0 d) 0 X (-c)) 0 w) := by
  obtain ⟨W1, hW1⟩ : ∃ W1, W1 = ((w.alloc (.cells #[.int .i64 n, .slice a m ca] 51)).alloc (.cells #[.int .i64 k, .int .i64 x, .int .i64 y, .int .i64 c, .int .i64 d] 73)).alloc (.cells #[.int .i64 0, .slice none 0 0] 51) := ⟨_, rfl⟩
  have X1 : P3 w W1 (.int .i64 n) (.slice a m ca) #[.int .i64 k, .int .i64 x, .int .i64 y, .int .i64 c, .int .i64 d] (.int .i64 0) (.slice none 0 0) := by rw [hW1]; exact p3_new _ _ _ _
  have hW1' := Lib.hid hW1
  have XP := Lib.hid X1
  have k0 := X1.z.cell 0
  have k1 := X1.z.cell 1
  have s1 := X1.s.cell 1
  have s2 := X1.s.cell 2
  have s3 := X1.s.cell 3
  have s4 := X1.s.cell 4
  subst ex
  have hn := hz.1
  have wr1 : IntKind.i64.wrap (-c) = -c := by simp [IntKind.wrap, IntKind.bits, IntKind.signed]; omega
  have hSL := Lib.hid (h.below X1.bl)
  have hF := Lib.hid (fun W aa mm cc hs => zforget_ok n l hz X hx0 hx aa mm cc W hs)
  have hL1 := Lib.hid (fun W aa mm cc hs => zlimit_ok n (forgetL n l X) (forgetL_isz hn l X) X 0 hx (Nat.zero_le _) d aa mm cc W hs)
  have hL2 := Lib.hid (fun W aa mm cc hs => zlimit_ok n (limitL n (forgetL n l X) X 0 d) (limitL_isz hn _ _ _ _) 0 X (Nat.zero_le _) hx (-c) aa mm cc W hs)
  rw [show ((0 : Nat) : Int) = 0 from rfl] at hL1 hL2
  clear hW1 X1 h hz hc
  go_enter Tryz.func186, Tryz.ntmps186
  have q1 := Lib.hid (hF.out W1 a m ca hSL.out)
  go_wp2_with fail
  rw [← hW1'.out]
  refine q1.out.mono ?_
  rintro e u1 ⟨a1, c1, rfl, hc1, t1, b1, nw1⟩
  have hlen1 : (forgetL n l X).length ≤ 81 := stepL_small n hn _ _
  have P := XP.out.on b1
  have y01 := P.z.cell 0
  have y11 := P.z.cell 1
  have g01 := P.z.free 0
  have g11 := P.z.free 1
  have p11 := P.s.cell 1
  have p31 := P.s.cell 3
  have p41 := P.s.cell 4
  have glt : w.heap.size < W1.heap.size := XP.out.z.lt
  obtain ⟨V1, hV1⟩ : ∃ V, V = (u1.setCell ⟨w.heap.size, 0, none⟩ (.int .i64 n)).setCell ⟨w.heap.size, 1, none⟩ (.slice a1 (forgetL n l X).length c1) := ⟨_, rfl⟩
  have X1 := Lib.hid (show P3 w V1 _ _ _ _ _ by rw [hV1]; exact P.setz _ _)
  have S1 := Lib.hid (show SL V1 a1 (forgetL n l X).length c1 (forgetL n l X) by rw [hV1]; exact sl_set ⟨rfl, hc1, by omega, t1⟩ _ (.inr (fun p hp => by have := nw1 p hp; omega)) _ _)
  have hV1' := Lib.hid hV1
  clear b1 nw1 t1 hc1 hlen1 P glt hV1 q1 k0 k1 s1 s2 s3 s4 hW1'
  have q2 := Lib.hid (hL1.out V1 a1 _ c1 S1.out)
  go_wp2_with fail
  rw [← hV1'.out]
  refine q2.out.mono ?_
  rintro e u2 ⟨a2, c2, rfl, hc2, t2, b2, nw2⟩
  have hlen2 : (limitL n (forgetL n l X) X 0 d).length ≤ 81 := stepL_small n hn _ _
  have P := X1.out.on b2
  have y02 := P.z.cell 0
  have y12 := P.z.cell 1
  have g02 := P.z.free 0
  have g12 := P.z.free 1
  have p12 := P.s.cell 1
  have p32 := P.s.cell 3
  have p42 := P.s.cell 4
  have glt : w.heap.size < V1.heap.size := X1.out.z.lt
  obtain ⟨V2, hV2⟩ : ∃ V, V = (u2.setCell ⟨w.heap.size, 0, none⟩ (.int .i64 n)).setCell ⟨w.heap.size, 1, none⟩ (.slice a2 (limitL n (forgetL n l X) X 0 d).length c2) := ⟨_, rfl⟩
  have X2 := Lib.hid (show P3 w V2 _ _ _ _ _ by rw [hV2]; exact P.setz _ _)
  have S2 := Lib.hid (show SL V2 a2 (limitL n (forgetL n l X) X 0 d).length c2 (limitL n (forgetL n l X) X 0 d) by rw [hV2]; exact sl_set ⟨rfl, hc2, by omega, t2⟩ _ (.inr (fun p hp => by have := nw2 p hp; omega)) _ _)
  have hV2' := Lib.hid hV2
  clear b2 nw2 t2 hc2 hlen2 P glt hV2 q2 y01 y11 g01 g11 p11 p31 p41
  have q := Lib.hid (hL2.out V2 a2 _ c2 S2.out)
  go_wp2_with fail
  rw [← hV2'.out]
  refine q.out.mono ?_
  rintro e w7 ⟨a7, c7, rfl, hc7, s7, b7, nw7⟩
  have Zd := X2.out.r.below b7 X2.out.r.lt
  have y0 := Zd.cell 0
  have y1 := Zd.cell 1
  have f0 := Zd.free 0
  have f1 := Zd.free 1
  have hfin := Lib.hid (zone_put (n := n) (err := 0) X2.out.bl (by omega) X2.out.r hc7 s7 b7 nw7)
  clear Zd q
  go_wp2
  exact zone_ret2 hfin.out.1 hfin.out.2.1 _ _ 4 5 rfl rfl rfl rfl
end Go.Proofs.YtimgocfkogebmaaGreatDoor
