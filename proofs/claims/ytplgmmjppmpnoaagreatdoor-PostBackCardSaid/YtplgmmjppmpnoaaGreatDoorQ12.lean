import Derived.Test.YtplgmmjppmpnoaaGreatDoorQ07
import Derived.Test.YtplgmmjppmpnoaaGreatDoorQ10
import Derived.Test.YtplgmmjppmpnoaaGreatDoorQ11
/- Post, Fault, May, Must. (Written by gen-postany.py.) -/
namespace Go.Proofs.YtplgmmjppmpnoaaGreatDoor
open Go.RowKit
set_option linter.unusedVariables false
set_option linter.unusedSimpArgs false

theorem isVar_nat {x : Int} {n : Nat} (h : isVarB x n = true) : ∃ X : Nat, x = X ∧ 1 ≤ X ∧ X ≤ n := by
  unfold isVarB at h
  rw [Bool.and_eq_true, decide_eq_true_eq, decide_eq_true_eq] at h
  exact ⟨x.toNat, by omega, by omega, by omega⟩
theorem isTerm_nat {x : Int} {n : Nat} (h : isTermB x n = true) : ∃ X : Nat, x = X ∧ X ≤ n := by
  unfold isTermB at h
  rw [Bool.and_eq_true, decide_eq_true_eq, decide_eq_true_eq] at h
  exact ⟨x.toNat, by omega, by omega⟩
theorem isVal_in {c : Int} (h : isValB c = true) : -1099511627776 ≤ c ∧ c ≤ 1099511627776 := by
  unfold isValB at h
  rwa [Bool.and_eq_true, decide_eq_true_eq, decide_eq_true_eq] at h
/-- The ways of a statement that may be. -/
inductive Way (n : Nat) : Int → Int → Int → Int → Int → Prop
  | skip : Way n 1 0 0 0 0
  | set (X Y : Nat) (c : Int) : 1 ≤ X → X ≤ n → Y ≤ n → isValB c = true → Way n 2 X Y c 0
  | pick (X : Nat) (c d : Int) : 1 ≤ X → X ≤ n → isValB c = true → isValB d = true → c ≤ d → Way n 3 X 0 c d
  | limit (X Y : Nat) (c : Int) : X ≤ n → Y ≤ n → X ≠ Y → isValB c = true → Way n 4 X Y c 0
  | check (X Y : Nat) (c : Int) : X ≤ n → Y ≤ n → X ≠ Y → isValB c = true → Way n 5 X Y c 0
theorem way_of {n : Nat} {k x y c d : Int} (h : rightB k x y c d n = true) : Way n k x y c d := by
  unfold rightB at h
  by_cases hb : (n : Int) < 0 ∨ 8 < (n : Int) ∨ k < 1 ∨ 5 < k
  · rw [if_pos hb] at h; cases h
  rw [if_neg hb] at h
  obtain rfl | rfl | rfl | rfl | rfl : k = 1 ∨ k = 2 ∨ k = 3 ∨ k = 4 ∨ k = 5 := by omega
  · rw [show stmtB 1 x y c d n = skipB x y c d by unfold stmtB; simp] at h
    unfold skipB at h
    simp only [Bool.and_eq_true, beq_iff_eq] at h
    obtain ⟨rfl, rfl, rfl, rfl⟩ := h
    exact .skip
  · rw [show stmtB 2 x y c d n = letB x y c d n by unfold stmtB; simp] at h
    unfold letB at h
    simp only [Bool.and_eq_true, beq_iff_eq] at h
    obtain ⟨h1, h2, h3, rfl⟩ := h
    obtain ⟨X, rfl, q1, q2⟩ := isVar_nat h1
    obtain ⟨Y, rfl, q3⟩ := isTerm_nat h2
    exact .set X Y c q1 q2 q3 h3
  · rw [show stmtB 3 x y c d n = anyB x y c d n by unfold stmtB; simp] at h
    unfold anyB at h
    simp only [Bool.and_eq_true, beq_iff_eq, decide_eq_true_eq] at h
    obtain ⟨h1, rfl, h3, h4, h5⟩ := h
    obtain ⟨X, rfl, q1, q2⟩ := isVar_nat h1
    exact .pick X c d q1 q2 h3 h4 h5
  · rw [show stmtB 4 x y c d n = diffB x y c d n by unfold stmtB; simp] at h
    unfold diffB at h
    simp only [Bool.and_eq_true, beq_iff_eq, bne_iff_ne] at h
    obtain ⟨h1, h2, h3, h4, rfl⟩ := h
    obtain ⟨X, rfl, q1⟩ := isTerm_nat h1
    obtain ⟨Y, rfl, q2⟩ := isTerm_nat h2
    exact .limit X Y c q1 q2 (fun e => h3 (by rw [e])) h4
  · rw [show stmtB 5 x y c d n = diffB x y c d n by unfold stmtB; simp] at h
    unfold diffB at h
    simp only [Bool.and_eq_true, beq_iff_eq, bne_iff_ne] at h
    obtain ⟨h1, h2, h3, h4, rfl⟩ := h
    obtain ⟨X, rfl, q1⟩ := isTerm_nat h1
    obtain ⟨Y, rfl, q2⟩ := isTerm_nat h2
    exact .check X Y c q1 q2 (fun e => h3 (by rw [e])) h4
theorem postL_isz {n : Nat} {l : List Int} (hz : IsZ n l) (k x y c d : Int) : IsZ n (postL n l k x y c d) := by
  unfold postL
  split
  · exact hz
  · split
    · exact letL_isz hz.1 _ _ _ _
    · split <;> exact limitL_isz hz.1 _ _ _ _
theorem faultL_isz {n : Nat} {l : List Int} (hz : IsZ n l) (k x y c : Int) : IsZ n (faultL n l k x y c) := by
  unfold faultL
  split
  · exact limitL_isz hz.1 _ _ _ _
  · exact ⟨hz.1, .inl rfl⟩
theorem post_ok (n : Nat) (k x y c d : Int) (l : List Int) (hz : IsZ n l) (hr : rightB k x y c d n = true) (a : Option Addr) (m ca : Nat) (w : World) (h : SL w a m ca l) : Calls Tryz.prog 10 #[.agg #[.int .i64 n, .slice a m ca], .agg #[.int .i64 k, .int .i64 x, .int .i64 y, .int .i64 c, .int .i64 d]] w (ZoneE n (postL n l k x y c d) 0 w) := by
  refine Post_of n k x y c d n 0 _ a m ca w fun W hW => ?_
  have hS := h.below hW
  cases way_of hr with
  | skip => exact do_steps_1 n 0 0 0 0 l _ hz hr a m ca (fun W hs => pskip_any n l hz 1 0 0 0 0 a m ca W hs) W hS
  | set X Y c q1 q2 q3 q4 => exact do_steps_2 n X Y c 0 l _ hz hr a m ca (fun W hs => let_any n l hz 2 X Y c 0 X Y rfl rfl q1 q2 q3 a m ca W hs) W hS
  | pick X c d q1 q2 q3 q4 q5 => exact do_steps_3 n X 0 c d l _ hz hr a m ca (fun W hs => ppick_any n l hz 3 X 0 c d X rfl q1 q2 (isVal_in q3) a m ca W hs) W hS
  | limit X Y c q1 q2 q3 q4 => exact do_steps_4 n X Y c 0 l _ hz hr a m ca (fun W hs => plimit_any n l hz 4 X Y c 0 X Y rfl rfl q1 q2 a m ca W hs) W hS
  | check X Y c q1 q2 q3 q4 => exact do_steps_5 n X Y c 0 l _ hz hr a m ca (fun W hs => plimit_any n l hz 5 X Y c 0 X Y rfl rfl q1 q2 a m ca W hs) W hS
theorem fault_ok (n : Nat) (k x y c d : Int) (l : List Int) (hz : IsZ n l) (hr : rightB k x y c d n = true) (a : Option Addr) (m ca : Nat) (w : World) (h : SL w a m ca l) : Calls Tryz.prog 11 #[.agg #[.int .i64 n, .slice a m ca], .agg #[.int .i64 k, .int .i64 x, .int .i64 y, .int .i64 c, .int .i64 d]] w (ZoneE n (faultL n l k x y c) 0 w) := by
  refine Fault_of n k x y c d n 0 _ a m ca w fun W hW => ?_
  have hS := h.below hW
  cases way_of hr with
  | skip => exact do_faults_1 n 0 0 0 0 l _ hz hr a m ca (fun W hs => never_any n 1 0 0 0 0 a m ca W) W hS
  | set X Y c q1 q2 q3 q4 => exact do_faults_2 n X Y c 0 l _ hz hr a m ca (fun W hs => never_any n 2 X Y c 0 a m ca W) W hS
  | pick X c d q1 q2 q3 q4 q5 => exact do_faults_3 n X 0 c d l _ hz hr a m ca (fun W hs => never_any n 3 X 0 c d a m ca W) W hS
  | limit X Y c q1 q2 q3 q4 => exact do_faults_4 n X Y c 0 l _ hz hr a m ca (fun W hs => never_any n 4 X Y c 0 a m ca W) W hS
  | check X Y c q1 q2 q3 q4 => exact do_faults_5 n X Y c 0 l _ hz hr a m ca (fun W hs => beyond_any n l hz 5 X Y c 0 X Y rfl rfl q1 q2 (isVal_in q4) a m ca W hs) W hS
theorem post_z (n k x y c d : Int) (l : List Int) (hk : checkB n l = false) (a : Option Addr) (m ca : Nat) (w : World) (h : SL w a m ca l) : Calls Tryz.prog 10 #[.agg #[.int .i64 n, .slice a m ca], .agg #[.int .i64 k, .int .i64 x, .int .i64 y, .int .i64 c, .int .i64 d]] w (ZoneE 0 [] 80 w) :=
  Post_of n k x y c d 0 80 [] a m ca w fun W hW => do_steps_z n k x y c d l hk a m ca W (h.below hW)
theorem post_s (n k x y c d : Int) (l : List Int) (hk : checkB n l = true) (hr : rightB k x y c d n = false) (a : Option Addr) (m ca : Nat) (w : World) (h : SL w a m ca l) : Calls Tryz.prog 10 #[.agg #[.int .i64 n, .slice a m ca], .agg #[.int .i64 k, .int .i64 x, .int .i64 y, .int .i64 c, .int .i64 d]] w (ZoneE 0 [] 111 w) :=
  Post_of n k x y c d 0 111 [] a m ca w fun W hW => do_steps_s n k x y c d l hk hr a m ca W (h.below hW)
theorem fault_z (n k x y c d : Int) (l : List Int) (hk : checkB n l = false) (a : Option Addr) (m ca : Nat) (w : World) (h : SL w a m ca l) : Calls Tryz.prog 11 #[.agg #[.int .i64 n, .slice a m ca], .agg #[.int .i64 k, .int .i64 x, .int .i64 y, .int .i64 c, .int .i64 d]] w (ZoneE 0 [] 80 w) :=
  Fault_of n k x y c d 0 80 [] a m ca w fun W hW => do_faults_z n k x y c d l hk a m ca W (h.below hW)
theorem fault_s (n k x y c d : Int) (l : List Int) (hk : checkB n l = true) (hr : rightB k x y c d n = false) (a : Option Addr) (m ca : Nat) (w : World) (h : SL w a m ca l) : Calls Tryz.prog 11 #[.agg #[.int .i64 n, .slice a m ca], .agg #[.int .i64 k, .int .i64 x, .int .i64 y, .int .i64 c, .int .i64 d]] w (ZoneE 0 [] 111 w) :=
  Fault_of n k x y c d 0 111 [] a m ca w fun W hW => do_faults_s n k x y c d l hk hr a m ca W (h.below hW)

/-- A zone and a statement in memory. -/
structure P2 (w W : World) (zn zm : Value) (st : Array Value) : Prop where
  bl : Below w.heap.size w W
  z : ZH W w.heap.size zn zm
  s : Holds W (w.heap.size + 1) 26 st
theorem P2.on {w W W' : World} {zn zm : Value} {st : Array Value} (h : P2 w W zn zm st) (hb : Below W.heap.size W W') : P2 w W' zn zm st :=
  ⟨h.bl.trans (hb.mono h.bl.size), h.z.below hb h.z.lt, h.s.below hb h.s.lt⟩
theorem p2_new (w : World) (zn zm : Value) (st : Array Value) : P2 w ((w.alloc (.cells #[zn, zm] 24)).alloc (.cells st 26)) zn zm st := by
  refine ⟨(box_below _ _ _).alloc (by simp) _, (Holds.new w _ _).alloc _, ?_⟩
  have := Holds.new (w.alloc (.cells #[zn, zm] 24)) 26 st
  simpa using this
set_option maxRecDepth 100000 in
set_option maxHeartbeats 400000 in
theorem may_bad (n k x y c d E : Int) (hE : E ≠ 0) (a : Option Addr) (m ca : Nat) (w : World) (hq : ∀ W, Below w.heap.size w W → Calls Tryz.prog 11 #[.agg #[.int .i64 n, .slice a m ca], .agg #[.int .i64 k, .int .i64 x, .int .i64 y, .int .i64 c, .int .i64 d]] W (ZoneE 0 [] E W)) : Calls Tryz.prog 30 #[.agg #[.int .i64 n, .slice a m ca], .agg #[.int .i64 k, .int .i64 x, .int .i64 y, .int .i64 c, .int .i64 d]] w (Gives (.bool false) w) := by
  obtain ⟨W1, hW1⟩ : ∃ W1, W1 = (w.alloc (.cells #[.int .i64 n, .slice a m ca] 24)).alloc (.cells #[.int .i64 k, .int .i64 x, .int .i64 y, .int .i64 c, .int .i64 d] 26) := ⟨_, rfl⟩
  have X1 : P2 w W1 (.int .i64 n) (.slice a m ca) #[.int .i64 k, .int .i64 x, .int .i64 y, .int .i64 c, .int .i64 d] := by rw [hW1]; exact p2_new _ _ _ _
  have hW1' := Lib.hid hW1
  have XP := Lib.hid X1
  have k0 := X1.z.cell 0
  have k1 := X1.z.cell 1
  have k2 := X1.s.cell 0
  have k3 := X1.s.cell 1
  have k4 := X1.s.cell 2
  have k5 := X1.s.cell 3
  have k6 := X1.s.cell 4
  have q := Lib.hid (hq W1 X1.bl)
  have hEb : (E == 0) = false := by simpa using hE
  clear hW1 X1 hE hq
  go_enter Tryz.func30, Tryz.ntmps30
  go_wp2_with fail
  rw [← hW1'.out]
  refine q.out.mono ?_
  rintro e u1 ⟨a7, c7, rfl, -, -, b7, -⟩
  have B := Lib.hid ((XP.out.on b7).bl.trans ((box_below u1 #[.int .i64 0, .slice a7 0 c7] 24).mono (XP.out.on b7).bl.size))
  clear q XP hW1' k0 k1 k2 k3 k4 k5 k6 b7
  go_wp2
  go_ret
  exact ⟨rfl, B.out⟩
set_option maxRecDepth 100000 in
set_option maxHeartbeats 400000 in
theorem may_of (n : Nat) (k x y c d : Int) (R : List Int) (hR : IsZ n R) (a : Option Addr) (m ca : Nat) (w : World) (hq : ∀ W, Below w.heap.size w W → Calls Tryz.prog 11 #[.agg #[.int .i64 n, .slice a m ca], .agg #[.int .i64 k, .int .i64 x, .int .i64 y, .int .i64 c, .int .i64 d]] W (ZoneE n R 0 W)) : Calls Tryz.prog 30 #[.agg #[.int .i64 n, .slice a m ca], .agg #[.int .i64 k, .int .i64 x, .int .i64 y, .int .i64 c, .int .i64 d]] w (Gives (.bool (!decide (R = []))) w) := by
  obtain ⟨W1, hW1⟩ : ∃ W1, W1 = (w.alloc (.cells #[.int .i64 n, .slice a m ca] 24)).alloc (.cells #[.int .i64 k, .int .i64 x, .int .i64 y, .int .i64 c, .int .i64 d] 26) := ⟨_, rfl⟩
  have X1 : P2 w W1 (.int .i64 n) (.slice a m ca) #[.int .i64 k, .int .i64 x, .int .i64 y, .int .i64 c, .int .i64 d] := by rw [hW1]; exact p2_new _ _ _ _
  have hW1' := Lib.hid hW1
  have XP := Lib.hid X1
  have k0 := X1.z.cell 0
  have k1 := X1.z.cell 1
  have k2 := X1.s.cell 0
  have k3 := X1.s.cell 1
  have k4 := X1.s.cell 2
  have k5 := X1.s.cell 3
  have k6 := X1.s.cell 4
  have q := Lib.hid (hq W1 X1.bl)
  have hRl := hR.small
  have hem := Lib.hid (fun W aa cc (hs : SL W aa R.length cc R) => empty_any n aa R.length cc R W hs)
  rw [show emptyB n R = decide (R = []) by unfold emptyB; rw [hR.check, Bool.and_true]] at hem
  generalize decide (R = []) = eb at *
  clear hW1 X1 hR hq
  go_enter Tryz.func30, Tryz.ntmps30
  go_wp2_with fail
  rw [← hW1'.out]
  refine q.out.mono ?_
  rintro e u1 ⟨a7, c7, rfl, hc7, t7, b7, -⟩
  have b8 := box_below u1 #[.int .i64 n, .slice a7 R.length c7] 24
  have B := Lib.hid ((XP.out.on b7).bl.trans (b8.mono (XP.out.on b7).bl.size))
  have S7 := Lib.hid ((show SL u1 a7 R.length c7 R from ⟨rfl, hc7, by omega, t7⟩).below b8)
  clear q XP hW1' k0 k1 k2 k3 k4 k5 k6 b7 b8 t7 hRl
  go_wp2_with fail
  refine (hem.out _ _ _ S7.out).mono ?_
  rintro e u2 ⟨rfl, b2⟩
  have B2 := Lib.hid (B.out.trans (b2.mono B.out.size))
  clear b2 B S7 hem
  go_wp2
  go_ret
  exact ⟨rfl, B2.out⟩
set_option maxRecDepth 100000 in
set_option maxHeartbeats 400000 in
theorem must_bad (n k x y c d E : Int) (hE : E ≠ 0) (a : Option Addr) (m ca : Nat) (w : World) (hq : ∀ W, Below w.heap.size w W → Calls Tryz.prog 10 #[.agg #[.int .i64 n, .slice a m ca], .agg #[.int .i64 k, .int .i64 x, .int .i64 y, .int .i64 c, .int .i64 d]] W (ZoneE 0 [] E W)) : Calls Tryz.prog 31 #[.agg #[.int .i64 n, .slice a m ca], .agg #[.int .i64 k, .int .i64 x, .int .i64 y, .int .i64 c, .int .i64 d]] w (Gives (.bool false) w) := by
  obtain ⟨W1, hW1⟩ : ∃ W1, W1 = (w.alloc (.cells #[.int .i64 n, .slice a m ca] 24)).alloc (.cells #[.int .i64 k, .int .i64 x, .int .i64 y, .int .i64 c, .int .i64 d] 26) := ⟨_, rfl⟩
  have X1 : P2 w W1 (.int .i64 n) (.slice a m ca) #[.int .i64 k, .int .i64 x, .int .i64 y, .int .i64 c, .int .i64 d] := by rw [hW1]; exact p2_new _ _ _ _
  have hW1' := Lib.hid hW1
  have XP := Lib.hid X1
  have k0 := X1.z.cell 0
  have k1 := X1.z.cell 1
  have k2 := X1.s.cell 0
  have k3 := X1.s.cell 1
  have k4 := X1.s.cell 2
  have k5 := X1.s.cell 3
  have k6 := X1.s.cell 4
  have q := Lib.hid (hq W1 X1.bl)
  have hEb : (E == 0) = false := by simpa using hE
  clear hW1 X1 hE hq
  go_enter Tryz.func31, Tryz.ntmps31
  go_wp2_with fail
  rw [← hW1'.out]
  refine q.out.mono ?_
  rintro e u1 ⟨a7, c7, rfl, -, -, b7, -⟩
  have B := Lib.hid ((XP.out.on b7).bl.trans ((box_below u1 #[.int .i64 0, .slice a7 0 c7] 24).mono (XP.out.on b7).bl.size))
  clear q XP hW1' k0 k1 k2 k3 k4 k5 k6 b7
  go_wp2
  go_ret
  exact ⟨rfl, B.out⟩
set_option maxRecDepth 100000 in
set_option maxHeartbeats 400000 in
theorem must_of (n : Nat) (k x y c d : Int) (R : List Int) (hR : IsZ n R) (mb : Bool) (a : Option Addr) (m ca : Nat) (w : World) (hq : ∀ W, Below w.heap.size w W → Calls Tryz.prog 10 #[.agg #[.int .i64 n, .slice a m ca], .agg #[.int .i64 k, .int .i64 x, .int .i64 y, .int .i64 c, .int .i64 d]] W (ZoneE n R 0 W))
    (hm : ∀ W, Below w.heap.size w W → Calls Tryz.prog 30 #[.agg #[.int .i64 n, .slice a m ca], .agg #[.int .i64 k, .int .i64 x, .int .i64 y, .int .i64 c, .int .i64 d]] W (Gives (.bool mb) W)) : Calls Tryz.prog 31 #[.agg #[.int .i64 n, .slice a m ca], .agg #[.int .i64 k, .int .i64 x, .int .i64 y, .int .i64 c, .int .i64 d]] w (Gives (.bool (decide (R = []) && mb)) w) := by
  obtain ⟨W1, hW1⟩ : ∃ W1, W1 = (w.alloc (.cells #[.int .i64 n, .slice a m ca] 24)).alloc (.cells #[.int .i64 k, .int .i64 x, .int .i64 y, .int .i64 c, .int .i64 d] 26) := ⟨_, rfl⟩
  have X1 : P2 w W1 (.int .i64 n) (.slice a m ca) #[.int .i64 k, .int .i64 x, .int .i64 y, .int .i64 c, .int .i64 d] := by rw [hW1]; exact p2_new _ _ _ _
  have hW1' := Lib.hid hW1
  have XP := Lib.hid X1
  have k0 := X1.z.cell 0
  have k1 := X1.z.cell 1
  have k2 := X1.s.cell 0
  have k3 := X1.s.cell 1
  have k4 := X1.s.cell 2
  have k5 := X1.s.cell 3
  have k6 := X1.s.cell 4
  have q := Lib.hid (hq W1 X1.bl)
  have hm' := Lib.hid hm
  have hRl := hR.small
  have hem := Lib.hid (fun W aa cc (hs : SL W aa R.length cc R) => empty_any n aa R.length cc R W hs)
  rw [show emptyB n R = decide (R = []) by unfold emptyB; rw [hR.check, Bool.and_true]] at hem
  generalize decide (R = []) = eb at *
  clear hW1 X1 hR hq hm
  cases eb
  all_goals
    go_enter Tryz.func31, Tryz.ntmps31
    go_wp2_with fail
    rw [← hW1'.out]
    refine q.out.mono ?_
    rintro e u1 ⟨a7, c7, rfl, hc7, t7, b7, -⟩
    have b8 := box_below u1 #[.int .i64 n, .slice a7 R.length c7] 24
    have XB := Lib.hid ((XP.out.on b7).on b8)
    have S7 := Lib.hid ((show SL u1 a7 R.length c7 R from ⟨rfl, hc7, by omega, t7⟩).below b8)
    clear q XP hW1' k0 k1 k2 k3 k4 k5 k6 b7 b8 t7 hRl
    go_wp2_with fail
    refine (hem.out _ _ _ S7.out).mono ?_
    rintro e u2 ⟨rfl, b2⟩
    have X2 := Lib.hid (XB.out.on b2)
    clear b2 XB S7 hem
    have k0 := X2.out.z.cell 0
    have k1 := X2.out.z.cell 1
    have k2 := X2.out.s.cell 0
    have k3 := X2.out.s.cell 1
    have k4 := X2.out.s.cell 2
    have k5 := X2.out.s.cell 3
    have k6 := X2.out.s.cell 4
  · go_wp2
    go_ret
    exact ⟨rfl, X2.out.bl⟩
  · go_wp2_with fail
    refine (hm'.out _ X2.out.bl).mono ?_
    rintro e u3 ⟨rfl, b3⟩
    have B3 := Lib.hid (X2.out.on b3).bl
    clear b3 X2 k0 k1 k2 k3 k4 k5 k6
    go_wp2
    go_ret
    exact ⟨ret_bool (by simp), B3.out⟩
end Go.Proofs.YtplgmmjppmpnoaaGreatDoor
/- What the statements themselves reckon with valuations. -/
namespace Go.Proofs.YtplgmmjppmpnoaaGreatDoor
open Go.RowKit
set_option linter.unusedVariables false
set_option linter.unusedSimpArgs false

theorem rclipV_any (n : Int) (w : World) : Calls Tryz.prog 78 #[.int .i64 n] w (Tells (.int .i64 (clipV n)) w) := by
  unfold clipV
  go_enter Tryz.func78, Tryz.ntmps78
  by_cases h1 : 1099511627776 < n
  · rw [if_pos h1]
    go_wp2
    go_ret
    exact ⟨rfl, rfl⟩
  · rw [if_neg h1]
    by_cases h2 : n < -1099511627776
    · rw [if_pos h2]
      go_wp2
      go_ret
      exact ⟨rfl, rfl⟩
    · rw [if_neg h2]
      go_wp2
      go_ret
      exact ⟨rfl, rfl⟩
/-- A slice of one's own that reads as l. -/
def SlG (n : Nat) (l : List Int) (w : World) (e : Ending) (w' : World) : Prop := ∃ a c, e = .returned (.slice a n c) ∧ SL w' a n c l ∧ Below w.heap.size w w'
/-- A zone handed back, whose memory is new. -/
def EndsN (n : Int) (m : Nat) (l : List Int) (w : World) (e : Ending) (w' : World) : Prop := ∃ a c, e = .returned (.tuple #[.agg #[.int .i64 n, .slice a m c], .int .i64 0]) ∧ SL w' a m c l ∧ Below w.heap.size w w' ∧ New w a
theorem endsN_of {n : Int} {m : Nat} {l : List Int} {w : World} {e : Ending} {w' : World} (hm : l.length = m) (hmx : m ≤ 9223372036854775807) (h : ZoneE n l 0 w e w') : EndsN n m l w e w' := by
  obtain ⟨a, c, h1, h2, h3, h4, h5⟩ := h
  subst hm
  exact ⟨a, c, h1, ⟨rfl, h2, hmx, h3⟩, h4, h5⟩
theorem sl_size {w : World} {a : Option Addr} {m c : Nat} {l : List Int} (h : SL w a m c l) : l = [] ∨ ∀ p, a = some p → w.heap.size ≠ p.block := by
  rcases h.sees with e | ⟨b, off, e, hb, -⟩
  · exact .inl e
  · right
    intro p hp
    rw [e] at hp
    injection hp with hp
    subst hp
    show w.heap.size ≠ b
    omega
theorem new_far {w : World} {a : Option Addr} {l : List Int} {g : Nat} (h : New w a) (hg : g < w.heap.size) : l = [] ∨ ∀ p, a = some p → g ≠ p.block := by
  right
  intro p hp
  have := h p hp
  omega
theorem below_of_eq {w w' : World} (h : w = w') : Below w.heap.size w w' := by subst h; exact Below.refl _ _
end Go.Proofs.YtplgmmjppmpnoaaGreatDoor
/- The zone of intervals: the program's way and the document's, and what it has. -/
namespace Go.Proofs.YtplgmmjppmpnoaaGreatDoor
open Go.RowKit
set_option linter.unusedVariables false
set_option linter.unusedSimpArgs false

theorem ofP_in (a b : Int) : (-1099511627776 ≤ (ofP a b).1 ∧ (ofP a b).1 ≤ 1099511627776) ∧ (-1099511627776 ≤ (ofP a b).2 ∧ (ofP a b).2 ≤ 1099511627776) := by
  unfold ofP
  split
  · exact ⟨⟨by decide, by decide⟩, by decide, by decide⟩
  · exact ⟨clipV_in a, clipV_in b⟩
theorem ofP_has (a b x : Int) (hx : -1099511627776 ≤ x ∧ x ≤ 1099511627776) : ((ofP a b).1 ≤ x ∧ x ≤ (ofP a b).2) ↔ (a ≤ x ∧ x ≤ b) := by
  unfold ofP clipV
  split
  · simp only
    constructor
    · intro h; omega
    · intro h; omega
  · simp only
    constructor
    · intro h; split at h <;> split at h <;> (try split at h) <;> (try split at h) <;> omega
    · intro h; (repeat' split) <;> omega
theorem boxP_in (xs : List (Int × Int)) (k : Nat) : (-1099511627776 ≤ (boxP xs k).1 ∧ (boxP xs k).1 ≤ 1099511627776) ∧ (-1099511627776 ≤ (boxP xs k).2 ∧ (boxP xs k).2 ≤ 1099511627776) := ofP_in _ _
theorem boxK_leq {n : Nat} {D : Nat → Nat → Int} (xs : List (Int × Int)) : ∀ k, k ≤ n → (Leq n D (mat n (boxK n xs k)) ↔ Leq n D (mat n (allL n)) ∧ ∀ t, t < k → D (t + 1) 0 ≤ (boxP xs t).2 ∧ D 0 (t + 1) ≤ -(boxP xs t).1) := by
  intro k
  induction k with
  | zero =>
    intro _
    constructor
    · intro h; exact ⟨h, fun t ht => by omega⟩
    · intro h; exact h.1
  | succ k ih =>
    intro hk
    have h := ih (by omega)
    have hl := boxK_len n xs k
    have e : boxK n xs (k + 1) = limL n (limL n (boxK n xs k) (k + 1) 0 (boxP xs k).2) 0 (k + 1) (-(clipV (boxP xs k).1)) := rfl
    rw [e, lim_leqF (by rw [limL_len, hl]) (Nat.zero_le _) hk, lim_leqF hl hk (Nat.zero_le _), h, clipV_id (boxP_in xs k).1.1 (boxP_in xs k).1.2]
    constructor
    · rintro ⟨⟨⟨q1, q2⟩, q3⟩, q4⟩
      refine ⟨q1, fun t ht => ?_⟩
      by_cases e2 : t = k
      · subst e2; exact ⟨q3, q4⟩
      · exact q2 t (by omega)
    · rintro ⟨q1, q2⟩
      exact ⟨⟨⟨q1, fun t ht => q2 t (by omega)⟩, (q2 k (by omega)).1⟩, (q2 k (by omega)).2⟩
theorem allL_full {n : Nat} (hn : n ≤ 8) : Full n (allL n) := by
  have e : closedL n (allL n) = allL n := by
    refine closedL_fix (matL_len _ _) ⟨fun i hi => ?_, fun i j k hi hj hk => ?_⟩ (fun i j hi hj => ?_)
    · unfold allL; rw [mat_matL _ hi hi]; unfold widestF; rw [if_pos rfl]
    · unfold allL
      rw [mat_matL _ hi hj, mat_matL _ hi hk, mat_matL _ hk hj]
      unfold widestF
      (repeat' split) <;> omega
    · unfold allL; rw [mat_matL _ hi hj]; exact Int.le_refl _
  have hl : (allL n).length = sz n := matL_len _ _
  exact ⟨hn, hl, by intro q; rw [q] at hl; exact sz_pos n hl.symm, e.symm⟩
/-- The document's zone of intervals. -/
def rbxK (n : Nat) (xs : List (Int × Int)) : Nat → List Int
  | 0 => allL n
  | k + 1 => limitL n (limitL n (rbxK n xs k) (k + 1) 0 (boxP xs k).2) 0 (k + 1) (-(boxP xs k).1)
theorem rbxK_isz {n : Nat} (hn : n ≤ 8) (xs : List (Int × Int)) (k : Nat) : IsZ n (rbxK n xs k) := by
  cases k with
  | zero => exact ⟨hn, .inr (allL_full hn)⟩
  | succ k => exact limitL_isz hn _ _ _ _
theorem lies_rbx {n : Nat} (hn : n ≤ 8) (xs : List (Int × Int)) {D : List Int} (hD : Full n D) : ∀ k, k ≤ n → (Lies n D (rbxK n xs k) ↔ Lies n D (allL n) ∧ ∀ t, t < k → mat n D (t + 1) 0 ≤ (boxP xs t).2 ∧ mat n D 0 (t + 1) ≤ -(boxP xs t).1) := by
  intro k
  induction k with
  | zero =>
    intro _
    constructor
    · intro h; exact ⟨h, fun t ht => by omega⟩
    · intro h; exact h.1
  | succ k ih =>
    intro hk
    have h := ih (by omega)
    have e : rbxK n xs (k + 1) = limitL n (limitL n (rbxK n xs k) (k + 1) 0 (boxP xs k).2) 0 (k + 1) (-(boxP xs k).1) := rfl
    rw [e, lies_limit hD (limitL_isz hn _ _ _ _) (Nat.zero_le _) hk, lies_limit hD (rbxK_isz hn xs k) hk (Nat.zero_le _), h]
    constructor
    · rintro ⟨⟨⟨q1, q2⟩, q3⟩, q4⟩
      refine ⟨q1, fun t ht => ?_⟩
      by_cases e2 : t = k
      · subst e2; exact ⟨q3, q4⟩
      · exact q2 t (by omega)
    · rintro ⟨q1, q2⟩
      exact ⟨⟨⟨q1, fun t ht => q2 t (by omega)⟩, (q2 k (by omega)).1⟩, (q2 k (by omega)).2⟩
/-- The zone of intervals. -/
def boxL (n : Nat) (xs : List (Int × Int)) : List Int := closedL n (boxK n xs n)
theorem boxL_isz {n : Nat} (hn : n ≤ 8) (xs : List (Int × Int)) : IsZ n (boxL n xs) := by
  unfold boxL
  by_cases h : closedL n (boxK n xs n) = []
  · rw [h]; exact ⟨hn, .inl rfl⟩
  · exact ⟨hn, .inr (closed_full hn h)⟩
theorem box_both {n : Nat} (hn : n ≤ 8) (xs : List (Int × Int)) : boxL n xs = rbxK n xs n := by
  have hA := allL_full hn
  refine lies_ext (boxL_isz hn xs) (rbxK_isz hn xs n) (fun D hD => ?_)
  rw [lies_rbx hn xs hD n (Nat.le_refl _)]
  have e : boxL n xs = stepL n (fun _ => boxK n xs n) (allL n) := by unfold boxL stepL; rw [if_neg hA.ne]
  rw [e]
  exact lies_step hD ⟨hn, .inr hA⟩ _ _ (fun _ => boxK_leq xs n (Nat.le_refl _))
/-- Has an interval a value? -/
def itvB (p : Int × Int) (x : Int) : Bool := !farB x && (decide (p.1 ≤ x) && decide (x ≤ p.2))
def inK (n : Nat) (xs : List (Int × Int)) (v : List Int) (k : Nat) : Bool := decide (v.length = n) && (List.range k).all fun t => itvB (xs.getD t (0, 0)) (v.getD t 0)
theorem inK_next (n : Nat) (xs : List (Int × Int)) (v : List Int) (k : Nat) : inK n xs v (k + 1) = (inK n xs v k && itvB (xs.getD k (0, 0)) (v.getD k 0)) := by
  unfold inK
  rw [List.range_succ, List.all_append, Bool.and_assoc]
  simp
theorem box_has {n : Nat} (hn : n ≤ 8) (xs : List (Int × Int)) (v : List Int) : hasB n (boxL n xs) v = inK n xs v (min n v.length) := by
  by_cases hv : v.length = n
  · rw [hv, Nat.min_self, Bool.eq_iff_iff, has_iff (boxL_isz hn xs) hv]
    unfold boxL inK
    rw [has_closed, boxK_leq xs n (Nat.le_refl _), decide_eq_true hv, Bool.true_and, List.all_eq_true]
    constructor
    · rintro ⟨h1, -, h3⟩ t ht
      rw [List.mem_range] at ht
      have q := h3 t ht
      have b := val_in h1 (t + 1)
      unfold difF at q
      rw [valF_zero] at q
      have hvt : valF v (t + 1) = v.getD t 0 := by unfold valF; rw [if_neg (by omega), Nat.add_sub_cancel]
      rw [hvt] at q
      have := (ofP_has (xs.getD t (0, 0)).1 (xs.getD t (0, 0)).2 (v.getD t 0) (by rw [hvt] at b; exact b)).1 ⟨by unfold boxP at q; omega, by unfold boxP at q; omega⟩
      unfold itvB farB
      rw [hvt] at b
      simp only [Bool.and_eq_true, Bool.not_eq_true', Bool.or_eq_false_iff, decide_eq_false_iff_not, decide_eq_true_eq]
      omega
    · intro h
      have hf : v.any farB = false := by
        rw [far_iff]
        intro a ha0 ha
        have := h (a - 1) (List.mem_range.2 (by omega))
        unfold itvB farB at this
        simp at this
        unfold valF
        rw [if_neg (by omega)]
        simp [List.getD]
        omega
      refine ⟨hf, fun i j hi hj => ?_, fun t ht => ?_⟩
      · unfold allL
        rw [mat_matL _ hi hj]
        exact (dif_widest hf i j).1
      · have b := val_in hf (t + 1)
        have hvt : valF v (t + 1) = v.getD t 0 := by unfold valF; rw [if_neg (by omega), Nat.add_sub_cancel]
        have q := h t (List.mem_range.2 ht)
        unfold itvB at q
        rw [Bool.and_eq_true, Bool.and_eq_true, decide_eq_true_eq, decide_eq_true_eq] at q
        rw [hvt] at b
        have := (ofP_has (xs.getD t (0, 0)).1 (xs.getD t (0, 0)).2 (v.getD t 0) b).2 q.2
        unfold difF boxP
        rw [valF_zero, hvt]
        omega
  · have e1 : inK n xs v (min n v.length) = false := by unfold inK; rw [decide_eq_false hv, Bool.false_and]
    rw [e1]
    unfold hasB
    rw [decide_eq_false (show ¬ (v.length : Int) = (n : Int) by omega), Bool.false_and, Bool.and_false]
theorem box_itv {n : Nat} (hn : n ≤ 8) (xs : List (Int × Int)) (i : Nat) (hi : i < n) (h : boxL n xs ≠ []) : itvL n (boxL n xs) (i + 1) = boxP xs i := by
  have hF := (boxL_isz hn xs).2.resolve_left h
  have hle := (boxK_leq (D := mat n (boxL n xs)) xs n (Nat.le_refl _)).1 (by
    intro a b ha hb
    have h5 := (closedL_is (n := n) (M := boxK n xs n) h).2.2 a b ha hb
    unfold clipL at h5
    rw [mat_matL _ ha hb] at h5
    have l1 := hF.low ha hb
    have l2 := widestF_le b a
    change mat n (boxL n xs) a b ≤ _ at h5
    unfold clipF at h5
    omega)
  have hord : ∀ t, t < n → (boxP xs t).1 ≤ (boxP xs t).2 := by
    intro t ht
    have a := hle.2 t ht
    have b := hF.closed.tri (t + 1) (t + 1) 0 (by omega) (by omega) (by omega)
    rw [hF.closed.zero (t + 1) (by omega)] at b
    omega
  have key : ∀ x, (boxP xs i).1 ≤ x → x ≤ (boxP xs i).2 → Has n (boxL n xs) (withL ((List.range n).map fun t => (boxP xs t).1) (i + 1) x) := by
    intro x h1 h2
    have hl : ((List.range n).map fun t => (boxP xs t).1).length = n := by simp
    have hw : ∀ t, t < n → valF (withL ((List.range n).map fun t => (boxP xs t).1) (i + 1) x) (t + 1) = if t = i then x else (boxP xs t).1 := by
      intro t ht
      rw [withL_at (by omega) (by rw [hl]; omega)]
      by_cases e : t = i
      · rw [if_pos e, if_pos (by omega)]
      · rw [if_neg e, if_neg (by omega)]
        unfold valF
        rw [if_neg (by omega), Nat.add_sub_cancel]
        simp [List.getD, ht]
    have hb : ∀ t, t < n → (boxP xs t).1 ≤ valF (withL ((List.range n).map fun t => (boxP xs t).1) (i + 1) x) (t + 1) ∧ valF (withL ((List.range n).map fun t => (boxP xs t).1) (i + 1) x) (t + 1) ≤ (boxP xs t).2 := by
      intro t ht
      rw [hw t ht]
      split
      · rename_i e; subst e; exact ⟨h1, h2⟩
      · exact ⟨Int.le_refl _, hord t ht⟩
    have hf : (withL ((List.range n).map fun t => (boxP xs t).1) (i + 1) x).any farB = false := by
      rw [far_iff]
      intro a ha0 ha
      rw [withL_len, hl] at ha
      obtain ⟨t, rfl⟩ : ∃ t, a = t + 1 := ⟨a - 1, by omega⟩
      have q := hb t (by omega)
      have p := boxP_in xs t
      omega
    unfold boxL
    rw [has_closed, boxK_leq xs n (Nat.le_refl _)]
    refine ⟨hf, fun a b ha hb' => ?_, fun t ht => ?_⟩
    · unfold allL
      rw [mat_matL _ ha hb']
      exact (dif_widest hf a b).1
    · have q := hb t ht
      unfold difF
      rw [valF_zero]
      omega
  have hl : ((List.range n).map fun t => (boxP xs t).1).length = n := by simp
  have k1 := (key (boxP xs i).2 (hord i hi) (Int.le_refl _)).2.2 (i + 1) 0 (by omega) (by omega)
  have k2 := (key (boxP xs i).1 (Int.le_refl _) (hord i hi)).2.2 0 (i + 1) (by omega) (by omega)
  unfold difF at k1 k2
  rw [withL_at (by omega) (by rw [hl]; omega), valF_zero, if_pos rfl] at k1
  rw [valF_zero, withL_at (by omega) (by rw [hl]; omega), if_pos rfl] at k2
  have a := hle.2 i hi
  unfold itvL
  rw [if_neg h]
  have e1 : -(mat n (boxL n xs) 0 (i + 1)) = (boxP xs i).1 := by omega
  have e2 : mat n (boxL n xs) (i + 1) 0 = (boxP xs i).2 := by omega
  rw [e1, e2]
end Go.Proofs.YtplgmmjppmpnoaaGreatDoor
/- Intervals: Has, the document's Of and Plain, its zone of intervals; too many intervals. -/
namespace Go.Proofs.YtplgmmjppmpnoaaGreatDoor
open Go.RowKit
set_option linter.unusedVariables false
set_option linter.unusedSimpArgs false

theorem clip_far (x : Int) : (x == clipV x) = !farB x := by
  unfold clipV farB
  by_cases h1 : 1099511627776 < x
  · rw [if_pos h1, decide_eq_true h1]; simp; omega
  · rw [if_neg h1, decide_eq_false h1]
    by_cases h2 : x < -1099511627776
    · rw [if_pos h2, decide_eq_true h2]; simp; omega
    · rw [if_neg h2, decide_eq_false h2]; simp
theorem vis_any (x : Int) (w : World) : Calls Tryz.prog 96 #[.int .i64 x] w (Tells (.bool (!farB x)) w) := by
  have c1 := Lib.hid (fun w => vclip_any x w)
  have e := Lib.hid (clip_far x)
  rw [← clip_far]
  generalize clipV x = y at *
  clear e
  go_enter Tryz.func96, Tryz.ntmps96
  go_wp2_with fail
  refine (c1.out _).mono ?_
  rintro e w' ⟨rfl, rfl⟩
  go_wp2
  go_ret
  exact ⟨rfl, rfl⟩
theorem rofZ_any (a b : Int) (w : World) : Calls Tryz.prog 64 #[.int .i64 a, .int .i64 b] w (Gives (.agg #[.int .i64 (ofP a b).1, .int .i64 (ofP a b).2]) w) := by
  have hn := Lib.hid (fun w => rnone_any w)
  have c1 := Lib.hid (fun w => rclipV_any a w)
  have c2 := Lib.hid (fun w => rclipV_any b w)
  have hB := Lib.hid (box_below w #[.int .i64 0, .int .i64 0] 58)
  have hr := Lib.hid (show HI _ w.heap.size 0 0 from Holds.new w 58 #[.int .i64 0, .int .i64 0])
  unfold ofP
  by_cases h : b < a ∨ 1099511627776 < a ∨ b < -1099511627776
  · rw [if_pos h]
    have hd : (decide (b < a) || decide (1099511627776 < a) || decide (b < -1099511627776)) = true := by simp; omega
    clear h
    go_enter Tryz.func64, Tryz.ntmps64
    go_wp2_with fail
    all_goals (
      refine (hn.out _).mono ?_
      rintro e w1 ⟨rfl, h1⟩
      have k := hr.out.below h1 hr.out.lt
      have c0 := k.cell 0
      have c1 := k.cell 1
      have f0 := k.free 0
      have f1 := k.free 1
      have hfin := Lib.hid (hi_set k 1 0)
      have kb := Lib.hid (((hB.out.trans (h1.mono hB.out.size)).setCell (p := ⟨w.heap.size, 0, none⟩) (Nat.le_refl _) (.int .i64 1)).setCell (p := ⟨w.heap.size, 1, none⟩) (Nat.le_refl _) (.int .i64 0))
      clear k h1
      go_wp2
      exact itv_ret hfin.out ⟨rfl, kb.out⟩ _ _ 4 rfl rfl rfl)
  · rw [if_neg h]
    have d1 : decide (b < a) = false := by simp; omega
    have d2 : decide (1099511627776 < a) = false := by simp; omega
    have d3 : decide (b < -1099511627776) = false := by simp; omega
    generalize clipV a = x at *
    generalize clipV b = y at *
    clear h
    go_enter Tryz.func64, Tryz.ntmps64
    go_wp2_with fail
    refine (c1.out _).mono ?_
    rintro e w' ⟨rfl, rfl⟩
    go_wp2_with fail
    refine (c2.out _).mono ?_
    rintro e w' ⟨rfl, rfl⟩
    go_wp2
    exact itv_ret (Holds.new w _ _) ⟨rfl, box_below _ _ _⟩ _ _ 4 rfl rfl rfl
theorem rplainZ_any (a b : Int) (w : World) : Calls Tryz.prog 47 #[.agg #[.int .i64 a, .int .i64 b]] w (Gives (.agg #[.int .i64 (ofP a b).1, .int .i64 (ofP a b).2]) w) := by
  have c1 := Lib.hid (fun w => rofZ_any a b w)
  generalize ofP a b = P at *
  obtain ⟨W1, hW1⟩ : ∃ W1, W1 = (w.alloc (.cells #[.int .i64 a, .int .i64 b] 58)).alloc (.cells #[.int .i64 0, .int .i64 0] 58) := ⟨_, rfl⟩
  have hB : Below w.heap.size w W1 := by rw [hW1]; exact box2_below _ _ _ _ _
  have Z2 : HI W1 (w.heap.size + 1) 0 0 := by
    rw [hW1]
    have := Holds.new (w.alloc (.cells #[.int .i64 a, .int .i64 b] 58)) 58 #[.int .i64 0, .int .i64 0]
    simpa using this
  have hW1' := Lib.hid hW1
  have hB' := Lib.hid hB
  have Z2' := Lib.hid Z2
  clear hW1 hB Z2
  go_enter Tryz.func47, Tryz.ntmps47
  go_wp2_with fail
  rw [← hW1'.out]
  refine (c1.out _).mono ?_
  rintro e w1 ⟨rfl, b1⟩
  have k := Z2'.out.below b1 Z2'.out.lt
  have c0 := k.cell 0
  have c1 := k.cell 1
  have f0 := k.free 0
  have f1 := k.free 1
  have hfin := Lib.hid (hi_set k P.1 P.2)
  have kb := Lib.hid (((hB'.out.trans (b1.mono hB'.out.size)).setCell (p := ⟨w.heap.size + 1, 0, none⟩) (by show _ ≤ _ + 1; omega) (.int .i64 P.1)).setCell (p := ⟨w.heap.size + 1, 1, none⟩) (by show _ ≤ _ + 1; omega) (.int .i64 P.2))
  clear k b1
  go_wp2
  exact itv_ret hfin.out ⟨rfl, kb.out⟩ _ _ 2 rfl rfl rfl
/-- Another block than a slice's. -/
theorem new_far2 {w : World} {a : Option Addr} {l : List Int} {g : Nat} (h : l = [] ∨ New w a) (hg : g < w.heap.size) : l = [] ∨ ∀ p, a = some p → g ≠ p.block := by
  rcases h with e | h
  · exact .inl e
  · exact new_far h hg
end Go.Proofs.YtplgmmjppmpnoaaGreatDoor
/- The document's zone of intervals. -/
namespace Go.Proofs.YtplgmmjppmpnoaaGreatDoor
open Go.RowKit
set_option linter.unusedVariables false
set_option linter.unusedSimpArgs false

/-- What stands while it is made. -/
structure Rb (w W : World) (gz n : Nat) (a : Option Addr) (m c : Nat) : Prop where
  bl : Below w.heap.size w W
  rb : ZH W w.heap.size (.int .i64 0) (.slice none 0 0)
  zb : ZH W gz (.int .i64 n) (.slice a m c)
theorem Rb.on {w W W' : World} {gz n : Nat} {a : Option Addr} {m c : Nat} (h : Rb w W gz n a m c) (hb : Below W.heap.size W W') : Rb w W' gz n a m c := ⟨h.bl.trans (hb.mono h.bl.size), h.rb.below hb h.rb.lt, h.zb.below hb h.zb.lt⟩
theorem rb_set {w W : World} {gz n : Nat} {a : Option Addr} {m c : Nat} (h : Rb w W gz n a m c) (hg : w.heap.size < gz) (m2 : Nat) (a2 : Option Addr) (c2 : Nat) : Rb w ((W.setCell ⟨gz, 0, none⟩ (.int .i64 n)).setCell ⟨gz, 1, none⟩ (.slice a2 m2 c2)) gz n a2 m2 c2 :=
  ⟨(h.bl.setCell (p := ⟨gz, 0, none⟩) (by show _ ≤ gz; omega) _).setCell (p := ⟨gz, 1, none⟩) (by show _ ≤ gz; omega) _, (h.rb.far (p := ⟨gz, 0, none⟩) (by show _ ≠ gz; omega) _).far (p := ⟨gz, 1, none⟩) (by show _ ≠ gz; omega) _, zh_set h.zb _ _⟩
set_option maxRecDepth 100000 in
set_option maxHeartbeats 2000000 in
theorem rbox_any (n : Nat) (hn : n ≤ 8) (xs : List (Int × Int)) (hx : xs.length = n) (a : Option Addr) (c : Nat) (w : World) (h : ItS w.heap.size w a xs) : Calls Tryz.prog 28 #[.slice a n c] w (ZoneR n (boxL n xs) w) := by
  rw [box_both hn xs]
  obtain ⟨W1, hW1⟩ : ∃ W1, W1 = w.alloc (.cells #[.int .i64 0, .slice none 0 0] 24) := ⟨_, rfl⟩
  obtain ⟨hB, hz⟩ : Below w.heap.size w W1 ∧ ZH W1 w.heap.size (.int .i64 0) (.slice none 0 0) := by rw [hW1]; exact zone_new
  have q1 := Lib.hid (rall_any n hn W1)
  have hal : Hid ((allL n).length ≤ 81) := Lib.hid (rbxK_isz hn xs 0).small
  have hst : Hid (∀ k, rbxK n xs (k + 1) = limitL n (limitL n (rbxK n xs k) (k + 1) 0 (boxP xs k).2) 0 (k + 1) (-(boxP xs k).1)) := Lib.hid (fun k => rfl)
  have hlk := Lib.hid (fun k => rbxK_isz hn xs k)
  have l1 := Lib.hid (fun L (hL : IsZ n L) k (hk : k + 1 ≤ n) cc a m ca W hS => (rlim_any n L hL (k + 1) 0 hk (Nat.zero_le _) cc a m ca W hS).mono (fun e w' h => h.r))
  have l2 := Lib.hid (fun L (hL : IsZ n L) k (hk : k + 1 ≤ n) cc a m ca W hS => rlim_any n L hL 0 (k + 1) (Nat.zero_le _) hk cc a m ca W hS)
  have h12 := Lib.hid (fun L i j cc => limitL_isz hn L i j cc)
  have hpi := Lib.hid (boxP_in xs)
  have hW1' := Lib.hid hW1
  have hB' := Lib.hid hB
  have hz' := Lib.hid hz
  have hx' := Lib.hid hx
  have hI := Lib.hid h
  have hni : (n : Int) ≤ 8 := by omega
  clear hW1 hB hz h hx hn
  go_enter Tryz.func28, Tryz.ntmps28
  go_wp2_with fail
  rw [← hW1'.out]
  refine q1.out.mono ?_
  rintro e w2 ⟨a2, c2, rfl, hc2, s2, b2, n2⟩
  obtain ⟨m2, hm2⟩ : ∃ m, m = (allL n).length := ⟨_, rfl⟩
  rw [← hm2] at hc2 ⊢
  have S2 : SL w2 a2 m2 c2 (rbxK n xs 0) := ⟨hm2, hc2, by have := hal.out; omega, s2⟩
  obtain ⟨W3, hW3⟩ : ∃ W3, W3 = w2.alloc (.cells #[.int .i64 n, .slice a2 m2 c2] 24) := ⟨_, rfl⟩
  have b3 : Below w2.heap.size w2 W3 := by rw [hW3]; exact box_below _ _ _
  have R3 : Rb w W3 w2.heap.size n a2 m2 c2 := ⟨(hB'.out.trans (b2.mono hB'.out.size)).trans (b3.mono (Nat.le_trans hB'.out.size b2.size)), (hz'.out.below b2 hz'.out.lt).below b3 (hz'.out.below b2 hz'.out.lt).lt, by rw [hW3]; exact Holds.new _ _ _⟩
  have hgz : w.heap.size < w2.heap.size := (hz'.out.below b2 hz'.out.lt).lt
  have S3 := Lib.hid (S2.below b3)
  have N3 := Lib.hid (new_far (l := rbxK n xs 0) (g := w.heap.size) n2 hz'.out.lt)
  have R3' := Lib.hid R3
  have hW3' := Lib.hid hW3
  clear hW3 R3 S2 s2 n2 b2 b3 hc2 hm2 q1 hal hB' hz'
  generalize hgzz : w2.heap.size = gz at *
  have hgz2 := Lib.hid hgzz
  clear hgzz
  go_wp2
  rw [hgz2.out]
  rw [← hW3'.out]
  go_loopw [4] (fun x wr => ∃ (k : Nat) (a : Option Addr) (m c : Nat), k ≤ n ∧ x = .int .i64 k ∧ Hid (Rb w wr gz n a m c) ∧ Hid (SL wr a m c (rbxK n xs k)) ∧ Hid (rbxK n xs k = [] ∨ ∀ p, a = some p → w.heap.size ≠ p.block)) (fun x _ => n - (intOf x).toNat)
  case atStart => exact ⟨0, a2, m2, c2, by omega, rfl, R3', S3, N3⟩
  case round =>
    clear S3 R3' N3 hW3' hgz2
    obtain ⟨k, az, mz, cz, hk, rfl, hR, hS, hN⟩ := hrel
    by_cases hlt : k < n
    · have hki : (k : Int) < (n : Int) := by omega
      have ku : IntKind.i64.wrap ((k : Int) + 1) = (k : Int) + 1 := wrap_small (by omega) (by omega)
      obtain ⟨b, off, rfl, -, i0, i1⟩ := (hI.out.below hR.out.bl).at_ (k := k) (by have := hx'.out; omega)
      have hpl := Lib.hid (fun W => rplainZ_any (xs.getD k (0, 0)).1 (xs.getD k (0, 0)).2 W)
      have hP : Hid (ofP (xs.getD k (0, 0)).1 (xs.getD k (0, 0)).2 = boxP xs k) := Lib.hid rfl
      rw [hP.out] at hpl
      have p1 := Lib.hid (l1.out (rbxK n xs k) (hlk.out k) k (by omega) (boxP xs k).2)
      have p2 := Lib.hid (l2.out (limitL n (rbxK n xs k) (k + 1) 0 (boxP xs k).2) (h12.out _ _ _ _) k (by omega) (-(boxP xs k).1))
      rw [← hst.out k] at p2
      have hkn : ((k + 1 : Nat) : Int) = (k : Int) + 1 := by omega
      rw [hkn] at p1 p2
      rw [show ((0 : Nat) : Int) = 0 from rfl] at p1 p2
      have pin := (hpi.out k).1
      have hw1 : IntKind.i64.wrap (-(boxP xs k).1) = -(boxP xs k).1 := IntWalk.i64_in _ (by omega)
      obtain ⟨L2, hL2⟩ : ∃ L, rbxK n xs (k + 1) = L := ⟨_, rfl⟩
      rw [hL2] at p2
      have hL := Lib.hid hL2
      clear hL2
      generalize limitL n (rbxK n xs k) (k + 1) 0 (boxP xs k).2 = L1 at *
      generalize rbxK n xs k = L0 at *
      generalize boxP xs k = P at *
      generalize (xs.getD k (0, 0)).1 = x at *
      generalize (xs.getD k (0, 0)).2 = y at *
      clear hP hkn
      go_wp2_with fail
      refine (hpl.out _).mono ?_
      rintro e v1 ⟨rfl, b1⟩
      have b2 := box_below v1 #[.int .i64 P.1, .int .i64 P.2] 58
      have R5 := Lib.hid ((hR.out.on b1).on b2)
      have S5 := Lib.hid ((hS.out.below b1).below b2)
      have Z5 := Lib.hid (Holds.new v1 58 #[.int .i64 P.1, .int .i64 P.2])
      have hlt5 : gz < v1.heap.size := (hR.out.on b1).zb.lt
      clear b1 b2 hR hS hN
      generalize P.1 = P1 at *
      generalize P.2 = P2 at *
      go_wp2
      generalize v1.alloc (.cells #[.int .i64 P1, .int .i64 P2] 58) = V at *
      generalize v1.heap.size = g5 at *
      have k0 := R5.out.zb.cell 0
      have k1 := R5.out.zb.cell 1
      have hx5 : g5 ∉ [gz] := by simp; omega
      have f0 : ∀ W, BelowE [gz] V.heap.size V W → W.cell? ⟨g5, 0, none⟩ = some (.int .i64 P1) := fun W hW => (Z5.out.belowE hW Z5.out.lt hx5).cell 0
      have f1 : ∀ W, BelowE [gz] V.heap.size V W → W.cell? ⟨g5, 1, none⟩ = some (.int .i64 P2) := fun W hW => (Z5.out.belowE hW Z5.out.lt hx5).cell 1
      refine wp_drawn_on (fun W => BelowE [gz] V.heap.size V W) (by kernel_rfl) ((BelowE.refl _ _ _).drew) (fun hHeld => ?_)
      refine wpAnyH_take (i := 1) (oi := { dst := some 21, op := Go.Op.move (Go.Operand.tmp 4), type := 3, pos := "ref.go:162", after := #[], guard := none }) (v := ?v1) rfl (by kernel_rfl) (by kernel_rfl) (by kernel_rfl) (fun _ _ _ h => h) (Or.inl ⟨by kernel_rfl, ?h1⟩) (by assumption) ?r1
      case h1 => (intro w hSw; (try dsimp only at hSw); go_simp; try with_reducible rfl)
      try simp only [Act.put, List.setIfInBounds_toArray, List.set_cons_zero, List.set_cons_succ]
      refine wpAnyH_take (i := 2) (oi := { dst := some 22, op := Go.Op.binOp Go.BinOp.add 3 (Go.Operand.tmp 21) (Go.Operand.const (Go.Value.int Go.IntKind.i64 1)) 3, type := 3, pos := "ref.go:162", after := #[{ on := 1, ground := Go.Ground.data }], guard := none }) (v := ?v2) rfl (by kernel_rfl) (by kernel_rfl) (by kernel_rfl) (fun _ _ _ h => h) (Or.inl ⟨by kernel_rfl, ?h2⟩) (by assumption) ?r2
      case h2 => (intro w hSw; (try dsimp only at hSw); go_simp; try with_reducible rfl)
      try simp only [Act.put, List.setIfInBounds_toArray, List.set_cons_zero, List.set_cons_succ]
      refine wpAnyH_take (i := 3) (oi := { dst := some 23, op := Go.Op.fieldAddr 58 (Go.Operand.tmp 5) 1, type := 0, pos := "ref.go:162", after := #[], guard := none }) (v := ?v3) rfl (by kernel_rfl) (by kernel_rfl) (by kernel_rfl) (fun _ _ _ h => h) (Or.inl ⟨by kernel_rfl, ?h3⟩) (by assumption) ?r3
      case h3 => (intro w hSw; (try dsimp only at hSw); go_simp; try with_reducible rfl)
      try simp only [Act.put, List.setIfInBounds_toArray, List.set_cons_zero, List.set_cons_succ]
      refine wpAnyH_take (i := 4) (oi := { dst := some 24, op := Go.Op.load 3 (Go.Operand.tmp 23), type := 3, pos := "ref.go:162", after := #[{ on := 3, ground := Go.Ground.data }], guard := none }) (v := ?v4) rfl (by kernel_rfl) (by kernel_rfl) (by kernel_rfl) (fun _ _ _ h => h) (Or.inl ⟨by kernel_rfl, ?h4⟩) (by assumption) ?r4
      case h4 => (intro w hSw; (try dsimp only at hSw); go_simp; try with_reducible rfl)
      try simp only [Act.put, List.setIfInBounds_toArray, List.set_cons_zero, List.set_cons_succ]
      refine wpAnyH_take (i := 6) (oi := { dst := some 26, op := Go.Op.move (Go.Operand.tmp 4), type := 3, pos := "ref.go:162", after := #[], guard := none }) (v := ?v5) rfl (by kernel_rfl) (by kernel_rfl) (by kernel_rfl) (fun _ _ _ h => h) (Or.inl ⟨by kernel_rfl, ?h5⟩) (by assumption) ?r5
      case h5 => (intro w hSw; (try dsimp only at hSw); go_simp; try with_reducible rfl)
      try simp only [Act.put, List.setIfInBounds_toArray, List.set_cons_zero, List.set_cons_succ]
      refine wpAnyH_take (i := 7) (oi := { dst := some 27, op := Go.Op.binOp Go.BinOp.add 3 (Go.Operand.tmp 26) (Go.Operand.const (Go.Value.int Go.IntKind.i64 1)) 3, type := 3, pos := "ref.go:162", after := #[{ on := 6, ground := Go.Ground.data }], guard := none }) (v := ?v6) rfl (by kernel_rfl) (by kernel_rfl) (by kernel_rfl) (fun _ _ _ h => h) (Or.inl ⟨by kernel_rfl, ?h6⟩) (by assumption) ?r6
      case h6 => (intro w hSw; (try dsimp only at hSw); go_simp; try with_reducible rfl)
      try simp only [Act.put, List.setIfInBounds_toArray, List.set_cons_zero, List.set_cons_succ]
      refine wpAnyH_take (i := 8) (oi := { dst := some 28, op := Go.Op.fieldAddr 58 (Go.Operand.tmp 5) 0, type := 0, pos := "ref.go:162", after := #[], guard := none }) (v := ?v7) rfl (by kernel_rfl) (by kernel_rfl) (by kernel_rfl) (fun _ _ _ h => h) (Or.inl ⟨by kernel_rfl, ?h7⟩) (by assumption) ?r7
      case h7 => (intro w hSw; (try dsimp only at hSw); go_simp; try with_reducible rfl)
      try simp only [Act.put, List.setIfInBounds_toArray, List.set_cons_zero, List.set_cons_succ]
      refine wpAnyH_take (i := 9) (oi := { dst := some 29, op := Go.Op.load 3 (Go.Operand.tmp 28), type := 3, pos := "ref.go:162", after := #[{ on := 8, ground := Go.Ground.data }], guard := none }) (v := ?v8) rfl (by kernel_rfl) (by kernel_rfl) (by kernel_rfl) (fun _ _ _ h => h) (Or.inl ⟨by kernel_rfl, ?h8⟩) (by assumption) ?r8
      case h8 => (intro w hSw; (try dsimp only at hSw); go_simp; try with_reducible rfl)
      try simp only [Act.put, List.setIfInBounds_toArray, List.set_cons_zero, List.set_cons_succ]
      refine wpAnyH_take (i := 10) (oi := { dst := some 30, op := Go.Op.unOp Go.UnOp.neg 3 (Go.Operand.tmp 29), type := 3, pos := "ref.go:162", after := #[{ on := 9, ground := Go.Ground.data }], guard := none }) (v := ?v9) rfl (by kernel_rfl) (by kernel_rfl) (by kernel_rfl) (fun _ _ _ h => h) (Or.inl ⟨by kernel_rfl, ?h9⟩) (by assumption) ?r9
      case h9 => (intro w hSw; (try dsimp only at hSw); go_simp; try with_reducible rfl)
      try simp only [Act.put, List.setIfInBounds_toArray, List.set_cons_zero, List.set_cons_succ]
      refine wpAnyH_ready (rs := [0]) (by kernel_rfl) (by simp) ?_
      refine AllReadyH.cons (o := { dst := some 20, op := Go.Op.load 24 (Go.Operand.tmp 3), type := 24, pos := "ref.go:162", after := #[], guard := none }) rfl (fun K hK => ?_) AllReadyH.nil
      go_simp
      refine hK.out _ _ (hHeld) (fun hHeld => ?_)
      clear hK K
      try simp only [Act.put, List.setIfInBounds_toArray, List.set_cons_zero, List.set_cons_succ]
      refine wpAnyH_ready (rs := [5]) (by kernel_rfl) (by simp) ?_
      refine AllReadyH.cons (o := { dst := some 25, op := Go.Op.call { callee := Go.Callee.value (Go.Operand.func 48), args := #[Go.Operand.tmp 20, Go.Operand.tmp 22, Go.Operand.const (Go.Value.int Go.IntKind.i64 0), Go.Operand.tmp 24], argTypes := #[24, 3, 3, 3] }, type := 24, pos := "ref.go:162", after := #[{ on := 0, ground := Go.Ground.data }, { on := 2, ground := Go.Ground.data }, { on := 4, ground := Go.Ground.data }], guard := none }) rfl (fun K hK => ?_) AllReadyH.nil
      go_simp
      have S6 : SL V.drew az mz cz L0 := S5.out.drewN 1
      with_reducible refine (p1.out az mz cz V.drew S6).mono ?_
      clear S6
      rintro e u5 ⟨aa, ma, ca, rfl, sa, ba⟩
      have hx6 := hHeld.trans (.of ba)
      have R6 := Lib.hid (R5.out.on (Below.fromDrew ba))
      clear ba
      go_simp
      refine hK.out _ _ (hx6) (fun hHeld => ?_)
      clear hK K
      try simp only [Act.put, List.setIfInBounds_toArray, List.set_cons_zero, List.set_cons_succ]
      refine wpAnyH_ready (rs := [11]) (by kernel_rfl) (by simp) ?_
      refine AllReadyH.cons (o := { dst := some 31, op := Go.Op.call { callee := Go.Callee.value (Go.Operand.func 48), args := #[Go.Operand.tmp 25, Go.Operand.const (Go.Value.int Go.IntKind.i64 0), Go.Operand.tmp 27, Go.Operand.tmp 30], argTypes := #[24, 3, 3, 3] }, type := 24, pos := "ref.go:162", after := #[{ on := 5, ground := Go.Ground.data }, { on := 7, ground := Go.Ground.data }, { on := 10, ground := Go.Ground.data }, { on := 5, ground := Go.Ground.chain }], guard := none }) rfl (fun K hK => ?_) AllReadyH.nil
      go_simp
      with_reducible refine (p2.out aa ma ca _ sa).mono ?_
      rintro e u11 ⟨ab, mb, cb, rfl, sb, bb, nb⟩
      have hx7 := hHeld.trans (.of (bb.mono hHeld.size))
      have R7 := Lib.hid (R6.out.on bb)
      have nb' := new_far2 nb R6.out.zb.lt
      have nr := Lib.hid (new_far2 nb R6.out.rb.lt)
      have z0 := R7.out.zb.cell 0
      have z1 := R7.out.zb.cell 1
      have zf0 := R7.out.zb.free 0
      have zf1 := R7.out.zb.free 1
      clear bb nb sa R6
      go_simp
      refine hK.out _ _ (hx7) (fun hHeld => ?_)
      clear hK K
      try simp only [Act.put, List.setIfInBounds_toArray, List.set_cons_zero, List.set_cons_succ]
      refine wpAnyH_ready (rs := [12]) (by kernel_rfl) (by simp) ?_
      refine AllReadyH.cons (o := { dst := none, op := Go.Op.store 24 (Go.Operand.tmp 3) (Go.Operand.tmp 31), type := 0, pos := "ref.go:162", after := #[{ on := 11, ground := Go.Ground.data }, { on := 11, ground := Go.Ground.chain }, { on := 0, ground := Go.Ground.phase }, { on := 1, ground := Go.Ground.phase }, { on := 2, ground := Go.Ground.phase }, { on := 3, ground := Go.Ground.phase }, { on := 4, ground := Go.Ground.phase }, { on := 5, ground := Go.Ground.phase }, { on := 6, ground := Go.Ground.phase }, { on := 7, ground := Go.Ground.phase }, { on := 8, ground := Go.Ground.phase }, { on := 9, ground := Go.Ground.phase }, { on := 10, ground := Go.Ground.phase }, { on := 11, ground := Go.Ground.phase }], guard := none }) rfl (fun K hK => ?_) AllReadyH.nil
      go_simp
      have R8 := rb_set R7.out hgz mb ab cb
      have S8 := sl_set sb gz nb' (.int .i64 n) (.slice ab mb cb)
      have hx8 := (hHeld.setIn (p := ⟨gz, 0, none⟩) (by simp) (.int .i64 n)).setIn (p := ⟨gz, 1, none⟩) (by simp) (.slice ab mb cb)
      clear z0 z1 zf0 zf1 R7
      refine hK.out _ _ (hx8) (fun hHeld => ?_)
      clear hK K
      try simp only [Act.put, List.setIfInBounds_toArray, List.set_cons_zero, List.set_cons_succ]
      refine wpAnyH_done (by kernel_rfl) ?_ _
      clear k0 k1 f0 f1
      have R9 := Lib.hid R8
      have S9 := Lib.hid S8
      clear R8 S8 hHeld
      go_wp2
      go_roundw
      case rel => exact ⟨k + 1, ab, mb, cb, by omega, by go_num, R9, by rw [hL.out]; exact S9, by rw [hL.out]; exact nr⟩
      case measure => simp [intOf]; omega
    · have hke : k = n := by omega
      subst hke
      have k0 := hR.out.zb.cell 0
      have k1 := hR.out.zb.cell 1
      have r0 := hR.out.rb.cell 0
      have r1 := hR.out.rb.cell 1
      have f0 := hR.out.rb.free 0
      have f1 := hR.out.rb.free 1
      generalize rbxK k xs k = L at *
      have hfin := Lib.hid (zh_set hR.out.rb (.int .i64 k) (.slice az mz cz))
      have hsl := Lib.hid (sl_set hS.out w.heap.size hN.out (.int .i64 k) (.slice az mz cz))
      have kb := Lib.hid ((hR.out.bl.setCell (p := ⟨w.heap.size, 0, none⟩) (Nat.le_refl _) (.int .i64 k)).setCell (p := ⟨w.heap.size, 1, none⟩) (Nat.le_refl _) (.slice az mz cz))
      go_wp2
      exact zone_ret hfin.out (show ZoneR k L w _ _ from ⟨az, mz, cz, rfl, hsl.out, kb.out⟩) _ _ 2 rfl rfl rfl
end Go.Proofs.YtplgmmjppmpnoaaGreatDoor
/- 'lives' of the statements on post. -/
namespace Go.Proofs.YtplgmmjppmpnoaaGreatDoor
open Go.RowKit
set_option linter.unusedVariables false
set_option linter.unusedSimpArgs false

def pZ : List Int := [0, 0, 3, 0]
def pA : List Int := [0, -1, 4, 0]
def pB : List Int := [0, -3, 3, 0]
theorem pZ_is : boxL 1 [(0, 3)] = pZ := by decide +kernel
theorem pA_is : boxL 1 [(1, 4)] = pA := by decide +kernel
theorem pB_is : boxL 1 [(3, 3)] = pB := by decide +kernel
theorem pZ_full : IsZ 1 pZ := ⟨by omega, .inr ⟨by omega, rfl, by decide, by decide +kernel⟩⟩
theorem pB_full : IsZ 1 pB := ⟨by omega, .inr ⟨by omega, rfl, by decide, by decide +kernel⟩⟩
theorem cpost_let : postL 1 pZ 2 1 1 1 0 = pA := by decide +kernel
theorem cfault_z : faultL 1 pZ 5 1 0 2 = pB := by decide +kernel
theorem cpost_z : postL 1 pZ 5 1 0 2 0 = [0, 0, 2, 0] := by decide +kernel
theorem cpost_b : postL 1 pB 5 1 0 2 0 = [] := by decide +kernel
theorem cfault_b : faultL 1 pB 5 1 0 2 = pB := by decide +kernel
/-- What a call hands back: a zone of one variable. -/
def End1 (l : List Int) (W : World) (e : Ending) (w' : World) : Prop := ∃ a c, e = .returned (.agg #[.int .i64 1, .slice a 4 c]) ∧ SL w' a 4 c l ∧ Below W.heap.size W w'
theorem lbox_any (lo hi : Int) (l : List Int) (hl : l.length = 4) (h : boxL 1 [(lo, hi)] = l) (W : World) (g : Nat) (hg : W.cell? ⟨g, 0, none⟩ = some (.int .i64 lo)) (hg2 : W.cell? ⟨g, 1, none⟩ = some (.int .i64 hi)) : Calls Tryz.prog 28 #[.slice (some ⟨g, 0, none⟩) 1 1] W (End1 l W) := by
  have hlt := World.block_lt_of_cell? W _ hg
  have hs : ItS W.heap.size W (some ⟨g, 0, none⟩) [(lo, hi)] := by
    refine .inr ⟨g, 0, rfl, hlt, fun k hk => ?_⟩
    match k, hk with
    | 0, _ => exact ⟨hg, hg2⟩
    | k + 1, hk => simp at hk
  have q := rbox_any 1 (by omega) [(lo, hi)] rfl (some ⟨g, 0, none⟩) 1 W hs
  rw [h] at q
  refine q.mono ?_
  rintro e w' ⟨a, m, c, rfl, hS, hB⟩
  obtain rfl : m = 4 := hS.len.trans hl
  exact ⟨a, c, rfl, hS, hB⟩
theorem csame_self (a1 a2 : Option Addr) (c1 c2 : Nat) (l : List Int) (W : World) (h1 : SL W a1 4 c1 l) (h2 : SL W a2 4 c2 l) : Calls Tryz.prog 29 #[.agg #[.int .i64 1, .slice a1 4 c1], .agg #[.int .i64 1, .slice a2 4 c2]] W (Gives (.bool true) W) := by
  have := rsame_any 1 1 a1 a2 l l 4 4 c1 c2 W h1 h2
  simpa using this
set_option maxRecDepth 100000 in
set_option maxHeartbeats 4000000 in
theorem plives_any (w : World) : Calls Tryz.prog 9 #[] w (Gives (.bool true) w) := by
  have q1 := Lib.hid (lbox_any 0 3 pZ rfl pZ_is (w.alloc (.cells #[.int .i64 0, .int .i64 3] 58)) w.heap.size ((Holds.new w _ _).cell 0) ((Holds.new w _ _).cell 1))
  have q2 := Lib.hid (fun W a c hs => (post_ok 1 2 1 1 1 0 pZ pZ_full (by decide) a 4 c W hs).mono (fun e w' h => ends_of (m := 4) (by rw [cpost_let]; rfl) (by omega) h))
  rw [cpost_let] at q2
  have q3 := Lib.hid (fun W a c hs => (fault_ok 1 5 1 0 2 0 pZ pZ_full (by decide) a 4 c W hs).mono (fun e w' h => ends_of (m := 4) (by rw [cfault_z]; rfl) (by omega) h))
  rw [cfault_z] at q3
  have q4 := Lib.hid (fun W a c hs => (post_s 1 0 0 0 0 0 pZ pZ_full.check (by decide) a 4 c W hs).mono (fun e w' h => ends_of (m := 0) rfl (by omega) h))
  have hmz := Lib.hid (fun W a c hs => may_of 1 5 1 0 2 0 (faultL 1 pZ 5 1 0 2) (faultL_isz pZ_full _ _ _ _) a 4 c W (fun V hV => fault_ok 1 5 1 0 2 0 pZ pZ_full (by decide) a 4 c V (SL.below hs hV)))
  rw [cfault_z, show (!decide (pB = [])) = true by decide] at hmz
  have hmb := Lib.hid (fun W a c hs => may_of 1 5 1 0 2 0 (faultL 1 pB 5 1 0 2) (faultL_isz pB_full _ _ _ _) a 4 c W (fun V hV => fault_ok 1 5 1 0 2 0 pB pB_full (by decide) a 4 c V (SL.below hs hV)))
  rw [cfault_b, show (!decide (pB = [])) = true by decide] at hmb
  have huz := Lib.hid (fun W a c hs => must_of 1 5 1 0 2 0 (postL 1 pZ 5 1 0 2 0) (postL_isz pZ_full _ _ _ _ _) true a 4 c W (fun V hV => post_ok 1 5 1 0 2 0 pZ pZ_full (by decide) a 4 c V (SL.below hs hV)) (fun V hV => hmz.out V a c (SL.below hs hV)))
  rw [cpost_z, show (decide (([0, 0, 2, 0] : List Int) = []) && true) = false by decide] at huz
  have hub := Lib.hid (fun W a c hs => must_of 1 5 1 0 2 0 (postL 1 pB 5 1 0 2 0) (postL_isz pB_full _ _ _ _ _) true a 4 c W (fun V hV => post_ok 1 5 1 0 2 0 pB pB_full (by decide) a 4 c V (SL.below hs hV)) (fun V hV => hmb.out V a c (SL.below hs hV)))
  rw [cpost_b, show (decide (([] : List Int) = []) && true) = true by decide] at hub
  simp only [show ((1 : Nat) : Int) = 1 from rfl] at q2 q3 q4 hmz hmb huz hub
  have b0 := Lib.hid (box_below w #[.int .i64 0, .int .i64 3] 58)
  go_enter Tryz.func9, Tryz.ntmps9
  go_wp2_with fail
  refine q1.out.mono ?_
  rintro e w1 ⟨a1, c1, rfl, S1, B1⟩
  have y1 := box_below w1 #[.int .i64 1, .slice a1 4 c1] 24
  have BL := Lib.hid ((b0.out.trans (B1.mono b0.out.size)).trans (y1.mono (Nat.le_trans b0.out.size B1.size)))
  have Z1 := Lib.hid (Holds.new w1 24 #[.int .i64 1, .slice a1 4 c1])
  have SZ := Lib.hid (S1.below y1)
  clear S1 B1 y1 q1 b0
  go_wp2_with fail
  refine (q2.out _ _ _ SZ.out).mono ?_
  rintro e w2 ⟨a2, c2, rfl, S2, B2⟩
  have y2 := box_below w2 #[.int .i64 1, .slice a2 4 c2] 24
  have y3 := box_below (w2.alloc (.cells #[.int .i64 1, .slice a2 4 c2] 24)) #[.int .i64 5, .int .i64 1, .int .i64 0, .int .i64 2, .int .i64 0] 26
  have y23 := y2.trans (y3.mono y2.size)
  have yB := B2.trans (y23.mono B2.size)
  have k0 : w2.cell? ⟨w1.heap.size, 0, none⟩ = some (.int .i64 1) := (Z1.out.below B2 Z1.out.lt).cell 0
  have k1 : w2.cell? ⟨w1.heap.size, 1, none⟩ = some (.slice a1 4 c1) := (Z1.out.below B2 Z1.out.lt).cell 1
  have kk : w1.heap.size < w2.heap.size := (Z1.out.below B2 Z1.out.lt).lt
  replace BL := Lib.hid (BL.out.trans (yB.mono BL.out.size))
  replace Z1 := Lib.hid (Z1.out.below yB Z1.out.lt)
  replace SZ := Lib.hid (SZ.out.below yB)
  have Z2 := Lib.hid ((Holds.new w2 24 #[.int .i64 1, .slice a2 4 c2]).below y3 (Holds.new w2 24 #[.int .i64 1, .slice a2 4 c2]).lt)
  have Z4 := Lib.hid (Holds.new (w2.alloc (.cells #[.int .i64 1, .slice a2 4 c2] 24)) 26 #[.int .i64 5, .int .i64 1, .int .i64 0, .int .i64 2, .int .i64 0])
  have SA := Lib.hid (S2.below y23)
  obtain ⟨V3, hV3⟩ : ∃ V, V = (w2.alloc (.cells #[.int .i64 1, .slice a2 4 c2] 24)).alloc (.cells #[.int .i64 5, .int .i64 1, .int .i64 0, .int .i64 2, .int .i64 0] 26) := ⟨_, rfl⟩
  obtain ⟨G4, hG4⟩ : ∃ G, G = (w2.alloc (.cells #[.int .i64 1, .slice a2 4 c2] 24)).heap.size := ⟨_, rfl⟩
  rw [← hV3] at BL Z1 SZ Z2 Z4 SA
  rw [← hG4] at Z4
  have hG4s : w2.heap.size + 1 = G4 := by rw [hG4]; simp
  have hV3' := Lib.hid hV3
  have hG4' := Lib.hid hG4s
  clear S2 B2 y2 y3 y23 yB q2 hV3 hG4 hG4s
  go_wp2_with fail
  rw [hG4'.out, ← hV3'.out]
  refine (q3.out _ _ _ SZ.out).mono ?_
  rintro e w4 ⟨a4, c4, rfl, S4, B4⟩
  have y4 := box_below w4 #[.int .i64 1, .slice a4 4 c4] 24
  have yB := B4.trans (y4.mono B4.size)
  have k0' : w4.cell? ⟨w1.heap.size, 0, none⟩ = some (.int .i64 1) := (Z1.out.below B4 Z1.out.lt).cell 0
  have k1' : w4.cell? ⟨w1.heap.size, 1, none⟩ = some (.slice a1 4 c1) := (Z1.out.below B4 Z1.out.lt).cell 1
  have kl' : w1.heap.size < w4.heap.size := (Z1.out.below B4 Z1.out.lt).lt
  replace BL := Lib.hid (BL.out.trans (yB.mono BL.out.size))
  replace Z1 := Lib.hid (Z1.out.below yB Z1.out.lt)
  replace Z2 := Lib.hid (Z2.out.below yB Z2.out.lt)
  replace Z4 := Lib.hid (Z4.out.below yB Z4.out.lt)
  replace SZ := Lib.hid (SZ.out.below yB)
  replace SA := Lib.hid (SA.out.below yB)
  have Z5 := Lib.hid (Holds.new w4 24 #[.int .i64 1, .slice a4 4 c4])
  have SB := Lib.hid (S4.below y4)
  obtain ⟨V5, hV5⟩ : ∃ V, V = w4.alloc (.cells #[.int .i64 1, .slice a4 4 c4] 24) := ⟨_, rfl⟩
  rw [← hV5] at BL Z1 SZ Z2 Z4 SA Z5 SB
  have hV5' := Lib.hid hV5
  clear S4 B4 y4 yB q3 hV5 hV3' hG4' k0 k1 kk
  go_wp2_with fail
  rw [← hV5'.out]
  refine (q4.out _ _ _ SZ.out).mono ?_
  rintro e w6 ⟨a6, c6, rfl, -, B6⟩
  have y6 := box_below w6 #[.int .i64 0, .slice a6 0 c6] 24
  have yB := B6.trans (y6.mono B6.size)
  replace BL := Lib.hid (BL.out.trans (yB.mono BL.out.size))
  replace Z1 := Lib.hid (Z1.out.below yB Z1.out.lt)
  replace Z2 := Lib.hid (Z2.out.below yB Z2.out.lt)
  replace Z4 := Lib.hid (Z4.out.below yB Z4.out.lt)
  replace Z5 := Lib.hid (Z5.out.below yB Z5.out.lt)
  replace SZ := Lib.hid (SZ.out.below yB)
  replace SA := Lib.hid (SA.out.below yB)
  replace SB := Lib.hid (SB.out.below yB)
  clear B6 y6 yB q4 hV5' k0' k1' kl'
  go_wp2
  generalize w6.alloc (.cells #[.int .i64 0, .slice a6 0 c6] 24) = V at *
  generalize w1.heap.size = g1 at *
  generalize w2.heap.size = g2 at *
  generalize w4.heap.size = g5 at *
  have Z1c0 : ∀ W, Below V.heap.size V W → W.cell? ⟨g1, 0, none⟩ = some (.int .i64 1) := fun W hW => (Z1.out.below hW Z1.out.lt).cell 0
  have Z1c1 : ∀ W, Below V.heap.size V W → W.cell? ⟨g1, 1, none⟩ = some (.slice a1 4 c1) := fun W hW => (Z1.out.below hW Z1.out.lt).cell 1
  have Z2c0 : ∀ W, Below V.heap.size V W → W.cell? ⟨g2, 0, none⟩ = some (.int .i64 1) := fun W hW => (Z2.out.below hW Z2.out.lt).cell 0
  have Z2c1 : ∀ W, Below V.heap.size V W → W.cell? ⟨g2, 1, none⟩ = some (.slice a2 4 c2) := fun W hW => (Z2.out.below hW Z2.out.lt).cell 1
  have Z5c0 : ∀ W, Below V.heap.size V W → W.cell? ⟨g5, 0, none⟩ = some (.int .i64 1) := fun W hW => (Z5.out.below hW Z5.out.lt).cell 0
  have Z5c1 : ∀ W, Below V.heap.size V W → W.cell? ⟨g5, 1, none⟩ = some (.slice a4 4 c4) := fun W hW => (Z5.out.below hW Z5.out.lt).cell 1
  have Z4c0 : ∀ W, Below V.heap.size V W → W.cell? ⟨G4, 0, none⟩ = some (.int .i64 5) := fun W hW => (Z4.out.below hW Z4.out.lt).cell 0
  have Z4c1 : ∀ W, Below V.heap.size V W → W.cell? ⟨G4, 1, none⟩ = some (.int .i64 1) := fun W hW => (Z4.out.below hW Z4.out.lt).cell 1
  have Z4c2 : ∀ W, Below V.heap.size V W → W.cell? ⟨G4, 2, none⟩ = some (.int .i64 0) := fun W hW => (Z4.out.below hW Z4.out.lt).cell 2
  have Z4c3 : ∀ W, Below V.heap.size V W → W.cell? ⟨G4, 3, none⟩ = some (.int .i64 2) := fun W hW => (Z4.out.below hW Z4.out.lt).cell 3
  have Z4c4 : ∀ W, Below V.heap.size V W → W.cell? ⟨G4, 4, none⟩ = some (.int .i64 0) := fun W hW => (Z4.out.below hW Z4.out.lt).cell 4
  have hsz : Below V.heap.size V V.drew := (Below.refl _ _).drew
  have hall : Below V.heap.size V V.drew := hsz
  refine wp_drawn_on (fun W => Below V.heap.size V W) (by kernel_rfl) ((Below.refl _ _).drew) (fun hHeld => ?_)
  generalize V.drew = VD at hsz hall hHeld ⊢
  refine wpAnyH_take (i := 0) (oi := { dst := some 31, op := Go.Op.move (Go.Operand.tmp 3), type := 28, pos := "law.go:23", after := #[], guard := none }) (v := ?v1) rfl (by kernel_rfl) (by kernel_rfl) (by kernel_rfl) (fun _ _ _ h => h) (Or.inl ⟨by kernel_rfl, ?h1⟩) (by assumption) ?r1
  case h1 => (intro w hSw; (try dsimp only at hSw); go_simp; try with_reducible rfl)
  try simp only [Act.put, List.setIfInBounds_toArray, List.set_cons_zero, List.set_cons_succ]
  refine wpAnyH_take (i := 1) (oi := { dst := some 32, op := Go.Op.binOp Go.BinOp.eql 28 (Go.Operand.tmp 31) (Go.Operand.const (Go.Value.int Go.IntKind.i64 0)) 28, type := 4, pos := "law.go:23", after := #[{ on := 0, ground := Go.Ground.data }], guard := none }) (v := ?v2) rfl (by kernel_rfl) (by kernel_rfl) (by kernel_rfl) (fun _ _ _ h => h) (Or.inl ⟨by kernel_rfl, ?h2⟩) (by assumption) ?r2
  case h2 => (intro w hSw; (try dsimp only at hSw); go_simp; try with_reducible rfl)
  try simp only [Act.put, List.setIfInBounds_toArray, List.set_cons_zero, List.set_cons_succ]
  refine wpAnyH_take (i := 2) (oi := { dst := some 33, op := Go.Op.move (Go.Operand.tmp 32), type := 4, pos := "law.go:23", after := #[{ on := 1, ground := Go.Ground.data }], guard := none }) (v := ?v3) rfl (by kernel_rfl) (by kernel_rfl) (by kernel_rfl) (fun _ _ _ h => h) (Or.inl ⟨by kernel_rfl, ?h3⟩) (by assumption) ?r3
  case h3 => (intro w hSw; (try dsimp only at hSw); go_simp; try with_reducible rfl)
  try simp only [Act.put, List.setIfInBounds_toArray, List.set_cons_zero, List.set_cons_succ]
  refine wpAnyH_take (i := 3) (oi := { dst := some 34, op := Go.Op.load 24 (Go.Operand.tmp 2), type := 24, pos := "law.go:23", after := #[{ on := 2, ground := Go.Ground.guard }], guard := some (2, true) }) (v := ?v4) rfl (by kernel_rfl) (by kernel_rfl) (by kernel_rfl) (fun _ _ _ h => h) (Or.inl ⟨by kernel_rfl, ?h4⟩) (by assumption) ?r4
  case h4 => (intro w hSw; (try dsimp only at hSw); go_simp; try with_reducible rfl)
  try simp only [Act.put, List.setIfInBounds_toArray, List.set_cons_zero, List.set_cons_succ]
  refine wpAnyH_take (i := 4) (oi := { dst := some 35, op := Go.Op.build 58 #[(0, Go.Operand.const (Go.Value.int Go.IntKind.i64 1)), (1, Go.Operand.const (Go.Value.int Go.IntKind.i64 4))], type := 58, pos := "law.go:23", after := #[{ on := 2, ground := Go.Ground.guard }], guard := some (2, true) }) (v := ?v5) rfl (by kernel_rfl) (by kernel_rfl) (by kernel_rfl) (fun _ _ _ h => h) (Or.inl ⟨by kernel_rfl, ?h5⟩) (by assumption) ?r5
  case h5 => (intro w hSw; (try dsimp only at hSw); go_simp; try with_reducible rfl)
  try simp only [Act.put, List.setIfInBounds_toArray, List.set_cons_zero, List.set_cons_succ]
  refine wpAnyH_ready (rs := [5]) (by kernel_rfl) (by simp) ?_
  refine AllReadyH.cons (o := { dst := some 36, op := Go.Op.buildSlice 59 1 #[(0, Go.Operand.tmp 35)], type := 59, pos := "law.go:23", after := #[{ on := 4, ground := Go.Ground.data }, { on := 2, ground := Go.Ground.guard }], guard := some (2, true) }) rfl (fun K hK => ?_) AllReadyH.nil
  go_simp
  have bx5 := box_below (VD) #[.int .i64 1, .int .i64 4] 58
  have hx5 := hHeld.trans (bx5.mono hHeld.size)
  have hI5 := Holds.new (VD) 58 #[.int .i64 1, .int .i64 4]
  generalize hu5 : (VD).alloc (.cells #[.int .i64 1, .int .i64 4] 58) = u5 at *
  generalize (VD).heap.size = gi5 at *
  refine hK.out _ _ (hx5) (fun hHeld => ?_)
  clear hK K
  try simp only [Act.put, List.setIfInBounds_toArray, List.set_cons_zero, List.set_cons_succ]
  refine wpAnyH_ready (rs := [6]) (by kernel_rfl) (by simp) ?_
  refine AllReadyH.cons (o := { dst := some 37, op := Go.Op.call { callee := Go.Callee.value (Go.Operand.func 28), args := #[Go.Operand.tmp 36], argTypes := #[59] }, type := 24, pos := "law.go:23", after := #[{ on := 5, ground := Go.Ground.data }, { on := 2, ground := Go.Ground.chain }, { on := 2, ground := Go.Ground.guard }], guard := some (2, true) }) rfl (fun K hK => ?_) AllReadyH.nil
  go_simp
  refine (lbox_any 1 4 pA rfl pA_is _ gi5 (hI5.cell 0) (hI5.cell 1)).mono ?_
  rintro e u6 ⟨ab6, cb6, rfl, sb6, bb6⟩
  have hx6 := hHeld.trans (bb6.mono hHeld.size)
  go_simp
  refine hK.out _ _ (hx6) (fun hHeld => ?_)
  clear hK K
  try simp only [Act.put, List.setIfInBounds_toArray, List.set_cons_zero, List.set_cons_succ]
  refine wpAnyH_ready (rs := [7]) (by kernel_rfl) (by simp) ?_
  refine AllReadyH.cons (o := { dst := some 38, op := Go.Op.call { callee := Go.Callee.value (Go.Operand.func 29), args := #[Go.Operand.tmp 34, Go.Operand.tmp 37], argTypes := #[24, 24] }, type := 4, pos := "law.go:23", after := #[{ on := 3, ground := Go.Ground.data }, { on := 6, ground := Go.Ground.data }, { on := 6, ground := Go.Ground.chain }, { on := 2, ground := Go.Ground.guard }], guard := some (2, true) }) rfl (fun K hK => ?_) AllReadyH.nil
  go_simp
  refine (csame_self a2 ab6 c2 cb6 _ _ (SA.out.below hHeld) sb6).mono ?_
  rintro e u7 ⟨rfl, bb7⟩
  have hx7 := hHeld.trans (bb7.mono hHeld.size)
  go_simp
  refine hK.out _ _ (hx7) (fun hHeld => ?_)
  clear hK K
  try simp only [Act.put, List.setIfInBounds_toArray, List.set_cons_zero, List.set_cons_succ]
  refine wpAnyH_take (i := 8) (oi := { dst := some 39, op := Go.Op.pick (Go.Operand.tmp 33) (Go.Operand.tmp 38) (Go.Operand.const (Go.Value.bool false)), type := 4, pos := "law.go:23", after := #[{ on := 2, ground := Go.Ground.data }, { on := 7, ground := Go.Ground.data }], guard := none }) (v := ?v6) rfl (by kernel_rfl) (by kernel_rfl) (by kernel_rfl) (fun _ _ _ h => h) (Or.inl ⟨by kernel_rfl, ?h6⟩) (by assumption) ?r6
  case h6 => (intro w hSw; (try dsimp only at hSw); go_simp; try with_reducible rfl)
  try simp only [Act.put, List.setIfInBounds_toArray, List.set_cons_zero, List.set_cons_succ]
  refine wpAnyH_take (i := 9) (oi := { dst := some 40, op := Go.Op.move (Go.Operand.tmp 39), type := 4, pos := "law.go:23", after := #[{ on := 8, ground := Go.Ground.data }, { on := 7, ground := Go.Ground.chain }], guard := none }) (v := ?v7) rfl (by kernel_rfl) (by kernel_rfl) (by kernel_rfl) (fun _ _ _ h => h) (Or.inl ⟨by kernel_rfl, ?h7⟩) (by assumption) ?r7
  case h7 => (intro w hSw; (try dsimp only at hSw); go_simp; try with_reducible rfl)
  try simp only [Act.put, List.setIfInBounds_toArray, List.set_cons_zero, List.set_cons_succ]
  refine wpAnyH_take (i := 10) (oi := { dst := some 41, op := Go.Op.move (Go.Operand.tmp 6), type := 28, pos := "law.go:23", after := #[{ on := 9, ground := Go.Ground.guard }], guard := some (9, true) }) (v := ?v8) rfl (by kernel_rfl) (by kernel_rfl) (by kernel_rfl) (fun _ _ _ h => h) (Or.inl ⟨by kernel_rfl, ?h8⟩) (by assumption) ?r8
  case h8 => (intro w hSw; (try dsimp only at hSw); go_simp; try with_reducible rfl)
  try simp only [Act.put, List.setIfInBounds_toArray, List.set_cons_zero, List.set_cons_succ]
  refine wpAnyH_take (i := 11) (oi := { dst := some 42, op := Go.Op.binOp Go.BinOp.eql 28 (Go.Operand.tmp 41) (Go.Operand.const (Go.Value.int Go.IntKind.i64 0)) 28, type := 4, pos := "law.go:23", after := #[{ on := 10, ground := Go.Ground.data }, { on := 9, ground := Go.Ground.guard }], guard := some (9, true) }) (v := ?v9) rfl (by kernel_rfl) (by kernel_rfl) (by kernel_rfl) (fun _ _ _ h => h) (Or.inl ⟨by kernel_rfl, ?h9⟩) (by assumption) ?r9
  case h9 => (intro w hSw; (try dsimp only at hSw); go_simp; try with_reducible rfl)
  try simp only [Act.put, List.setIfInBounds_toArray, List.set_cons_zero, List.set_cons_succ]
  refine wpAnyH_take (i := 12) (oi := { dst := some 43, op := Go.Op.pick (Go.Operand.tmp 40) (Go.Operand.tmp 42) (Go.Operand.const (Go.Value.bool false)), type := 4, pos := "law.go:23", after := #[{ on := 9, ground := Go.Ground.data }, { on := 11, ground := Go.Ground.data }], guard := none }) (v := ?v10) rfl (by kernel_rfl) (by kernel_rfl) (by kernel_rfl) (fun _ _ _ h => h) (Or.inl ⟨by kernel_rfl, ?h10⟩) (by assumption) ?r10
  case h10 => (intro w hSw; (try dsimp only at hSw); go_simp; try with_reducible rfl)
  try simp only [Act.put, List.setIfInBounds_toArray, List.set_cons_zero, List.set_cons_succ]
  refine wpAnyH_take (i := 13) (oi := { dst := some 44, op := Go.Op.move (Go.Operand.tmp 43), type := 4, pos := "law.go:23", after := #[{ on := 12, ground := Go.Ground.data }, { on := 9, ground := Go.Ground.chain }], guard := none }) (v := ?v11) rfl (by kernel_rfl) (by kernel_rfl) (by kernel_rfl) (fun _ _ _ h => h) (Or.inl ⟨by kernel_rfl, ?h11⟩) (by assumption) ?r11
  case h11 => (intro w hSw; (try dsimp only at hSw); go_simp; try with_reducible rfl)
  try simp only [Act.put, List.setIfInBounds_toArray, List.set_cons_zero, List.set_cons_succ]
  refine wpAnyH_take (i := 14) (oi := { dst := some 45, op := Go.Op.load 24 (Go.Operand.tmp 5), type := 24, pos := "law.go:23", after := #[{ on := 13, ground := Go.Ground.guard }], guard := some (13, true) }) (v := ?v12) rfl (by kernel_rfl) (by kernel_rfl) (by kernel_rfl) (fun _ _ _ h => h) (Or.inl ⟨by kernel_rfl, ?h12⟩) (by assumption) ?r12
  case h12 => (intro w hSw; (try dsimp only at hSw); go_simp; try with_reducible rfl)
  try simp only [Act.put, List.setIfInBounds_toArray, List.set_cons_zero, List.set_cons_succ]
  refine wpAnyH_take (i := 15) (oi := { dst := some 46, op := Go.Op.build 58 #[(0, Go.Operand.const (Go.Value.int Go.IntKind.i64 3)), (1, Go.Operand.const (Go.Value.int Go.IntKind.i64 3))], type := 58, pos := "law.go:23", after := #[{ on := 13, ground := Go.Ground.guard }], guard := some (13, true) }) (v := ?v13) rfl (by kernel_rfl) (by kernel_rfl) (by kernel_rfl) (fun _ _ _ h => h) (Or.inl ⟨by kernel_rfl, ?h13⟩) (by assumption) ?r13
  case h13 => (intro w hSw; (try dsimp only at hSw); go_simp; try with_reducible rfl)
  try simp only [Act.put, List.setIfInBounds_toArray, List.set_cons_zero, List.set_cons_succ]
  refine wpAnyH_ready (rs := [16]) (by kernel_rfl) (by simp) ?_
  refine AllReadyH.cons (o := { dst := some 47, op := Go.Op.buildSlice 59 1 #[(0, Go.Operand.tmp 46)], type := 59, pos := "law.go:23", after := #[{ on := 15, ground := Go.Ground.data }, { on := 13, ground := Go.Ground.guard }], guard := some (13, true) }) rfl (fun K hK => ?_) AllReadyH.nil
  go_simp
  have bx16 := box_below (u7) #[.int .i64 3, .int .i64 3] 58
  have hx16 := hHeld.trans (bx16.mono hHeld.size)
  have hI16 := Holds.new (u7) 58 #[.int .i64 3, .int .i64 3]
  generalize hu16 : (u7).alloc (.cells #[.int .i64 3, .int .i64 3] 58) = u16 at *
  generalize (u7).heap.size = gi16 at *
  refine hK.out _ _ (hx16) (fun hHeld => ?_)
  clear hK K
  try simp only [Act.put, List.setIfInBounds_toArray, List.set_cons_zero, List.set_cons_succ]
  refine wpAnyH_ready (rs := [17]) (by kernel_rfl) (by simp) ?_
  refine AllReadyH.cons (o := { dst := some 48, op := Go.Op.call { callee := Go.Callee.value (Go.Operand.func 28), args := #[Go.Operand.tmp 47], argTypes := #[59] }, type := 24, pos := "law.go:23", after := #[{ on := 16, ground := Go.Ground.data }, { on := 13, ground := Go.Ground.chain }, { on := 13, ground := Go.Ground.guard }], guard := some (13, true) }) rfl (fun K hK => ?_) AllReadyH.nil
  go_simp
  refine (lbox_any 3 3 pB rfl pB_is _ gi16 (hI16.cell 0) (hI16.cell 1)).mono ?_
  rintro e u17 ⟨ab17, cb17, rfl, sb17, bb17⟩
  have hx17 := hHeld.trans (bb17.mono hHeld.size)
  go_simp
  refine hK.out _ _ (hx17) (fun hHeld => ?_)
  clear hK K
  try simp only [Act.put, List.setIfInBounds_toArray, List.set_cons_zero, List.set_cons_succ]
  refine wpAnyH_ready (rs := [18]) (by kernel_rfl) (by simp) ?_
  refine AllReadyH.cons (o := { dst := some 49, op := Go.Op.call { callee := Go.Callee.value (Go.Operand.func 29), args := #[Go.Operand.tmp 45, Go.Operand.tmp 48], argTypes := #[24, 24] }, type := 4, pos := "law.go:23", after := #[{ on := 14, ground := Go.Ground.data }, { on := 17, ground := Go.Ground.data }, { on := 17, ground := Go.Ground.chain }, { on := 13, ground := Go.Ground.guard }], guard := some (13, true) }) rfl (fun K hK => ?_) AllReadyH.nil
  go_simp
  refine (csame_self a4 ab17 c4 cb17 _ _ (SB.out.below hHeld) sb17).mono ?_
  rintro e u18 ⟨rfl, bb18⟩
  have hx18 := hHeld.trans (bb18.mono hHeld.size)
  go_simp
  refine hK.out _ _ (hx18) (fun hHeld => ?_)
  clear hK K
  try simp only [Act.put, List.setIfInBounds_toArray, List.set_cons_zero, List.set_cons_succ]
  refine wpAnyH_take (i := 19) (oi := { dst := some 50, op := Go.Op.pick (Go.Operand.tmp 44) (Go.Operand.tmp 49) (Go.Operand.const (Go.Value.bool false)), type := 4, pos := "law.go:23", after := #[{ on := 13, ground := Go.Ground.data }, { on := 18, ground := Go.Ground.data }], guard := none }) (v := ?v14) rfl (by kernel_rfl) (by kernel_rfl) (by kernel_rfl) (fun _ _ _ h => h) (Or.inl ⟨by kernel_rfl, ?h14⟩) (by assumption) ?r14
  case h14 => (intro w hSw; (try dsimp only at hSw); go_simp; try with_reducible rfl)
  try simp only [Act.put, List.setIfInBounds_toArray, List.set_cons_zero, List.set_cons_succ]
  refine wpAnyH_take (i := 20) (oi := { dst := some 51, op := Go.Op.move (Go.Operand.tmp 50), type := 4, pos := "law.go:23", after := #[{ on := 19, ground := Go.Ground.data }, { on := 18, ground := Go.Ground.chain }], guard := none }) (v := ?v15) rfl (by kernel_rfl) (by kernel_rfl) (by kernel_rfl) (fun _ _ _ h => h) (Or.inl ⟨by kernel_rfl, ?h15⟩) (by assumption) ?r15
  case h15 => (intro w hSw; (try dsimp only at hSw); go_simp; try with_reducible rfl)
  try simp only [Act.put, List.setIfInBounds_toArray, List.set_cons_zero, List.set_cons_succ]
  refine wpAnyH_take (i := 21) (oi := { dst := some 52, op := Go.Op.move (Go.Operand.tmp 8), type := 28, pos := "law.go:23", after := #[{ on := 20, ground := Go.Ground.guard }], guard := some (20, true) }) (v := ?v16) rfl (by kernel_rfl) (by kernel_rfl) (by kernel_rfl) (fun _ _ _ h => h) (Or.inl ⟨by kernel_rfl, ?h16⟩) (by assumption) ?r16
  case h16 => (intro w hSw; (try dsimp only at hSw); go_simp; try with_reducible rfl)
  try simp only [Act.put, List.setIfInBounds_toArray, List.set_cons_zero, List.set_cons_succ]
  refine wpAnyH_take (i := 22) (oi := { dst := some 53, op := Go.Op.binOp Go.BinOp.eql 28 (Go.Operand.tmp 52) (Go.Operand.const (Go.Value.int Go.IntKind.i64 111)) 28, type := 4, pos := "law.go:23", after := #[{ on := 21, ground := Go.Ground.data }, { on := 20, ground := Go.Ground.guard }], guard := some (20, true) }) (v := ?v17) rfl (by kernel_rfl) (by kernel_rfl) (by kernel_rfl) (fun _ _ _ h => h) (Or.inl ⟨by kernel_rfl, ?h17⟩) (by assumption) ?r17
  case h17 => (intro w hSw; (try dsimp only at hSw); go_simp; try with_reducible rfl)
  try simp only [Act.put, List.setIfInBounds_toArray, List.set_cons_zero, List.set_cons_succ]
  refine wpAnyH_take (i := 23) (oi := { dst := some 54, op := Go.Op.pick (Go.Operand.tmp 51) (Go.Operand.tmp 53) (Go.Operand.const (Go.Value.bool false)), type := 4, pos := "law.go:23", after := #[{ on := 20, ground := Go.Ground.data }, { on := 22, ground := Go.Ground.data }], guard := none }) (v := ?v18) rfl (by kernel_rfl) (by kernel_rfl) (by kernel_rfl) (fun _ _ _ h => h) (Or.inl ⟨by kernel_rfl, ?h18⟩) (by assumption) ?r18
  case h18 => (intro w hSw; (try dsimp only at hSw); go_simp; try with_reducible rfl)
  try simp only [Act.put, List.setIfInBounds_toArray, List.set_cons_zero, List.set_cons_succ]
  refine wpAnyH_take (i := 24) (oi := { dst := some 55, op := Go.Op.move (Go.Operand.tmp 54), type := 4, pos := "law.go:23", after := #[{ on := 23, ground := Go.Ground.data }, { on := 20, ground := Go.Ground.chain }], guard := none }) (v := ?v19) rfl (by kernel_rfl) (by kernel_rfl) (by kernel_rfl) (fun _ _ _ h => h) (Or.inl ⟨by kernel_rfl, ?h19⟩) (by assumption) ?r19
  case h19 => (intro w hSw; (try dsimp only at hSw); go_simp; try with_reducible rfl)
  try simp only [Act.put, List.setIfInBounds_toArray, List.set_cons_zero, List.set_cons_succ]
  refine wpAnyH_take (i := 25) (oi := { dst := some 56, op := Go.Op.load 24 (Go.Operand.tmp 1), type := 24, pos := "law.go:23", after := #[{ on := 24, ground := Go.Ground.guard }], guard := some (24, true) }) (v := ?v20) rfl (by kernel_rfl) (by kernel_rfl) (by kernel_rfl) (fun _ _ _ h => h) (Or.inl ⟨by kernel_rfl, ?h20⟩) (by assumption) ?r20
  case h20 => (intro w hSw; (try dsimp only at hSw); go_simp; try with_reducible rfl)
  try simp only [Act.put, List.setIfInBounds_toArray, List.set_cons_zero, List.set_cons_succ]
  refine wpAnyH_take (i := 26) (oi := { dst := some 57, op := Go.Op.load 26 (Go.Operand.tmp 4), type := 26, pos := "law.go:23", after := #[{ on := 24, ground := Go.Ground.guard }], guard := some (24, true) }) (v := ?v21) rfl (by kernel_rfl) (by kernel_rfl) (by kernel_rfl) (fun _ _ _ h => h) (Or.inl ⟨by kernel_rfl, ?h21⟩) (by assumption) ?r21
  case h21 => (intro w hSw; (try dsimp only at hSw); go_simp; try with_reducible rfl)
  try simp only [Act.put, List.setIfInBounds_toArray, List.set_cons_zero, List.set_cons_succ]
  refine wpAnyH_ready (rs := [27]) (by kernel_rfl) (by simp) ?_
  refine AllReadyH.cons (o := { dst := some 58, op := Go.Op.call { callee := Go.Callee.value (Go.Operand.func 30), args := #[Go.Operand.tmp 56, Go.Operand.tmp 57], argTypes := #[24, 26] }, type := 4, pos := "law.go:23", after := #[{ on := 25, ground := Go.Ground.data }, { on := 26, ground := Go.Ground.data }, { on := 24, ground := Go.Ground.chain }, { on := 24, ground := Go.Ground.guard }], guard := some (24, true) }) rfl (fun K hK => ?_) AllReadyH.nil
  go_simp
  refine (hmz.out _ a1 c1 (SZ.out.below hHeld)).mono ?_
  rintro e u27 ⟨rfl, bb27⟩
  have hx27 := hHeld.trans (bb27.mono hHeld.size)
  go_simp
  refine hK.out _ _ (hx27) (fun hHeld => ?_)
  clear hK K
  try simp only [Act.put, List.setIfInBounds_toArray, List.set_cons_zero, List.set_cons_succ]
  refine wpAnyH_take (i := 28) (oi := { dst := some 59, op := Go.Op.pick (Go.Operand.tmp 55) (Go.Operand.tmp 58) (Go.Operand.const (Go.Value.bool false)), type := 4, pos := "law.go:23", after := #[{ on := 24, ground := Go.Ground.data }, { on := 27, ground := Go.Ground.data }], guard := none }) (v := ?v22) rfl (by kernel_rfl) (by kernel_rfl) (by kernel_rfl) (fun _ _ _ h => h) (Or.inl ⟨by kernel_rfl, ?h22⟩) (by assumption) ?r22
  case h22 => (intro w hSw; (try dsimp only at hSw); go_simp; try with_reducible rfl)
  try simp only [Act.put, List.setIfInBounds_toArray, List.set_cons_zero, List.set_cons_succ]
  refine wpAnyH_take (i := 29) (oi := { dst := some 60, op := Go.Op.move (Go.Operand.tmp 59), type := 4, pos := "law.go:23", after := #[{ on := 28, ground := Go.Ground.data }, { on := 27, ground := Go.Ground.chain }], guard := none }) (v := ?v23) rfl (by kernel_rfl) (by kernel_rfl) (by kernel_rfl) (fun _ _ _ h => h) (Or.inl ⟨by kernel_rfl, ?h23⟩) (by assumption) ?r23
  case h23 => (intro w hSw; (try dsimp only at hSw); go_simp; try with_reducible rfl)
  try simp only [Act.put, List.setIfInBounds_toArray, List.set_cons_zero, List.set_cons_succ]
  refine wpAnyH_take (i := 30) (oi := { dst := some 61, op := Go.Op.load 24 (Go.Operand.tmp 1), type := 24, pos := "law.go:23", after := #[{ on := 29, ground := Go.Ground.guard }], guard := some (29, true) }) (v := ?v24) rfl (by kernel_rfl) (by kernel_rfl) (by kernel_rfl) (fun _ _ _ h => h) (Or.inl ⟨by kernel_rfl, ?h24⟩) (by assumption) ?r24
  case h24 => (intro w hSw; (try dsimp only at hSw); go_simp; try with_reducible rfl)
  try simp only [Act.put, List.setIfInBounds_toArray, List.set_cons_zero, List.set_cons_succ]
  refine wpAnyH_take (i := 31) (oi := { dst := some 62, op := Go.Op.load 26 (Go.Operand.tmp 4), type := 26, pos := "law.go:23", after := #[{ on := 29, ground := Go.Ground.guard }], guard := some (29, true) }) (v := ?v25) rfl (by kernel_rfl) (by kernel_rfl) (by kernel_rfl) (fun _ _ _ h => h) (Or.inl ⟨by kernel_rfl, ?h25⟩) (by assumption) ?r25
  case h25 => (intro w hSw; (try dsimp only at hSw); go_simp; try with_reducible rfl)
  try simp only [Act.put, List.setIfInBounds_toArray, List.set_cons_zero, List.set_cons_succ]
  refine wpAnyH_ready (rs := [32]) (by kernel_rfl) (by simp) ?_
  refine AllReadyH.cons (o := { dst := some 63, op := Go.Op.call { callee := Go.Callee.value (Go.Operand.func 31), args := #[Go.Operand.tmp 61, Go.Operand.tmp 62], argTypes := #[24, 26] }, type := 4, pos := "law.go:23", after := #[{ on := 30, ground := Go.Ground.data }, { on := 31, ground := Go.Ground.data }, { on := 29, ground := Go.Ground.chain }, { on := 29, ground := Go.Ground.guard }], guard := some (29, true) }) rfl (fun K hK => ?_) AllReadyH.nil
  go_simp
  refine (huz.out _ a1 c1 (SZ.out.below hHeld)).mono ?_
  rintro e u32 ⟨rfl, bb32⟩
  have hx32 := hHeld.trans (bb32.mono hHeld.size)
  go_simp
  refine hK.out _ _ (hx32) (fun hHeld => ?_)
  clear hK K
  try simp only [Act.put, List.setIfInBounds_toArray, List.set_cons_zero, List.set_cons_succ]
  refine wpAnyH_take (i := 33) (oi := { dst := some 64, op := Go.Op.unOp Go.UnOp.not 4 (Go.Operand.tmp 63), type := 4, pos := "law.go:23", after := #[{ on := 32, ground := Go.Ground.data }, { on := 29, ground := Go.Ground.guard }], guard := some (29, true) }) (v := ?v26) rfl (by kernel_rfl) (by kernel_rfl) (by kernel_rfl) (fun _ _ _ h => h) (Or.inl ⟨by kernel_rfl, ?h26⟩) (by assumption) ?r26
  case h26 => (intro w hSw; (try dsimp only at hSw); go_simp; try with_reducible rfl)
  try simp only [Act.put, List.setIfInBounds_toArray, List.set_cons_zero, List.set_cons_succ]
  refine wpAnyH_take (i := 34) (oi := { dst := some 65, op := Go.Op.pick (Go.Operand.tmp 60) (Go.Operand.tmp 64) (Go.Operand.const (Go.Value.bool false)), type := 4, pos := "law.go:23", after := #[{ on := 29, ground := Go.Ground.data }, { on := 33, ground := Go.Ground.data }], guard := none }) (v := ?v27) rfl (by kernel_rfl) (by kernel_rfl) (by kernel_rfl) (fun _ _ _ h => h) (Or.inl ⟨by kernel_rfl, ?h27⟩) (by assumption) ?r27
  case h27 => (intro w hSw; (try dsimp only at hSw); go_simp; try with_reducible rfl)
  try simp only [Act.put, List.setIfInBounds_toArray, List.set_cons_zero, List.set_cons_succ]
  refine wpAnyH_take (i := 35) (oi := { dst := some 66, op := Go.Op.move (Go.Operand.tmp 65), type := 4, pos := "law.go:23", after := #[{ on := 34, ground := Go.Ground.data }, { on := 32, ground := Go.Ground.chain }], guard := none }) (v := ?v28) rfl (by kernel_rfl) (by kernel_rfl) (by kernel_rfl) (fun _ _ _ h => h) (Or.inl ⟨by kernel_rfl, ?h28⟩) (by assumption) ?r28
  case h28 => (intro w hSw; (try dsimp only at hSw); go_simp; try with_reducible rfl)
  try simp only [Act.put, List.setIfInBounds_toArray, List.set_cons_zero, List.set_cons_succ]
  refine wpAnyH_take (i := 36) (oi := { dst := some 67, op := Go.Op.load 24 (Go.Operand.tmp 5), type := 24, pos := "law.go:23", after := #[{ on := 35, ground := Go.Ground.guard }], guard := some (35, true) }) (v := ?v29) rfl (by kernel_rfl) (by kernel_rfl) (by kernel_rfl) (fun _ _ _ h => h) (Or.inl ⟨by kernel_rfl, ?h29⟩) (by assumption) ?r29
  case h29 => (intro w hSw; (try dsimp only at hSw); go_simp; try with_reducible rfl)
  try simp only [Act.put, List.setIfInBounds_toArray, List.set_cons_zero, List.set_cons_succ]
  refine wpAnyH_take (i := 37) (oi := { dst := some 68, op := Go.Op.load 26 (Go.Operand.tmp 4), type := 26, pos := "law.go:23", after := #[{ on := 35, ground := Go.Ground.guard }], guard := some (35, true) }) (v := ?v30) rfl (by kernel_rfl) (by kernel_rfl) (by kernel_rfl) (fun _ _ _ h => h) (Or.inl ⟨by kernel_rfl, ?h30⟩) (by assumption) ?r30
  case h30 => (intro w hSw; (try dsimp only at hSw); go_simp; try with_reducible rfl)
  try simp only [Act.put, List.setIfInBounds_toArray, List.set_cons_zero, List.set_cons_succ]
  refine wpAnyH_ready (rs := [38]) (by kernel_rfl) (by simp) ?_
  refine AllReadyH.cons (o := { dst := some 69, op := Go.Op.call { callee := Go.Callee.value (Go.Operand.func 31), args := #[Go.Operand.tmp 67, Go.Operand.tmp 68], argTypes := #[24, 26] }, type := 4, pos := "law.go:23", after := #[{ on := 36, ground := Go.Ground.data }, { on := 37, ground := Go.Ground.data }, { on := 35, ground := Go.Ground.chain }, { on := 35, ground := Go.Ground.guard }], guard := some (35, true) }) rfl (fun K hK => ?_) AllReadyH.nil
  go_simp
  refine (hub.out _ a4 c4 (SB.out.below hHeld)).mono ?_
  rintro e u38 ⟨rfl, bb38⟩
  have hx38 := hHeld.trans (bb38.mono hHeld.size)
  go_simp
  refine hK.out _ _ (hx38) (fun hHeld => ?_)
  clear hK K
  try simp only [Act.put, List.setIfInBounds_toArray, List.set_cons_zero, List.set_cons_succ]
  refine wpAnyH_take (i := 39) (oi := { dst := some 70, op := Go.Op.pick (Go.Operand.tmp 66) (Go.Operand.tmp 69) (Go.Operand.const (Go.Value.bool false)), type := 4, pos := "law.go:23", after := #[{ on := 35, ground := Go.Ground.data }, { on := 38, ground := Go.Ground.data }], guard := none }) (v := ?v31) rfl (by kernel_rfl) (by kernel_rfl) (by kernel_rfl) (fun _ _ _ h => h) (Or.inl ⟨by kernel_rfl, ?h31⟩) (by assumption) ?r31
  case h31 => (intro w hSw; (try dsimp only at hSw); go_simp; try with_reducible rfl)
  try simp only [Act.put, List.setIfInBounds_toArray, List.set_cons_zero, List.set_cons_succ]
  refine wpAnyH_take (i := 40) (oi := { dst := some 0, op := Go.Op.assign (Go.Operand.tmp 70), type := 4, pos := "law.go:23", after := #[{ on := 39, ground := Go.Ground.data }, { on := 38, ground := Go.Ground.chain }, { on := 0, ground := Go.Ground.phase }, { on := 1, ground := Go.Ground.phase }, { on := 2, ground := Go.Ground.phase }, { on := 3, ground := Go.Ground.phase }, { on := 4, ground := Go.Ground.phase }, { on := 5, ground := Go.Ground.phase }, { on := 6, ground := Go.Ground.phase }, { on := 7, ground := Go.Ground.phase }, { on := 8, ground := Go.Ground.phase }, { on := 9, ground := Go.Ground.phase }, { on := 10, ground := Go.Ground.phase }, { on := 11, ground := Go.Ground.phase }, { on := 12, ground := Go.Ground.phase }, { on := 13, ground := Go.Ground.phase }, { on := 14, ground := Go.Ground.phase }, { on := 15, ground := Go.Ground.phase }, { on := 16, ground := Go.Ground.phase }, { on := 17, ground := Go.Ground.phase }, { on := 18, ground := Go.Ground.phase }, { on := 19, ground := Go.Ground.phase }, { on := 20, ground := Go.Ground.phase }, { on := 21, ground := Go.Ground.phase }, { on := 22, ground := Go.Ground.phase }, { on := 23, ground := Go.Ground.phase }, { on := 24, ground := Go.Ground.phase }, { on := 25, ground := Go.Ground.phase }, { on := 26, ground := Go.Ground.phase }, { on := 27, ground := Go.Ground.phase }, { on := 28, ground := Go.Ground.phase }, { on := 29, ground := Go.Ground.phase }, { on := 30, ground := Go.Ground.phase }, { on := 31, ground := Go.Ground.phase }, { on := 32, ground := Go.Ground.phase }, { on := 33, ground := Go.Ground.phase }, { on := 34, ground := Go.Ground.phase }, { on := 35, ground := Go.Ground.phase }, { on := 36, ground := Go.Ground.phase }, { on := 37, ground := Go.Ground.phase }, { on := 38, ground := Go.Ground.phase }, { on := 39, ground := Go.Ground.phase }], guard := none }) (v := ?v32) rfl (by kernel_rfl) (by kernel_rfl) (by kernel_rfl) (fun _ _ _ h => h) (Or.inl ⟨by kernel_rfl, ?h32⟩) (by assumption) ?r32
  case h32 => (intro w hSw; (try dsimp only at hSw); go_simp; try with_reducible rfl)
  try simp only [Act.put, List.setIfInBounds_toArray, List.set_cons_zero, List.set_cons_succ]
  refine wpAnyH_done (by kernel_rfl) ?_ _
  have hfin := Lib.hid (BL.out.trans (hHeld.mono BL.out.size))
  go_wp2
  go_ret
  exact ⟨rfl, hfin.out⟩
end Go.Proofs.YtplgmmjppmpnoaaGreatDoor
/- What the document tells is wrong with a zone and a statement. -/
namespace Go.Proofs.YtplgmmjppmpnoaaGreatDoor
open Go.RowKit
set_option linter.unusedVariables false
set_option linter.unusedSimpArgs false

def pchk (n : Int) (l : List Int) (k x y c d : Int) : Int := if checkB n l = false then 80 else if rightB k x y c d n = false then 111 else 0
theorem pchk_ok {n : Int} {l : List Int} {k x y c d : Int} (h : pchk n l k x y c d = 0) : ∃ N : Nat, n = N ∧ IsZ N l ∧ rightB k x y c d N = true := by
  unfold pchk at h
  cases h1 : checkB n l
  · rw [if_pos h1] at h; omega
  · rw [if_neg (by rw [h1]; decide)] at h
    cases h2 : rightB k x y c d n
    · rw [if_pos h2] at h; omega
    · have hm : mayB n = true := by unfold checkB at h1; rw [Bool.and_eq_true] at h1; exact h1.1
      obtain ⟨N, rfl, hN⟩ := mayB_of hm
      refine ⟨N, rfl, ⟨hN, ?_⟩, h2⟩
      by_cases e : l = []
      · exact .inl e
      · right
        have : fullB N l = true := by unfold fullB; rw [h1, decide_eq_false e]; rfl
        obtain ⟨K, hK, hF⟩ := full_of this
        have : K = N := by omega
        subst this
        exact hF
set_option maxRecDepth 100000 in
set_option maxHeartbeats 400000 in
theorem rchk_any (n k x y c d : Int) (l : List Int) (a : Option Addr) (m ca : Nat) (w : World) (h : SL w a m ca l) : Calls Tryz.prog 7 #[.agg #[.int .i64 n, .slice a m ca], .agg #[.int .i64 k, .int .i64 x, .int .i64 y, .int .i64 c, .int .i64 d]] w (Gives (.int .i64 (pchk n l k x y c d)) w) := by
  obtain ⟨W1, hW1⟩ : ∃ W1, W1 = (w.alloc (.cells #[.int .i64 n, .slice a m ca] 24)).alloc (.cells #[.int .i64 k, .int .i64 x, .int .i64 y, .int .i64 c, .int .i64 d] 26) := ⟨_, rfl⟩
  have X1 : P2 w W1 (.int .i64 n) (.slice a m ca) #[.int .i64 k, .int .i64 x, .int .i64 y, .int .i64 c, .int .i64 d] := by rw [hW1]; exact p2_new _ _ _ _
  have hW1' := Lib.hid hW1
  have XP := Lib.hid X1
  have k0 := X1.z.cell 0
  have k1 := X1.z.cell 1
  have q1 := Lib.hid (rcheck_any n a m ca l W1 (h.below X1.bl))
  have q2 := Lib.hid (fun W => rright_any k x y c d n W)
  cases hk : checkB n l
  · rw [hk] at q1
    rw [show pchk n l k x y c d = 80 by unfold pchk; rw [if_pos hk]]
    clear hW1 X1 h hk
    go_enter Tryz.func7, Tryz.ntmps7
    go_wp2_with fail
    rw [← hW1'.out]
    refine q1.out.mono ?_
    rintro e w2 ⟨rfl, b2⟩
    have B := Lib.hid (XP.out.on b2).bl
    clear b2 q1 k0 k1 XP
    go_wp2
    go_ret
    exact ⟨rfl, B.out⟩
  · rw [hk] at q1
    have hR : Hid ((if rightB k x y c d n = false then (111 : Int) else 0) = pchk n l k x y c d) := Lib.hid (by unfold pchk; simp [hk])
    rw [← hR.out]
    generalize rightB k x y c d n = rb at *
    clear hW1 X1 h hk hR
    cases rb
    all_goals
      go_enter Tryz.func7, Tryz.ntmps7
      go_wp2_with fail
      rw [← hW1'.out]
      refine q1.out.mono ?_
      rintro e w2 ⟨rfl, b2⟩
      have X2 := Lib.hid (XP.out.on b2)
      clear b2 q1 k0 k1 XP
      have k0 := X2.out.z.cell 0
      have s0 := X2.out.s.cell 0
      have s1 := X2.out.s.cell 1
      have s2 := X2.out.s.cell 2
      have s3 := X2.out.s.cell 3
      have s4 := X2.out.s.cell 4
      go_wp2_with fail
      refine (q2.out _).mono ?_
      rintro e w3 ⟨rfl, b3⟩
      have B := Lib.hid (X2.out.on b3).bl
      clear b3 q2 k0 s0 s1 s2 s3 s4 X2
      go_wp2
      go_ret
      exact ⟨rfl, B.out⟩
end Go.Proofs.YtplgmmjppmpnoaaGreatDoor
/- Behind a statement of a zone that has more is no less. -/
namespace Go.Proofs.YtplgmmjppmpnoaaGreatDoor
open Go.RowKit
set_option linter.unusedVariables false
set_option linter.unusedSimpArgs false

/-- One zone has no more than another one. -/
def LE (n : Nat) (X Y : List Int) : Prop := X ≠ [] → Y ≠ [] ∧ Leq n (mat n X) (mat n Y)
theorem le_leqB {n : Nat} {X Y : List Int} (hX : IsZ n X) (hY : IsZ n Y) (h : LE n X Y) : leqB X Y = true := by
  by_cases e : X = []
  · rw [e]; exact leqB_nil Y
  · obtain ⟨h1, h2⟩ := h e
    exact (leqB_iff (hX.2.resolve_left e) (hY.2.resolve_left h1)).2 h2
theorem le_of {n : Nat} {X Y : List Int} (hX : IsZ n X) (hY : IsZ n Y) (h : leqB X Y = true) : LE n X Y := by
  intro e
  by_cases e2 : Y = []
  · rw [e2, leqB_none e] at h; cases h
  · exact ⟨e2, (leqB_iff (hX.2.resolve_left e) (hY.2.resolve_left e2)).1 h⟩
theorem le_refl {n : Nat} (X : List Int) : LE n X X := fun e => ⟨e, fun _ _ _ _ => Int.le_refl _⟩
theorem le_join {n : Nat} {A B : List Int} (hA : IsZ n A) (hB : IsZ n B) : LE n A (joinL n A B) := by
  have hJ := joinL_isz hA hB
  have h := leq_join hA hB hJ
  rw [le_leqB hJ hJ (le_refl _)] at h
  have h2 := h.symm
  rw [Bool.and_eq_true] at h2
  exact le_of hA hJ h2.1
theorem le_step {n : Nat} {X Y : List Int} (f : List Int → List Int) (h : X ≠ [] → Y ≠ [] ∧ Leq n (mat n (f X)) (mat n (f Y))) : LE n (stepL n f X) (stepL n f Y) := by
  intro e
  unfold stepL at e ⊢
  by_cases eX : X = []
  · rw [if_pos eX] at e; exact absurd rfl e
  rw [if_neg eX] at e ⊢
  obtain ⟨hY, hL⟩ := h eX
  rw [if_neg hY]
  obtain ⟨h3, h4, h5⟩ := closedL_is e
  have hc : Leq n (mat n (closedL n (f X))) (mat n (clipL n (f Y))) := fun i j hi hj => by
    refine Int.le_trans (h5 i j hi hj) ?_
    have a := hL i j hi hj
    unfold clipL
    rw [mat_matL _ hi hj, mat_matL _ hi hj]
    unfold clipF
    omega
  obtain ⟨q1, q2⟩ := closedL_max h4 hc
  exact ⟨closedL_ne q1, q2⟩
theorem le_limit {n : Nat} {X Y : List Int} (hX : IsZ n X) (hY : IsZ n Y) (h : LE n X Y) {i j : Nat} (hi : i ≤ n) (hj : j ≤ n) (c : Int) : LE n (limitL n X i j c) (limitL n Y i j c) :=
  le_step _ fun e => by
    obtain ⟨h1, h2⟩ := h e
    refine ⟨h1, fun a b ha hb => ?_⟩
    rw [limL_at (hX.2.resolve_left e).len hi hj c ha hb, limL_at (hY.2.resolve_left h1).len hi hj c ha hb]
    have q := h2 a b ha hb
    split
    · rename_i e2; obtain ⟨rfl, rfl⟩ := e2; omega
    · exact q
theorem le_forget {n : Nat} {X Y : List Int} (hX : IsZ n X) (hY : IsZ n Y) (h : LE n X Y) {i : Nat} (hi : i ≤ n) : LE n (forgetL n X i) (forgetL n Y i) :=
  le_step _ fun e => by
    obtain ⟨h1, h2⟩ := h e
    refine ⟨h1, fun a b ha hb => ?_⟩
    rw [forL_at hi (hX.2.resolve_left e).len ha hb, forL_at hi (hY.2.resolve_left h1).len ha hb]
    have q := h2 a b ha hb
    split
    · exact Int.le_refl _
    · split
      · exact Int.le_refl _
      · exact q
theorem le_mov {n : Nat} {X Y : List Int} (hX : IsZ n X) (hY : IsZ n Y) (h : LE n X Y) {i : Nat} (hi : i ≤ n) (c : Int) : LE n (letMovL n X i c) (letMovL n Y i c) :=
  le_step _ fun e => by
    obtain ⟨h1, h2⟩ := h e
    refine ⟨h1, fun a b ha hb => ?_⟩
    rw [movL_at hi (hX.2.resolve_left e).len c ha hb, movL_at hi (hY.2.resolve_left h1).len c ha hb]
    have q := h2 a b ha hb
    split
    · omega
    · split
      · omega
      · exact q
theorem le_let {n : Nat} (hn : n ≤ 8) {X Y : List Int} (hX : IsZ n X) (hY : IsZ n Y) (h : LE n X Y) {i j : Nat} (hi : i ≤ n) (hj : j ≤ n) (c : Int) : LE n (letL n X i j c) (letL n Y i j c) := by
  unfold letL
  split
  · exact le_mov hX hY h hi c
  · rw [tie_both hn X hi hj c, tie_both hn Y hi hj c]
    exact le_limit (limitL_isz hn _ _ _ _) (limitL_isz hn _ _ _ _) (le_limit (forgetL_isz hn _ _) (forgetL_isz hn _ _) (le_forget hX hY h hi) hi hj c) hj hi (-c)
theorem le_post {n : Nat} {k x y c d : Int} {X Y : List Int} (hX : IsZ n X) (hY : IsZ n Y) (h : LE n X Y) (hr : rightB k x y c d n = true) : LE n (postL n X k x y c d) (postL n Y k x y c d) := by
  have hn := hX.1
  cases way_of hr with
  | skip => exact h
  | set P Q c q1 q2 q3 q4 => exact le_let hn hX hY h q2 q3 c
  | pick P c d q1 q2 q3 q4 q5 => exact le_limit (limitL_isz hn _ _ _ _) (limitL_isz hn _ _ _ _) (le_limit (forgetL_isz hn _ _) (forgetL_isz hn _ _) (le_forget hX hY h q2) q2 (Nat.zero_le _) d) (Nat.zero_le _) q2 (-c)
  | limit P Q c q1 q2 q3 q4 => exact le_limit hX hY h q1 q2 c
  | check P Q c q1 q2 q3 q4 => exact le_limit hX hY h q1 q2 c
theorem post_rises {n : Nat} {k x y c d : Int} {A B : List Int} (hA : IsZ n A) (hB : IsZ n B) (hr : rightB k x y c d n = true) : leqB (postL n A k x y c d) (postL n (joinL n A B) k x y c d) = true :=
  le_leqB (postL_isz hA _ _ _ _ _) (postL_isz (joinL_isz hA hB) _ _ _ _ _) (le_post hA (joinL_isz hA hB) (le_join hA hB) hr)
end Go.Proofs.YtplgmmjppmpnoaaGreatDoor
