/-
  Words and walks under the law's proof.
-/
import Derived.Test.YtimgocfkogebmaaGreatDoorRows
import Derived.Lib.OthersKept
import Derived.Lib.Hide
import Derived.Shelf.Small.Bits
import Derived.Shelf.Small.Wraps
import Derived.Shelf.Strconv.Itoa0
import Derived.Shelf.Strconv.Itoa1
import Derived.Shelf.LaysM
import Derived.Shelf.Strconv.Itoa2
import Derived.Shelf.Strconv.Itoa3
import Derived.Shelf.GgClosure.StringsIndexFunc
import Derived.Ground.GgwProg
import Derived.Shelf.GgClosure.StringsIndexFuncTop
import Derived.Shelf.GgClosure.StringsRunes
import Derived.Shelf.Strings.Prefix
import Derived.Shelf.Strings.FuncGrows
import Derived.Shelf.Slices.Turned
import Derived.Shelf.Slices.Equal
import Derived.Ground.Names2Prog
import Derived.Shelf.Slices.Clone
import Derived.Shelf.Slices.SearchI
import Derived.Shelf.Slices.Empties2
import Derived.Test.YtimgocfkogebmaaGreatDoorProg
import Derived.Deep.Slices
import Derived.Deep.Fields
import Derived.ChangeSame
import Derived.SizedLaws
import Derived.Sort.Walk0
import Derived.Lib.SlicesCompact
import Derived.Lib.SlicesS
import Derived.Test.YtimgocfkogebmaaGreatDoorQF01
import Derived.Test.YtimgocfkogebmaaGreatDoorQF03
import Derived.Test.YtimgocfkogebmaaGreatDoorQF04
import Derived.Test.YtimgocfkogebmaaGreatDoorQF07
namespace Go.Proofs.YtimgocfkogebmaaGreatDoor
open Go.RowKit
set_option linter.unusedVariables false
set_option linter.unusedSimpArgs false
theorem isVar_nat {x : Int} {n : Nat} (h : isVarB x n = true) : ∃ X : Nat, x = X ∧ 1 ≤ X ∧ X ≤ n := by
  unfold isVarB at h
  rw [Bool.and_eq_true, decide_eq_true_eq, decide_eq_true_eq] at h
  exact ⟨x.toNat, by omega, by omega, by omega⟩
theorem isTerm_nat {x : Int} {n : Nat} (h : isTermB x n = true) : ∃ X : Nat, x = X ∧ X ≤ n := by
  unfold isTermB at h
  rw [Bool.and_eq_true, decide_eq_true_eq, decide_eq_true_eq] at h
  exact ⟨x.toNat, by omega, by omega⟩
theorem isVal_in {c : Int} (h : isValB c = true) : -1099511627776 ≤ c ∧ c ≤ 1099511627776 := by
  unfold isValB at h
  rwa [Bool.and_eq_true, decide_eq_true_eq, decide_eq_true_eq] at h
inductive Way (n : Nat) : Int → Int → Int → Int → Int → Prop
  | skip : Way n 1 0 0 0 0
  | set (X Y : Nat) (c : Int) : 1 ≤ X → X ≤ n → Y ≤ n → isValB c = true → Way n 2 X Y c 0
  | pick (X : Nat) (c d : Int) : 1 ≤ X → X ≤ n → isValB c = true → isValB d = true → c ≤ d → Way n 3 X 0 c d
  | limit (X Y : Nat) (c : Int) : X ≤ n → Y ≤ n → X ≠ Y → isValB c = true → Way n 4 X Y c 0
  | check (X Y : Nat) (c : Int) : X ≤ n → Y ≤ n → X ≠ Y → isValB c = true → Way n 5 X Y c 0
theorem way_of {n : Nat} {k x y c d : Int} (h : rightB k x y c d n = true) : Way n k x y c d := by
  unfold rightB at h
  by_cases hb : (n : Int) < 0 ∨ 8 < (n : Int) ∨ k < 1 ∨ 5 < k
  · rw [if_pos hb] at h; cases h
  rw [if_neg hb] at h
  obtain rfl | rfl | rfl | rfl | rfl : k = 1 ∨ k = 2 ∨ k = 3 ∨ k = 4 ∨ k = 5 := by omega
  · rw [show stmtB 1 x y c d n = skipB x y c d by unfold stmtB; simp] at h
    unfold skipB at h
    simp only [Bool.and_eq_true, beq_iff_eq] at h
    obtain ⟨rfl, rfl, rfl, rfl⟩ := h
    exact .skip
  · rw [show stmtB 2 x y c d n = letB x y c d n by unfold stmtB; simp] at h
    unfold letB at h
    simp only [Bool.and_eq_true, beq_iff_eq] at h
    obtain ⟨h1, h2, h3, rfl⟩ := h
    obtain ⟨X, rfl, q1, q2⟩ := isVar_nat h1
    obtain ⟨Y, rfl, q3⟩ := isTerm_nat h2
    exact .set X Y c q1 q2 q3 h3
  · rw [show stmtB 3 x y c d n = anyB x y c d n by unfold stmtB; simp] at h
    unfold anyB at h
    simp only [Bool.and_eq_true, beq_iff_eq, decide_eq_true_eq] at h
    obtain ⟨h1, rfl, h3, h4, h5⟩ := h
    obtain ⟨X, rfl, q1, q2⟩ := isVar_nat h1
    exact .pick X c d q1 q2 h3 h4 h5
  · rw [show stmtB 4 x y c d n = diffB x y c d n by unfold stmtB; simp] at h
    unfold diffB at h
    simp only [Bool.and_eq_true, beq_iff_eq, bne_iff_ne] at h
    obtain ⟨h1, h2, h3, h4, rfl⟩ := h
    obtain ⟨X, rfl, q1⟩ := isTerm_nat h1
    obtain ⟨Y, rfl, q2⟩ := isTerm_nat h2
    exact .limit X Y c q1 q2 (fun e => h3 (by rw [e])) h4
  · rw [show stmtB 5 x y c d n = diffB x y c d n by unfold stmtB; simp] at h
    unfold diffB at h
    simp only [Bool.and_eq_true, beq_iff_eq, bne_iff_ne] at h
    obtain ⟨h1, h2, h3, h4, rfl⟩ := h
    obtain ⟨X, rfl, q1⟩ := isTerm_nat h1
    obtain ⟨Y, rfl, q2⟩ := isTerm_nat h2
    exact .check X Y c q1 q2 (fun e => h3 (by rw [e])) h4
theorem postL_isz {n : Nat} {l : List Int} (hz : IsZ n l) (k x y c d : Int) : IsZ n (postL n l k x y c d) := by
  unfold postL
  split
  · exact hz
  · split
    · exact letL_isz hz.1 _ _ _ _
    · split <;> exact limitL_isz hz.1 _ _ _ _
theorem faultL_isz {n : Nat} {l : List Int} (hz : IsZ n l) (k x y c : Int) : IsZ n (faultL n l k x y c) := by
  unfold faultL
  split
  · exact limitL_isz hz.1 _ _ _ _
  · exact ⟨hz.1, .inl rfl⟩
theorem post_ok (n : Nat) (k x y c d : Int) (l : List Int) (hz : IsZ n l) (hr : rightB k x y c d n = true) (a : Option Addr) (m ca : Nat) (w : World) (h : SL w a m ca l) : Calls Tryz.prog 100 #[.agg #[.int .i64 n, .slice a m ca], .agg #[.int .i64 k, .int .i64 x, .int .i64 y, .int .i64 c, .int .i64 d]] w (ZoneE n (postL n l k x y c d) 0 w) := by
  refine Post_of n k x y c d n 0 _ a m ca w fun W hW => ?_
  have hS := h.below hW
  cases way_of hr with
  | skip => exact do_steps_1 n 0 0 0 0 l _ hz hr a m ca (fun W hs => pskip_any n l hz 1 0 0 0 0 a m ca W hs) W hS
  | set X Y c q1 q2 q3 q4 => exact do_steps_2 n X Y c 0 l _ hz hr a m ca (fun W hs => let_any n l hz 2 X Y c 0 X Y rfl rfl q1 q2 q3 a m ca W hs) W hS
  | pick X c d q1 q2 q3 q4 q5 => exact do_steps_3 n X 0 c d l _ hz hr a m ca (fun W hs => ppick_any n l hz 3 X 0 c d X rfl q1 q2 (isVal_in q3) a m ca W hs) W hS
  | limit X Y c q1 q2 q3 q4 => exact do_steps_4 n X Y c 0 l _ hz hr a m ca (fun W hs => plimit_any n l hz 4 X Y c 0 X Y rfl rfl q1 q2 a m ca W hs) W hS
  | check X Y c q1 q2 q3 q4 => exact do_steps_5 n X Y c 0 l _ hz hr a m ca (fun W hs => plimit_any n l hz 5 X Y c 0 X Y rfl rfl q1 q2 a m ca W hs) W hS
theorem fault_ok (n : Nat) (k x y c d : Int) (l : List Int) (hz : IsZ n l) (hr : rightB k x y c d n = true) (a : Option Addr) (m ca : Nat) (w : World) (h : SL w a m ca l) : Calls Tryz.prog 134 #[.agg #[.int .i64 n, .slice a m ca], .agg #[.int .i64 k, .int .i64 x, .int .i64 y, .int .i64 c, .int .i64 d]] w (ZoneE n (faultL n l k x y c) 0 w) := by
  refine Fault_of n k x y c d n 0 _ a m ca w fun W hW => ?_
  have hS := h.below hW
  cases way_of hr with
  | skip => exact do_faults_1 n 0 0 0 0 l _ hz hr a m ca (fun W hs => never_any n 1 0 0 0 0 a m ca W) W hS
  | set X Y c q1 q2 q3 q4 => exact do_faults_2 n X Y c 0 l _ hz hr a m ca (fun W hs => never_any n 2 X Y c 0 a m ca W) W hS
  | pick X c d q1 q2 q3 q4 q5 => exact do_faults_3 n X 0 c d l _ hz hr a m ca (fun W hs => never_any n 3 X 0 c d a m ca W) W hS
  | limit X Y c q1 q2 q3 q4 => exact do_faults_4 n X Y c 0 l _ hz hr a m ca (fun W hs => never_any n 4 X Y c 0 a m ca W) W hS
  | check X Y c q1 q2 q3 q4 => exact do_faults_5 n X Y c 0 l _ hz hr a m ca (fun W hs => beyond_any n l hz 5 X Y c 0 X Y rfl rfl q1 q2 (isVal_in q4) a m ca W hs) W hS
structure P2 (w W : World) (zn zm : Value) (st : Array Value) : Prop where
  bl : Below w.heap.size w W
  z : ZH W w.heap.size zn zm
  s : Holds W (w.heap.size + 1) 73 st
theorem P2.on {w W W' : World} {zn zm : Value} {st : Array Value} (h : P2 w W zn zm st) (hb : Below W.heap.size W W') : P2 w W' zn zm st :=
  ⟨h.bl.trans (hb.mono h.bl.size), h.z.below hb h.z.lt, h.s.below hb h.s.lt⟩
theorem p2_new (w : World) (zn zm : Value) (st : Array Value) : P2 w ((w.alloc (.cells #[zn, zm] 51)).alloc (.cells st 73)) zn zm st := by
  refine ⟨(box_below _ _ _).alloc (by simp) _, (Holds.new w _ _).alloc _, ?_⟩
  have := Holds.new (w.alloc (.cells #[zn, zm] 51)) 73 st
  simpa using this
set_option maxRecDepth 100000 in
set_option maxHeartbeats 400000 in
theorem may_of (n : Nat) (k x y c d : Int) (R : List Int) (hR : IsZ n R) (a : Option Addr) (m ca : Nat) (w : World) (hq : ∀ W, Below w.heap.size w W → Calls Tryz.prog 134 #[.agg #[.int .i64 n, .slice a m ca], .agg #[.int .i64 k, .int .i64 x, .int .i64 y, .int .i64 c, .int .i64 d]] W (ZoneE n R 0 W)) : Calls Tryz.prog 84 #[.agg #[.int .i64 n, .slice a m ca], .agg #[.int .i64 k, .int .i64 x, .int .i64 y, .int .i64 c, .int .i64 d]] w (Gives (.bool (!decide (R = []))) w) := by
  obtain ⟨W1, hW1⟩ : ∃ W1, W1 = (w.alloc (.cells #[.int .i64 n, .slice a m ca] 51)).alloc (.cells #[.int .i64 k, .int .i64 x, .int .i64 y, .int .i64 c, .int .i64 d] 73) := ⟨_, rfl⟩
  have X1 : P2 w W1 (.int .i64 n) (.slice a m ca) #[.int .i64 k, .int .i64 x, .int .i64 y, .int .i64 c, .int .i64 d] := by rw [hW1]; exact p2_new _ _ _ _
  have hW1' := Lib.hid hW1
  have XP := Lib.hid X1
  have k0 := X1.z.cell 0
  have k1 := X1.z.cell 1
  have k2 := X1.s.cell 0
  have k3 := X1.s.cell 1
  have k4 := X1.s.cell 2
  have k5 := X1.s.cell 3
  have k6 := X1.s.cell 4
  have q := Lib.hid (hq W1 X1.bl)
  have hRl := hR.small
  have hem := Lib.hid (fun W aa cc (hs : SL W aa R.length cc R) => empty_any n aa R.length cc R W hs)
  rw [show emptyB n R = decide (R = []) by unfold emptyB; rw [hR.check, Bool.and_true]] at hem
  generalize decide (R = []) = eb at *
  clear hW1 X1 hR hq
  go_enter Tryz.func84, Tryz.ntmps84
  go_wp2_with fail
  rw [← hW1'.out]
  refine q.out.mono ?_
  rintro e u1 ⟨a7, c7, rfl, hc7, t7, b7, -⟩
  have b8 := box_below u1 #[.int .i64 n, .slice a7 R.length c7] 51
  have B := Lib.hid ((XP.out.on b7).bl.trans (b8.mono (XP.out.on b7).bl.size))
  have S7 := Lib.hid ((show SL u1 a7 R.length c7 R from ⟨rfl, hc7, by omega, t7⟩).below b8)
  clear q XP hW1' k0 k1 k2 k3 k4 k5 k6 b7 b8 t7 hRl
  go_wp2_with fail
  refine (hem.out _ _ _ S7.out).mono ?_
  rintro e u2 ⟨rfl, b2⟩
  have B2 := Lib.hid (B.out.trans (b2.mono B.out.size))
  clear b2 B S7 hem
  go_wp2
  go_ret
  exact ⟨rfl, B2.out⟩
set_option maxRecDepth 100000 in
set_option maxHeartbeats 400000 in
theorem must_of (n : Nat) (k x y c d : Int) (R : List Int) (hR : IsZ n R) (mb : Bool) (a : Option Addr) (m ca : Nat) (w : World) (hq : ∀ W, Below w.heap.size w W → Calls Tryz.prog 100 #[.agg #[.int .i64 n, .slice a m ca], .agg #[.int .i64 k, .int .i64 x, .int .i64 y, .int .i64 c, .int .i64 d]] W (ZoneE n R 0 W))
    (hm : ∀ W, Below w.heap.size w W → Calls Tryz.prog 84 #[.agg #[.int .i64 n, .slice a m ca], .agg #[.int .i64 k, .int .i64 x, .int .i64 y, .int .i64 c, .int .i64 d]] W (Gives (.bool mb) W)) : Calls Tryz.prog 88 #[.agg #[.int .i64 n, .slice a m ca], .agg #[.int .i64 k, .int .i64 x, .int .i64 y, .int .i64 c, .int .i64 d]] w (Gives (.bool (decide (R = []) && mb)) w) := by
  obtain ⟨W1, hW1⟩ : ∃ W1, W1 = (w.alloc (.cells #[.int .i64 n, .slice a m ca] 51)).alloc (.cells #[.int .i64 k, .int .i64 x, .int .i64 y, .int .i64 c, .int .i64 d] 73) := ⟨_, rfl⟩
  have X1 : P2 w W1 (.int .i64 n) (.slice a m ca) #[.int .i64 k, .int .i64 x, .int .i64 y, .int .i64 c, .int .i64 d] := by rw [hW1]; exact p2_new _ _ _ _
  have hW1' := Lib.hid hW1
  have XP := Lib.hid X1
  have k0 := X1.z.cell 0
  have k1 := X1.z.cell 1
  have k2 := X1.s.cell 0
  have k3 := X1.s.cell 1
  have k4 := X1.s.cell 2
  have k5 := X1.s.cell 3
  have k6 := X1.s.cell 4
  have q := Lib.hid (hq W1 X1.bl)
  have hm' := Lib.hid hm
  have hRl := hR.small
  have hem := Lib.hid (fun W aa cc (hs : SL W aa R.length cc R) => empty_any n aa R.length cc R W hs)
  rw [show emptyB n R = decide (R = []) by unfold emptyB; rw [hR.check, Bool.and_true]] at hem
  generalize decide (R = []) = eb at *
  clear hW1 X1 hR hq hm
  cases eb
  all_goals
    go_enter Tryz.func88, Tryz.ntmps88
    go_wp2_with fail
    rw [← hW1'.out]
    refine q.out.mono ?_
    rintro e u1 ⟨a7, c7, rfl, hc7, t7, b7, -⟩
    have b8 := box_below u1 #[.int .i64 n, .slice a7 R.length c7] 51
    have XB := Lib.hid ((XP.out.on b7).on b8)
    have S7 := Lib.hid ((show SL u1 a7 R.length c7 R from ⟨rfl, hc7, by omega, t7⟩).below b8)
    clear q XP hW1' k0 k1 k2 k3 k4 k5 k6 b7 b8 t7 hRl
    go_wp2_with fail
    refine (hem.out _ _ _ S7.out).mono ?_
    rintro e u2 ⟨rfl, b2⟩
    have X2 := Lib.hid (XB.out.on b2)
    clear b2 XB S7 hem
    have k0 := X2.out.z.cell 0
    have k1 := X2.out.z.cell 1
    have k2 := X2.out.s.cell 0
    have k3 := X2.out.s.cell 1
    have k4 := X2.out.s.cell 2
    have k5 := X2.out.s.cell 3
    have k6 := X2.out.s.cell 4
  · go_wp2
    go_ret
    exact ⟨rfl, X2.out.bl⟩
  · go_wp2_with fail
    refine (hm'.out _ X2.out.bl).mono ?_
    rintro e u3 ⟨rfl, b3⟩
    have B3 := Lib.hid (X2.out.on b3).bl
    clear b3 X2 k0 k1 k2 k3 k4 k5 k6
    go_wp2
    go_ret
    exact ⟨ret_bool (by simp), B3.out⟩
end Go.Proofs.YtimgocfkogebmaaGreatDoor
namespace Go.Proofs.YtimgocfkogebmaaGreatDoor
open Go.RowKit
set_option linter.unusedVariables false
set_option linter.unusedSimpArgs false
def letterI (c : Int) : Bool := decide (97 ≤ c ∧ c ≤ 122 ∨ 65 ≤ c ∧ c ≤ 90 ∨ c = 95)
def moreI (c : Int) : Bool := letterI c || (decide (48 ≤ c ∧ c ≤ 57) || decide (c = 46))
def fileI (c : Int) : Bool := moreI c || (decide (c = 45) || decide (c = 47))
theorem letter_high {c : Int} (h : 128 ≤ c) : letterI c = false := by unfold letterI; rw [decide_eq_false]; omega
theorem more_high {c : Int} (h : 128 ≤ c) : moreI c = false := by unfold moreI; rw [letter_high h, decide_eq_false (by omega), decide_eq_false (by omega)]; rfl
theorem file_high {c : Int} (h : 128 ≤ c) : fileI c = false := by unfold fileI; rw [more_high h, decide_eq_false (by omega), decide_eq_false (by omega)]; rfl
def nsz (s : ByteArray) : Nat := ((codes s).takeWhile moreI).length
theorem takeWhile_stop {p : Int → Bool} : ∀ (l : List Int) (k : Nat), (∀ t, t < k → p (l.getD t 0) = true) → k < l.length → p (l.getD k 0) = false → (l.takeWhile p).length = k
  | [], k, _, hk, _ => by simp at hk
  | x :: l, 0, _, _, h => by simp at h; simp [h]
  | x :: l, k + 1, h0, hk, h => by
    have hx : p x = true := by simpa using h0 0 (by omega)
    have ih := takeWhile_stop l k (fun t ht => by simpa using h0 (t + 1) (by omega)) (by simp at hk; omega) (by simpa using h)
    simp [hx, ih]
theorem takeWhile_whole {p : Int → Bool} : ∀ (l : List Int), (∀ t, t < l.length → p (l.getD t 0) = true) → (l.takeWhile p).length = l.length
  | [], _ => rfl
  | x :: l, h => by
    have hx : p x = true := by simpa using h 0 (by simp)
    have ih := takeWhile_whole l (fun t ht => by simpa using h (t + 1) (by simp; omega))
    simp [hx, ih]
theorem nsz_at {s : ByteArray} {k : Nat} (h0 : ∀ t, t < k → moreI ((codes s).getD t 0) = true) (hk : k < s.size) (h : moreI ((codes s).getD k 0) = false) : nsz s = k :=
  takeWhile_stop _ _ h0 (by rw [codes_length]; exact hk) h
theorem nsz_whole {s : ByteArray} (h0 : ∀ t, t < s.size → moreI ((codes s).getD t 0) = true) : nsz s = s.size := by
  have := takeWhile_whole (p := moreI) (codes s) (by rw [codes_length]; exact h0)
  rw [codes_length] at this
  exact this
theorem nsz_le (s : ByteArray) : nsz s ≤ s.size := by
  have := List.Sublist.length_le (List.takeWhile_sublist (l := codes s) moreI)
  rw [codes_length] at this
  exact this
def begB (s : ByteArray) : Bool := decide (0 < s.size) && letterI ((codes s).getD 0 0)
def nameB (s : ByteArray) : Bool := decide (s.size ≤ 32) && (begB s && decide (nsz s = s.size))
def allF (s : ByteArray) : Bool := (codes s).all fileI
def fileB (s : ByteArray) : Bool := decide (s.size ≤ 64) && (begB s && allF s)
theorem allF_no {s : ByteArray} {k : Nat} (hk : k < s.size) (h : fileI ((codes s).getD k 0) = false) : allF s = false := by
  unfold allF
  rw [List.all_eq_false]
  have hk' : k < (codes s).length := by rw [codes_length]; exact hk
  exact ⟨(codes s).getD k 0, by simp [List.getD, hk'], by rw [h]; simp⟩
theorem allF_yes {s : ByteArray} (h : ∀ t, t < s.size → fileI ((codes s).getD t 0) = true) : allF s = true := by
  unfold allF
  rw [List.all_eq_true]
  intro x hx
  obtain ⟨t, ht, rfl⟩ := List.getElem_of_mem hx
  have := h t (by rw [← codes_length]; exact ht)
  simpa [List.getD, ht] using this
set_option maxRecDepth 100000 in
theorem letter_any (c : Int) (w : World) : Calls Tryz.prog 190 #[.int .i32 c] w (SetTo (.bool (letterI c)) w) := by
  go_enter Tryz.func190, Tryz.ntmps190
  go_wp2
  all_goals
    go_ret
    exact ⟨ret_bool (by unfold letterI; rw [Bool.eq_iff_iff]; simp; omega), rfl⟩
set_option maxRecDepth 100000 in
theorem rletter_any (c : Int) (w : World) : Calls Tryz.prog 70 #[.int .u8 c] w (SetTo (.bool (letterI c)) w) := by
  go_enter Tryz.func70, Tryz.ntmps70
  go_wp2
  all_goals
    go_ret
    exact ⟨ret_bool (by unfold letterI; rw [Bool.eq_iff_iff]; simp; omega), rfl⟩
set_option maxRecDepth 100000 in
theorem nameRune_any (c : Int) (w : World) : Calls Tryz.prog 189 #[.int .i32 c] w (SetTo (.bool (moreI c)) w) := by
  have q := Lib.hid (letter_any c w)
  cases hl : letterI c
  · have hm : Hid (moreI c = (decide (48 ≤ c ∧ c ≤ 57) || decide (c = 46))) := Lib.hid (by unfold moreI; rw [hl]; rfl)
    rw [hl] at q
    clear hl
    generalize moreI c = R at *
    go_enter Tryz.func189, Tryz.ntmps189
    go_wp2_with fail
    refine q.out.mono ?_
    rintro e w1 ⟨rfl, rfl⟩
    go_wp2
    all_goals
      go_ret
      exact ⟨ret_bool (by rw [hm.out, Bool.eq_iff_iff]; simp; omega), rfl⟩
  · have hm : Hid (moreI c = true) := Lib.hid (by unfold moreI; rw [hl]; rfl)
    rw [hl] at q
    clear hl
    generalize moreI c = R at *
    go_enter Tryz.func189, Tryz.ntmps189
    go_wp2_with fail
    refine q.out.mono ?_
    rintro e w1 ⟨rfl, rfl⟩
    go_wp2
    go_ret
    exact ⟨ret_bool hm.out.symm, rfl⟩
set_option maxRecDepth 100000 in
theorem rmore_any (c : Int) (w : World) : Calls Tryz.prog 69 #[.int .u8 c] w (SetTo (.bool (moreI c)) w) := by
  have q := Lib.hid (rletter_any c w)
  cases hl : letterI c
  · have hm : Hid (moreI c = (decide (48 ≤ c ∧ c ≤ 57) || decide (c = 46))) := Lib.hid (by unfold moreI; rw [hl]; rfl)
    rw [hl] at q
    clear hl
    generalize moreI c = R at *
    go_enter Tryz.func69, Tryz.ntmps69
    go_wp2_with fail
    refine q.out.mono ?_
    rintro e w1 ⟨rfl, rfl⟩
    go_wp2
    all_goals
      go_ret
      exact ⟨ret_bool (by rw [hm.out, Bool.eq_iff_iff]; simp; omega), rfl⟩
  · have hm : Hid (moreI c = true) := Lib.hid (by unfold moreI; rw [hl]; rfl)
    rw [hl] at q
    clear hl
    generalize moreI c = R at *
    go_enter Tryz.func69, Tryz.ntmps69
    go_wp2_with fail
    refine q.out.mono ?_
    rintro e w1 ⟨rfl, rfl⟩
    go_wp2
    go_ret
    exact ⟨ret_bool hm.out.symm, rfl⟩
theorem iter_below (w : World) (s : ByteArray) (pos : Nat) : Below w.heap.size w (w.iter s pos) := (Below.refl _ _).alloc (Nat.le_refl _) _
set_option maxRecDepth 100000 in
set_option maxHeartbeats 2000000 in
theorem nameSize_any (s : ByteArray) (hs : s.size ≤ 9223372036854775806) (w : World) : Calls Tryz.prog 149 #[.string s] w (Gives (.int .i64 (nsz s : Nat)) w) := by
  obtain ⟨R, hR'⟩ : ∃ R, R = nsz s := ⟨_, rfl⟩
  have hR := Lib.hid hR'
  rw [← hR']
  clear hR'
  go_enter Tryz.func149, Tryz.ntmps149
  go_wp2
  go_loopw [] (fun wr => ∃ pos : Nat, pos ≤ s.size ∧ wr = w.iter s pos ∧ Hid (∀ t, t < pos → moreI ((codes s).getD t 0) = true)) (fun wr => s.size - wr.iterPos w.heap.size)
  case atStart => exact ⟨0, Nat.zero_le _, rfl, Lib.hid (fun t ht => by omega)⟩
  case round =>
    obtain ⟨pos, hpos, rfl, hal⟩ := hrel
    by_cases hp : pos < s.size
    · have hat := codes_at s pos hp
      by_cases ha : (s[pos]'hp).toNat < 128
      · have hnx : ∀ ty, (Instr.next (.pointer (some ⟨w.heap.size, 0, none⟩)) true ty).run Tryz.prog (w.iter s pos) = _ := fun ty => run_next_ascii w s pos ty hp ha
        rw [← hat] at hnx
        have hst := Lib.hid (fun (h : moreI ((codes s).getD pos 0) = false) => nsz_at hal.out hp h)
        generalize hc : (codes s).getD pos 0 = c at *
        have q := Lib.hid (nameRune_any c)
        cases hm : moreI c
        · have hf := Lib.hid (hst.out hm)
          rw [hm] at q
          clear hat hst hc ha
          go_wp2_with fail
          refine (q.out _).mono ?_
          rintro e w1 ⟨rfl, rfl⟩
          go_wp2
          go_ret
          exact ⟨ret_int (by rw [hR.out, hf.out]), iter_below _ _ _⟩
        · have hn : Hid (∀ t, t < pos + 1 → moreI ((codes s).getD t 0) = true) := Lib.hid (fun t ht => by
            by_cases e : t = pos
            · rw [e, hc]; exact hm
            · exact hal.out t (by omega))
          rw [hm] at q
          clear hat hst hc ha hal
          go_wp2_with fail
          refine (q.out _).mono ?_
          rintro e w1 ⟨rfl, rfl⟩
          go_wp2
          go_roundw
          case rel => exact ⟨pos + 1, by omega, rfl, hn⟩
          case measure => simp; omega
      · have hnx : ∀ ty, (Instr.next (.pointer (some ⟨w.heap.size, 0, none⟩)) true ty).run Tryz.prog (w.iter s pos) = _ := fun ty => run_next_any w s pos ty hp
        have hd := (decode_high s pos hp (by omega)).1
        have hf := Lib.hid (nsz_at hal.out hp (more_high (by rw [hat]; omega)))
        generalize (Utf8.decode s pos).1 = c at *
        generalize (Utf8.decode s pos).2 = d at *
        have q := Lib.hid (nameRune_any (c : Int))
        rw [more_high (by omega)] at q
        clear hat hd ha
        go_wp2_with fail
        refine (q.out _).mono ?_
        rintro e w1 ⟨rfl, rfl⟩
        go_wp2
        go_ret
        exact ⟨ret_int (by rw [hR.out, hf.out]), iter_below _ _ _⟩
    · have hnx : ∀ ty, (Instr.next (.pointer (some ⟨w.heap.size, 0, none⟩)) true ty).run Tryz.prog (w.iter s pos) = _ := fun ty => run_next_end w s pos ty hp
      have hf := Lib.hid (nsz_whole (s := s) (fun t ht => hal.out t (by omega)))
      go_wp2
      go_ret
      exact ⟨ret_int (by rw [hR.out, hf.out]), iter_below _ _ _⟩
end Go.Proofs.YtimgocfkogebmaaGreatDoor
namespace Go.Proofs.YtimgocfkogebmaaGreatDoor
open Go.RowKit
set_option linter.unusedVariables false
set_option linter.unusedSimpArgs false
theorem empty_no {s : ByteArray} (h : 0 < s.size) : s.toList.isEmpty = false := by
  rw [ByteArray.toList_eq]
  cases hq : s.data.toList with
  | nil =>
    have h0 : s.size = 0 := by have := congrArg List.length hq; rw [Array.length_toList] at this; exact this
    omega
  | cons c l => rfl
theorem empty_yes {s : ByteArray} (h : ¬ 0 < s.size) : s.toList.isEmpty = true := by
  rw [ByteArray.toList_eq]
  have h1 : s.data.toList.length = 0 := by rw [Array.length_toList]; show s.size = 0; omega
  rw [List.length_eq_zero_iff.1 h1]
  rfl
set_option maxRecDepth 100000 in
theorem begins_any (s : ByteArray) (w : World) : Calls Tryz.prog 148 #[.string s] w (SetTo (.bool (begB s)) w) := by
  by_cases h0 : 0 < s.size
  · have he := empty_no h0
    have hc := codes_at s 0 h0
    have hR : Hid (begB s = letterI ((codes s).getD 0 0)) := Lib.hid (by unfold begB; rw [decide_eq_true h0, Bool.true_and])
    rw [hc] at hR
    have hw : IntKind.i32.wrap ((s[0]'h0).toNat : Int) = ((s[0]'h0).toNat : Int) := by
      have := (s[0]'h0).toNat_lt
      simp [IntKind.wrap, IntKind.bits, IntKind.signed]; omega
    have q := Lib.hid (letter_any ((s[0]'h0).toNat : Int) w)
    have h0i : (0 : Int) < (s.size : Int) := by omega
    have hxa : (s[0]'h0).toNat < 256 := (s[0]'h0).toNat_lt
    clear hc
    generalize letterI ((s[0]'h0).toNat : Int) = L at *
    go_enter Tryz.func148, Tryz.ntmps148
    go_wp2_with fail
    refine q.out.mono ?_
    rintro e w1 ⟨rfl, rfl⟩
    go_wp2
    go_ret
    exact ⟨ret_bool hR.out.symm, rfl⟩
  · have he := empty_yes h0
    have hR : Hid (begB s = false) := Lib.hid (by unfold begB; rw [decide_eq_false h0, Bool.false_and])
    go_enter Tryz.func148, Tryz.ntmps148
    go_wp2
    go_ret
    exact ⟨ret_bool hR.out.symm, rfl⟩
set_option maxRecDepth 100000 in
theorem name_any (s : ByteArray) (w : World) : Calls Tryz.prog 107 #[.string s] w (Gives (.bool (nameB s)) w) := by
  by_cases h0 : s.size ≤ 32
  · have h0i : (s.size : Int) ≤ 32 := by omega
    have q1 := Lib.hid (begins_any s w)
    have q2 := Lib.hid (nameSize_any s (by omega) w)
    cases hb : begB s
    · have hR : Hid (nameB s = false) := Lib.hid (by unfold nameB; rw [hb, Bool.false_and, Bool.and_false])
      rw [hb] at q1
      clear hb
      go_enter Tryz.func107, Tryz.ntmps107
      go_wp2_with fail
      refine q1.out.mono ?_
      rintro e w1 ⟨rfl, rfl⟩
      go_wp2
      go_ret
      exact ⟨ret_bool hR.out.symm, Below.refl _ _⟩
    · have hR : Hid (nameB s = decide (nsz s = s.size)) := Lib.hid (by unfold nameB; rw [hb, decide_eq_true h0, Bool.true_and, Bool.true_and])
      rw [hb] at q1
      have hle := nsz_le s
      clear hb
      generalize nameB s = R at *
      generalize nsz s = k at *
      have hle' := Lib.hid hle
      clear hle
      go_enter Tryz.func107, Tryz.ntmps107
      go_wp2_with fail
      refine q1.out.mono ?_
      rintro e w1 ⟨rfl, rfl⟩
      go_wp2_with fail
      refine q2.out.mono ?_
      rintro e w2 ⟨rfl, hb2⟩
      go_wp2
      go_ret
      exact ⟨ret_bool (by rw [hR.out, Bool.eq_iff_iff]; first | (simp; done) | (simp; omega)), hb2⟩
  · have h0i : ¬ (s.size : Int) ≤ 32 := by omega
    have hR : Hid (nameB s = false) := Lib.hid (by unfold nameB; rw [decide_eq_false h0, Bool.false_and])
    go_enter Tryz.func107, Tryz.ntmps107
    go_wp2
    go_ret
    exact ⟨ret_bool hR.out.symm, Below.refl _ _⟩
theorem name_no {s : ByteArray} {k : Nat} (hk : k < s.size) (h : moreI ((codes s).getD k 0) = false) : nameB s = false := by
  unfold nameB
  have : nsz s ≠ s.size := by
    intro e
    have h1 : ∀ l : List Int, ∀ j, j < (l.takeWhile moreI).length → moreI (l.getD j 0) = true := by
      intro l
      induction l with
      | nil => intro j hj; simp at hj
      | cons x l ih =>
        intro j hj
        by_cases hx : moreI x = true
        · simp [hx] at hj
          cases j with
          | zero => simpa using hx
          | succ j => simpa using ih j (by omega)
        · simp [hx] at hj
    have h2 := h1 (codes s) k (by have : nsz s = _ := rfl; unfold nsz at e; omega)
    rw [h] at h2; cases h2
  rw [decide_eq_false this, Bool.and_false, Bool.and_false]
theorem name_yes {s : ByteArray} (h : ∀ t, t < s.size → moreI ((codes s).getD t 0) = true) : nameB s = (decide (0 < s.size) && (decide (s.size ≤ 32) && letterI ((codes s).getD 0 0))) := by
  unfold nameB begB
  rw [decide_eq_true (nsz_whole h)]
  cases decide (s.size ≤ 32) <;> cases decide (0 < s.size) <;> cases letterI ((codes s).getD 0 0) <;> rfl
set_option maxRecDepth 100000 in
set_option maxHeartbeats 1000000 in
theorem rname_any (s : ByteArray) (hs : s.size ≤ 9223372036854775806) (w : World) : Calls Tryz.prog 33 #[.string s] w (SetTo (.bool (nameB s)) w) := by
  obtain ⟨R, hR'⟩ : ∃ R, R = nameB s := ⟨_, rfl⟩
  have hR := Lib.hid hR'
  rw [← hR']
  clear hR'
  go_enter Tryz.func33, Tryz.ntmps33
  go_wp2
  go_loop [3] (fun x => ∃ k : Nat, k ≤ s.size ∧ x = .int .i64 k ∧ Hid (∀ t, t < k → moreI ((codes s).getD t 0) = true)) (fun x => s.size - (intOf x).toNat)
  case atStart => exact ⟨0, Nat.zero_le _, rfl, Lib.hid (fun t ht => by omega)⟩
  case round =>
    obtain ⟨k, hk, rfl, hal⟩ := hrel
    by_cases hp : k < s.size
    · have hpi : (k : Int) < (s.size : Int) := by omega
      have hat := Lib.hid (codes_at s k hp)
      have q := Lib.hid (rmore_any ((s[k]'hp).toNat : Int) w)
      cases hm : moreI ((s[k]'hp).toNat : Int)
      · have hf := Lib.hid (name_no hp (by rw [hat.out]; exact hm))
        rw [hm] at q
        clear hm
        go_wp2_with fail
        refine q.out.mono ?_
        rintro e w1 ⟨rfl, rfl⟩
        go_wp2
        go_ret
        exact ⟨ret_bool (by rw [hR.out, hf.out]), rfl⟩
      · have hn : Hid (∀ t, t < k + 1 → moreI ((codes s).getD t 0) = true) := Lib.hid (fun t ht => by
          by_cases e : t = k
          · rw [e, hat.out]; exact hm
          · exact hal.out t (by omega))
        rw [hm] at q
        clear hm hal hat
        go_wp2_with fail
        refine q.out.mono ?_
        rintro e w1 ⟨rfl, rfl⟩
        go_wp2
        go_round
        case rel => exact ⟨k + 1, by omega, by go_num, hn⟩
        case measure => simp [intOf]; omega
    · have hpi : ¬ (k : Int) < (s.size : Int) := by omega
      have hY := Lib.hid (name_yes (s := s) (fun t ht => hal.out t (by omega)))
      clear hal
      by_cases h0 : 0 < s.size
      · have h0i : (0 : Int) < (s.size : Int) := by omega
        by_cases h1 : s.size ≤ 32
        · have h1i : (s.size : Int) ≤ 32 := by omega
          have q := Lib.hid (rletter_any ((s[0]'h0).toNat : Int) w)
          have hF : Hid (R = letterI ((s[0]'h0).toNat : Int)) := Lib.hid (by rw [hR.out, hY.out, decide_eq_true h0, decide_eq_true h1, codes_at s 0 h0]; rfl)
          clear hY hR
          go_wp2_with fail
          refine q.out.mono ?_
          rintro e w1 ⟨rfl, rfl⟩
          go_wp2
          go_ret
          exact ⟨ret_bool hF.out.symm, rfl⟩
        · have h1i : ¬ (s.size : Int) ≤ 32 := by omega
          have hF : Hid (R = false) := Lib.hid (by rw [hR.out, hY.out, decide_eq_true h0, decide_eq_false h1]; rfl)
          clear hY hR
          go_wp2
          go_ret
          exact ⟨ret_bool hF.out.symm, rfl⟩
      · have h0i : ¬ (0 : Int) < (s.size : Int) := by omega
        have hF : Hid (R = false) := Lib.hid (by rw [hR.out, hY.out, decide_eq_false h0]; rfl)
        clear hY hR
        go_wp2
        go_ret
        exact ⟨ret_bool hF.out.symm, rfl⟩
end Go.Proofs.YtimgocfkogebmaaGreatDoor
namespace Go.Proofs
open Go.Shelf
def Tryz.laysM171_ren : Go.Shelf.Ren := ⟨fun | 171 => 207 | 243 => 215 | 246 => 222 | 283 => 223 | 284 => 224 | 285 => 225 | 286 => 226 | 129 => 129 | 317 => 227 | 318 => 228 | 319 => 229 | 320 => 230 | 337 => 231 | 338 => 232 | n => n, fun | 3 => 3 | 9 => 9 | 2 => 2 | 4 => 4 | 171 => 208 | 0 => 0 | 53 => 156 | 37 => 210 | 5 => 5 | 173 => 211 | 212 => 213 | 51 => 154 | 20 => 20 | 213 => 214 | 46 => 109 | 232 => 215 | 233 => 216 | n => n, fun | 17 => 0 | 18 => 1 | 19 => 2 | n => n⟩
theorem Tryz.laysM171 : Go.Proofs.LaysM.n171 Tryz.prog Tryz.laysM171_ren := {
  mixed := by kernel_rfl
  f129 := Tryz.func129.trans (congrArg some (by kernel_rfl))
  f171 := Tryz.func207.trans (congrArg some (by kernel_rfl))
  f243 := Tryz.func215.trans (congrArg some (by kernel_rfl))
  f246 := Tryz.func222.trans (congrArg some (by kernel_rfl))
  f283 := Tryz.func223.trans (congrArg some (by kernel_rfl))
  f284 := Tryz.func224.trans (congrArg some (by kernel_rfl))
  f285 := Tryz.func225.trans (congrArg some (by kernel_rfl))
  f286 := Tryz.func226.trans (congrArg some (by kernel_rfl))
  f317 := Tryz.func227.trans (congrArg some (by kernel_rfl))
  f318 := Tryz.func228.trans (congrArg some (by kernel_rfl))
  f319 := Tryz.func229.trans (congrArg some (by kernel_rfl))
  f320 := Tryz.func230.trans (congrArg some (by kernel_rfl))
  f337 := Tryz.func231.trans (congrArg some (by kernel_rfl))
  f338 := Tryz.func232.trans (congrArg some (by kernel_rfl))
  t0 := Tryz.underlying0
  a0 := Tryz.isAgg0
  z0 := Tryz.sizeOf0
  v0 := Tryz.zeroValue0
  t2 := Tryz.underlying2
  a2 := Tryz.isAgg2
  z2 := Tryz.sizeOf2
  v2 := Tryz.zeroValue2
  t3 := Tryz.underlying3
  a3 := Tryz.isAgg3
  z3 := Tryz.sizeOf3
  v3 := Tryz.zeroValue3
  t4 := Tryz.underlying4
  a4 := Tryz.isAgg4
  z4 := Tryz.sizeOf4
  v4 := Tryz.zeroValue4
  t5 := Tryz.underlying5
  a5 := Tryz.isAgg5
  z5 := Tryz.sizeOf5
  v5 := Tryz.zeroValue5
  t9 := Tryz.underlying9
  a9 := Tryz.isAgg9
  z9 := Tryz.sizeOf9
  v9 := Tryz.zeroValue9
  t20 := Tryz.underlying20
  a20 := Tryz.isAgg20
  z20 := Tryz.sizeOf20
  v20 := Tryz.zeroValue20
  t37 := Tryz.underlying210
  a37 := Tryz.isAgg210
  z37 := Tryz.sizeOf210
  v37 := Tryz.zeroValue210
  t46 := Tryz.underlying109
  a46 := Tryz.isAgg109
  z46 := Tryz.sizeOf109
  v46 := Tryz.zeroValue109
  t51 := Tryz.underlying154
  a51 := Tryz.isAgg154
  z51 := Tryz.sizeOf154
  v51 := Tryz.zeroValue154
  t53 := Tryz.underlying156
  a53 := Tryz.isAgg156
  z53 := Tryz.sizeOf156
  v53 := Tryz.zeroValue156
  t171 := Tryz.underlying208
  a171 := Tryz.isAgg208
  z171 := Tryz.sizeOf208
  v171 := Tryz.zeroValue208
  t173 := Tryz.underlying211
  a173 := Tryz.isAgg211
  z173 := Tryz.sizeOf211
  v173 := Tryz.zeroValue211
  t212 := Tryz.underlying213
  a212 := Tryz.isAgg213
  z212 := Tryz.sizeOf213
  v212 := Tryz.zeroValue213
  t213 := Tryz.underlying214
  a213 := Tryz.isAgg214
  z213 := Tryz.sizeOf214
  t232 := Tryz.underlying215
  a232 := Tryz.isAgg215
  z232 := Tryz.sizeOf215
  v232 := Tryz.zeroValue215
  t233 := Tryz.underlying216
  a233 := Tryz.isAgg216
  z233 := Tryz.sizeOf216
  v233 := Tryz.zeroValue216
  g17 := by kernel_rfl
  g18 := by kernel_rfl
  g19 := by kernel_rfl
  i0 := by kernel_rfl
  i2 := by kernel_rfl
  i3 := by kernel_rfl
  i4 := by kernel_rfl
  i5 := by kernel_rfl
  i9 := by kernel_rfl
  i20 := by kernel_rfl
  i37 := by kernel_rfl
  i46 := by kernel_rfl
  i51 := by kernel_rfl
  i53 := by kernel_rfl
  i171 := by kernel_rfl
  i173 := by kernel_rfl
  i212 := by kernel_rfl
  i232 := by kernel_rfl
  i233 := by kernel_rfl
  m17 := by kernel_rfl
  m18 := by kernel_rfl
  m19 := by kernel_rfl }
open Go.RowKit Go.Sort Go.Lib in
theorem Tryz.strconv_Itoa (n : Int) (h0 : -9223372036854775808 ≤ n) (h1 : n ≤ 9223372036854775807) (w : World) (htab : Lib.TabIs Tryz.prog w "internal/strconv.uint64pow10" .u64 Lib.pow10Tab) :
    Calls Tryz.prog 207 #[.int .i64 n] w fun e w' => e = .returned (.string ⟨(Lib.itoa n).toArray⟩) ∧ ∃ k os, w' = grow (w.drewN k) os := Any.strconv_Itoa Tryz.laysM171 n h0 h1 w htab
def Tryz.laysGw17_ren : Go.Shelf.Ren := ⟨fun | 17 => 68 | 15 => 117 | 20 => 162 | n => n, fun | 9 => 9 | 23 => 104 | 4 => 4 | 3 => 3 | 0 => 0 | 21 => 21 | n => n, fun | n => n⟩
theorem Tryz.laysGw17 : Go.Proofs.LaysGw.n17 Tryz.prog Tryz.laysGw17_ren := {
  mixed := by kernel_rfl
  f15 := Tryz.func117.trans (congrArg some (by kernel_rfl))
  f17 := Tryz.func68.trans (congrArg some (by kernel_rfl))
  f20 := Tryz.func162.trans (congrArg some (by kernel_rfl))
  t0 := Tryz.underlying0
  a0 := Tryz.isAgg0
  z0 := Tryz.sizeOf0
  v0 := Tryz.zeroValue0
  i0 := by kernel_rfl
  t3 := Tryz.underlying3
  a3 := Tryz.isAgg3
  z3 := Tryz.sizeOf3
  v3 := Tryz.zeroValue3
  i3 := by kernel_rfl
  t4 := Tryz.underlying4
  a4 := Tryz.isAgg4
  z4 := Tryz.sizeOf4
  v4 := Tryz.zeroValue4
  i4 := by kernel_rfl
  t9 := Tryz.underlying9
  a9 := Tryz.isAgg9
  z9 := Tryz.sizeOf9
  v9 := Tryz.zeroValue9
  i9 := by kernel_rfl
  t21 := Tryz.underlying21
  a21 := Tryz.isAgg21
  z21 := Tryz.sizeOf21
  v21 := Tryz.zeroValue21
  i21 := by kernel_rfl
  t23 := Tryz.underlying104
  a23 := Tryz.isAgg104
  z23 := Tryz.sizeOf104
  v23 := Tryz.zeroValue104
  i23 := by kernel_rfl }
def Tryz.lays101_ren : Go.Shelf.Ren := ⟨fun | 101 => 89 | 208 => 138 | 206 => 183 | n => n, fun | 9 => 9 | 4 => 4 | 3 => 3 | n => n, fun | n => n⟩
theorem Tryz.lays101 : Go.Proofs.Lays.n101 Tryz.prog Tryz.lays101_ren := {
  mixed := by kernel_rfl
  f101 := Tryz.func89.trans (congrArg some (by kernel_rfl))
  f206 := Tryz.func183.trans (congrArg some (by kernel_rfl))
  f208 := Tryz.func138.trans (congrArg some (by kernel_rfl))
  t3 := Tryz.underlying3
  a3 := Tryz.isAgg3
  z3 := Tryz.sizeOf3
  v3 := Tryz.zeroValue3
  t4 := Tryz.underlying4
  a4 := Tryz.isAgg4
  z4 := Tryz.sizeOf4
  v4 := Tryz.zeroValue4
  t9 := Tryz.underlying9
  a9 := Tryz.isAgg9
  z9 := Tryz.sizeOf9
  v9 := Tryz.zeroValue9 }
open Go.RowKit Go.Lib in
theorem Tryz.strings_TrimPrefix (s p : ByteArray) (w : World) :
    Calls Tryz.prog 89 #[.string s, .string p] w fun e w' => e = .returned (.string ⟨(Lib.trimPrefix s.data.toList p.data.toList).toArray⟩) ∧ w' = w := Any.strings_TrimPrefix Tryz.lays101 s p w
open Go.RowKit Go.Lib in
theorem Tryz.strings_ContainsFunc_grows (g : Nat) (lb : Array Value) (eg : ∀ args w, (callFunc g args).run Tryz.prog w = .ok (.enter g args) w) (p : Nat → Bool) (s : ByteArray) (w : World) (hp : PredGrows Tryz.prog g lb p w) :
    Calls Tryz.prog 68 #[.string s, .func (.func g) #[] lb] w fun e w' => e = .returned (.bool (decide (0 ≤ Lib.idxFunc p true s))) ∧ Below w.heap.size w w' := Any.strings_ContainsFunc_grows Tryz.laysGw17 g lb eg p s w hp
def Tryz.lays110_ren : Go.Shelf.Ren := ⟨fun | 110 => 151 | 109 => 191 | n => n, fun | 31 => 34 | 9 => 9 | 4 => 4 | 3 => 3 | 0 => 0 | n => n, fun | n => n⟩
theorem Tryz.lays110 : Go.Proofs.Lays.n110 Tryz.prog Tryz.lays110_ren := {
  mixed := by kernel_rfl
  f109 := Tryz.func191.trans (congrArg some (by kernel_rfl))
  f110 := Tryz.func151.trans (congrArg some (by kernel_rfl))
  t0 := Tryz.underlying0
  a0 := Tryz.isAgg0
  z0 := Tryz.sizeOf0
  v0 := Tryz.zeroValue0
  t3 := Tryz.underlying3
  a3 := Tryz.isAgg3
  z3 := Tryz.sizeOf3
  v3 := Tryz.zeroValue3
  t4 := Tryz.underlying4
  a4 := Tryz.isAgg4
  z4 := Tryz.sizeOf4
  v4 := Tryz.zeroValue4
  t9 := Tryz.underlying9
  a9 := Tryz.isAgg9
  z9 := Tryz.sizeOf9
  v9 := Tryz.zeroValue9
  t31 := Tryz.underlying34
  a31 := Tryz.isAgg34
  z31 := Tryz.sizeOf34
  v31 := Tryz.zeroValue34 }
open Go.Lib in
theorem Tryz.slices_Contains_string (b off n c : Nat) (zs : List ByteArray) (x : ByteArray) (w : World) (hz : n ≤ zs.length) (hbig : n ≤ 9223372036854775807) (hc : ∀ j, j < zs.length → w.cell? ⟨b, off + j, none⟩ = some (.string (zs.getD j ByteArray.empty))) :
    Calls Tryz.prog 151 #[.slice (some ⟨b, off, none⟩) n c, .string x] w fun e w' => e = .returned (.bool (Lib.containsS (zs.take n) x)) ∧ w' = w := Any.slices_Contains_string Tryz.lays110 b off n c zs x w hz hbig hc
end Go.Proofs
namespace Go.Proofs.YtimgocfkogebmaaGreatDoor
open Go.RowKit
set_option linter.unusedVariables false
set_option linter.unusedSimpArgs false
def otherR (r : Nat) : Bool := !fileI (r : Int)
theorem idx_file (s : ByteArray) : ∀ f pos, s.size ≤ pos + f → (∀ t, t < pos → fileI ((codes s).getD t 0) = true) → decide (0 ≤ Lib.idxFuncFrom otherR true s f pos) = !allF s
  | 0, pos, hf, hal => by
    rw [allF_yes (fun t ht => hal t (by omega))]
    unfold Lib.idxFuncFrom
    rfl
  | f + 1, pos, hf, hal => by
    unfold Lib.idxFuncFrom
    by_cases hp : pos < s.size
    · rw [if_pos hp]
      have hat := codes_at s pos hp
      by_cases ha : (s[pos]'hp).toNat < 128
      · rw [decode_ascii s pos hp ha]
        cases hfi : fileI ((codes s).getD pos 0)
        · have h1 : otherR (s[pos]'hp).toNat = true := by unfold otherR; rw [← hat, hfi]; rfl
          rw [allF_no hp hfi]; simp [h1]
        · have h1 : otherR (s[pos]'hp).toNat = false := by unfold otherR; rw [← hat, hfi]; rfl
          have hn : ∀ t, t < pos + 1 → fileI ((codes s).getD t 0) = true := fun t ht => by
            by_cases e : t = pos
            · rw [e]; exact hfi
            · exact hal t (by omega)
          have ih := idx_file s f (pos + 1) (by omega) hn
          simp [ih, h1]
      · have hd := (decode_high s pos hp (by omega)).1
        have h1 : otherR (Utf8.decode s pos).1 = true := by unfold otherR; rw [file_high (by omega)]; rfl
        rw [h1, allF_no hp (file_high (by rw [hat]; omega))]
        simp
    · rw [if_neg hp, allF_yes (fun t ht => hal t (by omega))]
      rfl
set_option maxRecDepth 100000 in
theorem other_any (c : Int) (w : World) : Calls Tryz.prog 188 #[.int .i32 c] w (SetTo (.bool (!fileI c)) w) := by
  have q := Lib.hid (nameRune_any c w)
  cases hm : moreI c
  · have hR : Hid (fileI c = (decide (c = 45) || decide (c = 47))) := Lib.hid (by unfold fileI; rw [hm, Bool.false_or])
    rw [hm] at q
    clear hm
    generalize fileI c = R at *
    by_cases h1 : c = 45
    · have hF : Hid ((!R) = false) := Lib.hid (by rw [hR.out, decide_eq_true h1]; rfl)
      have h1b : (c != 45) = false := by simpa using h1
      clear hR h1
      go_enter Tryz.func188, Tryz.ntmps188
      go_wp2_with fail
      refine q.out.mono ?_
      rintro e w1 ⟨rfl, rfl⟩
      go_wp2
      go_ret
      exact ⟨ret_bool hF.out.symm, rfl⟩
    · have hF : Hid ((c != 47) = !R) := Lib.hid (by rw [hR.out, decide_eq_false h1, Bool.false_or, Bool.eq_iff_iff]; simp)
      have h1b : (c != 45) = true := by simpa using h1
      clear hR h1
      go_enter Tryz.func188, Tryz.ntmps188
      go_wp2_with fail
      refine q.out.mono ?_
      rintro e w1 ⟨rfl, rfl⟩
      go_wp2
      go_ret
      exact ⟨ret_bool hF.out, rfl⟩
  · have hR : Hid ((!fileI c) = false) := Lib.hid (by unfold fileI; rw [hm, Bool.true_or]; rfl)
    rw [hm] at q
    clear hm
    generalize (!fileI c) = R at *
    go_enter Tryz.func188, Tryz.ntmps188
    go_wp2_with fail
    refine q.out.mono ?_
    rintro e w1 ⟨rfl, rfl⟩
    go_wp2
    go_ret
    exact ⟨ret_bool hR.out.symm, rfl⟩
theorem contains_file (s : ByteArray) (w : World) : Calls Tryz.prog 68 #[.string s, .func (.func 188) #[] #[]] w (Gives (.bool (!allF s)) w) := by
  have h := Tryz.strings_ContainsFunc_grows 188 #[] (fun args w => by kernel_rfl) otherR s w (fun W x hx hb => (other_any (x : Int) W).mono (fun e w' h => ⟨h.1, by rw [← h.2]; exact Below.refl _ _⟩))
  rw [show decide (0 ≤ Lib.idxFunc otherR true s) = !allF s from idx_file s s.size 0 (by omega) (fun t ht => by omega)] at h
  exact h
set_option maxRecDepth 100000 in
theorem fileName_any (s : ByteArray) (w : World) : Calls Tryz.prog 146 #[.string s] w (Gives (.bool (fileB s)) w) := by
  by_cases h0 : s.size ≤ 64
  · have h0i : (s.size : Int) ≤ 64 := by omega
    have q1 := Lib.hid (begins_any s w)
    have q2 := Lib.hid (contains_file s w)
    cases hb : begB s
    · have hR : Hid (fileB s = false) := Lib.hid (by unfold fileB; rw [hb, Bool.false_and, Bool.and_false])
      rw [hb] at q1
      clear hb
      go_enter Tryz.func146, Tryz.ntmps146
      go_wp2_with fail
      refine q1.out.mono ?_
      rintro e w1 ⟨rfl, rfl⟩
      go_wp2
      go_ret
      exact ⟨ret_bool hR.out.symm, Below.refl _ _⟩
    · have hR : Hid (fileB s = allF s) := Lib.hid (by unfold fileB; rw [hb, decide_eq_true h0, Bool.true_and, Bool.true_and])
      rw [hb] at q1
      clear hb
      generalize fileB s = R at *
      generalize allF s = k at *
      go_enter Tryz.func146, Tryz.ntmps146
      go_wp2_with fail
      refine q1.out.mono ?_
      rintro e w1 ⟨rfl, rfl⟩
      go_wp2_with fail
      refine q2.out.mono ?_
      rintro e w2 ⟨rfl, hb2⟩
      go_wp2
      go_ret
      exact ⟨ret_bool (by rw [hR.out]; try (cases k <;> rfl)), hb2⟩
  · have h0i : ¬ (s.size : Int) ≤ 64 := by omega
    have hR : Hid (fileB s = false) := Lib.hid (by unfold fileB; rw [decide_eq_false h0, Bool.false_and])
    go_enter Tryz.func146, Tryz.ntmps146
    go_wp2
    go_ret
    exact ⟨ret_bool hR.out.symm, Below.refl _ _⟩
theorem file_no {s : ByteArray} {k : Nat} (hk : k < s.size) (h : fileI ((codes s).getD k 0) = false) : fileB s = false := by
  unfold fileB
  rw [allF_no hk h, Bool.and_false, Bool.and_false]
theorem file_yes {s : ByteArray} (h : ∀ t, t < s.size → fileI ((codes s).getD t 0) = true) : fileB s = (decide (0 < s.size) && (decide (s.size ≤ 64) && letterI ((codes s).getD 0 0))) := by
  unfold fileB begB
  rw [allF_yes h]
  cases decide (s.size ≤ 64) <;> cases decide (0 < s.size) <;> cases letterI ((codes s).getD 0 0) <;> rfl
set_option maxRecDepth 100000 in
set_option maxHeartbeats 1000000 in
theorem rfile_any (s : ByteArray) (hs : s.size ≤ 9223372036854775806) (w : World) : Calls Tryz.prog 34 #[.string s] w (SetTo (.bool (fileB s)) w) := by
  obtain ⟨R, hR'⟩ : ∃ R, R = fileB s := ⟨_, rfl⟩
  have hR := Lib.hid hR'
  rw [← hR']
  clear hR'
  go_enter Tryz.func34, Tryz.ntmps34
  go_wp2
  go_loop [3] (fun x => ∃ k : Nat, k ≤ s.size ∧ x = .int .i64 k ∧ Hid (∀ t, t < k → fileI ((codes s).getD t 0) = true)) (fun x => s.size - (intOf x).toNat)
  case atStart => exact ⟨0, Nat.zero_le _, rfl, Lib.hid (fun t ht => by omega)⟩
  case round =>
    obtain ⟨k, hk, rfl, hal⟩ := hrel
    by_cases hp : k < s.size
    · have hpi : (k : Int) < (s.size : Int) := by omega
      have hat := Lib.hid (codes_at s k hp)
      have hno : Hid (fileI ((s[k]'hp).toNat : Int) = false → R = false) := Lib.hid (fun h => by rw [hR.out]; exact file_no hp (by rw [hat.out]; exact h))
      have hyes : Hid (fileI ((s[k]'hp).toNat : Int) = true → ∀ t, t < k + 1 → fileI ((codes s).getD t 0) = true) := Lib.hid (fun h t ht => by
          by_cases e : t = k
          · rw [e, hat.out]; exact h
          · exact hal.out t (by omega))
      have q := Lib.hid (rmore_any ((s[k]'hp).toNat : Int) w)
      have hfe : Hid (fileI ((s[k]'hp).toNat : Int) = (moreI ((s[k]'hp).toNat : Int) || (decide (((s[k]'hp).toNat : Int) = 45) || decide (((s[k]'hp).toNat : Int) = 47)))) := Lib.hid rfl
      clear hal hat
      generalize fileI ((s[k]'hp).toNat : Int) = F at *
      cases hm : moreI ((s[k]'hp).toNat : Int)
      · rw [hm] at q hfe
        clear hm
        by_cases h1 : ((s[k]'hp).toNat : Int) = 45
        · have hn := Lib.hid (hyes.out (by rw [hfe.out, decide_eq_true h1]; rfl))
          have h1b : (((s[k]'hp).toNat : Int) != 45) = false := by simpa using h1
          clear hno hyes hfe h1
          go_wp2_with fail
          refine q.out.mono ?_
          rintro e w1 ⟨rfl, rfl⟩
          go_wp2
          go_round
          case rel => exact ⟨k + 1, by omega, by go_num, hn⟩
          case measure => simp [intOf]; omega
        · have h1b : (((s[k]'hp).toNat : Int) != 45) = true := by simpa using h1
          by_cases h2 : ((s[k]'hp).toNat : Int) = 47
          · have hn := Lib.hid (hyes.out (by rw [hfe.out, decide_eq_true h2, Bool.or_true, Bool.or_true]))
            have h2b : (((s[k]'hp).toNat : Int) != 47) = false := by simpa using h2
            clear hno hyes hfe h1 h2
            go_wp2_with fail
            refine q.out.mono ?_
            rintro e w1 ⟨rfl, rfl⟩
            go_wp2
            go_round
            case rel => exact ⟨k + 1, by omega, by go_num, hn⟩
            case measure => simp [intOf]; omega
          · have hf := Lib.hid (hno.out (by rw [hfe.out, decide_eq_false h1, decide_eq_false h2]; rfl))
            have h2b : (((s[k]'hp).toNat : Int) != 47) = true := by simpa using h2
            clear hno hyes hfe h1 h2
            go_wp2_with fail
            refine q.out.mono ?_
            rintro e w1 ⟨rfl, rfl⟩
            go_wp2
            go_ret
            exact ⟨ret_bool hf.out.symm, rfl⟩
      · have hn := Lib.hid (hyes.out (by rw [hfe.out, hm, Bool.true_or]))
        rw [hm] at q
        clear hm hno hyes hfe
        go_wp2_with fail
        refine q.out.mono ?_
        rintro e w1 ⟨rfl, rfl⟩
        go_wp2
        go_round
        case rel => exact ⟨k + 1, by omega, by go_num, hn⟩
        case measure => simp [intOf]; omega
    · have hpi : ¬ (k : Int) < (s.size : Int) := by omega
      have hY := Lib.hid (file_yes (s := s) (fun t ht => hal.out t (by omega)))
      clear hal
      by_cases h0 : 0 < s.size
      · have h0i : (0 : Int) < (s.size : Int) := by omega
        by_cases h1 : s.size ≤ 64
        · have h1i : (s.size : Int) ≤ 64 := by omega
          have q := Lib.hid (rletter_any ((s[0]'h0).toNat : Int) w)
          have hF : Hid (R = letterI ((s[0]'h0).toNat : Int)) := Lib.hid (by rw [hR.out, hY.out, decide_eq_true h0, decide_eq_true h1, codes_at s 0 h0]; rfl)
          clear hY hR
          go_wp2_with fail
          refine q.out.mono ?_
          rintro e w1 ⟨rfl, rfl⟩
          go_wp2
          go_ret
          exact ⟨ret_bool hF.out.symm, rfl⟩
        · have h1i : ¬ (s.size : Int) ≤ 64 := by omega
          have hF : Hid (R = false) := Lib.hid (by rw [hR.out, hY.out, decide_eq_true h0, decide_eq_false h1]; rfl)
          clear hY hR
          go_wp2
          go_ret
          exact ⟨ret_bool hF.out.symm, rfl⟩
      · have h0i : ¬ (0 : Int) < (s.size : Int) := by omega
        have hF : Hid (R = false) := Lib.hid (by rw [hR.out, hY.out, decide_eq_false h0]; rfl)
        clear hY hR
        go_wp2
        go_ret
        exact ⟨ret_bool hF.out.symm, rfl⟩
end Go.Proofs.YtimgocfkogebmaaGreatDoor
namespace Go.Proofs.YtimgocfkogebmaaGreatDoor
open Go.RowKit Go.ChangeShapes Go.WideShapes Go.Deep
set_option linter.unusedVariables false
def Reach {H : Type} (P : Program) (t : TypeId) (d : DataW H) : Prop := ∀ n ∈ d.weights P t, n ≤ 140737488351232
theorem reach_each {H : Type} {P : Program} {ts : List TypeId} {ds : List (DataW H)} (h : (DataW.weightsEach P ts ds).all (· ≤ reachBytes) = true) {j : Nat} {t : TypeId} {d : DataW H} (ht : ts[j]? = some t) (hd : ds[j]? = some d) : Reach P t d := by
  intro n hn
  have := List.all_eq_true.1 h n (DataW.weights_mem_each ht hd n hn)
  have h' : n ≤ reachBytes := of_decide_eq_true this
  simpa [reachBytes] using h'
theorem weightsAll_mem {H : Type} {P : Program} {e : TypeId} : ∀ {l : List (DataW H)} {d : DataW H}, d ∈ l → ∀ n ∈ d.weights P e, n ∈ DataW.weightsAll P e l
  | x :: r, d, hd, n, hn => by
    unfold DataW.weightsAll
    rcases List.mem_cons.1 hd with rfl | hd
    · exact List.mem_append_left _ hn
    · exact List.mem_append_right _ (weightsAll_mem hd n hn)
theorem weights_slice {H : Type} {P : Program} {t e : TypeId} {el sp : List (DataW H)} (ht : P.underlying t = some (.slice e)) (h : Reach P t (.slice el sp)) : (el.length + sp.length) * P.bytesOf e ≤ 140737488351232 ∧ ∀ d ∈ el, Reach P e d := by
  unfold Reach at h
  unfold DataW.weights at h
  rw [ht] at h
  refine ⟨h _ (by simp), fun d hd n hn => h n ?_⟩
  exact List.mem_cons_of_mem _ (List.mem_append_left _ (weightsAll_mem hd n hn))
theorem weights_agg {H : Type} {P : Program} {t : TypeId} {fs : Array Field} {ps : List (DataW H)} (ht : P.underlying t = some (.struct fs)) (h : Reach P t (.agg ps)) {j : Nat} {f : Field} {d : DataW H} (hj : fs[j]? = some f) (hd : ps[j]? = some d) : Reach P f.type d := by
  intro n hn
  unfold Reach at h
  unfold DataW.weights at h
  rw [ht] at h
  have h1 : (fs.toList.map (·.type))[j]? = some f.type := by simp [hj]
  exact h n (DataW.weights_mem_each h1 hd n hn)
theorem reach_string {H : Type} {P : Program} {t : TypeId} {s : ByteArray} (h : Reach (H := H) P t (.lit (.string s.data.toList))) : s.size ≤ 140737488351232 := by
  have := h s.data.toList.length (by simp [DataW.weights])
  simpa using this
end Go.Proofs.YtimgocfkogebmaaGreatDoor
namespace Go.Proofs.YtimgocfkogebmaaGreatDoor
open Go.RowKit
set_option linter.unusedVariables false
def SeesC (B : Nat) (w : World) (a : Option Addr) (cs : List Value) : Prop :=
  cs = [] ∨ ∃ b off, a = some ⟨b, off, none⟩ ∧ b < B ∧ ∀ i u, cs[i]? = some u → w.cell? ⟨b, off + i, none⟩ = some u
theorem SeesC.below {B : Nat} {w w' : World} {a : Option Addr} {cs : List Value} (h : SeesC B w a cs) (hb : Below B w w') : SeesC B w' a cs := by
  rcases h with h | ⟨b, off, rfl, hB, hc⟩
  · exact .inl h
  · exact .inr ⟨b, off, rfl, hB, fun i u hu => (hb.cell (p := ⟨b, off + i, none⟩) hB).trans (hc i u hu)⟩
theorem SeesC.mono {B B' : Nat} {w : World} {a : Option Addr} {cs : List Value} (h : SeesC B w a cs) (hb : B ≤ B') : SeesC B' w a cs := by
  rcases h with h | ⟨b, off, rfl, hB, hc⟩
  · exact .inl h
  · exact .inr ⟨b, off, rfl, by omega, hc⟩
theorem add_at (b off i : Nat) : (⟨b, off, none⟩ : Addr).add i = ⟨b, off + i, none⟩ := by unfold Addr.add; split <;> simp_all
theorem seesC_own {w : World} {base : Nat} {e : TypeId} {size : Nat} {v : Value} {n : Nat} {cs : List Value} (h : w.ownsRow base e size v n cs) :
    ∃ a cap, v = .slice a n cap ∧ n ≤ cap ∧ cap ≤ maxLen ∧ SeesC w.heap.size w a cs := by
  rcases h.2 with ⟨rfl, h0⟩ | ⟨g, cap, cur, rfl, _, hg, hc1, hc2, _⟩
  · subst h0
    have : cs = [] := List.eq_nil_of_length_eq_zero (by have := h.1; omega)
    exact ⟨none, 0, rfl, Nat.le_refl _, by simp, .inl this⟩
  · refine ⟨_, cap, rfl, hc1, hc2, .inr ⟨g, 0, rfl, (Array.getElem?_eq_some_iff.1 hg).1, fun i u hu => ?_⟩⟩
    have := h.cells (g := g) rfl i u hu
    rw [add_at] at this
    exact this
theorem seesC_lit (w : World) (e : TypeId) (cs : Array Value) (fr : Nat × Nat := (0, 0)) : SeesC (w.alloc (.cells cs e fr)).heap.size (w.alloc (.cells cs e fr)) (some ⟨w.heap.size, 0, none⟩) cs.toList := by
  refine .inr ⟨w.heap.size, 0, rfl, by simp, fun i u hu => ?_⟩
  rw [cell_of_row _ _ _ _ _ _ (heap_alloc_new w _)]
  simpa using hu
theorem flat_at {α : Type} {f : α → List Value} {k : Nat} (hk : ∀ x, (f x).length = k) : ∀ (l : List α) (i j : Nat), j < k → (l.flatMap f)[i * k + j]? = (l[i]?).bind fun x => (f x)[j]?
  | [], i, j, _ => by simp
  | x :: l, 0, j, hj => by simp [List.getElem?_append, hk, hj]
  | x :: l, i + 1, j, hj => by
    have ih := flat_at hk l i j hj
    rw [List.flatMap_cons, List.getElem?_append_right (by rw [hk, Nat.succ_mul]; omega), hk, show (i + 1) * k + j - k = i * k + j by rw [Nat.succ_mul]; omega, ih]
    simp
theorem flat_len {α : Type} {f : α → List Value} {k : Nat} (hk : ∀ x, (f x).length = k) : ∀ (l : List α), (l.flatMap f).length = l.length * k
  | [] => by simp
  | x :: l => by rw [List.flatMap_cons, List.length_append, flat_len hk l, hk, List.length_cons, Nat.succ_mul]; omega
theorem run_append_cellsB {P : Program} (w : World) (base : Nat) (t ty e : TypeId) (i : TypeInfo) (z : Value) (size bytes : Nat) (ht : P.underlying t = some (.slice e)) (hi : P.info? e = some i) (hz : i.zero = some z)
    (hsize : i.size = size) (hby : i.bytes = bytes) (hzs : z.cells.size = size) (hsz : 0 < size)
    (v : Value) (n : Nat) (xs : List Value) (hown : w.ownsRow base e size v n xs) (B : Nat) (A : Option Addr) (m c : Nat) (news : List Value) (hl : news.length = m * size) (hs : SeesC B w A news) (h1 : ∀ u ∈ news, u.oneCell' = true)
    (hn : n + m ≤ maxLen) (hby2 : (n + m) * bytes ≤ 140737488355328) (hbase : base ≤ w.heap.size) :
    ∃ v' w', (Builtin.append_ #[t, t] ty #[v, .slice A m c]).run P w = .ok v' w' ∧ w'.ownsRow base e size v' (n + m) (xs ++ news) ∧ w.grownBy w' v.ownBlock ∧ (v'.ownBlock = v.ownBlock ∨ v'.ownBlock = some w.heap.size) := by
  cases A with
  | none =>
    have hnews : news = [] := by
      rcases hs with h | ⟨b, off, h, _⟩
      · exact h
      · cases h
    subst hnews
    have hm : m = 0 := by
      cases m with
      | zero => rfl
      | succ m => rw [Nat.succ_mul] at hl; simp at hl; omega
    subst hm
    exact ⟨v, w, run_append_none w base t ty e i size ht hi v n xs hown c, by simpa using hown, World.grownBy.refl w _, .inl rfl⟩
  | some ad =>
    have hc : ∀ j u, news[j]? = some u → w.cell? (ad.add j) = some u := by
      rcases hs with rfl | ⟨b, off, h, _, hc⟩
      · intro j u hj; simp at hj
      · injection h with h; subst h; intro j u hj; rw [add_at]; exact hc j u hj
    obtain ⟨v', w', hrun, h2, h3, _, h5⟩ := run_append_own_at (P := P) w base t ty e i z size bytes ht hi hz hsize hby hzs hsz v n xs hown ad m c news hl hc h1 hn hby2 hbase
    exact ⟨v', w', hrun, h2, h3, h5⟩
theorem wpList_append_cellsB {P : Program} (w : World) {ops : Array Oper} {rest : List Oper} {o : Oper} {a : Act} {Q : Exit → Act → World → Prop}
    (hg : o.guard = none) (s x : Operand) (t : TypeId) (hop : o.op = Op.call { callee := Callee.builtin Builtin.append, args := #[s, x], argTypes := #[t, t] })
    (w0 : World) (e : TypeId) (i : TypeInfo) (z : Value) (size bytes : Nat) (ht : P.underlying t = some (.slice e)) (hi : P.info? e = some i) (hz : i.zero = some z)
    (hsize : i.size = size) (hby : i.bytes = bytes) (hzs : z.cells.size = size) (hsz : 0 < size)
    (v : Value) (n : Nat) (xs : List Value) (hown : w.ownsRow w0.heap.size e size v n xs) (hb : Below w0.heap.size w0 w) (B : Nat) (A : Option Addr) (m c : Nat) (news : List Value) (hl : news.length = m * size) (hs : SeesC B w A news) (h1 : ∀ u ∈ news, u.oneCell' = true)
    (hsv : a.eval s = v) (hx : a.eval x = .slice A m c) (hn : n + m ≤ maxLen) (hby2 : (n + m) * bytes ≤ 140737488355328)
    (hK : ∀ v' w', w'.ownsRow w0.heap.size e size v' (n + m) (xs ++ news) → Below w0.heap.size w0 w' → wpList P ops Q rest (a.put o.dst v') w') :
    wpList P ops Q (o :: rest) a w := by
  obtain ⟨v', w', hrun, g1, g2, g3⟩ := run_append_cellsB (P := P) w w0.heap.size t o.type e i z size bytes ht hi hz hsize hby hzs hsz v n xs hown B A m c news hl hs h1 hn hby2 hb.size
  refine wpList_plain hg fun K hK' => ?_
  unfold Oper.wp
  simp [execOp, hop, resolve, invoke, builtin, hsv, hx, hrun, Result.andThen]
  exact hK' _ _ (hK v' w' g1 (hb.grown g2 hb.size fun k hk => (hown.lt k hk).1))
theorem own_cells (w : World) (e : TypeId) (size n : Nat) (cs : Array Value) (hn : cs.size = n * size) (hm : n ≤ maxLen) : (w.alloc (.cells cs e)).ownsRow w.heap.size e size (.slice (some ⟨w.heap.size, 0, none⟩) n n) n cs.toList :=
  ⟨by simpa using hn, .inr ⟨w.heap.size, n, cs, rfl, Nat.le_refl _, heap_alloc_new w _, Nat.le_refl _, hm, hn, by rw [List.take_of_length_le (by simp; omega)]⟩⟩
end Go.Proofs.YtimgocfkogebmaaGreatDoor
namespace Go.Proofs.YtimgocfkogebmaaGreatDoor
open Go.RowKit
set_option linter.unusedVariables false
structure RO {α : Type} (f : α → List Value) (w : World) (a : Option Addr) (n c : Nat) (l : List α) : Prop where
  len : n = l.length
  cap : n ≤ c
  max : c ≤ maxLen
  sees : SeesC w.heap.size w a (l.flatMap f)
theorem RO.below {α : Type} {f : α → List Value} {w w' : World} {a : Option Addr} {n c : Nat} {l : List α} (h : RO f w a n c l) (hb : Below w.heap.size w w') : RO f w' a n c l := ⟨h.len, h.cap, h.max, (h.sees.below hb).mono hb.size⟩
theorem RO.drewN {α : Type} {f : α → List Value} {w : World} {a : Option Addr} {n c : Nat} {l : List α} (h : RO f w a n c l) (m : Nat) : RO f (w.drewN m) a n c l := ⟨h.len, h.cap, h.max, h.sees⟩
theorem RO.nil {α : Type} {f : α → List Value} (w : World) : RO f w none 0 0 [] := ⟨rfl, Nat.le_refl _, by simp, .inl rfl⟩
theorem RO.max' {α : Type} {f : α → List Value} {w : World} {a : Option Addr} {n c : Nat} {l : List α} (h : RO f w a n c l) : n ≤ 9223372036854775807 := by
  have h1 := h.cap
  have h2 := h.max
  unfold maxLen at h2
  omega
theorem RO.at_ {α : Type} {f : α → List Value} {k : Nat} (hk : ∀ x, (f x).length = k) (h0 : 0 < k) {w : World} {a : Option Addr} {n c : Nat} {l : List α} (h : RO f w a n c l) (d : α) {i : Nat} (hi : i < n) :
    ∃ b off, a = some ⟨b, off, none⟩ ∧ b < w.heap.size ∧ ∀ j, j < k → w.cell? ⟨b, off + (i * k + j), none⟩ = (f (l.getD i d))[j]? := by
  have hl : i < l.length := by rw [← h.len]; exact hi
  rcases h.sees with e | ⟨b, off, rfl, hB, hc⟩
  · have h1 := congrArg List.length e
    rw [flat_len hk] at h1
    have h2 : 0 < l.length * k := Nat.mul_pos (by omega) h0
    simp at h1
    have : l.length * k = 0 := by simp [h1]
    omega
  · refine ⟨b, off, rfl, hB, fun j hj => ?_⟩
    have h1 : (l.flatMap f)[i * k + j]? = (f (l.getD i d))[j]? := by
      rw [flat_at hk l i j hj]
      simp [List.getD, hl]
    have h2 : j < (f (l.getD i d)).length := by rw [hk]; exact hj
    rw [List.getElem?_eq_getElem h2] at h1 ⊢
    exact hc _ _ h1
end Go.Proofs.YtimgocfkogebmaaGreatDoor
namespace Go.Proofs.YtimgocfkogebmaaGreatDoor
open Go.RowKit Go.ChangeShapes Go.WideShapes Go.Deep
set_option linter.unusedVariables false
def flatT (P : Program) : Nat → TypeId → List TypeId
  | 0, t => [t]
  | n + 1, t => match P.underlying t with
    | some (.struct fs) => fs.toList.flatMap fun f => flatT P n f.type
    | _ => [t]
def flatOK (P : Program) : Nat → TypeId → Bool
  | 0, t => true
  | n + 1, t => match P.underlying t with
    | some (.struct fs) => (List.range fs.size).all fun i => match fs[i]? with
      | some f => flatOK P n f.type && ((f.offset == ((fs.toList.take i).flatMap fun f => flatT P n f.type).length) && (P.cellsOf f.type == (flatT P n f.type).length))
      | none => true
    | _ => true
theorem flat_find {α β : Type} (g : α → List β) : ∀ (L : List α) (j : Nat) (y : β), (L.flatMap g)[j]? = some y → ∃ i x j', L[i]? = some x ∧ (g x)[j']? = some y ∧ j = ((L.take i).flatMap g).length + j'
  | [], j, y, h => by simp at h
  | x :: L, j, y, h => by
    rw [List.flatMap_cons] at h
    rcases Nat.lt_or_ge j (g x).length with hj | hj
    · rw [List.getElem?_append_left hj] at h
      exact ⟨0, x, j, rfl, h, by simp⟩
    · rw [List.getElem?_append_right hj] at h
      obtain ⟨i, x', j', h1, h2, h3⟩ := flat_find g L _ y h
      refine ⟨i + 1, x', j', by simpa using h1, h2, ?_⟩
      rw [List.take_succ_cons, List.flatMap_cons, List.length_append]
      omega
theorem flat_upto {α β : Type} (g : α → List β) (L : List α) {i : Nat} {x : α} (h : L[i]? = some x) : ((L.take i).flatMap g).length + (g x).length ≤ (L.flatMap g).length := by
  have e : L = L.take i ++ x :: L.drop (i + 1) := by
    have hl : i < L.length := (List.getElem?_eq_some_iff.1 h).1
    have hx : L[i] = x := (List.getElem?_eq_some_iff.1 h).2
    rw [← hx, ← List.drop_eq_getElem_cons hl, List.take_append_drop]
  conv => rhs; rw [e]
  rw [List.flatMap_append, List.flatMap_cons, List.length_append, List.length_append]
  omega
theorem flat_read {H : Type} {enc : TypeId × Value → H} {P : Program} {w : World} : ∀ (n : Nat) (t : TypeId) (fuel : Nat) (cs : List Value) (x : DataW H × List MemPlace), flatOK P n t = true → cs.length = (flatT P n t).length →
    DataW.trod enc P w 0 (fun _ => true) true fuel t cs = some x → Reach P t x.1 →
    ∀ (j : Nat) (u : TypeId), (flatT P n t)[j]? = some u → ∃ (v : Value) (y : DataW H × List MemPlace) (m : Nat), cs[j]? = some v ∧ DataW.trod enc P w 0 (fun _ => true) true m u [v] = some y ∧ Reach P u y.1
  | 0, t, fuel, cs, x, _, hl, h, hR, j, u, hu => by
    unfold flatT at hl hu
    match cs, hl with
    | [v], _ =>
      have hj : j = 0 := by have := (List.getElem?_eq_some_iff.1 hu).1; simp at this; omega
      subst hj
      obtain rfl : t = u := by simpa using hu
      exact ⟨v, x, fuel, rfl, h, hR⟩
  | n + 1, t, fuel, cs, x, hok, hl, h, hR, j, u, hu => by
    cases hs : P.underlying t with
    | none =>
      unfold flatT at hl hu
      rw [hs] at hl hu
      match cs, hl with
      | [v], _ =>
        have hj : j = 0 := by have := (List.getElem?_eq_some_iff.1 hu).1; simp at this; omega
        subst hj
        obtain rfl : t = u := by simpa using hu
        exact ⟨v, x, fuel, rfl, h, hR⟩
    | some d =>
      by_cases hd : ∃ fs, d = .struct fs
      · obtain ⟨fs, rfl⟩ := hd
        unfold flatT at hl hu
        unfold flatOK at hok
        rw [hs] at hl hu hok
        simp only at hl hu hok
        obtain ⟨i, f, j', h1, h2, h3⟩ := flat_find _ _ _ _ hu
        have h1' : fs[i]? = some f := by simpa using h1
        have hil : i < fs.size := (Array.getElem?_eq_some_iff.1 h1').1
        have hf := List.all_eq_true.1 hok i (List.mem_range.2 hil)
        rw [h1'] at hf
        simp only [Bool.and_eq_true, beq_iff_eq] at hf
        obtain ⟨hf1, hf2, hf3⟩ := hf
        obtain ⟨ys, m, _, hys, _, hyl, hrd⟩ := DataW.trod_struct hs h
        have hri := hrd i f h1'
        have hup := flat_upto (fun f : Field => flatT P n f.type) fs.toList h1
        have hyi : i < ys.length := by rw [hyl]; exact hil
        rw [List.getElem?_eq_getElem hyi, hf3] at hri
        have hx : x.1 = .agg (ys.map (·.1)) := by rw [hys]
        rw [hx] at hR
        have hRi := weights_agg hs hR h1' (d := ys[i].1) (by simp [List.getElem?_eq_getElem hyi])
        have hlen : ((cs.drop f.offset).take (flatT P n f.type).length).length = (flatT P n f.type).length := by
          rw [List.length_take, List.length_drop, hl, hf2]
          have := hup
          omega
        obtain ⟨v, y, m', g1, g2, g3⟩ := flat_read n f.type m _ ys[i] hf1 hlen hri hRi j' u h2
        refine ⟨v, y, m', ?_, g2, g3⟩
        have hj' : j' < (flatT P n f.type).length := (List.getElem?_eq_some_iff.1 h2).1
        rw [List.getElem?_take, if_pos hj', List.getElem?_drop] at g1
        rw [h3, ← hf2]
        exact g1
      · unfold flatT at hl hu
        rw [hs] at hl hu
        have e1 : (match some d with | some (.struct fs) => fs.toList.flatMap fun f => flatT P n f.type | _ => [t]) = [t] := by
          split
          · rename_i fs he
            injection he with he
            exact absurd ⟨_, he⟩ hd
          · rfl
        rw [e1] at hl hu
        match cs, hl with
        | [v], _ =>
          have hj : j = 0 := by have := (List.getElem?_eq_some_iff.1 hu).1; simp at this; omega
          subst hj
          obtain rfl : t = u := by simpa using hu
          exact ⟨v, x, fuel, rfl, h, hR⟩
theorem flat_row {H : Type} {enc : TypeId × Value → H} {P : Program} {w : World} {fuel : Nat} {t e : TypeId} {r : Option Addr} {len cap : Nat} {x : DataW H × List MemPlace} (n : Nat) (ts : List TypeId)
    (ht : P.underlying t = some (.slice e)) (hok : flatOK P n e = true) (hts : flatT P n e = ts) (hC : P.cellsOf e = ts.length) (h0 : 0 < ts.length)
    (h : DataW.trod enc P w 0 (fun _ => true) true fuel t [.slice r len cap] = some x) (hR : Reach P t x.1) :
    len ≤ cap ∧ cap ≤ maxLen ∧ (len = 0 ∨ len * P.bytesOf e ≤ 140737488351232 ∧ ∃ b off, r = some ⟨b, off, none⟩ ∧ b < w.heap.size ∧
      ∀ i, i < len → ∀ (j : Nat) (u : TypeId), ts[j]? = some u → ∃ (v : Value) (y : DataW H × List MemPlace) (m : Nat), w.cell? ⟨b, off + (i * ts.length + j), none⟩ = some v ∧ DataW.trod enc P w 0 (fun _ => true) true m u [v] = some y ∧ Reach P u y.1) := by
  subst hts
  rcases open_slice ht h with ⟨hcs, _⟩ | ⟨a, l, c, m, k, D, Pl, hcs, hb, hl, hm, hmm, hx, hi⟩
  · simp at hcs
    obtain ⟨rfl, rfl, rfl⟩ := hcs
    exact ⟨Nat.le_refl _, by simp, .inl rfl⟩
  · simp at hcs
    obtain ⟨rfl, rfl, rfl⟩ := hcs
    refine ⟨hl, hm, ?_⟩
    by_cases hz : len = 0
    · exact .inl hz
    right
    rw [hx] at hR
    obtain ⟨hw1, hw2⟩ := weights_slice ht hR
    simp only [List.length_map, List.length_range] at hw1
    have key : ∀ i, i < len → ∀ (j : Nat) (u : TypeId), (flatT P n e)[j]? = some u → ∃ (v : Value) (y : DataW H × List MemPlace) (m : Nat), w.cell? (a.add (i * (flatT P n e).length + j)) = some v ∧ DataW.trod enc P w 0 (fun _ => true) true m u [v] = some y ∧ Reach P u y.1 := by
      intro i hil j u hj
      obtain ⟨cs', hc, ht'⟩ := hi i (by rw [hmm]; simp; omega)
      rw [hC] at hc
      obtain ⟨_, hcl, hat⟩ := World.cells?_some hc
      have hRi := hw2 (D i) (List.mem_map.2 ⟨i, by simpa using hil, rfl⟩)
      obtain ⟨v, y, m', g1, g2, g3⟩ := flat_read n e k cs' (D i, Pl i) hok hcl ht' hRi j u hj
      have hjl : j < (flatT P n e).length := (List.getElem?_eq_some_iff.1 hj).1
      have hcell := hat j hjl
      refine ⟨v, y, m', by rw [← Go.Deep.add_add, hcell, g1], g2, g3⟩
    refine ⟨Nat.le_trans (Nat.mul_le_mul_right _ (Nat.le_add_right _ _)) hw1, ?_⟩
    obtain ⟨b, off, spot⟩ := a
    obtain ⟨v0, _, _, hv0, _⟩ := key 0 (by omega) 0 _ (List.getElem?_eq_getElem h0)
    simp only [Nat.zero_mul, Nat.add_zero] at hv0
    have hspot : spot = none := by
      have : ((⟨b, off, spot⟩ : Addr).add 0).spot = none := World.cell?_spot hv0
      simpa [Addr.add] using this
    subst hspot
    refine ⟨b, off, rfl, ?_, fun i hil j u hj => ?_⟩
    · rw [add_at] at hv0
      exact World.block_lt_of_cell? w _ hv0
    · obtain ⟨v, y, m', h1, h2⟩ := key i hil j u hj
      rw [add_at] at h1
      exact ⟨v, y, m', h1, h2⟩
theorem row_of {α : Type} (f : α → List Value) (k : Nat) (hk : ∀ x, (f x).length = k) (h0 : 0 < k) (good : α → Prop) (d : α) {w : World} {r : Option Addr} {len cap : Nat} (hl : len ≤ cap) (hm : cap ≤ maxLen)
    (h : len = 0 ∨ ∃ b off, r = some ⟨b, off, none⟩ ∧ b < w.heap.size ∧ ∀ i, i < len → ∃ s, good s ∧ ∀ j, j < k → w.cell? ⟨b, off + (i * k + j), none⟩ = (f s)[j]?) :
    ∃ l : List α, RO f w r len cap l ∧ ∀ s ∈ l, good s := by
  rcases h with rfl | ⟨b, off, rfl, hB, h⟩
  · exact ⟨[], ⟨rfl, hl, hm, .inl rfl⟩, by simp⟩
  · have key : ∀ i, ∃ s : α, i < len → good s ∧ ∀ j, j < k → w.cell? ⟨b, off + (i * k + j), none⟩ = (f s)[j]? := by
      intro i
      by_cases hi : i < len
      · obtain ⟨s, hs⟩ := h i hi; exact ⟨s, fun _ => hs⟩
      · exact ⟨d, fun h => absurd h hi⟩
    let T : Nat → α := fun i => Classical.choose (key i)
    have hT : ∀ i, i < len → good (T i) ∧ ∀ j, j < k → w.cell? ⟨b, off + (i * k + j), none⟩ = (f (T i))[j]? := fun i hi => Classical.choose_spec (key i) hi
    refine ⟨(List.range len).map T, ⟨by simp, hl, hm, .inr ⟨b, off, rfl, hB, fun p u hu => ?_⟩⟩, fun s hs => ?_⟩
    · have hp : p < len * k := by
        have := (List.getElem?_eq_some_iff.1 hu).1
        rw [flat_len hk] at this
        simpa using this
      have hd : p / k < len := Nat.div_lt_of_lt_mul (by rw [Nat.mul_comm]; exact hp)
      have hr : p % k < k := Nat.mod_lt _ h0
      have he : p = p / k * k + p % k := by rw [Nat.mul_comm]; exact (Nat.div_add_mod p k).symm
      rw [he, flat_at hk _ _ _ hr] at hu
      have h1 : ((List.range len).map T)[p / k]? = some (T (p / k)) := by simp [hd]
      rw [h1] at hu
      rw [he, (hT _ hd).2 _ hr]
      exact hu
    · obtain ⟨i, hi, rfl⟩ := List.mem_map.1 hs
      exact (hT i (by simpa using hi)).1
end Go.Proofs.YtimgocfkogebmaaGreatDoor
namespace Go.Proofs.YtimgocfkogebmaaGreatDoor
open Go.RowKit
set_option linter.unusedVariables false
set_option linter.unusedSimpArgs false
abbrev B8 := List UInt8
def byt (s : ByteArray) : B8 := s.data.toList
theorem byt_inj {a b : ByteArray} (h : byt a = byt b) : a = b := ByteArray.ext (Array.toList_inj.1 h)
def lt8 (a b : B8) : Bool := Op.bytesLess a b
theorem lt8_is (a b : B8) : lt8 a b = decide (a < b) := bytesLess_eq a b
theorem lt8_irrefl (a : B8) : lt8 a a = false := by
  rw [lt8_is]; exact decide_eq_false (List.lt_irrefl a)
theorem lt8_trans {a b c : B8} (h : lt8 a b = true) (k : lt8 b c = true) : lt8 a c = true := by
  rw [lt8_is, decide_eq_true_eq] at *
  exact List.lt_trans h k
theorem lt8_tri {a b : B8} (h : lt8 a b = false) (k : lt8 b a = false) : a = b := by
  rw [lt8_is, decide_eq_false_iff_not] at *
  exact List.le_antisymm (List.not_lt.1 k) (List.not_lt.1 h)
theorem lt8_asymm {a b : B8} (h : lt8 a b = true) : lt8 b a = false := by
  cases k : lt8 b a
  · rfl
  · have := lt8_trans h k; rw [lt8_irrefl] at this; cases this
end Go.Proofs.YtimgocfkogebmaaGreatDoor
namespace Go.Proofs.YtimgocfkogebmaaGreatDoor
open Go.RowKit
set_option linter.unusedVariables false
def txts (l : List ByteArray) : List Value := l.map .string
def SeesT (B : Nat) (w : World) (a : Option Addr) (l : List ByteArray) : Prop :=
  l = [] ∨ ∃ b off, a = some ⟨b, off, none⟩ ∧ b < B ∧ ∀ i, i < l.length → w.cell? ⟨b, off + i, none⟩ = some (.string (l.getD i ⟨#[]⟩))
theorem SeesT.below {B : Nat} {w w' : World} {a : Option Addr} {l : List ByteArray} (h : SeesT B w a l) (hb : Below B w w') : SeesT B w' a l := by
  rcases h with h | ⟨b, off, rfl, hB, hc⟩
  · exact .inl h
  · exact .inr ⟨b, off, rfl, hB, fun i hi => (hb.cell (p := ⟨b, off + i, none⟩) hB).trans (hc i hi)⟩
theorem SeesT.mono {B B' : Nat} {w : World} {a : Option Addr} {l : List ByteArray} (h : SeesT B w a l) (hb : B ≤ B') : SeesT B' w a l := by
  rcases h with h | ⟨b, off, rfl, hB, hx⟩
  · exact .inl h
  · exact .inr ⟨b, off, rfl, by omega, hx⟩
end Go.Proofs.YtimgocfkogebmaaGreatDoor
namespace Go.Proofs.YtimgocfkogebmaaGreatDoor
open Go.RowKit Go.ChangeShapes Go.WideShapes Go.Deep
set_option linter.unusedVariables false
set_option linter.unusedSimpArgs false
abbrev e0 : ByteArray := ⟨#[]⟩
structure TT (w : World) (a : Option Addr) (n c : Nat) (l : List ByteArray) : Prop where
  len : n = l.length
  cap : n ≤ c
  max : c ≤ maxLen
  sees : SeesT w.heap.size w a l
theorem TT.below {w w' : World} {a : Option Addr} {n c : Nat} {l : List ByteArray} (h : TT w a n c l) (hb : Below w.heap.size w w') : TT w' a n c l := ⟨h.len, h.cap, h.max, (h.sees.below hb).mono hb.size⟩
theorem TT.drewN {w : World} {a : Option Addr} {n c : Nat} {l : List ByteArray} (h : TT w a n c l) (m : Nat) : TT (w.drewN m) a n c l := ⟨h.len, h.cap, h.max, h.sees⟩
theorem TT.at_ {w : World} {a : Option Addr} {n c : Nat} {l : List ByteArray} (h : TT w a n c l) {k : Nat} (hk : k < l.length) : ∃ b off, a = some ⟨b, off, none⟩ ∧ b < w.heap.size ∧ ∀ i, i < l.length → w.cell? ⟨b, off + i, none⟩ = some (.string (l.getD i e0)) := by
  rcases h.sees with e | ⟨b, off, rfl, hb, hc⟩
  · subst e; simp at hk
  · exact ⟨b, off, rfl, hb, hc⟩
def TSl (w : World) (a : Option Addr) (n c : Nat) : Prop := ∃ l, TT w a n c l ∧ (∀ s ∈ l, s.size ≤ 140737488351232) ∧ n ≤ 8796093022000
theorem str_bytes : Tryz.prog.bytesOf 9 = 16 := by kernel_rfl
theorem cells_str : Tryz.prog.cellsOf 9 = 1 := by kernel_rfl
theorem txt_row {H : Type} {enc : TypeId × Value → H} {w : World} {fuel : Nat} {r : Option Addr} {len cap : Nat} {x : DataW H × List MemPlace}
    (h : DataW.trod enc Tryz.prog w 0 (fun _ => true) true fuel 34 [.slice r len cap] = some x) (hR : Reach Tryz.prog 34 x.1) : TSl w r len cap := by
  rcases open_slice1 Tryz.underlying34 cells_str h with ⟨hcs, _⟩ | ⟨a, l, c, m, n, V, D, Pl, hcs, hb, hl, hm, hmm, hx, hi⟩
  · simp at hcs
    obtain ⟨rfl, rfl, rfl⟩ := hcs
    exact ⟨[], ⟨rfl, Nat.le_refl _, by simp, .inl rfl⟩, fun s hs => by simp at hs, by omega⟩
  · simp at hcs
    obtain ⟨rfl, rfl, rfl⟩ := hcs
    rw [hx] at hR
    obtain ⟨hw1, hw2⟩ := weights_slice Tryz.underlying34 hR
    simp only [List.length_map, List.length_range] at hw1
    rw [str_bytes] at hw1
    have key : ∀ i, ∃ z : ByteArray, i < len → w.cell? (a.add i) = some (.string z) ∧ z.size ≤ 140737488351232 := by
      intro i
      by_cases hil : i < len
      · obtain ⟨h1, h2⟩ := hi i (by rw [hmm]; simp; omega)
        obtain ⟨z, e, ez, _⟩ := DataW.trod_string Tryz.underlying9 h2
        simp at e
        have hRi := hw2 (D i) (List.mem_map.2 ⟨i, by simpa using hil, rfl⟩)
        have : D i = .lit (.string z.data.toList) := congrArg Prod.fst ez
        rw [this] at hRi
        exact ⟨z, fun _ => ⟨by rw [h1, e], reach_string hRi⟩⟩
      · exact ⟨e0, fun h => absurd h hil⟩
    let T : Nat → ByteArray := fun i => Classical.choose (key i)
    have hT : ∀ i, i < len → w.cell? (a.add i) = some (.string (T i)) ∧ (T i).size ≤ 140737488351232 := fun i hi => Classical.choose_spec (key i) hi
    have hlen : ((List.range len).map T).length = len := by simp
    refine ⟨(List.range len).map T, ⟨hlen.symm, hl, hm, ?_⟩, fun s hs => ?_, by omega⟩
    · by_cases h0 : len = 0
      · left; subst h0; rfl
      · right
        obtain ⟨b, off, spot⟩ := a
        have hspot : spot = none := by
          have : ((⟨b, off, spot⟩ : Addr).add 0).spot = none := World.cell?_spot (hT 0 (by omega)).1
          simpa [Addr.add] using this
        subst hspot
        have hsh : ∀ i, (⟨b, off, none⟩ : Addr).add i = ⟨b, off + i, none⟩ := fun i => by unfold Addr.add; split <;> simp_all
        refine ⟨b, off, rfl, ?_, fun i hi => ?_⟩
        · have := (hT 0 (by omega)).1; rw [hsh] at this; exact World.block_lt_of_cell? w _ this
        · have := (hT i (by simpa using hi)).1
          rw [hsh] at this
          rw [this]
          simp [List.getD, show i < len by simpa using hi]
    · obtain ⟨i, hi, rfl⟩ := List.mem_map.1 hs
      exact (hT i (by simpa using hi)).2
def DrawnB (v : Value) (w : World) (e : Ending) (w' : World) : Prop := e = .returned v ∧ ∃ m, w' = w.drewN m
end Go.Proofs.YtimgocfkogebmaaGreatDoor
namespace Go.Proofs.YtimgocfkogebmaaGreatDoor
open Go.RowKit Go.ChangeShapes Go.WideShapes Go.Deep
set_option linter.unusedVariables false
set_option linter.unusedSimpArgs false
structure SpotD where
  fn : ByteArray
  file : ByteArray
  line : Int
structure EdgeD where
  frm : Int
  dst : Int
  k : Int
  x : Int
  y : Int
  c : Int
  d : Int
deriving DecidableEq
structure PD where
  nm : ByteArray
  vars : List ByteArray
  spots : List SpotD
  edges : List EdgeD
def spot0 : SpotD := ⟨e0, e0, 0⟩
def edge0 : EdgeD := ⟨0, 0, 0, 0, 0, 0, 0⟩
def spotC (s : SpotD) : List Value := [.string s.fn, .string s.file, .int .i64 s.line]
def edgeC (e : EdgeD) : List Value := [.int .i64 e.frm, .int .i64 e.dst, .int .i64 e.k, .int .i64 e.x, .int .i64 e.y, .int .i64 e.c, .int .i64 e.d]
theorem spotC_len (s : SpotD) : (spotC s).length = 3 := rfl
theorem edgeC_len (e : EdgeD) : (edgeC e).length = 7 := rfl
def spotW (s : SpotD) : Prop := s.fn.size ≤ 140737488351232 ∧ s.file.size ≤ 140737488351232 ∧ (Lit.int .i64 s.line).wf = true
def edgeW (e : EdgeD) : Prop := (Lit.int .i64 e.frm).wf = true ∧ (Lit.int .i64 e.dst).wf = true ∧ (Lit.int .i64 e.k).wf = true ∧ (Lit.int .i64 e.x).wf = true ∧ (Lit.int .i64 e.y).wf = true ∧ (Lit.int .i64 e.c).wf = true ∧ (Lit.int .i64 e.d).wf = true
def SpotsSl (w : World) (a : Option Addr) (n c : Nat) : Prop := ∃ l, RO spotC w a n c l ∧ (∀ s ∈ l, spotW s) ∧ n ≤ 3518437208780
def EdgesSl (w : World) (a : Option Addr) (n c : Nat) : Prop := ∃ l, RO edgeC w a n c l ∧ (∀ s ∈ l, edgeW s) ∧ n ≤ 3518437208780
theorem spot_bytes : Tryz.prog.bytesOf 80 = 40 := by kernel_rfl
theorem edge_bytes : Tryz.prog.bytesOf 75 = 56 := by kernel_rfl
theorem spot_row {H : Type} {enc : TypeId × Value → H} {w : World} {fuel : Nat} {r : Option Addr} {len cap : Nat} {x : DataW H × List MemPlace}
    (h : DataW.trod enc Tryz.prog w 0 (fun _ => true) true fuel 35 [.slice r len cap] = some x) (hR : Reach Tryz.prog 35 x.1) : SpotsSl w r len cap := by
  obtain ⟨h1, h2, h3⟩ := flat_row 2 [9, 9, 3] Tryz.underlying35 (by kernel_rfl) (by kernel_rfl) (by kernel_rfl) (by decide) h hR
  have hn : len ≤ 3518437208780 := by
    rcases h3 with rfl | ⟨hb, _⟩
    · omega
    · rw [spot_bytes] at hb; omega
  obtain ⟨l, g1, g2⟩ := row_of (w := w) (r := r) (len := len) (cap := cap) spotC 3 spotC_len (by decide) spotW spot0 h1 h2 (by
    rcases h3 with rfl | ⟨_, b, off, rfl, hB, hc⟩
    · exact .inl rfl
    · refine .inr ⟨b, off, rfl, hB, fun i hi => ?_⟩
      obtain ⟨v0, y0, m0, c0, t0, r0⟩ := hc i hi 0 _ rfl
      obtain ⟨v1, y1, m1, c1, t1, r1⟩ := hc i hi 1 _ rfl
      obtain ⟨v2, y2, m2, c2, t2, r2⟩ := hc i hi 2 _ rfl
      obtain ⟨z0, e0', ez0, _⟩ := DataW.trod_string Tryz.underlying9 t0
      obtain ⟨z1, e1, ez1, _⟩ := DataW.trod_string Tryz.underlying9 t1
      obtain ⟨z2, e2, _, w2⟩ := DataW.trod_int Tryz.underlying3 t2
      simp at e0' e1 e2
      subst e0' e1 e2
      subst ez0 ez1
      refine ⟨⟨z0, z1, z2⟩, ⟨reach_string r0, reach_string r1, w2⟩, fun j hj => ?_⟩
      match j, hj with
      | 0, _ => exact c0
      | 1, _ => exact c1
      | 2, _ => exact c2)
  exact ⟨l, g1, g2, hn⟩
theorem edge_row {H : Type} {enc : TypeId × Value → H} {w : World} {fuel : Nat} {r : Option Addr} {len cap : Nat} {x : DataW H × List MemPlace}
    (h : DataW.trod enc Tryz.prog w 0 (fun _ => true) true fuel 36 [.slice r len cap] = some x) (hR : Reach Tryz.prog 36 x.1) : EdgesSl w r len cap := by
  obtain ⟨h1, h2, h3⟩ := flat_row 3 [3, 3, 3, 3, 3, 3, 3] Tryz.underlying36 (by kernel_rfl) (by kernel_rfl) (by kernel_rfl) (by decide) h hR
  have hn : len ≤ 3518437208780 := by
    rcases h3 with rfl | ⟨hb, _⟩
    · omega
    · rw [edge_bytes] at hb; omega
  obtain ⟨l, g1, g2⟩ := row_of (w := w) (r := r) (len := len) (cap := cap) edgeC 7 edgeC_len (by decide) edgeW edge0 h1 h2 (by
    rcases h3 with rfl | ⟨_, b, off, rfl, hB, hc⟩
    · exact .inl rfl
    · refine .inr ⟨b, off, rfl, hB, fun i hi => ?_⟩
      obtain ⟨v0, y0, m0, c0, t0, r0⟩ := hc i hi 0 _ rfl
      obtain ⟨v1, y1, m1, c1, t1, r1⟩ := hc i hi 1 _ rfl
      obtain ⟨v2, y2, m2, c2, t2, r2⟩ := hc i hi 2 _ rfl
      obtain ⟨v3, y3, m3, c3, t3, r3⟩ := hc i hi 3 _ rfl
      obtain ⟨v4, y4, m4, c4, t4, r4⟩ := hc i hi 4 _ rfl
      obtain ⟨v5, y5, m5, c5, t5, r5⟩ := hc i hi 5 _ rfl
      obtain ⟨v6, y6, m6, c6, t6, r6⟩ := hc i hi 6 _ rfl
      obtain ⟨z0, e0', _, w0⟩ := DataW.trod_int Tryz.underlying3 t0
      obtain ⟨z1, e1, _, w1⟩ := DataW.trod_int Tryz.underlying3 t1
      obtain ⟨z2, e2, _, w2⟩ := DataW.trod_int Tryz.underlying3 t2
      obtain ⟨z3, e3, _, w3⟩ := DataW.trod_int Tryz.underlying3 t3
      obtain ⟨z4, e4, _, w4⟩ := DataW.trod_int Tryz.underlying3 t4
      obtain ⟨z5, e5, _, w5⟩ := DataW.trod_int Tryz.underlying3 t5
      obtain ⟨z6, e6, _, w6⟩ := DataW.trod_int Tryz.underlying3 t6
      simp at e0' e1 e2 e3 e4 e5 e6
      subst e0' e1 e2 e3 e4 e5 e6
      refine ⟨⟨z0, z1, z2, z3, z4, z5, z6⟩, ⟨w0, w1, w2, w3, w4, w5, w6⟩, fun j hj => ?_⟩
      match j, hj with
      | 0, _ => exact c0
      | 1, _ => exact c1
      | 2, _ => exact c2
      | 3, _ => exact c3
      | 4, _ => exact c4
      | 5, _ => exact c5
      | 6, _ => exact c6)
  exact ⟨l, g1, g2, hn⟩
structure PV where
  nm : ByteArray
  a1 : Option Addr
  n1 : Nat
  c1 : Nat
  a2 : Option Addr
  n2 : Nat
  c2 : Nat
  a3 : Option Addr
  n3 : Nat
  c3 : Nat
abbrev PV.cells (p : PV) : Array Value := #[.string p.nm, .slice p.a1 p.n1 p.c1, .slice p.a2 p.n2 p.c2, .slice p.a3 p.n3 p.c3]
structure PrA (w : World) (p : PV) (D : PD) : Prop where
  nm : p.nm = D.nm
  vars : TT w p.a1 p.n1 p.c1 D.vars
  spots : RO spotC w p.a2 p.n2 p.c2 D.spots
  edges : RO edgeC w p.a3 p.n3 p.c3 D.edges
theorem PrA.below {w w' : World} {p : PV} {D : PD} (h : PrA w p D) (hb : Below w.heap.size w w') : PrA w' p D := ⟨h.nm, h.vars.below hb, h.spots.below hb, h.edges.below hb⟩
theorem PrA.drewN {w : World} {p : PV} {D : PD} (h : PrA w p D) (n : Nat) : PrA (w.drewN n) p D := h.below (Below.drewN (Below.refl _ _) n)
structure PW (D : PD) : Prop where
  nm : D.nm.size ≤ 140737488351232
  vars : ∀ s ∈ D.vars, s.size ≤ 140737488351232
  spots : ∀ s ∈ D.spots, spotW s
  edges : ∀ e ∈ D.edges, edgeW e
end Go.Proofs.YtimgocfkogebmaaGreatDoor
namespace Go.Proofs.YtimgocfkogebmaaGreatDoor
open Go.RowKit
set_option linter.unusedVariables false
set_option linter.unusedSimpArgs false
def takB (s : ByteArray) : Bool := (s.toList == [115, 107, 105, 112]) || ((s.toList == [97, 110, 121]) || ((s.toList == [108, 105, 109, 105, 116]) || ((s.toList == [99, 104, 101, 99, 107]) || ((s.toList == [105, 110, 102])))))
def varB (l : List ByteArray) (i : Nat) : Bool := nameB (l.getD i e0) && (!takB (l.getD i e0) && !Lib.containsS (l.take i) (l.getD i e0))
def varsB (l : List ByteArray) : Bool := decide (l.length ≤ 8) && (List.range l.length).all (varB l)
theorem vars_no {l : List ByteArray} {k : Nat} (hk : k < l.length) (h : varB l k = false) : varsB l = false := by
  unfold varsB
  rw [show (List.range l.length).all (varB l) = false by rw [List.all_eq_false]; exact ⟨k, List.mem_range.2 hk, by rw [h]; simp⟩, Bool.and_false]
theorem vars_yes {l : List ByteArray} (hl : l.length ≤ 8) (h : ∀ t, t < l.length → varB l t = true) : varsB l = true := by
  unfold varsB
  rw [decide_eq_true hl, Bool.true_and, List.all_eq_true]
  exact fun t ht => h t (List.mem_range.1 ht)
theorem vars_long {l : List ByteArray} (hl : ¬ l.length ≤ 8) : varsB l = false := by unfold varsB; rw [decide_eq_false hl, Bool.false_and]
theorem has_no {l : List ByteArray} {k : Nat} (hk : k < l.length) (h : ∀ t, t < k → l.getD t e0 ≠ l.getD k e0) : Lib.containsS (l.take k) (l.getD k e0) = false := by
  cases hc : Lib.containsS (l.take k) (l.getD k e0)
  · rfl
  · rw [Lib.containsS_iff] at hc
    obtain ⟨t, ht, e⟩ := List.getElem_of_mem hc
    have ht' : t < k := by simp at ht; omega
    refine absurd ?_ (h t ht')
    rw [← e]
    simp [List.getD, show t < l.length by omega]
theorem has_yes {l : List ByteArray} {k t : Nat} (hk : k < l.length) (ht : t < k) (h : l.getD t e0 = l.getD k e0) : Lib.containsS (l.take k) (l.getD k e0) = true := by
  rw [Lib.containsS_iff, ← h]
  have hl : t < l.length := by omega
  have : (l.take k)[t]? = some (l.getD t e0) := by simp [List.getElem?_take, ht, List.getD, hl]
  exact List.mem_of_getElem? this
theorem ptxt_eq (s t : ByteArray) : (s.toList == t.toList) = decide (s = t) := by
  rw [Bool.eq_iff_iff, beq_iff_eq, decide_eq_true_iff, ByteArray.toList_eq, ByteArray.toList_eq]
  exact ⟨fun h => ByteArray.ext (Array.toList_inj.1 h), fun h => by rw [h]⟩
set_option maxRecDepth 100000 in
theorem taken_any (s : ByteArray) (w : World) : Calls Tryz.prog 150 #[.string s] w (SetTo (.bool (takB s)) w) := by
  cases h0 : (s.toList == [115, 107, 105, 112])
  rotate_left
  · have hR : Hid (takB s = true) := Lib.hid (by unfold takB; simp only [h0, Bool.true_or, Bool.false_or, Bool.or_true])
    generalize takB s = R at *
    go_enter Tryz.func150, Tryz.ntmps150
    go_wp2
    go_ret
    exact ⟨ret_bool hR.out.symm, rfl⟩
  cases h1 : (s.toList == [97, 110, 121])
  rotate_left
  · have hR : Hid (takB s = true) := Lib.hid (by unfold takB; simp only [h0, h1, Bool.true_or, Bool.false_or, Bool.or_true])
    generalize takB s = R at *
    go_enter Tryz.func150, Tryz.ntmps150
    go_wp2
    go_ret
    exact ⟨ret_bool hR.out.symm, rfl⟩
  cases h2 : (s.toList == [108, 105, 109, 105, 116])
  rotate_left
  · have hR : Hid (takB s = true) := Lib.hid (by unfold takB; simp only [h0, h1, h2, Bool.true_or, Bool.false_or, Bool.or_true])
    generalize takB s = R at *
    go_enter Tryz.func150, Tryz.ntmps150
    go_wp2
    go_ret
    exact ⟨ret_bool hR.out.symm, rfl⟩
  cases h3 : (s.toList == [99, 104, 101, 99, 107])
  rotate_left
  · have hR : Hid (takB s = true) := Lib.hid (by unfold takB; simp only [h0, h1, h2, h3, Bool.true_or, Bool.false_or, Bool.or_true])
    generalize takB s = R at *
    go_enter Tryz.func150, Tryz.ntmps150
    go_wp2
    go_ret
    exact ⟨ret_bool hR.out.symm, rfl⟩
  cases h4 : (s.toList == [105, 110, 102])
  rotate_left
  · have hR : Hid (takB s = true) := Lib.hid (by unfold takB; simp only [h0, h1, h2, h3, h4, Bool.true_or, Bool.false_or, Bool.or_true])
    generalize takB s = R at *
    go_enter Tryz.func150, Tryz.ntmps150
    go_wp2
    go_ret
    exact ⟨ret_bool hR.out.symm, rfl⟩
  have hR : Hid (takB s = false) := Lib.hid (by unfold takB; simp only [h0, h1, h2, h3, h4, Bool.or_false])
  generalize takB s = R at *
  go_enter Tryz.func150, Tryz.ntmps150
  go_wp2
  go_ret
  exact ⟨ret_bool hR.out.symm, rfl⟩
set_option maxRecDepth 100000 in
theorem contains_any (b off : Nat) (n c : Nat) (l : List ByteArray) (x : ByteArray) (hn : n ≤ l.length) (hb : n ≤ 9223372036854775807) (w : World) (hc : ∀ j, j < l.length → w.cell? ⟨b, off + j, none⟩ = some (.string (l.getD j e0))) : Calls Tryz.prog 151 #[.slice (some ⟨b, off, none⟩) n c, .string x] w (SetTo (.bool (Lib.containsS (l.take n) x)) w) :=
  (Tryz.slices_Contains_string b off n c l x w hn hb hc).mono (fun e w' h => ⟨h.1, h.2.symm⟩)
set_option maxRecDepth 100000 in
set_option maxHeartbeats 2000000 in
theorem rightVars_any (a : Option Addr) (n c : Nat) (l : List ByteArray) (w : World) (h : TT w a n c l) : Calls Tryz.prog 108 #[.slice a n c] w (Gives (.bool (varsB l)) w) := by
  have hn : n = l.length := h.len
  have hcap : n ≤ c := h.cap
  have hmax : c ≤ 9223372036854775807 := by have := h.max; unfold maxLen at this; exact this
  by_cases h8 : n ≤ 8
  · have h8i : ¬ (8 : Int) < (n : Int) := by omega
    have hlen := Lib.hid hn
    have T := Lib.hid h
    have hno := Lib.hid (fun k hk h => vars_no (l := l) (k := k) hk h)
    have hyes := Lib.hid (fun h => vars_yes (l := l) (by omega) h)
    clear h hn
    generalize varsB l = R at *
    go_enter Tryz.func108, Tryz.ntmps108
    go_wp2
    go_loopw [10] (fun x wr => ∃ k : Nat, k ≤ n ∧ x = .int .i64 k ∧ Hid (∀ t, t < k → varB l t = true) ∧ Hid (Below w.heap.size w wr)) (fun x _ => n - (intOf x).toNat)
    case atStart => exact ⟨0, Nat.zero_le _, rfl, Lib.hid (fun t ht => by omega), Lib.hid (Below.refl _ _)⟩
    case round =>
      obtain ⟨k, hk, rfl, hal, hB⟩ := hrel
      by_cases hlt : k < n
      · have hki : (k : Int) < (n : Int) := by omega
        have hkl : k < l.length := by rw [← hlen.out]; exact hlt
        obtain ⟨b, off, rfl, hbl, hc⟩ := (T.out.below hB.out).at_ hkl
        have x0 := hc k hkl
        have hkc : k ≤ c := by omega
        have hkc2 : (k : Int) ≤ (c : Int) := by omega
        have hv : Hid (varB l k = (nameB (l.getD k e0) && (!takB (l.getD k e0) && !Lib.containsS (l.take k) (l.getD k e0)))) := Lib.hid rfl
        have hno' := Lib.hid (hno.out k hkl)
        have hyes' : Hid (varB l k = true → ∀ t, t < k + 1 → varB l t = true) := Lib.hid (fun h t ht => by
          by_cases e : t = k
          · rw [e]; exact h
          · exact hal.out t (by omega))
        have q1 := Lib.hid (name_any (l.getD k e0) wr)
        have q2 := Lib.hid (fun W => taken_any (l.getD k e0) W)
        have q3 := Lib.hid (fun W (hW : Below wr.heap.size wr W) => contains_any b off k c l (l.getD k e0) (by omega) (by omega) W (fun j hj => (hW.cell (p := ⟨b, off + j, none⟩) hbl).trans (hc j hj)))
        clear hc hal hno
        generalize varB l k = V at *
        generalize l.getD k e0 = s at *
        cases e1 : nameB s
        · have hf := Lib.hid (hno'.out (by rw [hv.out, e1]; rfl))
          rw [e1] at q1
          clear hno' hyes' hyes hv e1
          go_wp2_with fail
          refine q1.out.mono ?_
          rintro e w1 ⟨rfl, b1⟩
          go_wp2
          go_ret
          exact ⟨ret_bool hf.out.symm, hB.out.trans (b1.mono hB.out.size)⟩
        · rw [e1] at q1 hv
          clear e1
          cases e2 : takB s
          · rw [e2] at q2 hv
            clear e2
            generalize Lib.containsS (l.take k) s = z at *
            cases z
            · have hg := Lib.hid (hyes'.out (by rw [hv.out]; rfl))
              clear hno' hyes' hv
              go_wp2_with fail
              refine q1.out.mono ?_
              rintro e w1 ⟨rfl, b1⟩
              go_wp2_with fail
              refine (q2.out _).mono ?_
              rintro e w2 ⟨rfl, rfl⟩
              go_wp2_with fail
              refine (q3.out _ b1).mono ?_
              rintro e w3 ⟨rfl, rfl⟩
              have hB2 := Lib.hid (hB.out.trans (b1.mono hB.out.size))
              go_wp2
              go_roundw
              case rel => exact ⟨k + 1, by omega, by go_num, hg, hB2⟩
              case measure => simp [intOf]; omega
            · have hf := Lib.hid (hno'.out (by rw [hv.out]; rfl))
              clear hno' hyes' hyes hv
              go_wp2_with fail
              refine q1.out.mono ?_
              rintro e w1 ⟨rfl, b1⟩
              go_wp2_with fail
              refine (q2.out _).mono ?_
              rintro e w2 ⟨rfl, rfl⟩
              go_wp2_with fail
              refine (q3.out _ b1).mono ?_
              rintro e w3 ⟨rfl, rfl⟩
              go_wp2
              go_ret
              exact ⟨ret_bool hf.out.symm, hB.out.trans (b1.mono hB.out.size)⟩
          · have hf := Lib.hid (hno'.out (by rw [hv.out, e2]; rfl))
            rw [e2] at q2
            clear hno' hyes' hyes hv e2
            go_wp2_with fail
            refine q1.out.mono ?_
            rintro e w1 ⟨rfl, b1⟩
            go_wp2_with fail
            refine (q2.out _).mono ?_
            rintro e w2 ⟨rfl, rfl⟩
            go_wp2
            go_ret
            exact ⟨ret_bool hf.out.symm, hB.out.trans (b1.mono hB.out.size)⟩
      · have hki : ¬ (k : Int) < (n : Int) := by omega
        have hf := Lib.hid (hyes.out (fun t ht => hal.out t (by rw [← hlen.out] at ht; omega)))
        clear hyes hno hal
        go_wp2
        go_ret
        exact ⟨ret_bool hf.out.symm, hB.out⟩
  · have h8i : (8 : Int) < (n : Int) := by omega
    have hR := Lib.hid (vars_long (l := l) (by omega))
    clear h hn
    generalize varsB l = R at *
    go_enter Tryz.func108, Tryz.ntmps108
    go_wp2
    go_ret
    exact ⟨ret_bool hR.out.symm, Below.refl _ _⟩
set_option maxRecDepth 100000 in
set_option maxHeartbeats 4000000 in
theorem rvars_any (a : Option Addr) (n c : Nat) (l : List ByteArray) (hsz : ∀ s ∈ l, s.size ≤ 9223372036854775806) (w : World) (h : TT w a n c l) : Calls Tryz.prog 90 #[.slice a n c] w (DrawnB (.bool (varsB l)) w) := by
  have hn : n = l.length := h.len
  by_cases h8 : n ≤ 8
  · have h8i : ¬ (8 : Int) < (n : Int) := by omega
    have hlen := Lib.hid hn
    have T := Lib.hid h
    have hsz' := Lib.hid hsz
    have hno := Lib.hid (fun k hk h => vars_no (l := l) (k := k) hk h)
    have hyes := Lib.hid (fun h => vars_yes (l := l) (by omega) h)
    clear h hn hsz
    generalize varsB l = R at *
    go_enter Tryz.func90, Tryz.ntmps90
    go_wp2
    go_loopw [3] (fun x wr => ∃ k m : Nat, k ≤ n ∧ x = .int .i64 k ∧ Hid (∀ t, t < k → varB l t = true) ∧ wr = w.drewN m) (fun x _ => n - (intOf x).toNat)
    case atStart => exact ⟨0, 0, Nat.zero_le _, rfl, Lib.hid (fun t ht => by omega), rfl⟩
    case round =>
      obtain ⟨k, m, hk, rfl, hal, rfl⟩ := hrel
      by_cases hlt : k < n
      · have hki : (k : Int) < (n : Int) := by omega
        have hkl : k < l.length := by rw [← hlen.out]; exact hlt
        obtain ⟨b, off, rfl, hbl, hc⟩ := T.out.at_ hkl
        have x0 := hc k hkl
        have hc' := Lib.hid hc
        have hv : Hid (varB l k = (nameB (l.getD k e0) && (!takB (l.getD k e0) && !Lib.containsS (l.take k) (l.getD k e0)))) := Lib.hid rfl
        have hno' := Lib.hid (hno.out k hkl)
        have hyes' : Hid (varB l k = true → ∀ t, t < k + 1 → varB l t = true) := Lib.hid (fun h t ht => by
          by_cases e : t = k
          · rw [e]; exact h
          · exact hal.out t (by omega))
        have q1 := Lib.hid (fun W => rname_any (l.getD k e0) (hsz'.out _ (by simp [List.getD, hkl])) W)
        have hhn := Lib.hid (has_no (l := l) (k := k) hkl)
        have hhy := Lib.hid (fun t ht e => has_yes (l := l) (k := k) (t := t) hkl ht e)
        have htk : Hid (takB (l.getD k e0) = (((l.getD k e0).toList == [115, 107, 105, 112]) || (((l.getD k e0).toList == [97, 110, 121]) || (((l.getD k e0).toList == [108, 105, 109, 105, 116]) || (((l.getD k e0).toList == [99, 104, 101, 99, 107]) || (((l.getD k e0).toList == [105, 110, 102]))))))) := Lib.hid rfl
        clear hc hal hno
        generalize varB l k = V at *
        generalize l.getD k e0 = s at *
        generalize takB s = tk at *
        cases h0 : (s.toList == [115, 107, 105, 112])
        rotate_left
        · have hf := Lib.hid (hno'.out (by rw [hv.out, htk.out]; simp only [h0, Bool.true_or, Bool.false_or, Bool.not_true, Bool.false_and, Bool.and_false]))
          clear hno' hyes' hyes hv htk hhn hhy q1
          go_wp2
          go_ret
          exact ⟨ret_bool hf.out.symm, m, rfl⟩
        cases h1 : (s.toList == [97, 110, 121])
        rotate_left
        · have hf := Lib.hid (hno'.out (by rw [hv.out, htk.out]; simp only [h0, h1, Bool.true_or, Bool.false_or, Bool.not_true, Bool.false_and, Bool.and_false]))
          clear hno' hyes' hyes hv htk hhn hhy q1
          go_wp2
          go_ret
          exact ⟨ret_bool hf.out.symm, m, rfl⟩
        cases h2 : (s.toList == [108, 105, 109, 105, 116])
        rotate_left
        · have hf := Lib.hid (hno'.out (by rw [hv.out, htk.out]; simp only [h0, h1, h2, Bool.true_or, Bool.false_or, Bool.not_true, Bool.false_and, Bool.and_false]))
          clear hno' hyes' hyes hv htk hhn hhy q1
          go_wp2
          go_ret
          exact ⟨ret_bool hf.out.symm, m, rfl⟩
        cases h3 : (s.toList == [99, 104, 101, 99, 107])
        rotate_left
        · have hf := Lib.hid (hno'.out (by rw [hv.out, htk.out]; simp only [h0, h1, h2, h3, Bool.true_or, Bool.false_or, Bool.not_true, Bool.false_and, Bool.and_false]))
          clear hno' hyes' hyes hv htk hhn hhy q1
          go_wp2
          go_ret
          exact ⟨ret_bool hf.out.symm, m, rfl⟩
        cases h4 : (s.toList == [105, 110, 102])
        rotate_left
        · have hf := Lib.hid (hno'.out (by rw [hv.out, htk.out]; simp only [h0, h1, h2, h3, h4, Bool.true_or, Bool.false_or, Bool.not_true, Bool.false_and, Bool.and_false]))
          clear hno' hyes' hyes hv htk hhn hhy q1
          go_wp2
          go_ret
          exact ⟨ret_bool hf.out.symm, m, rfl⟩
        have hv2 : Hid (V = (nameB s && !Lib.containsS (l.take k) s)) := Lib.hid (by rw [hv.out, htk.out]; simp only [h0, h1, h2, h3, h4, Bool.or_false, Bool.not_false, Bool.true_and])
        clear hv htk
        cases e1 : nameB s
        · have hf := Lib.hid (hno'.out (by rw [hv2.out, e1]; rfl))
          rw [e1] at q1
          clear hno' hyes' hyes hv2 hhn hhy e1
          go_wp2_with fail
          refine (q1.out _).mono ?_
          rintro e w1 ⟨rfl, rfl⟩
          go_wp2
          go_ret
          exact ⟨ret_bool hf.out.symm, m, rfl⟩
        rw [e1, Bool.true_and] at hv2
        rw [e1] at q1
        clear e1
        go_wp2_with fail
        refine (q1.out _).mono ?_
        rintro e w1 ⟨rfl, rfl⟩
        go_wp2
        clear h0 h1 h2 h3 h4 q1
        go_loopw [4] (fun y wr => ∃ j m2 : Nat, j ≤ k ∧ y = .int .i64 j ∧ Hid (∀ t, t < j → l.getD t e0 ≠ s) ∧ wr = w.drewN m2) (fun y _ => k - (intOf y).toNat)
        case atStart => exact ⟨0, m, Nat.zero_le _, rfl, Lib.hid (fun t ht => by omega), rfl⟩
        case round =>
          obtain ⟨j, m2, hj, rfl, hal2, rfl⟩ := hrel
          by_cases hjk : j < k
          · have hji : (j : Int) < (k : Int) := by omega
            have hjn : (j : Int) < (n : Int) := by omega
            have y0 := hc'.out j (by have := hlen.out; omega)
            have hhy' := Lib.hid (hhy.out j hjk)
            have hal3 : Hid (l.getD j e0 ≠ s → ∀ t, t < j + 1 → l.getD t e0 ≠ s) := Lib.hid (fun h t ht => by
              by_cases e : t = j
              · rw [e]; exact h
              · exact hal2.out t (by omega))
            clear hhy hal2
            generalize l.getD j e0 = u at *
            have g0 : ∀ W, (∃ i, W = w.drewN i) → W.cell? ⟨b, off + k, none⟩ = some (.string s) := fun W hW => by obtain ⟨i, rfl⟩ := hW; exact x0
            have g1 : ∀ W, (∃ i, W = w.drewN i) → W.cell? ⟨b, off + j, none⟩ = some (.string u) := fun W hW => by obtain ⟨i, rfl⟩ := hW; exact y0
            clear y0
            by_cases hus : u = s
            · have hf := Lib.hid (hno'.out (by rw [hv2.out, hhy'.out hus]; rfl))
              have e5 : (u.toList == s.toList) = true := by rw [ptxt_eq]; exact decide_eq_true hus
              clear hno' hyes' hyes hv2 hhn hhy' hal3 hus x0
              go_wp2
              refine wp_drawn_on (fun W => ∃ i, W = w.drewN i) (by kernel_rfl) (⟨m2 + 1, rfl⟩) (fun hHeld => ?_)
              refine wT 0 (v := ?v1) rfl (by kernel_rfl) (fun _ _ _ h => h) ?h1 (by assumption) ?r1
              case h1 => (intro w hSw; (try dsimp only at hSw); go_simp; try with_reducible rfl)
              refine wT 1 (v := ?v2) rfl (by kernel_rfl) (fun _ _ _ h => h) ?h2 (by assumption) ?r2
              case h2 => (intro w hSw; (try dsimp only at hSw); go_simp; try with_reducible rfl)
              refine wT 2 (v := ?v3) rfl (by kernel_rfl) (fun _ _ _ h => h) ?h3 (by assumption) ?r3
              case h3 => (intro w hSw; (try dsimp only at hSw); go_simp; try with_reducible rfl)
              refine wT 3 (v := ?v4) rfl (by kernel_rfl) (fun _ _ _ h => h) ?h4 (by assumption) ?r4
              case h4 => (intro w hSw; (try dsimp only at hSw); go_simp; try with_reducible rfl)
              refine wT 4 (v := ?v5) rfl (by kernel_rfl) (fun _ _ _ h => h) ?h5 (by assumption) ?r5
              case h5 => (intro w hSw; (try dsimp only at hSw); go_simp; try with_reducible rfl)
              refine wT 5 (v := ?v6) rfl (by kernel_rfl) (fun _ _ _ h => h) ?h6 (by assumption) ?r6
              case h6 => (intro w hSw; (try dsimp only at hSw); go_simp; try with_reducible rfl)
              refine wT 6 (v := ?v7) rfl (by kernel_rfl) (fun _ _ _ h => h) ?h7 (by assumption) ?r7
              case h7 => (intro w hSw; (try dsimp only at hSw); go_simp; try with_reducible rfl)
              refine wT 7 (v := ?v8) rfl (by kernel_rfl) (fun _ _ _ h => h) ?h8 (by assumption) ?r8
              case h8 => (intro w hSw; (try dsimp only at hSw); go_simp; try with_reducible rfl)
              refine wT 8 (v := ?v9) rfl (by kernel_rfl) (fun _ _ _ h => h) ?h9 (by assumption) ?r9
              case h9 => (intro w hSw; (try dsimp only at hSw); go_simp; try with_reducible rfl)
              try simp only [Act.put, List.setIfInBounds_toArray, List.set_cons_zero, List.set_cons_succ]
              refine wpAnyH_done (by kernel_rfl) ?_ _
              clear g0 g1
              go_wp2
              go_ret
              exact ⟨ret_bool hf.out.symm, m2 + 1, rfl⟩
            · have hg := Lib.hid (hal3.out hus)
              have e5 : (u.toList == s.toList) = false := by rw [ptxt_eq]; exact decide_eq_false hus
              clear hhy' hal3 hus
              go_wp2
              refine wp_drawn_on (fun W => ∃ i, W = w.drewN i) (by kernel_rfl) (⟨m2 + 1, rfl⟩) (fun hHeld => ?_)
              refine wT 0 (v := ?v10) rfl (by kernel_rfl) (fun _ _ _ h => h) ?h10 (by assumption) ?r10
              case h10 => (intro w hSw; (try dsimp only at hSw); go_simp; try with_reducible rfl)
              refine wT 1 (v := ?v11) rfl (by kernel_rfl) (fun _ _ _ h => h) ?h11 (by assumption) ?r11
              case h11 => (intro w hSw; (try dsimp only at hSw); go_simp; try with_reducible rfl)
              refine wT 2 (v := ?v12) rfl (by kernel_rfl) (fun _ _ _ h => h) ?h12 (by assumption) ?r12
              case h12 => (intro w hSw; (try dsimp only at hSw); go_simp; try with_reducible rfl)
              refine wT 3 (v := ?v13) rfl (by kernel_rfl) (fun _ _ _ h => h) ?h13 (by assumption) ?r13
              case h13 => (intro w hSw; (try dsimp only at hSw); go_simp; try with_reducible rfl)
              refine wT 4 (v := ?v14) rfl (by kernel_rfl) (fun _ _ _ h => h) ?h14 (by assumption) ?r14
              case h14 => (intro w hSw; (try dsimp only at hSw); go_simp; try with_reducible rfl)
              refine wT 5 (v := ?v15) rfl (by kernel_rfl) (fun _ _ _ h => h) ?h15 (by assumption) ?r15
              case h15 => (intro w hSw; (try dsimp only at hSw); go_simp; try with_reducible rfl)
              refine wT 6 (v := ?v16) rfl (by kernel_rfl) (fun _ _ _ h => h) ?h16 (by assumption) ?r16
              case h16 => (intro w hSw; (try dsimp only at hSw); go_simp; try with_reducible rfl)
              refine wT 7 (v := ?v17) rfl (by kernel_rfl) (fun _ _ _ h => h) ?h17 (by assumption) ?r17
              case h17 => (intro w hSw; (try dsimp only at hSw); go_simp; try with_reducible rfl)
              refine wT 8 (v := ?v18) rfl (by kernel_rfl) (fun _ _ _ h => h) ?h18 (by assumption) ?r18
              case h18 => (intro w hSw; (try dsimp only at hSw); go_simp; try with_reducible rfl)
              try simp only [Act.put, List.setIfInBounds_toArray, List.set_cons_zero, List.set_cons_succ]
              refine wpAnyH_done (by kernel_rfl) ?_ _
              clear g0 g1
              go_wp2
              go_roundw
              case rel => exact ⟨j + 1, m2 + 1, by omega, by go_num, hg, rfl⟩
              case measure => simp [intOf]; omega
          · have hji : ¬ (j : Int) < (k : Int) := by omega
            have hg := Lib.hid (hyes'.out (by rw [hv2.out, hhn.out (fun t ht => hal2.out t (by omega))]; rfl))
            clear hhn hhy hal2 hyes' hno' hv2
            go_wp2
            go_roundw
            case rel => exact ⟨k + 1, m2, by omega, by go_num, hg, rfl⟩
            case measure => simp [intOf]; omega
      · have hki : ¬ (k : Int) < (n : Int) := by omega
        have hf := Lib.hid (hyes.out (fun t ht => hal.out t (by rw [← hlen.out] at ht; omega)))
        clear hyes hno hal
        go_wp2
        go_ret
        exact ⟨ret_bool hf.out.symm, m, rfl⟩
  · have h8i : (8 : Int) < (n : Int) := by omega
    have hR := Lib.hid (vars_long (l := l) (by omega))
    clear h hn
    generalize varsB l = R at *
    go_enter Tryz.func90, Tryz.ntmps90
    go_wp2
    go_ret
    exact ⟨ret_bool hR.out.symm, 0, rfl⟩
end Go.Proofs.YtimgocfkogebmaaGreatDoor
