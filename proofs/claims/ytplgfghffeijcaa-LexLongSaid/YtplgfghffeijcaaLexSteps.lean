/- The scanner's steps: what a take function tells and leaves. -/
import Derived.Test.YtplgfghffeijcaaLexTake
import Derived.Laws.EntriesVeiled
namespace Go.Proofs.Ytplgfghffeijcaa
open Go.RowKit
set_option linter.unusedVariables false
set_option linter.unusedSimpArgs false

theorem info_state : (Try.prog.info? 45).map (·.size) = some 1 := by kernel_rfl
theorem state_ret {Q : Ending → World → Prop} {w : World} {g : Nat} {x : Value} (hg : Holds w g 45 #[x]) (hQ : Q (.returned (.agg #[x])) w) (act : Act) (f : Func) (n : Nat) (hf : f.results = #[.cell n 45]) (ha : act.tmps.getD n undef = .pointer (some ⟨g, 0, none⟩)) (hd : act.defers = []) :
    bodyPost Try.prog f Q Exit.ret act w :=
  bodyPost_ret (results_cell_row hf _ _ g 45 #[x] (0, 0) _ ha hg Try.underlying45 rfl (by rw [info_state]; rfl)) hd hQ
/-- The function of a state. -/
def fnV : Option Md → Value
  | none => .nilFunc
  | some .beg => .func (.func 19) #[] #[]
  | some .wrd => .func (.func 32) #[] #[]
  | some .quo => .func (.func 31) #[] #[]
  | some .esc => .func (.func 37) #[] #[]
  | some .beh => .func (.func 36) #[] #[]
def TakeE (r : Option Md × Sg) (g : Nat) (F : List Nat) (w : World) (e : Ending) (w' : World) : Prop := e = .returned (.agg #[fnV r.1]) ∧ ∃ F', SkE w' g F' r.2 ∧ Turns F F' w w'
theorem Turns.new {F F' : List Nat} {w w' : World} (h : Turns F F' w w') {r : Nat} (hr : r < w.heap.size) (hF : r ∉ F) : r ∉ F' := fun hm => by
  rcases h.2 r hm with h1 | h1
  · exact hF h1
  · omega
/-- What the result's block holds ahead of the last store; behind it. -/
theorem take_fin {w w' : World} {g : Nat} {F F' : List Nat} {s : Sg} (hF : ∀ y ∈ F, y < w.heap.size) (ht : Turns F F' (w.alloc (.cells #[.nilFunc] 45)) w') (hs : SkE w' g F' s) :
    w'.cell? ⟨w.heap.size, 0, none⟩ = some .nilFunc ∧ w'.frozen? ⟨w.heap.size, 0, none⟩ = false ∧
    ∀ m, Holds (w'.setCell ⟨w.heap.size, 0, none⟩ (fnV m)) w.heap.size 45 #[fnV m] ∧ TakeE (m, s) g F w (.returned (.agg #[fnV m])) (w'.setCell ⟨w.heap.size, 0, none⟩ (fnV m)) := by
  have hr : w.heap.size ∉ F := fun h => by have := hF _ h; omega
  have h0 := Holds.new w 45 #[.nilFunc]
  have h1 := h0.belowE ht.1 h0.lt hr
  have hn := ht.new h0.lt hr
  refine ⟨h1.cell 0, h1.free 0, fun m => ⟨by simpa using h1.set 0 (fnV m), rfl, F', hs.belowE ((BelowE.refl [w.heap.size] _ _).setIn (p := ⟨w.heap.size, 0, none⟩) (by simp) _) (fun x hx => by simp; intro e; exact hn (e ▸ hx)), ?_⟩⟩
  have hb : Turns F F' w w' := Turns.before (lit_below _ _) ht
  exact ⟨hb.1.setNew (p := ⟨w.heap.size, 0, none⟩) (Nat.le_refl _) _, hb.2⟩
/-- One byte more of a text: behind the append and the store. -/
theorem push_fin {w w1 : World} {g : Nat} {F : List Nat} {vl vt v' : Value} {s : Sg} {c : Int} (h : Sk w g F vl vt s) (hg : w.grownBy w1 vt.ownBlock) (ho : w1.ownsRow 0 5 1 v' (s.T.length + 1) (nums .u8 s.T ++ [.int .u8 c])) (hv : v'.ownBlock = vt.ownBlock ∨ v'.ownBlock = some w.heap.size) :
    ∃ F', SkE (w1.setCell ⟨g, 5, none⟩ v') g F' (s.push c) ∧ Turns F F' w (w1.setCell ⟨g, 5, none⟩ v') ∧ w1.cell? ⟨g, 5, none⟩ = some vt ∧ w1.frozen? ⟨g, 5, none⟩ = false := by
  have H1 : Holds w1 g 42 _ := (hg.block g h.h.lt (fun e => (h.t_in g e.symm).2 rfl)).trans h.h
  have H2 := H1.set 5 v'
  obtain ⟨F', a, b⟩ := h.text (s' := s.push c) hg (by simpa [Sg.push, nums_snoc] using ho) hv ((BelowE.refl [g] _ _).setIn (p := ⟨g, 5, none⟩) (by simp) _) rfl (by simpa [Sg.push] using H2)
  exact ⟨F', ⟨_, _, a⟩, b, H1.cell 5, H1.free 5⟩
theorem u8_in {c : Int} (h : prB c = true) : IntKind.u8.wrap c = c := by
  unfold prB at h
  rw [Bool.and_eq_true, decide_eq_true_eq, decide_eq_true_eq] at h
  simp [IntKind.wrap, IntKind.bits, IntKind.signed]
  omega
theorem wd_pr {c : Int} (h : wdB c = true) : prB c = true := by unfold wdB at h; rw [Bool.and_eq_true] at h; exact h.1
set_option maxRecDepth 100000 in
set_option maxHeartbeats 1000000 in
theorem word_push (s : Sg) (c : Int) (g : Nat) (F : List Nat) (w : World) (hT : s.T.length ≤ 4000000) (hc : prB c = true) (hw : wdB c = true) (h : SkE w g F s) : Calls Try.prog 32 #[.pointer (some ⟨g, 0, none⟩), .int .i32 c] w (TakeE (some .wrd, s.push c) g F w) := by
  obtain ⟨vl, vt, h⟩ := h
  obtain ⟨i0, hi, hz0, hz1, hz2⟩ := info_parts infoU8
  obtain ⟨a, cap, hvt, -, -, -⟩ := seesC_own h.ot
  subst hvt
  have hu := u8_in hc
  have hF := Lib.hid h.lt
  have hTT := Lib.hid hT
  have B1 := lit_below w (.cells #[.nilFunc] 45)
  have K1 := h.below B1
  have B2 := lit_below (w.alloc (.cells #[.nilFunc] 45)) (.cells #[.int .u8 c] 5)
  have K2 := Lib.hid (K1.below B2)
  have C2 := seesC_lit (w.alloc (.cells #[.nilFunc] 45)) 5 #[.int .u8 c]
  rw [show (w.alloc (.cells #[.nilFunc] 45)).heap.size = w.heap.size + 1 by simp] at C2
  have C2 := Lib.hid C2
  have k5 := h.h.cell 5
  have hlt := h.h.lt
  have hwr := Lib.hid (fun w => wordRune_any c w)
  rw [hw] at hwr
  clear hw
  clear h K1 B1 B2 hT hc
  go_enter Try.func32, Try.ntmps32
  go_wp2_with fail
  refine (hwr.out _).mono ?_
  rintro e w' ⟨rfl, rfl⟩
  clear hwr
  go_wp2_with (at_builtin; refine wpList_append_cells _ rfl (.tmp 11) (.tmp 14) 38 rfl 5 i0 (.int .u8 0) 1 1 Try.underlying38 hi hz0 hz1 hz2 rfl (by omega) (.slice a s.T.length cap) s.T.length (nums .u8 s.T) K2.out.ot _ _ 1 1 [.int .u8 c] rfl C2.out (by intro u hu; simp at hu; subst hu; rfl) (by simp) rfl rfl (by have := hTT.out; unfold maxLen; omega) (by have := hTT.out; omega) ?_; intro v10 u10 o10 g10 b10; obtain ⟨a10, c10, rfl, -, -, -⟩ := seesC_own o10; obtain ⟨F', q1, q2, q3, q4⟩ := push_fin K2.out g10 o10 b10; obtain ⟨r1, r2, r3⟩ := take_fin hF.out (Turns.before (lit_below _ _) q2) q1; have R3 := Lib.hid r3; clear r3 q1 q2 o10 g10 b10 k5 hlt)
  exact state_ret (R3.out (some .wrd)).1 (R3.out (some .wrd)).2 _ _ 4 rfl rfl rfl
set_option maxRecDepth 100000 in
set_option maxHeartbeats 1000000 in
theorem quoted_push (s : Sg) (c : Int) (g : Nat) (F : List Nat) (w : World) (hT : s.T.length ≤ 4000000) (hc : prB c = true) (h1 : ¬ c = 34) (h2 : ¬ c = 92) (h : SkE w g F s) : Calls Try.prog 31 #[.pointer (some ⟨g, 0, none⟩), .int .i32 c] w (TakeE (some .quo, s.push c) g F w) := by
  obtain ⟨vl, vt, h⟩ := h
  obtain ⟨i0, hi, hz0, hz1, hz2⟩ := info_parts infoU8
  obtain ⟨a, cap, hvt, -, -, -⟩ := seesC_own h.ot
  subst hvt
  have hu := u8_in hc
  have hF := Lib.hid h.lt
  have hTT := Lib.hid hT
  have B1 := lit_below w (.cells #[.nilFunc] 45)
  have K1 := h.below B1
  have B2 := lit_below (w.alloc (.cells #[.nilFunc] 45)) (.cells #[.int .u8 c] 5)
  have K2 := Lib.hid (K1.below B2)
  have C2 := seesC_lit (w.alloc (.cells #[.nilFunc] 45)) 5 #[.int .u8 c]
  rw [show (w.alloc (.cells #[.nilFunc] 45)).heap.size = w.heap.size + 1 by simp] at C2
  have C2 := Lib.hid C2
  have k5 := h.h.cell 5
  have hlt := h.h.lt
  have hpr := Lib.hid (fun w => printed_any c w)
  rw [hc] at hpr
  have e1 : (c == 34) = false := by simpa using h1
  have e2 : (c == 92) = false := by simpa using h2
  clear h K1 B1 B2 hT hc
  go_enter Try.func31, Try.ntmps31
  go_wp2_with fail
  refine (hpr.out _).mono ?_
  rintro e w' ⟨rfl, rfl⟩
  clear hpr
  go_wp2_with (at_builtin; refine wpList_append_cells _ rfl (.tmp 22) (.tmp 25) 38 rfl 5 i0 (.int .u8 0) 1 1 Try.underlying38 hi hz0 hz1 hz2 rfl (by omega) (.slice a s.T.length cap) s.T.length (nums .u8 s.T) K2.out.ot _ _ 1 1 [.int .u8 c] rfl C2.out (by intro u hu; simp at hu; subst hu; rfl) (by simp) rfl rfl (by have := hTT.out; unfold maxLen; omega) (by have := hTT.out; omega) ?_; intro v10 u10 o10 g10 b10; obtain ⟨a10, c10, rfl, -, -, -⟩ := seesC_own o10; obtain ⟨F', q1, q2, q3, q4⟩ := push_fin K2.out g10 o10 b10; obtain ⟨r1, r2, r3⟩ := take_fin hF.out (Turns.before (lit_below _ _) q2) q1; have R3 := Lib.hid r3; clear r3 q1 q2 o10 g10 b10 k5 hlt)
  exact state_ret (R3.out (some .quo)).1 (R3.out (some .quo)).2 _ _ 4 rfl rfl rfl
set_option maxRecDepth 100000 in
set_option maxHeartbeats 1000000 in
theorem escaped_push (s : Sg) (c : Int) (g : Nat) (F : List Nat) (w : World) (hT : s.T.length ≤ 4000000) (hc : prB c = true) (h1 : c = 34 ∨ c = 92) (h : SkE w g F s) : Calls Try.prog 37 #[.pointer (some ⟨g, 0, none⟩), .int .i32 c] w (TakeE (some .quo, s.push c) g F w) := by
  obtain ⟨vl, vt, h⟩ := h
  obtain ⟨i0, hi, hz0, hz1, hz2⟩ := info_parts infoU8
  obtain ⟨a, cap, hvt, -, -, -⟩ := seesC_own h.ot
  subst hvt
  have hu := u8_in hc
  have hF := Lib.hid h.lt
  have hTT := Lib.hid hT
  have B1 := lit_below w (.cells #[.nilFunc] 45)
  have K1 := h.below B1
  have B2 := lit_below (w.alloc (.cells #[.nilFunc] 45)) (.cells #[.int .u8 c] 5)
  have K2 := Lib.hid (K1.below B2)
  have C2 := seesC_lit (w.alloc (.cells #[.nilFunc] 45)) 5 #[.int .u8 c]
  rw [show (w.alloc (.cells #[.nilFunc] 45)).heap.size = w.heap.size + 1 by simp] at C2
  have C2 := Lib.hid C2
  have k5 := h.h.cell 5
  have hlt := h.h.lt
  have e1 : (c != 34) = false ∨ (c != 34) = true ∧ (c != 92) = false := by rcases h1 with rfl | rfl <;> decide
  clear h K1 B1 B2 hT hc
  clear h1
  rcases e1 with e1 | ⟨e1, e2⟩
  all_goals
   go_enter Try.func37, Try.ntmps37
   go_wp2_with (at_builtin; refine wpList_append_cells _ rfl (.tmp 16) (.tmp 19) 38 rfl 5 i0 (.int .u8 0) 1 1 Try.underlying38 hi hz0 hz1 hz2 rfl (by omega) (.slice a s.T.length cap) s.T.length (nums .u8 s.T) K2.out.ot _ _ 1 1 [.int .u8 c] rfl C2.out (by intro u hu; simp at hu; subst hu; rfl) (by simp) rfl rfl (by have := hTT.out; unfold maxLen; omega) (by have := hTT.out; omega) ?_; intro v10 u10 o10 g10 b10; obtain ⟨a10, c10, rfl, -, -, -⟩ := seesC_own o10; obtain ⟨F', q1, q2, q3, q4⟩ := push_fin K2.out g10 o10 b10; obtain ⟨r1, r2, r3⟩ := take_fin hF.out (Turns.before (lit_below _ _) q2) q1; have R3 := Lib.hid r3; clear r3 q1 q2 o10 g10 b10 k5 hlt)
   exact state_ret (R3.out (some .quo)).1 (R3.out (some .quo)).2 _ _ 4 rfl rfl rfl
end Go.Proofs.Ytplgfghffeijcaa
