/- The take functions, whole. -/
import Derived.Test.YtplgfghffeijcaaLexSteps
namespace Go.Proofs.Ytplgfghffeijcaa
open Go.RowKit
set_option linter.unusedVariables false
set_option linter.unusedSimpArgs false

/-- A call of the scanner's own behind the result's block. -/
theorem left_after {w w' : World} {g : Nat} {F : List Nat} {s : Sg} {e : Ending} (h : Left s g F w e w') : e = .returned (.tuple #[]) ∧ ∃ F', SkE w' g F' s ∧ Turns F F' w w' := h
theorem take_now {w : World} {g : Nat} {F : List Nat} {s : Sg} (h : SkE w g F s) (m : Option Md) : Holds (w.alloc (.cells #[fnV m] 45)) w.heap.size 45 #[fnV m] ∧ TakeE (m, s) g F w (.returned (.agg #[fnV m])) (w.alloc (.cells #[fnV m] 45)) :=
  ⟨Holds.new _ _ _, rfl, F, h.below (lit_below _ _), Turns.none F (lit_below _ _)⟩
theorem sk_lt {w : World} {g : Nat} {F : List Nat} {s : Sg} (h : SkE w g F s) : ∀ y ∈ F, y < w.heap.size := by obtain ⟨_, _, h⟩ := h; exact h.lt
set_option maxRecDepth 100000 in
set_option maxHeartbeats 1000000 in
theorem behind_any (s : Sg) (c : Int) (g : Nat) (F : List Nat) (w : World) (hL : s.L.length ≤ 3000000) (h : SkE w g F s) : Calls Try.prog 36 #[.pointer (some ⟨g, 0, none⟩), .int .i32 c] w (TakeE (behS s c) g F w) := by
  have hF := Lib.hid (sk_lt h)
  have B1 := lit_below w (.cells #[.nilFunc] 45)
  have K1 := Lib.hid (h.below B1)
  have hst := Lib.hid (fun W F' (hs : SkE W g F' s) => start_any 3 s g F' W hs)
  have hdn := Lib.hid (fun W F' (hs : SkE W g F' (s.start 3)) => done_any (s.start 3) g F' W (by show s.L.length ≤ _; omega) hs)
  unfold behS
  by_cases h1 : c = 32
  · rw [if_pos h1]
    have e1 : (c == 32) = true := by simpa using h1
    have R3 := Lib.hid (take_now h (some .beg))
    clear h1 h K1 B1 hst hdn
    go_enter Try.func36, Try.ntmps36
    go_wp2
    exact state_ret R3.out.1 R3.out.2 _ _ 4 rfl rfl rfl
  · rw [if_neg h1]
    have e1 : (c == 32) = false := by simpa using h1
    by_cases h2 : c = 10
    · rw [if_pos h2]
      have e2 : (c == 10) = true := by simpa using h2
      have q := Lib.hid (hst.out _ F K1.out)
      clear h1 h2 h B1 hst
      generalize s.start 3 = s3 at *
      go_enter Try.func36, Try.ntmps36
      go_wp2_with fail
      refine q.out.mono ?_
      rintro e w1 ⟨rfl, F1, k1, t1⟩
      have q2 := Lib.hid (hdn.out w1 F1 k1)
      have T1 := Lib.hid t1
      clear q hdn k1 t1
      go_wp2_with fail
      refine q2.out.mono ?_
      rintro e w2 ⟨rfl, F2, k2, t2⟩
      obtain ⟨r1, r2, r3⟩ := take_fin hF.out (T1.out.trans t2) k2
      have R3 := Lib.hid (r3 (some .beg))
      clear r3 q2 k2 t2
      go_wp2
      exact state_ret R3.out.1 R3.out.2 _ _ 4 rfl rfl rfl
    · rw [if_neg h2]
      have e2 : (c == 10) = false := by simpa using h2
      have R3 := Lib.hid (take_now h none)
      clear h1 h2 h K1 B1 hst hdn
      go_enter Try.func36, Try.ntmps36
      go_wp2
      exact state_ret R3.out.1 R3.out.2 _ _ 4 rfl rfl rfl
set_option maxRecDepth 100000 in
set_option maxHeartbeats 1000000 in
theorem word_any (s : Sg) (c : Int) (g : Nat) (F : List Nat) (w : World) (hL : s.L.length ≤ 2500000) (hT : s.T.length ≤ 4000000) (h : SkE w g F s) : Calls Try.prog 32 #[.pointer (some ⟨g, 0, none⟩), .int .i32 c] w (TakeE (wrdS s c) g F w) := by
  unfold wrdS
  cases hw : wdB c
  · rw [if_neg (by simp)]
    have hF := Lib.hid (sk_lt h)
    have B1 := lit_below w (.cells #[.nilFunc] 45)
    have K1 := Lib.hid (h.below B1)
    have hwr := Lib.hid (fun w => wordRune_any c w)
    rw [hw] at hwr
    have hdn := Lib.hid (fun W F' (hs : SkE W g F' s) => done_any s g F' W (by omega) hs)
    have hbe := Lib.hid (fun W F' s' (hl : s'.L.length ≤ 3000000) (hs : SkE W g F' s') => behind_any s' c g F' W hl hs)
    by_cases h1 : c = 32 ∨ c = 10
    · rw [if_pos h1]
      have e1 : (c == 32) = true ∨ (c == 32) = false ∧ (c == 10) = true := by rcases h1 with rfl | rfl <;> decide
      have hl : s.done.L.length ≤ 3000000 := by unfold Sg.done; simp; omega
      have hb2 := Lib.hid (fun W F' => hbe.out W F' s.done hl)
      clear h1 h hw B1 hbe hl
      generalize s.done = s3 at *
      rcases e1 with e1 | ⟨e1, e2⟩
      all_goals
        go_enter Try.func32, Try.ntmps32
        go_wp2_with fail
        refine (hwr.out _).mono ?_
        rintro e w' ⟨rfl, rfl⟩
        have q := Lib.hid (hdn.out _ F K1.out)
        clear hwr hdn
        go_wp2_with fail
        refine q.out.mono ?_
        rintro e w1 ⟨rfl, F1, k1, t1⟩
        have q2 := Lib.hid (hb2.out w1 F1 k1)
        have T1 := Lib.hid t1
        clear q k1 t1
        go_wp2_with fail
        refine q2.out.mono ?_
        rintro e w2 ⟨rfl, F2, k2, t2⟩
        obtain ⟨r1, r2, r3⟩ := take_fin hF.out (T1.out.trans t2) k2
        have R3 := Lib.hid (r3 (behS s3 c).1)
        clear r3 q2 k2 t2
        generalize behS s3 c = p at *
        obtain ⟨pm, ps⟩ := p
        cases pm with
        | none => dsimp only [fnV] at R3 ⊢; go_wp2; exact state_ret R3.out.1 R3.out.2 _ _ 4 rfl rfl rfl
        | some m => cases m <;> (dsimp only [fnV] at R3 ⊢; go_wp2; exact state_ret R3.out.1 R3.out.2 _ _ 4 rfl rfl rfl)
    · rw [if_neg h1]
      have e1 : (c == 32) = false := by simp; omega
      have e2 : (c == 10) = false := by simp; omega
      have q := Lib.hid (hbe.out _ F s (by omega) K1.out)
      clear h1 h hw B1 hbe hdn
      go_enter Try.func32, Try.ntmps32
      go_wp2_with fail
      refine (hwr.out _).mono ?_
      rintro e w' ⟨rfl, rfl⟩
      clear hwr
      go_wp2_with fail
      refine q.out.mono ?_
      rintro e w2 ⟨rfl, F2, k2, t2⟩
      obtain ⟨r1, r2, r3⟩ := take_fin hF.out t2 k2
      have R3 := Lib.hid (r3 (behS s c).1)
      clear r3 q k2 t2
      generalize behS s c = p at *
      obtain ⟨pm, ps⟩ := p
      cases pm with
      | none => dsimp only [fnV] at R3 ⊢; go_wp2; exact state_ret R3.out.1 R3.out.2 _ _ 4 rfl rfl rfl
      | some m => cases m <;> (dsimp only [fnV] at R3 ⊢; go_wp2; exact state_ret R3.out.1 R3.out.2 _ _ 4 rfl rfl rfl)
  · rw [if_pos rfl]
    exact word_push s c g F w hT (wd_pr hw) hw h
set_option maxRecDepth 100000 in
set_option maxHeartbeats 1000000 in
theorem begin_any (s : Sg) (c : Int) (g : Nat) (F : List Nat) (w : World) (h : SkE w g F s) : Calls Try.prog 19 #[.pointer (some ⟨g, 0, none⟩), .int .i32 c] w (TakeE (begS s c) g F w) := by
  have hF := Lib.hid (sk_lt h)
  have B1 := lit_below w (.cells #[.nilFunc] 45)
  have K1 := Lib.hid (h.below B1)
  have hs1 := Lib.hid (fun W F' (hs : SkE W g F' s) => start_any 1 s g F' W hs)
  have hs2 := Lib.hid (fun W F' (hs : SkE W g F' s) => start_any 2 s g F' W hs)
  have hwr := Lib.hid (fun w => wordRune_any c w)
  unfold begS
  by_cases h1 : c = 34
  · rw [if_pos h1]
    have e1 : (c == 34) = true := by simpa using h1
    have q := Lib.hid (hs2.out _ F K1.out)
    clear h1 h B1 hs1 hs2 hwr
    generalize s.start 2 = s3 at *
    go_enter Try.func19, Try.ntmps19
    go_wp2_with fail
    refine q.out.mono ?_
    rintro e w1 ⟨rfl, F1, k1, t1⟩
    obtain ⟨r1, r2, r3⟩ := take_fin hF.out t1 k1
    have R3 := Lib.hid (r3 (some .quo))
    clear r3 q k1 t1
    go_wp2
    exact state_ret R3.out.1 R3.out.2 _ _ 4 rfl rfl rfl
  · rw [if_neg h1]
    have e1 : (c == 34) = false := by simpa using h1
    cases hw : wdB c
    · rw [if_neg (by simp)]
      rw [hw] at hwr
      have R3 := Lib.hid (take_now h none)
      clear h1 h K1 B1 hs1 hs2 hw
      go_enter Try.func19, Try.ntmps19
      go_wp2_with fail
      refine (hwr.out _).mono ?_
      rintro e w' ⟨rfl, rfl⟩
      go_wp2
      exact state_ret R3.out.1 R3.out.2 _ _ 4 rfl rfl rfl
    · rw [if_pos rfl]
      rw [hw] at hwr
      have q := Lib.hid (hs1.out _ F K1.out)
      have hpu := Lib.hid (fun W F' (hs : SkE W g F' (s.start 1)) => word_push (s.start 1) c g F' W (by simp [Sg.start]) (wd_pr hw) hw hs)
      clear h1 h B1 hs1 hs2 hw
      generalize (s.start 1).push c = s4 at *
      generalize s.start 1 = s3 at *
      go_enter Try.func19, Try.ntmps19
      go_wp2_with fail
      refine (hwr.out _).mono ?_
      rintro e w' ⟨rfl, rfl⟩
      clear hwr
      go_wp2_with fail
      refine q.out.mono ?_
      rintro e w1 ⟨rfl, F1, k1, t1⟩
      have q2 := Lib.hid (hpu.out w1 F1 k1)
      have T1 := Lib.hid t1
      clear q k1 t1 hpu
      go_wp2_with fail
      refine q2.out.mono ?_
      rintro e w2 ⟨rfl, F2, k2, t2⟩
      obtain ⟨r1, r2, r3⟩ := take_fin hF.out (T1.out.trans t2) k2
      have R3 := Lib.hid (r3 (some .wrd))
      clear r3 q2 k2 t2
      dsimp only [fnV] at R3 ⊢
      go_wp2
      exact state_ret R3.out.1 R3.out.2 _ _ 4 rfl rfl rfl
set_option maxRecDepth 100000 in
set_option maxHeartbeats 1000000 in
theorem quoted_any (s : Sg) (c : Int) (g : Nat) (F : List Nat) (w : World) (hL : s.L.length ≤ 3000000) (hT : s.T.length ≤ 4000000) (h : SkE w g F s) : Calls Try.prog 31 #[.pointer (some ⟨g, 0, none⟩), .int .i32 c] w (TakeE (quoS s c) g F w) := by
  have hF := Lib.hid (sk_lt h)
  have B1 := lit_below w (.cells #[.nilFunc] 45)
  have K1 := Lib.hid (h.below B1)
  have hdn := Lib.hid (fun W F' (hs : SkE W g F' s) => done_any s g F' W (by omega) hs)
  have hpr := Lib.hid (fun w => printed_any c w)
  unfold quoS
  by_cases h1 : c = 34
  · rw [if_pos h1]
    have e1 : (c == 34) = true := by simpa using h1
    have q := Lib.hid (hdn.out _ F K1.out)
    clear h1 h B1 hdn hpr
    generalize s.done = s3 at *
    go_enter Try.func31, Try.ntmps31
    go_wp2_with fail
    refine q.out.mono ?_
    rintro e w1 ⟨rfl, F1, k1, t1⟩
    obtain ⟨r1, r2, r3⟩ := take_fin hF.out t1 k1
    have R3 := Lib.hid (r3 (some .beh))
    clear r3 q k1 t1
    go_wp2
    exact state_ret R3.out.1 R3.out.2 _ _ 4 rfl rfl rfl
  · rw [if_neg h1]
    have e1 : (c == 34) = false := by simpa using h1
    by_cases h2 : c = 92
    · rw [if_pos h2]
      have e2 : (c == 92) = true := by simpa using h2
      have R3 := Lib.hid (take_now h (some .esc))
      clear h1 h2 h K1 B1 hdn hpr
      go_enter Try.func31, Try.ntmps31
      go_wp2
      exact state_ret R3.out.1 R3.out.2 _ _ 4 rfl rfl rfl
    · rw [if_neg h2]
      have e2 : (c == 92) = false := by simpa using h2
      cases hp : prB c
      · rw [if_neg (by simp)]
        rw [hp] at hpr
        have R3 := Lib.hid (take_now h none)
        clear h1 h2 h K1 B1 hdn hp
        go_enter Try.func31, Try.ntmps31
        go_wp2_with fail
        refine (hpr.out _).mono ?_
        rintro e w' ⟨rfl, rfl⟩
        go_wp2
        exact state_ret R3.out.1 R3.out.2 _ _ 4 rfl rfl rfl
      · rw [if_pos rfl]
        exact quoted_push s c g F w hT hp h1 h2 h
set_option maxRecDepth 100000 in
set_option maxHeartbeats 1000000 in
theorem escaped_any (s : Sg) (c : Int) (g : Nat) (F : List Nat) (w : World) (hT : s.T.length ≤ 4000000) (h : SkE w g F s) : Calls Try.prog 37 #[.pointer (some ⟨g, 0, none⟩), .int .i32 c] w (TakeE (escS s c) g F w) := by
  unfold escS
  by_cases h1 : c = 34 ∨ c = 92
  · rw [if_pos h1]
    exact escaped_push s c g F w hT (by rcases h1 with rfl | rfl <;> decide) h1 h
  · rw [if_neg h1]
    have hF := Lib.hid (sk_lt h)
    have B1 := lit_below w (.cells #[.nilFunc] 45)
    have K1 := Lib.hid (h.below B1)
    have e1 : (c != 34) = true := by simp; omega
    have e2 : (c != 92) = true := by simp; omega
    have R3 := Lib.hid (take_now h none)
    clear h1 h K1 B1
    go_enter Try.func37, Try.ntmps37
    go_wp2
    exact state_ret R3.out.1 R3.out.2 _ _ 4 rfl rfl rfl
/-- A state's function, whichever. -/
theorem take_any (m : Md) (s : Sg) (c : Int) (g : Nat) (F : List Nat) (w : World) (hL : s.L.length ≤ 2500000) (hT : s.T.length ≤ 4000000) (h : SkE w g F s) :
    ∀ f, fnV (some m) = .func (.func f) #[] #[] → Calls Try.prog f #[.pointer (some ⟨g, 0, none⟩), .int .i32 c] w (TakeE (takeS m s c) g F w) := by
  intro f hf
  cases m
  · cases hf; exact begin_any s c g F w h
  · cases hf; exact word_any s c g F w hL hT h
  · cases hf; exact quoted_any s c g F w (by omega) hT h
  · cases hf; exact escaped_any s c g F w hT h
  · cases hf; exact behind_any s c g F w (by omega) h
end Go.Proofs.Ytplgfghffeijcaa
