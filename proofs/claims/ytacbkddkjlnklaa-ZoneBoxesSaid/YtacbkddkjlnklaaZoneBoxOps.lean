/- Intervals: Has, the document's Of and Plain, its zone of intervals; too many intervals. -/
import Derived.Test.YtacbkddkjlnklaaZoneHasOps
import Derived.Test.YtacbkddkjlnklaaZoneBoxMath
namespace Go.Proofs.Ytacbkddkjlnklaa
open Go.RowKit
set_option linter.unusedVariables false
set_option linter.unusedSimpArgs false

theorem clip_far (x : Int) : (x == clipV x) = !farB x := by
  unfold clipV farB
  by_cases h1 : 1099511627776 < x
  · rw [if_pos h1, decide_eq_true h1]; simp; omega
  · rw [if_neg h1, decide_eq_false h1]
    by_cases h2 : x < -1099511627776
    · rw [if_pos h2, decide_eq_true h2]; simp; omega
    · rw [if_neg h2, decide_eq_false h2]; simp
theorem vis_any (x : Int) (w : World) : Calls Try.prog 68 #[.int .i64 x] w (Tells (.bool (!farB x)) w) := by
  have c1 := Lib.hid (fun w => vclip_any x w)
  have e := Lib.hid (clip_far x)
  rw [← clip_far]
  generalize clipV x = y at *
  clear e
  go_enter Try.func68, Try.ntmps68
  go_wp2_with fail
  refine (c1.out _).mono ?_
  rintro e w' ⟨rfl, rfl⟩
  go_wp2
  go_ret
  exact ⟨rfl, rfl⟩
theorem ihas_any (p : Int × Int) (x : Int) (w : World) : Calls Try.prog 33 #[.agg #[.int .i64 p.1, .int .i64 p.2], .int .i64 x] w (Gives (.bool (itvB p x)) w) := by
  have c1 := Lib.hid (fun w => vis_any x w)
  have bw := Lib.hid (box_below w #[.int .i64 p.1, .int .i64 p.2] 38)
  unfold itvB
  obtain ⟨a, b⟩ := p
  cases hf : farB x
  · rw [hf] at c1
    rw [Bool.not_false] at c1 ⊢
    rw [Bool.true_and]
    clear hf
    by_cases h1 : a ≤ x
    · rw [decide_eq_true h1, Bool.true_and]
      go_enter Try.func33, Try.ntmps33
      go_wp2_with fail
      refine (c1.out _).mono ?_
      rintro e w' ⟨rfl, rfl⟩
      go_wp2
      go_ret
      exact ⟨rfl, bw.out⟩
    · have h2 : decide (a ≤ x) = false := decide_eq_false h1
      rw [h2, Bool.false_and]
      go_enter Try.func33, Try.ntmps33
      go_wp2_with fail
      refine (c1.out _).mono ?_
      rintro e w' ⟨rfl, rfl⟩
      go_wp2
      go_ret
      exact ⟨rfl, bw.out⟩
  · rw [hf] at c1
    rw [Bool.not_true] at c1 ⊢
    rw [Bool.false_and]
    clear hf
    go_enter Try.func33, Try.ntmps33
    go_wp2_with fail
    refine (c1.out _).mono ?_
    rintro e w' ⟨rfl, rfl⟩
    go_wp2
    go_ret
    exact ⟨rfl, bw.out⟩
theorem rofZ_any (a b : Int) (w : World) : Calls Try.prog 77 #[.int .i64 a, .int .i64 b] w (Gives (.agg #[.int .i64 (ofP a b).1, .int .i64 (ofP a b).2]) w) := by
  have hn := Lib.hid (fun w => rnone_any w)
  have c1 := Lib.hid (fun w => rclipV_any a w)
  have c2 := Lib.hid (fun w => rclipV_any b w)
  have hB := Lib.hid (box_below w #[.int .i64 0, .int .i64 0] 38)
  have hr := Lib.hid (show HI _ w.heap.size 0 0 from Holds.new w 38 #[.int .i64 0, .int .i64 0])
  unfold ofP
  by_cases h : b < a ∨ 1099511627776 < a ∨ b < -1099511627776
  · rw [if_pos h]
    have hd : (decide (b < a) || decide (1099511627776 < a) || decide (b < -1099511627776)) = true := by simp; omega
    clear h
    go_enter Try.func77, Try.ntmps77
    go_wp2_with fail
    all_goals (
      refine (hn.out _).mono ?_
      rintro e w1 ⟨rfl, h1⟩
      have k := hr.out.below h1 hr.out.lt
      have c0 := k.cell 0
      have c1 := k.cell 1
      have f0 := k.free 0
      have f1 := k.free 1
      have hfin := Lib.hid (hi_set k 1 0)
      have kb := Lib.hid (((hB.out.trans (h1.mono hB.out.size)).setCell (p := ⟨w.heap.size, 0, none⟩) (Nat.le_refl _) (.int .i64 1)).setCell (p := ⟨w.heap.size, 1, none⟩) (Nat.le_refl _) (.int .i64 0))
      clear k h1
      go_wp2
      exact itv_ret hfin.out ⟨rfl, kb.out⟩ _ _ 4 rfl rfl rfl)
  · rw [if_neg h]
    have d1 : decide (b < a) = false := by simp; omega
    have d2 : decide (1099511627776 < a) = false := by simp; omega
    have d3 : decide (b < -1099511627776) = false := by simp; omega
    generalize clipV a = x at *
    generalize clipV b = y at *
    clear h
    go_enter Try.func77, Try.ntmps77
    go_wp2_with fail
    refine (c1.out _).mono ?_
    rintro e w' ⟨rfl, rfl⟩
    go_wp2_with fail
    refine (c2.out _).mono ?_
    rintro e w' ⟨rfl, rfl⟩
    go_wp2
    exact itv_ret (Holds.new w _ _) ⟨rfl, box_below _ _ _⟩ _ _ 4 rfl rfl rfl
theorem rplainZ_any (a b : Int) (w : World) : Calls Try.prog 37 #[.agg #[.int .i64 a, .int .i64 b]] w (Gives (.agg #[.int .i64 (ofP a b).1, .int .i64 (ofP a b).2]) w) := by
  have c1 := Lib.hid (fun w => rofZ_any a b w)
  generalize ofP a b = P at *
  obtain ⟨W1, hW1⟩ : ∃ W1, W1 = (w.alloc (.cells #[.int .i64 a, .int .i64 b] 38)).alloc (.cells #[.int .i64 0, .int .i64 0] 38) := ⟨_, rfl⟩
  have hB : Below w.heap.size w W1 := by rw [hW1]; exact box2_below _ _ _ _ _
  have Z2 : HI W1 (w.heap.size + 1) 0 0 := by
    rw [hW1]
    have := Holds.new (w.alloc (.cells #[.int .i64 a, .int .i64 b] 38)) 38 #[.int .i64 0, .int .i64 0]
    simpa using this
  have hW1' := Lib.hid hW1
  have hB' := Lib.hid hB
  have Z2' := Lib.hid Z2
  clear hW1 hB Z2
  go_enter Try.func37, Try.ntmps37
  go_wp2_with fail
  rw [← hW1'.out]
  refine (c1.out _).mono ?_
  rintro e w1 ⟨rfl, b1⟩
  have k := Z2'.out.below b1 Z2'.out.lt
  have c0 := k.cell 0
  have c1 := k.cell 1
  have f0 := k.free 0
  have f1 := k.free 1
  have hfin := Lib.hid (hi_set k P.1 P.2)
  have kb := Lib.hid (((hB'.out.trans (b1.mono hB'.out.size)).setCell (p := ⟨w.heap.size + 1, 0, none⟩) (by show _ ≤ _ + 1; omega) (.int .i64 P.1)).setCell (p := ⟨w.heap.size + 1, 1, none⟩) (by show _ ≤ _ + 1; omega) (.int .i64 P.2))
  clear k b1
  go_wp2
  exact itv_ret hfin.out ⟨rfl, kb.out⟩ _ _ 2 rfl rfl rfl
theorem zbox_long (a : Option Addr) (m c : Nat) (hm : 8 < m) (hm2 : m ≤ 1000) (w : World) : Calls Try.prog 32 #[.slice a m c] w (EndsZ 0 1 0 [] w) := by
  obtain ⟨W1, hW1⟩ : ∃ W1, W1 = w.alloc (.cells #[.int .i64 0, .slice none 0 0] 24) := ⟨_, rfl⟩
  obtain ⟨hB, hz⟩ : Below w.heap.size w W1 ∧ ZH W1 w.heap.size (.int .i64 0) (.slice none 0 0) := by rw [hW1]; exact zone_new
  have q1 := Lib.hid ((dall_no m (by unfold mayB; simp; omega) W1).mono (fun e w' h => ends_of (m := 0) rfl (by decide) h))
  have hW1' := Lib.hid hW1
  have hB' := Lib.hid hB
  have hz' := Lib.hid hz
  clear hW1 hB hz
  go_enter Try.func32, Try.ntmps32
  go_wp2_with fail
  rw [← hW1'.out]
  refine q1.out.mono ?_
  rintro e w2 ⟨a2, c2, rfl, s2, b2⟩
  have b3 := box_below w2 #[.int .i64 0, .slice a2 0 c2] 24
  have k := hz'.out.below b2 hz'.out.lt
  have c0 := k.cell 0
  have c1 := k.cell 1
  have f0 := k.free 0
  have f1 := k.free 1
  have g0 := (k.below b3 k.lt).free 0
  have g1 := (k.below b3 k.lt).free 1
  have hlt := k.lt
  have hfin := Lib.hid ((zh_set k (.int .i64 0) (.slice none 0 0)).alloc (.cells #[.int .i64 0, .slice a2 0 c2] 24))
  have BB := hB'.out.trans (b2.mono hB'.out.size)
  have kb := Lib.hid (((BB.setCell (p := ⟨w.heap.size, 0, none⟩) (Nat.le_refl _) (.int .i64 0)).setCell (p := ⟨w.heap.size, 1, none⟩) (Nat.le_refl _) (.slice none 0 0)).alloc (by simp; omega) (.cells #[.int .i64 0, .slice a2 0 c2] 24))
  clear k b2 b3 BB s2
  go_wp2

  exact zone_ret2 hfin.out (show EndsZ 0 1 0 [] w _ _ from ⟨none, 0, rfl, SL.nil _, kb.out⟩) _ _ 2 3 rfl rfl rfl rfl
/-- Another block than a slice's. -/
theorem new_far2 {w : World} {a : Option Addr} {l : List Int} {g : Nat} (h : l = [] ∨ New w a) (hg : g < w.heap.size) : l = [] ∨ ∀ p, a = some p → g ≠ p.block := by
  rcases h with e | h
  · exact .inl e
  · exact new_far h hg
end Go.Proofs.Ytacbkddkjlnklaa
