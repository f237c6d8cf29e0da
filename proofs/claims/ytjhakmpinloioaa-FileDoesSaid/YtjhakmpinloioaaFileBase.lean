/- file: dead, has; the closures that write and cut. -/
import Derived.Test.YtjhakmpinloioaaFileData
import Derived.Test.YtjhakmpinloioaaDrawn
import Derived.Defers
namespace Go.Proofs.Ytjhakmpinloioaa
open Go.RowKit
set_option linter.unusedVariables false
set_option linter.unusedSimpArgs false

theorem dead_any (d : Nat) (F : List Nat) (s : St) (w : World) (h : Dk w d F s) :
    Calls Try.prog 28 #[.pointer (some ⟨d, 0, none⟩)] w fun e w' => e = .returned (.int .i64 (if s.off then 280 else 0)) ∧ w = w' := by
  obtain ⟨v0, v1, h1, -⟩ := h
  have c2 := h1.cell 2
  simp at c2
  clear h1
  cases ho : s.off
  · rw [ho] at c2
    clear ho
    go_enter Try.func28, Try.ntmps28
    go_wp2
    go_ret
    exact ⟨rfl, rfl⟩
  · rw [ho] at c2
    clear ho
    go_enter Try.func28, Try.ntmps28
    go_wp2
    go_ret
    exact ⟨rfl, rfl⟩
theorem dead_nil (w : World) :
    Calls Try.prog 28 #[.pointer none] w fun e w' => e = .returned (.int .i64 6) ∧ w = w' := by
  go_enter Try.func28, Try.ntmps28
  go_wp2
  go_ret
  exact ⟨rfl, rfl⟩
theorem has_no (d : Nat) (n m : Int) (hn : n < 0 ∨ 2 ≤ n) (w : World) :
    Calls Try.prog 29 #[.pointer (some ⟨d, 0, none⟩), .int .i64 n, .int .i64 m] w fun e w' => e = .returned (.bool false) ∧ w = w' := by
  by_cases h0 : n < 0
  · clear hn
    go_enter Try.func29, Try.ntmps29
    go_wp2
    go_ret
    exact ⟨rfl, rfl⟩
  · have h1 : 0 ≤ n := by omega
    have h2 : 2 ≤ n := by omega
    have h3 : ¬ n < 2 := by omega
    clear hn h0
    go_enter Try.func29, Try.ntmps29
    go_wp2
    go_ret
    exact ⟨rfl, rfl⟩

theorem has_0 (d : Nat) (F : List Nat) (s : St) (m : Int) (w : World) (h : Dk w d F s) (hl : (s.l 0).length ≤ 9223372036854775807) :
    Calls Try.prog 29 #[.pointer (some ⟨d, 0, none⟩), .int .i64 0, .int .i64 m] w fun e w' => e = .returned (.bool (decide (0 ≤ m ∧ m ≤ (s.l 0).length))) ∧ w = w' := by
  obtain ⟨v0, v1, h1, o0, o1, -⟩ := h
  obtain ⟨aa, cc, rfl, -, -⟩ := sees_own o0
  have c2 := h1.cell 0
  simp at c2
  clear h1 o0 o1
  by_cases h0 : m < 0
  · have hd : decide (0 ≤ m ∧ m ≤ ((s.l 0).length : Int)) = false := by simp; omega
    rw [hd]
    clear hd
    go_enter Try.func29, Try.ntmps29
    go_wp2
    go_ret
    exact ⟨rfl, rfl⟩
  · have h1 : 0 ≤ m := by omega
    clear h0
    by_cases h2 : m ≤ ((s.l 0).length : Int)
    · have hd : decide (0 ≤ m ∧ m ≤ ((s.l 0).length : Int)) = true := by simp; omega
      rw [hd]
      clear hd
      go_enter Try.func29, Try.ntmps29
      go_wp2
      go_ret
      exact ⟨rfl, rfl⟩
    · have hd : decide (0 ≤ m ∧ m ≤ ((s.l 0).length : Int)) = false := by simp; omega
      have h3 : decide (m ≤ ((s.l 0).length : Int)) = false := by simpa using h2
      rw [hd]
      clear hd h2
      go_enter Try.func29, Try.ntmps29
      go_wp2
      go_ret
      exact ⟨rfl, rfl⟩

theorem has_1 (d : Nat) (F : List Nat) (s : St) (m : Int) (w : World) (h : Dk w d F s) (hl : (s.l 1).length ≤ 9223372036854775807) :
    Calls Try.prog 29 #[.pointer (some ⟨d, 0, none⟩), .int .i64 1, .int .i64 m] w fun e w' => e = .returned (.bool (decide (0 ≤ m ∧ m ≤ (s.l 1).length))) ∧ w = w' := by
  obtain ⟨v0, v1, h1, o0, o1, -⟩ := h
  obtain ⟨aa, cc, rfl, -, -⟩ := sees_own o1
  have c2 := h1.cell 1
  simp at c2
  clear h1 o0 o1
  by_cases h0 : m < 0
  · have hd : decide (0 ≤ m ∧ m ≤ ((s.l 1).length : Int)) = false := by simp; omega
    rw [hd]
    clear hd
    go_enter Try.func29, Try.ntmps29
    go_wp2
    go_ret
    exact ⟨rfl, rfl⟩
  · have h1 : 0 ≤ m := by omega
    clear h0
    by_cases h2 : m ≤ ((s.l 1).length : Int)
    · have hd : decide (0 ≤ m ∧ m ≤ ((s.l 1).length : Int)) = true := by simp; omega
      rw [hd]
      clear hd
      go_enter Try.func29, Try.ntmps29
      go_wp2
      go_ret
      exact ⟨rfl, rfl⟩
    · have hd : decide (0 ≤ m ∧ m ≤ ((s.l 1).length : Int)) = false := by simp; omega
      have h3 : decide (m ≤ ((s.l 1).length : Int)) = false := by simpa using h2
      rw [hd]
      clear hd h2
      go_enter Try.func29, Try.ntmps29
      go_wp2
      go_ret
      exact ⟨rfl, rfl⟩
end Go.Proofs.Ytjhakmpinloioaa
