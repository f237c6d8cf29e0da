/- What the scanner makes of what is written. -/
import Derived.Test.YtplgfghffeijcaaLexShow
namespace Go.Proofs.Ytplgfghffeijcaa
open Go.RowKit
set_option linter.unusedVariables false
set_option linter.unusedSimpArgs false

theorem step_quo_push {s : Sg} {c : Int} (ho : s.op = true) (hp : prB c = true) (h1 : c ≠ 34) (h2 : c ≠ 92) : stepS .quo s c = .inr (.quo, { s with T := s.T ++ [c], col := s.col + 1 }) := by
  have h10 : c ≠ 10 := by intro e; subst e; revert hp; decide
  unfold stepS
  simp only [takeS, quoS, if_neg h1, if_neg h2, hp, if_pos rfl, Sg.push, Sg.next, if_neg h10]
  rw [if_pos trivial]
  simp [ho]
theorem step_quo_bs {s : Sg} (ho : s.op = true) : stepS .quo s 92 = .inr (.esc, { s with col := s.col + 1 }) := by
  unfold stepS
  simp [takeS, quoS, Sg.next, ho]
theorem step_esc {s : Sg} {c : Int} (ho : s.op = true) (h : c = 34 ∨ c = 92) : stepS .esc s c = .inr (.quo, { s with T := s.T ++ [c], col := s.col + 1 }) := by
  have h10 : c ≠ 10 := by omega
  unfold stepS
  simp only [takeS, escS, if_pos h, Sg.push, Sg.next, if_neg h10]
  simp [ho]
theorem step_quo_end {s : Sg} (ho : s.op = true) : stepS .quo s 34 = .inr (.beh, { s.done with col := s.col + 1 }) := by
  unfold stepS
  simp [takeS, quoS, Sg.next, Sg.done, ho]
theorem step_beg_quo (s : Sg) : stepS .beg s 34 = .inr (.quo, { s.start 2 with col := s.col + 1, op := true }) := by
  unfold stepS
  simp [takeS, begS, Sg.next, Sg.start]
theorem step_beg_wrd (s : Sg) {c : Int} (h : wdB c = true) : stepS .beg s c = .inr (.wrd, { s.start 1 with T := [c], col := s.col + 1, op := true }) := by
  have h34 : c ≠ 34 := by intro e; subst e; revert h; decide
  have h10 : c ≠ 10 := by intro e; subst e; revert h; decide
  unfold stepS
  simp [takeS, begS, if_neg h34, h, Sg.next, Sg.start, Sg.push, h10]
theorem step_wrd {s : Sg} {c : Int} (ho : s.op = true) (h : wdB c = true) : stepS .wrd s c = .inr (.wrd, { s with T := s.T ++ [c], col := s.col + 1 }) := by
  have h10 : c ≠ 10 := by intro e; subst e; revert h; decide
  unfold stepS
  simp [takeS, wrdS, h, Sg.next, Sg.push, h10, ho]
theorem step_wrd_sp {s : Sg} (ho : s.op = true) : stepS .wrd s 32 = .inr (.beg, { s.done with col := s.col + 1 }) := by
  have h : wdB 32 = false := by decide
  unfold stepS
  simp [takeS, wrdS, behS, h, Sg.next, Sg.done, ho]
theorem step_beh_sp {s : Sg} (ho : s.op = true) : stepS .beh s 32 = .inr (.beg, { s with col := s.col + 1 }) := by
  unfold stepS
  simp [takeS, behS, Sg.next, ho]
theorem step_beh_nl (s : Sg) : stepS .beh s 10 = .inr (.beg, ⟨s.L ++ [⟨3, s.line, s.col, ⟨#[]⟩⟩], ⟨3, s.line, s.col, ⟨#[]⟩⟩, [], s.line + 1, 1, false⟩) := by
  unfold stepS
  simp [takeS, behS, Sg.next, Sg.done, Sg.start]
  exact rfl
theorem step_wrd_nl (s : Sg) : stepS .wrd s 10 = .inr (.beg, ⟨s.done.L ++ [⟨3, s.line, s.col, ⟨#[]⟩⟩], ⟨3, s.line, s.col, ⟨#[]⟩⟩, [], s.line + 1, 1, false⟩) := by
  have h : wdB 10 = false := by decide
  unfold stepS
  simp [takeS, wrdS, behS, h, Sg.next, Sg.done, Sg.start]
  exact rfl
theorem run_qb : ∀ (b : List Int) (s : Sg), s.op = true → runS .quo s (b.flatMap qb) = .inr (.quo, { s with T := s.T ++ b.filter prB, col := s.col + (b.flatMap qb).length })
  | [], s, ho => by simp [runS]
  | c :: r, s, ho => by
    rw [List.flatMap_cons]
    by_cases hq : c = 34 ∨ c = 92
    · have hp : prB c = true := by rcases hq with rfl | rfl <;> decide
      have e : qb c = [92, c] := by unfold qb; rw [if_pos hq, if_pos hp]; rfl
      rw [e]
      simp only [List.cons_append, List.nil_append, runS, step_quo_bs ho]
      rw [step_esc (s := { s with col := s.col + 1 }) ho hq]
      simp only []
      rw [run_qb r { s with T := s.T ++ [c], col := s.col + 1 + 1 } ho]
      simp [hp]
      omega
    · by_cases hp : prB c = true
      · have e : qb c = [c] := by unfold qb; rw [if_neg hq, if_pos hp]; rfl
        rw [e]
        simp only [List.cons_append, List.nil_append, runS, step_quo_push ho hp (fun h => hq (.inl h)) (fun h => hq (.inr h))]
        rw [run_qb r { s with T := s.T ++ [c], col := s.col + 1 } ho]
        simp [hp]
        omega
      · have e : qb c = [] := by unfold qb; rw [if_neg hq, if_neg hp]; rfl
        rw [e, List.nil_append, run_qb r s ho]
        simp [hp]
theorem run_wd : ∀ (b : List Int) (s : Sg), s.op = true → b.all wdB = true → runS .wrd s b = .inr (.wrd, { s with T := s.T ++ b, col := s.col + b.length })
  | [], s, ho, _ => by simp [runS]
  | c :: r, s, ho, h => by
    rw [List.all_cons, Bool.and_eq_true] at h
    simp only [runS, step_wrd ho h.1]
    rw [run_wd r { s with T := s.T ++ [c], col := s.col + 1 } ho h.2]
    simp
    omega
/-- A quoted text, from where a token begins. -/
theorem run_quote (b : List Int) (s : Sg) : runS .beg s (quoteL b) = .inr (.beh, ⟨s.L ++ [⟨2, s.line, s.col, strOfNums (b.filter prB)⟩], ⟨2, s.line, s.col, strOfNums (b.filter prB)⟩, b.filter prB, s.line, s.col + (quoteL b).length, true⟩) := by
  unfold quoteL
  rw [runS_app, runS_app]
  simp only [runS, step_beg_quo]
  rw [run_qb b _ rfl]
  simp only []
  rw [step_quo_end rfl]
  simp [Sg.start, Sg.done]
  omega
/-- A word, from where a token begins. -/
theorem run_word {b : List Int} (h : wordL b = true) (s : Sg) : runS .beg s b = .inr (.wrd, ⟨s.L, ⟨1, s.line, s.col, ⟨#[]⟩⟩, b, s.line, s.col + b.length, true⟩) := by
  unfold wordL at h
  cases b with
  | nil => simp at h
  | cons c r =>
    simp only [List.isEmpty_cons, Bool.not_false, Bool.true_and, List.all_cons, Bool.and_eq_true] at h
    simp only [runS, step_beg_wrd s h.1]
    rw [run_wd r _ rfl h.2]
    simp [Sg.start]
    omega
theorem tok_quote (b : List Int) (hb : b.length ≤ 1000) : tokO (quoteL b ++ [10]) = ([⟨2, 1, 1, strOfNums (b.filter prB)⟩, ⟨3, 1, 1 + (quoteL b).length, ⟨#[]⟩⟩], 1, 0, 0) := by
  have hl := flat_qb_len b
  have hq : (quoteL b).length ≤ 2002 := by unfold quoteL; simp only [List.length_append, List.length_cons, List.length_nil]; omega
  unfold tokO
  rw [if_neg (by rw [List.length_append]; simp; omega), runS_app, run_quote]
  simp only [runS, step_beh_nl, endS]
  simp [sg0]
end Go.Proofs.Ytplgfghffeijcaa
