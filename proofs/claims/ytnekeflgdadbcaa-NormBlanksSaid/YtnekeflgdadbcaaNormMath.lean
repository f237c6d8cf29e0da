/- Parts of a text, as a function of its bytes. -/
import Derived.Test.YtnekeflgdadbcaaNormWord
namespace Go.Proofs.Ytnekeflgdadbcaa
open Go.RowKit
set_option linter.unusedVariables false
set_option linter.unusedSimpArgs false

/-- The parts: words' runs, and every other byte but a blank. -/
def partsL : List Int → List (List Int)
  | [] => []
  | c :: r => if wdB c = true then (c :: r.takeWhile wdB) :: partsL (r.dropWhile wdB) else if c = 32 then partsL r else [c] :: partsL r
termination_by l => l.length
decreasing_by
  all_goals simp_wf
  · have : (r.dropWhile wdB).length ≤ r.length := (List.dropWhile_sublist _).length_le
    omega
theorem partsL_nil : partsL [] = [] := by rw [partsL]
theorem partsL_word {c : Int} {r : List Int} (h : wdB c = true) : partsL (c :: r) = (c :: r.takeWhile wdB) :: partsL (r.dropWhile wdB) := by rw [partsL, if_pos h]
theorem partsL_blank {r : List Int} : partsL (32 :: r) = partsL r := by rw [partsL, if_neg (by decide), if_pos rfl]
theorem partsL_other {c : Int} {r : List Int} (h : wdB c = false) (h2 : c ≠ 32) : partsL (c :: r) = [c] :: partsL r := by rw [partsL, if_neg (by simp [h]), if_neg h2]

theorem take_run {p q : List Int} (hp : ∀ c ∈ p, wdB c = true) (hq : q = [] ∨ ∃ c r, q = c :: r ∧ wdB c = false) : (p ++ q).takeWhile wdB = p ∧ (p ++ q).dropWhile wdB = q := by
  induction p with
  | nil =>
    rcases hq with rfl | ⟨c, r, rfl, hc⟩
    · exact ⟨rfl, rfl⟩
    · simp [List.takeWhile_cons, List.dropWhile_cons, hc]
  | cons a p ih =>
    have ha := hp a (by simp)
    obtain ⟨h1, h2⟩ := ih (fun c hc => hp c (by simp [hc]))
    simp [List.takeWhile_cons, List.dropWhile_cons, ha, h1, h2]
theorem partsL_run {p q : List Int} (h0 : p ≠ []) (hp : ∀ c ∈ p, wdB c = true) (hq : q = [] ∨ ∃ c r, q = c :: r ∧ wdB c = false) : partsL (p ++ q) = p :: partsL q := by
  cases p with
  | nil => exact absurd rfl h0
  | cons a p =>
    have ha := hp a (by simp)
    obtain ⟨h1, h2⟩ := take_run (p := p) (q := q) (fun c hc => hp c (by simp [hc])) hq
    rw [List.cons_append, partsL_word ha, h1, h2]

/-- One byte more, seen from the end. -/
def more1 (out : List (List Int)) (last c : Int) : List (List Int) :=
  if c = 32 then out else if wdB c = true ∧ wdB last = true then out.dropLast ++ [(out.getLast?.getD []) ++ [c]] else out ++ [[c]]
theorem partsL_ne : ∀ {p : List Int}, (∃ x ∈ p, x ≠ 32) → partsL p ≠ [] := by
  intro p
  induction p with
  | nil => rintro ⟨x, hx, -⟩; simp at hx
  | cons a p ih =>
    rintro ⟨x, hx, h⟩
    by_cases ha : wdB a = true
    · rw [partsL_word ha]; simp
    · by_cases h2 : a = 32
      · subst h2
        rw [partsL_blank]
        rcases List.mem_cons.1 hx with rfl | hx
        · exact absurd rfl h
        · exact ih ⟨x, hx, h⟩
      · rw [partsL_other (by simpa using ha) h2]; simp
theorem last_ne {p : List Int} (h : wdB (p.getLast?.getD 32) = true) : partsL p ≠ [] := by
  cases hp : p.getLast? with
  | none => rw [hp] at h; exact absurd h (by decide)
  | some x =>
    rw [hp] at h
    refine partsL_ne ⟨x, List.mem_of_getLast? hp, fun e => ?_⟩
    subst e
    exact absurd h (by decide)
theorem more1_cons (u : List Int) {X : List (List Int)} {last c : Int} (h : wdB last = true → X ≠ []) : u :: more1 X last c = more1 (u :: X) last c := by
  unfold more1
  by_cases h1 : c = 32
  · rw [if_pos h1, if_pos h1]
  · rw [if_neg h1, if_neg h1]
    by_cases h2 : wdB c = true ∧ wdB last = true
    · rw [if_pos h2, if_pos h2]
      have hX := h h2.2
      cases X with
      | nil => exact absurd rfl hX
      | cons v X => simp [List.dropLast_cons_of_ne_nil, List.getLast?_cons_cons]
    · rw [if_neg h2, if_neg h2]; rfl
theorem partsL_snoc (c : Int) : ∀ (n : Nat) (p : List Int), p.length ≤ n → partsL (p ++ [c]) = more1 (partsL p) (p.getLast?.getD 32) c := by
  intro n
  induction n with
  | zero =>
    intro p hp
    have : p = [] := List.eq_nil_of_length_eq_zero (by omega)
    subst this
    simp only [List.nil_append, partsL_nil, List.getLast?_nil, Option.getD_none]
    unfold more1
    by_cases h1 : c = 32
    · subst h1; rw [partsL_blank, partsL_nil, if_pos rfl]
    · have h32 : wdB 32 = false := by decide
      rw [if_neg h1, if_neg (by simp [h32])]
      by_cases h2 : wdB c = true
      · rw [partsL_word h2]; simp [partsL_nil]
      · rw [partsL_other (by simpa using h2) h1, partsL_nil]; rfl
  | succ n ih =>
    intro p hp
    cases p with
    | nil => exact ih [] (by simp)
    | cons a p =>
      have hne : ∀ (x : Int) (l : List Int), ((x :: l).getLast?.getD 32) = if l = [] then x else l.getLast?.getD 32 := by
        intro x l
        cases l with
        | nil => simp
        | cons y l => simp [List.getLast?_cons_cons]
      by_cases ha : wdB a = true
      · -- a word's run
        have hsplit : ∃ r q, p = r ++ q ∧ (∀ x ∈ r, wdB x = true) ∧ (q = [] ∨ ∃ y z, q = y :: z ∧ wdB y = false) := by
          refine ⟨p.takeWhile wdB, p.dropWhile wdB, (List.takeWhile_append_dropWhile).symm, fun x hx => List.all_eq_true.1 (List.all_takeWhile) x hx, ?_⟩
          cases hq : p.dropWhile wdB with
          | nil => exact .inl rfl
          | cons y z =>
            right
            refine ⟨y, z, rfl, ?_⟩
            have := List.head_dropWhile_not (p := wdB) (l := p) (by rw [hq]; simp)
            simpa [hq] using this
        obtain ⟨r, q, rfl, hr, hq⟩ := hsplit
        have hrun : ∀ x ∈ a :: r, wdB x = true := by
          intro x hx
          rcases List.mem_cons.1 hx with rfl | h
          · exact ha
          · exact hr x h
        have e0 : partsL (a :: (r ++ q)) = (a :: r) :: partsL q := by
          rw [← List.cons_append]; exact partsL_run (by simp) hrun hq
        rcases hq with rfl | ⟨y, z, rfl, hy⟩
        · -- the run goes to the end
          have hlast : wdB ((a :: r).getLast?.getD 32) = true := by
            have : (a :: r).getLast?.getD 32 ∈ a :: r := by
              rw [List.getLast?_eq_some_getLast (by simp)]; exact List.getLast_mem _
            exact hrun _ this
          simp only [List.append_nil] at e0 ⊢
          rw [e0, partsL_nil]
          unfold more1
          by_cases h1 : c = 32
          · subst h1
            rw [if_pos rfl, partsL_run (p := a :: r) (q := [32]) (by simp) hrun (.inr ⟨32, [], rfl, by decide⟩), partsL_blank, partsL_nil]
          · rw [if_neg h1]
            by_cases h2 : wdB c = true
            · rw [if_pos ⟨h2, hlast⟩]
              have := partsL_run (p := (a :: r) ++ [c]) (q := []) (by simp) (fun x hx => by
                rcases List.mem_append.1 hx with h | h
                · exact hrun x h
                · simp at h; subst h; exact h2) (.inl rfl)
              rw [List.append_nil] at this
              rw [this, partsL_nil]; simp
            · have h2' : wdB c = false := by simpa using h2
              rw [if_neg (by simp [h2']), partsL_run (p := a :: r) (q := [c]) (by simp) hrun (.inr ⟨c, [], rfl, h2'⟩), partsL_other h2' h1, partsL_nil]; rfl
        · -- something stands behind the run
          have e1 := ih (y :: z) (by simp at hp ⊢; omega)
          have e2 : partsL (a :: (r ++ y :: z) ++ [c]) = (a :: r) :: partsL (y :: z ++ [c]) := by
            rw [show a :: (r ++ y :: z) ++ [c] = (a :: r) ++ (y :: (z ++ [c])) by simp]
            exact partsL_run (by simp) hrun (.inr ⟨y, z ++ [c], rfl, hy⟩)
          have e3 : (a :: (r ++ y :: z)).getLast?.getD 32 = (y :: z).getLast?.getD 32 := by
            rw [show a :: (r ++ y :: z) = (a :: r) ++ (y :: z) by simp, List.getLast?_append]
            simp [List.getLast?_cons]
          rw [e2, e1, e0, e3]
          exact more1_cons _ fun h => last_ne h
      · have ha' : wdB a = false := by simpa using ha
        have e1 := ih p (by simp at hp; omega)
        by_cases h2 : a = 32
        · subst h2
          rw [List.cons_append, partsL_blank, partsL_blank, e1]
          cases p with
          | nil => simp
          | cons b p => simp [List.getLast?_cons_cons]
        · rw [List.cons_append, partsL_other ha' h2, partsL_other ha' h2, e1]
          cases p with
          | nil =>
            unfold more1
            have h32 : wdB 32 = false := by decide
            simp [partsL_nil, h32, ha']
            split <;> rfl
          | cons b p =>
            rw [List.getLast?_cons_cons]
            exact more1_cons _ fun h => last_ne h
end Go.Proofs.Ytnekeflgdadbcaa
