/- The document's scanner, as plain functions; it tells what ours tells. -/
import Derived.Test.YtplgfghffeijcaaLexTextMath
namespace Go.Proofs.Ytplgfghffeijcaa
open Go.RowKit
set_option linter.unusedVariables false
set_option linter.unusedSimpArgs false

/-- Behind the first quote: what was read, where it ends, or where something can not stand. -/
def rqL : List Int → List Int → Nat → List Int × Nat × Bool
  | [], T, i => (T, i, false)
  | c :: r, T, i => if c = 34 then (T, i + 1, true) else if c = 92 then
      match r with
      | [] => (T, i + 1, false)
      | d :: r' => if d = 34 ∨ d = 92 then rqL r' (T ++ [d]) (i + 2) else (T, i + 1, false)
    else if prB c then rqL r (T ++ [c]) (i + 1) else (T, i, false)
/-- A token: its kind, its text, the place behind it, whether it is one. -/
def tokenO (b : List Int) (at_ : Nat) : Int × List Int × Nat × Bool :=
  if b.getD at_ 0 = 34 then (2, rqL (b.drop (at_ + 1)) [] (at_ + 1))
  else (1, (b.drop at_).takeWhile wdB, at_ + ((b.drop at_).takeWhile wdB).length, decide (0 < ((b.drop at_).takeWhile wdB).length))
theorem rq_run : ∀ (n : Nat) (b T : List Int) (i : Nat) (s : Sg) (T' : List Int) (j : Nat) (ok : Bool), b.length ≤ n → s.op = true → s.T = T → rqL b T i = (T', j, ok) →
    (ok = true → i < j ∧ j - i ≤ b.length ∧ runS .quo s b = runS .beh ⟨s.L ++ [⟨s.t.k, s.t.ln, s.t.cl, strOfNums T'⟩], ⟨s.t.k, s.t.ln, s.t.cl, strOfNums T'⟩, T', s.line, s.col + (j - i : Nat), true⟩ (b.drop (j - i)))
    ∧ (ok = false → i ≤ j ∧ j - i ≤ b.length ∧ endS (runS .quo s b) = ([], s.line, s.col + (j - i : Nat), 230))
  | n, [], T, i, s, T', j, ok, hn, ho, hT, h => by
    unfold rqL at h
    injection h with h1 h; injection h with h2 h3
    subst h1 h2 h3
    refine ⟨fun h => (by cases h), fun _ => ⟨Nat.le_refl _, by simp, ?_⟩⟩
    simp [runS, endS, ho]
  | 0, c :: r, T, i, s, T', j, ok, hn, ho, hT, h => by simp at hn
  | n + 1, c :: r, T, i, s, T', j, ok, hn, ho, hT, h => by
    unfold rqL at h
    by_cases c1 : c = 34
    · rw [if_pos c1] at h
      injection h with h1 h; injection h with h2 h3
      subst h1 h2 h3 c1
      refine ⟨fun _ => ⟨by omega, by simp, ?_⟩, fun h => (by cases h)⟩
      simp only [runS]
      rw [step_quo_end ho]
      have e : i + 1 - i = 1 := by omega
      simp [Sg.done, e, hT, ho]
    · rw [if_neg c1] at h
      by_cases c2 : c = 92
      · rw [if_pos c2] at h
        subst c2
        simp only [runS]
        rw [step_quo_bs ho]
        cases r with
        | nil =>
          simp only at h
          injection h with h1 h; injection h with h2 h3
          subst h1 h2 h3
          refine ⟨fun h => (by cases h), fun _ => ⟨by omega, by simp, ?_⟩⟩
          have e : i + 1 - i = 1 := by omega
          simp [runS, endS, ho, e]
        | cons d r' =>
          simp only at h
          by_cases c3 : d = 34 ∨ d = 92
          · rw [if_pos c3] at h
            simp only [runS]
            rw [step_esc (s := { s with col := s.col + 1 }) ho c3]
            obtain ⟨k1, k2⟩ := rq_run n r' (T ++ [d]) (i + 2) { s with T := s.T ++ [d], col := s.col + 1 + 1 } T' j ok (by simp only [List.length_cons] at hn; omega) ho (by simp [hT]) h
            refine ⟨fun hk => ?_, fun hk => ?_⟩
            · obtain ⟨g1, g2, g3⟩ := k1 hk
              refine ⟨by omega, by simp only [List.length_cons]; omega, ?_⟩
              simp only at g3 ⊢
              rw [g3]
              have e : j - i = (j - (i + 2)) + 1 + 1 := by omega
              rw [e, List.drop_succ_cons, List.drop_succ_cons]
              congr 2
              omega
            · obtain ⟨g1, g2, g3⟩ := k2 hk
              refine ⟨by omega, by simp only [List.length_cons]; omega, ?_⟩
              simp only at g3 ⊢
              rw [g3]
              have e : j - i = (j - (i + 2)) + 1 + 1 := by omega
              rw [e]
              simp
              omega
          · rw [if_neg c3] at h
            injection h with h1 h; injection h with h2 h3
            subst h1 h2 h3
            refine ⟨fun h => (by cases h), fun _ => ⟨by omega, by simp, ?_⟩⟩
            have e : i + 1 - i = 1 := by omega
            have hst : stepS .esc { s with col := s.col + 1 } d = .inl (s.line, s.col + 1) := by
              unfold stepS
              simp [takeS, escS, c3]
            simp only [runS]
            rw [hst]
            simp [endS, e]
      · rw [if_neg c2] at h
        by_cases c3 : prB c = true
        · rw [if_pos c3] at h
          simp only [runS]
          rw [step_quo_push ho c3 c1 c2]
          obtain ⟨k1, k2⟩ := rq_run n r (T ++ [c]) (i + 1) { s with T := s.T ++ [c], col := s.col + 1 } T' j ok (by simp only [List.length_cons] at hn; omega) ho (by simp [hT]) h
          refine ⟨fun hk => ?_, fun hk => ?_⟩
          · obtain ⟨g1, g2, g3⟩ := k1 hk
            refine ⟨by omega, by simp only [List.length_cons]; omega, ?_⟩
            simp only at g3 ⊢
            rw [g3]
            have e : j - i = (j - (i + 1)) + 1 := by omega
            rw [e, List.drop_succ_cons]
            congr 2
            omega
          · obtain ⟨g1, g2, g3⟩ := k2 hk
            refine ⟨by omega, by simp only [List.length_cons]; omega, ?_⟩
            simp only at g3 ⊢
            rw [g3]
            have e : j - i = (j - (i + 1)) + 1 := by omega
            rw [e]
            simp
            omega
        · rw [if_neg c3] at h
          injection h with h1 h; injection h with h2 h3
          subst h1 h2 h3
          refine ⟨fun h => (by cases h), fun _ => ⟨by omega, by simp, ?_⟩⟩
          have hst : stepS .quo s c = .inl (s.line, s.col) := by
            unfold stepS
            simp [takeS, quoS, c1, c2, c3]
          simp only [runS]
          rw [hst]
          simp [endS]
/-- Behind a token. -/
def Be (A : List Tk) (m : Md) (s : Sg) (r : List Int) : Prop := s.op = true ∧ (m = .beh ∧ s.L = A ∨ m = .wrd ∧ s.done.L = A ∧ wdB (r.getD 0 0) = false)
theorem be_nil {A : List Tk} {m : Md} {s : Sg} (h : Be A m s []) : endS (runS m s []) = ([], s.line, s.col, 230) := by
  simp [runS, endS, h.1]
theorem be_sp {A : List Tk} {m : Md} {s : Sg} {r : List Int} (h : Be A m s (32 :: r)) : ∃ s', s'.L = A ∧ s'.line = s.line ∧ s'.col = s.col + 1 ∧ s'.op = true ∧ runS m s (32 :: r) = runS .beg s' r := by
  obtain ⟨ho, ⟨rfl, h⟩ | ⟨rfl, h, -⟩⟩ := h
  · exact ⟨{ s with col := s.col + 1 }, h, rfl, rfl, ho, by simp only [runS]; rw [step_beh_sp ho]⟩
  · exact ⟨{ s.done with col := s.col + 1 }, h, rfl, rfl, ho, by simp only [runS]; rw [step_wrd_sp ho]⟩
theorem be_nl {A : List Tk} {m : Md} {s : Sg} {r : List Int} (h : Be A m s (10 :: r)) : ∃ s', s'.L = A ++ [⟨3, s.line, s.col, ⟨#[]⟩⟩] ∧ s'.line = s.line + 1 ∧ s'.col = 1 ∧ s'.op = false ∧ runS m s (10 :: r) = runS .beg s' r := by
  obtain ⟨ho, ⟨rfl, rfl⟩ | ⟨rfl, rfl, -⟩⟩ := h
  · exact ⟨⟨s.L ++ [⟨3, s.line, s.col, ⟨#[]⟩⟩], ⟨3, s.line, s.col, ⟨#[]⟩⟩, [], s.line + 1, 1, false⟩, rfl, rfl, rfl, rfl, by simp only [runS]; rw [step_beh_nl]⟩
  · exact ⟨⟨s.done.L ++ [⟨3, s.line, s.col, ⟨#[]⟩⟩], ⟨3, s.line, s.col, ⟨#[]⟩⟩, [], s.line + 1, 1, false⟩, rfl, rfl, rfl, rfl, by simp only [runS]; rw [step_wrd_nl]⟩
theorem be_no {A : List Tk} {m : Md} {s : Sg} {c : Int} {r : List Int} (h : Be A m s (c :: r)) (h1 : c ≠ 32) (h2 : c ≠ 10) : endS (runS m s (c :: r)) = ([], s.line, s.col, 230) := by
  obtain ⟨ho, ⟨rfl, h⟩ | ⟨rfl, h, hw⟩⟩ := h
  · have hst : stepS .beh s c = .inl (s.line, s.col) := by
      unfold stepS
      simp [takeS, behS, h1, h2]
    simp only [runS]
    rw [hst]
    rfl
  · have hw' : wdB c = false := by simpa using hw
    have hst : stepS .wrd s c = .inl (s.line, s.col) := by
      unfold stepS
      simp [takeS, wrdS, behS, h1, h2, hw']
    simp only [runS]
    rw [hst]
    rfl
theorem drop_at {b : List Int} {k : Nat} (hk : k < b.length) : b.drop k = b.getD k 0 :: b.drop (k + 1) := by
  rw [List.drop_eq_getElem_cons hk]; simp [List.getD, hk]
theorem dropWhile_drop (f : Int → Bool) : ∀ l : List Int, l.dropWhile f = l.drop (l.takeWhile f).length
  | [] => rfl
  | x :: r => by
    rw [List.dropWhile_cons, List.takeWhile_cons]
    by_cases h : f x = true
    · rw [if_pos h, if_pos h, List.length_cons, List.drop_succ_cons, dropWhile_drop f r]
    · rw [if_neg h, if_neg h]; rfl
/-- One token, at its place. -/
theorem token_is {b : List Int} {p : Nat} (hp : p < b.length) {k : Int} {T : List Int} {j : Nat} {ok : Bool} (h : tokenO b p = (k, T, j, ok)) (s : Sg) :
    (ok = false → p ≤ j ∧ j ≤ b.length ∧ endS (runS .beg s (b.drop p)) = ([], s.line, s.col + (j - p : Nat), 230)) ∧
    (ok = true → p < j ∧ j ≤ b.length ∧ ∃ m s', runS .beg s (b.drop p) = runS m s' (b.drop j) ∧ s'.line = s.line ∧ s'.col = s.col + (j - p : Nat) ∧ Be (s.L ++ [⟨k, s.line, s.col, strOfNums T⟩]) m s' (b.drop j)) := by
  unfold tokenO at h
  by_cases hq : b.getD p 0 = 34
  · rw [if_pos hq] at h
    injection h with h1 h
    subst h1
    have hd := drop_at hp
    rw [hq] at hd
    have hrun : runS .beg s (b.drop p) = runS .quo { s.start 2 with col := s.col + 1, op := true } (b.drop (p + 1)) := by
      rw [hd]; simp only [runS, step_beg_quo]
    obtain ⟨k1, k2⟩ := rq_run (b.drop (p + 1)).length (b.drop (p + 1)) [] (p + 1) { s.start 2 with col := s.col + 1, op := true } T j ok (Nat.le_refl _) rfl rfl h
    rw [List.length_drop] at k1 k2
    refine ⟨fun hk => ?_, fun hk => ?_⟩
    · obtain ⟨g1, g2, g3⟩ := k2 hk
      refine ⟨by omega, by omega, ?_⟩
      rw [hrun, g3]
      simp [Sg.start]
      omega
    · obtain ⟨g1, g2, g3⟩ := k1 hk
      refine ⟨by omega, by omega, .beh, ⟨s.L ++ [⟨2, s.line, s.col, strOfNums T⟩], ⟨2, s.line, s.col, strOfNums T⟩, T, s.line, s.col + 1 + (j - (p + 1) : Nat), true⟩, ?_, ?_, ?_, ?_⟩
      · rw [hrun]
        refine g3.trans ?_
        rw [List.drop_drop, show p + 1 + (j - (p + 1)) = j by omega]
        rfl
      · rfl
      · simp only; omega
      · exact ⟨rfl, .inl ⟨rfl, rfl⟩⟩
  · rw [if_neg hq] at h
    injection h with h1 h; injection h with h2 h; injection h with h3 h4
    have hd := drop_at hp
    by_cases hw : wdB (b.getD p 0) = true
    · have htw : (b.drop p).takeWhile wdB = b.getD p 0 :: (b.drop (p + 1)).takeWhile wdB := by rw [hd, List.takeWhile_cons, hw]; rfl
      have hall : wordL ((b.drop p).takeWhile wdB) = true := by
        unfold wordL
        have : ((b.drop p).takeWhile wdB).all wdB = true := List.all_takeWhile
        rw [this, htw]
        rfl
      have hsp : b.drop p = T ++ b.drop j := by
        have e := List.takeWhile_append_dropWhile (p := wdB) (l := b.drop p)
        have e2 := dropWhile_drop wdB (b.drop p)
        rw [e2, List.drop_drop, h2] at e
        rw [← h3, h2]
        exact e.symm
      have hTl : 0 < T.length := by rw [← h2, htw]; simp
      have hjl : j ≤ b.length := by
        have := congrArg List.length hsp
        simp only [List.length_drop, List.length_append] at this
        rw [h2] at h3
        omega
      rw [h2] at h3 h4 hall
      have hok : ok = true := by rw [← h4]; simpa using hTl
      refine ⟨fun hk => (by rw [hok] at hk; cases hk), fun _ => ⟨by omega, hjl, .wrd, ⟨s.L, ⟨1, s.line, s.col, ⟨#[]⟩⟩, T, s.line, s.col + T.length, true⟩, ?_, rfl, by simp only; omega, rfl, .inr ⟨rfl, ?_, ?_⟩⟩⟩
      · conv => lhs; rw [hsp]
        rw [runS_app, run_word hall s]
      · rw [← h1]; rfl
      · have e2 : (b.drop p).dropWhile wdB = b.drop j := by
          have e := List.takeWhile_append_dropWhile (p := wdB) (l := b.drop p)
          rw [h2] at e
          exact List.append_cancel_left (e.trans hsp)
        rw [← e2]
        cases hx : (b.drop p).dropWhile wdB with
        | nil => decide
        | cons y r =>
          have := List.head?_dropWhile_not wdB (b.drop p)
          rw [hx] at this
          simpa using this
    · have htw : (b.drop p).takeWhile wdB = [] := by rw [hd, List.takeWhile_cons, if_neg hw]
      rw [htw] at h2 h3 h4
      have hok : ok = false := by rw [← h4]; simp
      have hj : j = p := by rw [← h3]; simp
      refine ⟨fun _ => ⟨by omega, by omega, ?_⟩, fun hk => by rw [hok] at hk; cases hk⟩
      have hst' : ∀ c, c ≠ 34 → ¬ wdB c = true → stepS .beg s c = .inl (s.line, s.col) := fun c k1 k2 => by
        unfold stepS
        simp [takeS, begS, k1, k2]
      have hst := hst' _ hq hw
      rw [hd]
      simp only [runS]
      rw [hst, hj]
      simp [endS]
/-- What the document's loop has told so far. -/
def LpR (b : List Int) (p : Nat) (L : List Tk) (line : Int) (begin_ : Nat) : Prop :=
  begin_ ≤ p ∧ p ≤ b.length ∧ 1 ≤ line ∧ line ≤ p + 1 ∧ L.length ≤ 2 * p ∧ ∃ s : Sg, s.L = L ∧ s.line = line ∧ s.col = (p : Int) - begin_ + 1 ∧ (s.op = false ∨ p < b.length) ∧ tokO b = endS (runS .beg s (b.drop p))
theorem lpR_start {b : List Int} (hb : b.length ≤ 1048576) : LpR b 0 [] 1 0 := by
  refine ⟨Nat.le_refl _, Nat.zero_le _, by decide, by decide, by decide, sg0, rfl, rfl, rfl, .inl rfl, ?_⟩
  unfold tokO
  rw [if_neg (by omega)]
  rfl
theorem lpR_end {b : List Int} {L : List Tk} {line : Int} {g : Nat} (h : LpR b b.length L line g) : tokO b = (L, line - 1, 0, 0) := by
  obtain ⟨-, -, -, -, -, s, rfl, rfl, -, ho, h⟩ := h
  rw [h, List.drop_length]
  rcases ho with ho | ho
  · simp [runS, endS, ho]
  · omega
theorem lpR_bad {b : List Int} {p : Nat} {L : List Tk} {line : Int} {g : Nat} (h : LpR b p L line g) (hp : p < b.length) {k : Int} {T : List Int} {j : Nat} (ht : tokenO b p = (k, T, j, false)) :
    p ≤ j ∧ j ≤ b.length ∧ tokO b = ([], line, (j : Int) - g + 1, 230) := by
  obtain ⟨hg, -, -, -, -, s, rfl, rfl, hc, ho, h⟩ := h
  obtain ⟨g1, g2, g3⟩ := (token_is hp ht s).1 rfl
  refine ⟨g1, g2, ?_⟩
  rw [h, g3, hc]
  simp
  omega
theorem lpR_next {b : List Int} {p : Nat} {L : List Tk} {line : Int} {g : Nat} (h : LpR b p L line g) (hp : p < b.length) {k : Int} {T : List Int} {j : Nat} (ht : tokenO b p = (k, T, j, true)) :
    p < j ∧ j ≤ b.length ∧ (j = b.length → tokO b = ([], line, (j : Int) - g + 1, 230)) ∧
    (j < b.length → b.getD j 0 = 32 → j + 1 = b.length → tokO b = ([], line, (j : Int) + 1 - g + 1, 230)) ∧
    (j < b.length → b.getD j 0 = 32 → j + 1 < b.length → LpR b (j + 1) (L ++ [⟨k, line, (p : Int) - g + 1, strOfNums T⟩]) line g) ∧
    (j < b.length → b.getD j 0 = 10 → LpR b (j + 1) (L ++ [⟨k, line, (p : Int) - g + 1, strOfNums T⟩] ++ [⟨3, line, (j : Int) - g + 1, ⟨#[]⟩⟩]) (line + 1) (j + 1)) ∧
    (j < b.length → b.getD j 0 ≠ 32 → b.getD j 0 ≠ 10 → tokO b = ([], line, (j : Int) - g + 1, 230)) := by
  obtain ⟨hg, -, hl1, hl2, hLl, s, rfl, rfl, hc, ho, h⟩ := h
  obtain ⟨g1, g2, m, s', h1, h2, h3, h4⟩ := (token_is hp ht s).2 rfl
  rw [hc] at h4 h3
  refine ⟨g1, g2, fun e => ?_, fun hj e1 e2 => ?_, fun hj e1 e2 => ?_, fun hj e1 => ?_, fun hj e1 e2 => ?_⟩
  · rw [h, h1]
    rw [e, List.drop_length] at h4 ⊢
    rw [be_nil h4, h2, h3, e]
    simp
    omega
  · rw [h, h1]
    rw [drop_at hj, e1, e2, List.drop_length] at h4 ⊢
    obtain ⟨u, u1, u2, u3, u4, u5⟩ := be_sp h4
    rw [u5]
    simp [runS, endS, u4, u2, u3, h2, h3]
    omega
  · rw [drop_at hj, e1] at h4
    obtain ⟨u, u1, u2, u3, u4, u5⟩ := be_sp h4
    refine ⟨by omega, by omega, hl1, by omega, by simp; omega, u, u1, by rw [u2, h2], by rw [u3, h3]; omega, .inr e2, ?_⟩
    rw [h, h1, ← u5, drop_at hj, e1]
  · rw [drop_at hj, e1] at h4
    obtain ⟨u, u1, u2, u3, u4, u5⟩ := be_nl h4
    have hcj : s'.col = (j : Int) - g + 1 := by rw [h3]; omega
    refine ⟨Nat.le_refl _, by omega, by omega, by omega, by simp; omega, u, by rw [u1, h2, hcj], by rw [u2, h2], by rw [u3]; omega, .inl u4, ?_⟩
    rw [h, h1, ← u5, drop_at hj, e1]
  · rw [h, h1]
    rw [drop_at hj] at h4 ⊢
    rw [be_no h4 e1 e2, h2, h3]
    simp
    omega
end Go.Proofs.Ytplgfghffeijcaa
