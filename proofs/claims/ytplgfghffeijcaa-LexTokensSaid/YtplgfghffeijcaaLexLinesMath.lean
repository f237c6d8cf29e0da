/- Two texts, one behind the other. -/
import Derived.Test.YtplgfghffeijcaaLexMath
namespace Go.Proofs.Ytplgfghffeijcaa
open Go.RowKit
set_option linter.unusedVariables false
set_option linter.unusedSimpArgs false

/-- So many lines further on. -/
def shT (n : Int) (t : Tk) : Tk := ⟨t.k, t.ln + n, t.cl, t.tx⟩
def shL (n : Int) (l : List Tk) : List Tk := l.map (shT n)
structure Rl (n : Int) (A : List Tk) (m : Md) (s1 s2 : Sg) : Prop where
  L : s2.L = A ++ shL n s1.L
  line : s2.line = s1.line + n
  col : s2.col = s1.col
  op : s2.op = s1.op
  t : m ≠ .beg → s2.t = shT n s1.t ∧ s2.T = s1.T
/-- One byte more on both sides. -/
def Ro (n : Int) (A : List Tk) (r1 r2 : (Int × Int) ⊕ (Md × Sg)) : Prop :=
  match r1, r2 with
  | .inl (l1, c1), .inl (l2, c2) => l2 = l1 + n ∧ c2 = c1
  | .inr (m1, s1), .inr (m2, s2) => m1 = m2 ∧ Rl n A m1 s1 s2
  | _, _ => False
theorem take_rel {n : Int} {A : List Tk} {m : Md} {s1 s2 : Sg} (h : Rl n A m s1 s2) (c : Int) : (takeS m s1 c).1 = (takeS m s2 c).1 ∧ ∀ m', (takeS m s1 c).1 = some m' → Rl n A m' (takeS m s1 c).2 (takeS m s2 c).2 := by
  obtain ⟨hL, hl, hc, ho, ht⟩ := h
  cases m
  case beg =>
    clear ht
    simp only [takeS, begS] <;> (repeat' split) <;> (refine ⟨rfl, fun m' hm => ?_⟩) <;> (try cases hm) <;> (constructor) <;> simp [Sg.start, Sg.done, Sg.push, shL, shT, *]
  all_goals
    obtain ⟨ht1, ht2⟩ := ht (by intro h; cases h)
    simp only [takeS, wrdS, quoS, escS, behS] <;> (repeat' split) <;> (refine ⟨rfl, fun m' hm => ?_⟩) <;> (try cases hm) <;> (constructor) <;> simp [Sg.start, Sg.done, Sg.push, shL, shT, *]
theorem step_rel {n : Int} {A : List Tk} {m : Md} {s1 s2 : Sg} (h : Rl n A m s1 s2) (c : Int) : Ro n A (stepS m s1 c) (stepS m s2 c) := by
  have h' : Rl n A m { s1 with op := true } { s2 with op := true } := ⟨h.L, h.line, h.col, rfl, h.t⟩
  obtain ⟨k1, k2⟩ := take_rel h' c
  have e1 := take_keeps m { s1 with op := true } c
  have e2 := take_keeps m { s2 with op := true } c
  unfold stepS
  generalize takeS m { s1 with op := true } c = q1 at *
  generalize takeS m { s2 with op := true } c = q2 at *
  obtain ⟨o1, u1⟩ := q1
  obtain ⟨o2, u2⟩ := q2
  simp only at k1 k2 e1 e2
  subst k1
  cases o1 with
  | none => 
    have h1 : u1.line = s1.line := e1.1
    have h2 : u2.line = s2.line := e2.1
    have h3 : u1.col = s1.col := e1.2.1
    have h4 : u2.col = s2.col := e2.2.1
    have h5 := h.line
    have h6 := h.col
    exact ⟨by omega, by omega⟩
  | some m' =>
    have r := k2 m' rfl
    refine ⟨rfl, ?_⟩
    unfold Sg.next
    split
    · exact ⟨r.L, by simp only; have := r.line; omega, rfl, rfl, r.t⟩
    · exact ⟨r.L, r.line, by simp only; have := r.col; omega, r.op, r.t⟩
theorem run_rel {n : Int} {A : List Tk} : ∀ (b : List Int) (m : Md) (s1 s2 : Sg), Rl n A m s1 s2 → Ro n A (runS m s1 b) (runS m s2 b)
  | [], m, s1, s2, h => ⟨rfl, h⟩
  | c :: r, m, s1, s2, h => by
    have k := step_rel h c
    simp only [runS]
    cases h1 : stepS m s1 c with
    | inl e1 =>
      cases h2 : stepS m s2 c with
      | inl e2 => rw [h1, h2] at k; exact k
      | inr p2 => rw [h1, h2] at k; exact k.elim
    | inr p1 =>
      obtain ⟨m1, u1⟩ := p1
      cases h2 : stepS m s2 c with
      | inl e2 => rw [h1, h2] at k; exact k.elim
      | inr p2 =>
        obtain ⟨m2, u2⟩ := p2
        rw [h1, h2] at k
        obtain ⟨rfl, k⟩ := k
        exact run_rel r m1 u1 u2 k
/-- Where no line is begun, a token begins, in column 1. -/
theorem run_fresh : ∀ (b : List Int) (m : Md) (s : Sg) (m' : Md) (s' : Sg), (s.op = false → m = .beg ∧ s.col = 1) → runS m s b = .inr (m', s') → s'.op = false → m' = .beg ∧ s'.col = 1
  | [], m, s, m', s', h, hr, ho => by
    simp only [runS] at hr
    injection hr with hr
    injection hr with h1 h2
    subst h1 h2
    exact h ho
  | c :: r, m, s, m', s', h, hr, ho => by
    simp only [runS] at hr
    cases h1 : stepS m s c with
    | inl e => rw [h1] at hr; cases hr
    | inr p =>
      obtain ⟨m1, s1⟩ := p
      rw [h1] at hr
      refine run_fresh r m1 s1 m' s' (fun ho1 => ?_) hr ho
      unfold stepS at h1
      have e := take_keeps m { s with op := true } c
      split at h1
      · cases h1
      · rename_i mm u hq
        rw [hq] at e
        injection h1 with h1
        injection h1 with h2 h3
        subst h2 h3
        unfold Sg.next at ho1 ⊢
        split at ho1
        · rename_i hc
          subst hc
          rw [if_pos rfl]
          refine ⟨?_, rfl⟩
          have hk : (takeS m { s with op := true } 10).1 = none ∨ (takeS m { s with op := true } 10).1 = some .beg := by
            cases m
            · exact .inl rfl
            · exact .inr rfl
            · exact .inl rfl
            · exact .inl rfl
            · exact .inr rfl
          rw [hq] at hk
          rcases hk with hk | hk
          · cases hk
          · injection hk
        · rename_i hc
          simp only at ho1
          rw [e.2.2.1] at ho1
          cases ho1
theorem tok_ok {a : List Int} (hl : a.length ≤ 1048576) (h : (tokO a).2.2.2 = 0) : ∃ s, runS .beg sg0 a = .inr (.beg, s) ∧ s.col = 1 ∧ s.op = false ∧ tokO a = (s.L, s.line - 1, 0, 0) := by
  unfold tokO at h ⊢
  rw [if_neg (by omega)] at h ⊢
  cases hr : runS .beg sg0 a with
  | inl e => rw [hr] at h; obtain ⟨x, y⟩ := e; simp [endS] at h
  | inr p =>
    obtain ⟨m, s⟩ := p
    rw [hr] at h
    simp only [endS] at h
    cases ho : s.op with
    | true => rw [ho] at h; simp at h
    | false =>
      obtain ⟨h1, h2⟩ := run_fresh a .beg sg0 m s (fun _ => ⟨rfl, rfl⟩) hr ho
      subst h1
      exact ⟨s, rfl, h2, ho, by simp [endS, ho]⟩
theorem tok_app {a b : List Int} (ha : a.length ≤ 2000) (hb : b.length ≤ 2000) (h : (tokO a).2.2.2 = 0) :
    ((tokO b).2.2.2 = 0 → tokO (a ++ b) = ((tokO a).1 ++ shL (tokO a).2.1 (tokO b).1, (tokO a).2.1 + (tokO b).2.1, 0, 0)) ∧
    ((tokO b).2.2.2 ≠ 0 → (tokO b).2.2.2 = 230 ∧ tokO (a ++ b) = ([], (tokO a).2.1 + (tokO b).2.1, (tokO b).2.2.1, 230)) := by
  obtain ⟨s, hr, hc, ho, hT⟩ := tok_ok (by omega) h
  have hrel : Rl (s.line - 1) s.L .beg sg0 s := ⟨by simp [sg0, shL], by show s.line = 1 + (s.line - 1); omega, hc, ho, fun h => absurd rfl h⟩
  have k := run_rel b .beg sg0 s hrel
  have hab : tokO (a ++ b) = endS (runS .beg s b) := by
    unfold tokO
    rw [if_neg (by rw [List.length_append]; omega), runS_app, hr]
  have hbb : tokO b = endS (runS .beg sg0 b) := by unfold tokO; rw [if_neg (by omega)]
  rw [hT, hab, hbb]
  generalize runS .beg sg0 b = r1 at *
  generalize runS .beg s b = r2 at *
  cases r1 with
  | inl e1 =>
    cases r2 with
    | inr p2 => exact k.elim
    | inl e2 =>
      obtain ⟨l1, c1⟩ := e1
      obtain ⟨l2, c2⟩ := e2
      obtain ⟨k1, k2⟩ := k
      refine ⟨fun h => by simp [endS] at h, fun _ => ⟨rfl, ?_⟩⟩
      simp only [endS]
      rw [k1, k2]
      simp
      omega
  | inr p1 =>
    cases r2 with
    | inl e2 => exact k.elim
    | inr p2 =>
      obtain ⟨m1, s1⟩ := p1
      obtain ⟨m2, s2⟩ := p2
      obtain ⟨rfl, k⟩ := k
      simp only [endS, k.op]
      cases s1.op with
      | true =>
        refine ⟨fun h => by simp at h, fun _ => ⟨by simp, ?_⟩⟩
        simp only [if_true]
        rw [k.line, k.col]
        simp
        omega
      | false =>
        refine ⟨fun _ => ?_, fun h => by simp at h⟩
        simp only [if_neg (show ¬ (false = true) by simp)]
        rw [k.L, k.line]
        simp
        omega
/-- The tokens' lines lie within the text. -/
def LnOK (N : Int) (s : Sg) : Prop := (∀ t ∈ s.L, 0 ≤ t.ln ∧ t.ln ≤ N) ∧ 0 ≤ s.t.ln ∧ s.t.ln ≤ N
theorem take_ln {N : Int} {m : Md} {s : Sg} (h : LnOK N s) (h0 : 0 ≤ s.line) (h1 : s.line ≤ N) (c : Int) : LnOK N (takeS m s c).2 := by
  obtain ⟨k1, k2, k3⟩ := h
  have hd : ∀ u : Sg, LnOK N u → LnOK N u.done := fun u hu => ⟨fun t ht => by
    simp only [Sg.done, List.mem_append, List.mem_singleton] at ht
    rcases ht with ht | rfl
    · exact hu.1 t ht
    · exact hu.2, hu.2⟩
  have hs : LnOK N s := ⟨k1, k2, k3⟩
  have hst : ∀ (u : Sg) (k : Int), LnOK N u → u.line = s.line → LnOK N (u.start k) := fun u k hu e => ⟨hu.1, by simp only [Sg.start]; omega, by simp only [Sg.start]; omega⟩
  have hp : ∀ (u : Sg) (x : Int), LnOK N u → LnOK N (u.push x) := fun u x hu => hu
  cases m <;> simp only [takeS, begS, wrdS, quoS, escS, behS] <;> (repeat' split) <;> first | exact hs | exact hp _ _ hs | exact hst _ _ hs rfl | exact hp _ _ (hst _ _ hs rfl) | exact hd _ hs | exact hd _ (hst _ _ hs rfl) | exact hd _ (hst _ _ (hd _ hs) rfl)
theorem run_ln {N : Int} : ∀ (b : List Int) (m : Md) (s : Sg) (k : Nat) (m' : Md) (s' : Sg), LnOK N s → s.small k → (k + b.length + 1 : Int) ≤ N → runS m s b = .inr (m', s') → LnOK N s' ∧ s'.small (k + b.length)
  | [], m, s, k, m', s', h, hs, hN, hr => by
    simp only [runS] at hr
    injection hr with hr
    injection hr with h1 h2
    subst h1 h2
    exact ⟨h, hs⟩
  | c :: r, m, s, k, m', s', h, hs, hN, hr => by
    simp only [runS] at hr
    cases h1 : stepS m s c with
    | inl e => rw [h1] at hr; cases hr
    | inr p =>
      obtain ⟨m1, s1⟩ := p
      rw [h1] at hr
      have k1 : LnOK N s1 := by
        have q := take_ln (m := m) (s := { s with op := true }) (N := N) h (by have := hs.l0; simp only; omega) (by have := hs.l1; simp only [List.length_cons] at *; omega) c
        unfold stepS at h1
        split at h1
        · cases h1
        · rename_i mm u hq
          rw [hq] at q
          injection h1 with h1
          injection h1 with h2 h3
          subst h2 h3
          unfold Sg.next
          split <;> exact q
      have := run_ln r m1 s1 (k + 1) m' s' k1 (step_small h1 hs) (by simp only [List.length_cons] at hN; omega) hr
      rw [List.length_cons]
      exact ⟨this.1, by have h2 := this.2; rwa [show k + 1 + r.length = k + (r.length + 1) by omega] at h2⟩
theorem run_err : ∀ (b : List Int) (m : Md) (s : Sg) (k : Nat) (x y : Int), s.small k → runS m s b = .inl (x, y) → 1 ≤ x ∧ x ≤ k + b.length + 1
  | [], m, s, k, x, y, hs, hr => by simp [runS] at hr
  | c :: r, m, s, k, x, y, hs, hr => by
    simp only [runS] at hr
    cases h1 : stepS m s c with
    | inl e =>
      rw [h1] at hr
      injection hr with hr
      subst hr
      unfold stepS at h1
      have q := take_keeps m { s with op := true } c
      split at h1
      · rename_i u hq
        rw [hq] at q
        injection h1 with h1
        injection h1 with h2 h3
        have h4 : u.line = s.line := q.1
        have := hs.l0
        have := hs.l1
        simp only [List.length_cons]
        omega
      · cases h1
    | inr p =>
      obtain ⟨m1, s1⟩ := p
      rw [h1] at hr
      have := run_err r m1 s1 (k + 1) x y (step_small h1 hs) hr
      simp only [List.length_cons]
      omega
theorem tok_bound {b : List Int} (hb : b.length ≤ 1048576) : (tokO b).1.length ≤ 2 * b.length ∧ (∀ t ∈ (tokO b).1, 0 ≤ t.ln ∧ t.ln ≤ b.length + 1) ∧ 0 ≤ (tokO b).2.1 ∧ (tokO b).2.1 ≤ b.length + 1 := by
  unfold tokO
  rw [if_neg (by omega)]
  cases hr : runS .beg sg0 b with
  | inl e =>
    obtain ⟨x, y⟩ := e
    have := run_err b .beg sg0 0 x y small0 hr
    simp [endS]
    omega
  | inr p =>
    obtain ⟨m, s⟩ := p
    have k := run_ln (N := b.length + 1) b .beg sg0 0 m s ⟨by simp [sg0], by simp [sg0, tk0], by simp [sg0, tk0]; omega⟩ small0 (by omega) hr
    have h1 := k.2.l0
    have h2 := k.2.l1
    simp only [endS]
    split
    · simp
      omega
    · refine ⟨by have := k.2.L; simp only; omega, fun t ht => k.1.1 t ht, ?_⟩
      simp only
      omega
theorem codes_app (a b : ByteArray) : codes (a ++ b) = codes a ++ codes b := by
  simp [codes]
theorem shL_len (n : Int) (l : List Tk) : (shL n l).length = l.length := by simp [shL]
theorem shL_take {n : Int} {l : List Tk} {k : Nat} (hk : k < l.length) : shL n (l.take (k + 1)) = shL n (l.take k) ++ [⟨(l.getD k tk0).k, (l.getD k tk0).ln + n, (l.getD k tk0).cl, (l.getD k tk0).tx⟩] := by
  have e : l.getD k tk0 = l[k] := by simp [List.getD, hk]
  rw [e, ← List.take_append_getElem hk]
  unfold shL
  rw [List.map_append]
  rfl
theorem tcells_app (a b : List Tk) : tcells (a ++ b) = tcells a ++ tcells b := by simp [tcells]
end Go.Proofs.Ytplgfghffeijcaa
