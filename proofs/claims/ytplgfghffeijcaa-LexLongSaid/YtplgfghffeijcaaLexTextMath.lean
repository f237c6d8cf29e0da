/- Tokens of what is shown, and what is shown of tokens. -/
import Derived.Test.YtplgfghffeijcaaLexMath
namespace Go.Proofs.Ytplgfghffeijcaa
open Go.RowKit
set_option linter.unusedVariables false
set_option linter.unusedSimpArgs false

def keyT (t : Tk) : Int × ByteArray := (t.k, t.tx)
/-- Between tokens: what stands in the list so far, by kinds and texts. -/
def Bt (first : Bool) (K : List (Int × ByteArray)) (m : Md) (s : Sg) : Prop :=
  if first then m = .beg ∧ s.op = false ∧ s.L.map keyT = K else s.op = true ∧ (m = .beh ∧ s.L.map keyT = K ∨ m = .wrd ∧ s.done.L.map keyT = K)
theorem bt_sp {K : List (Int × ByteArray)} {m : Md} {s : Sg} (h : Bt false K m s) (r : List Int) : ∃ s', runS m s (32 :: r) = runS .beg s' r ∧ s'.L.map keyT = K := by
  obtain ⟨ho, ⟨rfl, h⟩ | ⟨rfl, h⟩⟩ := h
  · exact ⟨{ s with col := s.col + 1 }, by simp only [runS]; rw [step_beh_sp ho], h⟩
  · exact ⟨{ s.done with col := s.col + 1 }, by simp only [runS]; rw [step_wrd_sp ho], h⟩
theorem bt_one {K : List (Int × ByteArray)} {s : Sg} {t : Tk} (hK : s.L.map keyT = K) (hr : rightB t = true) (h3 : t.k ≠ 3) : ∃ m' s', runS .beg s (writtenL t) = .inr (m', s') ∧ Bt false (K ++ [keyT t]) m' s' := by
  unfold rightB at hr
  unfold writtenL
  by_cases h1 : t.k = 1
  · rw [if_pos h1] at hr
    rw [if_neg (by omega), if_neg h3, run_word hr s]
    refine ⟨_, _, rfl, rfl, .inr ⟨rfl, ?_⟩⟩
    simp [Sg.done, hK, keyT, str_codes, h1]
  · rw [if_neg h1] at hr
    by_cases h2 : t.k = 2
    · rw [if_pos h2] at hr
      rw [if_pos h2, run_quote]
      refine ⟨_, _, rfl, rfl, .inl ⟨rfl, ?_⟩⟩
      have hf : (codes t.tx).filter prB = codes t.tx := List.filter_eq_self.2 (fun x hx => List.all_eq_true.1 hr x hx)
      simp [hK, keyT, hf, str_codes, h2]
    · rw [if_neg h2, if_neg h3] at hr
      cases hr
theorem run_shown : ∀ (l : List Tk) (first : Bool) (K : List (Int × ByteArray)) (m : Md) (s : Sg), areF first l = true → Bt first K m s →
    ∃ s', runS m s (showF first l) = .inr (.beg, s') ∧ s'.op = false ∧ s'.L.map keyT = K ++ l.map keyT
  | [], first, K, m, s, ha, hb => by
    have hf : first = true := ha
    subst hf
    obtain ⟨rfl, ho, h⟩ := hb
    exact ⟨s, rfl, ho, by simpa using h⟩
  | t :: r, first, K, m, s, ha, hb => by
    unfold areF at ha
    simp only [Bool.and_eq_true] at ha
    obtain ⟨⟨hn, hr⟩, ha⟩ := ha
    unfold showF pieceL
    by_cases h3 : t.k = 3
    · have hf : first = false := by
        cases first with
        | false => rfl
        | true => simp [h3] at hn
      subst hf
      have ht : t.tx.size = 0 := by
        unfold rightB at hr
        rw [if_neg (by omega), if_neg (by omega), if_pos h3] at hr
        simpa using hr
      have ht2 : t.tx = ⟨#[]⟩ := by
        have hc : codes t.tx = [] := List.eq_nil_of_length_eq_zero (by rw [codes_length]; exact ht)
        rw [← str_codes t.tx, hc]; rfl
      have hw : writtenL t = [10] := by unfold writtenL; rw [if_neg (by omega), if_pos h3]
      have e : (if false = false ∧ t.k ≠ 3 then [32] else ([] : List Int)) = [] := if_neg (by simp [h3])
      rw [hw, e, List.nil_append, runS_app]
      rw [decide_eq_true h3] at ha ⊢
      have go : ∀ u : Sg, u.op = false → u.L.map keyT = K ++ [keyT t] → ∃ s', runS .beg u (showF true r) = .inr (.beg, s') ∧ s'.op = false ∧ s'.L.map keyT = K ++ (t :: r).map keyT := by
        intro u h1 h2
        obtain ⟨s', g1, g2, g3⟩ := run_shown r true (K ++ [keyT t]) .beg u ha ⟨rfl, h1, h2⟩
        exact ⟨s', g1, g2, by rw [g3]; simp⟩
      obtain ⟨ho, ⟨rfl, h⟩ | ⟨rfl, h⟩⟩ := hb
      · simp only [runS, step_beh_nl]
        exact go _ rfl (by simp [h, keyT, h3, ht2])
      · simp only [runS, step_wrd_nl]
        exact go _ rfl (by simp only [List.map_append, h]; simp [keyT, h3, ht2])
    · rw [decide_eq_false h3] at ha ⊢
      cases first with
      | true =>
        obtain ⟨rfl, ho, h⟩ := hb
        rw [if_neg (by simp), List.nil_append, runS_app]
        obtain ⟨m', s', g1, g2⟩ := bt_one h hr h3
        rw [g1]
        obtain ⟨s2, k1, k2, k3⟩ := run_shown r false _ m' s' ha g2
        exact ⟨s2, k1, k2, by rw [k3]; simp⟩
      | false =>
        rw [if_pos ⟨rfl, h3⟩]
        obtain ⟨u, g0, hu⟩ := bt_sp hb (writtenL t ++ showF false r)
        rw [List.append_assoc, List.singleton_append, g0, runS_app]
        obtain ⟨m', s', g1, g2⟩ := bt_one hu hr h3
        rw [g1]
        obtain ⟨s2, k1, k2, k3⟩ := run_shown r false _ m' s' ha g2
        exact ⟨s2, k1, k2, by rw [k3]; simp⟩
/-- Behind tokens: is a line ended; are all right. -/
def aftF : Bool → List Tk → Bool
  | f, [] => f
  | _, t :: r => aftF (decide (t.k = 3)) r
def areT : Bool → List Tk → Bool
  | _, [] => true
  | f, t :: r => !(decide (t.k = 3) && f) && rightB t && areT (decide (t.k = 3)) r
theorem areF_is : ∀ (l : List Tk) (f : Bool), areF f l = (areT f l && aftF f l)
  | [], f => by simp [areF, areT, aftF]
  | t :: r, f => by
    unfold areF areT aftF
    rw [areF_is r, ← Bool.and_assoc]
theorem showF_snoc (t : Tk) : ∀ (l : List Tk) (f : Bool), showF f (l ++ [t]) = showF f l ++ pieceL (aftF f l) t
  | [], f => by simp [showF, aftF]
  | x :: r, f => by
    rw [List.cons_append]
    unfold showF aftF
    rw [showF_snoc t r, List.append_assoc]
theorem aftF_snoc (t : Tk) : ∀ (l : List Tk) (f : Bool), aftF f (l ++ [t]) = decide (t.k = 3)
  | [], f => by simp [aftF]
  | x :: r, f => by rw [List.cons_append]; unfold aftF; exact aftF_snoc t r _
theorem areT_snoc (t : Tk) : ∀ (l : List Tk) (f : Bool), areT f (l ++ [t]) = (areT f l && (!(decide (t.k = 3) && aftF f l) && rightB t))
  | [], f => by simp [areT, aftF]
  | x :: r, f => by
    rw [List.cons_append]
    unfold areT aftF
    rw [areT_snoc t r, ← Bool.and_assoc]
def sepL (f : Bool) : List Int := if f then [] else [32]
/-- What was read so far is what is shown. -/
def Inv (b : List Int) (m : Md) (s : Sg) : Prop := areT true s.L = true ∧ match m with
  | .beg => (s.op = false ∧ aftF true s.L = true ∧ b = showF true s.L) ∨ (s.op = true ∧ aftF true s.L = false ∧ b = showF true s.L ++ [32])
  | .wrd => s.op = true ∧ s.t.k = 1 ∧ s.T ≠ [] ∧ s.T.all wdB = true ∧ b = showF true s.L ++ sepL (aftF true s.L) ++ s.T
  | .quo => s.op = true ∧ s.t.k = 2 ∧ s.T.all prB = true ∧ b = showF true s.L ++ sepL (aftF true s.L) ++ [34] ++ s.T.flatMap qb
  | .esc => s.op = true ∧ s.t.k = 2 ∧ s.T.all prB = true ∧ b = showF true s.L ++ sepL (aftF true s.L) ++ [34] ++ s.T.flatMap qb ++ [92]
  | .beh => s.op = true ∧ aftF true s.L = false ∧ b = showF true s.L
theorem bs_pr {l : List Int} (h : l.all prB = true) : Bs l := fun x hx => by
  have := List.all_eq_true.1 h x hx
  unfold prB at this
  simp at this
  omega
theorem pr_of_wd {l : List Int} (h : l.all wdB = true) : l.all prB = true := by
  rw [List.all_eq_true] at h ⊢
  intro x hx
  have := h x hx
  unfold wdB at this
  simp only [Bool.and_eq_true] at this
  exact this.1
/-- A word that ends. -/
theorem inv_word {b : List Int} {s : Sg} (h : Inv b .wrd s) : areT true s.done.L = true ∧ aftF true s.done.L = false ∧ b = showF true s.done.L := by
  obtain ⟨h0, ho, hk, hT, hw, rfl⟩ := h
  have hc := codes_str (bs_pr (pr_of_wd hw))
  have hwl : wordL s.T = true := by
    unfold wordL
    rw [hw, Bool.and_true]
    cases hs : s.T with
    | nil => exact absurd hs hT
    | cons x r => rfl
  have hr : rightB ⟨s.t.k, s.t.ln, s.t.cl, strOfNums s.T⟩ = true := by unfold rightB; rw [if_pos hk, hc]; exact hwl
  simp only [Sg.done]
  refine ⟨by rw [areT_snoc, h0, hr]; simp [hk], by rw [aftF_snoc]; simp [hk], ?_⟩
  rw [showF_snoc]
  unfold pieceL writtenL sepL
  simp only [hc, hk]
  cases aftF true s.L <;> simp
theorem inv_quote {b : List Int} {s : Sg} (h : Inv b .quo s) : areT true s.done.L = true ∧ aftF true s.done.L = false ∧ b ++ [34] = showF true s.done.L := by
  obtain ⟨h0, ho, hk, hw, rfl⟩ := h
  have hc := codes_str (bs_pr hw)
  have hr : rightB ⟨s.t.k, s.t.ln, s.t.cl, strOfNums s.T⟩ = true := by unfold rightB; rw [if_neg (by rw [hk]; decide), if_pos hk, hc]; exact hw
  simp only [Sg.done]
  refine ⟨by rw [areT_snoc, h0, hr]; simp [hk], by rw [aftF_snoc]; simp [hk], ?_⟩
  rw [showF_snoc]
  unfold pieceL writtenL sepL
  simp only [hc, hk]
  cases aftF true s.L <;> simp [quoteL]
theorem inv_end {b : List Int} {s : Sg} (h0 : areT true s.L = true) (h1 : aftF true s.L = false) (h2 : b = showF true s.L) (ln cl : Int) : areT true (s.L ++ [⟨3, ln, cl, ⟨#[]⟩⟩]) = true ∧ aftF true (s.L ++ [⟨3, ln, cl, ⟨#[]⟩⟩]) = true ∧ b ++ [10] = showF true (s.L ++ [⟨3, ln, cl, ⟨#[]⟩⟩]) := by
  have hr : rightB ⟨3, ln, cl, ⟨#[]⟩⟩ = true := by unfold rightB; rfl
  refine ⟨by rw [areT_snoc, h0, hr, h1]; simp, by rw [aftF_snoc]; simp, ?_⟩
  rw [showF_snoc, h2, h1]
  unfold pieceL writtenL
  simp
theorem inv_step {b : List Int} {m : Md} {s : Sg} (h : Inv b m s) {c : Int} {m' : Md} {s' : Sg} (hs : stepS m s c = .inr (m', s')) : Inv (b ++ [c]) m' s' := by
  cases m with
  | beg =>
    obtain ⟨h0, h⟩ := h
    have hb : b = showF true s.L ++ sepL (aftF true s.L) := by
      rcases h with ⟨-, h1, h2⟩ | ⟨-, h1, h2⟩ <;> rw [h1, h2] <;> simp [sepL]
    by_cases c1 : c = 34
    · subst c1
      rw [step_beg_quo] at hs
      injection hs with hs; injection hs with e1 e2; subst e1 e2
      exact ⟨h0, rfl, rfl, rfl, by simp [Sg.start, hb]⟩
    · by_cases c2 : wdB c = true
      · rw [step_beg_wrd s c2] at hs
        injection hs with hs; injection hs with e1 e2; subst e1 e2
        exact ⟨h0, rfl, rfl, by simp, by simp [c2], by simp [Sg.start, hb]⟩
      · unfold stepS at hs
        simp [takeS, begS, c1, c2] at hs
  | wrd =>
    have ho := h.2.1
    by_cases c1 : wdB c = true
    · rw [step_wrd ho c1] at hs
      injection hs with hs; injection hs with e1 e2; subst e1 e2
      obtain ⟨h0, ho, hk, hT, hw, rfl⟩ := h
      exact ⟨h0, ho, hk, by simp, by simp [hw, c1], by simp⟩
    · obtain ⟨k0, k1, k2⟩ := inv_word h
      by_cases c2 : c = 32
      · subst c2
        rw [step_wrd_sp ho] at hs
        injection hs with hs; injection hs with e1 e2; subst e1 e2
        exact ⟨k0, .inr ⟨ho, k1, by simp [k2]⟩⟩
      · by_cases c3 : c = 10
        · subst c3
          rw [step_wrd_nl] at hs
          injection hs with hs; injection hs with e1 e2; subst e1 e2
          obtain ⟨g0, g1, g2⟩ := inv_end k0 k1 k2 s.line s.col
          exact ⟨g0, .inl ⟨rfl, g1, g2⟩⟩
        · unfold stepS at hs
          simp [takeS, wrdS, behS, c1, c2, c3] at hs
  | quo =>
    have ho := h.2.1
    by_cases c1 : c = 34
    · subst c1
      rw [step_quo_end ho] at hs
      injection hs with hs; injection hs with e1 e2; subst e1 e2
      obtain ⟨k0, k1, k2⟩ := inv_quote h
      exact ⟨k0, ho, k1, k2⟩
    · obtain ⟨h0, ho, hk, hw, rfl⟩ := h
      by_cases c2 : c = 92
      · subst c2
        rw [step_quo_bs ho] at hs
        injection hs with hs; injection hs with e1 e2; subst e1 e2
        exact ⟨h0, ho, hk, hw, rfl⟩
      · by_cases c3 : prB c = true
        · rw [step_quo_push ho c3 c1 c2] at hs
          injection hs with hs; injection hs with e1 e2; subst e1 e2
          have e : qb c = [c] := by unfold qb; rw [if_neg (by omega), if_pos c3]; rfl
          exact ⟨h0, ho, hk, by simp [hw, c3], by simp [e]⟩
        · unfold stepS at hs
          simp [takeS, quoS, c1, c2, c3] at hs
  | esc =>
    obtain ⟨h0, ho, hk, hw, rfl⟩ := h
    by_cases c1 : c = 34 ∨ c = 92
    · rw [step_esc ho c1] at hs
      injection hs with hs; injection hs with e1 e2; subst e1 e2
      have hp : prB c = true := by rcases c1 with rfl | rfl <;> decide
      have e : qb c = [92, c] := by unfold qb; rw [if_pos c1, if_pos hp]; rfl
      exact ⟨h0, ho, hk, by simp [hw, hp], by simp [e]⟩
    · unfold stepS at hs
      simp [takeS, escS, c1] at hs
  | beh =>
    obtain ⟨h0, ho, k1, k2⟩ := h
    by_cases c2 : c = 32
    · subst c2
      rw [step_beh_sp ho] at hs
      injection hs with hs; injection hs with e1 e2; subst e1 e2
      exact ⟨h0, .inr ⟨ho, k1, by simp [k2]⟩⟩
    · by_cases c3 : c = 10
      · subst c3
        rw [step_beh_nl] at hs
        injection hs with hs; injection hs with e1 e2; subst e1 e2
        obtain ⟨g0, g1, g2⟩ := inv_end h0 k1 k2 s.line s.col
        exact ⟨g0, .inl ⟨rfl, g1, g2⟩⟩
      · unfold stepS at hs
        simp [takeS, behS, c2, c3] at hs
theorem inv_run : ∀ (r b : List Int) (m : Md) (s : Sg) (m' : Md) (s' : Sg), Inv b m s → runS m s r = .inr (m', s') → Inv (b ++ r) m' s'
  | [], b, m, s, m', s', h, hr => by
    simp only [runS] at hr
    injection hr with hr; injection hr with e1 e2; subst e1 e2
    simpa using h
  | c :: r, b, m, s, m', s', h, hr => by
    simp only [runS] at hr
    cases h1 : stepS m s c with
    | inl e => rw [h1] at hr; cases hr
    | inr p =>
      obtain ⟨m1, s1⟩ := p
      rw [h1] at hr
      have := inv_run r (b ++ [c]) m1 s1 m' s' (inv_step h h1) hr
      simpa using this
/-- What has tokens is shown as it was. -/
theorem show_tok {b : List Int} {L : List Tk} {n x : Int} (h : tokO b = (L, n, x, 0)) : showO L = (b, 0) := by
  unfold tokO at h
  by_cases hb : 1048576 < b.length
  · rw [if_pos hb] at h; simp at h
  · rw [if_neg hb] at h
    cases hr : runS .beg sg0 b with
    | inl e => rw [hr] at h; obtain ⟨y, z⟩ := e; simp [endS] at h
    | inr p =>
      obtain ⟨m, s⟩ := p
      rw [hr] at h
      simp only [endS] at h
      have k := inv_run b [] .beg sg0 m s ⟨rfl, .inl ⟨rfl, rfl, rfl⟩⟩ hr
      rw [List.nil_append] at k
      by_cases ho : s.op = true
      · rw [if_pos ho] at h; simp at h
      · rw [if_neg ho] at h
        injection h with h1 h2
        subst h1
        have hm : areT true s.L = true ∧ aftF true s.L = true ∧ b = showF true s.L := by
          cases m with
          | beg => exact ⟨k.1, k.2.elim (fun h => h.2) (fun h => absurd h.1 ho)⟩
          | wrd => exact absurd k.2.1 ho
          | quo => exact absurd k.2.1 ho
          | esc => exact absurd k.2.1 ho
          | beh => exact absurd k.2.1 ho
        obtain ⟨e1, e2, e3⟩ := hm
        unfold showO
        rw [areF_is, e1, e2]
        simp only [Bool.and_self, Bool.true_eq_false, if_false]
        rw [if_neg (by rw [← e3]; exact hb), ← e3]
end Go.Proofs.Ytplgfghffeijcaa
