/- The norm of parts; what parts and norms have to do with each other. Plain lists. -/
import Derived.Test.YtnekeflgdadbcaaNormMath
namespace Go.Proofs.Ytnekeflgdadbcaa
open Go.RowKit
set_option linter.unusedVariables false
set_option linter.unusedSimpArgs false

/-- Does a part begin with a byte of words? -/
def hw (p : List Int) : Bool := wdB (p.headD 0)
/-- The parts together: a blank between two words. -/
def normL : Bool → List (List Int) → List Int
  | _, [] => []
  | last, p :: r => (if last && hw p then [32] else []) ++ (p ++ normL (hw p) r)
def normS (L : List Int) : List Int := normL false (partsL L)
/-- What parts are. -/
def Good (p : List Int) : Prop := (p ≠ [] ∧ ∀ c ∈ p, wdB c = true) ∨ ∃ c, p = [c] ∧ wdB c = false ∧ c ≠ 32

theorem run_split (a : Int) (p : List Int) (ha : wdB a = true) : ∃ r q, p = r ++ q ∧ (∀ x ∈ a :: r, wdB x = true) ∧ (q = [] ∨ ∃ y z, q = y :: z ∧ wdB y = false) := by
  refine ⟨p.takeWhile wdB, p.dropWhile wdB, (List.takeWhile_append_dropWhile).symm, ?_, ?_⟩
  · intro x hx
    rcases List.mem_cons.1 hx with rfl | h
    · exact ha
    · exact List.all_eq_true.1 (List.all_takeWhile) x h
  · cases hq : p.dropWhile wdB with
    | nil => exact .inl rfl
    | cons y z =>
      right
      refine ⟨y, z, rfl, ?_⟩
      have := List.head_dropWhile_not (p := wdB) (l := p) (by rw [hq]; simp)
      simpa [hq] using this
theorem parts_run {a : Int} {r q : List Int} (hr : ∀ x ∈ a :: r, wdB x = true) (hq : q = [] ∨ ∃ y z, q = y :: z ∧ wdB y = false) : partsL (a :: (r ++ q)) = (a :: r) :: partsL q := by
  rw [← List.cons_append]; exact partsL_run (by simp) hr hq
theorem parts_good : ∀ (n : Nat) {L : List Int}, L.length ≤ n → ∀ p ∈ partsL L, Good p := by
  intro n
  induction n with
  | zero => intro L h p hp; obtain rfl : L = [] := List.eq_nil_of_length_eq_zero (by omega); rw [partsL_nil] at hp; simp at hp
  | succ n ih =>
    intro L h p hp
    cases L with
    | nil => rw [partsL_nil] at hp; simp at hp
    | cons c L =>
      by_cases hc : wdB c = true
      · obtain ⟨r, q, rfl, hr, hq⟩ := run_split c L hc
        rw [parts_run hr hq] at hp
        rcases List.mem_cons.1 hp with rfl | hp
        · exact .inl ⟨by simp, hr⟩
        · exact ih (by simp at h; omega) p hp
      · have hc' : wdB c = false := by simpa using hc
        by_cases h2 : c = 32
        · subst h2; rw [partsL_blank] at hp; exact ih (by simp at h; omega) p hp
        · rw [partsL_other hc' h2] at hp
          rcases List.mem_cons.1 hp with rfl | hp
          · exact .inr ⟨c, rfl, hc', h2⟩
          · exact ih (by simp at h; omega) p hp
theorem Good.ne {p : List Int} (h : Good p) : p ≠ [] := by
  rcases h with h | ⟨c, rfl, _⟩
  · exact h.1
  · simp
theorem Good.no32 {p : List Int} (h : Good p) : ∀ c ∈ p, c ≠ 32 := by
  rcases h with h | ⟨c, rfl, _, h2⟩
  · intro c hc e; subst e; have := h.2 _ hc; exact absurd this (by decide)
  · intro x hx; simp at hx; subst hx; exact h2
theorem hw_word {a : Int} {r : List Int} (hr : ∀ x ∈ a :: r, wdB x = true) : hw (a :: r) = true := hr a (by simp)

/-- The parts of what is put together are the parts. -/
theorem parts_norm : ∀ (ps : List (List Int)) (last : Bool), (∀ p ∈ ps, Good p) → partsL (normL last ps) = ps := by
  intro ps
  induction ps with
  | nil => intro last _; simp [normL, partsL_nil]
  | cons p r ih =>
    intro last hg
    have hR := ih (hw p) (fun x hx => hg x (by simp [hx]))
    have main : partsL (p ++ normL (hw p) r) = p :: r := by
      rcases hg p (by simp) with ⟨hne, hall⟩ | ⟨c, rfl, hc, h2⟩
      · obtain ⟨a, s, rfl⟩ : ∃ a s, p = a :: s := by cases p with
          | nil => exact absurd rfl hne
          | cons a s => exact ⟨a, s, rfl⟩
        have hq : normL (hw (a :: s)) r = [] ∨ ∃ y z, normL (hw (a :: s)) r = y :: z ∧ wdB y = false := by
          rw [hw_word hall]
          cases r with
          | nil => left; rfl
          | cons b r =>
            right
            have hb := hg b (by simp)
            by_cases hb2 : hw b = true
            · exact ⟨32, b ++ normL true r, by simp [normL, hb2], by decide⟩
            · rcases hb with ⟨h1, h2⟩ | ⟨c, rfl, hc, h2⟩
              · exfalso
                cases b with
                | nil => exact h1 rfl
                | cons x b => exact hb2 (hw_word h2)
              · exact ⟨c, normL false r, by simp [normL, hw, hc], hc⟩
        rw [partsL_run hne hall hq, hR]
      · rw [List.singleton_append, partsL_other hc h2, hR]
    unfold normL
    split
    · rw [List.singleton_append, partsL_blank]; exact main
    · exact main
theorem parts_normS (L : List Int) : partsL (normS L) = partsL L := parts_norm _ _ (parts_good _ (Nat.le_refl _))
theorem normS_again (L : List Int) : normS (normS L) = normS L := by unfold normS; rw [show partsL (normL false (partsL L)) = partsL L from parts_normS L]
theorem normS_inj (L M : List Int) : normS L = normS M ↔ partsL L = partsL M :=
  ⟨fun h => by rw [← parts_normS L, h, parts_normS], fun h => by unfold normS; rw [h]⟩

theorem norm_true_le (ps : List (List Int)) : (normL true ps).length ≤ (normL false ps).length + 1 := by
  cases ps with
  | nil => simp [normL]
  | cons p r => simp only [normL, Bool.true_and, Bool.false_and]; split <;> simp
theorem norm_len : ∀ (n : Nat) {L : List Int}, L.length ≤ n → (normL false (partsL L)).length ≤ L.length := by
  intro n
  induction n with
  | zero => intro L h; obtain rfl : L = [] := List.eq_nil_of_length_eq_zero (by omega); simp [partsL_nil, normL]
  | succ n ih =>
    intro L h
    cases L with
    | nil => simp [partsL_nil, normL]
    | cons c L =>
      by_cases hc : wdB c = true
      · obtain ⟨r, q, rfl, hr, hq⟩ := run_split c L hc
        rw [parts_run hr hq]
        have h3 : (normL true (partsL q)).length ≤ q.length := by
          rcases hq with rfl | ⟨y, z, rfl, hy⟩
          · simp [partsL_nil, normL]
          · have hz := ih (L := z) (by simp at h; omega)
            by_cases h2 : y = 32
            · subst h2
              rw [partsL_blank]
              have := norm_true_le (partsL z)
              simp; omega
            · rw [partsL_other hy h2]
              simp [normL, hw, hy]; exact hz
        simp only [normL, hw_word hr, Bool.false_and]
        simp at h3 ⊢; omega
      · have hc' : wdB c = false := by simpa using hc
        have hz := ih (L := L) (by simp at h; omega)
        by_cases h2 : c = 32
        · subst h2; rw [partsL_blank]; simp; omega
        · rw [partsL_other hc' h2]
          simp [normL, hw, hc']; exact hz
theorem normS_len (L : List Int) : (normS L).length ≤ L.length := norm_len _ (Nat.le_refl _)
theorem norm_bs {ps : List (List Int)} (h : ∀ p ∈ ps, Bs p) (last : Bool) : Bs (normL last ps) := by
  induction ps generalizing last with
  | nil => intro x hx; simp [normL] at hx
  | cons p r ih =>
    intro x hx
    simp only [normL, List.mem_append] at hx
    rcases hx with hx | hx | hx
    · split at hx <;> simp at hx; subst hx; omega
    · exact h p (by simp) x hx
    · exact ih (fun q hq => h q (by simp [hq])) _ x hx

/-- Blanks of what is put together stand between two other bytes. -/
theorem norm_blanks : ∀ (ps : List (List Int)) (last : Bool), (∀ p ∈ ps, Good p) → ∀ i : Nat, (normL last ps)[i]? = some 32 → (∃ c, (normL last ps)[i + 1]? = some c ∧ c ≠ 32) ∧ (i = 0 → last = true) := by
  intro ps
  induction ps with
  | nil => intro last _ i h; simp [normL] at h
  | cons p r ih =>
    intro last hg i h
    have hp := hg p (by simp)
    have hpl : 0 < p.length := List.length_pos_iff.2 hp.ne
    have main : ∀ j : Nat, (p ++ normL (hw p) r)[j]? = some 32 → (∃ c, (p ++ normL (hw p) r)[j + 1]? = some c ∧ c ≠ 32) ∧ j ≠ 0 := by
      intro j hj
      by_cases hlt : j < p.length
      · rw [List.getElem?_append_left hlt] at hj
        exact absurd rfl (hp.no32 _ (List.mem_of_getElem? hj))
      · rw [List.getElem?_append_right (by omega)] at hj
        obtain ⟨⟨c, h1, h2⟩, h3⟩ := ih (hw p) (fun x hx => hg x (by simp [hx])) _ hj
        refine ⟨⟨c, ?_, h2⟩, by omega⟩
        rw [List.getElem?_append_right (by omega), ← h1]
        congr 1; omega
    unfold normL at h ⊢
    by_cases hs : (last && hw p) = true
    · rw [if_pos hs] at h ⊢
      have hs' : last = true := by cases last <;> simp_all
      refine ⟨?_, fun _ => hs'⟩
      cases i with
      | zero =>
        obtain ⟨a, t, rfl⟩ : ∃ a t, p = a :: t := by cases p with
          | nil => simp at hpl
          | cons a t => exact ⟨a, t, rfl⟩
        exact ⟨a, by simp, hp.no32 a (by simp)⟩
      | succ i =>
        have h' : (p ++ normL (hw p) r)[i]? = some 32 := by simpa using h
        obtain ⟨⟨c, h1, h2⟩, -⟩ := main i h'
        exact ⟨c, by simpa using h1, h2⟩
    · rw [if_neg hs] at h ⊢
      obtain ⟨h1, h2⟩ := main i (by simpa using h)
      exact ⟨by simpa using h1, fun e => absurd e h2⟩

/-- Two texts, one behind the other. -/
theorem parts_app : ∀ (n : Nat) {p : List Int} (q : List Int), p.length ≤ n →
    (¬ (wdB (p.getLast?.getD 32) = true ∧ wdB (q.headD 32) = true) → partsL (p ++ q) = partsL p ++ partsL q) ∧
    (wdB (p.getLast?.getD 32) = true ∧ wdB (q.headD 32) = true → (partsL (p ++ q)).length + 1 = (partsL p).length + (partsL q).length) := by
  intro n
  induction n with
  | zero =>
    intro p q h
    obtain rfl : p = [] := List.eq_nil_of_length_eq_zero (by omega)
    exact ⟨fun _ => by simp [partsL_nil], fun hh => absurd hh.1 (by decide)⟩
  | succ n ih =>
    intro p q h
    cases p with
    | nil => exact ⟨fun _ => by simp [partsL_nil], fun hh => absurd hh.1 (by decide)⟩
    | cons a p =>
      by_cases ha : wdB a = true
      · obtain ⟨r, t, rfl, hr, ht⟩ := run_split a p ha
        have e0 := parts_run hr ht
        rcases ht with rfl | ⟨y, z, rfl, hy⟩
        · have hlast : wdB ((a :: (r ++ [])).getLast?.getD 32) = true := by
            have : (a :: (r ++ [])).getLast?.getD 32 ∈ a :: (r ++ []) := by
              rw [List.getLast?_eq_some_getLast (by simp)]; exact List.getLast_mem _
            exact hr _ (by simpa using this)
          rw [e0, hlast, partsL_nil]
          simp only [true_and, List.append_nil]
          constructor
          · intro hq
            cases q with
            | nil => simp only [List.append_nil] at e0 ⊢; rw [e0, partsL_nil]; rfl
            | cons b q =>
              have hb : wdB b = false := by simpa using hq
              rw [List.cons_append, parts_run hr (.inr ⟨b, q, rfl, hb⟩)]; rfl
          · intro hq
            cases q with
            | nil => exact absurd hq (by decide)
            | cons b q =>
              have hb : wdB b = true := hq
              obtain ⟨r2, t2, rfl, hr2, ht2⟩ := run_split b q hb
              have e1 := parts_run hr2 ht2
              have e2 : partsL (a :: r ++ b :: (r2 ++ t2)) = (a :: (r ++ b :: r2)) :: partsL t2 := by
                have e3 : a :: r ++ b :: (r2 ++ t2) = a :: ((r ++ b :: r2) ++ t2) := by simp
                rw [e3]
                refine parts_run ?_ ht2
                intro x hx
                rcases List.mem_cons.1 hx with rfl | hx
                · exact ha
                · rcases List.mem_append.1 hx with hx | hx
                  · exact hr x (by simp [hx])
                  · exact hr2 x hx
              rw [e1, e2]; simp; omega
        · obtain ⟨i1, i2⟩ := ih (p := y :: z) q (by simp at h ⊢; omega)
          have e3 : (a :: (r ++ y :: z)).getLast?.getD 32 = (y :: z).getLast?.getD 32 := by
            rw [show a :: (r ++ y :: z) = (a :: r) ++ (y :: z) by simp, List.getLast?_append]
            simp [List.getLast?_cons]
          have e4 : partsL (a :: (r ++ y :: z) ++ q) = (a :: r) :: partsL (y :: z ++ q) := by
            rw [show a :: (r ++ y :: z) ++ q = a :: (r ++ (y :: (z ++ q))) by simp]
            exact parts_run hr (.inr ⟨y, z ++ q, rfl, hy⟩)
          rw [e0, e4, e3]
          refine ⟨fun hh => by rw [i1 hh]; rfl, fun hh => ?_⟩
          have := i2 hh
          simp only [List.length_cons]; omega
      · have ha' : wdB a = false := by simpa using ha
        obtain ⟨i1, i2⟩ := ih (p := p) q (by simp at h; omega)
        have e3 : wdB ((a :: p).getLast?.getD 32) = wdB (p.getLast?.getD 32) := by
          cases p with
          | nil => simp [ha']; decide
          | cons b p => rw [List.getLast?_cons_cons]
        rw [e3]
        by_cases h2 : a = 32
        · subst h2
          rw [List.cons_append, partsL_blank, partsL_blank]
          exact ⟨i1, i2⟩
        · rw [List.cons_append, partsL_other ha' h2, partsL_other ha' h2]
          refine ⟨fun hh => by rw [i1 hh]; rfl, fun hh => ?_⟩
          have := i2 hh
          simp only [List.length_cons]; omega
theorem parts_reps (n : Nat) (q : List Int) : partsL (List.replicate n 32 ++ q) = partsL q := by
  induction n with
  | zero => simp
  | succ n ih => rw [List.replicate_succ, List.cons_append, partsL_blank]; exact ih
/-- Blanks put between two texts. -/
theorem parts_blanks (p q : List Int) (n : Nat) : partsL (p ++ (List.replicate n 32 ++ q)) = partsL (p ++ q) ↔ ¬ ((wdB (p.getLast?.getD 32) = true ∧ wdB (q.headD 32) = true) ∧ 0 < n) := by
  cases n with
  | zero => simp
  | succ n =>
    have h1 := (parts_app _ (p := p) (List.replicate (n + 1) 32 ++ q) (Nat.le_refl _)).1 (by rw [List.replicate_succ]; simp; intro _; decide)
    rw [h1, parts_reps]
    obtain ⟨i1, i2⟩ := parts_app _ (p := p) q (Nat.le_refl _)
    constructor
    · rintro h ⟨hh, -⟩
      have := i2 hh
      rw [← h, List.length_append] at this
      omega
    · intro hh
      rw [i1 (fun hx => hh ⟨hx, by omega⟩)]
end Go.Proofs.Ytnekeflgdadbcaa
