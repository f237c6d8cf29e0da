/- norm.Same: are the parts the same? -/
import Derived.Test.YtnekeflgdadbcaaNormParts
import Derived.Test.YtnekeflgdadbcaaShelf
namespace Go.Proofs.Ytnekeflgdadbcaa
open Go.RowKit
set_option linter.unusedVariables false
set_option linter.unusedSimpArgs false

theorem inj_row {a b : List (List Int)} (ha : ∀ l ∈ a, Bs l) (hb : ∀ l ∈ b, Bs l) (h : a.map strOfNums = b.map strOfNums) : a = b := by
  induction a generalizing b with
  | nil => cases b with
    | nil => rfl
    | cons y b => simp at h
  | cons x a ih => cases b with
    | nil => simp at h
    | cons y b =>
      simp only [List.map_cons, List.cons.injEq] at h
      have h1 : x = y := by rw [← codes_str (ha x (by simp)), h.1, codes_str (hb y (by simp))]
      rw [h1, ih (fun l hl => ha l (by simp [hl])) (fun l hl => hb l (by simp [hl])) h.2]
theorem parts_bs : ∀ (n : Nat) {L : List Int}, L.length ≤ n → Bs L → ∀ l ∈ partsL L, Bs l := by
  intro n
  induction n with
  | zero => intro L h hb l hl; obtain rfl : L = [] := List.eq_nil_of_length_eq_zero (by omega); rw [partsL_nil] at hl; simp at hl
  | succ n ih =>
    intro L h hb l hl
    cases L with
    | nil => rw [partsL_nil] at hl; simp at hl
    | cons c r =>
      have hc : Bs r := fun x hx => hb x (by simp [hx])
      by_cases hw : wdB c = true
      · rw [partsL_word hw] at hl
        rcases List.mem_cons.1 hl with rfl | hl
        · intro x hx
          rcases List.mem_cons.1 hx with rfl | hx
          · exact hb _ (by simp)
          · exact hc x ((List.takeWhile_sublist _).subset hx)
        · have hle : (r.dropWhile wdB).length ≤ r.length := (List.dropWhile_sublist _).length_le
          exact ih (by simp at h; omega) (fun x hx => hc x ((List.dropWhile_sublist _).subset hx)) l hl
      · have hw' : wdB c = false := by simpa using hw
        by_cases h2 : c = 32
        · subst h2
          rw [partsL_blank] at hl
          exact ih (by simp at h; omega) hc l hl
        · rw [partsL_other hw' h2] at hl
          rcases List.mem_cons.1 hl with rfl | hl
          · intro x hx; simp at hx; subst hx; exact hb _ (by simp)
          · exact ih (by simp at h; omega) hc l hl

theorem equal_any (a1 : Option Addr) (c1 : Nat) (l1 : List ByteArray) (a2 : Option Addr) (c2 : Nat) (l2 : List ByteArray) (w : World) (hb1 : l1.length ≤ 100000) (hb2 : l2.length ≤ 100000) (s1 : SeesT w.heap.size w a1 l1) (s2 : SeesT w.heap.size w a2 l2) :
    Calls Try.prog 21 #[.slice a1 l1.length c1, .slice a2 l2.length c2] w (Gives (.bool (decide (l1 = l2))) w) := by
  by_cases hn : l1.length = l2.length
  · rcases s1 with rfl | ⟨b1, o1, rfl, -, g1⟩
    · refine (Try.slices_Equal_string_empty a1 a2 c1 l2.length c2 w (by omega)).mono ?_
      rintro e w' ⟨rfl, rfl⟩
      have : l2 = [] := List.eq_nil_of_length_eq_zero (by simpa using hn.symm)
      subst this
      exact ⟨by simp, Below.refl _ _⟩
    rcases s2 with rfl | ⟨b2, o2, rfl, -, g2⟩
    · have : l1 = [] := List.eq_nil_of_length_eq_zero (by simpa using hn)
      subst this
      refine (Try.slices_Equal_string_empty _ a2 c1 0 c2 w (by omega)).mono ?_
      rintro e w' ⟨rfl, rfl⟩
      exact ⟨by simp, Below.refl _ _⟩
    refine (Try.slices_Equal_string b1 o1 l1.length c1 b2 o2 l2.length c2 l1 l2 w (Nat.le_refl _) (Nat.le_refl _) (by omega) (by omega) g1 g2).mono ?_
    rintro e w' ⟨rfl, q, rfl⟩
    exact ⟨by simp, Below.drewN (Below.refl _ _) q⟩
  · refine (Try.slices_Equal_string_lens a1 a2 l1.length c1 l2.length c2 w hn).mono ?_
    rintro e w' ⟨rfl, rfl⟩
    have : decide (l1 = l2) = false := by simp; intro e; exact hn (by rw [e])
    rw [this]
    exact ⟨rfl, Below.refl _ _⟩
end Go.Proofs.Ytnekeflgdadbcaa
