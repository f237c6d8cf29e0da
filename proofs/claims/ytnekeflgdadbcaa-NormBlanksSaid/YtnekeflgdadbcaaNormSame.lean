/- The document's Same: are two lists of texts the same? -/
import Derived.Test.YtnekeflgdadbcaaTexts
import Derived.IntWalk
namespace Go.Proofs.Ytnekeflgdadbcaa
open Go.RowKit
set_option linter.unusedVariables false
set_option linter.unusedSimpArgs false

theorem txt_ne {a b : ByteArray} (h : a ≠ b) : (a.toList == b.toList) = false := by
  rw [beq_eq_false_iff_ne]
  intro e
  apply h
  apply ByteArray.ext
  apply Array.toList_inj.1
  rw [← ByteArray.toList_eq, ← ByteArray.toList_eq]
  exact e
theorem same_any (a1 : Option Addr) (n1 c1 : Nat) (l1 : List ByteArray) (a2 : Option Addr) (n2 c2 : Nat) (l2 : List ByteArray) (w : World) (h1 : n1 = l1.length) (h2 : n2 = l2.length) (hc1 : n1 ≤ c1) (hc2 : n2 ≤ c2) (hb1 : n1 ≤ 100000) (hb2 : n2 ≤ 100000)
    (s1 : SeesT w.heap.size w a1 l1) (s2 : SeesT w.heap.size w a2 l2) :
    Calls Try.prog 9 #[.slice a1 n1 c1, .slice a2 n2 c2] w (Gives (.bool (decide (l1 = l2))) w) := by
  by_cases hn : n1 = n2
  · subst hn
    have hbi : (n1 : Int) ≤ 100000 := by omega
    have h1' := Lib.hid h1
    have h2' := Lib.hid h2
    have s1' := Lib.hid s1
    have s2' := Lib.hid s2
    clear h1 h2 s1 s2 hb1 hb2
    go_enter Try.func9, Try.ntmps9
    go_wp2
    go_loopw [5] (fun i wr => ∃ k : Nat, k ≤ n1 ∧ i = .int .i64 k ∧ Hid (l1.take k = l2.take k) ∧ Hid (Below w.heap.size w wr)) (fun i _ => n1 - (intOf i).toNat)
    case atStart => exact ⟨0, Nat.zero_le _, rfl, Lib.hid (by simp), Lib.hid (Below.refl _ _)⟩
    case round =>
      obtain ⟨k, hk, rfl, he, hB⟩ := hrel
      by_cases hlt : k < n1
      · rcases s1'.out.below hB.out with h | ⟨b1, o1, rfl, -, g1⟩
        · have := h1'.out; rw [h] at this; simp at this; omega
        rcases s2'.out.below hB.out with h | ⟨b2, o2, rfl, -, g2⟩
        · have := h2'.out; rw [h] at this; simp at this; omega
        have e1 := g1 k (by have := h1'.out; omega)
        have e2 := g2 k (by have := h2'.out; omega)
        clear g1 g2
        have hd : Hid (l1.getD k ⟨#[]⟩ = l2.getD k ⟨#[]⟩ → l1.take (k + 1) = l2.take (k + 1)) := Lib.hid fun h => by
          have q1 : k < l1.length := by have := h1'.out; omega
          have q2 : k < l2.length := by have := h2'.out; omega
          rw [List.take_succ_eq_append_getElem q1, List.take_succ_eq_append_getElem q2, he.out]
          simp [List.getD, q1, q2] at h
          rw [h]
        have hz : Hid (l1.getD k ⟨#[]⟩ ≠ l2.getD k ⟨#[]⟩ → decide (l1 = l2) = false) := Lib.hid fun h => by
          simp only [decide_eq_false_iff_not]
          intro e; exact h (by rw [e])
        generalize l1.getD k ⟨#[]⟩ = t1 at *
        generalize l2.getD k ⟨#[]⟩ = t2 at *
        by_cases ht : t1 = t2
        · subst ht
          have hd' := Lib.hid (hd.out rfl)
          clear hd hz
          go_wp2
          go_quiet (fail)
          go_wp2
          go_roundw
          case rel => exact ⟨k + 1, by omega, by go_num, hd', Lib.hid (Below.drewN hB.out nq)⟩
          case measure => simp [intOf]; omega
        · have hne := txt_ne ht
          have hz' := Lib.hid (hz.out ht)
          clear ht hd hz
          go_wp2
          go_quiet (fail)
          go_wp2
          go_ret
          exact ⟨by rw [hz'.out]; rfl, Below.drewN hB.out nq⟩
      · have hl : Hid (decide (l1 = l2) = true) := Lib.hid (by
          have hkn : k = n1 := by omega
          have := he.out
          rw [hkn] at this
          rw [List.take_of_length_le (by have := h1'.out; omega), List.take_of_length_le (by have := h2'.out; omega)] at this
          simpa using this)
        go_wp2
        go_ret
        exact ⟨by rw [hl.out]; rfl, hB.out⟩
  · have hl : Hid (decide (l1 = l2) = false) := Lib.hid (by
      simp only [decide_eq_false_iff_not]
      intro e; rw [e] at h1; omega)
    have hi1 : (n1 : Int) ≠ (n2 : Int) := by omega
    clear h1 h2 s1 s2 hb1 hb2 hn
    go_enter Try.func9, Try.ntmps9
    go_wp2
    go_ret
    exact ⟨by rw [hl.out]; rfl, Below.refl _ _⟩
end Go.Proofs.Ytnekeflgdadbcaa
