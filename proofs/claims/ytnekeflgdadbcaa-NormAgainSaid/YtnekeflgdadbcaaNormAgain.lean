/- NormAgain: the walk of the statement's function. -/
import Derived.Test.YtnekeflgdadbcaaNormTells
namespace Go.Proofs.Ytnekeflgdadbcaa
open Go.RowKit
set_option linter.unusedVariables false
set_option linter.unusedSimpArgs false

set_option maxRecDepth 100000 in
set_option maxHeartbeats 4000000 in
theorem normAgain_walk (w : World) (s : ByteArray) (hs : s.size ≤ maxLen) (hs2 : s.size ≤ 140737488351232) :
    Calls Try.prog 4 #[.string s] w (Gives (.bool true) w) := by
  have hl := Lib.hid (fun W => lives_any W)
  have hss : s.size ≤ 9223372036854775807 := by omega
  by_cases h1 : s.size ≤ 1000
  · have hNs := Lib.hid (fun W => norm_any s (by omega) W)
    have hbs := norm_bs (parts_bs _ (Nat.le_refl _) (codes_bs s)) false
    have hcX : codes (strOfNums (normS (codes s))) = normS (codes s) := codes_str hbs
    have hXs : (strOfNums (normS (codes s))).size ≤ s.size := by rw [strOfNums_size]; have := normS_len (codes s); rw [codes_length] at this; exact this
    have hNx := Lib.hid (fun W => norm_any (strOfNums (normS (codes s))) (by omega) W)
    rw [hcX, normS_again] at hNx
    have hSm := Lib.hid (fun W => nsame_any (strOfNums (normS (codes s))) s (by omega) (by omega) W)
    rw [hcX, parts_normS, show decide (partsL (codes s) = partsL (codes s)) = true by simp] at hSm
    have hbl : Hid (∀ i : Nat, (codes (strOfNums (normS (codes s))))[i]? = some 32 → (∃ c, (codes (strOfNums (normS (codes s))))[i + 1]? = some c ∧ c ≠ 32) ∧ i ≠ 0) := Lib.hid (by
      rw [hcX]
      intro i hi
      obtain ⟨q1, q2⟩ := norm_blanks _ false (parts_good _ (Nat.le_refl (codes s).length)) i hi
      exact ⟨q1, fun e => absurd (q2 e) (by simp)⟩)
    have hbX := Lib.hid (codes_bs (strOfNums (normS (codes s))))
    clear hcX hbs hs hs2
    generalize strOfNums (normS (codes s)) = X at *
    have hL := Lib.hid (codes_length X)
    have hXX := beq_same X
    have h1i : (s.size : Int) ≤ 1000 := by omega
    have hXi : (X.size : Int) ≤ (s.size : Int) := by omega
    have hX2 : X.size ≤ 1000 := by omega
    clear h1 hXs
    go_enter Try.func4, Try.ntmps4
    go_wp2_with fail
    refine (hNs.out w).mono ?_
    rintro e w1 ⟨rfl, b1⟩
    have B1 := Lib.hid b1
    clear b1 hNs
    go_wp2_with fail
    refine (hl.out w1).mono ?_
    rintro e w2 ⟨rfl, b2⟩
    have B2 := Lib.hid (B1.out.trans (b2.mono B1.out.size))
    clear b2 hl B1
    go_wp2_with fail
    refine (hNx.out w2).mono ?_
    rintro e w3 ⟨rfl, b3⟩
    have B3 := Lib.hid (B2.out.trans (b3.mono B2.out.size))
    clear b3 hNx B2
    go_wp2_with fail
    refine (hSm.out w3).mono ?_
    rintro e w4 ⟨rfl, b4⟩
    have B4 := Lib.hid (B3.out.trans (b4.mono B3.out.size))
    clear b4 hSm B3
    go_wp2
    go_loopw [4] (fun i wr => ∃ k : Nat, k ≤ X.size ∧ i = .int .i64 k ∧ Hid (Below w.heap.size w wr)) (fun i _ => X.size - (intOf i).toNat)
    case atStart => exact ⟨0, by omega, rfl, B4⟩
    case round =>
      obtain ⟨k, hk, rfl, hB⟩ := hrel
      by_cases hlt : k < X.size
      · have gi := ix X k hlt
        have hkL : k < (codes X).length := by have := hL.out; omega
        have hb2 : Hid ((codes X).getD k 0 = 32 → k ≠ 0 ∧ k + 1 < X.size ∧ (codes X).getD (k + 1) 0 ≠ 32) := Lib.hid (fun e => by
          obtain ⟨⟨c, q1, q2⟩, q3⟩ := hbl.out k (by rw [List.getElem?_eq_getElem hkL]; simpa [List.getD, hkL] using e)
          have q4 := (List.getElem?_eq_some_iff.1 q1).1
          refine ⟨q3, by have := hL.out; omega, ?_⟩
          simp only [List.getD, q1, Option.getD_some]; exact q2)
        by_cases h32 : (codes X).getD k 0 = 32
        · obtain ⟨n0, n1, n2⟩ := hb2.out h32
          have gi2 := ix X (k + 1) n1
          rw [show ((k + 1 : Nat) : Int) = (k : Int) + 1 by omega] at gi2
          have hne : ((codes X).getD (k + 1) 0 == 32) = false := by simpa using n2
          have hne2 : ¬ (codes X).getD (k + 1) 0 = 32 := n2
          rw [h32] at gi
          have k0 : ¬ (k : Int) = 0 := by omega
          have k1 : ¬ (k : Int) = (X.size : Int) - 1 := by omega
          have bk0 : ((k : Int) == 0) = false := by simpa using k0
          have bk1 : ((k : Int) == (X.size : Int) - 1) = false := by simpa using k1
          have nk0 : ¬ k = 0 := n0
          clear hb2 h32 n0 n2 hkL
          generalize (codes X).getD (k + 1) 0 = c2 at *
          go_wp2
          go_roundw
          case rel => exact ⟨k + 1, by omega, by go_num, hB⟩
          case measure => simp [intOf]; omega
        · have hne : ((codes X).getD k 0 == 32) = false := by simpa using h32
          clear hb2 hkL
          generalize (codes X).getD k 0 = c2 at *
          go_wp2
          go_roundw
          case rel => exact ⟨k + 1, by omega, by go_num, hB⟩
          case measure => simp [intOf]; omega
      · go_wp2
        go_ret
        exact ⟨rfl, hB.out⟩
  · have h1i : ¬ (s.size : Int) ≤ 1000 := by omega
    clear h1
    go_enter Try.func4, Try.ntmps4
    go_wp2_with fail
    refine (hl.out w).mono ?_
    rintro e w1 ⟨rfl, b1⟩
    go_wp2_with fail
    go_ret
    exact ⟨rfl, b1⟩
end Go.Proofs.Ytnekeflgdadbcaa
