/- FnvTexts: the walk of the statement's function. -/
import Derived.Test.YtnpgkpljmifjdaaFnvLives
import Derived.Test.YtnpgkpljmifjdaaDrawn
namespace Go.Proofs.Ytnpgkpljmifjdaa
open Go.RowKit
set_option linter.unusedVariables false
set_option linter.unusedSimpArgs false

theorem hexV_hexC {d : Int} (h0 : 0 ≤ d) (h1 : d < 16) : hexV (hexC d) = d := by
  unfold hexC hexV
  split <;> (try split) <;> (try split) <;> omega
theorem hexC_in {d : Int} (h0 : 0 ≤ d) (h1 : d < 16) : 0 ≤ hexC d ∧ hexC d ≤ 255 := by unfold hexC; split <;> omega
theorem low_bs {s : Int} (h : 0 ≤ s) (k : Nat) : Bs (low s k) := by
  induction k with
  | zero => intro x hx; cases hx
  | succ k ih =>
    intro x hx
    rcases List.mem_cons.1 hx with rfl | hx
    · exact hexC_in (by omega) (by omega)
    · exact ih x hx
theorem pl_low (n : Nat) (k : Nat) : ∀ t : Nat, pl (t : Int) (low (n : Int) k) = ((16 ^ k * t + n % 16 ^ k : Nat) : Int) := by
  induction k with
  | zero => intro t; simp [low, pl, Nat.mod_one]
  | succ k ih =>
    intro t
    have e : ((n : Int) / 16 ^ k % 16) = ((n / 16 ^ k % 16 : Nat) : Int) := by push_cast; rfl
    have h1 : n / 16 ^ k % 16 < 16 := Nat.mod_lt _ (by omega)
    have hv : hexV (hexC ((n : Int) / 16 ^ k % 16)) = ((n / 16 ^ k % 16 : Nat) : Int) := by rw [e]; exact hexV_hexC (by omega) (by omega)
    show pl (t : Int) (hexC ((n : Int) / 16 ^ k % 16) :: low (n : Int) k) = _
    rw [pl_next (by rw [hv]; omega), hv]
    rw [show (16 * (t : Int) + ((n / 16 ^ k % 16 : Nat) : Int)) = ((16 * t + n / 16 ^ k % 16 : Nat) : Int) by push_cast; rfl, ih]
    rw [Nat.pow_succ, Nat.mod_mul]
    congr 1
    generalize 16 ^ k = q
    generalize n / q % 16 = d
    generalize n % q = m
    rw [Nat.mul_add, ← Nat.mul_assoc]
    omega
theorem parsed_low {s : Int} (h : InU s) : parsed (strOfNums (low s 16)) = (s, 0) := by
  unfold InU at h
  have hp : pl 0 (codes (strOfNums (low s 16))) = s := by
    rw [codes_str (low_bs h.1 16)]
    obtain ⟨n, rfl⟩ := Int.eq_ofNat_of_zero_le h.1
    have := pl_low n 16 0
    rw [show ((0 : Nat) : Int) = 0 by rfl] at this
    rw [this]
    have : n % 16 ^ 16 = n := Nat.mod_eq_of_lt (by omega)
    rw [this]; simp
  have := parsed_ok (s := strOfNums (low s 16)) (by rw [strOfNums_size, low_length]) (by rw [hp]; exact h.1)
  rw [this, hp]

set_option maxRecDepth 100000 in
set_option maxHeartbeats 2000000 in
theorem fnvTexts_walk (w : World) (s : Int) (hsw : (Lit.int .u64 s).wf = true) (t : ByteArray) (ht : t.size ≤ maxLen) :
    Calls Try.prog 6 #[.int .u64 s, .string t] w (Gives (.bool true) w) := by
  have hsU : InU s := u64_wf hsw
  have ht' := ht
  unfold maxLen at ht'
  by_cases hbig : 1000 < t.size
  · go_enter Try.func6, Try.ntmps6
    go_wp2_with (go_at_call 7; refine (lives_any _).mono ?_; rintro e w' ⟨rfl, hb'⟩)
    go_ret
    exact ⟨rfl, hb'⟩
  · have hd : decide ((1000 : Int) < (t.size : Int)) = false := by simp; omega
    have c1 := fun w => show_any s hsU w
    have c2 := fun w => refshow_any s hsU w
    have c3 := fun w => parse_is _ _ _ (parsed_low hsU) w (by rw [strOfNums_size, low_length]; decide)
    have c4 := fun w => parse_any t w ht
    have c5 := fun w => refparse_any t w ht
    unfold parsedB at c5
    have hpp : parsed t = (0, 190) ∨ (parsed t).2 = 0 := by
      unfold parsed; split
      · right; rfl
      · left; rfl
    generalize parsed t = p at *
    obtain ⟨x, y⟩ := p
    simp only [] at c4 c5 hpp
    generalize strOfNums (low s 16) = T at *
    have c1' := Lib.hid c1
    have c2' := Lib.hid c2
    have c3' := Lib.hid c3
    have c4' := Lib.hid c4
    have c5' := Lib.hid c5
    clear c1 c2 c3 c4 c5
    rcases hpp with hpp | rfl
    · injection hpp with hx hy
      subst hx
      subst hy
      go_enter Try.func6, Try.ntmps6
      go_wp2_with fail
      refine (c1'.out _).mono ?_
      rintro e w1 ⟨rfl, hw1⟩
      go_wp2_with fail
      refine (c3'.out _).mono ?_
      rintro e w' ⟨rfl, rfl⟩
      go_wp2_with fail
      refine (c4'.out _).mono ?_
      rintro e w' ⟨rfl, rfl⟩
      go_wp2_with fail
      refine (c5'.out _).mono ?_
      rintro e w' ⟨rfl, rfl⟩
      go_wp2_with fail
      refine (lives_any _).mono ?_
      rintro e w4 ⟨rfl, hw4⟩
      go_wp2_with fail
      refine (c2'.out _).mono ?_
      rintro e w' ⟨rfl, rfl⟩
      go_wp2
      go_ret
      exact ⟨rfl, hw1.trans (hw4.mono hw1.size)⟩
    · go_enter Try.func6, Try.ntmps6
      go_wp2_with fail
      refine (c1'.out _).mono ?_
      rintro e w1 ⟨rfl, hw1⟩
      go_wp2_with fail
      refine (c3'.out _).mono ?_
      rintro e w' ⟨rfl, rfl⟩
      go_wp2_with fail
      refine (c4'.out _).mono ?_
      rintro e w' ⟨rfl, rfl⟩
      go_wp2_with fail
      refine (c5'.out _).mono ?_
      rintro e w' ⟨rfl, rfl⟩
      go_wp2_with fail
      refine (lives_any _).mono ?_
      rintro e w4 ⟨rfl, hw4⟩
      go_wp2_with fail
      refine (c2'.out _).mono ?_
      rintro e w' ⟨rfl, rfl⟩
      go_wp2
      go_ret
      exact ⟨rfl, hw1.trans (hw4.mono hw1.size)⟩
end Go.Proofs.Ytnpgkpljmifjdaa
