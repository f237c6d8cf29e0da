/- A value's text: the program's and the document's. -/
import Derived.Test.YtpbminoefmpmpaaDoorValClip
import Derived.Test.YtpbminoefmpmpaaDoorTable
namespace Go.Proofs.YtpbminoefmpmpaaDoor
open Go.RowKit
set_option linter.unusedVariables false

/-- A text of these bytes. -/
def strB (l : List UInt8) : ByteArray := ⟨l.toArray⟩
theorem strB_cons (c : UInt8) (l : List UInt8) : strB [c] ++ strB l = strB (c :: l) := by
  apply ByteArray.ext
  apply Array.toList_inj.1
  simp [strB]

theorem itoa_any (n : Int) (h0 : -9223372036854775808 ≤ n) (h1 : n ≤ 9223372036854775807) (w : World) (ht : Tab w) : Calls Tryd.prog 40 #[.int .i64 n] w (Gives (.string (strB (Lib.itoa n))) w) := by
  refine (Tryd.strconv_Itoa n h0 h1 w ht).mono ?_
  rintro e w' ⟨rfl, k, os, rfl⟩
  exact ⟨rfl, below_drewn w k os⟩
theorem show_max {v : Int} (h : v = 1099511627776) : showV v = infT := by subst h; decide
theorem show_min {v : Int} (h : v = -1099511627776) : showV v = ninfT := by subst h; decide
theorem show_mid {v : Int} (h : ¬ v = 1099511627776) (h2 : ¬ v = -1099511627776) : showV v = Lib.itoa v := by unfold showV; rw [if_neg h, if_neg h2]

theorem show_any (n : Int) (w : World) (ht : Tab w) : Calls Tryd.prog 32 #[.int .i64 n] w (Gives (.string (strB (showV (clip n)))) w) := by
  have hc := Lib.hid (clip_any n)
  have hi := clip_in n
  generalize clip n = v at *
  have hit := Lib.hid (fun w ht => itoa_any v (by omega) (by omega) w ht)
  by_cases h1 : v = 1099511627776
  · rw [show_max h1]
    go_enter Tryd.func32, Tryd.ntmps32
    go_wp2_with fail
    refine (hc.out _).mono ?_
    rintro e w' ⟨rfl, rfl⟩
    go_wp2
    go_ret
    exact ⟨rfl, Below.refl _ _⟩
  · have d1 : (v == 1099511627776) = false := by simp [h1]
    by_cases h2 : v = -1099511627776
    · rw [show_min h2]
      go_enter Tryd.func32, Tryd.ntmps32
      go_wp2_with fail
      refine (hc.out _).mono ?_
      rintro e w' ⟨rfl, rfl⟩
      go_wp2
      go_ret
      exact ⟨rfl, Below.refl _ _⟩
    · have d2 : (v == -1099511627776) = false := by simp [h2]
      rw [show_mid h1 h2]
      generalize Lib.itoa v = T at *
      go_enter Tryd.func32, Tryd.ntmps32
      go_wp2_with fail
      refine (hc.out _).mono ?_
      rintro e w' ⟨rfl, rfl⟩
      go_wp2_with fail
      refine (hit.out _ ht).mono ?_
      rintro e w' ⟨rfl, hb⟩
      go_wp2
      go_ret
      exact ⟨rfl, hb⟩

def digU (d : Int) : UInt8 := UInt8.ofNat (48 + d.toNat)
theorem dig_slice (d : Int) (h0 : 0 ≤ d) (h1 : d < 10) (W : World) : (Instr.slice 9 (.string ⟨#[48, 49, 50, 51, 52, 53, 54, 55, 56, 57]⟩) (some (.int .i64 d)) (some (.int .i64 (d + 1))) none).run Tryd.prog W = .ok (.string (strB [digU d])) W := by
  have : d = 0 ∨ d = 1 ∨ d = 2 ∨ d = 3 ∨ d = 4 ∨ d = 5 ∨ d = 6 ∨ d = 7 ∨ d = 8 ∨ d = 9 := by omega
  rcases this with rfl | rfl | rfl | rfl | rfl | rfl | rfl | rfl | rfl | rfl <;> rfl
/-- Digits ahead of those that stand there. -/
def rest10 (m : Nat) (s : List UInt8) : List UInt8 := if m = 0 then s else Lib.decDigits m ++ s
theorem rest10_len (m : Nat) (s : List UInt8) : s.length ≤ (rest10 m s).length := by unfold rest10; split <;> simp
theorem strB_size (l : List UInt8) : (strB l).size = l.length := by simp [strB, ByteArray.size]
theorem rest10_zero {m : Nat} {s : List UInt8} (h : ¬ 0 < m) : rest10 m s = s := by unfold rest10; rw [if_pos (by omega)]
theorem rest10_step {m : Nat} {s : List UInt8} (h : 0 < m) : rest10 (m / 10) (digU ((m % 10 : Nat) : Int) :: s) = rest10 m s := by
  unfold rest10
  rw [if_neg (show ¬ m = 0 by omega)]
  by_cases h1 : m < 10
  · rw [if_pos (by omega), Lib.decDigits_one h1, Nat.mod_eq_of_lt h1]
    simp [digU]
  · rw [if_neg (by omega)]
    conv => rhs; rw [Lib.decDigits, dif_neg h1]
    simp only [digU, Int.toNat_natCast, List.append_assoc, List.singleton_append]
theorem rest10_first (u : Nat) : rest10 (u / 10) [digU ((u % 10 : Nat) : Int)] = Lib.decDigits u := by
  by_cases h : u = 0
  · subst h; decide +kernel
  · rw [rest10_step (by omega)]
    unfold rest10; rw [if_neg h]; simp

theorem digits_nat (u : Nat) (hu : u < 4611686018427387904) (w : World) : Calls Tryd.prog 46 #[.int .i64 u] w fun e w' => e = .returned (.string (strB (Lib.decDigits u))) ∧ w = w' := by
  have hf := Lib.hid (rest10_first u)
  have hF : (Lib.decDigits u).length ≤ 21 := by
    have := Lib.itoa_length_le (u : Int) (by omega) (by omega)
    rwa [Lib.itoa_nonneg] at this
  generalize Lib.decDigits u = F at *
  have d0 : decide ((u : Int) < 0) = false := by simp
  have t1 : ((u : Int)).tdiv 10 = ((u / 10 : Nat) : Int) := by rw [Int.tdiv_eq_ediv_of_nonneg (by omega)]; omega
  have t2 : ((u : Int)).tmod 10 = ((u % 10 : Nat) : Int) := by rw [Int.tmod_eq_emod_of_nonneg (by omega)]; omega
  have hsl := dig_slice ((u % 10 : Nat) : Int) (by omega) (by omega)
  have hm9 : ((u % 10 : Nat) : Int) < 10 := by omega
  have hu10 : u / 10 < 4611686018427387904 := by omega
  generalize digU ((u % 10 : Nat) : Int) = c0 at *
  generalize hq : u % 10 = r0 at *
  generalize u / 10 = q0 at *
  clear hq
  go_enter Tryd.func46, Tryd.ntmps46
  go_wp2
  go_loop [0, 3] (fun a b => ∃ (m : Nat) (s : List UInt8), m < 4611686018427387904 ∧ Hid (rest10 m s = F) ∧ a = .int .i64 m ∧ b = .string (strB s)) (fun a _ => (intOf a).toNat)
  case atStart => exact ⟨q0, [c0], hu10, hf, rfl, rfl⟩
  case round =>
    obtain ⟨m, s, hm, hr, rfl, rfl⟩ := hrel
    by_cases hpos : 0 < m
    · have t1 : ((m : Int)).tdiv 10 = ((m / 10 : Nat) : Int) := by rw [Int.tdiv_eq_ediv_of_nonneg (by omega)]; omega
      have t2 : ((m : Int)).tmod 10 = ((m % 10 : Nat) : Int) := by rw [Int.tmod_eq_emod_of_nonneg (by omega)]; omega
      have hsl := dig_slice ((m % 10 : Nat) : Int) (by omega) (by omega)
      have hm9 : ((m % 10 : Nat) : Int) < 10 := by omega
      have hst := Lib.hid (rest10_step (s := s) hpos)
      have hlt : m / 10 < m := by omega
      have hcons := strB_cons (digU ((m % 10 : Nat) : Int)) s
      have hsz : ¬ 9223372036854775807 < (strB [digU ((m % 10 : Nat) : Int)]).size + (strB s).size := by
        have h1 := rest10_len m s
        rw [hr.out] at h1
        rw [strB_size, strB_size]; simp; omega
      generalize digU ((m % 10 : Nat) : Int) = c at *
      generalize m % 10 = r at *
      generalize m / 10 = q at *
      go_wp2
      go_round
      case rel => exact ⟨q, c :: s, by omega, Lib.hid (by rw [hst.out, hr.out]), by go_num, rfl⟩
      case measure => simp [intOf]; omega
    · have hz := Lib.hid (rest10_zero (s := s) hpos)
      have d4 : decide ((0 : Int) < (m : Int)) = false := by simp; omega
      have d5 : m = 0 := by omega
      go_wp2
      go_ret
      exact ⟨by rw [← hr.out, hz.out]; rfl, rfl⟩
theorem digits_any (n : Int) (h0 : -4611686018427387904 < n) (h1 : n < 4611686018427387904) (w : World) : Calls Tryd.prog 46 #[.int .i64 n] w fun e w' => e = .returned (.string (strB (Lib.itoa n))) ∧ w = w' := by
  by_cases hn : n < 0
  · obtain ⟨u, hu⟩ : ∃ u : Nat, -n = (u : Int) := ⟨n.natAbs, by omega⟩
    have hc := Lib.hid (fun w => digits_nat u (by omega) w)
    have hit : Lib.itoa n = 45 :: Lib.decDigits u := by rw [show n = -(u : Int) by omega, Lib.itoa_neg u (by omega)]
    have hF : (Lib.decDigits u).length ≤ 21 := by
      have := Lib.itoa_length_le (u : Int) (by omega) (by omega)
      rwa [Lib.itoa_nonneg] at this
    rw [hit, ← strB_cons]
    generalize Lib.decDigits u = F at *
    have hsz : ¬ 9223372036854775807 < (⟨#[45]⟩ : ByteArray).size + (strB F).size := by
      rw [strB_size]; show ¬ 9223372036854775807 < 1 + _; omega
    clear hit
    go_enter Tryd.func46, Tryd.ntmps46
    go_wp2_with fail
    refine (hc.out _).mono ?_
    rintro e w' ⟨rfl, rfl⟩
    go_wp2
    go_ret
    exact ⟨rfl, rfl⟩
  · obtain ⟨u, rfl⟩ := Int.eq_ofNat_of_zero_le (show 0 ≤ n by omega)
    rw [Lib.itoa_nonneg]
    exact digits_nat u (by omega) w
end Go.Proofs.YtpbminoefmpmpaaDoor
