/- The text of a sum. -/
import Derived.Test.YtnpgkpljmifjdaaFnvLess
namespace Go.Proofs.Ytnpgkpljmifjdaa
open Go.RowKit
set_option linter.unusedVariables false
/-- A digit of base sixteen; the lowest k ones of a number, the highest first. -/
def hexC (d : Int) : Int := if d < 10 then 48 + d else 87 + d
def low (s : Int) : Nat → List Int
  | 0 => []
  | k + 1 => hexC (s / 16 ^ k % 16) :: low s k
theorem low_length (s : Int) (k : Nat) : (low s k).length = k := by
  induction k with
  | zero => rfl
  | succ k ih => simp [low, ih]
theorem infoU8 : (Try.prog.info? 5).map (fun i => (i.zero, i.size, i.bytes)) = some (some (.int .u8 0), 1, 1) := by kernel_rfl
/-- The row, when the lowest k digits stand in it. -/
def rowL (s : Int) (k : Nat) : List Int := List.replicate (16 - k) 0 ++ low s k
theorem made16 (s : Int) : (madeCells (Value.int .u8 0).cells (16 * 1)).toList = nums .u8 (rowL s 0) := made_zero .u8 16
theorem rowL_set (s : Int) (k : Nat) (h : k < 16) : (rowL s k).set (15 - k) (hexC (s / 16 ^ k % 16)) = rowL s (k + 1) := by
  unfold rowL
  rw [List.set_append_left _ _ (by simp; omega), show 16 - k = (15 - k) + 1 by omega, List.replicate_succ', List.set_append_right _ _ (by simp)]
  simp [low, show 16 - (k + 1) = 15 - k by omega]
theorem hex_index (d : Int) (h0 : 0 ≤ d) (h1 : d < 16) (W : World) : (Instr.index 9 (.string ⟨#[48, 49, 50, 51, 52, 53, 54, 55, 56, 57, 97, 98, 99, 100, 101, 102]⟩) (.int .u64 d)).run Try.prog W = .ok (.int .u8 (hexC d)) W := by
  have : d = 0 ∨ d = 1 ∨ d = 2 ∨ d = 3 ∨ d = 4 ∨ d = 5 ∨ d = 6 ∨ d = 7 ∨ d = 8 ∨ d = 9 ∨ d = 10 ∨ d = 11 ∨ d = 12 ∨ d = 13 ∨ d = 14 ∨ d = 15 := by omega
  rcases this with rfl | rfl | rfl | rfl | rfl | rfl | rfl | rfl | rfl | rfl | rfl | rfl | rfl | rfl | rfl | rfl <;> rfl
theorem u64_and15 {x : Int} (h0 : 0 ≤ x) (h1 : x ≤ 18446744073709551615) : bits .and .u64 x 15 = x % 16 := by
  obtain ⟨n, rfl⟩ := Int.eq_ofNat_of_zero_le h0
  rw [show (15 : Int) = ((15 : Nat) : Int) by rfl, bits_and_u64_nat _ _ (by omega) (by decide), show (15 : Nat) = 2 ^ 4 - 1 by rfl, Nat.and_two_pow_sub_one_eq_mod]
  omega
set_option maxRecDepth 100000 in
set_option maxHeartbeats 400000 in
theorem show_any (s : Int) (hs : InU s) (w : World) : Calls Try.prog 13 #[.int .u64 s] w fun e w' => e = .returned (.string (strOfNums (low s 16))) ∧ Below w.heap.size w w' := by
  obtain ⟨i0, hi, hz0, hz1, hz2⟩ := info_parts infoU8
  unfold InU at hs
  go_enter Try.func13, Try.ntmps13
  go_wp2_with (at_make; refine wpList_make_full _ rfl _ _ 23 rfl w.heap.size 5 i0 (.int .u8 0) 1 Try.underlying23 hi hz0 hz1 .i64 .i64 _ _ 16 rfl rfl rfl rfl (by rw [hz2]; omega) (by decide) (Nat.le_refl _) ?_; intro w1 hown hgrow)
  have hb : Below w.heap.size w w1 := (Below.refl _ _).grown hgrow (Nat.le_refl _) (by simp)
  clear hgrow
  go_loopw [0, 4, 8] (fun x _ i wr => ∃ (k : Nat) (q : Int), k ≤ 16 ∧ 0 ≤ q ∧ q ≤ s ∧ Hid (q = s / 16 ^ k) ∧ wr.ownsRow w.heap.size 5 1 (.slice (some ⟨w.heap.size, 0, none⟩) 16 16) 16 (nums .u8 (rowL s k)) ∧ Below w.heap.size w wr ∧ x = .int .u64 q ∧ i = .int .i64 k) (fun _ _ i _ => 16 - (intOf i).toNat)
  case atStart => exact ⟨0, s, by omega, hs.1, by omega, Lib.hid (by simp), made16 s ▸ hown, hb, rfl, rfl⟩
  case round =>
    obtain ⟨k, q, hk, hq0, hq1, hq, hown, hb, rfl, rfl⟩ := hrel
    by_cases hlt : k < 16
    · obtain ⟨m, hm⟩ : ∃ m : Nat, m + k = 15 := ⟨15 - k, by omega⟩
      have hm' := Lib.hid hm
      have em : (15 : Int) - (k : Int) = (m : Int) := by omega
      have hm15 : (m : Int) < 16 := by omega
      clear hm
      have hcell := hown.cellAt m (by omega)
      have hfz := hown.frozenAt m
      have hq' : Hid (q / 16 = s / 16 ^ (k + 1)) := Lib.hid (by rw [hq.out, Int.ediv_ediv_of_nonneg (by exact Int.pow_nonneg (by omega)), Int.pow_succ])
      have e1 := u64_and15 hq0 (by omega)
      have hx := hex_index (q % 16) (by omega) (by omega)
      have hst := (hown.stored m (.int .u8 (hexC (q % 16)))).1
      have hrow : (nums .u8 (rowL s k)).set m (.int .u8 (hexC (q % 16))) = nums .u8 (rowL s (k + 1)) := by
        rw [← rowL_set s k hlt, ← hq.out, show 15 - k = m by have := hm'.out; omega]
        simp [nums, List.map_set]
      rw [hrow] at hst
      have hst' := Lib.hid hst
      obtain ⟨u, hu⟩ : ∃ u, (nums .u8 (rowL s k))[m]? = some u := by
        have : m < (nums .u8 (rowL s k)).length := by simp [nums, rowL, low_length]; omega
        exact ⟨_, List.getElem?_eq_getElem this⟩
      rw [hu] at hcell
      clear hst hrow hown hu
      go_wp2
      go_roundw
      case rel => exact ⟨k + 1, q / 16, by omega, by omega, by omega, hq', hst'.out, hb.setCell (Nat.le_refl _) _, rfl, by go_num⟩
      case measure => simp [intOf]; omega
    · obtain ⟨a, cap, hv, _, hsees⟩ := sees_own hown
      injection hv with ha _ _
      subst ha
      have hL : rowL s k = low s 16 := by rw [show k = 16 by omega]; rfl
      rw [hL] at hsees
      have hcv := conv_sees (P := Try.prog) _ 9 5 Try.underlying23 Try.underlying5 Try.underlying9 hsees 16 16 (low_length s 16).symm
      clear hL hown
      obtain ⟨L, hLL⟩ : ∃ L, L = low s 16 := ⟨_, rfl⟩
      rw [← hLL] at hcv hsees
      have hLL' := Lib.hid hLL
      have hcv' := Lib.hid hcv
      clear hLL hsees hcv
      go_wp2_with (refine wpList_conv _ rfl (.tmp 21) 23 9 rfl _ _ hcv'.out rfl ?_)
      go_ret
      exact ⟨by rw [← hLL'.out]; rfl, hb⟩
theorem hex_slice (d : Int) (h0 : 0 ≤ d) (h1 : d < 16) (W : World) : (Instr.slice 9 (.string ⟨#[48, 49, 50, 51, 52, 53, 54, 55, 56, 57, 97, 98, 99, 100, 101, 102]⟩) (some (.int .i64 d)) (some (.int .i64 (d + 1))) none).run Try.prog W = .ok (.string (strOfNums [hexC d])) W := by
  have : d = 0 ∨ d = 1 ∨ d = 2 ∨ d = 3 ∨ d = 4 ∨ d = 5 ∨ d = 6 ∨ d = 7 ∨ d = 8 ∨ d = 9 ∨ d = 10 ∨ d = 11 ∨ d = 12 ∨ d = 13 ∨ d = 14 ∨ d = 15 := by omega
  rcases this with rfl | rfl | rfl | rfl | rfl | rfl | rfl | rfl | rfl | rfl | rfl | rfl | rfl | rfl | rfl | rfl <;> rfl
theorem strOfNums_cons (x : Int) (l : List Int) : strOfNums [x] ++ strOfNums l = strOfNums (x :: l) := by
  apply ByteArray.ext
  apply Array.toList_inj.1
  simp [strOfNums]
theorem refshow_any (s : Int) (hs : InU s) (w : World) : Calls Try.prog 16 #[.int .u64 s] w fun e w' => e = .returned (.string (strOfNums (low s 16))) ∧ w = w' := by
  unfold InU at hs
  go_enter Try.func16, Try.ntmps16
  go_wp2
  go_loop [0, 3, 4] (fun x y i => ∃ (k : Nat) (q : Int), k ≤ 16 ∧ 0 ≤ q ∧ q ≤ s ∧ Hid (q = s / 16 ^ k) ∧ x = .int .u64 q ∧ y = .string (strOfNums (low s k)) ∧ i = .int .i64 k) (fun _ _ i => 16 - (intOf i).toNat)
  case atStart => exact ⟨0, s, by omega, hs.1, by omega, Lib.hid (by simp), rfl, rfl, rfl⟩
  case round =>
    obtain ⟨k, q, hk, hq0, hq1, hq, rfl, rfl, rfl⟩ := hrel
    by_cases hlt : k < 16
    · have hsl := hex_slice (q % 16) (by omega) (by omega)
      have hcat : strOfNums [hexC (q % 16)] ++ strOfNums (low s k) = strOfNums (low s (k + 1)) := by rw [strOfNums_cons, hq.out]; rfl
      have hsz : ¬ 9223372036854775807 < (strOfNums [hexC (q % 16)]).size + (strOfNums (low s k)).size := by rw [strOfNums_size, strOfNums_size, low_length]; simp; omega
      have hq' : Hid (q / 16 = s / 16 ^ (k + 1)) := Lib.hid (by rw [hq.out, Int.ediv_ediv_of_nonneg (by exact Int.pow_nonneg (by omega)), Int.pow_succ])
      have e2 : IntKind.u64.wrap (q.tdiv 16) = q / 16 := u64_quo hq0 (by omega) (by omega)
      go_wp2
      go_round
      case rel => exact ⟨k + 1, q / 16, by omega, by omega, by omega, hq', rfl, rfl, by go_num⟩
      case measure => simp [intOf]; omega
    · obtain rfl : k = 16 := by omega
      obtain ⟨L, hL⟩ : ∃ L, L = low s 16 := ⟨_, rfl⟩
      rw [← hL]
      have hL' := Lib.hid hL
      clear hL
      go_wp2
      go_ret
      exact ⟨by rw [← hL'.out]; rfl, rfl⟩
end Go.Proofs.Ytnpgkpljmifjdaa
