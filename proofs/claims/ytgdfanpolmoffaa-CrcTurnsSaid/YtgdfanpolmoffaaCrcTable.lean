/- crc's tables. -/
import Derived.Test.YtgdfanpolmoffaaCrcMore
import Derived.Deep.WholeRow
namespace Go.Proofs.Ytgdfanpolmoffaa
open Go.RowKit
set_option linter.unusedVariables false

theorem shift_bit (r k : Nat) (hr : r < 4294967296) : (bits .and .u32 ((r : Int) / 2 ^ k) 1 == 1) = r.testBit k := by
  have e : ((r : Int) / 2 ^ k) = ((r / 2 ^ k : Nat) : Int) := by push_cast; rfl
  rw [e, u32_and1 (Nat.lt_of_le_of_lt (Nat.div_le_self _ _) hr), Nat.testBit_eq_decide_div_mod_eq]
  by_cases h : r / 2 ^ k % 2 = 1
  · rw [h]; rfl
  · rw [show r / 2 ^ k % 2 = 0 by omega]; rfl

set_option maxHeartbeats 1000000 in
theorem of_any (m r : Nat) (hr : r < 4294967296) (w : World) : Calls Try.prog 22 #[.agg (nums .u32 (tab m)).toArray, .int .u32 r] w fun e w' => e = .returned (.int .u32 ((steps m r : Nat) : Int)) ∧ Below w.heap.size w w' := by
  have hlen := tab_length m
  have hat := fun i h => tab_at m (i := i) h
  have hcell : ∀ i, i < 32 → (w.alloc (.cells (nums .u32 (tab m)).toArray 40)).cell? ⟨w.heap.size, i, none⟩ = some (.int .u32 ((steps m (2 ^ i) : Nat) : Int)) := by
    intro i hi
    rw [cell_of_row _ _ _ _ _ _ (heap_alloc_new w _), ← hat i hi]
    simp [nums, List.getD, hlen, hi]
  have hf : Hid (steps m r = steps m (r % 2 ^ 32)) := Lib.hid (by rw [Nat.mod_eq_of_lt (show r < 2 ^ 32 by omega)])
  generalize steps m r = F at *
  go_enter Try.func22, Try.ntmps22
  go_wp2
  have hbel : Hid (Below w.heap.size w (w.alloc (.cells (nums .u32 (tab m)).toArray 40))) := Lib.hid ((Below.refl _ w).alloc (Nat.le_refl _) _)
  have hcell' := Lib.hid hcell
  generalize w.alloc (.cells (nums .u32 (tab m)).toArray 40) = w1 at *
  generalize nums .u32 (tab m) = row at *
  clear hcell hat hlen
  go_loop [5, 7] (fun x y => ∃ (k t : Nat), k ≤ 32 ∧ Hid (t = steps m (r % 2 ^ k)) ∧ t < 4294967296 ∧ x = .int .u32 t ∧ y = .int .i64 k) (fun _ y => 32 - (intOf y).toNat)
  case atStart => exact ⟨0, 0, by omega, Lib.hid (by rw [Nat.pow_zero, Nat.mod_one, steps_zero]), by omega, rfl, rfl⟩
  case round =>
    obtain ⟨k, t, hk, ht, htu, rfl, rfl⟩ := hrel
    by_cases hlt : k < 32
    · have hc := hcell'.out k hlt
      have hs := steps_lt (bit_lt hlt) m
      have e1 := u32_xor t _ htu hs
      have hx := xor_lt32 htu hs
      have hstep := table_step m r k
      rw [← ht.out] at hstep
      generalize steps m (2 ^ k) = v at *
      have hq := shift_bit r k hr
      by_cases hb : r.testBit k
      · rw [hb] at hq
        rw [if_pos hb] at hstep
        have hstep' := Lib.hid hstep
        clear hstep hcell'
        go_wp2
        go_round
        case rel => exact ⟨k + 1, t ^^^ v, by omega, Lib.hid hstep'.out.symm, hx, rfl, by go_num⟩
        case measure => simp [intOf]; omega
      · rw [if_neg hb] at hstep
        rw [Bool.eq_false_iff.2 hb] at hq
        have hstep' := Lib.hid hstep
        clear hstep hcell'
        go_wp2
        go_round
        case rel => exact ⟨k + 1, t, by omega, Lib.hid hstep'.out.symm, htu, rfl, by go_num⟩
        case measure => simp [intOf]; omega
    · have hfin : Hid ((t : Int) = (F : Int)) := Lib.hid (by rw [hf.out, ht.out, show k = 32 by omega])
      go_wp2
      go_ret
      exact ⟨ret_int hfin.out, hbel.out⟩
end Go.Proofs.Ytgdfanpolmoffaa
