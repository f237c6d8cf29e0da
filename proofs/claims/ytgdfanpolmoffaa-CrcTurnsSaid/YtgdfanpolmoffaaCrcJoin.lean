/- crc.Zeros, Join. -/
import Derived.Test.YtgdfanpolmoffaaCrcZeros
namespace Go.Proofs.Ytgdfanpolmoffaa
open Go.RowKit
set_option linter.unusedVariables false
set_option linter.unusedSimpArgs false

theorem u32_noti {n : Int} (h0 : 0 ≤ n) (h : n < 4294967296) : bits .xor .u32 IntKind.u32.max n = 4294967295 - n := by
  obtain ⟨n, rfl⟩ := Int.eq_ofNat_of_zero_le h0
  rw [u32_not (by omega)]; omega
set_option maxHeartbeats 1000000 in
theorem zerosf_any (n : Int) (w : World) : Calls Try.prog 18 #[.int .i64 n] w fun e w' => e = .returned (.func (.func 20) #[] #[.pointer (some ⟨w.heap.size, 0, none⟩)]) ∧ w'.heap[w.heap.size]? = some (.cells #[.int .i64 n] 3 (0, 0)) ∧ Below w.heap.size w w' := by
  have hmf : ∀ (fn : Fn) (first cap : Array Value) (w : World), (Instr.makeFunc fn first cap).run Try.prog w = .ok (.func fn first cap) w := fun _ _ _ _ => rfl
  go_enter Try.func18, Try.ntmps18
  go_wp2
  go_ret
  exact ⟨rfl, heap_alloc_new w _, (Below.refl _ w).alloc (Nat.le_refl _) _⟩

set_option maxHeartbeats 1000000 in
theorem zeros_any (s : Nat) (hs : s < 4294967296) (n : Int) (hn : n ≤ 9223372036854775807) (w : World) : Calls Try.prog 13 #[.int .u32 s, .int .i64 n] w fun e w' => e = .returned (.int .u32 ((4294967295 - steps (8 * n.toNat) (4294967295 - s) : Nat) : Int)) ∧ Below w.heap.size w w' := by
  have e0 := u32_not hs
  have hz : 4294967295 - s < 4294967296 := by omega
  have hcl := fun b w hb => closure_any n hn (4294967295 - s) hz b w hb
  have e1 := u32_not (steps_lt hz (8 * n.toNat))
  generalize steps (8 * n.toNat) (4294967295 - s) = v at *
  generalize 4294967295 - s = z at *
  generalize 4294967295 - v = V at *
  have hcl' := Lib.hid hcl
  clear hcl
  go_enter Try.func13, Try.ntmps13
  go_wp2_with fail
  refine (zerosf_any _ _).mono ?_
  rintro e w1 ⟨rfl, hc1, hw1⟩
  go_wp2_with fail
  refine (hcl'.out _ _ hc1).mono ?_
  rintro e w2 ⟨rfl, hw2⟩
  go_wp2
  go_ret
  exact ⟨rfl, hw1.trans hw2⟩
set_option maxHeartbeats 1000000 in
theorem join_any (a b : Nat) (ha : a < 4294967296) (hb : b < 4294967296) (n : Int) (hn : n ≤ 9223372036854775807) (w : World) : Calls Try.prog 14 #[.int .u32 a, .int .u32 b, .int .i64 n] w fun e w' => e = .returned (.int .u32 ((steps (8 * n.toNat) a ^^^ b : Nat) : Int)) ∧ Below w.heap.size w w' := by
  have hcl := fun b w hb => closure_any n hn a ha b w hb
  have e1 := u32_xor _ b (steps_lt ha (8 * n.toNat)) hb
  generalize steps (8 * n.toNat) a = v at *
  generalize v ^^^ b = V at *
  have hcl' := Lib.hid hcl
  clear hcl
  go_enter Try.func14, Try.ntmps14
  go_wp2_with fail
  refine (zerosf_any _ _).mono ?_
  rintro e w1 ⟨rfl, hc1, hw1⟩
  go_wp2_with fail
  refine (hcl'.out _ _ hc1).mono ?_
  rintro e w2 ⟨rfl, hw2⟩
  go_wp2
  go_ret
  exact ⟨rfl, hw1.trans hw2⟩
end Go.Proofs.Ytgdfanpolmoffaa
