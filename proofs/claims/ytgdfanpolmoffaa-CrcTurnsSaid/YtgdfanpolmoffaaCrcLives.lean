/- 'lives' of the statements on crc. -/
import Derived.Test.YtgdfanpolmoffaaCrcJoin
import Derived.Lib.SlBytesConst
namespace Go.Proofs.Ytgdfanpolmoffaa
open Go.RowKit
set_option linter.unusedVariables false

/-- A constant text as bytes. -/
theorem conv_const (W : World) (C : Array Value) (n c h : Nat) (hh : h = W.heap.size) : (convert 22 22 (.slice (some ⟨h, 0, none⟩) n c)).run Try.prog (W.alloc (.cells C 5)) = .ok (.slice (some ⟨h, 0, none⟩) n c) (W.alloc (.cells C 5 (C.size, C.size + 1))) := by
  subst hh; exact Lib.run_convert_bytes_const W 22 5 C n c Try.underlying22 Try.underlying5

theorem n_a : csum 0 [49, 50, 51, 52] = 4131058926 := by decide +kernel
theorem n_b : csum 0 [53, 54, 55, 56, 57] = 2209703384 := by decide +kernel
theorem n_ab : csum 0 [49, 50, 51, 52, 53, 54, 55, 56, 57] = 3808858755 := by decide +kernel
theorem n_join : steps (8 * (5 : Int).toNat) 4131058926 ^^^ 2209703384 = 3808858755 := by decide +kernel
theorem n_more : csum 4131058926 [53, 54, 55, 56, 57] = 3808858755 := by decide +kernel
theorem n_nil : csum 0 [] = 0 := by decide +kernel
theorem n_z : 4294967295 - steps (8 * (2 : Int).toNat) (4294967295 - 4131058926) = 1242641655 := by decide +kernel
theorem n_z2 : csum 0 [49, 50, 51, 52, 0, 0] = 1242641655 := by decide +kernel
theorem n_5 : csum 0 [49, 50, 51, 53] = 72447981 := by decide +kernel

theorem up {w w' : World} (h : Below w.heap.size w w') (o : Obj) : Below w.heap.size w (w'.alloc o) := h.alloc h.size o
theorem on {w a b : World} (h : Below w.heap.size w a) (k : Below a.heap.size a b) : Below w.heap.size w b := h.trans (k.mono h.size)

set_option maxRecDepth 100000 in
set_option maxHeartbeats 2000000 in
theorem lives_any (w : World) : Calls Try.prog 7 #[] w (Gives (.bool true) w) := by
  have hcs := conv_const
  have s1 := fun a B w hc => sum_i a [49, 50, 51, 52] 4 4 rfl B w (by decide) (bs_lit (by decide)) hc 4131058926 (by rw [n_a]; rfl)
  have s2 := fun a B w hc => sum_i a [53, 54, 55, 56, 57] 5 5 rfl B w (by decide) (bs_lit (by decide)) hc 2209703384 (by rw [n_b]; rfl)
  have s3 := fun a B w hc => sum_i a [49, 50, 51, 52, 53, 54, 55, 56, 57] 9 9 rfl B w (by decide) (bs_lit (by decide)) hc 3808858755 (by rw [n_ab]; rfl)
  have s4 := fun w => join_any 4131058926 2209703384 (by decide) (by decide) 5 (by decide) w
  rw [n_join] at s4
  have s5 := fun a B w hc => more_i 4131058926 4131058926 rfl (by decide) a [53, 54, 55, 56, 57] 5 5 rfl B w (by decide) (bs_lit (by decide)) hc 3808858755 (by rw [n_more]; rfl)
  have s6 := fun w => sum_i none [] 0 0 rfl 0 w (by decide) (bs_lit (by decide)) .nil 0 (by rw [n_nil]; rfl)
  have s7 := fun w => zeros_any 4131058926 (by decide) 2 (by decide) w
  rw [n_z] at s7
  have s8 := fun a B w hc => sum_i a [49, 50, 51, 52, 0, 0] 6 6 rfl B w (by decide) (bs_lit (by decide)) hc 1242641655 (by rw [n_z2]; rfl)
  have s9 := fun a B w hc => whole_i 4131058926 a [49, 50, 51, 52] 4 4 rfl B w (by decide) (bs_lit (by decide)) hc 4131058926 (by rw [n_a]; rfl)
  have s10 := fun a B w hc => whole_i 4131058926 a [49, 50, 51, 53] 4 4 rfl B w (by decide) (bs_lit (by decide)) hc 72447981 (by rw [n_5]; rfl)
  have h1 := Lib.hid s1
  have h2 := Lib.hid s2
  have h3 := Lib.hid s3
  have h4 := Lib.hid s4
  have h5 := Lib.hid s5
  have h6 := Lib.hid s6
  have h7 := Lib.hid s7
  have h8 := Lib.hid s8
  have h9 := Lib.hid s9
  have h10 := Lib.hid s10
  clear s1 s2 s3 s4 s5 s6 s7 s8 s9 s10
  go_enter Try.func7, Try.ntmps7
  go_wp2_with fail
  refine (h1.out _ _ _ (by exact sees_at .u8 _ _ [49, 50, 51, 52] _ _ rfl rfl)).mono ?_
  rintro e w' ⟨rfl, rfl⟩
  go_wp2_with fail
  refine (h2.out _ _ _ (by exact sees_at .u8 _ _ [53, 54, 55, 56, 57] _ _ (by simp) rfl)).mono ?_
  rintro e w' ⟨rfl, rfl⟩
  go_wp2_with fail
  refine (h3.out _ _ _ (by exact sees_at .u8 _ _ [49, 50, 51, 52, 53, 54, 55, 56, 57] _ _ (by simp) rfl)).mono ?_
  rintro e w' ⟨rfl, rfl⟩
  go_wp2_with fail
  refine (h4.out _).mono ?_
  rintro e w1 ⟨rfl, hw1⟩
  go_wp2_with fail
  refine (h5.out _ _ _ (by exact sees_at .u8 _ _ [53, 54, 55, 56, 57] _ _ (by simp) rfl)).mono ?_
  rintro e w' ⟨rfl, rfl⟩
  go_wp2_with fail
  refine (h6.out _).mono ?_
  rintro e w' ⟨rfl, rfl⟩
  go_wp2_with fail
  refine (h7.out _).mono ?_
  rintro e w2 ⟨rfl, hw2⟩
  go_wp2_with fail
  refine (h8.out _ _ _ (by exact sees_at .u8 _ _ [49, 50, 51, 52, 0, 0] _ _ (by simp) rfl)).mono ?_
  rintro e w' ⟨rfl, rfl⟩
  go_wp2_with fail
  refine (h9.out _ _ _ (by exact sees_at .u8 _ _ [49, 50, 51, 52] _ _ (by simp) rfl)).mono ?_
  rintro e w' ⟨rfl, rfl⟩
  go_wp2_with fail
  refine (h10.out _ _ _ (by exact sees_at .u8 _ _ [49, 50, 51, 53] _ _ (by simp) rfl)).mono ?_
  rintro e w' ⟨rfl, rfl⟩
  go_wp2
  go_ret
  exact ⟨rfl, up (up (up (on (up (on (up (up (up (Below.refl _ w) _) _) _) hw1) _) hw2) _) _) _⟩
end Go.Proofs.Ytgdfanpolmoffaa
