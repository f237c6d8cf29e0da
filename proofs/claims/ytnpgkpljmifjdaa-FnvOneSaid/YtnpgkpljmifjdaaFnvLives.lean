/- 'lives' of the statements on fnv. -/
import Derived.Test.YtnpgkpljmifjdaaFnvRefParse
import Derived.Lib.SlBytesConst
namespace Go.Proofs.Ytnpgkpljmifjdaa
open Go.RowKit
set_option linter.unusedVariables false

theorem parse_is (s : ByteArray) (x y : Int) (h : parsed s = (x, y)) (w : World) (hm : s.size ≤ maxLen) : Calls Try.prog 14 #[.string s] w fun e w' => e = .returned (.tuple #[.int .u64 x, .int .i64 y]) ∧ w = w' := by
  have := parse_any s w hm
  rw [h] at this; exact this
def hexA : ByteArray := ⟨#[97, 102, 54, 51, 100, 99, 52, 99, 56, 54, 48, 49, 101, 99, 56, 99]⟩
def hexB : ByteArray := ⟨#[65, 70, 54, 51, 100, 99, 52, 99, 56, 54, 48, 49, 101, 99, 56, 99]⟩
theorem parse_A : parsed hexA = (fsum fstart [97], 0) := by decide +kernel
theorem parse_B : parsed hexB = (0, 190) := by decide +kernel
theorem show_0 : strOfNums (low fstart 16) = ⟨#[99, 98, 102, 50, 57, 99, 101, 52, 56, 52, 50, 50, 50, 51, 50, 53]⟩ := by
  have h : low fstart 16 = [99, 98, 102, 50, 57, 99, 101, 52, 56, 52, 50, 50, 50, 51, 50, 53] := by decide +kernel
  rw [h]; rfl

/-- A constant text as bytes. -/
theorem conv_const (W : World) (C : Array Value) (n c h : Nat) (hh : h = W.heap.size) : (convert 23 23 (.slice (some ⟨h, 0, none⟩) n c)).run Try.prog (W.alloc (.cells C 5)) = .ok (.slice (some ⟨h, 0, none⟩) n c) (W.alloc (.cells C 5 (C.size, C.size + 1))) := by
  subst hh; exact Lib.run_convert_bytes_const W 23 5 C n c Try.underlying23 Try.underlying5
set_option maxRecDepth 100000 in
set_option maxHeartbeats 1000000 in
theorem lives_any (w : World) : Calls Try.prog 7 #[] w (Gives (.bool true) w) := by
  have hcs := conv_const
  have hA := fun w => parse_is hexA _ _ parse_A w (by decide)
  have hB := fun w => parse_is hexB _ _ parse_B w (by decide)
  have hN := fun w => sum_any none [] 0 0 rfl 0 w (by decide) (bs_lit (by decide)) .nil
  have hS := fun w => show_any fstart fstart_in w
  have hin := fstart_in
  have hin2 : InU (fsum fstart [97]) := fsum_in fstart_in _
  have hback : bsum (fsum fstart [97]) [97] = fstart := bsum_fsum (bs_lit (by decide)) fstart_in
  have hf : fsum fstart [] = fstart := rfl
  rw [show_0] at hS
  rw [hf] at hN
  unfold hexA at hA
  unfold hexB at hB
  have h1 := fun a B w hc => sum_any a [97] 1 1 rfl B w (by decide) (bs_lit (by decide)) hc
  have h2 := fun a B w hc => more_any fstart fstart_in a [97] 1 1 rfl B w (by decide) (bs_lit (by decide)) hc
  have h3 := fun a B w hc => less_any (fsum fstart [97]) hin2 a [97] 1 1 rfl B w (by decide) (bs_lit (by decide)) hc
  rw [hback] at h3
  generalize fsum fstart [97] = A at *
  generalize fstart = Z at *
  have hA' := Lib.hid hA
  have hB' := Lib.hid hB
  have hN' := Lib.hid hN
  have hS' := Lib.hid hS
  have h1' := Lib.hid h1
  have h2' := Lib.hid h2
  have h3' := Lib.hid h3
  clear hA hB hN hS h1 h2 h3 hback hf hin hin2
  go_enter Try.func7, Try.ntmps7
  go_wp2_with fail
  refine (hA'.out _).mono ?_
  rintro e w' ⟨rfl, rfl⟩
  go_wp2_with fail
  refine (hB'.out _).mono ?_
  rintro e w' ⟨rfl, rfl⟩
  go_wp2_with fail
  refine (hN'.out _).mono ?_
  rintro e w' ⟨rfl, rfl⟩
  go_wp2_with fail
  refine (hS'.out _).mono ?_
  rintro e w1 ⟨rfl, hb1⟩
  go_wp2_with fail
  refine (h1'.out _ _ _ (by exact sees_at .u8 _ _ [97] _ _ rfl rfl)).mono ?_
  rintro e w' ⟨rfl, rfl⟩
  go_wp2_with fail
  refine (h3'.out _ _ _ (by exact sees_at .u8 _ _ [97] _ _ (by simp) rfl)).mono ?_
  rintro e w' ⟨rfl, rfl⟩
  go_wp2_with fail
  refine (hN'.out _).mono ?_
  rintro e w' ⟨rfl, rfl⟩
  go_wp2_with fail
  refine (hN'.out _).mono ?_
  rintro e w' ⟨rfl, rfl⟩
  go_wp2_with fail
  refine (h2'.out _ _ _ (by exact sees_at .u8 _ _ [97] _ _ (by simp) rfl)).mono ?_
  rintro e w' ⟨rfl, rfl⟩
  go_wp2
  go_ret
  exact ⟨rfl, (((hb1.alloc hb1.size _).alloc (by have := hb1.size; simp; omega) _).alloc (by have := hb1.size; simp; omega) _)⟩
end Go.Proofs.Ytnpgkpljmifjdaa
