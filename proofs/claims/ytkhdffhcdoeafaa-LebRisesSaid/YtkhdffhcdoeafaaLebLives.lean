/- 'lives' of the statements on leb: its short run comes out. -/
import Derived.Test.YtkhdffhcdoeafaaLebInt
namespace Go.Proofs.Ytkhdffhcdoeafaa
open Go.RowKit
set_option linter.unusedVariables false

theorem leb300 : leb (300 : Int).toNat = [172, 2] := by
  rw [leb_int (by omega), leb_int_small (by omega) (by omega)]; rfl
theorem leb1 : leb (zig (-1)).toNat = [1] := by
  rw [show zig (-1) = 1 by rfl, leb_int_small (by omega) (by omega)]
theorem get3 : getL 0 0 1 [172, 2, 9] = (300, 2, 0) := by decide
theorem get2 : getL 0 0 1 [128, 0] = (0, 0, 11) := by decide
theorem get1 : getL 0 0 1 [128] = (0, 0, 10) := by decide
theorem geti : getL 0 0 1 [1] = (1, 1, 0) := by decide

theorem get_is {l : List Int} {x y z : Int} (h : getL 0 0 1 l = (x, y, z)) (a : Option Addr) (n cap : Nat) (hn : n = l.length) (B : Nat) (w : World) (hl : l.length ≤ maxLen) (hb : Bs l) (hs : Sees .u8 B w a l) :
    Calls Try.prog 9 #[.slice a n cap] w fun e w' => e = .returned (.tuple #[.int .u64 x, .int .i64 y, .int .i64 z]) ∧ w = w' := by
  have := get_any a l n cap hn B w hl hb hs
  rw [h] at this; exact this
theorem refget_is {l : List Int} {x y z : Int} (h : getL 0 0 1 l = (x, y, z)) (a : Option Addr) (n cap : Nat) (hn : n = l.length) (B : Nat) (w : World) (hl : l.length ≤ maxLen) (hb : Bs l) (hs : Sees .u8 B w a l) :
    Calls Try.prog 12 #[.slice a n cap] w fun e w' => e = .returned (.tuple #[.int .u64 x, .int .i64 y, .int .i64 z]) ∧ w = w' := by
  have := refget_any a l n cap hn B w hl hb hs
  rw [h] at this; exact this
theorem getint_is {l : List Int} {x y z t : Int} (h : getL 0 0 1 l = (x, y, z)) (ht : zag x = t) (a : Option Addr) (n cap : Nat) (hn : n = l.length) (B : Nat) (w : World) (hl : l.length ≤ maxLen) (hb : Bs l) (hs : Sees .u8 B w a l) :
    Calls Try.prog 14 #[.slice a n cap] w fun e w' => e = .returned (.tuple #[.int .i64 t, .int .i64 y, .int .i64 z]) ∧ w = w' := by
  have := getint_any a l n cap hn B w hl hb hs
  rw [h] at this; unfold gotI at this; simp only [] at this; rw [ht] at this; exact this
theorem refgetint_is {l : List Int} {x y z t : Int} (h : getL 0 0 1 l = (x, y, z)) (ht : zag x = t) (a : Option Addr) (n cap : Nat) (hn : n = l.length) (B : Nat) (w : World) (hl : l.length ≤ maxLen) (hb : Bs l) (hs : Sees .u8 B w a l) :
    Calls Try.prog 15 #[.slice a n cap] w fun e w' => e = .returned (.tuple #[.int .i64 t, .int .i64 y, .int .i64 z]) ∧ w = w' := by
  have := refgetint_any a l n cap hn B w hl hb hs
  rw [h] at this; unfold gotI at this; simp only [] at this; rw [ht] at this; exact this

set_option maxRecDepth 100000 in
set_option maxHeartbeats 1000000 in
theorem lives_any (w : World) : Calls Try.prog 7 #[] w (Gives (.bool true) w) := by
  go_enter Try.func7, Try.ntmps7
  go_wp2_with fail
  refine (get_is get3 _ 3 3 rfl _ _ (by decide) (bs_lit (by decide)) (by exact sees_at .u8 _ _ [172, 2, 9] _ _ (by simp) rfl)).mono ?_
  rintro e w' ⟨rfl, rfl⟩
  go_wp2_with fail
  refine (get_is get2 _ 2 2 rfl _ _ (by decide) (bs_lit (by decide)) (by exact sees_at .u8 _ _ [128, 0] _ _ (by simp) rfl)).mono ?_
  rintro e w' ⟨rfl, rfl⟩
  go_wp2_with fail
  refine (get_is get1 _ 1 1 rfl _ _ (by decide) (bs_lit (by decide)) (by exact sees_at .u8 _ _ [128] _ _ (by simp) rfl)).mono ?_
  rintro e w' ⟨rfl, rfl⟩
  go_wp2_with fail
  refine (getint_is geti (t := -1) rfl _ 1 1 rfl _ _ (by decide) (bs_lit (by decide)) (by exact sees_at .u8 _ _ [1] _ _ (by simp) rfl)).mono ?_
  rintro e w' ⟨rfl, rfl⟩
  go_wp2_with fail
  refine (put_any 300 _ (by omega) (by unfold U64; omega)).mono ?_
  intro e w1 h
  rw [leb300] at h
  obtain ⟨a1, c1, rfl, hs1, hb1⟩ := h.open 2 rfl
  have hcv1 : (convert 23 9 (.slice a1 2 c1)).run Try.prog w1 = .ok (.string ⟨#[172, 2]⟩) w1 := conv_sees _ 9 5 Try.underlying23 Try.underlying5 Try.underlying9 hs1 2 c1 rfl
  clear h hs1
  go_wp2_with fail
  refine (size_any 300 _ (by omega) (by unfold U64; omega)).mono ?_
  rintro e w' ⟨rfl, rfl⟩
  rw [leb300]
  go_wp2_with fail
  refine (putint_any (-1) _ (by decide)).mono ?_
  intro e w2 h
  rw [leb1] at h
  obtain ⟨a2, c2, rfl, hs2, hb2⟩ := h.open 1 rfl
  have hcv2 : (convert 23 9 (.slice a2 1 c2)).run Try.prog w2 = .ok (.string ⟨#[1]⟩) w2 := conv_sees _ 9 5 Try.underlying23 Try.underlying5 Try.underlying9 hs2 1 c2 rfl
  clear h hs2
  go_wp2_with fail
  refine (zig_any (-1) _ (by decide)).mono ?_
  rintro e w' ⟨rfl, rfl⟩
  rw [show zig (-1) = 1 by rfl]
  go_wp2_with fail
  refine (zag_any 2 _ (by decide)).mono ?_
  rintro e w' ⟨rfl, rfl⟩
  rw [show zag 2 = 1 by rfl]
  go_wp2
  go_ret
  refine ⟨rfl, Below.trans (Below.trans ?_ (hb1.mono (by simp; omega))) (hb2.mono (by have := hb1.size; simp at this; omega))⟩
  exact ((((Below.refl _ _).alloc (Nat.le_refl _) _).alloc (by simp) _).alloc (by simp; omega) _).alloc (by simp; omega) _
end Go.Proofs.Ytkhdffhcdoeafaa
