/- fnv.undo, Less. -/
import Derived.Test.YtnpgkpljmifjdaaFnvMore
namespace Go.Proofs.Ytnpgkpljmifjdaa
open Go.RowKit
set_option linter.unusedVariables false

def undoN : Nat → Int
  | 0 => 1099511628211
  | k + 1 => IntKind.u64.wrap (undoN k * IntKind.u64.wrap (2 - IntKind.u64.wrap (1099511628211 * undoN k)))
theorem undo5 : undoN 5 = 14886173955864302971 := by decide +kernel
theorem undo_any (w : World) : Calls Try.prog 17 #[] w fun e w' => e = .returned (.int .u64 14886173955864302971) ∧ w = w' := by
  go_enter Try.func17, Try.ntmps17
  go_wp2
  go_loop [1, 2] (fun n i => ∃ k : Nat, k ≤ 5 ∧ n = .int .u64 (undoN k) ∧ i = .int .i64 k) (fun _ i => 5 - (intOf i).toNat)
  case atStart => exact ⟨0, by omega, rfl, rfl⟩
  case round =>
    obtain ⟨k, hk, rfl, rfl⟩ := hrel
    by_cases hlt : k < 5
    · have e1 : IntKind.u64.wrap (undoN k * IntKind.u64.wrap (2 - IntKind.u64.wrap (1099511628211 * undoN k))) = undoN (k + 1) := rfl
      go_wp2
      go_round
      case rel => exact ⟨k + 1, by omega, rfl, by go_num⟩
      case measure => simp [intOf]; omega
    · obtain rfl : k = 5 := by omega
      have h5 := Lib.hid undo5
      generalize undoN 5 = u at *
      go_wp2
      go_ret
      exact ⟨by rw [← h5.out]; rfl, rfl⟩

set_option maxHeartbeats 400000 in
theorem less_any (s : Int) (hs : InU s) (a : Option Addr) (l : List Int) (n cap : Nat) (hn : n = l.length) (B : Nat) (w : World) (hl : l.length ≤ maxLen) (hb : Bs l) (hc : Sees .u8 B w a l) :
    Calls Try.prog 12 #[.int .u64 s, .slice a n cap] w fun e w' => e = .returned (.int .u64 (bsum s l)) ∧ w = w' := by
  subst hn
  unfold maxLen at hl
  obtain ⟨inv, hinv⟩ : ∃ inv : Int, inv = 14886173955864302971 := ⟨_, rfl⟩
  have hu := fun w => undo_any w
  rw [← hinv] at hu
  have hu' := Lib.hid hu
  have hinv' := Lib.hid hinv
  clear hu hinv
  rcases hc with rfl | ⟨b, off, rfl, hB, hc⟩
  · go_enter Try.func12, Try.ntmps12
    go_wp2_with (go_at_call 17; refine (hu'.out _).mono ?_; rintro e w' ⟨rfl, rfl⟩)
    refine wp_loop_rounds 1 ?_
    rw [rounds_succ]
    go_wp2
    go_ret
    exact ⟨rfl, rfl⟩
  · go_enter Try.func12, Try.ntmps12
    go_wp2_with (go_at_call 17; refine (hu'.out _).mono ?_; rintro e w' ⟨rfl, rfl⟩)
    go_loop [0, 6] (fun x y => ∃ (k : Nat) (t : Int), k ≤ l.length ∧ Hid (bsum s l = bsum t (l.take k)) ∧ InU t ∧ x = .int .u64 t ∧ y = .int .i64 ((k : Int) - 1)) (fun _ y => (intOf y + 1).toNat)
    case atStart => exact ⟨l.length, s, by omega, Lib.hid (by rw [List.take_of_length_le (by omega)]), hs, rfl, rfl⟩
    case round =>
      obtain ⟨k, t, hk, ht, htu, rfl, rfl⟩ := hrel
      rcases k with _ | j
      · have hfin : Hid (bsum s l = t) := Lib.hid (by rw [ht.out]; rfl)
        rw [show (((0 : Nat) : Int) - 1) = -1 by omega]
        go_wp2
        go_ret
        exact ⟨by rw [hfin.out]; rfl, rfl⟩
      · have hlt : j < l.length := by omega
        have hcell := hc j hlt
        have hr := hb.at hlt
        have hd := getD_take_snoc hlt
        generalize l.getD j 0 = c at *
        clear hc
        rw [show ((((j + 1) : Nat) : Int) - 1) = (j : Int) by omega]
        have e1 : bits .xor .u64 (IntKind.u64.wrap (t * inv)) c = bstep t c := by rw [hinv'.out]; exact bstep_walk htu hr
        have hfin : Hid (bsum s l = bsum (bstep t c) (l.take j)) := Lib.hid (by rw [ht.out, hd, bsum_snoc])
        have hin : InU (bstep t c) := bstep_in (by unfold InU; omega)
        clear hd ht
        go_wp2
        go_round
        case rel => exact ⟨j, bstep t c, by omega, hfin, hin, rfl, rfl⟩
        case measure => simp [intOf]
end Go.Proofs.Ytnpgkpljmifjdaa
