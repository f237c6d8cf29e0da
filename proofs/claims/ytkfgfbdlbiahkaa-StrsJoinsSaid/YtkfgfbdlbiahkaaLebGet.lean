/- leb.Get and the document's Get: the number with which bytes begin. -/
import Derived.Test.YtkfgfbdlbiahkaaRows
import Derived.Test.YtkfgfbdlbiahkaaBits
import Derived.Test.YtkfgfbdlbiahkaaLebMath
namespace Go.Proofs.Ytkfgfbdlbiahkaa
open Go.RowKit
set_option linter.unusedVariables false

/-- The next seven bits, put to what was read. -/
theorem get_step {k : Nat} {acc c p : Int} (hk : k ≤ 9) (h0 : 0 ≤ acc) (h1 : acc < p) (hp : p = 2 ^ (7 * k)) (hc0 : 0 ≤ c) (hc1 : c ≤ 255) (hw : wrongB k c = false) :
    bits .or .u64 acc (IntKind.u64.wrap (IntKind.u64.wrap (bits .and .u8 c 127) * 2 ^ (7 * k))) = acc + p * (c % 128) ∧ 0 ≤ p * (c % 128) ∧ acc + p * (c % 128) ≤ 18446744073709551615 ∧ acc + p * (c % 128) < p * 128 := by
  have h9 : k = 9 → c ≤ 1 := fun h => by
    have := wrongB_iff (i := k) (c := c)
    rw [hw] at this
    simp at this; omega
  have hle : 0 ≤ 2 ^ (7 * k) * (c % 128) ∧ acc + 2 ^ (7 * k) * (c % 128) ≤ 18446744073709551615 ∧ acc + 2 ^ (7 * k) * (c % 128) < 2 ^ (7 * k) * 128 := by
    rw [hp] at h1
    clear hw hp
    have : k = 0 ∨ k = 1 ∨ k = 2 ∨ k = 3 ∨ k = 4 ∨ k = 5 ∨ k = 6 ∨ k = 7 ∨ k = 8 ∨ k = 9 := by omega
    rcases this with rfl | rfl | rfl | rfl | rfl | rfl | rfl | rfl | rfl | rfl <;> simp at h1 h9 ⊢ <;> omega
  rw [hp]
  refine ⟨?_, hle⟩
  rw [u8_and127 hc0 hc1, wrap_u64_in (n := c % 128) (by omega) (by omega), Int.mul_comm (c % 128), wrap_u64_in hle.1 (by omega), u64_or_add h0 (by rw [← hp]; exact h1) (by omega) hle.2.1]

/-- What three results these are. -/
def got (x : Int × Int × Int) : Value := .tuple #[.int .u64 x.1, .int .i64 x.2.1, .int .i64 x.2.2]

theorem wrong_any (i : Nat) (c : Int) (w : World) (hi : i ≤ 9) (h0 : 0 ≤ c) (h1 : c ≤ 255) :
    Calls Try.prog 84 #[.int .i64 i, .int .u8 c] w fun e w' => e = .returned (.bool (wrongB i c)) ∧ w = w' := by
  go_enter Try.func84, Try.ntmps84
  go_wp2
  all_goals go_ret
  all_goals (refine ⟨ret_bool ?_, rfl⟩; rw [Bool.eq_iff_iff, wrongB_iff]; simp; omega)

set_option maxHeartbeats 400000 in
theorem get_any (a : Option Addr) (l : List Int) (n cap : Nat) (hn : n = l.length) (B : Nat) (w : World) (hl : l.length ≤ maxLen) (hb : Bs l) (hs : Sees .u8 B w a l) :
    Calls Try.prog 75 #[.slice a n cap] w fun e w' => e = .returned (got (getL 0 0 1 l)) ∧ w = w' := by
  subst hn
  unfold maxLen at hl
  rcases hs with rfl | ⟨b, off, rfl, hB, hc⟩
  · go_enter Try.func75, Try.ntmps75
    go_wp2
    refine wp_loop_rounds 1 ?_
    rw [rounds_succ]
    go_wp2
    go_ret3
    exact ⟨rfl, rfl⟩
  · go_enter Try.func75, Try.ntmps75
    go_wp2
    go_loop [5, 10] (fun x y => ∃ (k : Nat) (acc p : Int), k ≤ 9 ∧ k ≤ l.length ∧ 0 ≤ acc ∧ acc < p ∧ Hid (p = 2 ^ (7 * k)) ∧ Hid (getL 0 0 1 l = getL k acc p (l.drop k)) ∧ x = .int .u64 acc ∧ y = .int .i64 k) (fun _ y => l.length - (intOf y).toNat)
    case atStart => exact ⟨0, 0, 1, by omega, by omega, by omega, by omega, Lib.hid rfl, Lib.hid rfl, rfl, rfl⟩
    case round =>
      obtain ⟨k, acc, p, hk, hkl, ha0, hap, hp, hg, rfl, rfl⟩ := hrel
      by_cases hlt : k < l.length
      · have hcell := hc k hlt
        have hr := hb.at hlt
        have hd : l.drop k = l.getD k 0 :: l.drop (k + 1) := by rw [List.drop_eq_getElem_cons hlt]; simp [List.getD, hlt]
        generalize l.getD k 0 = c at *
        clear hc
        cases hW : wrongB k c
        · have hst := get_step hk ha0 hap hp.out hr.1 hr.2 hW
          have e1 := hst.1
          have b1 := hst.2.1
          have b2 := hst.2.2
          have h9 := wrongB_iff (i := k) (c := c)
          have hW' := Lib.hid hW
          have e1' := Lib.hid e1
          by_cases hc : c < 128
          · have hfin : Hid (getL 0 0 1 l = (acc + p * (c % 128), (k : Int) + 1, 0)) := by have := hg.out; rw [this, hd, getL_last (by rw [hW]; decide) hc]; rfl
            clear hW h9 hst hd b1 b2
            go_wp2_with (go_at_call 84; refine (wrong_any k c _ hk (by omega) (by omega)).mono ?_; rintro e w' ⟨rfl, rfl⟩; rw [hW'.out])
            go_ret3
            exact ⟨by rw [hfin.out]; rfl, rfl⟩
          · have hk8 : k + 1 ≤ 9 := by
              rw [hW] at h9; simp at h9; omega
            have hfin : Hid (getL 0 0 1 l = getL (k + 1) (acc + p * (c % 128)) (p * 128) (l.drop (k + 1))) := by have := hg.out; rw [this, hd, getL_more (by rw [hW]; decide) hc]; rfl
            clear hW h9 hst hd
            go_wp2_with (go_at_call 84; refine (wrong_any k c _ hk (by omega) (by omega)).mono ?_; rintro e w' ⟨rfl, rfl⟩; rw [hW'.out])
            go_round
            case rel => exact ⟨k + 1, acc + p * (c % 128), p * 128, hk8, by omega, by omega, b2.2, Lib.hid (by rw [hp.out, show 7 * (k + 1) = 7 * k + 7 by omega, Int.pow_add]; rfl), hfin, rfl, by go_num⟩
            case measure => simp [intOf]; omega
        · have hfin : Hid (getL 0 0 1 l = (0, 0, 11)) := by have := hg.out; rw [this, hd, getL_wrong hW]; rfl
          have hW' := Lib.hid hW
          clear hW hd
          go_wp2_with (go_at_call 84; refine (wrong_any k c _ hk (by omega) (by omega)).mono ?_; rintro e w' ⟨rfl, rfl⟩; rw [hW'.out])
          go_ret3
          exact ⟨by rw [hfin.out]; rfl, rfl⟩
      · have hfin : Hid (getL 0 0 1 l = (0, 0, 10)) := by have := hg.out; rw [this, List.drop_of_length_le (by omega)]; rfl
        go_wp2
        go_ret3
        exact ⟨by rw [hfin.out]; rfl, rfl⟩
end Go.Proofs.Ytkfgfbdlbiahkaa
