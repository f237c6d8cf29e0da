/- The document's Get: the same number. -/
import Derived.Test.YtnjdgnlgdokddaaLebGet
namespace Go.Proofs.Ytnjdgnlgdokddaa
open Go.RowKit
set_option linter.unusedVariables false

theorem ref_step {k : Nat} {acc c p : Int} (hk : k ≤ 9) (h0 : 0 ≤ acc) (h1 : acc < p) (hp : p = 2 ^ (7 * k)) (hc0 : 0 ≤ c) (hc1 : c ≤ 255) (hw : wrongB k c = false) :
    IntKind.u64.wrap (acc + IntKind.u64.wrap (p * (c % 128))) = acc + p * (c % 128) ∧ p ≤ 9223372036854775808 ∧ (k ≤ 8 → IntKind.u64.wrap (p * 128) = p * 128) := by
  obtain ⟨_, a, b, _⟩ := get_step hk h0 h1 hp hc0 hc1 hw
  have hp9 : p ≤ 9223372036854775808 ∧ (k ≤ 8 → p * 128 ≤ 9223372036854775808) := by
    have : k = 0 ∨ k = 1 ∨ k = 2 ∨ k = 3 ∨ k = 4 ∨ k = 5 ∨ k = 6 ∨ k = 7 ∨ k = 8 ∨ k = 9 := by omega
    rw [hp]
    rcases this with rfl | rfl | rfl | rfl | rfl | rfl | rfl | rfl | rfl | rfl <;> simp
  refine ⟨by rw [wrap_u64_in a (by omega), wrap_u64_in (by omega) b], hp9.1, fun h => wrap_u64_in (by omega) (by have := hp9.2 h; omega)⟩

set_option maxHeartbeats 800000 in
theorem refget_any (a : Option Addr) (l : List Int) (n cap : Nat) (hn : n = l.length) (B : Nat) (w : World) (hl : l.length ≤ maxLen) (hb : Bs l) (hs : Sees .u8 B w a l) :
    Calls Try.prog 86 #[.slice a n cap] w fun e w' => e = .returned (got (getL 0 0 1 l)) ∧ w = w' := by
  subst hn
  unfold maxLen at hl
  rcases hs with rfl | ⟨b, off, rfl, hB, hc⟩
  · go_enter Try.func86, Try.ntmps86
    go_wp2
    refine wp_loop_rounds 1 ?_
    rw [rounds_succ]
    go_wp2
    go_ret3
    exact ⟨rfl, rfl⟩
  · go_enter Try.func86, Try.ntmps86
    go_wp2
    go_loop [5, 6, 7] (fun x u y => ∃ (k : Nat) (acc p : Int), k ≤ 9 ∧ k ≤ l.length ∧ 0 ≤ acc ∧ acc < p ∧ Hid (p = 2 ^ (7 * k)) ∧ Hid (getL 0 0 1 l = getL k acc p (l.drop k)) ∧ x = .int .u64 acc ∧ u = .int .u64 p ∧ y = .int .i64 k) (fun _ _ y => l.length - (intOf y).toNat)
    case atStart => exact ⟨0, 0, 1, by omega, by omega, by omega, by omega, Lib.hid rfl, Lib.hid rfl, rfl, rfl, rfl⟩
    case round =>
      obtain ⟨k, acc, p, hk, hkl, ha0, hap, hp, hg, rfl, rfl, rfl⟩ := hrel
      by_cases hlt : k < l.length
      · have hcell := hc k hlt
        have hr := hb.at hlt
        have hd : l.drop k = l.getD k 0 :: l.drop (k + 1) := by rw [List.drop_eq_getElem_cons hlt]; simp [List.getD, hlt]
        generalize l.getD k 0 = c at *
        clear hc
        have h9 := wrongB_iff (i := k) (c := c)
        cases hW : wrongB k c
        · have hst := get_step hk ha0 hap hp.out hr.1 hr.2 hW
          have hst2 := ref_step hk ha0 hap hp.out hr.1 hr.2 hW
          have e1 := hst2.1
          have b1 := hst.2.1
          have b2 := hst.2.2
          have bp := hst2.2.1
          rw [hW] at h9
          simp only [Bool.false_eq_true, false_iff] at h9
          by_cases hc : c < 128
          · have hfin : Hid (getL 0 0 1 l = (acc + p * (c % 128), (k : Int) + 1, 0)) := by have := hg.out; rw [this, hd, getL_last (by rw [hW]; decide) hc]; rfl
            clear hW hst hst2 hd b1 b2
            by_cases h1 : k = 9
            · subst h1
              have hc1 : c ≤ 1 := by omega
              have hc0 : 0 < c := by omega
              clear h9
              go_wp2
              all_goals go_ret3
              all_goals exact ⟨by rw [hfin.out]; rfl, rfl⟩
            · by_cases h2 : 0 < k
              · have hc0 : 0 < c := by omega
                clear h9
                go_wp2
                all_goals go_ret3
                all_goals exact ⟨by rw [hfin.out]; rfl, rfl⟩
              · clear h9
                by_cases h3 : c = 0
                · subst h3
                  have e3 : IntKind.u64.wrap acc = acc := wrap_u64_in ha0 (by omega)
                  have hfin : Hid (getL 0 0 1 l = (acc, (k : Int) + 1, 0)) := Lib.hid (by have := hfin.out; simpa using this)
                  go_wp2
                  all_goals go_ret3
                  all_goals exact ⟨by rw [hfin.out]; rfl, rfl⟩
                · have hc0 : 0 < c := by omega
                  go_wp2
                  all_goals go_ret3
                  all_goals exact ⟨by rw [hfin.out]; rfl, rfl⟩
          · have hk8 : k + 1 ≤ 9 := by omega
            have e2 := hst2.2.2 (by omega)
            have hfin : Hid (getL 0 0 1 l = getL (k + 1) (acc + p * (c % 128)) (p * 128) (l.drop (k + 1))) := by have := hg.out; rw [this, hd, getL_more (by rw [hW]; decide) hc]; rfl
            have hc0 : 0 < c := by omega
            clear hW hst hst2 hd h9 bp
            go_wp2
            go_round
            case rel => exact ⟨k + 1, acc + p * (c % 128), p * 128, hk8, by omega, by omega, b2.2, Lib.hid (by rw [hp.out, show 7 * (k + 1) = 7 * k + 7 by omega, Int.pow_add]; rfl), hfin, rfl, rfl, by go_num⟩
            case measure => simp [intOf]; omega
        · have hfin : Hid (getL 0 0 1 l = (0, 0, 11)) := by have := hg.out; rw [this, hd, getL_wrong hW]; rfl
          rw [hW] at h9
          simp only [true_iff] at h9
          clear hW hd
          rcases h9 with ⟨rfl, h1⟩ | ⟨h1, rfl⟩
          · go_wp2
            all_goals go_ret3
            all_goals exact ⟨by rw [hfin.out]; rfl, rfl⟩
          · by_cases h2 : k = 9
            · subst h2
              go_wp2
              all_goals go_ret3
              all_goals exact ⟨by rw [hfin.out]; rfl, rfl⟩
            · go_wp2
              all_goals go_ret3
              all_goals exact ⟨by rw [hfin.out]; rfl, rfl⟩
      · have hfin : Hid (getL 0 0 1 l = (0, 0, 10)) := by have := hg.out; rw [this, List.drop_of_length_le (by omega)]; rfl
        go_wp2
        go_ret3
        exact ⟨by rw [hfin.out]; rfl, rfl⟩
end Go.Proofs.Ytnjdgnlgdokddaa
