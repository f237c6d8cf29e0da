/- The document's Parse. -/
import Derived.Test.YtnpgkpljmifjdaaFnvParse
namespace Go.Proofs.Ytnpgkpljmifjdaa
open Go.RowKit
set_option linter.unusedVariables false
theorem hexV_digit {c : Int} (h0 : 48 ≤ c) (h1 : c ≤ 57) : hexV c = c - 48 := by unfold hexV; rw [if_pos ⟨h0, h1⟩]
theorem hexV_letter {c : Int} (h0 : 97 ≤ c) (h1 : c ≤ 102) : hexV c = c - 87 := by unfold hexV; rw [if_neg (by omega), if_pos ⟨h0, h1⟩]
theorem hexV_none {c : Int} (h0 : ¬ (48 ≤ c ∧ c ≤ 57)) (h1 : ¬ (97 ≤ c ∧ c ≤ 102)) : hexV c = -1 := by unfold hexV; rw [if_neg h0, if_neg h1]

/-- What the document's Parse tells. -/
def parsedB (s : ByteArray) : Int × Bool := ((parsed s).1, (parsed s).2 == 0)

set_option maxHeartbeats 1600000 in
theorem refparse_any (s : ByteArray) (w : World) (hm : s.size ≤ maxLen) : Calls Try.prog 15 #[.string s] w fun e w' => e = .returned (.tuple #[.int .u64 (parsedB s).1, .bool (parsedB s).2]) ∧ w = w' := by
  unfold maxLen at hm
  by_cases hs : s.size = 16
  · have hlen := codes_length s
    have hbs := codes_bs s
    have hat := codes_at s
    have hok : 0 ≤ pl 0 (codes s) → parsedB s = (pl 0 (codes s), true) := fun h => by unfold parsedB; rw [parsed_ok hs h]; rfl
    have hno : pl 0 (codes s) = -1 → parsedB s = (0, false) := fun h => by unfold parsedB; rw [parsed_no h]; rfl
    generalize hL : codes s = L at *
    rw [hs] at hlen
    generalize hP : parsedB s = p at *
    have hok' := Lib.hid hok
    have hno' := Lib.hid hno
    have hlen' := Lib.hid hlen
    have hat' := Lib.hid hat
    have hs' := Lib.hid hs
    have hsl : 16 ≤ s.size := by omega
    have hsl2 : ((s.size : Int) != 16) = false := by rw [hs]; rfl
    have hsl3 : (s.size : Int) ≤ 16 := by omega
    clear hL hP hok hno hlen hs hat
    go_enter Try.func15, Try.ntmps15
    go_wp2
    go_loop [4, 5] (fun x i => ∃ (k : Nat) (t : Int), k ≤ 16 ∧ 0 ≤ t ∧ Hid (t < 16 ^ k) ∧ Hid (pl 0 L = pl t (L.drop k)) ∧ x = .int .u64 t ∧ i = .int .i64 k) (fun _ i => 16 - (intOf i).toNat)
    case atStart => exact ⟨0, 0, by omega, by omega, Lib.hid (by simp), Lib.hid rfl, rfl, rfl⟩
    case round =>
      obtain ⟨k, t, hk, ht0, ht1, hp, rfl, rfl⟩ := hrel
      by_cases hlt : k < 16
      · have hks : k < s.size := by omega
        have hc := hat'.out k hks
        have hr := hbs.at (by rw [hlen'.out]; exact hlt)
        have hd : L.drop k = L.getD k 0 :: L.drop (k + 1) := drop_cons (by rw [hlen'.out]; exact hlt)
        have hpw := pow16 hlt ht1.out
        generalize hcc : ((s[k]'hks).toNat : Int) = c at *
        rw [hc] at hr hd
        have hstep : ¬ hexV c < 0 → Hid (pl 0 L = pl (16 * t + hexV c) (L.drop (k + 1))) := fun hv => Lib.hid (by rw [hp.out, hd, pl_next hv])
        have ht2 : Hid (16 * t + hexV c < 16 ^ (k + 1)) := Lib.hid (by
          have := ht1.out
          have := hexV_lt c
          rw [Int.pow_succ]; omega)
        by_cases hD : 48 ≤ c ∧ c ≤ 57
        · rw [hexV_digit hD.1 hD.2] at hstep ht2
          have hst := hstep (by omega)
          have b1 := hpw.1
          clear hd hc hpw hstep
          go_wp2
          go_round
          case rel => exact ⟨k + 1, 16 * t + (c - 48), by omega, by omega, ht2, hst, rfl, by go_num⟩
          case measure => simp [intOf]; omega
        · by_cases hA : 97 ≤ c ∧ c ≤ 102
          · rw [hexV_letter hA.1 hA.2] at hstep ht2
            have hst := hstep (by omega)
            have b1 := hpw.1
            have hD1 : decide (c ≤ 57) = false := by simp; omega
            clear hd hc hpw hstep hD
            go_wp2
            go_round
            case rel => exact ⟨k + 1, 16 * t + (c - 87), by omega, by omega, ht2, hst, by go_num, by go_num⟩
            case measure => simp [intOf]; omega
          · have hfin := hno'.out (by rw [hp.out, hd, pl_bad (by rw [hexV_none hD hA]; omega)])
            have hfin' := Lib.hid hfin
            clear hfin hd hc hpw hstep ht2
            go_wp2
            all_goals go_ret2
            all_goals exact ⟨by rw [hfin'.out]; rfl, rfl⟩
      · have hfin := hok'.out (by rw [hp.out, List.drop_of_length_le (by rw [hlen'.out]; omega)]; exact ht0)
        rw [hp.out, List.drop_of_length_le (by rw [hlen'.out]; omega)] at hfin
        have hfin' := Lib.hid hfin
        clear hfin
        go_wp2
        go_ret2
        exact ⟨by rw [hfin'.out]; rfl, rfl⟩
  · have hfin : parsedB s = (0, false) := by unfold parsedB; rw [parsed_len hs]; rfl
    generalize parsedB s = p at *
    have hs2 : ((s.size : Int) != 16) = true := by rw [bne_iff_ne]; omega
    have hfin' := Lib.hid hfin
    clear hfin hs
    go_enter Try.func15, Try.ntmps15
    go_wp2
    go_ret2
    exact ⟨by rw [hfin'.out]; rfl, rfl⟩
end Go.Proofs.Ytnpgkpljmifjdaa
