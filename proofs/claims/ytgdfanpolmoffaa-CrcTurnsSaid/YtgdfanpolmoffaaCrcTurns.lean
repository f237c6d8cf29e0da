/- CrcTurns: the walk of the statement's function. -/
import Derived.Test.YtgdfanpolmoffaaCrcTurn
namespace Go.Proofs.Ytgdfanpolmoffaa
open Go.RowKit
set_option linter.unusedVariables false
set_option linter.unusedSimpArgs false

set_option maxRecDepth 100000 in
set_option maxHeartbeats 2000000 in
theorem crcTurns_walk (w : World)
    (a : Option Addr) (len cap : Nat) (l : List Int) (hlen : l.length = len) (hm : len ≤ maxLen) (hcap : len ≤ cap) (hwf : ∀ n ∈ l, (Lit.int .u8 n).wf = true) (hs : Sees .u8 w.heap.size w a l)
    (p : Int) (hpw : (Lit.int .i64 p).wf = true) (x : Int) (hxw : (Lit.int .u32 x).wf = true) :
    Calls Try.prog 6 #[.slice a len cap, .int .i64 p, .int .u32 x] w (Gives (.bool true) w) := by
  have hb := bs_of_wf hwf
  clear hwf
  subst hlen
  have hx := u32_wf hxw
  have hp := i64_wf hpw
  clear hxw hpw
  have hm' := hm
  unfold maxLen at hm'
  by_cases hbig : 3000 < l.length
  · go_enter Try.func6, Try.ntmps6
    go_wp2_with (go_at_call 7; refine (lives_any _).mono ?_; rintro e w' ⟨rfl, hb'⟩)
    go_ret
    exact ⟨rfl, hb'⟩
  have hd : decide ((3000 : Int) < (l.length : Int)) = false := by simp; omega
  by_cases hneg : p < 0
  · go_enter Try.func6, Try.ntmps6
    go_wp2_with (go_at_call 7; refine (lives_any _).mono ?_; rintro e w' ⟨rfl, hb'⟩)
    go_ret
    exact ⟨rfl, hb'⟩
  obtain ⟨s, rfl⟩ := Int.eq_ofNat_of_zero_le (show 0 ≤ p by omega)
  obtain ⟨t, rfl⟩ := Int.eq_ofNat_of_zero_le hx.1
  have hd2 : decide ((s : Int) < 0) = false := by simp
  by_cases hout : 8 * (l.length : Int) - 32 < (s : Int)
  · have hd3 : decide (8 * (l.length : Int) - 32 < (s : Int)) = true := by simpa using hout
    go_enter Try.func6, Try.ntmps6
    go_wp2_with (go_at_call 7; refine (lives_any _).mono ?_; rintro e w' ⟨rfl, hb'⟩)
    go_ret
    exact ⟨rfl, hb'⟩
  have hd3 : decide (8 * (l.length : Int) - 32 < (s : Int)) = false := by simp; omega
  by_cases h0 : t = 0
  · subst h0
    go_enter Try.func6, Try.ntmps6
    go_wp2_with (go_at_call 7; refine (lives_any _).mono ?_; rintro e w' ⟨rfl, hb'⟩)
    go_ret
    exact ⟨rfl, hb'⟩
  have hd4 : ((t : Int) == 0) = false := by simp; omega
  have hps : s + 32 ≤ 8 * l.length := by omega
  have hne := turned_sum hb s t hps h0 (by omega)
  have c1 := fun W hW hB => turn_any a l l.length cap rfl w.heap.size W (by omega) hb hW hB s t hps (by omega)
  obtain ⟨X, hX⟩ : ∃ F : Int, F = (csum 0 l : Nat) := ⟨_, rfl⟩
  obtain ⟨Y, hY⟩ : ∃ F : Int, F = (csum 0 (turned l s t 32) : Nat) := ⟨_, rfl⟩
  have hXY : (Y == X) = false := by rw [beq_eq_false_iff_ne, hX, hY]; intro h; exact hne (by exact_mod_cast h)
  have c2 := fun B w hc => sum_i a l l.length cap rfl B w hm hb hc X hX
  have c3 := fun x c B w hc => sum_i x (turned l s t 32) l.length c (turned_length _ _ _ _).symm B w (by rw [turned_length]; exact hm) (turned_bs hb _ _ _) hc Y hY
  have c1' := Lib.hid c1
  have c2' := Lib.hid c2
  have c3' := Lib.hid c3
  have htl := Lib.hid (turned_length l s t 32)
  have hXY' := Lib.hid hXY
  generalize turned l s t 32 = T at *
  clear c1 c2 c3 hX hY hXY hne hb
  go_enter Try.func6, Try.ntmps6
  go_wp2_with fail
  refine (lives_any _).mono ?_
  rintro e w1 ⟨rfl, hw1⟩
  have k1 := hs.below hw1
  go_wp2_with fail
  refine (c1'.out _ k1 hw1.size).mono ?_
  intro e w2 hmade
  obtain ⟨a2, cap2, rfl, hs2, hw2⟩ := hmade.open _ htl.out
  clear hmade
  have k2 := k1.below (hw2.mono hw1.size)
  go_wp2_with fail
  refine (c3'.out _ _ _ _ hs2).mono ?_
  rintro e w' ⟨rfl, rfl⟩
  go_wp2_with fail
  refine (c2'.out _ _ k2).mono ?_
  rintro e w' ⟨rfl, rfl⟩
  have hfin := hXY'.out
  go_wp2
  go_ret
  exact ⟨ret_bool (by show (Y != X) = true; rw [bne, hfin]; rfl), on hw1 hw2⟩
end Go.Proofs.Ytgdfanpolmoffaa
