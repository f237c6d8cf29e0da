/- CrcSums: the walk of the statement's function. -/
import Derived.Test.YtcdoofcgnnnhgaaCrcLives
namespace Go.Proofs.Ytcdoofcgnnnhgaa
open Go.RowKit
set_option linter.unusedVariables false
set_option linter.unusedSimpArgs false

set_option maxRecDepth 100000 in
set_option maxHeartbeats 2000000 in
theorem crcSums_walk (w : World)
    (a : Option Addr) (len cap : Nat) (l : List Int) (hlen : l.length = len) (hm : len ≤ maxLen) (hcap : len ≤ cap) (hwf : ∀ n ∈ l, (Lit.int .u8 n).wf = true) (hs : Sees .u8 w.heap.size w a l)
    (s : Int) (hsw : (Lit.int .u32 s).wf = true) :
    Calls Try.prog 3 #[.slice a len cap, .int .u32 s] w (Gives (.bool true) w) := by
  have hb := bs_of_wf hwf
  clear hwf
  subst hlen
  have hs32 := u32_wf hsw
  have hm' := hm
  unfold maxLen at hm'
  by_cases hbig : 3000 < l.length
  · go_enter Try.func3, Try.ntmps3
    go_wp2_with (go_at_call 7; refine (lives_any _).mono ?_; rintro e w' ⟨rfl, hb'⟩)
    go_ret
    exact ⟨rfl, hb'⟩
  have hd : decide ((3000 : Int) < (l.length : Int)) = false := by simp; omega
  obtain ⟨v, hv⟩ := Int.eq_ofNat_of_zero_le hs32.1
  obtain ⟨F, hF⟩ : ∃ F : Int, F = (csum 0 l : Nat) := ⟨_, rfl⟩
  obtain ⟨G, hG⟩ : ∃ G : Int, G = (csum v l : Nat) := ⟨_, rfl⟩
  have c1 := fun B w hc => sum_i a l l.length cap rfl B w hm hb hc F hF
  have c2 := fun B w hc => refsum_i a l l.length cap rfl B w hm hb hc F hF
  have c3 := fun B w hc => more_i s v hv (by omega) a l l.length cap rfl B w hm hb hc G hG
  have c4 := fun B w hc => refmore_i s v hv (by omega) a l l.length cap rfl B w hm hb hc G hG
  have c5 := fun t B w hc => whole_i t a l l.length cap rfl B w hm hb hc F hF
  have c1' := Lib.hid c1
  have c2' := Lib.hid c2
  have c3' := Lib.hid c3
  have c4' := Lib.hid c4
  have c5' := Lib.hid c5
  clear c1 c2 c3 c4 c5 hF hG hv hb
  go_enter Try.func3, Try.ntmps3
  go_wp2_with fail
  refine (lives_any _).mono ?_
  rintro e w1 ⟨rfl, hw1⟩
  have k := hs.below hw1
  go_wp2_with fail
  refine (c1'.out _ _ k).mono ?_
  rintro e w' ⟨rfl, rfl⟩
  go_wp2_with fail
  refine (c2'.out _ _ k).mono ?_
  rintro e w' ⟨rfl, rfl⟩
  go_wp2_with fail
  refine (c3'.out _ _ k).mono ?_
  rintro e w' ⟨rfl, rfl⟩
  go_wp2_with fail
  refine (c4'.out _ _ k).mono ?_
  rintro e w' ⟨rfl, rfl⟩
  go_wp2_with fail
  refine (c5'.out _ _ _ k).mono ?_
  rintro e w' ⟨rfl, rfl⟩
  go_wp2_with fail
  refine (c2'.out _ _ k).mono ?_
  rintro e w' ⟨rfl, rfl⟩
  go_wp2_with fail
  refine (c2'.out _ _ k).mono ?_
  rintro e w' ⟨rfl, rfl⟩
  go_wp2_with fail
  refine (c5'.out _ _ _ k).mono ?_
  rintro e w' ⟨rfl, rfl⟩
  go_wp2
  go_ret
  exact ⟨rfl, hw1⟩
end Go.Proofs.Ytcdoofcgnnnhgaa
