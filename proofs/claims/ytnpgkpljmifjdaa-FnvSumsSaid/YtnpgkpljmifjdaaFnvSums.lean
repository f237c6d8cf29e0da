/- FnvSums, FnvLess: the walks of the statements' functions. -/
import Derived.Test.YtnpgkpljmifjdaaFnvLives
import Derived.Test.YtnpgkpljmifjdaaDrawn
namespace Go.Proofs.Ytnpgkpljmifjdaa
open Go.RowKit
set_option linter.unusedVariables false
set_option linter.unusedSimpArgs false
attribute [local go_sem ↓] Go.wp_at_zero Go.wp_at_succ

theorem bs_app {l r : List Int} (h : Bs l) (h2 : Bs r) : Bs (l ++ r) := by
  intro x hx
  rcases List.mem_append.1 hx with hx | hx
  · exact h x hx
  · exact h2 x hx

set_option maxRecDepth 100000 in
set_option maxHeartbeats 2000000 in
theorem fnvSums_walk (w : World) (s : Int) (hsw : (Lit.int .u64 s).wf = true)
    (a : Option Addr) (len cap : Nat) (l : List Int) (hlen : l.length = len) (hm : len ≤ maxLen) (hcap : len ≤ cap) (hwf : ∀ n ∈ l, (Lit.int .u8 n).wf = true) (hs : Sees .u8 w.heap.size w a l)
    (b : Option Addr) (len2 cap2 : Nat) (r : List Int) (hlen2 : r.length = len2) (hm2 : len2 ≤ maxLen) (hcap2 : len2 ≤ cap2) (hwf2 : ∀ n ∈ r, (Lit.int .u8 n).wf = true) (hs2 : Sees .u8 w.heap.size w b r) :
    Calls Try.prog 3 #[.int .u64 s, .slice a len cap, .slice b len2 cap2] w (Gives (.bool true) w) := by
  obtain ⟨i0, hi, hz0, hz1, hz2⟩ := info_parts infoU8
  have hb := bs_of_wf hwf
  have hb2 := bs_of_wf hwf2
  clear hwf hwf2
  subst hlen
  subst hlen2
  have hsU : InU s := u64_wf hsw
  have hm' := hm
  have hm2' := hm2
  unfold maxLen at hm' hm2'
  by_cases hbig : 3000 < l.length
  · go_enter Try.func3, Try.ntmps3
    go_wp2_with (go_at_call 7; refine (lives_any _).mono ?_; rintro e w' ⟨rfl, hb'⟩)
    go_ret
    exact ⟨rfl, hb'⟩
  · have hd : decide ((3000 : Int) < (l.length : Int)) = false := by simp; omega
    by_cases hbig2 : 3000 < r.length
    · go_enter Try.func3, Try.ntmps3
      go_wp2_with (go_at_call 7; refine (lives_any _).mono ?_; rintro e w' ⟨rfl, hb'⟩)
      go_ret
      exact ⟨rfl, hb'⟩
    · have hd2 : decide ((3000 : Int) < (r.length : Int)) = false := by simp; omega
      have hll : l.length + r.length < 7000 := by omega
      have c1 := fun B w hc => sum_any a l l.length cap rfl B w hm hb hc
      have c2 := fun B w hc => refsum_any a l l.length cap rfl B w hm hb hc
      have c3 := fun B w hc => more_any s hsU a l l.length cap rfl B w hm hb hc
      have c4 := fun B w hc => refmore_any s hsU a l l.length cap rfl B w hm hb hc
      have c5 := fun B w hc => more_any (fsum s l) (fsum_in hsU l) b r r.length cap2 rfl B w hm2 hb2 hc
      have c6 := fun B w hc => more_any (fsum fstart l) (fsum_in fstart_in l) b r r.length cap2 rfl B w hm2 hb2 hc
      have c7 := fun x c B w hc => more_any s hsU x (l ++ r) (l.length + r.length) c (by simp) B w (by simp; unfold maxLen; omega) (bs_app hb hb2) hc
      have c8 := fun x c B w hc => sum_any x (l ++ r) (l.length + r.length) c (by simp) B w (by simp; unfold maxLen; omega) (bs_app hb hb2) hc
      rw [fsum_append] at c7 c8
      generalize fsum (fsum s l) r = V1 at *
      generalize fsum (fsum fstart l) r = V2 at *
      generalize fsum fstart l = V3 at *
      generalize fsum s l = V4 at *
      have c1' := Lib.hid c1
      have c2' := Lib.hid c2
      have c3' := Lib.hid c3
      have c4' := Lib.hid c4
      have c5' := Lib.hid c5
      have c6' := Lib.hid c6
      have c7' := Lib.hid c7
      have c8' := Lib.hid c8
      clear c1 c2 c3 c4 c5 c6 c7 c8
      go_enter Try.func3, Try.ntmps3
      go_wp2_with (first
        | (at_builtin; refine wpList_append_sees _ rfl (.tmp 17) (.tmp 18) 23 rfl w 5 i0 (.int .u8 0) 1 Try.underlying23 hi hz0 hz1 hz2 rfl .u8 _ [] (by exact own_empty 5 .u8 (Below.refl _ w)) (by exact (Below.refl _ w).alloc (Nat.le_refl _) _) w.heap.size a l (by exact hs.below ((Below.refl _ w).alloc (Nat.le_refl _) _)) l.length cap rfl rfl rfl (by simp; omega) (by omega) ?_; intro v2 w2 hown2 hw2; simp only [List.nil_append] at hown2)
        | (at_builtin; refine wpList_append_sees _ rfl (.tmp 19) (.tmp 20) 23 rfl w 5 i0 (.int .u8 0) 1 Try.underlying23 hi hz0 hz1 hz2 rfl .u8 _ l hown2 hw2 w.heap.size b r (by exact hs2.below hw2) r.length cap2 rfl rfl rfl (by omega) (by omega) ?_; intro v3 w3 hown3 hw3))
      obtain ⟨a3, cap3, rfl, _, hs3⟩ := sees_own hown3
      clear hown2 hown3
      refine (lives_any _).mono ?_
      rintro e w4 ⟨rfl, hw4⟩
      have hw4' : Below w.heap.size w w4 := hw3.trans (hw4.mono hw3.size)
      have k1 := hs.below hw4'
      have k2 := hs2.below hw4'
      have k3 := hs3.below hw4
      go_wp2_with fail
      refine (c1'.out _ _ k1).mono ?_
      rintro e w' ⟨rfl, rfl⟩
      go_wp2_with fail
      refine (c2'.out _ _ k1).mono ?_
      rintro e w' ⟨rfl, rfl⟩
      go_wp2_with fail
      refine (c3'.out _ _ k1).mono ?_
      rintro e w' ⟨rfl, rfl⟩
      go_wp2_with fail
      refine (c4'.out _ _ k1).mono ?_
      rintro e w' ⟨rfl, rfl⟩
      go_wp2_with fail
      refine (c3'.out _ _ k1).mono ?_
      rintro e w' ⟨rfl, rfl⟩
      go_wp2_with fail
      refine (c5'.out _ _ k2).mono ?_
      rintro e w' ⟨rfl, rfl⟩
      go_wp2_with fail
      refine (c7'.out _ _ _ _ k3).mono ?_
      rintro e w' ⟨rfl, rfl⟩
      go_wp2_with fail
      refine (c1'.out _ _ k1).mono ?_
      rintro e w' ⟨rfl, rfl⟩
      go_wp2_with fail
      refine (c6'.out _ _ k2).mono ?_
      rintro e w' ⟨rfl, rfl⟩
      go_wp2_with fail
      refine (c8'.out _ _ _ _ k3).mono ?_
      rintro e w' ⟨rfl, rfl⟩
      go_wp2
      go_ret
      exact ⟨rfl, hw4'⟩

set_option maxRecDepth 100000 in
set_option maxHeartbeats 2000000 in
theorem fnvLess_walk (w : World) (s : Int) (hsw : (Lit.int .u64 s).wf = true) (t : Int) (htw : (Lit.int .u64 t).wf = true)
    (a : Option Addr) (len cap : Nat) (l : List Int) (hlen : l.length = len) (hm : len ≤ maxLen) (hcap : len ≤ cap) (hwf : ∀ n ∈ l, (Lit.int .u8 n).wf = true) (hs : Sees .u8 w.heap.size w a l) :
    Calls Try.prog 4 #[.int .u64 s, .int .u64 t, .slice a len cap] w (Gives (.bool true) w) := by
  have hb := bs_of_wf hwf
  clear hwf
  subst hlen
  have hsU : InU s := u64_wf hsw
  have htU : InU t := u64_wf htw
  have hm' := hm
  unfold maxLen at hm'
  by_cases hbig : 3000 < l.length
  · go_enter Try.func4, Try.ntmps4
    go_wp2_with (go_at_call 7; refine (lives_any _).mono ?_; rintro e w' ⟨rfl, hb'⟩)
    go_ret
    exact ⟨rfl, hb'⟩
  · have hd : decide ((3000 : Int) < (l.length : Int)) = false := by simp; omega
    have c1 := fun B w hc => less_any s hsU a l l.length cap rfl B w hm hb hc
    have c2 := fun B w hc => refmore_any (bsum s l) (bsum_in hsU l hb) a l l.length cap rfl B w hm hb hc
    have c3 := fun B w hc => refmore_any s hsU a l l.length cap rfl B w hm hb hc
    have c4 := fun B w hc => less_any (fsum s l) (fsum_in hsU l) a l l.length cap rfl B w hm hb hc
    have c5 := fun B w hc => more_any s hsU a l l.length cap rfl B w hm hb hc
    have c6 := fun B w hc => more_any t htU a l l.length cap rfl B w hm hb hc
    rw [fsum_bsum hb hsU] at c2
    rw [bsum_fsum hb hsU] at c4
    have heq : ((s == t) == (fsum s l == fsum t l)) = true := by
      by_cases h : s = t
      · subst h; simp
      · have h2 : ¬ fsum s l = fsum t l := fun he => h (fsum_inj hb hsU htU he)
        rw [show (s == t) = false from by simpa using h, show (fsum s l == fsum t l) = false from by simpa using h2]; rfl
    generalize fsum s l = V1 at *
    generalize fsum t l = V2 at *
    generalize bsum s l = V3 at *
    have c1' := Lib.hid c1
    have c2' := Lib.hid c2
    have c3' := Lib.hid c3
    have c4' := Lib.hid c4
    have c5' := Lib.hid c5
    have c6' := Lib.hid c6
    have heq' := Lib.hid heq
    clear c1 c2 c3 c4 c5 c6 heq
    go_enter Try.func4, Try.ntmps4
    go_wp2_with fail
    refine (c1'.out _ _ hs).mono ?_
    rintro e w' ⟨rfl, rfl⟩
    go_wp2_with fail
    refine (lives_any _).mono ?_
    rintro e w4 ⟨rfl, hw4⟩
    have k1 := hs.below hw4
    go_wp2_with fail
    refine (c2'.out _ _ k1).mono ?_
    rintro e w' ⟨rfl, rfl⟩
    go_wp2_with fail
    refine (c3'.out _ _ k1).mono ?_
    rintro e w' ⟨rfl, rfl⟩
    go_wp2_with fail
    refine (c4'.out _ _ k1).mono ?_
    rintro e w' ⟨rfl, rfl⟩
    go_wp2_with fail
    refine (c5'.out _ _ k1).mono ?_
    rintro e w' ⟨rfl, rfl⟩
    go_wp2_with fail
    refine (c6'.out _ _ k1).mono ?_
    rintro e w' ⟨rfl, rfl⟩
    go_wp2
    all_goals go_ret
    all_goals exact ⟨ret_bool (by have := heq'.out; simp at this ⊢; try exact this), hw4⟩
end Go.Proofs.Ytnpgkpljmifjdaa
