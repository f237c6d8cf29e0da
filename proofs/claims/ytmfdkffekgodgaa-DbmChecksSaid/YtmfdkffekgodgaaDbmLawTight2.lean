/- DbmTight: the other cases, and the walk. (Written by gen-dbm-tight.py.) -/
import Derived.Test.YtmfdkffekgodgaaDbmLawTight
namespace Go.Proofs.Ytmfdkffekgodgaa
open Go.RowKit
set_option linter.unusedVariables false
set_option linter.unusedSimpArgs false

theorem tight_large (n j : Int) (w : World) (a0 : Option Addr) (n0 c0 : Nat) (l0 : List Int) (S0 : SL w a0 n0 c0 l0) (hl : 200 < n0) : Calls Try.prog 6 #[.int .i64 n, .slice a0 n0 c0, .int .i64 j] w (Gives (.bool true) w) := by
  have hlg := Lib.hid (large_any a0 n0 c0 S0.max w)
  have hlv := Lib.hid (lives_dbm w)
  have e : decide (200 < (n0 : Int)) = true := decide_eq_true (by omega)
  rw [e] at hlg
  clear e
  clear S0 hl
  go_enter Try.func6, Try.ntmps6
  go_wp2_with fail
  refine hlg.out.mono ?_
  rintro e w1 ⟨rfl, rfl⟩
  go_wp2_with fail
  refine hlv.out.mono ?_
  rintro e w1 ⟨rfl, b1⟩
  have b1' := Lib.hid b1
  clear b1
  go_wp2
  go_ret
  exact ⟨rfl, b1'.out⟩
theorem tight_no (n j : Int) (w : World) (a0 : Option Addr) (n0 c0 : Nat) (l0 : List Int) (S0 : SL w a0 n0 c0 l0) (hl : ¬ 200 < n0) (hno : mayB n = false) : Calls Try.prog 6 #[.int .i64 n, .slice a0 n0 c0, .int .i64 j] w (Gives (.bool true) w) := by
  have hlg := Lib.hid (large_any a0 n0 c0 S0.max w)
  have hlv := Lib.hid (lives_dbm w)
  have e : decide (200 < (n0 : Int)) = false := decide_eq_false (by omega)
  rw [e] at hlg
  clear e
  have hmay := Lib.hid (fun W => vars_any n W)
  rw [hno] at hmay
  clear S0 hl hno
  go_enter Try.func6, Try.ntmps6
  go_wp2_with fail
  refine hlg.out.mono ?_
  rintro e w1 ⟨rfl, rfl⟩
  go_wp2_with fail
  refine (hmay.out _).mono ?_
  rintro e w1 ⟨rfl, rfl⟩
  go_wp2_with fail
  refine hlv.out.mono ?_
  rintro e w1 ⟨rfl, b1⟩
  have b1' := Lib.hid b1
  clear b1
  go_wp2
  go_ret
  exact ⟨rfl, b1'.out⟩
theorem tight_len (n : Nat) (hn : n ≤ 8) (j : Int) (w : World) (a0 : Option Addr) (n0 c0 : Nat) (l0 : List Int) (S0 : SL w a0 n0 c0 l0) (hl : ¬ 200 < n0) (hne : n0 ≠ sz n) : Calls Try.prog 6 #[.int .i64 n, .slice a0 n0 c0, .int .i64 j] w (Gives (.bool true) w) := by
  have hlg := Lib.hid (large_any a0 n0 c0 S0.max w)
  have hlv := Lib.hid (lives_dbm w)
  have e : decide (200 < (n0 : Int)) = false := decide_eq_false (by omega)
  rw [e] at hlg
  clear e
  have hmay := Lib.hid (fun W => vars_any n W)
  rw [mayB_nat hn] at hmay
  have hni : (n : Int) ≤ 8 := by omega
  have hs81 := sz_le hn
  have v1 : IntKind.i64.wrap ((n : Int) + 1) = (n : Int) + 1 := wrap_small (by omega) (by omega)
  have v2 : IntKind.i64.wrap (((n : Int) + 1) * ((n : Int) + 1)) = (sz n : Nat) := by rw [sz_int]; exact wrap_small (by omega) (by omega)
  generalize sz n = s at *
  have e1 : ((n0 : Int) != (s : Int)) = true := by simp; omega
  have e2 : ¬ (n0 : Int) = (s : Int) := by omega
  clear S0 hl hne
  go_enter Try.func6, Try.ntmps6
  go_wp2_with fail
  refine hlg.out.mono ?_
  rintro e w1 ⟨rfl, rfl⟩
  go_wp2_with fail
  refine (hmay.out _).mono ?_
  rintro e w1 ⟨rfl, rfl⟩
  go_wp2_with fail
  refine hlv.out.mono ?_
  rintro e w1 ⟨rfl, b1⟩
  have b1' := Lib.hid b1
  clear b1
  go_wp2
  go_ret
  exact ⟨rfl, b1'.out⟩
theorem tight_low (n : Nat) (hn : n ≤ 8) (j : Int) (hj : j < 0) (w : World) (a0 : Option Addr) (n0 c0 : Nat) (l0 : List Int) (S0 : SL w a0 n0 c0 l0) (hl : ¬ 200 < n0) (hsz : n0 = sz n) : Calls Try.prog 6 #[.int .i64 n, .slice a0 n0 c0, .int .i64 j] w (Gives (.bool true) w) := by
  have hlg := Lib.hid (large_any a0 n0 c0 S0.max w)
  have hlv := Lib.hid (lives_dbm w)
  have e : decide (200 < (n0 : Int)) = false := decide_eq_false (by omega)
  rw [e] at hlg
  clear e
  have hmay := Lib.hid (fun W => vars_any n W)
  rw [mayB_nat hn] at hmay
  have hni : (n : Int) ≤ 8 := by omega
  have hs81 := sz_le hn
  have v1 : IntKind.i64.wrap ((n : Int) + 1) = (n : Int) + 1 := wrap_small (by omega) (by omega)
  have v2 : IntKind.i64.wrap (((n : Int) + 1) * ((n : Int) + 1)) = (sz n : Nat) := by rw [sz_int]; exact wrap_small (by omega) (by omega)
  rw [← hsz] at v2
  clear S0 hl hsz
  go_enter Try.func6, Try.ntmps6
  go_wp2_with fail
  refine hlg.out.mono ?_
  rintro e w1 ⟨rfl, rfl⟩
  go_wp2_with fail
  refine (hmay.out _).mono ?_
  rintro e w1 ⟨rfl, rfl⟩
  go_wp2_with fail
  refine hlv.out.mono ?_
  rintro e w1 ⟨rfl, b1⟩
  have b1' := Lib.hid b1
  clear b1
  go_wp2
  go_ret
  exact ⟨rfl, b1'.out⟩
theorem tight_high (n : Nat) (hn : n ≤ 8) (j : Int) (hj0 : 0 ≤ j) (hj : (n : Int) < j) (w : World) (a0 : Option Addr) (n0 c0 : Nat) (l0 : List Int) (S0 : SL w a0 n0 c0 l0) (hl : ¬ 200 < n0) (hsz : n0 = sz n) : Calls Try.prog 6 #[.int .i64 n, .slice a0 n0 c0, .int .i64 j] w (Gives (.bool true) w) := by
  have hlg := Lib.hid (large_any a0 n0 c0 S0.max w)
  have hlv := Lib.hid (lives_dbm w)
  have e : decide (200 < (n0 : Int)) = false := decide_eq_false (by omega)
  rw [e] at hlg
  clear e
  have hmay := Lib.hid (fun W => vars_any n W)
  rw [mayB_nat hn] at hmay
  have hni : (n : Int) ≤ 8 := by omega
  have hs81 := sz_le hn
  have v1 : IntKind.i64.wrap ((n : Int) + 1) = (n : Int) + 1 := wrap_small (by omega) (by omega)
  have v2 : IntKind.i64.wrap (((n : Int) + 1) * ((n : Int) + 1)) = (sz n : Nat) := by rw [sz_int]; exact wrap_small (by omega) (by omega)
  rw [← hsz] at v2
  have hj1 : ¬ j < 0 := by omega
  clear S0 hl hsz
  go_enter Try.func6, Try.ntmps6
  go_wp2_with fail
  refine hlg.out.mono ?_
  rintro e w1 ⟨rfl, rfl⟩
  go_wp2_with fail
  refine (hmay.out _).mono ?_
  rintro e w1 ⟨rfl, rfl⟩
  go_wp2_with fail
  refine hlv.out.mono ?_
  rintro e w1 ⟨rfl, b1⟩
  have b1' := Lib.hid b1
  clear b1
  go_wp2
  go_ret
  exact ⟨rfl, b1'.out⟩
set_option maxRecDepth 100000 in
set_option maxHeartbeats 1000000 in
theorem tight_nil (n : Nat) (hn : n ≤ 8) (w : World) (a0 : Option Addr) (n0 c0 : Nat) (l0 : List Int) (S0 : SL w a0 n0 c0 l0) (j : Nat) (hj : j ≤ n) (hl : ¬ 200 < n0) (hsz : n0 = sz n) (hR : closedL n l0 = []) : Calls Try.prog 6 #[.int .i64 n, .slice a0 n0 c0, .int .i64 j] w (Gives (.bool true) w) := by
  have hlg := Lib.hid (large_any a0 n0 c0 S0.max w)
  have hlv := Lib.hid (lives_dbm w)
  have e : decide (200 < (n0 : Int)) = false := decide_eq_false (by omega)
  rw [e] at hlg
  clear e
  have hmay := Lib.hid (fun W => vars_any n W)
  rw [mayB_nat hn] at hmay
  have hni : (n : Int) ≤ 8 := by omega
  have hs81 := sz_le hn
  have v1 : IntKind.i64.wrap ((n : Int) + 1) = (n : Int) + 1 := wrap_small (by omega) (by omega)
  have v2 : IntKind.i64.wrap (((n : Int) + 1) * ((n : Int) + 1)) = (sz n : Nat) := by rw [sz_int]; exact wrap_small (by omega) (by omega)
  rw [← hsz] at v2
  have hji : (j : Int) ≤ (n : Int) := by omega
  have hcl := Lib.hid ((dclose_ok n hn a0 l0 n0 c0 S0.len hsz w S0.sees).mono (fun e w' h => ends_of (m := 0) (by rw [hR]; rfl) (by decide) h))
  rw [hR] at hcl
  have hpt := Lib.hid (fun W a c (h : SL W a 0 c []) => point_no n a 0 c [] j (by unfold bndB fullB; simp) W h)
  have hem := Lib.hid (fun W a c (h : SL W a 0 c []) => empty_any n a 0 c [] W h)
  rw [show emptyB n [] = true by unfold emptyB; rw [checkB_nil (mayB_nat hn)]; rfl] at hem
  have hS0 := Lib.hid S0
  clear S0 hl hsz hR hn hlv
  go_enter Try.func6, Try.ntmps6
  go_wp2_with fail
  refine hlg.out.mono ?_
  rintro e w1 ⟨rfl, rfl⟩
  go_wp2_with fail
  refine (hmay.out _).mono ?_
  rintro e w1 ⟨rfl, rfl⟩
  go_wp2_with fail
  refine hcl.out.mono ?_
  rintro e w1 ⟨a1, c1, rfl, s1, b1⟩
  have B1 := b1.trans ((box_below w1 #[.int .i64 n, .slice a1 0 c1] 26).mono b1.size)
  have Z1 := Lib.hid (Holds.new w1 26 #[.int .i64 n, .slice a1 0 c1])
  have S1 := Lib.hid (s1.below (box_below w1 #[.int .i64 n, .slice a1 0 c1] 26))
  have B1' := Lib.hid B1
  have hp1 := Lib.hid (hpt.out _ a1 c1 S1.out)
  clear b1 s1 B1 hcl hlg hmay hpt
  go_wp2_with fail
  refine hp1.out.mono ?_
  rintro e w2 ⟨rfl, b2⟩
  have Z2 := Lib.hid (Z1.out.below b2 Z1.out.lt)
  have S2 := Lib.hid (S1.out.below b2)
  have hlv := Lib.hid (livesAt w w2 (B1'.out.trans (b2.mono B1'.out.size)))
  clear hp1 b2 Z1 S1 B1'
  go_wp2_with fail
  refine hlv.out.mono ?_
  rintro e w3 ⟨rfl, b3, bw3⟩
  have Z3 := Lib.hid (Z2.out.below b3 Z2.out.lt)
  have S3 := Lib.hid (S2.out.below b3)
  have bw3' := Lib.hid bw3
  have k0 := Z3.out.cell 0
  have k1 := Z3.out.cell 1
  have he3 := Lib.hid (hem.out _ a1 c1 S3.out)
  clear hlv b3 bw3 Z2 S2 hem
  go_wp2_with fail
  refine he3.out.mono ?_
  rintro e w4 ⟨rfl, b4⟩
  have Z4 := Lib.hid (Z3.out.below b4 Z3.out.lt)
  have bw4 := Lib.hid (bw3'.out.trans (b4.mono bw3'.out.size))
  clear k0 k1 he3 b4
  have k0 := Z4.out.cell 0
  have k1 := Z4.out.cell 1
  go_wp2
  go_ret
  exact ⟨rfl, bw4.out⟩
theorem dbmTight_walk (w : World) (n : Int) (hn0 : (Lit.int .i64 n).wf = true) (a0 : Option Addr) (n0 c0 : Nat) (l0 : List Int) (hl0 : l0.length = n0) (hm0 : n0 ≤ maxLen) (hc0 : n0 ≤ c0) (hw0 : ∀ n ∈ l0, (Lit.int .i64 n).wf = true) (hs0 : Sees .i64 w.heap.size w a0 l0) (j : Int) (hj0 : (Lit.int .i64 j).wf = true) :
    Calls Try.prog 6 #[.int .i64 n, .slice a0 n0 c0, .int .i64 j] w (Gives (.bool true) w) := by
  have S0 : SL w a0 n0 c0 l0 := ⟨hl0.symm, hc0, by unfold maxLen at hm0; omega, hs0⟩
  by_cases hl : 200 < n0
  · exact tight_large n j w a0 n0 c0 l0 S0 hl
  cases hm : mayB n
  · exact tight_no n j w a0 n0 c0 l0 S0 hl hm
  · obtain ⟨k, rfl, hk⟩ := mayB_of hm
    by_cases hsz : n0 = sz k
    · by_cases h1 : j < 0
      · exact tight_low k hk j h1 w a0 n0 c0 l0 S0 hl hsz
      by_cases h2 : (k : Int) < j
      · exact tight_high k hk j (by omega) h2 w a0 n0 c0 l0 S0 hl hsz
      obtain ⟨i, rfl⟩ : ∃ i : Nat, j = i := ⟨j.toNat, by omega⟩
      by_cases hR : closedL k l0 = []
      · exact tight_nil k hk w a0 n0 c0 l0 S0 i (by omega) hl hsz hR
      · exact tight_full k hk w a0 n0 c0 l0 S0 i (by omega) hl hsz hR
    · exact tight_len k hk j w a0 n0 c0 l0 S0 hl hsz
end Go.Proofs.Ytmfdkffekgodgaa
