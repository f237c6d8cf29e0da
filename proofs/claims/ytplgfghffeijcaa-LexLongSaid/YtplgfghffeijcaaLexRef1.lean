/- The document's words, quotes; how large tokens are. -/
import Derived.Test.YtplgfghffeijcaaLexSame
import Derived.Test.YtplgfghffeijcaaLexCut
namespace Go.Proofs.Ytplgfghffeijcaa
open Go.RowKit
set_option linter.unusedVariables false
set_option linter.unusedSimpArgs false

theorem rword_any (c : Int) (h0 : 0 ≤ c) (h1 : c ≤ 255) (w : World) : Calls Try.prog 29 #[.int .u8 c] w fun e w' => e = .returned (.bool (wdB c)) ∧ w = w' := by
  have hv : wdB c = (decide (33 ≤ c) && (decide (c ≤ 126) && !(c == 34))) := by
    unfold wdB prB
    rw [Bool.eq_iff_iff]
    simp
    omega
  rw [hv]
  clear hv
  by_cases a : 33 ≤ c
  · have d0 : decide (33 ≤ c) = true := decide_eq_true a
    rw [d0, Bool.true_and]
    clear d0
    by_cases b : c ≤ 126
    · have d1 : decide (c ≤ 126) = true := decide_eq_true b
      rw [d1, Bool.true_and]
      clear d1
      by_cases d : c = 34
      · have e1 : (c == 34) = true := by simpa using d
        have e2 : (c != 34) = false := by simpa using d
        clear d
        rw [e1]
        go_enter Try.func29, Try.ntmps29
        go_wp2
        go_ret
        exact ⟨rfl, rfl⟩
      · have e1 : (c == 34) = false := by simpa using d
        have e2 : (c != 34) = true := by simpa using d
        clear d
        rw [e1]
        go_enter Try.func29, Try.ntmps29
        go_wp2
        go_ret
        exact ⟨rfl, rfl⟩
    · have d1 : decide (c ≤ 126) = false := decide_eq_false b
      rw [d1, Bool.false_and]
      go_enter Try.func29, Try.ntmps29
      go_wp2
      go_ret
      exact ⟨rfl, rfl⟩
  · have d0 : decide (33 ≤ c) = false := decide_eq_false a
    rw [d0, Bool.false_and]
    go_enter Try.func29, Try.ntmps29
    go_wp2
    go_ret
    exact ⟨rfl, rfl⟩
set_option maxRecDepth 100000 in
set_option maxHeartbeats 1000000 in
theorem rWord_any (s : ByteArray) (hs : s.size ≤ 9223372036854775806) (w : World) : Calls Try.prog 18 #[.string s] w fun e w' => e = .returned (.bool (wordL (codes s))) ∧ w = w' := by
  have hcl : Hid ((codes s).length = s.size) := Lib.hid (codes_length s)
  have hno : Hid (∀ p, p < s.size → wdB ((codes s).getD p 0) = false → wordL (codes s) = false) := Lib.hid (fun p hp h => by unfold wordL; rw [all_no (by rw [hcl.out]; exact hp) h, Bool.and_false])
  have hyes : Hid ((∀ t, t < s.size → wdB ((codes s).getD t 0) = true) → wordL (codes s) = decide ((0 : Int) < s.size)) := Lib.hid (fun h => by
    unfold wordL
    rw [all_yes (by rw [hcl.out]; exact h), Bool.and_true]
    have h1 := hcl.out
    cases hc : codes s with
    | nil => rw [hc] at h1; simp at h1; rw [← h1]; rfl
    | cons x r => rw [hc] at h1; simp at h1; simp; omega)
  go_enter Try.func18, Try.ntmps18
  go_wp2
  go_loop [3] (fun x => ∃ k : Nat, k ≤ s.size ∧ x = .int .i64 k ∧ Hid (∀ t, t < k → wdB ((codes s).getD t 0) = true)) (fun x => s.size - (intOf x).toNat)
  case atStart => exact ⟨0, by omega, rfl, Lib.hid (by intro t ht; omega)⟩
  case round =>
    obtain ⟨k, hk, rfl, hall⟩ := hrel
    by_cases hlt : k < s.size
    · have hki : (k : Int) < (s.size : Int) := by omega
      have hki2 : (k : Int) ≤ 9223372036854775805 := by omega
      have hcb : (s[k]'hlt).toNat < 256 := (s[k]'hlt).toNat_lt
      have hw := Lib.hid (fun W => rword_any ((s[k]'hlt).toNat : Int) (by omega) (by omega) W)
      have hce := codes_at s k hlt
      have hcn := Lib.hid (fun (h : wdB ((s[k]'hlt).toNat : Int) = false) => hno.out k hlt (by rw [hce]; exact h))
      have hst : Hid (wdB ((s[k]'hlt).toNat : Int) = true → ∀ t, t < k + 1 → wdB ((codes s).getD t 0) = true) := Lib.hid (fun h t ht => by
        by_cases e : t = k
        · rw [e, hce]; exact h
        · exact hall.out t (by omega))
      clear hce hno hyes hall
      cases hv : wdB ((s[k]'hlt).toNat : Int)
      · have hR := Lib.hid (hcn.out hv)
        rw [hv] at hw
        clear hcn hst hv
        go_wp2_with fail
        refine (hw.out _).mono ?_
        rintro e w1 ⟨rfl, rfl⟩
        go_wp2
        go_ret
        exact ⟨ret_bool hR.out.symm, rfl⟩
      · have hs1 := Lib.hid (hst.out hv)
        rw [hv] at hw
        clear hcn hst hv
        go_wp2_with fail
        refine (hw.out _).mono ?_
        rintro e w1 ⟨rfl, rfl⟩
        go_wp2
        go_round
        case rel => exact ⟨k + 1, by omega, by go_num, hs1⟩
        case measure => simp [intOf]; omega
    · have hke : k = s.size := by omega
      have hR := Lib.hid (hyes.out (by rw [hke] at hall; exact hall.out))
      have hki : ¬ (k : Int) < (s.size : Int) := by omega
      clear hke hno hyes hall hlt
      go_wp2
      go_ret
      exact ⟨ret_bool (by rw [hR.out]; first | rfl | simp), rfl⟩
set_option maxRecDepth 100000 in
set_option maxHeartbeats 1000000 in
theorem rplain_any (s : ByteArray) (hs : s.size ≤ 9223372036854775806) (w : World) : Calls Try.prog 26 #[.string s] w fun e w' => e = .returned (.bool ((codes s).all prB)) ∧ w = w' := by
  have hcl : Hid ((codes s).length = s.size) := Lib.hid (codes_length s)
  have hno : Hid (∀ p, p < s.size → prB ((codes s).getD p 0) = false → (codes s).all prB = false) := Lib.hid (fun p hp h => all_no (by rw [hcl.out]; exact hp) h)
  have hyes : Hid ((∀ t, t < s.size → prB ((codes s).getD t 0) = true) → (codes s).all prB = true) := Lib.hid (fun h => all_yes (by rw [hcl.out]; exact h))
  go_enter Try.func26, Try.ntmps26
  go_wp2
  go_loop [3] (fun x => ∃ k : Nat, k ≤ s.size ∧ x = .int .i64 k ∧ Hid (∀ t, t < k → prB ((codes s).getD t 0) = true)) (fun x => s.size - (intOf x).toNat)
  case atStart => exact ⟨0, by omega, rfl, Lib.hid (by intro t ht; omega)⟩
  case round =>
    obtain ⟨k, hk, rfl, hall⟩ := hrel
    by_cases hlt : k < s.size
    · have hki : (k : Int) < (s.size : Int) := by omega
      have hki2 : (k : Int) ≤ 9223372036854775805 := by omega
      have hcb : (s[k]'hlt).toNat < 256 := (s[k]'hlt).toNat_lt
      have hce := codes_at s k hlt
      by_cases h1 : ((s[k]'hlt).toNat : Int) < 32
      · have hR := Lib.hid (hno.out k hlt (by rw [hce]; unfold prB; simp; omega))
        clear hce hno hyes hall
        go_wp2
        go_ret
        exact ⟨ret_bool hR.out.symm, rfl⟩
      · by_cases h2 : (126 : Int) < ((s[k]'hlt).toNat : Int)
        · have hR := Lib.hid (hno.out k hlt (by rw [hce]; unfold prB; simp; omega))
          have h1' : decide (((s[k]'hlt).toNat : Int) < 32) = false := decide_eq_false h1
          clear hce hno hyes hall
          go_wp2
          go_ret
          exact ⟨ret_bool hR.out.symm, rfl⟩
        · have hs1 : Hid (∀ t, t < k + 1 → prB ((codes s).getD t 0) = true) := Lib.hid (fun t ht => by
            by_cases e : t = k
            · rw [e, hce]; unfold prB; simp; omega
            · exact hall.out t (by omega))
          have h1' : decide (((s[k]'hlt).toNat : Int) < 32) = false := decide_eq_false h1
          have h2' : decide ((126 : Int) < ((s[k]'hlt).toNat : Int)) = false := decide_eq_false h2
          clear hce hno hyes hall
          go_wp2
          go_round
          case rel => exact ⟨k + 1, by omega, by go_num, hs1⟩
          case measure => simp [intOf]; omega
    · have hke : k = s.size := by omega
      have hR := Lib.hid (hyes.out (by rw [hke] at hall; exact hall.out))
      have hki : ¬ (k : Int) < (s.size : Int) := by omega
      clear hke hno hyes hall hlt
      go_wp2
      go_ret
      exact ⟨ret_bool hR.out.symm, rfl⟩
set_option maxRecDepth 100000 in
set_option maxHeartbeats 2000000 in
theorem rquote_any (s : ByteArray) (hs : s.size ≤ 4000000) (w : World) : Calls Try.prog 16 #[.string s] w fun e w' => e = .returned (.string (strOfNums (quoteL (codes s)))) ∧ w = w' := by
  have hcl : Hid ((codes s).length = s.size) := Lib.hid (codes_length s)
  have hfin : Hid (quoteK (codes s) s.size ++ [34] = quoteL (codes s)) := Lib.hid (by unfold quoteK quoteL; rw [List.take_of_length_le (by rw [hcl.out]; omega)])
  go_enter Try.func16, Try.ntmps16
  go_wp2
  go_loop [3, 4] (fun o x => ∃ k : Nat, k ≤ s.size ∧ x = .int .i64 k ∧ o = .string (strOfNums (quoteK (codes s) k))) (fun _ x => s.size - (intOf x).toNat)
  case atStart => exact ⟨0, by omega, rfl, rfl⟩
  case round =>
    obtain ⟨k, hk, rfl, rfl⟩ := hrel
    have hlen := quoteK_len (codes s) k (by rw [hcl.out]; exact hk)
    rw [hcl.out] at hlen
    by_cases hlt : k < s.size
    · have hn := quoteK_next (l := codes s) (k := k) (by rw [hcl.out]; exact hlt)
      rw [codes_at s k hlt] at hn
      have hone := fun W => byte_cut s k hlt W
      obtain ⟨Q1, hQ1'⟩ : ∃ Q, quoteK (codes s) (k + 1) = Q := ⟨_, rfl⟩
      rw [hQ1'] at hn
      have hQ1 := Lib.hid hQ1'
      clear hQ1'
      generalize quoteK (codes s) k = Q at *
      have hki : (k : Int) < (s.size : Int) := by omega
      have hki2 : (k : Int) ≤ 4000000 := by omega
      have hcb : (s[k]'hlt).toNat < 256 := (s[k]'hlt).toNat_lt
      have hsz1 := str_size Q
      have hsz2 : (strOfNums [((s[k]'hlt).toNat : Int)]).size = 1 := by rw [str_size]; rfl
      have hov1 : ¬ 9223372036854775807 < Q.length + 1 := by omega
      have hov2 : ¬ 9223372036854775807 < Q.length + 1 + 1 := by omega
      obtain ⟨X, hX⟩ : ∃ X, X = strOfNums [((s[k]'hlt).toNat : Int)] := ⟨_, rfl⟩
      rw [← hX] at hone hsz2
      by_cases hq : (s[k]'hlt).toNat = 34 ∨ (s[k]'hlt).toNat = 92
      · have hp : prB ((s[k]'hlt).toNat : Int) = true := by rcases hq with h | h <;> rw [h] <;> decide
        have hQ : Hid (strOfNums Q1 = strOfNums Q ++ ⟨#[92]⟩ ++ X) := Lib.hid (by rw [hn, hX]; unfold qb; rw [if_pos (by omega), hp, if_pos rfl, str_append, str_append, ← ByteArray.append_assoc]; rfl)
        have e1 : (((s[k]'hlt).toNat : Int) == 34) = true ∨ (((s[k]'hlt).toNat : Int) == 34) = false ∧ (((s[k]'hlt).toNat : Int) == 92) = true := by
          rcases hq with h | h <;> rw [h] <;> decide
        clear hn hq hp hs hX hlen
        rcases e1 with e1 | ⟨e1, e2⟩
        all_goals
          go_wp2
          go_round
          case rel => exact ⟨k + 1, by omega, by go_num, by rw [hQ1.out, hQ.out]⟩
          case measure => simp [intOf]; omega
      · have e1 : (((s[k]'hlt).toNat : Int) == 34) = false := by simp; omega
        have e2 : (((s[k]'hlt).toNat : Int) == 92) = false := by simp; omega
        by_cases h1 : (32 : Int) ≤ ((s[k]'hlt).toNat : Int)
        · have d1 : decide ((32 : Int) ≤ ((s[k]'hlt).toNat : Int)) = true := decide_eq_true h1
          by_cases h2 : ((s[k]'hlt).toNat : Int) ≤ 126
          · have hp : prB ((s[k]'hlt).toNat : Int) = true := by unfold prB; simp; omega
            have hQ : Hid (strOfNums Q1 = strOfNums Q ++ X) := Lib.hid (by rw [hn, hX]; unfold qb; rw [if_neg (by omega), hp, if_pos rfl, List.nil_append, str_append])
            clear hn hq hp hs hX hlen
            go_wp2
            go_round
            case rel => exact ⟨k + 1, by omega, by go_num, by rw [hQ1.out, hQ.out]⟩
            case measure => simp [intOf]; omega
          · have hp : prB ((s[k]'hlt).toNat : Int) = false := by unfold prB; simp; omega
            have d2 : decide (((s[k]'hlt).toNat : Int) ≤ 126) = false := decide_eq_false h2
            have hQ : Hid (Q1 = Q) := Lib.hid (by rw [hn]; unfold qb; rw [if_neg (by omega), hp]; simp)
            clear hn hq hp hs hX hlen
            go_wp2
            go_round
            case rel => exact ⟨k + 1, by omega, by go_num, by rw [hQ1.out, hQ.out]⟩
            case measure => simp [intOf]; omega
        · have hp : prB ((s[k]'hlt).toNat : Int) = false := by unfold prB; simp; omega
          have d1 : decide ((32 : Int) ≤ ((s[k]'hlt).toNat : Int)) = false := decide_eq_false h1
          have hQ : Hid (Q1 = Q) := Lib.hid (by rw [hn]; unfold qb; rw [if_neg (by omega), hp]; simp)
          clear hn hq hp hs hX hlen
          go_wp2
          go_round
          case rel => exact ⟨k + 1, by omega, by go_num, by rw [hQ1.out, hQ.out]⟩
          case measure => simp [intOf]; omega
    · have hke : k = s.size := by omega
      rw [hke] at hlen ⊢
      have hQ : Hid (strOfNums (quoteL (codes s)) = strOfNums (quoteK (codes s) s.size) ++ ⟨#[34]⟩) := Lib.hid (by rw [← hfin.out, str_append]; rfl)
      generalize quoteK (codes s) s.size = Q at *
      have hsz1 := str_size Q
      have hov1 : ¬ 9223372036854775807 < Q.length + 1 := by omega
      clear hke hlt hk hlen
      go_wp2
      go_ret
      exact ⟨by rw [hQ.out]; rfl, rfl⟩
end Go.Proofs.Ytplgfghffeijcaa
