/- Quote, the program's. -/
import Derived.Test.YtplgfghffeijcaaLexWord
namespace Go.Proofs.Ytplgfghffeijcaa
open Go.RowKit
set_option linter.unusedVariables false
set_option linter.unusedSimpArgs false

def qb (c : Int) : List Int := (if c = 34 ∨ c = 92 then [92] else []) ++ (if prB c then [c] else [])
def quoteL (l : List Int) : List Int := [34] ++ l.flatMap qb ++ [34]
def quoteK (l : List Int) (k : Nat) : List Int := [34] ++ (l.take k).flatMap qb
theorem qb_len (c : Int) : (qb c).length ≤ 2 := by unfold qb; split <;> split <;> simp
theorem flat_qb_len : ∀ l : List Int, (l.flatMap qb).length ≤ 2 * l.length
  | [] => by simp
  | c :: r => by have := flat_qb_len r; have := qb_len c; rw [List.flatMap_cons, List.length_append, List.length_cons]; omega
theorem quoteK_next {l : List Int} {k : Nat} (hk : k < l.length) : quoteK l (k + 1) = quoteK l k ++ qb (l.getD k 0) := by
  unfold quoteK
  rw [List.take_succ_eq_append_getElem hk, List.flatMap_append, ← List.append_assoc]
  simp [List.getD, hk]
theorem quoteK_len (l : List Int) (k : Nat) (hk : k ≤ l.length) : (quoteK l k).length ≤ 2 * l.length + 1 := by
  unfold quoteK
  have := flat_qb_len (l.take k)
  rw [List.length_take] at this
  simp only [List.length_append, List.length_cons, List.length_nil]
  omega
set_option maxRecDepth 100000 in
set_option maxHeartbeats 2000000 in
theorem quote_any (s : ByteArray) (hs : s.size ≤ 4000000) (w : World) : Calls Try.prog 15 #[.string s] w (GivesB (.string (strOfNums (quoteL (codes s)))) w) := by
  obtain ⟨i0, hi, hz0, hz1, hz2⟩ := info_parts infoU8
  have hcl : Hid ((codes s).length = s.size) := Lib.hid (codes_length s)
  have hfin : Hid (quoteK (codes s) s.size ++ [34] = quoteL (codes s)) := Lib.hid (by unfold quoteK quoteL; rw [List.take_of_length_le (by rw [hcl.out]; omega)])
  have hstart := own_lit w 5 .u8 [34] #[.int .u8 34] rfl (by simp [maxLen]) 1 rfl
  have hst0 := Lib.hid hstart
  have hb0 := Lib.hid (lit_below w (.cells #[.int .u8 34] 5))
  clear hstart
  generalize quoteL (codes s) = R at *
  go_enter Try.func15, Try.ntmps15
  go_wp2
  go_loopw [3, 9] (fun v x wr => ∃ k : Nat, k ≤ s.size ∧ x = .int .i64 k ∧ Hid (wr.ownsRow w.heap.size 5 1 v (quoteK (codes s) k).length (nums .u8 (quoteK (codes s) k))) ∧ Hid (Below w.heap.size w wr)) (fun _ x _ => s.size - (intOf x).toNat)
  case atStart => exact ⟨0, by omega, rfl, by simpa [quoteK] using hst0, hb0⟩
  case round =>
    clear hst0 hb0
    obtain ⟨k, hk, rfl, hO, hB⟩ := hrel
    have hlen := Lib.hid (quoteK_len (codes s) k (by rw [hcl.out]; exact hk))
    by_cases hlt : k < s.size
    · have hn := quoteK_next (l := codes s) (k := k) (by rw [hcl.out]; exact hlt)
      rw [codes_at s k hlt] at hn
      have hcb : (s[k]'hlt).toNat < 256 := (s[k]'hlt).toNat_lt
      have hpr := Lib.hid (fun W => printed_any ((s[k]'hlt).toNat : Int) W)
      have hw32 : IntKind.i32.wrap ((s[k]'hlt).toNat : Int) = (s[k]'hlt).toNat := by simp [IntKind.wrap, IntKind.bits, IntKind.signed]; omega
      rw [hcl.out] at hlen
      have hki : (k : Int) < (s.size : Int) := by omega
      have hki2 : (k : Int) ≤ 4000000 := by omega
      obtain ⟨Q1, hQ1'⟩ : ∃ Q, quoteK (codes s) (k + 1) = Q := ⟨_, rfl⟩
      rw [hQ1'] at hn
      have hQ1 := Lib.hid hQ1'
      clear hQ1'
      generalize quoteK (codes s) k = Q at *
      have hsz' := Lib.hid hs
      by_cases hq : (s[k]'hlt).toNat = 34 ∨ (s[k]'hlt).toNat = 92
      · have hp : prB ((s[k]'hlt).toNat : Int) = true := by rcases hq with h | h <;> rw [h] <;> decide
        have hQ : Hid (Q1 = Q ++ [92] ++ [((s[k]'hlt).toNat : Int)]) := Lib.hid (by rw [hn]; unfold qb; rw [if_pos (by omega), hp]; simp)
        have e1 : (((s[k]'hlt).toNat : Int) == 34) = true ∨ (((s[k]'hlt).toNat : Int) == 34) = false ∧ (((s[k]'hlt).toNat : Int) == 92) = true := by
          rcases hq with h | h <;> rw [h] <;> decide
        rw [hp] at hpr
        clear hn hq hp hs
        rcases e1 with e1 | ⟨e1, e2⟩
        all_goals
          go_wp2_with (at_builtin; refine wpList_append1 _ rfl (.tmp 21) (.tmp 22) 38 rfl w 5 i0 (.int .u8 0) 1 Try.underlying38 hi hz0 hz1 hz2 rfl .u8 92 _ Q hO.out hB.out rfl rfl (by have := hlen.out; have := hsz'.out; omega) (by omega) ?_; intro v2 w2 o2 b2; have O2 := Lib.hid o2; have B2 := Lib.hid b2; clear o2 b2)
          refine (hpr.out _).mono ?_
          rintro e w' ⟨rfl, rfl⟩
          go_wp2_with (at_builtin; refine wpList_append1 _ rfl (.tmp 27) (.tmp 29) 38 rfl w 5 i0 (.int .u8 0) 1 Try.underlying38 hi hz0 hz1 hz2 rfl .u8 ((s[k]'hlt).toNat : Int) _ (Q ++ [92]) O2.out B2.out rfl rfl (by have := hlen.out; have := hsz'.out; simp; omega) (by omega) ?_; intro v3 w3 o3 b3; have O3 := Lib.hid o3; have B3 := Lib.hid b3; clear o3 b3)
          go_roundw
          case rel => exact ⟨k + 1, by omega, by go_num, by rw [hQ1.out, hQ.out]; exact O3, B3⟩
          case measure => simp [intOf]; omega
      · have e1 : (((s[k]'hlt).toNat : Int) == 34) = false := by simp; omega
        have e2 : (((s[k]'hlt).toNat : Int) == 92) = false := by simp; omega
        cases hp : prB ((s[k]'hlt).toNat : Int)
        · have hQ : Hid (Q1 = Q) := Lib.hid (by rw [hn]; unfold qb; rw [if_neg (by omega), hp]; simp)
          rw [hp] at hpr
          clear hn hq hp hs
          go_wp2_with fail
          refine (hpr.out _).mono ?_
          rintro e w' ⟨rfl, rfl⟩
          go_wp2
          go_roundw
          case rel => exact ⟨k + 1, by omega, by go_num, by rw [hQ1.out, hQ.out]; exact hO, hB⟩
          case measure => simp [intOf]; omega
        · have hQ : Hid (Q1 = Q ++ [((s[k]'hlt).toNat : Int)]) := Lib.hid (by rw [hn]; unfold qb; rw [if_neg (by omega), hp]; simp)
          rw [hp] at hpr
          clear hn hq hp hs
          go_wp2_with fail
          refine (hpr.out _).mono ?_
          rintro e w' ⟨rfl, rfl⟩
          go_wp2_with (at_builtin; refine wpList_append1 _ rfl (.tmp 27) (.tmp 29) 38 rfl w 5 i0 (.int .u8 0) 1 Try.underlying38 hi hz0 hz1 hz2 rfl .u8 ((s[k]'hlt).toNat : Int) _ Q hO.out hB.out rfl rfl (by have := hlen.out; have := hsz'.out; omega) (by omega) ?_; intro v3 w3 o3 b3; have O3 := Lib.hid o3; have B3 := Lib.hid b3; clear o3 b3)
          go_roundw
          case rel => exact ⟨k + 1, by omega, by go_num, by rw [hQ1.out, hQ.out]; exact O3, B3⟩
          case measure => simp [intOf]; omega
    · have hke : k = s.size := by omega
      rw [hke, hcl.out] at hlen
      rw [hke] at hO
      have hsz' := Lib.hid hs
      generalize quoteK (codes s) s.size = Q at *
      have hki : ¬ (k : Int) < (s.size : Int) := by omega
      clear hke hlt hk hs
      go_wp2_with (at_builtin; refine wpList_append1 _ rfl (.tmp 32) (.tmp 33) 38 rfl w 5 i0 (.int .u8 0) 1 Try.underlying38 hi hz0 hz1 hz2 rfl .u8 34 _ Q hO.out hB.out rfl rfl (by have := hlen.out; have := hsz'.out; omega) (by omega) ?_; intro v3 w3 o3 b3; obtain ⟨a3, c3, rfl, -, s3⟩ := sees_own o3; have hcv := conv_sees 38 9 5 Try.underlying38 Try.underlying5 Try.underlying9 s3 (Q.length + 1) c3 (by simp); rw [hfin.out] at hcv; have B3 := Lib.hid b3; clear o3 b3 s3)
      go_ret
      exact ⟨rfl, B3.out⟩
end Go.Proofs.Ytplgfghffeijcaa
