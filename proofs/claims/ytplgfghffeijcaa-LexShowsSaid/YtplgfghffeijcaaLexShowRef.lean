/- The document's Large and Show. -/
import Derived.Test.YtplgfghffeijcaaLexRef1
import Derived.Test.YtplgfghffeijcaaLexTextMath
namespace Go.Proofs.Ytplgfghffeijcaa
open Go.RowKit
set_option linter.unusedVariables false
set_option linter.unusedSimpArgs false

def sumT : List Tk → Nat
  | [] => 0
  | t :: r => t.tx.size + sumT r
theorem sumT_snoc (t : Tk) : ∀ l : List Tk, sumT (l ++ [t]) = sumT l + t.tx.size
  | [] => by simp [sumT]
  | x :: r => by rw [List.cons_append]; unfold sumT; rw [sumT_snoc t r]; omega
theorem sumT_take {l : List Tk} {k : Nat} (hk : k < l.length) : sumT (l.take (k + 1)) = sumT (l.take k) + (l.getD k tk0).tx.size := by
  rw [← List.take_append_getElem hk, sumT_snoc]; simp [List.getD, hk]
theorem sumT_le {l : List Tk} {n : Nat} (h : TxB l n) : ∀ k, sumT (l.take k) ≤ k * n := by
  intro k
  induction k with
  | zero => simp [sumT]
  | succ k ih =>
    by_cases hk : k < l.length
    · rw [sumT_take hk, Nat.succ_mul]; have := h.at_ hk; omega
    · rw [List.take_of_length_le (by omega)]; rw [List.take_of_length_le (by omega)] at ih; rw [Nat.succ_mul]; omega
theorem tx_le {l : List Tk} : ∀ t ∈ l, t.tx.size ≤ sumT l := by
  induction l with
  | nil => intro t ht; simp at ht
  | cons x r ih =>
    intro t ht
    unfold sumT
    rcases List.mem_cons.1 ht with rfl | ht
    · omega
    · have := ih t ht; omega
def largeL (l : List Tk) : Bool := decide (5000 < sumT l) || decide (500 < l.length)
set_option maxRecDepth 100000 in
set_option maxHeartbeats 2000000 in
theorem rlarge_any (a : Option Addr) (n c : Nat) (l : List Tk) (hx : TxB l 140737488351232) (hn : n ≤ 9223372036854775806) (w : World) (h : TL w a n c l) : Calls Try.prog 13 #[.slice a n c] w fun e w' => e = .returned (.bool (largeL l)) ∧ w = w' := by
  have hlen := Lib.hid h.len
  have hT := Lib.hid h
  have hxx := Lib.hid hx
  clear h hx
  by_cases hbig : 600 < n
  · have hR : Hid (largeL l = true) := Lib.hid (by unfold largeL; have := hlen.out; simp; omega)
    have hbi : (500 : Int) < (n : Int) := by omega
    generalize largeL l = R at *
    go_enter Try.func13, Try.ntmps13
    go_wp2
    go_loop [3, 4] (fun v x => ∃ (k : Nat) (y : Int), k ≤ n ∧ x = .int .i64 k ∧ v = .int .i64 y) (fun _ x => n - (intOf x).toNat)
    case atStart => exact ⟨0, 0, by omega, rfl, rfl⟩
    case round =>
      obtain ⟨k, y, hk, rfl, rfl⟩ := hrel
      by_cases hlt : k < n
      · have hki : (k : Int) < (n : Int) := by omega
        have hki2 : (k : Int) ≤ 9223372036854775806 := by omega
        obtain ⟨b, off, rfl, hb, i0, i1, i2, i3⟩ := hT.out.at_ (k := k) (by rw [← hlen.out]; exact hlt)
        generalize (l.getD k tk0).tx = tx at *
        clear i0 i1 i2 hb
        go_wp2
        go_round
        case rel => exact ⟨k + 1, _, by omega, by go_num, rfl⟩
        case measure => simp [intOf]; omega
      · have hki : ¬ (k : Int) < (n : Int) := by omega
        clear hlt
        by_cases h5 : (5000 : Int) < y
        · go_wp2
          go_ret
          exact ⟨ret_bool hR.out.symm, rfl⟩
        · have d5 : decide ((5000 : Int) < y) = false := decide_eq_false h5
          go_wp2
          go_ret
          exact ⟨ret_bool hR.out.symm, rfl⟩
  · have hR : Hid (largeL l = (decide ((5000 : Int) < (sumT (l.take n) : Int)) || decide ((500 : Int) < (n : Int)))) := Lib.hid (by
      unfold largeL
      have e : l.take n = l := List.take_of_length_le (by have := hlen.out; omega)
      rw [e, ← hlen.out]
      congr 1
      · rw [decide_eq_decide]; omega
      · rw [decide_eq_decide]; omega)
    have hsl := Lib.hid (fun k (hk : k ≤ 600) => Nat.le_trans (sumT_le hxx.out k) (Nat.mul_le_mul_right 140737488351232 hk))
    have hbi : ¬ (600 : Int) < (n : Int) := by omega
    generalize largeL l = R at *
    go_enter Try.func13, Try.ntmps13
    go_wp2
    go_loop [3, 4] (fun v x => ∃ k : Nat, k ≤ n ∧ x = .int .i64 k ∧ v = .int .i64 (sumT (l.take k) : Int)) (fun _ x => n - (intOf x).toNat)
    case atStart => exact ⟨0, by omega, rfl, rfl⟩
    case round =>
      obtain ⟨k, hk, rfl, rfl⟩ := hrel
      have hs0 := hsl.out k (by omega)
      by_cases hlt : k < n
      · have hki : (k : Int) < (n : Int) := by omega
        have hki2 : (k : Int) ≤ 600 := by omega
        have hkl : k < l.length := by rw [← hlen.out]; exact hlt
        obtain ⟨b, off, rfl, hb, i0, i1, i2, i3⟩ := hT.out.at_ hkl
        have hnx := Lib.hid (sumT_take hkl)
        have hs1 := hxx.out.at_ hkl
        generalize (l.getD k tk0).tx = tx at *
        generalize sumT (l.take k) = S at *
        have hsi : (S : Int) ≤ 84442493010739200 := by omega
        have hti : (tx.size : Int) ≤ 140737488351232 := by omega
        clear i0 i1 i2 hb hkl hs0 hs1
        go_wp2
        go_round
        case rel => exact ⟨k + 1, by omega, by go_num, by rw [hnx.out]; go_num⟩
        case measure => simp [intOf]; omega
      · have hke : k = n := by omega
        subst hke
        have hki : ¬ (k : Int) < (k : Int) := by omega
        generalize sumT (l.take k) = S at *
        clear hlt hs0
        by_cases h5 : (5000 : Int) < (S : Int)
        · have hRR := Lib.hid (show R = true by rw [hR.out, decide_eq_true h5]; rfl)
          clear hR
          go_wp2
          go_ret
          exact ⟨ret_bool hRR.out.symm, rfl⟩
        · have d5 : decide ((5000 : Int) < (S : Int)) = false := decide_eq_false h5
          have hRR := Lib.hid (show R = decide ((500 : Int) < (k : Int)) by rw [hR.out, d5]; rfl)
          clear hR
          go_wp2
          go_ret
          exact ⟨ret_bool (by rw [hRR.out]), rfl⟩
end Go.Proofs.Ytplgfghffeijcaa
