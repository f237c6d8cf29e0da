/-
  Words and walks under the law's proof.
-/
import Derived.Sort.WalkA6
import Derived.Sort.AssemblyPlain
import Derived.Lib.SlicesCompact
import Derived.Lib.SliceRun
import Derived.Deep.Cut
import Derived.Deep.QuietTactic
import Derived.BigQuiet
import Derived.Test.YtpchncpcckfghaaGreatQO02
import Derived.Test.YtpchncpcckfghaaGreatQO03
import Derived.Test.YtpchncpcckfghaaGreatQO06
import Derived.Test.YtpchncpcckfghaaGreatQO07
namespace Go.Proofs.YtpchncpcckfghaaGreat
open Go.RowKit Go.Sort
set_option linter.unusedVariables false
set_option linter.unusedSimpArgs false
set_option maxRecDepth 1000000 in
set_option maxHeartbeats 32000000 in
theorem upins_any (blk off cap a b : Nat) (d0 d : Array Int) (w0 w : World) (R : RU w0 blk off d0) (hs : d.size = d0.size) (S : SU w0 blk off d w) (hab : a < b) (hb : b ≤ d.size) (hsz : d.size ≤ 1000000) :
    Calls Tryz.prog 86 #[.slice (some ⟨blk, off, none⟩) d.size cap, .int .i64 a, .int .i64 b] w fun e w' => ∃ (c : Bool) (dk : Array Int), partialInsertionSort ltInt d a b = (dk, c) ∧ e = .returned (.bool c) ∧ SU w0 blk off dk w' := by
  have S0 := Lib.hid S
  have RR := Lib.hid R
  have HS := Lib.hid hs
  clear S R hs
  go_enter Tryz.func86, Tryz.ntmps86
  go_wp2
  go_loopw [7, 8] (fun vi vs wr => ∃ (i s : Nat) (dk : Array Int), vi = .int .i64 i ∧ vs = .int .i64 s ∧ s ≤ 5 ∧ a < i ∧ i ≤ b ∧ dk.size = d.size ∧ Hid (SU w0 blk off dk wr) ∧ Hid (partialIns ltInt a b (5 - s) i dk = partialIns ltInt a b 5 (a + 1) d)) (fun vi vs _ => 5 - (intOf vs).toNat)
  case atStart => exact ⟨a + 1, 0, d, by go_num, by go_num, by omega, by omega, by omega, rfl, S0, Lib.hid rfl⟩
  case round =>
    clear S0
    obtain ⟨i, s, dk, rfl, rfl, hs5, hai, hib, hsk, SK, HE⟩ := hrel
    obtain ⟨G, hG⟩ : ∃ G : Nat → Int, ∀ t, G t = dk[t]! := ⟨fun t => dk[t]!, fun _ => rfl⟩
    have HG := Lib.hid hG
    clear hG
    by_cases hlt5 : s < 5
    · have hlt5z : (s : Int) < 5 := by omega
      go_wp2
      go_loopw [7] (fun vi wr2 => ∃ (i2 : Nat), vi = .int .i64 i2 ∧ i ≤ i2 ∧ i2 ≤ b ∧ Hid (SU w0 blk off dk wr2) ∧ Hid (scanSorted ltInt dk b i2 = scanSorted ltInt dk b i)) (fun vi _ => b - (intOf vi).toNat)
      case atStart => exact ⟨i, rfl, Nat.le_refl _, hib, SK, Lib.hid rfl⟩
      case round =>
        clear SK
        obtain ⟨i2, rfl, hii, hi2b, SI, HI⟩ := hrel
        obtain ⟨hcw, hfw⟩ := SU.cells SI.out RR.out (by have := HS.out; omega) G HG.out hsk
        by_cases hlt : i2 < b
        · have hltz : (i2 : Int) < (b : Int) := by omega
          have hbe : ((i2 : Int) == (b : Int)) = false := by simp; omega
          go_wp2
          go_quiet (first | (go_at_call 60; exact quiet_mine (uless_any _ _ _)))
          go_wp2
          · have ht : ltInt (G i2) (G (i2 - 1)) = false := by first | (have h1 : (!decide (G i2 < G (i2 - 1))) = true := (by assumption); exact by simpa [ltInt] using h1) | (have h1 : G (i2 - 1) ≤ G i2 := (by assumption); exact decide_eq_false (by omega))
            go_roundw
            case rel => exact ⟨i2 + 1, by go_num, by omega, by omega, Lib.hid (SI.out.drewN nq), Lib.hid ((scanSorted_go ltInt dk b i2 hlt (by rw [← HG.out, ← HG.out]; exact ht)).symm.trans HI.out)⟩
            case measure => simp [intOf]; omega
          · have ht : ltInt (G i2) (G (i2 - 1)) = true := by first | (have h1 : (!decide (G i2 < G (i2 - 1))) = false := (by assumption); exact by simpa [ltInt] using h1) | (have h1 : G i2 < G (i2 - 1) := (by assumption); exact decide_eq_true h1)
            have HI2 : Hid (i2 = scanSorted ltInt dk b i) := Lib.hid ((scanSorted_stop ltInt dk b i2 (Or.inr (by rw [← HG.out, ← HG.out]; exact ht))).symm.trans HI.out)
            have SK3 : Hid (SU w0 blk off dk (wr.drewN nq)) := Lib.hid (SI.out.drewN nq)
            exact bodyPost_ret (results_tmp rfl _ _ _) rfl ⟨false, dk, by show partialIns _ _ _ 5 _ _ = _; rw [← HE.out, show 5 - s = 5 - (s + 1) + 1 by omega, partialIns_succ, ← HI2.out, if_neg (by omega), if_pos (by omega)], rfl, SK3.out⟩
          · have ht : ltInt (G i2) (G (i2 - 1)) = true := by first | (have h1 : (!decide (G i2 < G (i2 - 1))) = false := (by assumption); exact by simpa [ltInt] using h1) | (have h1 : G i2 < G (i2 - 1) := (by assumption); exact decide_eq_true h1)
            have HI2 : Hid (i2 = scanSorted ltInt dk b i) := Lib.hid ((scanSorted_stop ltInt dk b i2 (Or.inr (by rw [← HG.out, ← HG.out]; exact ht))).symm.trans HI.out)
            have SK3 : Hid (SU w0 blk off dk (wr.drewN nq)) := Lib.hid (SI.out.drewN nq)
            clear hcw hfw SI HI ht
            generalize wr.drewN nq = W3 at SK3 ⊢
            obtain ⟨hcw, hfw⟩ := SU.cells SK3.out RR.out (by have := HS.out; omega) G HG.out hsk
            have h50 : ¬ b - a < 50 := by omega
            by_cases hx : 0 < b
            · have h50z : ¬ (b : Int) - (a : Int) < 50 := by omega
              obtain ⟨D1, hD1⟩ : ∃ D1, swp dk i2 (i2 - 1) = D1 := ⟨_, rfl⟩
              have hs1 : D1.size = d.size := by rw [← hD1, size_swp]; exact hsk
              have HF : Hid (partialIns ltInt a b (5 - (s + 1)) i2 (fixUp ltInt b i2 (fixDown ltInt a i2 D1)) = partialIns ltInt a b 5 (a + 1) d) := Lib.hid (by rw [← HE.out, show 5 - s = 5 - (s + 1) + 1 by omega, partialIns_succ, ← HI2.out, if_neg (by omega), if_neg h50, hD1])
              have HD1 := Lib.hid hD1
              clear hD1 HE HI2
              by_cases hdn : 2 ≤ i2 - a
              · by_cases hup : 2 ≤ b - i2
                · have hdnz : (2 : Int) ≤ (i2 : Int) - (a : Int) := by omega
                  have hupz : (2 : Int) ≤ (b : Int) - (i2 : Int) := by omega
                  go_region
                  all_goals go_wp2
                  have SW1 : Hid (SU w0 blk off D1 _) := Lib.hid (by rw [← HD1.out]; exact SU.swp SK3.out RR.out 1 HG.out (i := i2) (j := i2 - 1) (by omega) (by omega))
                  clear hcw hfw SK3 HG HD1
                  go_loopw [9] (fun vj wr3 => ∃ (j : Nat) (dj : Array Int), vj = .int .i64 j ∧ j < i2 ∧ dj.size = d.size ∧ Hid (SU w0 blk off dj wr3) ∧ Hid (shiftDown ltInt j dj = shiftDown ltInt (i2 - 1) D1)) (fun vj _ => (intOf vj).toNat)
                  case atStart => exact ⟨i2 - 1, D1, by go_num, by omega, hs1, SW1, Lib.hid rfl⟩
                  case round =>
                    clear SW1
                    obtain ⟨j, D2, rfl, hji, hs2, SI, HJ⟩ := hrel
                    have hsk := hs2
                    obtain ⟨G, hG⟩ : ∃ G : Nat → Int, ∀ t, G t = D2[t]! := ⟨fun t => D2[t]!, fun _ => rfl⟩
                    have HG := Lib.hid hG
                    clear hG
                    obtain ⟨hcw, hfw⟩ := SU.cells SI.out RR.out (by have := HS.out; omega) G HG.out hsk
                    by_cases hj1 : 1 ≤ j
                    · have hjz : (1 : Int) ≤ (j : Int) := by omega
                      go_wp2
                      go_quiet (first | (go_at_call 60; exact quiet_mine (uless_any _ _ _)))
                      go_wp2
                      · have ht : ltInt (G j) (G (j - 1)) = false := by first | (have h1 : (!decide (G j < G (j - 1))) = true := (by assumption); exact by simpa [ltInt] using h1) | (have h1 : G (j - 1) ≤ G j := (by assumption); exact decide_eq_false (by omega))
                        have HX : Hid (fixDown ltInt a i2 D1 = D2) := Lib.hid (by unfold fixDown; rw [if_pos (by omega), ← HJ.out]; exact shiftDown_stop ltInt j D2 (Or.inr (by rw [← HG.out, ← HG.out]; exact ht)))
                        have SX : Hid (SU w0 blk off D2 (wr.drewN nq)) := Lib.hid (SI.out.drewN nq)
                        clear hcw hfw SI HJ ht HG
                        go_loopw [10] (fun vk wr4 => ∃ (k : Nat) (dj : Array Int), vk = .int .i64 k ∧ i2 < k ∧ k ≤ b ∧ dj.size = d.size ∧ Hid (SU w0 blk off dj wr4) ∧ Hid (shiftUp ltInt b k dj = shiftUp ltInt b (i2 + 1) D2)) (fun vk _ => b - (intOf vk).toNat)
                        case atStart => exact ⟨i2 + 1, D2, by go_num, by omega, by omega, hs2, SX, Lib.hid rfl⟩
                        case round =>
                          clear SX
                          obtain ⟨k, D3, rfl, hik, hkb, hs3, SI, HJ⟩ := hrel
                          have hsk := hs3
                          obtain ⟨G, hG⟩ : ∃ G : Nat → Int, ∀ t, G t = D3[t]! := ⟨fun t => D3[t]!, fun _ => rfl⟩
                          have HG := Lib.hid hG
                          clear hG
                          obtain ⟨hcw, hfw⟩ := SU.cells SI.out RR.out (by have := HS.out; omega) G HG.out hsk
                          by_cases hk : k < b
                          · have hkz : (k : Int) < (b : Int) := by omega
                            go_wp2
                            go_quiet (first | (go_at_call 60; exact quiet_mine (uless_any _ _ _)))
                            go_wp2
                            · have ht : ltInt (G k) (G (k - 1)) = false := by first | (have h1 : (!decide (G k < G (k - 1))) = true := (by assumption); exact by simpa [ltInt] using h1) | (have h1 : G (k - 1) ≤ G k := (by assumption); exact decide_eq_false (by omega))
                              have HY : Hid (fixUp ltInt b i2 D2 = D3) := Lib.hid (by unfold fixUp; rw [if_pos (by omega), ← HJ.out]; exact shiftUp_stop ltInt b k D3 (Or.inr (by rw [← HG.out, ← HG.out]; exact ht)))
                              have SZ : Hid (SU w0 blk off D3 (wr.drewN nq)) := Lib.hid (SI.out.drewN nq)
                              go_roundw
                              case rel => exact ⟨i2, s + 1, D3, by go_num, by go_num, by omega, by omega, by omega, hs3, SZ, Lib.hid (by rw [← HF.out, HX.out, HY.out])⟩
                              case measure => simp [intOf]; omega
                            · have ht : ltInt (G k) (G (k - 1)) = true := by first | (have h1 : (!decide (G k < G (k - 1))) = false := (by assumption); exact by simpa [ltInt] using h1) | (have h1 : G k < G (k - 1) := (by assumption); exact decide_eq_true h1)
                              go_region
                              all_goals go_wp2
                              go_roundw
                              case rel => exact ⟨k + 1, swp D3 k (k - 1), by go_num, by omega, by omega, by rw [size_swp]; exact hs3, Lib.hid (SU.swp SI.out RR.out _ HG.out (by omega) (by omega)), Lib.hid ((shiftUp_go ltInt b k D3 hk (by rw [← HG.out, ← HG.out]; exact ht)).symm.trans HJ.out)⟩
                              case measure => simp [intOf]; omega
                          · have hkz : ¬ (k : Int) < (b : Int) := by omega
                            have HY : Hid (fixUp ltInt b i2 D2 = D3) := Lib.hid (by unfold fixUp; rw [if_pos (by omega), ← HJ.out]; exact shiftUp_stop ltInt b k D3 (Or.inl hk))
                            go_wp2
                            have SZ : Hid (SU w0 blk off D3 wr) := SI
                            go_roundw
                            case rel => exact ⟨i2, s + 1, D3, by go_num, by go_num, by omega, by omega, by omega, hs3, SZ, Lib.hid (by rw [← HF.out, HX.out, HY.out])⟩
                            case measure => simp [intOf]; omega
                      · have ht : ltInt (G j) (G (j - 1)) = true := by first | (have h1 : (!decide (G j < G (j - 1))) = false := (by assumption); exact by simpa [ltInt] using h1) | (have h1 : G j < G (j - 1) := (by assumption); exact decide_eq_true h1)
                        go_region
                        all_goals go_wp2
                        go_roundw
                        case rel => exact ⟨j - 1, swp D2 j (j - 1), by go_num, by omega, by rw [size_swp]; exact hs2, Lib.hid (SU.swp SI.out RR.out _ HG.out (by omega) (by omega)), Lib.hid ((shiftDown_go ltInt j D2 hj1 (by rw [← HG.out, ← HG.out]; exact ht)).symm.trans HJ.out)⟩
                        case measure => simp [intOf]; omega
                    · have hjz : ¬ (1 : Int) ≤ (j : Int) := by omega
                      have HX : Hid (fixDown ltInt a i2 D1 = D2) := Lib.hid (by unfold fixDown; rw [if_pos (by omega), ← HJ.out]; exact shiftDown_stop ltInt j D2 (Or.inl (by omega)))
                      go_wp2
                      have SX : Hid (SU w0 blk off D2 wr) := SI
                      clear hcw hfw SI HJ HG
                      go_loopw [10] (fun vk wr4 => ∃ (k : Nat) (dj : Array Int), vk = .int .i64 k ∧ i2 < k ∧ k ≤ b ∧ dj.size = d.size ∧ Hid (SU w0 blk off dj wr4) ∧ Hid (shiftUp ltInt b k dj = shiftUp ltInt b (i2 + 1) D2)) (fun vk _ => b - (intOf vk).toNat)
                      case atStart => exact ⟨i2 + 1, D2, by go_num, by omega, by omega, hs2, SX, Lib.hid rfl⟩
                      case round =>
                        clear SX
                        obtain ⟨k, D3, rfl, hik, hkb, hs3, SI, HJ⟩ := hrel
                        have hsk := hs3
                        obtain ⟨G, hG⟩ : ∃ G : Nat → Int, ∀ t, G t = D3[t]! := ⟨fun t => D3[t]!, fun _ => rfl⟩
                        have HG := Lib.hid hG
                        clear hG
                        obtain ⟨hcw, hfw⟩ := SU.cells SI.out RR.out (by have := HS.out; omega) G HG.out hsk
                        by_cases hk : k < b
                        · have hkz : (k : Int) < (b : Int) := by omega
                          go_wp2
                          go_quiet (first | (go_at_call 60; exact quiet_mine (uless_any _ _ _)))
                          go_wp2
                          · have ht : ltInt (G k) (G (k - 1)) = false := by first | (have h1 : (!decide (G k < G (k - 1))) = true := (by assumption); exact by simpa [ltInt] using h1) | (have h1 : G (k - 1) ≤ G k := (by assumption); exact decide_eq_false (by omega))
                            have HY : Hid (fixUp ltInt b i2 D2 = D3) := Lib.hid (by unfold fixUp; rw [if_pos (by omega), ← HJ.out]; exact shiftUp_stop ltInt b k D3 (Or.inr (by rw [← HG.out, ← HG.out]; exact ht)))
                            have SZ : Hid (SU w0 blk off D3 (wr.drewN nq)) := Lib.hid (SI.out.drewN nq)
                            go_roundw
                            case rel => exact ⟨i2, s + 1, D3, by go_num, by go_num, by omega, by omega, by omega, hs3, SZ, Lib.hid (by rw [← HF.out, HX.out, HY.out])⟩
                            case measure => simp [intOf]; omega
                          · have ht : ltInt (G k) (G (k - 1)) = true := by first | (have h1 : (!decide (G k < G (k - 1))) = false := (by assumption); exact by simpa [ltInt] using h1) | (have h1 : G k < G (k - 1) := (by assumption); exact decide_eq_true h1)
                            go_region
                            all_goals go_wp2
                            go_roundw
                            case rel => exact ⟨k + 1, swp D3 k (k - 1), by go_num, by omega, by omega, by rw [size_swp]; exact hs3, Lib.hid (SU.swp SI.out RR.out _ HG.out (by omega) (by omega)), Lib.hid ((shiftUp_go ltInt b k D3 hk (by rw [← HG.out, ← HG.out]; exact ht)).symm.trans HJ.out)⟩
                            case measure => simp [intOf]; omega
                        · have hkz : ¬ (k : Int) < (b : Int) := by omega
                          have HY : Hid (fixUp ltInt b i2 D2 = D3) := Lib.hid (by unfold fixUp; rw [if_pos (by omega), ← HJ.out]; exact shiftUp_stop ltInt b k D3 (Or.inl hk))
                          go_wp2
                          have SZ : Hid (SU w0 blk off D3 wr) := SI
                          go_roundw
                          case rel => exact ⟨i2, s + 1, D3, by go_num, by go_num, by omega, by omega, by omega, hs3, SZ, Lib.hid (by rw [← HF.out, HX.out, HY.out])⟩
                          case measure => simp [intOf]; omega
                · have hdnz : (2 : Int) ≤ (i2 : Int) - (a : Int) := by omega
                  have hupz : ¬ (2 : Int) ≤ (b : Int) - (i2 : Int) := by omega
                  go_region
                  all_goals go_wp2
                  have SW1 : Hid (SU w0 blk off D1 _) := Lib.hid (by rw [← HD1.out]; exact SU.swp SK3.out RR.out 1 HG.out (i := i2) (j := i2 - 1) (by omega) (by omega))
                  clear hcw hfw SK3 HG HD1
                  go_loopw [9] (fun vj wr3 => ∃ (j : Nat) (dj : Array Int), vj = .int .i64 j ∧ j < i2 ∧ dj.size = d.size ∧ Hid (SU w0 blk off dj wr3) ∧ Hid (shiftDown ltInt j dj = shiftDown ltInt (i2 - 1) D1)) (fun vj _ => (intOf vj).toNat)
                  case atStart => exact ⟨i2 - 1, D1, by go_num, by omega, hs1, SW1, Lib.hid rfl⟩
                  case round =>
                    clear SW1
                    obtain ⟨j, D2, rfl, hji, hs2, SI, HJ⟩ := hrel
                    have hsk := hs2
                    obtain ⟨G, hG⟩ : ∃ G : Nat → Int, ∀ t, G t = D2[t]! := ⟨fun t => D2[t]!, fun _ => rfl⟩
                    have HG := Lib.hid hG
                    clear hG
                    obtain ⟨hcw, hfw⟩ := SU.cells SI.out RR.out (by have := HS.out; omega) G HG.out hsk
                    by_cases hj1 : 1 ≤ j
                    · have hjz : (1 : Int) ≤ (j : Int) := by omega
                      go_wp2
                      go_quiet (first | (go_at_call 60; exact quiet_mine (uless_any _ _ _)))
                      go_wp2
                      · have ht : ltInt (G j) (G (j - 1)) = false := by first | (have h1 : (!decide (G j < G (j - 1))) = true := (by assumption); exact by simpa [ltInt] using h1) | (have h1 : G (j - 1) ≤ G j := (by assumption); exact decide_eq_false (by omega))
                        have HX : Hid (fixDown ltInt a i2 D1 = D2) := Lib.hid (by unfold fixDown; rw [if_pos (by omega), ← HJ.out]; exact shiftDown_stop ltInt j D2 (Or.inr (by rw [← HG.out, ← HG.out]; exact ht)))
                        have SX : Hid (SU w0 blk off D2 (wr.drewN nq)) := Lib.hid (SI.out.drewN nq)
                        clear hcw hfw SI HJ ht HG
                        have HY : Hid (fixUp ltInt b i2 D2 = D2) := Lib.hid (by unfold fixUp; rw [if_neg (by omega)])
                        have SZ := SX
                        obtain ⟨D3, hD3⟩ : ∃ D3, D3 = D2 := ⟨_, rfl⟩
                        subst hD3
                        have hs3 := hs2
                        go_roundw
                        case rel => exact ⟨i2, s + 1, D3, by go_num, by go_num, by omega, by omega, by omega, hs3, SZ, Lib.hid (by rw [← HF.out, HX.out, HY.out])⟩
                        case measure => simp [intOf]; omega
                      · have ht : ltInt (G j) (G (j - 1)) = true := by first | (have h1 : (!decide (G j < G (j - 1))) = false := (by assumption); exact by simpa [ltInt] using h1) | (have h1 : G j < G (j - 1) := (by assumption); exact decide_eq_true h1)
                        go_region
                        all_goals go_wp2
                        go_roundw
                        case rel => exact ⟨j - 1, swp D2 j (j - 1), by go_num, by omega, by rw [size_swp]; exact hs2, Lib.hid (SU.swp SI.out RR.out _ HG.out (by omega) (by omega)), Lib.hid ((shiftDown_go ltInt j D2 hj1 (by rw [← HG.out, ← HG.out]; exact ht)).symm.trans HJ.out)⟩
                        case measure => simp [intOf]; omega
                    · have hjz : ¬ (1 : Int) ≤ (j : Int) := by omega
                      have HX : Hid (fixDown ltInt a i2 D1 = D2) := Lib.hid (by unfold fixDown; rw [if_pos (by omega), ← HJ.out]; exact shiftDown_stop ltInt j D2 (Or.inl (by omega)))
                      go_wp2
                      have SX : Hid (SU w0 blk off D2 wr) := SI
                      clear hcw hfw SI HJ HG
                      have HY : Hid (fixUp ltInt b i2 D2 = D2) := Lib.hid (by unfold fixUp; rw [if_neg (by omega)])
                      have SZ := SX
                      obtain ⟨D3, hD3⟩ : ∃ D3, D3 = D2 := ⟨_, rfl⟩
                      subst hD3
                      have hs3 := hs2
                      go_roundw
                      case rel => exact ⟨i2, s + 1, D3, by go_num, by go_num, by omega, by omega, by omega, hs3, SZ, Lib.hid (by rw [← HF.out, HX.out, HY.out])⟩
                      case measure => simp [intOf]; omega
              · by_cases hup : 2 ≤ b - i2
                · have hdnz : ¬ (2 : Int) ≤ (i2 : Int) - (a : Int) := by omega
                  have hupz : (2 : Int) ≤ (b : Int) - (i2 : Int) := by omega
                  go_region
                  all_goals go_wp2
                  have SW1 : Hid (SU w0 blk off D1 _) := Lib.hid (by rw [← HD1.out]; exact SU.swp SK3.out RR.out 1 HG.out (i := i2) (j := i2 - 1) (by omega) (by omega))
                  clear hcw hfw SK3 HG HD1
                  have HX : Hid (fixDown ltInt a i2 D1 = D1) := Lib.hid (by unfold fixDown; rw [if_neg (by omega)])
                  have SX := SW1
                  obtain ⟨D2, hD2⟩ : ∃ D2, D2 = D1 := ⟨_, rfl⟩
                  subst hD2
                  have hs2 := hs1
                  go_loopw [10] (fun vk wr4 => ∃ (k : Nat) (dj : Array Int), vk = .int .i64 k ∧ i2 < k ∧ k ≤ b ∧ dj.size = d.size ∧ Hid (SU w0 blk off dj wr4) ∧ Hid (shiftUp ltInt b k dj = shiftUp ltInt b (i2 + 1) D2)) (fun vk _ => b - (intOf vk).toNat)
                  case atStart => exact ⟨i2 + 1, D2, by go_num, by omega, by omega, hs2, SX, Lib.hid rfl⟩
                  case round =>
                    clear SX
                    obtain ⟨k, D3, rfl, hik, hkb, hs3, SI, HJ⟩ := hrel
                    have hsk := hs3
                    obtain ⟨G, hG⟩ : ∃ G : Nat → Int, ∀ t, G t = D3[t]! := ⟨fun t => D3[t]!, fun _ => rfl⟩
                    have HG := Lib.hid hG
                    clear hG
                    obtain ⟨hcw, hfw⟩ := SU.cells SI.out RR.out (by have := HS.out; omega) G HG.out hsk
                    by_cases hk : k < b
                    · have hkz : (k : Int) < (b : Int) := by omega
                      go_wp2
                      go_quiet (first | (go_at_call 60; exact quiet_mine (uless_any _ _ _)))
                      go_wp2
                      · have ht : ltInt (G k) (G (k - 1)) = false := by first | (have h1 : (!decide (G k < G (k - 1))) = true := (by assumption); exact by simpa [ltInt] using h1) | (have h1 : G (k - 1) ≤ G k := (by assumption); exact decide_eq_false (by omega))
                        have HY : Hid (fixUp ltInt b i2 D2 = D3) := Lib.hid (by unfold fixUp; rw [if_pos (by omega), ← HJ.out]; exact shiftUp_stop ltInt b k D3 (Or.inr (by rw [← HG.out, ← HG.out]; exact ht)))
                        have SZ : Hid (SU w0 blk off D3 (wr.drewN nq)) := Lib.hid (SI.out.drewN nq)
                        go_roundw
                        case rel => exact ⟨i2, s + 1, D3, by go_num, by go_num, by omega, by omega, by omega, hs3, SZ, Lib.hid (by rw [← HF.out, HX.out, HY.out])⟩
                        case measure => simp [intOf]; omega
                      · have ht : ltInt (G k) (G (k - 1)) = true := by first | (have h1 : (!decide (G k < G (k - 1))) = false := (by assumption); exact by simpa [ltInt] using h1) | (have h1 : G k < G (k - 1) := (by assumption); exact decide_eq_true h1)
                        go_region
                        all_goals go_wp2
                        go_roundw
                        case rel => exact ⟨k + 1, swp D3 k (k - 1), by go_num, by omega, by omega, by rw [size_swp]; exact hs3, Lib.hid (SU.swp SI.out RR.out _ HG.out (by omega) (by omega)), Lib.hid ((shiftUp_go ltInt b k D3 hk (by rw [← HG.out, ← HG.out]; exact ht)).symm.trans HJ.out)⟩
                        case measure => simp [intOf]; omega
                    · have hkz : ¬ (k : Int) < (b : Int) := by omega
                      have HY : Hid (fixUp ltInt b i2 D2 = D3) := Lib.hid (by unfold fixUp; rw [if_pos (by omega), ← HJ.out]; exact shiftUp_stop ltInt b k D3 (Or.inl hk))
                      go_wp2
                      have SZ : Hid (SU w0 blk off D3 wr) := SI
                      go_roundw
                      case rel => exact ⟨i2, s + 1, D3, by go_num, by go_num, by omega, by omega, by omega, hs3, SZ, Lib.hid (by rw [← HF.out, HX.out, HY.out])⟩
                      case measure => simp [intOf]; omega
                · exfalso; omega
            · exfalso; omega
        · have hltz : ¬ (i2 : Int) < (b : Int) := by omega
          have hbe : ((i2 : Int) == (b : Int)) = true := by simp; omega
          have HI2 : Hid (i2 = scanSorted ltInt dk b i) := Lib.hid ((scanSorted_stop ltInt dk b i2 (Or.inl hlt)).symm.trans HI.out)
          go_wp2
          go_quiet (fail)
          go_wp2
          exact bodyPost_ret (results_tmp rfl _ _ _) rfl ⟨true, dk, by show partialIns _ _ _ 5 _ _ = _; rw [← HE.out, show 5 - s = 5 - (s + 1) + 1 by omega, partialIns_succ, ← HI2.out, if_pos (by omega)], rfl, SI.out.drewN nq⟩
    · have hlt5z : ¬ (s : Int) < 5 := by omega
      go_wp2
      exact bodyPost_ret (results_tmp rfl _ _ _) rfl (.inl ⟨dk, by show partialIns _ _ _ 5 _ _ = _; rw [← HE.out, show 5 - s = 0 by omega]; rfl, rfl, SK.out⟩)
end Go.Proofs.YtpchncpcckfghaaGreat
namespace Go.Proofs.YtpchncpcckfghaaGreat
open Go.RowKit Go.Sort
set_option linter.unusedVariables false
set_option linter.unusedSimpArgs false
def Rest (a b : Nat) (d : Array Int) (a1 b1 : Nat) (D : Array Int) : Prop := Go.Sort.Below ltInt a1 b1 D ∧ ∀ R, PermIn a1 b1 D R → SortedIn ltInt a1 b1 R → PermIn a b d R ∧ SortedIn ltInt a b R
theorem Rest.perm {a b a1 b1 : Nat} {d D D' : Array Int} (h : Rest a b d a1 b1 D) (hb : b1 ≤ D.size) (P : PermIn a1 b1 D D') : Rest a b d a1 b1 D' :=
  ⟨Go.Sort.Below.perm h.1 hb P, fun R h1 h2 => h.2 R (permIn_trans _ _ _ _ _ P h1) h2⟩
set_option maxRecDepth 1000000 in
set_option maxHeartbeats 64000000 in
theorem updq_go (blk off cap : Nat) (d0 : Array Int) (w0 : World) (R0 : RU w0 blk off d0) (hsz : d0.size ≤ 1000000) : ∀ (n a b : Nat) (lim : Int) (d : Array Int) (w : World), b - a ≤ n → d.size = d0.size → SU w0 blk off d w → a ≤ b → b ≤ d.size → (0 ≤ lim ∧ lim ≤ 1000000) → Go.Sort.Below ltInt a b d →
    Calls Tryz.prog 62 #[.slice (some ⟨blk, off, none⟩) d.size cap, .int .i64 a, .int .i64 b, .int .i64 lim] w fun e w' => e = .returned (.tuple #[]) ∧ ∃ d', PermIn a b d d' ∧ SortedIn ltInt a b d' ∧ SU w0 blk off d' w' := by
  intro n
  induction n using Nat.strongRecOn with
  | _ n ih =>
  intro a b lim d w hn hs S hab hb hlim hB
  have IH : Hid (∀ (m : Nat), m < n → ∀ (a b : Nat) (lim : Int) (d : Array Int) (w : World), b - a ≤ m → d.size = d0.size → SU w0 blk off d w → a ≤ b → b ≤ d.size → d0.size ≤ 1000000 → (0 ≤ lim ∧ lim ≤ 1000000) → Go.Sort.Below ltInt a b d →
    Calls Tryz.prog 62 #[.slice (some ⟨blk, off, none⟩) d.size cap, .int .i64 a, .int .i64 b, .int .i64 lim] w fun e w' => e = .returned (.tuple #[]) ∧ ∃ d', PermIn a b d d' ∧ SortedIn ltInt a b d' ∧ SU w0 blk off d' w') := Lib.hid (fun m hm a b lim d w h1 h2 h3 h4 h5 _ h6 h7 => ih m hm a b lim d w h1 h2 h3 h4 h5 h6 h7)
  have S0 := Lib.hid S
  have RR := Lib.hid R0
  have HS := Lib.hid hs
  have HR0 : Hid (Rest a b d a b d) := Lib.hid ⟨hB, fun R h1 h2 => ⟨h1, h2⟩⟩
  clear S R0 ih hB
  have hds : d.size ≤ 1000000 := by omega
  clear hs
  go_enter Tryz.func62, Tryz.ntmps62
  go_wp2
  go_loopw [1, 2, 3, 8, 9] (fun va vb vl vp vq wr => ∃ (a1 b1 : Nat) (z : Int) (D : Array Int), va = .int .i64 a1 ∧ vb = .int .i64 b1 ∧ vl = .int .i64 z ∧ 0 ≤ z ∧ z ≤ 1000000 ∧ Hid (∃ p : Bool, vp = .bool p) ∧ Hid (∃ q : Bool, vq = .bool q) ∧ a ≤ a1 ∧ a1 ≤ b1 ∧ b1 ≤ b ∧ D.size = d.size ∧ Hid (SU w0 blk off D wr) ∧ Hid (Rest a b d a1 b1 D)) (fun va vb _ _ _ _ => (intOf vb).toNat - (intOf va).toNat)
  case atStart => exact ⟨a, b, lim, d, rfl, rfl, rfl, hlim.1, hlim.2, Lib.hid ⟨true, rfl⟩, Lib.hid ⟨true, rfl⟩, Nat.le_refl _, hab, Nat.le_refl _, rfl, S0, HR0⟩
  case round =>
    clear S0 HR0
    obtain ⟨a1, b1, z, D, rfl, rfl, rfl, hz1, hz2, HP, HQ, haa, hab1, hbb, hsD, SD, HD⟩ := hrel
    have hz := And.intro hz1 hz2
    obtain ⟨p, rfl⟩ := HP.out
    obtain ⟨q, rfl⟩ := HQ.out
    clear HP HQ
    obtain ⟨W, hW⟩ : ∃ W, W = wr := ⟨_, rfl⟩
    subst hW
    by_cases h12 : b1 - a1 ≤ 12
    · have h12z : (b1 : Int) - (a1 : Int) ≤ 12 := by omega
      have hC := uins_any blk off cap a1 b1 d0 D w0 W RR.out (by have := HS.out; omega) SD.out hab1 (by omega) (by omega)
      rw [hsD] at hC
      have PI := Lib.hid (insertionSort_holds (lt := ltInt) swo_ltInt D a1 b1 hab1 (by omega))
      go_wp2_with fail
      refine hC.mono ?_
      rintro e W' ⟨rfl, S2⟩
      have S3 := Lib.hid S2
      clear hC S2
      go_wp2
      exact bodyPost_ret (results_none rfl _ _ _) rfl ⟨rfl, _, (HD.out.2 _ PI.out.1 PI.out.2).1, (HD.out.2 _ PI.out.1 PI.out.2).2, S3.out⟩
    · have h12z : ¬ (b1 : Int) - (a1 : Int) ≤ 12 := by omega
      by_cases hz0 : z = 0
      · subst hz0
        have hC := uheap_any blk off cap a1 b1 d0 D w0 W RR.out (by have := HS.out; omega) SD.out hab1 (by omega) (by omega)
        rw [hsD] at hC
        have PI := Lib.hid (heapSort_holds (lt := ltInt) swo_ltInt D a1 b1 hab1 (by omega))
        go_wp2_with fail
        refine hC.mono ?_
        rintro e W' ⟨rfl, S2⟩
        have S3 := Lib.hid S2
        clear hC S2
        go_wp2
        exact bodyPost_ret (results_none rfl _ _ _) rfl ⟨rfl, _, (HD.out.2 _ PI.out.1 PI.out.2).1, (HD.out.2 _ PI.out.1 PI.out.2).2, S3.out⟩
      · have hze : (z == 0) = false := by simp; exact hz0
        cases p
        · have hC := ubreak_any blk off cap a1 (b1 - a1) d0 D w0 W RR.out (by have := HS.out; omega) SD.out (by omega) (by omega) (by omega)
          rw [hsD, show a1 + (b1 - a1) = b1 by omega] at hC
          go_wp2_with fail
          refine hC.mono ?_
          rintro e W1 ⟨rfl, D1, P1, S1⟩
          have SD1 : Hid (SU w0 blk off D1 W1) := Lib.hid S1
          have HD1 := Lib.hid (HD.out.perm (by omega) P1)
          have hsD1 : D1.size = d.size := by rw [P1.1]; exact hsD
          clear hC S1 SD HD P1 hsD
          clear D
          obtain ⟨D, hD⟩ : ∃ D, D = D1 := ⟨_, rfl⟩
          subst hD
          obtain ⟨W, hW⟩ : ∃ W, W = W1 := ⟨_, rfl⟩
          subst hW
          have SD := SD1
          have HD := HD1
          have hsD := hsD1
          clear SD1 HD1 hsD1
          obtain ⟨z2, hz2e⟩ : ∃ z2, z2 = z - 1 := ⟨_, rfl⟩
          have hzz : 0 ≤ z2 ∧ z2 ≤ 1000000 := by omega
          go_wp2_with fail
          simp only [← hz2e]
          clear hz2e hze hz0 hz1 hz2 hz
          obtain ⟨z, hzq⟩ : ∃ z, z = z2 := ⟨_, rfl⟩
          subst hzq
          have hz := hzz
          have hz1 := hz.1
          have hz2 := hz.2
          clear hzz
          have hC := uchoose_any blk off cap a1 b1 d0 D w0 W RR.out (by have := HS.out; omega) SD.out (by omega) (by omega) (by omega)
          rw [hsD] at hC
          try go_wp2_with fail
          refine hC.mono ?_
          rintro e W2 ⟨pv, h, rfl, hp1, hp2, S2⟩
          have SC : Hid (SU w0 blk off D W2) := Lib.hid S2
          clear hC S2 SD
          by_cases hh2 : h = 2
          · subst hh2
            have hC := urev_any blk off cap a1 b1 d0 D w0 W2 RR.out (by have := HS.out; omega) SC.out (by omega) (by omega) (by omega)
            rw [hsD] at hC
            go_wp2_with fail
            refine hC.mono ?_
            rintro e W3 ⟨rfl, D3, P3, S3⟩
            have SD3 : Hid (SU w0 blk off D3 W3) := Lib.hid S3
            have HD3 := Lib.hid (HD.out.perm (by omega) P3)
            have hsD3 : D3.size = d.size := by rw [P3.1]; exact hsD
            clear hC S3 SC HD P3 hsD
            clear D
            obtain ⟨pv2, hpv2⟩ : ∃ pv2 : Nat, pv2 = b1 - 1 - (pv - a1) := ⟨_, rfl⟩
            have hq1 : a1 ≤ pv2 := by omega
            have hq2 : pv2 < b1 := by omega
            have hpz : ((b1 : Int) - 1 - ((pv : Int) - (a1 : Int))) = (pv2 : Int) := by omega
            clear hpv2
            obtain ⟨D, hD⟩ : ∃ D, D = D3 := ⟨_, rfl⟩
            subst hD
            have SD := SD3
            have HD := HD3
            have hsD := hsD3
            clear SD3 HD3 hsD3
            go_wp2_with fail
            try simp only [hpz]
            clear hpz hp1 hp2
            obtain ⟨pv, hpv⟩ : ∃ pv, pv = pv2 := ⟨_, rfl⟩
            subst hpv
            have hp1 := hq1
            have hp2 := hq2
            clear hq1 hq2
            obtain ⟨W, hW⟩ : ∃ W, W = W3 := ⟨_, rfl⟩
            subst hW
            obtain ⟨G, hG⟩ : ∃ G : Nat → Int, ∀ t, G t = D[t]! := ⟨fun t => D[t]!, fun _ => rfl⟩
            have HG := Lib.hid hG
            clear hG
            obtain ⟨hcw, hfw⟩ := SU.cells SD.out RR.out (by have := HS.out; omega) G HG.out hsD
            by_cases ha0 : 0 < a1
            · have ha0z : (0 : Int) < (a1 : Int) := by omega
              go_wp2_with fail
              go_quiet (first | (go_at_call 60; exact quiet_mine (uless_any _ _ _)))
              have SE : Hid (SU w0 blk off D (W.drewN nq)) := Lib.hid (SD.out.drewN nq)
              clear hcw hfw SD
              generalize W.drewN nq = W4 at SE ⊢
              go_wp2_with fail
              · have ht : ltInt (G (a1 - 1)) (G pv) = false := by first | (have h1 : (!decide (G (a1 - 1) < G pv)) = true := (by assumption); exact by simpa [ltInt] using h1) | (have h1 : G pv ≤ G (a1 - 1) := (by assumption); exact decide_eq_false (by omega))
                have hC := upartEq_any blk off cap a1 b1 pv d0 D w0 W4 RR.out (by have := HS.out; omega) SE.out hp1 hp2 (by omega) (by omega)
                rw [hsD] at hC
                refine hC.mono ?_
                rintro e W5 ⟨mid, D4, hx, rfl, S4'⟩
                have Q := Lib.hid (round_eq swo_ltInt (partitionEqual_holds ltInt) ha0 hp1 hp2 (by omega) HD.out.1 (by rw [← HG.out, ← HG.out]; exact ht) hx)
                have S4 := Lib.hid S4'
                have hm1 := Q.out.1
                have hm2 := Q.out.2.1
                have hs4 : D4.size = d.size := by rw [Q.out.2.2.1]; exact hsD
                clear hC S4' hx SE IH
                go_wp2
                go_roundw
                case rel => exact ⟨mid, b1, z, D4, rfl, rfl, rfl, hz.1, hz.2, Lib.hid ⟨_, rfl⟩, Lib.hid ⟨_, rfl⟩, by omega, by omega, hbb, hs4, S4, Lib.hid ⟨Q.out.2.2.2.1, fun R h1 h2 => HD.out.2 R (Q.out.2.2.2.2 R h1 h2).1 (Q.out.2.2.2.2 R h1 h2).2⟩⟩
                case measure => simp [intOf]; omega
              · have hC := upart_any blk off cap a1 b1 pv d0 D w0 W4 RR.out (by have := HS.out; omega) SE.out hp1 hp2 (by omega) (by omega)
                rw [hsD] at hC
                refine hC.mono ?_
                rintro e W5 ⟨mid, ap, D4, hx, rfl, S4'⟩
                have Q := Lib.hid (round_part swo_ltInt (partition_holds ltInt) hp1 hp2 (by omega) HD.out.1 hx)
                have S4 := Lib.hid S4'
                have hm1 := Q.out.1
                have hm2 := Q.out.2.1
                have hs4 : D4.size = d.size := by rw [Q.out.2.2.1]; exact hsD
                clear hC S4' hx SE
                go_wp2_with fail
                · have hI := IH.out (mid - a1) (by omega) a1 mid z D4 W5 (Nat.le_refl _) (by have := HS.out; omega) S4.out (by omega) (by omega) hsz hz Q.out.2.2.2.1
                  rw [hs4] at hI
                  refine hI.mono ?_
                  rintro e W' ⟨rfl, R1, P1, Q1, S6⟩
                  have L1 := Lib.hid (Q.out.2.2.2.2.2.1 R1 P1 Q1)
                  have S7 := Lib.hid S6
                  have hsR : R1.size = d.size := by rw [P1.1]; exact hs4
                  clear hI P1 Q1 S6 S4 IH
                  go_wp2
                  go_roundw
                  case rel => exact ⟨mid + 1, b1, z, R1, by go_num, rfl, rfl, hz.1, hz.2, Lib.hid ⟨_, rfl⟩, Lib.hid ⟨_, rfl⟩, by omega, by omega, hbb, hsR, S7, Lib.hid ⟨L1.out.1, fun R h1 h2 => HD.out.2 R (L1.out.2 R h1 h2).1 (L1.out.2 R h1 h2).2⟩⟩
                  case measure => simp [intOf]; omega
                · rw [show ((mid : Int) + 1) = ((mid + 1 : Nat) : Int) by omega]
                  have hI := IH.out (b1 - (mid + 1)) (by omega) (mid + 1) b1 z D4 W5 (Nat.le_refl _) (by have := HS.out; omega) S4.out (by omega) (by omega) hsz hz Q.out.2.2.2.2.1
                  rw [hs4] at hI
                  refine hI.mono ?_
                  rintro e W' ⟨rfl, R1, P1, Q1, S6⟩
                  have L1 := Lib.hid (Q.out.2.2.2.2.2.2 R1 P1 Q1)
                  have S7 := Lib.hid S6
                  have hsR : R1.size = d.size := by rw [P1.1]; exact hs4
                  clear hI P1 Q1 S6 S4 IH
                  go_wp2
                  go_roundw
                  case rel => exact ⟨a1, mid, z, R1, rfl, by go_num, rfl, hz.1, hz.2, Lib.hid ⟨_, rfl⟩, Lib.hid ⟨_, rfl⟩, by omega, by omega, by omega, hsR, S7, Lib.hid ⟨L1.out.1, fun R h1 h2 => HD.out.2 R (L1.out.2 R h1 h2).1 (L1.out.2 R h1 h2).2⟩⟩
                  case measure => simp [intOf]; omega
            · have ha0z : ¬ (0 : Int) < (a1 : Int) := by omega
              try go_wp2_with fail
              go_quiet (fail)
              have SE : Hid (SU w0 blk off D (W.drewN nq)) := Lib.hid (SD.out.drewN nq)
              clear hcw hfw SD
              generalize W.drewN nq = W4 at SE ⊢
              have hC := upart_any blk off cap a1 b1 pv d0 D w0 W4 RR.out (by have := HS.out; omega) SE.out hp1 hp2 (by omega) (by omega)
              rw [hsD] at hC
              go_wp2_with fail
              refine hC.mono ?_
              rintro e W5 ⟨mid, ap, D4, hx, rfl, S4'⟩
              have Q := Lib.hid (round_part swo_ltInt (partition_holds ltInt) hp1 hp2 (by omega) HD.out.1 hx)
              have S4 := Lib.hid S4'
              have hm1 := Q.out.1
              have hm2 := Q.out.2.1
              have hs4 : D4.size = d.size := by rw [Q.out.2.2.1]; exact hsD
              clear hC S4' hx SE
              go_wp2_with fail
              · have hI := IH.out (mid - a1) (by omega) a1 mid z D4 W5 (Nat.le_refl _) (by have := HS.out; omega) S4.out (by omega) (by omega) hsz hz Q.out.2.2.2.1
                rw [hs4] at hI
                refine hI.mono ?_
                rintro e W' ⟨rfl, R1, P1, Q1, S6⟩
                have L1 := Lib.hid (Q.out.2.2.2.2.2.1 R1 P1 Q1)
                have S7 := Lib.hid S6
                have hsR : R1.size = d.size := by rw [P1.1]; exact hs4
                clear hI P1 Q1 S6 S4 IH
                go_wp2
                go_roundw
                case rel => exact ⟨mid + 1, b1, z, R1, by go_num, rfl, rfl, hz.1, hz.2, Lib.hid ⟨_, rfl⟩, Lib.hid ⟨_, rfl⟩, by omega, by omega, hbb, hsR, S7, Lib.hid ⟨L1.out.1, fun R h1 h2 => HD.out.2 R (L1.out.2 R h1 h2).1 (L1.out.2 R h1 h2).2⟩⟩
                case measure => simp [intOf]; omega
              · rw [show ((mid : Int) + 1) = ((mid + 1 : Nat) : Int) by omega]
                have hI := IH.out (b1 - (mid + 1)) (by omega) (mid + 1) b1 z D4 W5 (Nat.le_refl _) (by have := HS.out; omega) S4.out (by omega) (by omega) hsz hz Q.out.2.2.2.2.1
                rw [hs4] at hI
                refine hI.mono ?_
                rintro e W' ⟨rfl, R1, P1, Q1, S6⟩
                have L1 := Lib.hid (Q.out.2.2.2.2.2.2 R1 P1 Q1)
                have S7 := Lib.hid S6
                have hsR : R1.size = d.size := by rw [P1.1]; exact hs4
                clear hI P1 Q1 S6 S4 IH
                go_wp2
                go_roundw
                case rel => exact ⟨a1, mid, z, R1, rfl, by go_num, rfl, hz.1, hz.2, Lib.hid ⟨_, rfl⟩, Lib.hid ⟨_, rfl⟩, by omega, by omega, by omega, hsR, S7, Lib.hid ⟨L1.out.1, fun R h1 h2 => HD.out.2 R (L1.out.2 R h1 h2).1 (L1.out.2 R h1 h2).2⟩⟩
                case measure => simp [intOf]; omega
          · have hh2z : ((h : Int) == 2) = false := by simp; omega
            obtain ⟨W, hW⟩ : ∃ W, W = W2 := ⟨_, rfl⟩
            subst hW
            have SD := SC
            clear SC
            obtain ⟨G, hG⟩ : ∃ G : Nat → Int, ∀ t, G t = D[t]! := ⟨fun t => D[t]!, fun _ => rfl⟩
            have HG := Lib.hid hG
            clear hG
            obtain ⟨hcw, hfw⟩ := SU.cells SD.out RR.out (by have := HS.out; omega) G HG.out hsD
            by_cases ha0 : 0 < a1
            · have ha0z : (0 : Int) < (a1 : Int) := by omega
              go_wp2_with fail
              go_quiet (first | (go_at_call 60; exact quiet_mine (uless_any _ _ _)))
              have SE : Hid (SU w0 blk off D (W.drewN nq)) := Lib.hid (SD.out.drewN nq)
              clear hcw hfw SD
              generalize W.drewN nq = W4 at SE ⊢
              go_wp2_with fail
              · have ht : ltInt (G (a1 - 1)) (G pv) = false := by first | (have h1 : (!decide (G (a1 - 1) < G pv)) = true := (by assumption); exact by simpa [ltInt] using h1) | (have h1 : G pv ≤ G (a1 - 1) := (by assumption); exact decide_eq_false (by omega))
                have hC := upartEq_any blk off cap a1 b1 pv d0 D w0 W4 RR.out (by have := HS.out; omega) SE.out hp1 hp2 (by omega) (by omega)
                rw [hsD] at hC
                refine hC.mono ?_
                rintro e W5 ⟨mid, D4, hx, rfl, S4'⟩
                have Q := Lib.hid (round_eq swo_ltInt (partitionEqual_holds ltInt) ha0 hp1 hp2 (by omega) HD.out.1 (by rw [← HG.out, ← HG.out]; exact ht) hx)
                have S4 := Lib.hid S4'
                have hm1 := Q.out.1
                have hm2 := Q.out.2.1
                have hs4 : D4.size = d.size := by rw [Q.out.2.2.1]; exact hsD
                clear hC S4' hx SE IH
                go_wp2
                go_roundw
                case rel => exact ⟨mid, b1, z, D4, rfl, rfl, rfl, hz.1, hz.2, Lib.hid ⟨_, rfl⟩, Lib.hid ⟨_, rfl⟩, by omega, by omega, hbb, hs4, S4, Lib.hid ⟨Q.out.2.2.2.1, fun R h1 h2 => HD.out.2 R (Q.out.2.2.2.2 R h1 h2).1 (Q.out.2.2.2.2 R h1 h2).2⟩⟩
                case measure => simp [intOf]; omega
              · have hC := upart_any blk off cap a1 b1 pv d0 D w0 W4 RR.out (by have := HS.out; omega) SE.out hp1 hp2 (by omega) (by omega)
                rw [hsD] at hC
                refine hC.mono ?_
                rintro e W5 ⟨mid, ap, D4, hx, rfl, S4'⟩
                have Q := Lib.hid (round_part swo_ltInt (partition_holds ltInt) hp1 hp2 (by omega) HD.out.1 hx)
                have S4 := Lib.hid S4'
                have hm1 := Q.out.1
                have hm2 := Q.out.2.1
                have hs4 : D4.size = d.size := by rw [Q.out.2.2.1]; exact hsD
                clear hC S4' hx SE
                go_wp2_with fail
                · have hI := IH.out (mid - a1) (by omega) a1 mid z D4 W5 (Nat.le_refl _) (by have := HS.out; omega) S4.out (by omega) (by omega) hsz hz Q.out.2.2.2.1
                  rw [hs4] at hI
                  refine hI.mono ?_
                  rintro e W' ⟨rfl, R1, P1, Q1, S6⟩
                  have L1 := Lib.hid (Q.out.2.2.2.2.2.1 R1 P1 Q1)
                  have S7 := Lib.hid S6
                  have hsR : R1.size = d.size := by rw [P1.1]; exact hs4
                  clear hI P1 Q1 S6 S4 IH
                  go_wp2
                  go_roundw
                  case rel => exact ⟨mid + 1, b1, z, R1, by go_num, rfl, rfl, hz.1, hz.2, Lib.hid ⟨_, rfl⟩, Lib.hid ⟨_, rfl⟩, by omega, by omega, hbb, hsR, S7, Lib.hid ⟨L1.out.1, fun R h1 h2 => HD.out.2 R (L1.out.2 R h1 h2).1 (L1.out.2 R h1 h2).2⟩⟩
                  case measure => simp [intOf]; omega
                · rw [show ((mid : Int) + 1) = ((mid + 1 : Nat) : Int) by omega]
                  have hI := IH.out (b1 - (mid + 1)) (by omega) (mid + 1) b1 z D4 W5 (Nat.le_refl _) (by have := HS.out; omega) S4.out (by omega) (by omega) hsz hz Q.out.2.2.2.2.1
                  rw [hs4] at hI
                  refine hI.mono ?_
                  rintro e W' ⟨rfl, R1, P1, Q1, S6⟩
                  have L1 := Lib.hid (Q.out.2.2.2.2.2.2 R1 P1 Q1)
                  have S7 := Lib.hid S6
                  have hsR : R1.size = d.size := by rw [P1.1]; exact hs4
                  clear hI P1 Q1 S6 S4 IH
                  go_wp2
                  go_roundw
                  case rel => exact ⟨a1, mid, z, R1, rfl, by go_num, rfl, hz.1, hz.2, Lib.hid ⟨_, rfl⟩, Lib.hid ⟨_, rfl⟩, by omega, by omega, by omega, hsR, S7, Lib.hid ⟨L1.out.1, fun R h1 h2 => HD.out.2 R (L1.out.2 R h1 h2).1 (L1.out.2 R h1 h2).2⟩⟩
                  case measure => simp [intOf]; omega
            · have ha0z : ¬ (0 : Int) < (a1 : Int) := by omega
              try go_wp2_with fail
              go_quiet (fail)
              have SE : Hid (SU w0 blk off D (W.drewN nq)) := Lib.hid (SD.out.drewN nq)
              clear hcw hfw SD
              generalize W.drewN nq = W4 at SE ⊢
              have hC := upart_any blk off cap a1 b1 pv d0 D w0 W4 RR.out (by have := HS.out; omega) SE.out hp1 hp2 (by omega) (by omega)
              rw [hsD] at hC
              go_wp2_with fail
              refine hC.mono ?_
              rintro e W5 ⟨mid, ap, D4, hx, rfl, S4'⟩
              have Q := Lib.hid (round_part swo_ltInt (partition_holds ltInt) hp1 hp2 (by omega) HD.out.1 hx)
              have S4 := Lib.hid S4'
              have hm1 := Q.out.1
              have hm2 := Q.out.2.1
              have hs4 : D4.size = d.size := by rw [Q.out.2.2.1]; exact hsD
              clear hC S4' hx SE
              go_wp2_with fail
              · have hI := IH.out (mid - a1) (by omega) a1 mid z D4 W5 (Nat.le_refl _) (by have := HS.out; omega) S4.out (by omega) (by omega) hsz hz Q.out.2.2.2.1
                rw [hs4] at hI
                refine hI.mono ?_
                rintro e W' ⟨rfl, R1, P1, Q1, S6⟩
                have L1 := Lib.hid (Q.out.2.2.2.2.2.1 R1 P1 Q1)
                have S7 := Lib.hid S6
                have hsR : R1.size = d.size := by rw [P1.1]; exact hs4
                clear hI P1 Q1 S6 S4 IH
                go_wp2
                go_roundw
                case rel => exact ⟨mid + 1, b1, z, R1, by go_num, rfl, rfl, hz.1, hz.2, Lib.hid ⟨_, rfl⟩, Lib.hid ⟨_, rfl⟩, by omega, by omega, hbb, hsR, S7, Lib.hid ⟨L1.out.1, fun R h1 h2 => HD.out.2 R (L1.out.2 R h1 h2).1 (L1.out.2 R h1 h2).2⟩⟩
                case measure => simp [intOf]; omega
              · rw [show ((mid : Int) + 1) = ((mid + 1 : Nat) : Int) by omega]
                have hI := IH.out (b1 - (mid + 1)) (by omega) (mid + 1) b1 z D4 W5 (Nat.le_refl _) (by have := HS.out; omega) S4.out (by omega) (by omega) hsz hz Q.out.2.2.2.2.1
                rw [hs4] at hI
                refine hI.mono ?_
                rintro e W' ⟨rfl, R1, P1, Q1, S6⟩
                have L1 := Lib.hid (Q.out.2.2.2.2.2.2 R1 P1 Q1)
                have S7 := Lib.hid S6
                have hsR : R1.size = d.size := by rw [P1.1]; exact hs4
                clear hI P1 Q1 S6 S4 IH
                go_wp2
                go_roundw
                case rel => exact ⟨a1, mid, z, R1, rfl, by go_num, rfl, hz.1, hz.2, Lib.hid ⟨_, rfl⟩, Lib.hid ⟨_, rfl⟩, by omega, by omega, by omega, hsR, S7, Lib.hid ⟨L1.out.1, fun R h1 h2 => HD.out.2 R (L1.out.2 R h1 h2).1 (L1.out.2 R h1 h2).2⟩⟩
                case measure => simp [intOf]; omega
        · cases q
          · have hC := uchoose_any blk off cap a1 b1 d0 D w0 W RR.out (by have := HS.out; omega) SD.out (by omega) (by omega) (by omega)
            rw [hsD] at hC
            try go_wp2_with fail
            refine hC.mono ?_
            rintro e W2 ⟨pv, h, rfl, hp1, hp2, S2⟩
            have SC : Hid (SU w0 blk off D W2) := Lib.hid S2
            clear hC S2 SD
            by_cases hh2 : h = 2
            · subst hh2
              have hC := urev_any blk off cap a1 b1 d0 D w0 W2 RR.out (by have := HS.out; omega) SC.out (by omega) (by omega) (by omega)
              rw [hsD] at hC
              go_wp2_with fail
              refine hC.mono ?_
              rintro e W3 ⟨rfl, D3, P3, S3⟩
              have SD3 : Hid (SU w0 blk off D3 W3) := Lib.hid S3
              have HD3 := Lib.hid (HD.out.perm (by omega) P3)
              have hsD3 : D3.size = d.size := by rw [P3.1]; exact hsD
              clear hC S3 SC HD P3 hsD
              clear D
              obtain ⟨pv2, hpv2⟩ : ∃ pv2 : Nat, pv2 = b1 - 1 - (pv - a1) := ⟨_, rfl⟩
              have hq1 : a1 ≤ pv2 := by omega
              have hq2 : pv2 < b1 := by omega
              have hpz : ((b1 : Int) - 1 - ((pv : Int) - (a1 : Int))) = (pv2 : Int) := by omega
              clear hpv2
              obtain ⟨D, hD⟩ : ∃ D, D = D3 := ⟨_, rfl⟩
              subst hD
              have SD := SD3
              have HD := HD3
              have hsD := hsD3
              clear SD3 HD3 hsD3
              go_wp2_with fail
              try simp only [hpz]
              clear hpz hp1 hp2
              obtain ⟨pv, hpv⟩ : ∃ pv, pv = pv2 := ⟨_, rfl⟩
              subst hpv
              have hp1 := hq1
              have hp2 := hq2
              clear hq1 hq2
              obtain ⟨W, hW⟩ : ∃ W, W = W3 := ⟨_, rfl⟩
              subst hW
              obtain ⟨G, hG⟩ : ∃ G : Nat → Int, ∀ t, G t = D[t]! := ⟨fun t => D[t]!, fun _ => rfl⟩
              have HG := Lib.hid hG
              clear hG
              obtain ⟨hcw, hfw⟩ := SU.cells SD.out RR.out (by have := HS.out; omega) G HG.out hsD
              by_cases ha0 : 0 < a1
              · have ha0z : (0 : Int) < (a1 : Int) := by omega
                go_wp2_with fail
                go_quiet (first | (go_at_call 60; exact quiet_mine (uless_any _ _ _)))
                have SE : Hid (SU w0 blk off D (W.drewN nq)) := Lib.hid (SD.out.drewN nq)
                clear hcw hfw SD
                generalize W.drewN nq = W4 at SE ⊢
                go_wp2_with fail
                · have ht : ltInt (G (a1 - 1)) (G pv) = false := by first | (have h1 : (!decide (G (a1 - 1) < G pv)) = true := (by assumption); exact by simpa [ltInt] using h1) | (have h1 : G pv ≤ G (a1 - 1) := (by assumption); exact decide_eq_false (by omega))
                  have hC := upartEq_any blk off cap a1 b1 pv d0 D w0 W4 RR.out (by have := HS.out; omega) SE.out hp1 hp2 (by omega) (by omega)
                  rw [hsD] at hC
                  refine hC.mono ?_
                  rintro e W5 ⟨mid, D4, hx, rfl, S4'⟩
                  have Q := Lib.hid (round_eq swo_ltInt (partitionEqual_holds ltInt) ha0 hp1 hp2 (by omega) HD.out.1 (by rw [← HG.out, ← HG.out]; exact ht) hx)
                  have S4 := Lib.hid S4'
                  have hm1 := Q.out.1
                  have hm2 := Q.out.2.1
                  have hs4 : D4.size = d.size := by rw [Q.out.2.2.1]; exact hsD
                  clear hC S4' hx SE IH
                  go_wp2
                  go_roundw
                  case rel => exact ⟨mid, b1, z, D4, rfl, rfl, rfl, hz.1, hz.2, Lib.hid ⟨_, rfl⟩, Lib.hid ⟨_, rfl⟩, by omega, by omega, hbb, hs4, S4, Lib.hid ⟨Q.out.2.2.2.1, fun R h1 h2 => HD.out.2 R (Q.out.2.2.2.2 R h1 h2).1 (Q.out.2.2.2.2 R h1 h2).2⟩⟩
                  case measure => simp [intOf]; omega
                · have hC := upart_any blk off cap a1 b1 pv d0 D w0 W4 RR.out (by have := HS.out; omega) SE.out hp1 hp2 (by omega) (by omega)
                  rw [hsD] at hC
                  refine hC.mono ?_
                  rintro e W5 ⟨mid, ap, D4, hx, rfl, S4'⟩
                  have Q := Lib.hid (round_part swo_ltInt (partition_holds ltInt) hp1 hp2 (by omega) HD.out.1 hx)
                  have S4 := Lib.hid S4'
                  have hm1 := Q.out.1
                  have hm2 := Q.out.2.1
                  have hs4 : D4.size = d.size := by rw [Q.out.2.2.1]; exact hsD
                  clear hC S4' hx SE
                  go_wp2_with fail
                  · have hI := IH.out (mid - a1) (by omega) a1 mid z D4 W5 (Nat.le_refl _) (by have := HS.out; omega) S4.out (by omega) (by omega) hsz hz Q.out.2.2.2.1
                    rw [hs4] at hI
                    refine hI.mono ?_
                    rintro e W' ⟨rfl, R1, P1, Q1, S6⟩
                    have L1 := Lib.hid (Q.out.2.2.2.2.2.1 R1 P1 Q1)
                    have S7 := Lib.hid S6
                    have hsR : R1.size = d.size := by rw [P1.1]; exact hs4
                    clear hI P1 Q1 S6 S4 IH
                    go_wp2
                    go_roundw
                    case rel => exact ⟨mid + 1, b1, z, R1, by go_num, rfl, rfl, hz.1, hz.2, Lib.hid ⟨_, rfl⟩, Lib.hid ⟨_, rfl⟩, by omega, by omega, hbb, hsR, S7, Lib.hid ⟨L1.out.1, fun R h1 h2 => HD.out.2 R (L1.out.2 R h1 h2).1 (L1.out.2 R h1 h2).2⟩⟩
                    case measure => simp [intOf]; omega
                  · rw [show ((mid : Int) + 1) = ((mid + 1 : Nat) : Int) by omega]
                    have hI := IH.out (b1 - (mid + 1)) (by omega) (mid + 1) b1 z D4 W5 (Nat.le_refl _) (by have := HS.out; omega) S4.out (by omega) (by omega) hsz hz Q.out.2.2.2.2.1
                    rw [hs4] at hI
                    refine hI.mono ?_
                    rintro e W' ⟨rfl, R1, P1, Q1, S6⟩
                    have L1 := Lib.hid (Q.out.2.2.2.2.2.2 R1 P1 Q1)
                    have S7 := Lib.hid S6
                    have hsR : R1.size = d.size := by rw [P1.1]; exact hs4
                    clear hI P1 Q1 S6 S4 IH
                    go_wp2
                    go_roundw
                    case rel => exact ⟨a1, mid, z, R1, rfl, by go_num, rfl, hz.1, hz.2, Lib.hid ⟨_, rfl⟩, Lib.hid ⟨_, rfl⟩, by omega, by omega, by omega, hsR, S7, Lib.hid ⟨L1.out.1, fun R h1 h2 => HD.out.2 R (L1.out.2 R h1 h2).1 (L1.out.2 R h1 h2).2⟩⟩
                    case measure => simp [intOf]; omega
              · have ha0z : ¬ (0 : Int) < (a1 : Int) := by omega
                try go_wp2_with fail
                go_quiet (fail)
                have SE : Hid (SU w0 blk off D (W.drewN nq)) := Lib.hid (SD.out.drewN nq)
                clear hcw hfw SD
                generalize W.drewN nq = W4 at SE ⊢
                have hC := upart_any blk off cap a1 b1 pv d0 D w0 W4 RR.out (by have := HS.out; omega) SE.out hp1 hp2 (by omega) (by omega)
                rw [hsD] at hC
                go_wp2_with fail
                refine hC.mono ?_
                rintro e W5 ⟨mid, ap, D4, hx, rfl, S4'⟩
                have Q := Lib.hid (round_part swo_ltInt (partition_holds ltInt) hp1 hp2 (by omega) HD.out.1 hx)
                have S4 := Lib.hid S4'
                have hm1 := Q.out.1
                have hm2 := Q.out.2.1
                have hs4 : D4.size = d.size := by rw [Q.out.2.2.1]; exact hsD
                clear hC S4' hx SE
                go_wp2_with fail
                · have hI := IH.out (mid - a1) (by omega) a1 mid z D4 W5 (Nat.le_refl _) (by have := HS.out; omega) S4.out (by omega) (by omega) hsz hz Q.out.2.2.2.1
                  rw [hs4] at hI
                  refine hI.mono ?_
                  rintro e W' ⟨rfl, R1, P1, Q1, S6⟩
                  have L1 := Lib.hid (Q.out.2.2.2.2.2.1 R1 P1 Q1)
                  have S7 := Lib.hid S6
                  have hsR : R1.size = d.size := by rw [P1.1]; exact hs4
                  clear hI P1 Q1 S6 S4 IH
                  go_wp2
                  go_roundw
                  case rel => exact ⟨mid + 1, b1, z, R1, by go_num, rfl, rfl, hz.1, hz.2, Lib.hid ⟨_, rfl⟩, Lib.hid ⟨_, rfl⟩, by omega, by omega, hbb, hsR, S7, Lib.hid ⟨L1.out.1, fun R h1 h2 => HD.out.2 R (L1.out.2 R h1 h2).1 (L1.out.2 R h1 h2).2⟩⟩
                  case measure => simp [intOf]; omega
                · rw [show ((mid : Int) + 1) = ((mid + 1 : Nat) : Int) by omega]
                  have hI := IH.out (b1 - (mid + 1)) (by omega) (mid + 1) b1 z D4 W5 (Nat.le_refl _) (by have := HS.out; omega) S4.out (by omega) (by omega) hsz hz Q.out.2.2.2.2.1
                  rw [hs4] at hI
                  refine hI.mono ?_
                  rintro e W' ⟨rfl, R1, P1, Q1, S6⟩
                  have L1 := Lib.hid (Q.out.2.2.2.2.2.2 R1 P1 Q1)
                  have S7 := Lib.hid S6
                  have hsR : R1.size = d.size := by rw [P1.1]; exact hs4
                  clear hI P1 Q1 S6 S4 IH
                  go_wp2
                  go_roundw
                  case rel => exact ⟨a1, mid, z, R1, rfl, by go_num, rfl, hz.1, hz.2, Lib.hid ⟨_, rfl⟩, Lib.hid ⟨_, rfl⟩, by omega, by omega, by omega, hsR, S7, Lib.hid ⟨L1.out.1, fun R h1 h2 => HD.out.2 R (L1.out.2 R h1 h2).1 (L1.out.2 R h1 h2).2⟩⟩
                  case measure => simp [intOf]; omega
            · have hh2z : ((h : Int) == 2) = false := by simp; omega
              obtain ⟨W, hW⟩ : ∃ W, W = W2 := ⟨_, rfl⟩
              subst hW
              have SD := SC
              clear SC
              obtain ⟨G, hG⟩ : ∃ G : Nat → Int, ∀ t, G t = D[t]! := ⟨fun t => D[t]!, fun _ => rfl⟩
              have HG := Lib.hid hG
              clear hG
              obtain ⟨hcw, hfw⟩ := SU.cells SD.out RR.out (by have := HS.out; omega) G HG.out hsD
              by_cases ha0 : 0 < a1
              · have ha0z : (0 : Int) < (a1 : Int) := by omega
                go_wp2_with fail
                go_quiet (first | (go_at_call 60; exact quiet_mine (uless_any _ _ _)))
                have SE : Hid (SU w0 blk off D (W.drewN nq)) := Lib.hid (SD.out.drewN nq)
                clear hcw hfw SD
                generalize W.drewN nq = W4 at SE ⊢
                go_wp2_with fail
                · have ht : ltInt (G (a1 - 1)) (G pv) = false := by first | (have h1 : (!decide (G (a1 - 1) < G pv)) = true := (by assumption); exact by simpa [ltInt] using h1) | (have h1 : G pv ≤ G (a1 - 1) := (by assumption); exact decide_eq_false (by omega))
                  have hC := upartEq_any blk off cap a1 b1 pv d0 D w0 W4 RR.out (by have := HS.out; omega) SE.out hp1 hp2 (by omega) (by omega)
                  rw [hsD] at hC
                  refine hC.mono ?_
                  rintro e W5 ⟨mid, D4, hx, rfl, S4'⟩
                  have Q := Lib.hid (round_eq swo_ltInt (partitionEqual_holds ltInt) ha0 hp1 hp2 (by omega) HD.out.1 (by rw [← HG.out, ← HG.out]; exact ht) hx)
                  have S4 := Lib.hid S4'
                  have hm1 := Q.out.1
                  have hm2 := Q.out.2.1
                  have hs4 : D4.size = d.size := by rw [Q.out.2.2.1]; exact hsD
                  clear hC S4' hx SE IH
                  go_wp2
                  go_roundw
                  case rel => exact ⟨mid, b1, z, D4, rfl, rfl, rfl, hz.1, hz.2, Lib.hid ⟨_, rfl⟩, Lib.hid ⟨_, rfl⟩, by omega, by omega, hbb, hs4, S4, Lib.hid ⟨Q.out.2.2.2.1, fun R h1 h2 => HD.out.2 R (Q.out.2.2.2.2 R h1 h2).1 (Q.out.2.2.2.2 R h1 h2).2⟩⟩
                  case measure => simp [intOf]; omega
                · have hC := upart_any blk off cap a1 b1 pv d0 D w0 W4 RR.out (by have := HS.out; omega) SE.out hp1 hp2 (by omega) (by omega)
                  rw [hsD] at hC
                  refine hC.mono ?_
                  rintro e W5 ⟨mid, ap, D4, hx, rfl, S4'⟩
                  have Q := Lib.hid (round_part swo_ltInt (partition_holds ltInt) hp1 hp2 (by omega) HD.out.1 hx)
                  have S4 := Lib.hid S4'
                  have hm1 := Q.out.1
                  have hm2 := Q.out.2.1
                  have hs4 : D4.size = d.size := by rw [Q.out.2.2.1]; exact hsD
                  clear hC S4' hx SE
                  go_wp2_with fail
                  · have hI := IH.out (mid - a1) (by omega) a1 mid z D4 W5 (Nat.le_refl _) (by have := HS.out; omega) S4.out (by omega) (by omega) hsz hz Q.out.2.2.2.1
                    rw [hs4] at hI
                    refine hI.mono ?_
                    rintro e W' ⟨rfl, R1, P1, Q1, S6⟩
                    have L1 := Lib.hid (Q.out.2.2.2.2.2.1 R1 P1 Q1)
                    have S7 := Lib.hid S6
                    have hsR : R1.size = d.size := by rw [P1.1]; exact hs4
                    clear hI P1 Q1 S6 S4 IH
                    go_wp2
                    go_roundw
                    case rel => exact ⟨mid + 1, b1, z, R1, by go_num, rfl, rfl, hz.1, hz.2, Lib.hid ⟨_, rfl⟩, Lib.hid ⟨_, rfl⟩, by omega, by omega, hbb, hsR, S7, Lib.hid ⟨L1.out.1, fun R h1 h2 => HD.out.2 R (L1.out.2 R h1 h2).1 (L1.out.2 R h1 h2).2⟩⟩
                    case measure => simp [intOf]; omega
                  · rw [show ((mid : Int) + 1) = ((mid + 1 : Nat) : Int) by omega]
                    have hI := IH.out (b1 - (mid + 1)) (by omega) (mid + 1) b1 z D4 W5 (Nat.le_refl _) (by have := HS.out; omega) S4.out (by omega) (by omega) hsz hz Q.out.2.2.2.2.1
                    rw [hs4] at hI
                    refine hI.mono ?_
                    rintro e W' ⟨rfl, R1, P1, Q1, S6⟩
                    have L1 := Lib.hid (Q.out.2.2.2.2.2.2 R1 P1 Q1)
                    have S7 := Lib.hid S6
                    have hsR : R1.size = d.size := by rw [P1.1]; exact hs4
                    clear hI P1 Q1 S6 S4 IH
                    go_wp2
                    go_roundw
                    case rel => exact ⟨a1, mid, z, R1, rfl, by go_num, rfl, hz.1, hz.2, Lib.hid ⟨_, rfl⟩, Lib.hid ⟨_, rfl⟩, by omega, by omega, by omega, hsR, S7, Lib.hid ⟨L1.out.1, fun R h1 h2 => HD.out.2 R (L1.out.2 R h1 h2).1 (L1.out.2 R h1 h2).2⟩⟩
                    case measure => simp [intOf]; omega
              · have ha0z : ¬ (0 : Int) < (a1 : Int) := by omega
                try go_wp2_with fail
                go_quiet (fail)
                have SE : Hid (SU w0 blk off D (W.drewN nq)) := Lib.hid (SD.out.drewN nq)
                clear hcw hfw SD
                generalize W.drewN nq = W4 at SE ⊢
                have hC := upart_any blk off cap a1 b1 pv d0 D w0 W4 RR.out (by have := HS.out; omega) SE.out hp1 hp2 (by omega) (by omega)
                rw [hsD] at hC
                go_wp2_with fail
                refine hC.mono ?_
                rintro e W5 ⟨mid, ap, D4, hx, rfl, S4'⟩
                have Q := Lib.hid (round_part swo_ltInt (partition_holds ltInt) hp1 hp2 (by omega) HD.out.1 hx)
                have S4 := Lib.hid S4'
                have hm1 := Q.out.1
                have hm2 := Q.out.2.1
                have hs4 : D4.size = d.size := by rw [Q.out.2.2.1]; exact hsD
                clear hC S4' hx SE
                go_wp2_with fail
                · have hI := IH.out (mid - a1) (by omega) a1 mid z D4 W5 (Nat.le_refl _) (by have := HS.out; omega) S4.out (by omega) (by omega) hsz hz Q.out.2.2.2.1
                  rw [hs4] at hI
                  refine hI.mono ?_
                  rintro e W' ⟨rfl, R1, P1, Q1, S6⟩
                  have L1 := Lib.hid (Q.out.2.2.2.2.2.1 R1 P1 Q1)
                  have S7 := Lib.hid S6
                  have hsR : R1.size = d.size := by rw [P1.1]; exact hs4
                  clear hI P1 Q1 S6 S4 IH
                  go_wp2
                  go_roundw
                  case rel => exact ⟨mid + 1, b1, z, R1, by go_num, rfl, rfl, hz.1, hz.2, Lib.hid ⟨_, rfl⟩, Lib.hid ⟨_, rfl⟩, by omega, by omega, hbb, hsR, S7, Lib.hid ⟨L1.out.1, fun R h1 h2 => HD.out.2 R (L1.out.2 R h1 h2).1 (L1.out.2 R h1 h2).2⟩⟩
                  case measure => simp [intOf]; omega
                · rw [show ((mid : Int) + 1) = ((mid + 1 : Nat) : Int) by omega]
                  have hI := IH.out (b1 - (mid + 1)) (by omega) (mid + 1) b1 z D4 W5 (Nat.le_refl _) (by have := HS.out; omega) S4.out (by omega) (by omega) hsz hz Q.out.2.2.2.2.1
                  rw [hs4] at hI
                  refine hI.mono ?_
                  rintro e W' ⟨rfl, R1, P1, Q1, S6⟩
                  have L1 := Lib.hid (Q.out.2.2.2.2.2.2 R1 P1 Q1)
                  have S7 := Lib.hid S6
                  have hsR : R1.size = d.size := by rw [P1.1]; exact hs4
                  clear hI P1 Q1 S6 S4 IH
                  go_wp2
                  go_roundw
                  case rel => exact ⟨a1, mid, z, R1, rfl, by go_num, rfl, hz.1, hz.2, Lib.hid ⟨_, rfl⟩, Lib.hid ⟨_, rfl⟩, by omega, by omega, by omega, hsR, S7, Lib.hid ⟨L1.out.1, fun R h1 h2 => HD.out.2 R (L1.out.2 R h1 h2).1 (L1.out.2 R h1 h2).2⟩⟩
                  case measure => simp [intOf]; omega
          · have hC := uchoose_any blk off cap a1 b1 d0 D w0 W RR.out (by have := HS.out; omega) SD.out (by omega) (by omega) (by omega)
            rw [hsD] at hC
            try go_wp2_with fail
            refine hC.mono ?_
            rintro e W2 ⟨pv, h, rfl, hp1, hp2, S2⟩
            have SC : Hid (SU w0 blk off D W2) := Lib.hid S2
            clear hC S2 SD
            by_cases hh2 : h = 2
            · subst hh2
              have hC := urev_any blk off cap a1 b1 d0 D w0 W2 RR.out (by have := HS.out; omega) SC.out (by omega) (by omega) (by omega)
              rw [hsD] at hC
              go_wp2_with fail
              refine hC.mono ?_
              rintro e W3 ⟨rfl, D3, P3, S3⟩
              have SD3 : Hid (SU w0 blk off D3 W3) := Lib.hid S3
              have HD3 := Lib.hid (HD.out.perm (by omega) P3)
              have hsD3 : D3.size = d.size := by rw [P3.1]; exact hsD
              clear hC S3 SC HD P3 hsD
              clear D
              obtain ⟨pv2, hpv2⟩ : ∃ pv2 : Nat, pv2 = b1 - 1 - (pv - a1) := ⟨_, rfl⟩
              have hq1 : a1 ≤ pv2 := by omega
              have hq2 : pv2 < b1 := by omega
              have hpz : ((b1 : Int) - 1 - ((pv : Int) - (a1 : Int))) = (pv2 : Int) := by omega
              clear hpv2
              obtain ⟨D, hD⟩ : ∃ D, D = D3 := ⟨_, rfl⟩
              subst hD
              have SD := SD3
              have HD := HD3
              have hsD := hsD3
              clear SD3 HD3 hsD3
              go_wp2_with fail
              try simp only [hpz]
              clear hpz hp1 hp2
              obtain ⟨pv, hpv⟩ : ∃ pv, pv = pv2 := ⟨_, rfl⟩
              subst hpv
              have hp1 := hq1
              have hp2 := hq2
              clear hq1 hq2
              obtain ⟨W, hW⟩ : ∃ W, W = W3 := ⟨_, rfl⟩
              subst hW
              have hC := upins_any blk off cap a1 b1 d0 D w0 W RR.out (by have := HS.out; omega) SD.out (by omega) (by omega) (by omega)
              rw [hsD] at hC
              try go_wp2_with fail
              refine hC.mono ?_
              rintro e W6 ⟨c, D6, hx, rfl, S6⟩
              have PI := Lib.hid (partialInsertionSort_holds (lt := ltInt) swo_ltInt D a1 b1 (by omega) (by omega) HD.out.1)
              rw [hx] at PI
              have SD6 : Hid (SU w0 blk off D6 W6) := Lib.hid S6
              clear hC hx S6 SD
              cases c
              · have HD6 := Lib.hid (HD.out.perm (by omega) PI.out.1)
                have hsD6 : D6.size = d.size := by rw [PI.out.1.1]; exact hsD
                clear HD PI hsD
                clear D
                obtain ⟨D, hD⟩ : ∃ D, D = D6 := ⟨_, rfl⟩
                subst hD
                obtain ⟨W, hW⟩ : ∃ W, W = W6 := ⟨_, rfl⟩
                subst hW
                have SD := SD6
                have HD := HD6
                have hsD := hsD6
                clear SD6 HD6 hsD6
                obtain ⟨G, hG⟩ : ∃ G : Nat → Int, ∀ t, G t = D[t]! := ⟨fun t => D[t]!, fun _ => rfl⟩
                have HG := Lib.hid hG
                clear hG
                obtain ⟨hcw, hfw⟩ := SU.cells SD.out RR.out (by have := HS.out; omega) G HG.out hsD
                by_cases ha0 : 0 < a1
                · have ha0z : (0 : Int) < (a1 : Int) := by omega
                  go_wp2_with fail
                  go_quiet (first | (go_at_call 60; exact quiet_mine (uless_any _ _ _)))
                  have SE : Hid (SU w0 blk off D (W.drewN nq)) := Lib.hid (SD.out.drewN nq)
                  clear hcw hfw SD
                  generalize W.drewN nq = W4 at SE ⊢
                  go_wp2_with fail
                  · have ht : ltInt (G (a1 - 1)) (G pv) = false := by first | (have h1 : (!decide (G (a1 - 1) < G pv)) = true := (by assumption); exact by simpa [ltInt] using h1) | (have h1 : G pv ≤ G (a1 - 1) := (by assumption); exact decide_eq_false (by omega))
                    have hC := upartEq_any blk off cap a1 b1 pv d0 D w0 W4 RR.out (by have := HS.out; omega) SE.out hp1 hp2 (by omega) (by omega)
                    rw [hsD] at hC
                    refine hC.mono ?_
                    rintro e W5 ⟨mid, D4, hx, rfl, S4'⟩
                    have Q := Lib.hid (round_eq swo_ltInt (partitionEqual_holds ltInt) ha0 hp1 hp2 (by omega) HD.out.1 (by rw [← HG.out, ← HG.out]; exact ht) hx)
                    have S4 := Lib.hid S4'
                    have hm1 := Q.out.1
                    have hm2 := Q.out.2.1
                    have hs4 : D4.size = d.size := by rw [Q.out.2.2.1]; exact hsD
                    clear hC S4' hx SE IH
                    go_wp2
                    go_roundw
                    case rel => exact ⟨mid, b1, z, D4, rfl, rfl, rfl, hz.1, hz.2, Lib.hid ⟨_, rfl⟩, Lib.hid ⟨_, rfl⟩, by omega, by omega, hbb, hs4, S4, Lib.hid ⟨Q.out.2.2.2.1, fun R h1 h2 => HD.out.2 R (Q.out.2.2.2.2 R h1 h2).1 (Q.out.2.2.2.2 R h1 h2).2⟩⟩
                    case measure => simp [intOf]; omega
                  · have hC := upart_any blk off cap a1 b1 pv d0 D w0 W4 RR.out (by have := HS.out; omega) SE.out hp1 hp2 (by omega) (by omega)
                    rw [hsD] at hC
                    refine hC.mono ?_
                    rintro e W5 ⟨mid, ap, D4, hx, rfl, S4'⟩
                    have Q := Lib.hid (round_part swo_ltInt (partition_holds ltInt) hp1 hp2 (by omega) HD.out.1 hx)
                    have S4 := Lib.hid S4'
                    have hm1 := Q.out.1
                    have hm2 := Q.out.2.1
                    have hs4 : D4.size = d.size := by rw [Q.out.2.2.1]; exact hsD
                    clear hC S4' hx SE
                    go_wp2_with fail
                    · have hI := IH.out (mid - a1) (by omega) a1 mid z D4 W5 (Nat.le_refl _) (by have := HS.out; omega) S4.out (by omega) (by omega) hsz hz Q.out.2.2.2.1
                      rw [hs4] at hI
                      refine hI.mono ?_
                      rintro e W' ⟨rfl, R1, P1, Q1, S6⟩
                      have L1 := Lib.hid (Q.out.2.2.2.2.2.1 R1 P1 Q1)
                      have S7 := Lib.hid S6
                      have hsR : R1.size = d.size := by rw [P1.1]; exact hs4
                      clear hI P1 Q1 S6 S4 IH
                      go_wp2
                      go_roundw
                      case rel => exact ⟨mid + 1, b1, z, R1, by go_num, rfl, rfl, hz.1, hz.2, Lib.hid ⟨_, rfl⟩, Lib.hid ⟨_, rfl⟩, by omega, by omega, hbb, hsR, S7, Lib.hid ⟨L1.out.1, fun R h1 h2 => HD.out.2 R (L1.out.2 R h1 h2).1 (L1.out.2 R h1 h2).2⟩⟩
                      case measure => simp [intOf]; omega
                    · rw [show ((mid : Int) + 1) = ((mid + 1 : Nat) : Int) by omega]
                      have hI := IH.out (b1 - (mid + 1)) (by omega) (mid + 1) b1 z D4 W5 (Nat.le_refl _) (by have := HS.out; omega) S4.out (by omega) (by omega) hsz hz Q.out.2.2.2.2.1
                      rw [hs4] at hI
                      refine hI.mono ?_
                      rintro e W' ⟨rfl, R1, P1, Q1, S6⟩
                      have L1 := Lib.hid (Q.out.2.2.2.2.2.2 R1 P1 Q1)
                      have S7 := Lib.hid S6
                      have hsR : R1.size = d.size := by rw [P1.1]; exact hs4
                      clear hI P1 Q1 S6 S4 IH
                      go_wp2
                      go_roundw
                      case rel => exact ⟨a1, mid, z, R1, rfl, by go_num, rfl, hz.1, hz.2, Lib.hid ⟨_, rfl⟩, Lib.hid ⟨_, rfl⟩, by omega, by omega, by omega, hsR, S7, Lib.hid ⟨L1.out.1, fun R h1 h2 => HD.out.2 R (L1.out.2 R h1 h2).1 (L1.out.2 R h1 h2).2⟩⟩
                      case measure => simp [intOf]; omega
                · have ha0z : ¬ (0 : Int) < (a1 : Int) := by omega
                  try go_wp2_with fail
                  go_quiet (fail)
                  have SE : Hid (SU w0 blk off D (W.drewN nq)) := Lib.hid (SD.out.drewN nq)
                  clear hcw hfw SD
                  generalize W.drewN nq = W4 at SE ⊢
                  have hC := upart_any blk off cap a1 b1 pv d0 D w0 W4 RR.out (by have := HS.out; omega) SE.out hp1 hp2 (by omega) (by omega)
                  rw [hsD] at hC
                  go_wp2_with fail
                  refine hC.mono ?_
                  rintro e W5 ⟨mid, ap, D4, hx, rfl, S4'⟩
                  have Q := Lib.hid (round_part swo_ltInt (partition_holds ltInt) hp1 hp2 (by omega) HD.out.1 hx)
                  have S4 := Lib.hid S4'
                  have hm1 := Q.out.1
                  have hm2 := Q.out.2.1
                  have hs4 : D4.size = d.size := by rw [Q.out.2.2.1]; exact hsD
                  clear hC S4' hx SE
                  go_wp2_with fail
                  · have hI := IH.out (mid - a1) (by omega) a1 mid z D4 W5 (Nat.le_refl _) (by have := HS.out; omega) S4.out (by omega) (by omega) hsz hz Q.out.2.2.2.1
                    rw [hs4] at hI
                    refine hI.mono ?_
                    rintro e W' ⟨rfl, R1, P1, Q1, S6⟩
                    have L1 := Lib.hid (Q.out.2.2.2.2.2.1 R1 P1 Q1)
                    have S7 := Lib.hid S6
                    have hsR : R1.size = d.size := by rw [P1.1]; exact hs4
                    clear hI P1 Q1 S6 S4 IH
                    go_wp2
                    go_roundw
                    case rel => exact ⟨mid + 1, b1, z, R1, by go_num, rfl, rfl, hz.1, hz.2, Lib.hid ⟨_, rfl⟩, Lib.hid ⟨_, rfl⟩, by omega, by omega, hbb, hsR, S7, Lib.hid ⟨L1.out.1, fun R h1 h2 => HD.out.2 R (L1.out.2 R h1 h2).1 (L1.out.2 R h1 h2).2⟩⟩
                    case measure => simp [intOf]; omega
                  · rw [show ((mid : Int) + 1) = ((mid + 1 : Nat) : Int) by omega]
                    have hI := IH.out (b1 - (mid + 1)) (by omega) (mid + 1) b1 z D4 W5 (Nat.le_refl _) (by have := HS.out; omega) S4.out (by omega) (by omega) hsz hz Q.out.2.2.2.2.1
                    rw [hs4] at hI
                    refine hI.mono ?_
                    rintro e W' ⟨rfl, R1, P1, Q1, S6⟩
                    have L1 := Lib.hid (Q.out.2.2.2.2.2.2 R1 P1 Q1)
                    have S7 := Lib.hid S6
                    have hsR : R1.size = d.size := by rw [P1.1]; exact hs4
                    clear hI P1 Q1 S6 S4 IH
                    go_wp2
                    go_roundw
                    case rel => exact ⟨a1, mid, z, R1, rfl, by go_num, rfl, hz.1, hz.2, Lib.hid ⟨_, rfl⟩, Lib.hid ⟨_, rfl⟩, by omega, by omega, by omega, hsR, S7, Lib.hid ⟨L1.out.1, fun R h1 h2 => HD.out.2 R (L1.out.2 R h1 h2).1 (L1.out.2 R h1 h2).2⟩⟩
                    case measure => simp [intOf]; omega
              · have FIN := Lib.hid (HD.out.2 D6 PI.out.1 (PI.out.2 rfl))
                go_wp2
                exact bodyPost_ret (results_none rfl _ _ _) rfl ⟨rfl, _, FIN.out.1, FIN.out.2, SD6.out⟩
            · have hh2z : ((h : Int) == 2) = false := by simp; omega
              by_cases hh1 : h = 1
              · subst hh1
                obtain ⟨W, hW⟩ : ∃ W, W = W2 := ⟨_, rfl⟩
                subst hW
                have SD := SC
                clear SC
                have hC := upins_any blk off cap a1 b1 d0 D w0 W RR.out (by have := HS.out; omega) SD.out (by omega) (by omega) (by omega)
                rw [hsD] at hC
                try go_wp2_with fail
                refine hC.mono ?_
                rintro e W6 ⟨c, D6, hx, rfl, S6⟩
                have PI := Lib.hid (partialInsertionSort_holds (lt := ltInt) swo_ltInt D a1 b1 (by omega) (by omega) HD.out.1)
                rw [hx] at PI
                have SD6 : Hid (SU w0 blk off D6 W6) := Lib.hid S6
                clear hC hx S6 SD
                cases c
                · have HD6 := Lib.hid (HD.out.perm (by omega) PI.out.1)
                  have hsD6 : D6.size = d.size := by rw [PI.out.1.1]; exact hsD
                  clear HD PI hsD
                  clear D
                  obtain ⟨D, hD⟩ : ∃ D, D = D6 := ⟨_, rfl⟩
                  subst hD
                  obtain ⟨W, hW⟩ : ∃ W, W = W6 := ⟨_, rfl⟩
                  subst hW
                  have SD := SD6
                  have HD := HD6
                  have hsD := hsD6
                  clear SD6 HD6 hsD6
                  obtain ⟨G, hG⟩ : ∃ G : Nat → Int, ∀ t, G t = D[t]! := ⟨fun t => D[t]!, fun _ => rfl⟩
                  have HG := Lib.hid hG
                  clear hG
                  obtain ⟨hcw, hfw⟩ := SU.cells SD.out RR.out (by have := HS.out; omega) G HG.out hsD
                  by_cases ha0 : 0 < a1
                  · have ha0z : (0 : Int) < (a1 : Int) := by omega
                    go_wp2_with fail
                    go_quiet (first | (go_at_call 60; exact quiet_mine (uless_any _ _ _)))
                    have SE : Hid (SU w0 blk off D (W.drewN nq)) := Lib.hid (SD.out.drewN nq)
                    clear hcw hfw SD
                    generalize W.drewN nq = W4 at SE ⊢
                    go_wp2_with fail
                    · have ht : ltInt (G (a1 - 1)) (G pv) = false := by first | (have h1 : (!decide (G (a1 - 1) < G pv)) = true := (by assumption); exact by simpa [ltInt] using h1) | (have h1 : G pv ≤ G (a1 - 1) := (by assumption); exact decide_eq_false (by omega))
                      have hC := upartEq_any blk off cap a1 b1 pv d0 D w0 W4 RR.out (by have := HS.out; omega) SE.out hp1 hp2 (by omega) (by omega)
                      rw [hsD] at hC
                      refine hC.mono ?_
                      rintro e W5 ⟨mid, D4, hx, rfl, S4'⟩
                      have Q := Lib.hid (round_eq swo_ltInt (partitionEqual_holds ltInt) ha0 hp1 hp2 (by omega) HD.out.1 (by rw [← HG.out, ← HG.out]; exact ht) hx)
                      have S4 := Lib.hid S4'
                      have hm1 := Q.out.1
                      have hm2 := Q.out.2.1
                      have hs4 : D4.size = d.size := by rw [Q.out.2.2.1]; exact hsD
                      clear hC S4' hx SE IH
                      go_wp2
                      go_roundw
                      case rel => exact ⟨mid, b1, z, D4, rfl, rfl, rfl, hz.1, hz.2, Lib.hid ⟨_, rfl⟩, Lib.hid ⟨_, rfl⟩, by omega, by omega, hbb, hs4, S4, Lib.hid ⟨Q.out.2.2.2.1, fun R h1 h2 => HD.out.2 R (Q.out.2.2.2.2 R h1 h2).1 (Q.out.2.2.2.2 R h1 h2).2⟩⟩
                      case measure => simp [intOf]; omega
                    · have hC := upart_any blk off cap a1 b1 pv d0 D w0 W4 RR.out (by have := HS.out; omega) SE.out hp1 hp2 (by omega) (by omega)
                      rw [hsD] at hC
                      refine hC.mono ?_
                      rintro e W5 ⟨mid, ap, D4, hx, rfl, S4'⟩
                      have Q := Lib.hid (round_part swo_ltInt (partition_holds ltInt) hp1 hp2 (by omega) HD.out.1 hx)
                      have S4 := Lib.hid S4'
                      have hm1 := Q.out.1
                      have hm2 := Q.out.2.1
                      have hs4 : D4.size = d.size := by rw [Q.out.2.2.1]; exact hsD
                      clear hC S4' hx SE
                      go_wp2_with fail
                      · have hI := IH.out (mid - a1) (by omega) a1 mid z D4 W5 (Nat.le_refl _) (by have := HS.out; omega) S4.out (by omega) (by omega) hsz hz Q.out.2.2.2.1
                        rw [hs4] at hI
                        refine hI.mono ?_
                        rintro e W' ⟨rfl, R1, P1, Q1, S6⟩
                        have L1 := Lib.hid (Q.out.2.2.2.2.2.1 R1 P1 Q1)
                        have S7 := Lib.hid S6
                        have hsR : R1.size = d.size := by rw [P1.1]; exact hs4
                        clear hI P1 Q1 S6 S4 IH
                        go_wp2
                        go_roundw
                        case rel => exact ⟨mid + 1, b1, z, R1, by go_num, rfl, rfl, hz.1, hz.2, Lib.hid ⟨_, rfl⟩, Lib.hid ⟨_, rfl⟩, by omega, by omega, hbb, hsR, S7, Lib.hid ⟨L1.out.1, fun R h1 h2 => HD.out.2 R (L1.out.2 R h1 h2).1 (L1.out.2 R h1 h2).2⟩⟩
                        case measure => simp [intOf]; omega
                      · rw [show ((mid : Int) + 1) = ((mid + 1 : Nat) : Int) by omega]
                        have hI := IH.out (b1 - (mid + 1)) (by omega) (mid + 1) b1 z D4 W5 (Nat.le_refl _) (by have := HS.out; omega) S4.out (by omega) (by omega) hsz hz Q.out.2.2.2.2.1
                        rw [hs4] at hI
                        refine hI.mono ?_
                        rintro e W' ⟨rfl, R1, P1, Q1, S6⟩
                        have L1 := Lib.hid (Q.out.2.2.2.2.2.2 R1 P1 Q1)
                        have S7 := Lib.hid S6
                        have hsR : R1.size = d.size := by rw [P1.1]; exact hs4
                        clear hI P1 Q1 S6 S4 IH
                        go_wp2
                        go_roundw
                        case rel => exact ⟨a1, mid, z, R1, rfl, by go_num, rfl, hz.1, hz.2, Lib.hid ⟨_, rfl⟩, Lib.hid ⟨_, rfl⟩, by omega, by omega, by omega, hsR, S7, Lib.hid ⟨L1.out.1, fun R h1 h2 => HD.out.2 R (L1.out.2 R h1 h2).1 (L1.out.2 R h1 h2).2⟩⟩
                        case measure => simp [intOf]; omega
                  · have ha0z : ¬ (0 : Int) < (a1 : Int) := by omega
                    try go_wp2_with fail
                    go_quiet (fail)
                    have SE : Hid (SU w0 blk off D (W.drewN nq)) := Lib.hid (SD.out.drewN nq)
                    clear hcw hfw SD
                    generalize W.drewN nq = W4 at SE ⊢
                    have hC := upart_any blk off cap a1 b1 pv d0 D w0 W4 RR.out (by have := HS.out; omega) SE.out hp1 hp2 (by omega) (by omega)
                    rw [hsD] at hC
                    go_wp2_with fail
                    refine hC.mono ?_
                    rintro e W5 ⟨mid, ap, D4, hx, rfl, S4'⟩
                    have Q := Lib.hid (round_part swo_ltInt (partition_holds ltInt) hp1 hp2 (by omega) HD.out.1 hx)
                    have S4 := Lib.hid S4'
                    have hm1 := Q.out.1
                    have hm2 := Q.out.2.1
                    have hs4 : D4.size = d.size := by rw [Q.out.2.2.1]; exact hsD
                    clear hC S4' hx SE
                    go_wp2_with fail
                    · have hI := IH.out (mid - a1) (by omega) a1 mid z D4 W5 (Nat.le_refl _) (by have := HS.out; omega) S4.out (by omega) (by omega) hsz hz Q.out.2.2.2.1
                      rw [hs4] at hI
                      refine hI.mono ?_
                      rintro e W' ⟨rfl, R1, P1, Q1, S6⟩
                      have L1 := Lib.hid (Q.out.2.2.2.2.2.1 R1 P1 Q1)
                      have S7 := Lib.hid S6
                      have hsR : R1.size = d.size := by rw [P1.1]; exact hs4
                      clear hI P1 Q1 S6 S4 IH
                      go_wp2
                      go_roundw
                      case rel => exact ⟨mid + 1, b1, z, R1, by go_num, rfl, rfl, hz.1, hz.2, Lib.hid ⟨_, rfl⟩, Lib.hid ⟨_, rfl⟩, by omega, by omega, hbb, hsR, S7, Lib.hid ⟨L1.out.1, fun R h1 h2 => HD.out.2 R (L1.out.2 R h1 h2).1 (L1.out.2 R h1 h2).2⟩⟩
                      case measure => simp [intOf]; omega
                    · rw [show ((mid : Int) + 1) = ((mid + 1 : Nat) : Int) by omega]
                      have hI := IH.out (b1 - (mid + 1)) (by omega) (mid + 1) b1 z D4 W5 (Nat.le_refl _) (by have := HS.out; omega) S4.out (by omega) (by omega) hsz hz Q.out.2.2.2.2.1
                      rw [hs4] at hI
                      refine hI.mono ?_
                      rintro e W' ⟨rfl, R1, P1, Q1, S6⟩
                      have L1 := Lib.hid (Q.out.2.2.2.2.2.2 R1 P1 Q1)
                      have S7 := Lib.hid S6
                      have hsR : R1.size = d.size := by rw [P1.1]; exact hs4
                      clear hI P1 Q1 S6 S4 IH
                      go_wp2
                      go_roundw
                      case rel => exact ⟨a1, mid, z, R1, rfl, by go_num, rfl, hz.1, hz.2, Lib.hid ⟨_, rfl⟩, Lib.hid ⟨_, rfl⟩, by omega, by omega, by omega, hsR, S7, Lib.hid ⟨L1.out.1, fun R h1 h2 => HD.out.2 R (L1.out.2 R h1 h2).1 (L1.out.2 R h1 h2).2⟩⟩
                      case measure => simp [intOf]; omega
                · have FIN := Lib.hid (HD.out.2 D6 PI.out.1 (PI.out.2 rfl))
                  go_wp2
                  exact bodyPost_ret (results_none rfl _ _ _) rfl ⟨rfl, _, FIN.out.1, FIN.out.2, SD6.out⟩
              · have hh1z : ((h : Int) == 1) = false := by simp; omega
                obtain ⟨W, hW⟩ : ∃ W, W = W2 := ⟨_, rfl⟩
                subst hW
                have SD := SC
                clear SC
                obtain ⟨G, hG⟩ : ∃ G : Nat → Int, ∀ t, G t = D[t]! := ⟨fun t => D[t]!, fun _ => rfl⟩
                have HG := Lib.hid hG
                clear hG
                obtain ⟨hcw, hfw⟩ := SU.cells SD.out RR.out (by have := HS.out; omega) G HG.out hsD
                by_cases ha0 : 0 < a1
                · have ha0z : (0 : Int) < (a1 : Int) := by omega
                  go_wp2_with fail
                  go_quiet (first | (go_at_call 60; exact quiet_mine (uless_any _ _ _)))
                  have SE : Hid (SU w0 blk off D (W.drewN nq)) := Lib.hid (SD.out.drewN nq)
                  clear hcw hfw SD
                  generalize W.drewN nq = W4 at SE ⊢
                  go_wp2_with fail
                  · have ht : ltInt (G (a1 - 1)) (G pv) = false := by first | (have h1 : (!decide (G (a1 - 1) < G pv)) = true := (by assumption); exact by simpa [ltInt] using h1) | (have h1 : G pv ≤ G (a1 - 1) := (by assumption); exact decide_eq_false (by omega))
                    have hC := upartEq_any blk off cap a1 b1 pv d0 D w0 W4 RR.out (by have := HS.out; omega) SE.out hp1 hp2 (by omega) (by omega)
                    rw [hsD] at hC
                    refine hC.mono ?_
                    rintro e W5 ⟨mid, D4, hx, rfl, S4'⟩
                    have Q := Lib.hid (round_eq swo_ltInt (partitionEqual_holds ltInt) ha0 hp1 hp2 (by omega) HD.out.1 (by rw [← HG.out, ← HG.out]; exact ht) hx)
                    have S4 := Lib.hid S4'
                    have hm1 := Q.out.1
                    have hm2 := Q.out.2.1
                    have hs4 : D4.size = d.size := by rw [Q.out.2.2.1]; exact hsD
                    clear hC S4' hx SE IH
                    go_wp2
                    go_roundw
                    case rel => exact ⟨mid, b1, z, D4, rfl, rfl, rfl, hz.1, hz.2, Lib.hid ⟨_, rfl⟩, Lib.hid ⟨_, rfl⟩, by omega, by omega, hbb, hs4, S4, Lib.hid ⟨Q.out.2.2.2.1, fun R h1 h2 => HD.out.2 R (Q.out.2.2.2.2 R h1 h2).1 (Q.out.2.2.2.2 R h1 h2).2⟩⟩
                    case measure => simp [intOf]; omega
                  · have hC := upart_any blk off cap a1 b1 pv d0 D w0 W4 RR.out (by have := HS.out; omega) SE.out hp1 hp2 (by omega) (by omega)
                    rw [hsD] at hC
                    refine hC.mono ?_
                    rintro e W5 ⟨mid, ap, D4, hx, rfl, S4'⟩
                    have Q := Lib.hid (round_part swo_ltInt (partition_holds ltInt) hp1 hp2 (by omega) HD.out.1 hx)
                    have S4 := Lib.hid S4'
                    have hm1 := Q.out.1
                    have hm2 := Q.out.2.1
                    have hs4 : D4.size = d.size := by rw [Q.out.2.2.1]; exact hsD
                    clear hC S4' hx SE
                    go_wp2_with fail
                    · have hI := IH.out (mid - a1) (by omega) a1 mid z D4 W5 (Nat.le_refl _) (by have := HS.out; omega) S4.out (by omega) (by omega) hsz hz Q.out.2.2.2.1
                      rw [hs4] at hI
                      refine hI.mono ?_
                      rintro e W' ⟨rfl, R1, P1, Q1, S6⟩
                      have L1 := Lib.hid (Q.out.2.2.2.2.2.1 R1 P1 Q1)
                      have S7 := Lib.hid S6
                      have hsR : R1.size = d.size := by rw [P1.1]; exact hs4
                      clear hI P1 Q1 S6 S4 IH
                      go_wp2
                      go_roundw
                      case rel => exact ⟨mid + 1, b1, z, R1, by go_num, rfl, rfl, hz.1, hz.2, Lib.hid ⟨_, rfl⟩, Lib.hid ⟨_, rfl⟩, by omega, by omega, hbb, hsR, S7, Lib.hid ⟨L1.out.1, fun R h1 h2 => HD.out.2 R (L1.out.2 R h1 h2).1 (L1.out.2 R h1 h2).2⟩⟩
                      case measure => simp [intOf]; omega
                    · rw [show ((mid : Int) + 1) = ((mid + 1 : Nat) : Int) by omega]
                      have hI := IH.out (b1 - (mid + 1)) (by omega) (mid + 1) b1 z D4 W5 (Nat.le_refl _) (by have := HS.out; omega) S4.out (by omega) (by omega) hsz hz Q.out.2.2.2.2.1
                      rw [hs4] at hI
                      refine hI.mono ?_
                      rintro e W' ⟨rfl, R1, P1, Q1, S6⟩
                      have L1 := Lib.hid (Q.out.2.2.2.2.2.2 R1 P1 Q1)
                      have S7 := Lib.hid S6
                      have hsR : R1.size = d.size := by rw [P1.1]; exact hs4
                      clear hI P1 Q1 S6 S4 IH
                      go_wp2
                      go_roundw
                      case rel => exact ⟨a1, mid, z, R1, rfl, by go_num, rfl, hz.1, hz.2, Lib.hid ⟨_, rfl⟩, Lib.hid ⟨_, rfl⟩, by omega, by omega, by omega, hsR, S7, Lib.hid ⟨L1.out.1, fun R h1 h2 => HD.out.2 R (L1.out.2 R h1 h2).1 (L1.out.2 R h1 h2).2⟩⟩
                      case measure => simp [intOf]; omega
                · have ha0z : ¬ (0 : Int) < (a1 : Int) := by omega
                  try go_wp2_with fail
                  go_quiet (fail)
                  have SE : Hid (SU w0 blk off D (W.drewN nq)) := Lib.hid (SD.out.drewN nq)
                  clear hcw hfw SD
                  generalize W.drewN nq = W4 at SE ⊢
                  have hC := upart_any blk off cap a1 b1 pv d0 D w0 W4 RR.out (by have := HS.out; omega) SE.out hp1 hp2 (by omega) (by omega)
                  rw [hsD] at hC
                  go_wp2_with fail
                  refine hC.mono ?_
                  rintro e W5 ⟨mid, ap, D4, hx, rfl, S4'⟩
                  have Q := Lib.hid (round_part swo_ltInt (partition_holds ltInt) hp1 hp2 (by omega) HD.out.1 hx)
                  have S4 := Lib.hid S4'
                  have hm1 := Q.out.1
                  have hm2 := Q.out.2.1
                  have hs4 : D4.size = d.size := by rw [Q.out.2.2.1]; exact hsD
                  clear hC S4' hx SE
                  go_wp2_with fail
                  · have hI := IH.out (mid - a1) (by omega) a1 mid z D4 W5 (Nat.le_refl _) (by have := HS.out; omega) S4.out (by omega) (by omega) hsz hz Q.out.2.2.2.1
                    rw [hs4] at hI
                    refine hI.mono ?_
                    rintro e W' ⟨rfl, R1, P1, Q1, S6⟩
                    have L1 := Lib.hid (Q.out.2.2.2.2.2.1 R1 P1 Q1)
                    have S7 := Lib.hid S6
                    have hsR : R1.size = d.size := by rw [P1.1]; exact hs4
                    clear hI P1 Q1 S6 S4 IH
                    go_wp2
                    go_roundw
                    case rel => exact ⟨mid + 1, b1, z, R1, by go_num, rfl, rfl, hz.1, hz.2, Lib.hid ⟨_, rfl⟩, Lib.hid ⟨_, rfl⟩, by omega, by omega, hbb, hsR, S7, Lib.hid ⟨L1.out.1, fun R h1 h2 => HD.out.2 R (L1.out.2 R h1 h2).1 (L1.out.2 R h1 h2).2⟩⟩
                    case measure => simp [intOf]; omega
                  · rw [show ((mid : Int) + 1) = ((mid + 1 : Nat) : Int) by omega]
                    have hI := IH.out (b1 - (mid + 1)) (by omega) (mid + 1) b1 z D4 W5 (Nat.le_refl _) (by have := HS.out; omega) S4.out (by omega) (by omega) hsz hz Q.out.2.2.2.2.1
                    rw [hs4] at hI
                    refine hI.mono ?_
                    rintro e W' ⟨rfl, R1, P1, Q1, S6⟩
                    have L1 := Lib.hid (Q.out.2.2.2.2.2.2 R1 P1 Q1)
                    have S7 := Lib.hid S6
                    have hsR : R1.size = d.size := by rw [P1.1]; exact hs4
                    clear hI P1 Q1 S6 S4 IH
                    go_wp2
                    go_roundw
                    case rel => exact ⟨a1, mid, z, R1, rfl, by go_num, rfl, hz.1, hz.2, Lib.hid ⟨_, rfl⟩, Lib.hid ⟨_, rfl⟩, by omega, by omega, by omega, hsR, S7, Lib.hid ⟨L1.out.1, fun R h1 h2 => HD.out.2 R (L1.out.2 R h1 h2).1 (L1.out.2 R h1 h2).2⟩⟩
                    case measure => simp [intOf]; omega
end Go.Proofs.YtpchncpcckfghaaGreat
namespace Go.Proofs.YtpchncpcckfghaaGreat
open Go.RowKit Go.Sort
theorem pdqOK_any {n : Nat} (hn : n ≤ 1000000) : PdqOK n := fun blk cap d w hs hb hh => by
  subst hs
  have hl : Lib.bitLen d.size ≤ 64 := Lib.bitLen_le d.size 64 (by omega) (by omega)
  exact updq_go blk 0 cap d w ⟨oneU, hh, hb⟩ hn d.size 0 d.size _ d w (by omega) rfl (SW.start hh) (Nat.zero_le _) (Nat.le_refl _) ⟨by omega, by omega⟩ (Or.inl rfl)
end Go.Proofs.YtpchncpcckfghaaGreat
namespace Go.Proofs.YtpchncpcckfghaaGreat
open Go.RowKit
set_option linter.unusedVariables false
set_option linter.unusedSimpArgs false
theorem prints_fing {A : List AlD} {n : Nat} (h : n = A.length) : printsL A n = fingA A := fing_is A h
theorem sameM_refl' (l : List MkD) : sameM l l = true := by simp [sameM]
end Go.Proofs.YtpchncpcckfghaaGreat
namespace Go.Proofs.YtpchncpcckfghaaGreat
open Go.RowKit Go.Sort
set_option linter.unusedVariables false
set_option linter.unusedSimpArgs false
theorem SU.set1 {w0 W : World} {blk off : Nat} {d0 dk : Array Int} (h : SU w0 blk off dk W) (R : RU w0 blk off d0) {i : Nat} (hi : i < dk.size) (x : Int) : SU w0 blk off (dk.setIfInBounds i x) (W.setCell ⟨blk, off + i, none⟩ (.int .u64 x)) := by
  obtain ⟨n, os, rfl⟩ := h
  refine ⟨n, os, ?_⟩
  unfold sortWorld
  rw [← putRow_grow encU (Sort.ahead w0 n) os blk off dk R.hblk, show Value.int .u64 x = encU x from rfl, putRow_set _ _ _ _ _ _ _ hi, putRow_grow encU (Sort.ahead w0 n) os blk off _ R.hblk]
theorem SU.sets {w0 : World} {blk off : Nat} {d0 : Array Int} (R : RU w0 blk off d0) : ∀ (xs : List Int) {dk : Array Int} {W : World} (k : Nat), SU w0 blk off dk W → k + xs.length ≤ dk.size → SU w0 blk off (Lib.lay dk k xs) (W.setCells blk (off + k) (xs.map encU))
  | [], _, _, _, h, _ => h
  | x :: xs, dk, W, k, h, hk => by
    have hl : k + (xs.length + 1) ≤ dk.size := by simpa using hk
    have h1 := h.set1 R (i := k) (by omega) x
    have h2 := SU.sets R xs (k + 1) h1 (by simp; omega)
    simp only [List.map_cons, World.setCells, Lib.lay]
    exact h2
theorem lay_sz : ∀ (xs : List Int) (d : Array Int) (k : Nat), (Lib.lay d k xs).size = d.size
  | [], _, _ => rfl
  | x :: r, d, k => by rw [Lib.lay, lay_sz r]; simp
theorem u64_zero (w : World) : (zeroValue 36).run Tryz.prog w = .ok (.int .u64 0) w := by kernel_rfl
set_option maxRecDepth 100000 in
set_option maxHeartbeats 4000000 in
theorem ucompact_any (blk off cap : Nat) (d : Array Int) (w : World) (hb : blk < w.heap.size) (hH : Go.Sort.Holds encU w blk off d) (hsz : d.size ≤ 1000000) (hcap : d.size ≤ cap) (hcm : cap ≤ 9223372036854775807) :
    Calls Tryz.prog 46 #[.slice (some ⟨blk, off, none⟩) d.size cap] w fun e w' => e = .returned (.slice (some ⟨blk, off, none⟩) (Lib.compactUpTo d d.size).length cap) ∧ ∃ d', SU w blk off d' w' ∧ d'.size = d.size ∧ ∀ j, j < (Lib.compactUpTo d d.size).length → (Lib.compactUpTo d d.size)[j]? = d'[j]? := by
  have R : RU w blk off d := ⟨oneU, hH, hb⟩
  have HH := Lib.hid hH
  have RR := Lib.hid R
  have same : Hid (∀ q, (∀ j, j < d.size → Lib.keeps d j = true) → (Lib.compactUpTo d d.size).length = d.size ∧ ∃ d', SU w blk off d' (w.drewN q) ∧ d'.size = d.size ∧ ∀ j, j < (Lib.compactUpTo d d.size).length → (Lib.compactUpTo d d.size)[j]? = d'[j]?) := Lib.hid (fun q hall => by
    have e : Lib.compactUpTo d d.size = d.toList := by rw [Lib.compactUpTo_all d _ hall, Lib.range_map_get]
    rw [e]
    exact ⟨by simp, d, (SW.start HH.out).drewN q, rfl, fun j _ => by simp⟩)
  clear hH R hb
  by_cases h2 : d.size < 2
  · have h2z : (d.size : Int) < 2 := by omega
    go_enter Tryz.func46, Tryz.ntmps46
    go_wp2
    refine bodyPost_ret (results_tmp rfl _ _ _) rfl ?_
    obtain ⟨e1, e2⟩ := same.out 0 (fun j hj => Lib.keeps_lt_one d j (by omega))
    exact ⟨by rw [e1]; rfl, e2⟩
  · have h2z : ¬ (d.size : Int) < 2 := by omega
    go_enter Tryz.func46, Tryz.ntmps46
    go_wp2
    go_loopw [3] (fun x wr => ∃ k m : Nat, k + 1 ≤ d.size ∧ x = .int .i64 (k + 1 : Nat) ∧ wr = w.drewN m ∧ Hid (∀ j, j < k + 1 → Lib.keeps d j = true)) (fun x _ => d.size - (intOf x).toNat)
    case atStart => exact ⟨0, 0, by omega, rfl, rfl, Lib.hid (fun j hj => Lib.keeps_lt_one d j (by omega))⟩
    case round =>
      obtain ⟨k, m, hk, rfl, rfl, hall⟩ := hrel
      by_cases hlt : k + 1 < d.size
      · have hki : ((k + 1 : Nat) : Int) < (d.size : Int) := by omega
        have c1 : w.cell? ⟨blk, off + (k + 1), none⟩ = some (.int .u64 d[k + 1]!) := (HH.out (k + 1) hlt).1
        have c0 : w.cell? ⟨blk, off + k, none⟩ = some (.int .u64 d[k]!) := (HH.out k (by omega)).1
        have hkp : Hid (d[k + 1]! ≠ d[k]! → ∀ j, j < k + 2 → Lib.keeps d j = true) := Lib.hid (fun h j hj => by
          by_cases e : j = k + 1
          · subst e; exact Lib.keeps_pos (by simpa using h)
          · exact hall.out j (by omega))
        have hkn : Hid (d[k + 1]! = d[k]! → Lib.CompInv d (k + 2) (k + 1) d) := Lib.hid (fun h => Lib.CompInv.start hall.out (Lib.keeps_neg (by omega) (by simpa using h)))
        have S0 : Hid (SU w blk off d (w.drewN (m + 1))) := Lib.hid ((SW.start HH.out).drewN _)
        have hq1 : ((k + 1 : Nat) : Int) - 1 = (k : Int) := by omega
        generalize d[k + 1]! = y at *
        generalize d[k]! = x at *
        clear hall same
        by_cases hd : y = x
        · have hI := hkn.out hd
          subst hd
          clear hkn hkp
          have hdb : (y == y) = true := by simp
          go_wp2
          go_quiet (fail)
          clear c0 c1
          go_wp2
          have hI0 := Lib.hid hI
          clear hI
          go_loopw [3, 5] (fun x y wr => ∃ (kk k2 : Nat) (dk : Array Int), x = .int .i64 kk ∧ y = .int .i64 (k2 + 1 : Nat) ∧ k + 1 + (k2 + 1) ≤ d.size ∧ Hid (SU w blk off dk wr) ∧ Hid (Lib.CompInv d (k + 1 + (k2 + 1)) kk dk)) (fun _ y _ => d.size - (k + 1) - (intOf y).toNat)
          case atStart => exact ⟨k + 1, 0, d, by go_num, rfl, by omega, Lib.hid ((SW.start HH.out).drewN _), hI0⟩
          case round =>
            clear hI0 S0
            obtain ⟨kk, k2, dk, rfl, rfl, hle, HS, HI⟩ := hrel
            have hkk := HI.out.lt
            have hds := HI.out.size
            by_cases hlt2 : k + 1 + (k2 + 1) < d.size
            · have hki2 : ((k2 + 1 : Nat) : Int) < ((d.size - (k + 1) : Nat) : Int) := by omega
              have cm := HS.out.c1 RR.out hds (k + 1 + (k2 + 1)) (by omega)
              have cp := HS.out.c1 RR.out hds (k + 1 + k2) (by omega)
              have ck := HS.out.c1 RR.out hds kk (by omega)
              have fk := HS.out.f1 RR.out hds kk (by omega)
              rw [HI.out.high _ (by omega), show off + (k + 1 + (k2 + 1)) = off + (k + 1) + (k2 + 1) by omega] at cm
              rw [HI.out.high _ (by omega), show off + (k + 1 + k2) = off + (k + 1) + k2 by omega] at cp
              unfold encU at cm cp ck
              have hskip : Hid (d[k + 1 + (k2 + 1)]! = d[k + 1 + k2]! → Lib.CompInv d (k + 1 + (k2 + 2)) kk dk) := Lib.hid (fun h => HI.out.skip (Lib.keeps_neg (by omega) (by simpa using h)))
              have hkeep : Hid (d[k + 1 + (k2 + 1)]! ≠ d[k + 1 + k2]! → Lib.CompInv d (k + 1 + (k2 + 2)) (kk + 1) (dk.setIfInBounds kk d[k + 1 + (k2 + 1)]!)) := Lib.hid (fun h => HI.out.keep hlt2 (Lib.keeps_pos (by simpa using h)))
              have hset : Hid (∀ W x, SU w blk off dk W → SU w blk off (dk.setIfInBounds kk x) (W.setCell ⟨blk, off + kk, none⟩ (.int .u64 x))) := Lib.hid (fun W x h => h.set1 RR.out (by omega) x)
              generalize d[k + 1 + (k2 + 1)]! = u at *
              generalize d[k + 1 + k2]! = v at *
              generalize dk[kk]! = old at ck
              have hq2 : ((k2 + 1 : Nat) : Int) - 1 = (k2 : Int) := by omega
              clear HI
              by_cases huv : u = v
              · have hI2 := Lib.hid (hskip.out huv)
                subst huv
                have hdb2 : (u == u) = true := by simp
                clear hskip hkeep ck fk hset
                go_wp2
                go_quiet (fail)
                clear cm cp
                go_wp2
                go_roundw
                case rel => exact ⟨kk, k2 + 1, dk, rfl, by go_num, by omega, Lib.hid (HS.out.drewN _), hI2⟩
                case measure => simp [intOf]; omega
              · have hdb2 : (u == v) = false := by simpa using huv
                have hI2 := Lib.hid (hkeep.out huv)
                clear hskip hkeep
                have hkz : (kk : Int) < (d.size : Int) := by omega
                go_wp2
                go_quiet (fail)
                go_wp2
                go_roundw
                case rel => exact ⟨kk + 1, k2 + 1, dk.setIfInBounds kk u, by go_num, by go_num, by omega, Lib.hid (hset.out _ _ (HS.out.drewN _)), hI2⟩
                case measure => simp [intOf]; omega
            · have hki2 : ¬ ((k2 + 1 : Nat) : Int) < ((d.size - (k + 1) : Nat) : Int) := by omega
              have hend : k + 1 + (k2 + 1) = d.size := by omega
              have hIe := HI.out
              rw [hend] at hIe
              have hlen := Lib.hid hIe.len
              have hcl : ∀ ty, (Builtin.clear_ #[55] ty #[.slice (some ⟨blk, off + kk, none⟩) (d.size - kk) (cap - kk)]).run Tryz.prog wr = .ok (.tuple #[]) (wr.setCells blk (off + kk) (List.replicate (d.size - kk) (encU 0))) :=
                fun ty => Lib.run_clear_slice wr _ _ ty _ Tryz.underlying55 u64_zero rfl rfl blk (off + kk) _ _ (by omega) (fun j hj => by rw [show off + kk + j = off + (kk + j) by omega, HS.out.c1 RR.out hds (kk + j) (by omega)]; rfl) (fun j hj => by rw [show off + kk + j = off + (kk + j) by omega]; exact HS.out.f1 RR.out hds (kk + j) (by omega))
              have hS2 := SU.sets RR.out (List.replicate (d.size - kk) 0) kk HS.out (by simp; omega)
              rw [List.map_replicate] at hS2
              have HS2 := Lib.hid hS2
              have hlow : Hid (∀ j, j < kk → (Lib.compactUpTo d d.size)[j]? = (Lib.lay dk kk (List.replicate (d.size - kk) 0))[j]?) := Lib.hid (fun j hj => by
                have h1 := hIe.low j hj
                rw [h1, Lib.lay_get? _ _ _ _ (by simp; omega), if_neg (by omega), getElem!_pos dk j (by omega), Array.getElem?_eq_getElem])
              have hsz2 : Hid ((Lib.lay dk kk (List.replicate (d.size - kk) (0 : Int))).size = d.size) := Lib.hid (by rw [lay_sz]; exact hds)
              have hkz : (kk : Int) < (d.size : Int) := by omega
              have hkc : (kk : Int) ≤ (cap : Int) := by omega
              clear HI hIe hS2 HS
              go_wp2
              refine bodyPost_ret (results_tmp rfl _ _ _) rfl ?_
              exact ⟨by rw [hlen.out]; rfl, _, HS2.out, hsz2.out, fun j hj => hlow.out j (by rw [← hlen.out]; exact hj)⟩
        · have hdb : (y == x) = false := by simpa using hd
          have hA := Lib.hid (hkp.out hd)
          clear hkp hkn
          go_wp2
          go_quiet (fail)
          go_wp2
          go_roundw
          case rel => exact ⟨k + 1, m + nq, by omega, by go_num, by simp [World.drewN, Nat.add_assoc], hA⟩
          case measure => simp [intOf]; omega
      · have hki : ¬ ((k + 1 : Nat) : Int) < (d.size : Int) := by omega
        have hke : k + 1 = d.size := by omega
        go_wp2
        refine bodyPost_ret (results_tmp rfl _ _ _) rfl ?_
        obtain ⟨e1, e2⟩ := same.out m (by rw [← hke]; exact hall.out)
        exact ⟨by rw [e1]; rfl, e2⟩
end Go.Proofs.YtpchncpcckfghaaGreat
namespace Go.Proofs.YtpchncpcckfghaaGreat
open Go.RowKit Go.Sort
set_option linter.unusedVariables false
set_option linter.unusedSimpArgs false
theorem compact_up (d : Array Int) (hu : ∀ i j, i ≤ j → j < d.size → d[i]! ≤ d[j]!) : ∀ m, m ≤ d.size → (Lib.compactUpTo d m).Pairwise (· < ·) ∧ ∀ f, f ∈ Lib.compactUpTo d m ↔ ∃ j, j < m ∧ d[j]! = f
  | 0, _ => ⟨by simp [Lib.compactUpTo], fun f => by simp [Lib.compactUpTo]⟩
  | m + 1, hm => by
    obtain ⟨h1, h2⟩ := compact_up d hu m (by omega)
    rw [Lib.compactUpTo_succ]
    cases hk : Lib.keeps d m with
    | true =>
      rw [if_pos rfl]
      refine ⟨List.pairwise_append.2 ⟨h1, List.pairwise_singleton _ _, fun x hx y hy => ?_⟩, fun f => ?_⟩
      · obtain ⟨j, hj, rfl⟩ := (h2 x).1 hx
        rw [List.mem_singleton.1 hy]
        have e1 := hu j (m - 1) (by omega) (by omega)
        have e2 := hu (m - 1) m (by omega) (by omega)
        unfold Lib.keeps at hk
        rw [decide_eq_true_eq] at hk
        rcases hk with hk | hk <;> omega
      · rw [List.mem_append, h2, List.mem_singleton]
        constructor
        · rintro (⟨j, hj, e⟩ | e)
          · exact ⟨j, by omega, e⟩
          · exact ⟨m, by omega, e.symm⟩
        · rintro ⟨j, hj, e⟩
          by_cases hjm : j = m
          · subst hjm; exact .inr e.symm
          · exact .inl ⟨j, by omega, e⟩
    | false =>
      rw [if_neg (by simp), List.append_nil]
      refine ⟨h1, fun f => ?_⟩
      rw [h2]
      unfold Lib.keeps at hk
      rw [decide_eq_false_iff_not, not_or, Decidable.not_not] at hk
      constructor
      · rintro ⟨j, hj, e⟩
        exact ⟨j, by omega, e⟩
      · rintro ⟨j, hj, e⟩
        by_cases hjm : j = m
        · subst hjm
          exact ⟨j - 1, by omega, by rw [← hk.2]; exact e⟩
        · exact ⟨j, by omega, e⟩
theorem compact_len (l : List Int) : (Lib.compact l).length ≤ l.length := by
  unfold Lib.compact Lib.compactUpTo
  rw [List.length_map]
  exact Nat.le_trans (List.length_filter_le _ _) (by simp)
theorem compact_is {l : List Int} (hu : upL l) : (Lib.compact l).Pairwise (· < ·) ∧ ∀ f, f ∈ Lib.compact l ↔ f ∈ l := by
  have e : ∀ q, q < l.length → l.toArray[q]! = l.getD q 0 := fun q hq => by
    rw [getElem!_pos l.toArray q (by simpa using hq)]
    simp [List.getD, hq]
  obtain ⟨h1, h2⟩ := compact_up l.toArray (fun i j hij hj => by
    have hjl : j < l.length := by simpa using hj
    rw [e i (by omega), e j hjl]
    exact hu i j hij hjl) l.length (by simp)
  refine ⟨h1, fun f => ?_⟩
  unfold Lib.compact
  rw [h2]
  constructor
  · rintro ⟨j, hj, rfl⟩
    rw [e j hj]
    simp [List.getD, hj]
  · intro hf
    obtain ⟨j, hj, rfl⟩ := List.mem_iff_getElem.1 hf
    exact ⟨j, hj, by rw [e j hj]; simp [List.getD, hj]⟩
def CompE (base : Nat) (w : World) (l : List Int) (e : Ending) (w' : World) : Prop := ∃ a c, e = .returned (.slice a (Lib.compact l).length c) ∧ Sees .u64 w'.heap.size w' a (Lib.compact l) ∧ Below base w w'
theorem ucomp_own (base n : Nat) (v : Value) (l : List Int) (hn : n = l.length) (hm : n ≤ 1000000) (w : World) (ho : w.ownsRow base 36 1 v n (nums .u64 l)) :
    Calls Tryz.prog 46 #[v] w (CompE base w l) := by
  obtain ⟨hl, hr⟩ := ho
  rcases hr with ⟨rfl, h0⟩ | ⟨g, cap, cur, rfl, hbg, hgg, hnc, hcm, hcs, htake⟩
  · subst h0
    have hl0 : l = [] := List.eq_nil_of_length_eq_zero hn.symm
    subst hl0
    exact (compact_none w none 0 0 [] rfl (by omega) (fun i hi => by omega) (.inl rfl)).mono fun e w' ⟨he, m, hw⟩ => ⟨none, 0, he, .inl rfl, by rw [hw]; exact Below.drewN (Below.refl _ _) m⟩
  · rw [Nat.mul_one] at htake
    have ht2 : cur.toList.take l.length = l.map encU := by rw [← hn]; exact htake
    have hH := su_holds hgg ht2
    have hgl : g < w.heap.size := (Array.getElem?_eq_some_iff.1 hgg).1
    have q := ucompact_any g 0 cap l.toArray w hgl hH (by rw [List.size_toArray]; omega) (by rw [List.size_toArray]; omega) (by unfold maxLen at hcm; omega)
    rw [show l.toArray.size = n by simp [hn]] at q
    refine q.mono fun e w' ⟨he, d', hS, hd, hc⟩ => ?_
    obtain ⟨k1, k2⟩ := su_heap hgg hS
    rw [hn] at he hc
    refine ⟨some ⟨g, 0, none⟩, cap, he, .inr ⟨g, 0, rfl, (Array.getElem?_eq_some_iff.1 k1).1, fun i hi => ?_⟩, (Below.refl _ _).grown k2 (by omega) (fun k hk => by injection hk with hk; omega)⟩
    have hi2 := compact_len l
    have hcur : i < cur.size := by omega
    have h3 := hc i hi
    have hid : i < d'.size := by rw [hd]; omega
    have e1 : (Lib.compact l)[i]? = some d'[i]! := by
      show (Lib.compactUpTo l.toArray l.length)[i]? = _
      rw [h3, getElem!_pos d' i hid]
      simp [hid]
    rw [Nat.zero_add]
    show w'.cell? ⟨g, i, none⟩ = _
    simp only [World.cell?, k1]
    have e2 : (putCells encU 0 d' cur)[i]? = some (encU d'[i]!) := by
      simp [putCells, hid, hcur]
    simp only [Option.isSome_none, Bool.false_eq_true, if_false]
    rw [e2, show (Lib.compact l).getD i 0 = d'[i]! by simp [List.getD, e1]]
    rfl
end Go.Proofs.YtpchncpcckfghaaGreat
