/-
  Words and walks under the law's proof.
-/
import Derived.Sort.WalkC4
import Derived.Sort.WalkA6
import Derived.Test.YtpchncpcckfghaaGreatQM07
namespace Go.Proofs.YtpchncpcckfghaaGreat
open Go.RowKit Go.Sort
set_option linter.unusedVariables false
set_option linter.unusedSimpArgs false
def BU (w0 : World) (blk off : Nat) (dk : Array Int) (g R : Nat) (W : World) : Prop := SU w0 blk off dk W ∧ W.cell? ⟨g, 0, none⟩ = some (.int .u64 R) ∧ W.frozen? ⟨g, 0, none⟩ = false ∧ w0.heap.size ≤ g ∧ g < W.heap.size
theorem BU.start {w0 W : World} {blk off : Nat} {dk : Array Int} (h : SU w0 blk off dk W) (T : TypeId) (R : Nat) : BU w0 blk off dk W.heap.size R (W.alloc (.cells #[.int .u64 R] T)) := ⟨h.alloc _, by simp, by simp, h.le, by simp⟩
theorem BU.drewN {w0 W : World} {blk off g R : Nat} {dk : Array Int} (h : BU w0 blk off dk g R W) (n : Nat) : BU w0 blk off dk g R (W.drewN n) := ⟨h.1.drewN n, h.2.1, h.2.2.1, h.2.2.2.1, h.2.2.2.2⟩
theorem BU.put {w0 W : World} {blk off g R : Nat} {dk : Array Int} (h : BU w0 blk off dk g R W) (Y : Nat) : BU w0 blk off dk g Y (W.setCell ⟨g, 0, none⟩ (.int .u64 Y)) :=
  ⟨h.1.setCell_new g 0 _ h.2.2.2.1, World.cell?_setCell_same' _ _ _ (by rw [h.2.1]; rfl), by rw [World.frozen?_setCell]; exact h.2.2.1, h.2.2.2.1, by simpa using h.2.2.2.2⟩
theorem BU.swp {w0 W : World} {blk off g R : Nat} {d0 dk : Array Int} (h : BU w0 blk off dk g R W) (RR : RU w0 blk off d0) (q : Nat) {G : Nat → Int} (hG : ∀ t, G t = dk[t]!) {i j : Nat} (hi : i < dk.size) (hj : j < dk.size) :
    BU w0 blk off (swp dk i j) g R (((W.drewN q).setCell ⟨blk, off + i, none⟩ (.int .u64 (G j))).setCell ⟨blk, off + j, none⟩ (.int .u64 (G i))) := by
  have hne : g ≠ blk := by have := h.2.2.2.1; have := RR.hblk; omega
  have hn := box_kept_swap1 (W := W.drewN q) (blk := blk) hne h.2.1 h.2.2.1 (off + i) (off + j) (.int .u64 (G j)) (.int .u64 (G i))
  exact ⟨h.1.swp RR q hG hi hj, hn.1, hn.2, h.2.2.2.1, by simpa using h.2.2.2.2⟩
theorem BU.cells {w0 W : World} {blk off g R : Nat} {d0 dk : Array Int} (h : BU w0 blk off dk g R W) (RR : RU w0 blk off d0) (hs : dk.size = d0.size) (G : Nat → Int) (hG : ∀ t, G t = dk[t]!) {n : Nat} (hn : dk.size = n) :
    (∀ t, t < n → W.cell? ⟨blk, off + t, none⟩ = some (.int .u64 (G t))) ∧ ∀ t, t < n → W.frozen? ⟨blk, off + t, none⟩ = false := h.1.cells RR hs G hG hn
set_option maxRecDepth 1000000 in
set_option maxHeartbeats 1600000 in
theorem ubreak_any (blk off cap a L : Nat) (d0 d : Array Int) (w0 w : World) (R : RU w0 blk off d0) (hs : d.size = d0.size) (S : SU w0 blk off d w) (hb : a + L ≤ d.size) (hsz : d.size ≤ 1000000) (h8 : 8 ≤ L) :
    Calls Tryz.prog 83 #[.slice (some ⟨blk, off, none⟩) d.size cap, .int .i64 a, .int .i64 ((a + L : Nat) : Int)] w fun e w' => e = .returned (.tuple #[]) ∧ ∃ d', PermIn a (a + L) d d' ∧ SU w0 blk off d' w' := by
  have S0 := Lib.hid S
  have RR := Lib.hid R
  have HS := Lib.hid hs
  have HB := Lib.hid (fun T => BU.start S T L)
  have hP := unpow_any L (by omega)
  clear S R hs
  go_enter Tryz.func83, Tryz.ntmps83
  go_wp2_with (first | (go_at_call 107; rw [show ((a : Int) + (L : Int) - (a : Int)) = (L : Int) by omega]; refine (hP _).mono ?_; rintro e w' ⟨M, rfl, hM1, hM2, rfl⟩))
  have hMz : (M : Int) ≤ 2000000 := by omega
  have hM1z : (L : Int) < (M : Int) := by omega
  have hM2' : M ≤ 2 * L := hM2 (by omega)
  have hA : ∀ Y : Nat, Y < 18446744073709551616 → ∃ O : Nat, O ≤ M - 1 ∧ bits .and .u64 (Y : Int) ((M : Int) - 1) = (O : Int) := fun Y hY => ⟨Y &&& (M - 1), Nat.and_le_right, by rw [show ((M : Int) - 1) = ((M - 1 : Nat) : Int) by omega, bits_and_u64_nat _ _ hY (by omega)]⟩
  generalize w.heap.size = g at HB ⊢
  go_loopw [9] (fun vi wr => ∃ (t r : Nat) (dk : Array Int), vi = .int .i64 ((a + L / 4 * 2 - 1 + t : Nat) : Int) ∧ t ≤ 3 ∧ r < 18446744073709551616 ∧ Hid (PermIn a (a + L) d dk) ∧ Hid (BU w0 blk off dk g r wr)) (fun vi _ => a + L / 4 * 2 + 3 - (intOf vi).toNat)
  case atStart => exact ⟨0, L, d, by congr 1; omega, by omega, by omega, Lib.hid (permIn_refl _ _ _), Lib.hid (HB.out _)⟩
  case round =>
    clear HB S0
    obtain ⟨t, r, dk, rfl, ht, hr, HP, HK⟩ := hrel
    have hsk : dk.size = d.size := HP.out.1
    obtain ⟨G, hG⟩ : ∃ G : Nat → Int, ∀ x, G x = dk[x]! := ⟨fun x => dk[x]!, fun _ => rfl⟩
    have HG := Lib.hid hG
    have hN := unext_any g r hr wr HK.out.2.1 HK.out.2.2.1
    clear hG
    go_wp2_with (first | (go_at_call 108; refine hN.mono ?_; rintro e W2 ⟨Y, rfl, hY, hW2⟩; obtain ⟨O, hO, eAnd⟩ := hA Y hY; have HK2 : Hid (BU w0 blk off dk g Y W2) := Lib.hid (by rw [hW2]; exact (HK.out.put Y).drewN 3); obtain ⟨hcw, hfw⟩ := HK2.out.cells RR.out (by have := HS.out; omega) G HG.out hsk; clear hW2 hN))
    · have hLO : L ≤ O := by omega
      by_cases hEq : a + L / 4 * 2 - 1 + t = a + (O - L)
      all_goals
        go_region
        all_goals go_wp2
        go_roundw
        case rel => exact ⟨t + 1, Y, swp dk (a + L / 4 * 2 - 1 + t) (a + (O - L)), by first | rfl | (congr 1 <;> omega), by omega, hY, Lib.hid (permIn_trans _ _ _ _ _ HP.out (swp_permIn dk a (a + L) _ _ (by omega) (by omega) (by omega) (by omega) (by omega))), Lib.hid (by (try rw [hEq]); exact HK2.out.swp RR.out _ HG.out (by omega) (by omega))⟩
        case measure => simp [intOf]; omega
    · have hLO : ¬ L ≤ O := by omega
      by_cases hEq : a + L / 4 * 2 - 1 + t = a + O
      all_goals
        go_region
        all_goals go_wp2
        go_roundw
        case rel => exact ⟨t + 1, Y, swp dk (a + L / 4 * 2 - 1 + t) (a + O), by first | rfl | (congr 1 <;> omega), by omega, hY, Lib.hid (permIn_trans _ _ _ _ _ HP.out (swp_permIn dk a (a + L) _ _ (by omega) (by omega) (by omega) (by omega) (by omega))), Lib.hid (by (try rw [hEq]); exact HK2.out.swp RR.out _ HG.out (by omega) (by omega))⟩
        case measure => simp [intOf]; omega
    · obtain rfl : t = 3 := by omega
      go_end0
      exact ⟨rfl, dk, HP.out, HK.out.1⟩
end Go.Proofs.YtpchncpcckfghaaGreat
namespace Go.Proofs.YtpchncpcckfghaaGreat
open Go.RowKit Go.Sort
set_option linter.unusedVariables false
set_option linter.unusedSimpArgs false
set_option maxRecDepth 1000000 in
set_option maxHeartbeats 16000000 in
theorem upart_any (blk off cap a b pv : Nat) (d0 d : Array Int) (w0 w : World) (R : RU w0 blk off d0) (hs : d.size = d0.size) (S : SU w0 blk off d w) (hap : a ≤ pv) (hpb : pv < b) (hb : b ≤ d.size) (hsz : d.size ≤ 1000000) :
    Calls Tryz.prog 88 #[.slice (some ⟨blk, off, none⟩) d.size cap, .int .i64 a, .int .i64 b, .int .i64 pv] w fun e w' => ∃ (m : Nat) (c : Bool) (dk : Array Int), Sort.partition ltInt d a b pv = (m, c, dk) ∧ e = .returned (.tuple #[.int .i64 m, .bool c]) ∧ SU w0 blk off dk w' := by
  have S0 := Lib.hid S
  have RR := Lib.hid R
  have HS := Lib.hid hs
  obtain ⟨G, hG⟩ : ∃ G : Nat → Int, ∀ t, G t = d[t]! := ⟨fun t => d[t]!, fun _ => rfl⟩
  obtain ⟨hcw, hfw⟩ := S.cells R hs G hG rfl
  obtain ⟨u0, hu0⟩ := S.c2 R hs a pv (by omega) (by omega) (.int .u64 (G pv))
  have HG := Lib.hid hG
  clear S R hs hG
  go_enter Tryz.func88, Tryz.ntmps88
  go_wp2
  go_region
  all_goals go_wp2
  have S1 := Lib.hid (S0.out.swp RR.out 1 HG.out (i := a) (j := pv) (by omega) (by omega))
  clear hcw hfw hu0 S0 HG
  obtain ⟨dk, hdk⟩ : ∃ dk, dk = swp d a pv := ⟨_, rfl⟩
  have hsk : dk.size = d.size := by rw [hdk, size_swp]
  rw [← hdk] at S1
  have HDK := Lib.hid hdk
  rw [show ((a : Int) + 1) = ((a + 1 : Nat) : Int) by omega, show ((b : Int) - 1) = ((b - 1 : Nat) : Int) by omega]
  obtain ⟨i, hi⟩ : ∃ i, i = a + 1 := ⟨_, rfl⟩
  obtain ⟨j, hj⟩ : ∃ j, j = b - 1 := ⟨_, rfl⟩
  rw [← hi, ← hj]
  have hai : a < i := by omega
  have hij : i ≤ j + 1 := by omega
  have hjb : j < b := by omega
  have HI1 := Lib.hid hi
  have HJ1 := Lib.hid hj
  have SK := S1
  clear hi hj hdk S1
  obtain ⟨G, hG⟩ : ∃ G : Nat → Int, ∀ t, G t = dk[t]! := ⟨fun t => dk[t]!, fun _ => rfl⟩
  have HG := Lib.hid hG
  clear hG
  go_loopw [10] (fun vi wr2 => ∃ (i2 : Nat), vi = .int .i64 i2 ∧ i ≤ i2 ∧ i2 ≤ j + 1 ∧ Hid (SU w0 blk off dk wr2) ∧ Hid (scanUp (fun x => ltInt x dk[a]!) dk j i2 = scanUp (fun x => ltInt x dk[a]!) dk j i)) (fun vi _ => j + 1 - (intOf vi).toNat)
  case atStart => exact ⟨i, rfl, Nat.le_refl _, hij, SK, Lib.hid rfl⟩
  case round =>
    clear SK
    obtain ⟨i2, rfl, hii, hi2j, SI, HI⟩ := hrel
    obtain ⟨hcw, hfw⟩ := SI.out.cells RR.out (by have := HS.out; omega) G HG.out hsk
    by_cases hle : i2 ≤ j
    · go_wp2
      go_quiet (first | (go_at_call 60; exact quiet_mine (uless_any _ _ _)))
      go_wp2
      · have ht : G i2 < G a := by assumption
        go_roundw
        case rel => exact ⟨i2 + 1, by go_num, by omega, by omega, Lib.hid (SI.out.drewN nq), Lib.hid ((scanUp_go (fun x => ltInt x dk[a]!) dk j i2 hle (by simp only [← HG.out, ltInt]; first | exact ht | (simp; omega))).symm.trans HI.out)⟩
        case measure => simp [intOf]; omega
      · have ht : G a ≤ G i2 := by assumption
        have HI2 : Hid (i2 = scanUp (fun x => ltInt x dk[a]!) dk j i) := Lib.hid ((scanUp_end (fun x => ltInt x dk[a]!) dk j i2 (Or.inr (by simp only [← HG.out, ltInt]; first | exact ht | (simp; omega)))).symm.trans HI.out)
        have SK2 := Lib.hid (SI.out.drewN nq)
        clear hcw hfw SI HI ht
        go_loopw [11] (fun vj wr3 => ∃ (j2 : Nat), vj = .int .i64 j2 ∧ j2 ≤ j ∧ i2 ≤ j2 + 1 ∧ Hid (SU w0 blk off dk wr3) ∧ Hid (scanDown (fun x => !ltInt x dk[a]!) dk i2 j2 = scanDown (fun x => !ltInt x dk[a]!) dk i2 j)) (fun vj _ => (intOf vj).toNat)
        case atStart => exact ⟨j, rfl, Nat.le_refl _, hi2j, SK2, Lib.hid rfl⟩
        case round =>
          clear SK2
          obtain ⟨j2, rfl, hjj, hij2, SI, HJ⟩ := hrel
          obtain ⟨hcw, hfw⟩ := SI.out.cells RR.out (by have := HS.out; omega) G HG.out hsk
          by_cases hle2 : i2 ≤ j2
          · go_wp2
            go_quiet (first | (go_at_call 60; exact quiet_mine (uless_any _ _ _)))
            go_wp2
            · have ht : (!decide (G j2 < G a)) = true := by assumption
              go_roundw
              case rel => exact ⟨j2 - 1, by go_num, by omega, by omega, Lib.hid (SI.out.drewN nq), Lib.hid ((scanDown_go (fun x => !ltInt x dk[a]!) dk i2 j2 hle2 (by omega) (by simp only [← HG.out, ltInt]; first | exact ht | (simp; omega))).symm.trans HJ.out)⟩
              case measure => simp [intOf]; omega
            · have ht : (!decide (G j2 < G a)) = false := by assumption
              have HJ2 : Hid (j2 = scanDown (fun x => !ltInt x dk[a]!) dk i2 j) := Lib.hid ((scanDown_end (fun x => !ltInt x dk[a]!) dk i2 j2 (Or.inr (by simp only [← HG.out, ltInt]; first | exact ht | (simp; omega)))).symm.trans HJ.out)
              clear HJ ht
              have SK3 : Hid (SU w0 blk off dk (wr.drewN nq)) := Lib.hid (SI.out.drewN nq)
              clear hcw hfw SI
              generalize wr.drewN nq = W3 at SK3 ⊢
              obtain ⟨hcw, hfw⟩ := SK3.out.cells RR.out (by have := HS.out; omega) G HG.out hsk
              have hlt3 := part_scans_lt ltInt a i j dk (by omega) HI2.out HJ2.out hle2
              obtain ⟨R0, hR⟩ : ∃ R0, R0 = partLoop ltInt a (i2 + 1) (j2 - 1) (swp dk i2 j2) := ⟨_, rfl⟩
              have HP : Hid (Sort.partition ltInt d a b pv = (R0.1, false, swp R0.2 R0.1 a)) := Lib.hid (by rw [hR]; exact part_first_go ltInt d a b pv HI1.out HJ1.out HDK.out HI2.out HJ2.out (by omega))
              have HR := Lib.hid hR
              clear hR
              go_wp2
              go_region
              all_goals go_wp2
              have S4 := Lib.hid (SK3.out.swp RR.out 1 HG.out (i := i2) (j := j2) (by omega) (by omega))
              clear hcw hfw SK3
              go_loopw [10, 11] (fun vi vj wr => ∃ (i j : Nat) (dk : Array Int), vi = .int .i64 i ∧ vj = .int .i64 j ∧ a < i ∧ i ≤ j + 1 ∧ j < b ∧ dk.size = d.size ∧ Hid (SU w0 blk off dk wr) ∧ Hid (partLoop ltInt a i j dk = R0)) (fun vi vj _ => (intOf vj).toNat + 1 - (intOf vi).toNat)
              case atStart => exact ⟨i2 + 1, j2 - 1, swp dk i2 j2, by go_num, by go_num, by omega, by omega, by omega, by rw [size_swp]; exact hsk, S4, Lib.hid HR.out.symm⟩
              case round =>
                clear S4 HG HR HI2 HJ2 HI1 HJ1 HDK hlt3 hle hle2 hij2 hi2j hii hjj hai hij hjb hsk
                obtain ⟨i, j, dk, rfl, rfl, hai, hij, hjb, hsk, SK, HE⟩ := hrel
                obtain ⟨G, hG⟩ : ∃ G : Nat → Int, ∀ t, G t = dk[t]! := ⟨fun t => dk[t]!, fun _ => rfl⟩
                have HG := Lib.hid hG
                clear hG
                go_wp2
                go_loopw [10] (fun vi wr2 => ∃ (i2 : Nat), vi = .int .i64 i2 ∧ i ≤ i2 ∧ i2 ≤ j + 1 ∧ Hid (SU w0 blk off dk wr2) ∧ Hid (scanUp (fun x => ltInt x dk[a]!) dk j i2 = scanUp (fun x => ltInt x dk[a]!) dk j i)) (fun vi _ => j + 1 - (intOf vi).toNat)
                case atStart => exact ⟨i, rfl, Nat.le_refl _, hij, SK, Lib.hid rfl⟩
                case round =>
                  clear SK
                  obtain ⟨i2, rfl, hii, hi2j, SI, HI⟩ := hrel
                  obtain ⟨hcw, hfw⟩ := SI.out.cells RR.out (by have := HS.out; omega) G HG.out hsk
                  by_cases hle : i2 ≤ j
                  · go_wp2
                    go_quiet (first | (go_at_call 60; exact quiet_mine (uless_any _ _ _)))
                    go_wp2
                    · have ht : G i2 < G a := by assumption
                      go_roundw
                      case rel => exact ⟨i2 + 1, by go_num, by omega, by omega, Lib.hid (SI.out.drewN nq), Lib.hid ((scanUp_go (fun x => ltInt x dk[a]!) dk j i2 hle (by simp only [← HG.out, ltInt]; first | exact ht | (simp; omega))).symm.trans HI.out)⟩
                      case measure => simp [intOf]; omega
                    · have ht : G a ≤ G i2 := by assumption
                      have HI2 : Hid (i2 = scanUp (fun x => ltInt x dk[a]!) dk j i) := Lib.hid ((scanUp_end (fun x => ltInt x dk[a]!) dk j i2 (Or.inr (by simp only [← HG.out, ltInt]; first | exact ht | (simp; omega)))).symm.trans HI.out)
                      have SK2 := Lib.hid (SI.out.drewN nq)
                      clear hcw hfw SI HI ht
                      go_loopw [11] (fun vj wr3 => ∃ (j2 : Nat), vj = .int .i64 j2 ∧ j2 ≤ j ∧ i2 ≤ j2 + 1 ∧ Hid (SU w0 blk off dk wr3) ∧ Hid (scanDown (fun x => !ltInt x dk[a]!) dk i2 j2 = scanDown (fun x => !ltInt x dk[a]!) dk i2 j)) (fun vj _ => (intOf vj).toNat)
                      case atStart => exact ⟨j, rfl, Nat.le_refl _, hi2j, SK2, Lib.hid rfl⟩
                      case round =>
                        clear SK2
                        obtain ⟨j2, rfl, hjj, hij2, SI, HJ⟩ := hrel
                        obtain ⟨hcw, hfw⟩ := SI.out.cells RR.out (by have := HS.out; omega) G HG.out hsk
                        by_cases hle2 : i2 ≤ j2
                        · go_wp2
                          go_quiet (first | (go_at_call 60; exact quiet_mine (uless_any _ _ _)))
                          go_wp2
                          · have ht : (!decide (G j2 < G a)) = true := by assumption
                            go_roundw
                            case rel => exact ⟨j2 - 1, by go_num, by omega, by omega, Lib.hid (SI.out.drewN nq), Lib.hid ((scanDown_go (fun x => !ltInt x dk[a]!) dk i2 j2 hle2 (by omega) (by simp only [← HG.out, ltInt]; first | exact ht | (simp; omega))).symm.trans HJ.out)⟩
                            case measure => simp [intOf]; omega
                          · have ht : (!decide (G j2 < G a)) = false := by assumption
                            have HJ2 : Hid (j2 = scanDown (fun x => !ltInt x dk[a]!) dk i2 j) := Lib.hid ((scanDown_end (fun x => !ltInt x dk[a]!) dk i2 j2 (Or.inr (by simp only [← HG.out, ltInt]; first | exact ht | (simp; omega)))).symm.trans HJ.out)
                            clear HJ ht
                            have SK3 : Hid (SU w0 blk off dk (wr.drewN nq)) := Lib.hid (SI.out.drewN nq)
                            clear hcw hfw SI
                            generalize wr.drewN nq = W3 at SK3 ⊢
                            obtain ⟨hcw, hfw⟩ := SK3.out.cells RR.out (by have := HS.out; omega) G HG.out hsk
                            have hlt3 := part_scans_lt ltInt a i j dk (by omega) HI2.out HJ2.out hle2
                            go_wp2
                            go_region
                            all_goals go_wp2
                            go_roundw
                            case rel => exact ⟨i2 + 1, j2 - 1, swp dk i2 j2, by go_num, by go_num, by omega, by omega, by omega, by rw [size_swp]; exact hsk, Lib.hid (SK3.out.swp RR.out _ HG.out (by omega) (by omega)), Lib.hid ((part_go ltInt a i j dk HI2.out HJ2.out (by omega)).symm.trans HE.out)⟩
                            case measure => simp [intOf]; omega
                        · go_wp2
                          go_quiet (fail)
                          go_wp2
                          have HJ2 : Hid (j2 = scanDown (fun x => !ltInt x dk[a]!) dk i2 j) := Lib.hid ((scanDown_end (fun x => !ltInt x dk[a]!) dk i2 j2 (Or.inl hle2)).symm.trans HJ.out)
                          clear HJ
                          have SK3 : Hid (SU w0 blk off dk (wr.drewN nq)) := Lib.hid (SI.out.drewN nq)
                          clear hcw hfw SI
                          generalize wr.drewN nq = W3 at SK3 ⊢
                          obtain ⟨hcw, hfw⟩ := SK3.out.cells RR.out (by have := HS.out; omega) G HG.out hsk
                          obtain ⟨u1, hu1⟩ := SK3.out.c2 RR.out (by have := HS.out; omega) j2 a (by omega) (by omega) (.int .u64 (G a))
                          go_wp2
                          go_region
                          all_goals go_wp2
                          exact bodyPost_ret (results_tmp2 rfl _ _ _) rfl ⟨j2, false, swp dk j2 a, by rw [HP.out, ← HE.out, part_break ltInt a i j dk HI2.out HJ2.out (by omega)], rfl, SK3.out.swp RR.out _ HG.out (by omega) (by omega)⟩
                  · go_wp2
                    go_quiet (fail)
                    go_wp2
                    have HI2 : Hid (i2 = scanUp (fun x => ltInt x dk[a]!) dk j i) := Lib.hid ((scanUp_end (fun x => ltInt x dk[a]!) dk j i2 (Or.inl hle)).symm.trans HI.out)
                    have SK2 := Lib.hid (SI.out.drewN nq)
                    clear hcw hfw SI HI
                    go_loopw [11] (fun vj wr3 => ∃ (j2 : Nat), vj = .int .i64 j2 ∧ j2 ≤ j ∧ i2 ≤ j2 + 1 ∧ Hid (SU w0 blk off dk wr3) ∧ Hid (scanDown (fun x => !ltInt x dk[a]!) dk i2 j2 = scanDown (fun x => !ltInt x dk[a]!) dk i2 j)) (fun vj _ => (intOf vj).toNat)
                    case atStart => exact ⟨j, rfl, Nat.le_refl _, hi2j, SK2, Lib.hid rfl⟩
                    case round =>
                      clear SK2
                      obtain ⟨j2, rfl, hjj, hij2, SI, HJ⟩ := hrel
                      obtain ⟨hcw, hfw⟩ := SI.out.cells RR.out (by have := HS.out; omega) G HG.out hsk
                      by_cases hle2 : i2 ≤ j2
                      · exfalso; omega
                      · go_wp2
                        go_quiet (fail)
                        go_wp2
                        have HJ2 : Hid (j2 = scanDown (fun x => !ltInt x dk[a]!) dk i2 j) := Lib.hid ((scanDown_end (fun x => !ltInt x dk[a]!) dk i2 j2 (Or.inl hle2)).symm.trans HJ.out)
                        clear HJ
                        have SK3 : Hid (SU w0 blk off dk (wr.drewN nq)) := Lib.hid (SI.out.drewN nq)
                        clear hcw hfw SI
                        generalize wr.drewN nq = W3 at SK3 ⊢
                        obtain ⟨hcw, hfw⟩ := SK3.out.cells RR.out (by have := HS.out; omega) G HG.out hsk
                        obtain ⟨u1, hu1⟩ := SK3.out.c2 RR.out (by have := HS.out; omega) j2 a (by omega) (by omega) (.int .u64 (G a))
                        go_wp2
                        go_region
                        all_goals go_wp2
                        exact bodyPost_ret (results_tmp2 rfl _ _ _) rfl ⟨j2, false, swp dk j2 a, by rw [HP.out, ← HE.out, part_break ltInt a i j dk HI2.out HJ2.out (by omega)], rfl, SK3.out.swp RR.out _ HG.out (by omega) (by omega)⟩
          · go_wp2
            go_quiet (fail)
            go_wp2
            have HJ2 : Hid (j2 = scanDown (fun x => !ltInt x dk[a]!) dk i2 j) := Lib.hid ((scanDown_end (fun x => !ltInt x dk[a]!) dk i2 j2 (Or.inl hle2)).symm.trans HJ.out)
            clear HJ
            have SK3 : Hid (SU w0 blk off dk (wr.drewN nq)) := Lib.hid (SI.out.drewN nq)
            clear hcw hfw SI
            generalize wr.drewN nq = W3 at SK3 ⊢
            obtain ⟨hcw, hfw⟩ := SK3.out.cells RR.out (by have := HS.out; omega) G HG.out hsk
            obtain ⟨u1, hu1⟩ := SK3.out.c2 RR.out (by have := HS.out; omega) j2 a (by omega) (by omega) (.int .u64 (G a))
            go_wp2
            go_region
            all_goals go_wp2
            exact bodyPost_ret (results_tmp2 rfl _ _ _) rfl ⟨j2, true, swp dk j2 a, part_first_break ltInt d a b pv HI1.out HJ1.out HDK.out HI2.out HJ2.out (by omega), rfl, SK3.out.swp RR.out _ HG.out (by omega) (by omega)⟩
    · go_wp2
      go_quiet (fail)
      go_wp2
      have HI2 : Hid (i2 = scanUp (fun x => ltInt x dk[a]!) dk j i) := Lib.hid ((scanUp_end (fun x => ltInt x dk[a]!) dk j i2 (Or.inl hle)).symm.trans HI.out)
      have SK2 := Lib.hid (SI.out.drewN nq)
      clear hcw hfw SI HI
      go_loopw [11] (fun vj wr3 => ∃ (j2 : Nat), vj = .int .i64 j2 ∧ j2 ≤ j ∧ i2 ≤ j2 + 1 ∧ Hid (SU w0 blk off dk wr3) ∧ Hid (scanDown (fun x => !ltInt x dk[a]!) dk i2 j2 = scanDown (fun x => !ltInt x dk[a]!) dk i2 j)) (fun vj _ => (intOf vj).toNat)
      case atStart => exact ⟨j, rfl, Nat.le_refl _, hi2j, SK2, Lib.hid rfl⟩
      case round =>
        clear SK2
        obtain ⟨j2, rfl, hjj, hij2, SI, HJ⟩ := hrel
        obtain ⟨hcw, hfw⟩ := SI.out.cells RR.out (by have := HS.out; omega) G HG.out hsk
        by_cases hle2 : i2 ≤ j2
        · exfalso; omega
        · go_wp2
          go_quiet (fail)
          go_wp2
          have HJ2 : Hid (j2 = scanDown (fun x => !ltInt x dk[a]!) dk i2 j) := Lib.hid ((scanDown_end (fun x => !ltInt x dk[a]!) dk i2 j2 (Or.inl hle2)).symm.trans HJ.out)
          clear HJ
          have SK3 : Hid (SU w0 blk off dk (wr.drewN nq)) := Lib.hid (SI.out.drewN nq)
          clear hcw hfw SI
          generalize wr.drewN nq = W3 at SK3 ⊢
          obtain ⟨hcw, hfw⟩ := SK3.out.cells RR.out (by have := HS.out; omega) G HG.out hsk
          obtain ⟨u1, hu1⟩ := SK3.out.c2 RR.out (by have := HS.out; omega) j2 a (by omega) (by omega) (.int .u64 (G a))
          go_wp2
          go_region
          all_goals go_wp2
          exact bodyPost_ret (results_tmp2 rfl _ _ _) rfl ⟨j2, true, swp dk j2 a, part_first_break ltInt d a b pv HI1.out HJ1.out HDK.out HI2.out HJ2.out (by omega), rfl, SK3.out.swp RR.out _ HG.out (by omega) (by omega)⟩
end Go.Proofs.YtpchncpcckfghaaGreat
namespace Go.Proofs.YtpchncpcckfghaaGreat
open Go.RowKit Go.Sort
set_option linter.unusedVariables false
set_option linter.unusedSimpArgs false
set_option maxRecDepth 1000000 in
set_option maxHeartbeats 16000000 in
theorem upartEq_any (blk off cap a b pv : Nat) (d0 d : Array Int) (w0 w : World) (R : RU w0 blk off d0) (hs : d.size = d0.size) (S : SU w0 blk off d w) (hap : a ≤ pv) (hpb : pv < b) (hb : b ≤ d.size) (hsz : d.size ≤ 1000000) :
    Calls Tryz.prog 87 #[.slice (some ⟨blk, off, none⟩) d.size cap, .int .i64 a, .int .i64 b, .int .i64 pv] w fun e w' => ∃ (m : Nat) (dk : Array Int), partitionEqual ltInt d a b pv = (m, dk) ∧ e = .returned (.int .i64 m) ∧ SU w0 blk off dk w' := by
  have S0 := Lib.hid S
  have RR := Lib.hid R
  have HS := Lib.hid hs
  obtain ⟨G, hG⟩ : ∃ G : Nat → Int, ∀ t, G t = d[t]! := ⟨fun t => d[t]!, fun _ => rfl⟩
  obtain ⟨hcw, hfw⟩ := S.cells R hs G hG rfl
  obtain ⟨u0, hu0⟩ := S.c2 R hs a pv (by omega) (by omega) (.int .u64 (G pv))
  have HG := Lib.hid hG
  clear S R hs hG
  go_enter Tryz.func87, Tryz.ntmps87
  go_wp2
  go_region
  all_goals go_wp2
  have S1 := Lib.hid (S0.out.swp RR.out 1 HG.out (i := a) (j := pv) (by omega) (by omega))
  clear hcw hfw hu0 S0
  go_loopw [9, 10] (fun vi vj wr => ∃ (i j : Nat) (dk : Array Int), vi = .int .i64 i ∧ vj = .int .i64 j ∧ a < i ∧ i ≤ j + 1 ∧ j < b ∧ dk.size = d.size ∧ Hid (SU w0 blk off dk wr) ∧ Hid (partEqLoop ltInt a i j dk = partEqLoop ltInt a (a + 1) (b - 1) (swp d a pv))) (fun vi vj _ => (intOf vj).toNat + 1 - (intOf vi).toNat)
  case atStart => exact ⟨a + 1, b - 1, swp d a pv, by go_num, by congr 1; omega, by omega, by omega, by omega, size_swp _ _ _, S1, Lib.hid rfl⟩
  case round =>
    clear S1 HG
    obtain ⟨i, j, dk, rfl, rfl, hai, hij, hjb, hsk, SK, HE⟩ := hrel
    obtain ⟨G, hG⟩ : ∃ G : Nat → Int, ∀ t, G t = dk[t]! := ⟨fun t => dk[t]!, fun _ => rfl⟩
    have HG := Lib.hid hG
    clear hG
    go_wp2
    go_loopw [9] (fun vi wr2 => ∃ (i2 : Nat), vi = .int .i64 i2 ∧ i ≤ i2 ∧ i2 ≤ j + 1 ∧ Hid (SU w0 blk off dk wr2) ∧ Hid (scanUp (fun x => !ltInt dk[a]! x) dk j i2 = scanUp (fun x => !ltInt dk[a]! x) dk j i)) (fun vi _ => j + 1 - (intOf vi).toNat)
    case atStart => exact ⟨i, rfl, Nat.le_refl _, hij, SK, Lib.hid rfl⟩
    case round =>
      clear SK
      obtain ⟨i2, rfl, hii, hi2j, SI, HI⟩ := hrel
      obtain ⟨hcw, hfw⟩ := SI.out.cells RR.out (by have := HS.out; omega) G HG.out hsk
      by_cases hle : i2 ≤ j
      · go_wp2
        go_quiet (first | (go_at_call 60; exact quiet_mine (uless_any _ _ _)))
        go_wp2
        · have ht : (!decide (G a < G i2)) = true := by assumption
          go_roundw
          case rel => exact ⟨i2 + 1, by go_num, by omega, by omega, Lib.hid (SI.out.drewN nq), Lib.hid ((scanUp_go (fun x => !ltInt dk[a]! x) dk j i2 hle (by simp only [← HG.out, ltInt]; first | exact ht | (simp; omega))).symm.trans HI.out)⟩
          case measure => simp [intOf]; omega
        · have ht : (!decide (G a < G i2)) = false := by assumption
          have HI2 : Hid (i2 = scanUp (fun x => !ltInt dk[a]! x) dk j i) := Lib.hid ((scanUp_end (fun x => !ltInt dk[a]! x) dk j i2 (Or.inr (by simp only [← HG.out, ltInt]; first | exact ht | (simp; omega)))).symm.trans HI.out)
          have SK2 := Lib.hid (SI.out.drewN nq)
          clear hcw hfw SI HI ht
          go_loopw [10] (fun vj wr3 => ∃ (j2 : Nat), vj = .int .i64 j2 ∧ j2 ≤ j ∧ i2 ≤ j2 + 1 ∧ Hid (SU w0 blk off dk wr3) ∧ Hid (scanDown (fun x => ltInt dk[a]! x) dk i2 j2 = scanDown (fun x => ltInt dk[a]! x) dk i2 j)) (fun vj _ => (intOf vj).toNat)
          case atStart => exact ⟨j, rfl, Nat.le_refl _, hi2j, SK2, Lib.hid rfl⟩
          case round =>
            clear SK2
            obtain ⟨j2, rfl, hjj, hij2, SI, HJ⟩ := hrel
            obtain ⟨hcw, hfw⟩ := SI.out.cells RR.out (by have := HS.out; omega) G HG.out hsk
            by_cases hle2 : i2 ≤ j2
            · go_wp2
              go_quiet (first | (go_at_call 60; exact quiet_mine (uless_any _ _ _)))
              go_wp2
              · have ht : G a < G j2 := by assumption
                go_roundw
                case rel => exact ⟨j2 - 1, by go_num, by omega, by omega, Lib.hid (SI.out.drewN nq), Lib.hid ((scanDown_go (fun x => ltInt dk[a]! x) dk i2 j2 hle2 (by omega) (by simp only [← HG.out, ltInt]; first | exact ht | (simp; omega))).symm.trans HJ.out)⟩
                case measure => simp [intOf]; omega
              · have ht : G j2 ≤ G a := by assumption
                have HJ2 : Hid (j2 = scanDown (fun x => ltInt dk[a]! x) dk i2 j) := Lib.hid ((scanDown_end (fun x => ltInt dk[a]! x) dk i2 j2 (Or.inr (by simp only [← HG.out, ltInt]; first | exact ht | (simp; omega)))).symm.trans HJ.out)
                clear HJ ht
                have hlt3 := scans_lt ltInt a i j dk (by omega) HI2.out HJ2.out hle2
                go_wp2
                go_region
                all_goals go_wp2
                go_roundw
                case rel => exact ⟨i2 + 1, j2 - 1, swp dk i2 j2, by go_num, by go_num, by omega, by omega, by omega, by rw [size_swp]; exact hsk, Lib.hid (SI.out.swp RR.out _ HG.out (by omega) (by omega)), Lib.hid ((partEq_go ltInt a i j dk HI2.out HJ2.out (by omega)).symm.trans HE.out)⟩
                case measure => simp [intOf]; omega
            · go_wp2
              go_quiet (fail)
              go_wp2
              have HJ2 : Hid (j2 = scanDown (fun x => ltInt dk[a]! x) dk i2 j) := Lib.hid ((scanDown_end (fun x => ltInt dk[a]! x) dk i2 j2 (Or.inl hle2)).symm.trans HJ.out)
              clear HJ
              go_wp2
              exact bodyPost_ret (results_tmp rfl _ _ _) rfl ⟨i2, dk, by show partEqLoop _ _ _ _ _ = _; rw [← HE.out, partEq_break ltInt a i j dk HI2.out HJ2.out (by omega)], rfl, SI.out.drewN nq⟩
      · go_wp2
        go_quiet (fail)
        go_wp2
        have HI2 : Hid (i2 = scanUp (fun x => !ltInt dk[a]! x) dk j i) := Lib.hid ((scanUp_end (fun x => !ltInt dk[a]! x) dk j i2 (Or.inl hle)).symm.trans HI.out)
        have SK2 := Lib.hid (SI.out.drewN nq)
        clear hcw hfw SI HI
        go_loopw [10] (fun vj wr3 => ∃ (j2 : Nat), vj = .int .i64 j2 ∧ j2 ≤ j ∧ i2 ≤ j2 + 1 ∧ Hid (SU w0 blk off dk wr3) ∧ Hid (scanDown (fun x => ltInt dk[a]! x) dk i2 j2 = scanDown (fun x => ltInt dk[a]! x) dk i2 j)) (fun vj _ => (intOf vj).toNat)
        case atStart => exact ⟨j, rfl, Nat.le_refl _, hi2j, SK2, Lib.hid rfl⟩
        case round =>
          clear SK2
          obtain ⟨j2, rfl, hjj, hij2, SI, HJ⟩ := hrel
          obtain ⟨hcw, hfw⟩ := SI.out.cells RR.out (by have := HS.out; omega) G HG.out hsk
          by_cases hle2 : i2 ≤ j2
          · exfalso; omega
          · go_wp2
            go_quiet (fail)
            go_wp2
            have HJ2 : Hid (j2 = scanDown (fun x => ltInt dk[a]! x) dk i2 j) := Lib.hid ((scanDown_end (fun x => ltInt dk[a]! x) dk i2 j2 (Or.inl hle2)).symm.trans HJ.out)
            clear HJ
            go_wp2
            exact bodyPost_ret (results_tmp rfl _ _ _) rfl ⟨i2, dk, by show partEqLoop _ _ _ _ _ = _; rw [← HE.out, partEq_break ltInt a i j dk HI2.out HJ2.out (by omega)], rfl, SI.out.drewN nq⟩
end Go.Proofs.YtpchncpcckfghaaGreat
namespace Go.Proofs.YtpchncpcckfghaaGreat
open Go.RowKit Go.Sort
set_option linter.unusedVariables false
set_option linter.unusedSimpArgs false
set_option maxRecDepth 1000000 in
set_option maxHeartbeats 32000000 in
theorem upins_any (blk off cap a b : Nat) (d0 d : Array Int) (w0 w : World) (R : RU w0 blk off d0) (hs : d.size = d0.size) (S : SU w0 blk off d w) (hab : a < b) (hb : b ≤ d.size) (hsz : d.size ≤ 1000000) :
    Calls Tryz.prog 86 #[.slice (some ⟨blk, off, none⟩) d.size cap, .int .i64 a, .int .i64 b] w fun e w' => ∃ (c : Bool) (dk : Array Int), partialInsertionSort ltInt d a b = (dk, c) ∧ e = .returned (.bool c) ∧ SU w0 blk off dk w' := by
  have S0 := Lib.hid S
  have RR := Lib.hid R
  have HS := Lib.hid hs
  clear S R hs
  go_enter Tryz.func86, Tryz.ntmps86
  go_wp2
  go_loopw [7, 8] (fun vi vs wr => ∃ (i s : Nat) (dk : Array Int), vi = .int .i64 i ∧ vs = .int .i64 s ∧ s ≤ 5 ∧ a < i ∧ i ≤ b ∧ dk.size = d.size ∧ Hid (SU w0 blk off dk wr) ∧ Hid (partialIns ltInt a b (5 - s) i dk = partialIns ltInt a b 5 (a + 1) d)) (fun vi vs _ => 5 - (intOf vs).toNat)
  case atStart => exact ⟨a + 1, 0, d, by go_num, by go_num, by omega, by omega, by omega, rfl, S0, Lib.hid rfl⟩
  case round =>
    clear S0
    obtain ⟨i, s, dk, rfl, rfl, hs5, hai, hib, hsk, SK, HE⟩ := hrel
    obtain ⟨G, hG⟩ : ∃ G : Nat → Int, ∀ t, G t = dk[t]! := ⟨fun t => dk[t]!, fun _ => rfl⟩
    have HG := Lib.hid hG
    clear hG
    by_cases hlt5 : s < 5
    · have hlt5z : (s : Int) < 5 := by omega
      go_wp2
      go_loopw [7] (fun vi wr2 => ∃ (i2 : Nat), vi = .int .i64 i2 ∧ i ≤ i2 ∧ i2 ≤ b ∧ Hid (SU w0 blk off dk wr2) ∧ Hid (scanSorted ltInt dk b i2 = scanSorted ltInt dk b i)) (fun vi _ => b - (intOf vi).toNat)
      case atStart => exact ⟨i, rfl, Nat.le_refl _, hib, SK, Lib.hid rfl⟩
      case round =>
        clear SK
        obtain ⟨i2, rfl, hii, hi2b, SI, HI⟩ := hrel
        obtain ⟨hcw, hfw⟩ := SU.cells SI.out RR.out (by have := HS.out; omega) G HG.out hsk
        by_cases hlt : i2 < b
        · have hltz : (i2 : Int) < (b : Int) := by omega
          have hbe : ((i2 : Int) == (b : Int)) = false := by simp; omega
          go_wp2
          go_quiet (first | (go_at_call 60; exact quiet_mine (uless_any _ _ _)))
          go_wp2
          · have ht : ltInt (G i2) (G (i2 - 1)) = false := by first | (have h1 : (!decide (G i2 < G (i2 - 1))) = true := (by assumption); exact by simpa [ltInt] using h1) | (have h1 : G (i2 - 1) ≤ G i2 := (by assumption); exact decide_eq_false (by omega))
            go_roundw
            case rel => exact ⟨i2 + 1, by go_num, by omega, by omega, Lib.hid (SI.out.drewN nq), Lib.hid ((scanSorted_go ltInt dk b i2 hlt (by rw [← HG.out, ← HG.out]; exact ht)).symm.trans HI.out)⟩
            case measure => simp [intOf]; omega
          · have ht : ltInt (G i2) (G (i2 - 1)) = true := by first | (have h1 : (!decide (G i2 < G (i2 - 1))) = false := (by assumption); exact by simpa [ltInt] using h1) | (have h1 : G i2 < G (i2 - 1) := (by assumption); exact decide_eq_true h1)
            have HI2 : Hid (i2 = scanSorted ltInt dk b i) := Lib.hid ((scanSorted_stop ltInt dk b i2 (Or.inr (by rw [← HG.out, ← HG.out]; exact ht))).symm.trans HI.out)
            have SK3 : Hid (SU w0 blk off dk (wr.drewN nq)) := Lib.hid (SI.out.drewN nq)
            exact bodyPost_ret (results_tmp rfl _ _ _) rfl ⟨false, dk, by show partialIns _ _ _ 5 _ _ = _; rw [← HE.out, show 5 - s = 5 - (s + 1) + 1 by omega, partialIns_succ, ← HI2.out, if_neg (by omega), if_pos (by omega)], rfl, SK3.out⟩
          · have ht : ltInt (G i2) (G (i2 - 1)) = true := by first | (have h1 : (!decide (G i2 < G (i2 - 1))) = false := (by assumption); exact by simpa [ltInt] using h1) | (have h1 : G i2 < G (i2 - 1) := (by assumption); exact decide_eq_true h1)
            have HI2 : Hid (i2 = scanSorted ltInt dk b i) := Lib.hid ((scanSorted_stop ltInt dk b i2 (Or.inr (by rw [← HG.out, ← HG.out]; exact ht))).symm.trans HI.out)
            have SK3 : Hid (SU w0 blk off dk (wr.drewN nq)) := Lib.hid (SI.out.drewN nq)
            clear hcw hfw SI HI ht
            generalize wr.drewN nq = W3 at SK3 ⊢
            obtain ⟨hcw, hfw⟩ := SU.cells SK3.out RR.out (by have := HS.out; omega) G HG.out hsk
            have h50 : ¬ b - a < 50 := by omega
            by_cases hx : 0 < b
            · have h50z : ¬ (b : Int) - (a : Int) < 50 := by omega
              obtain ⟨D1, hD1⟩ : ∃ D1, swp dk i2 (i2 - 1) = D1 := ⟨_, rfl⟩
              have hs1 : D1.size = d.size := by rw [← hD1, size_swp]; exact hsk
              have HF : Hid (partialIns ltInt a b (5 - (s + 1)) i2 (fixUp ltInt b i2 (fixDown ltInt a i2 D1)) = partialIns ltInt a b 5 (a + 1) d) := Lib.hid (by rw [← HE.out, show 5 - s = 5 - (s + 1) + 1 by omega, partialIns_succ, ← HI2.out, if_neg (by omega), if_neg h50, hD1])
              have HD1 := Lib.hid hD1
              clear hD1 HE HI2
              by_cases hdn : 2 ≤ i2 - a
              · by_cases hup : 2 ≤ b - i2
                · have hdnz : (2 : Int) ≤ (i2 : Int) - (a : Int) := by omega
                  have hupz : (2 : Int) ≤ (b : Int) - (i2 : Int) := by omega
                  go_region
                  all_goals go_wp2
                  have SW1 : Hid (SU w0 blk off D1 _) := Lib.hid (by rw [← HD1.out]; exact SU.swp SK3.out RR.out 1 HG.out (i := i2) (j := i2 - 1) (by omega) (by omega))
                  clear hcw hfw SK3 HG HD1
                  go_loopw [9] (fun vj wr3 => ∃ (j : Nat) (dj : Array Int), vj = .int .i64 j ∧ j < i2 ∧ dj.size = d.size ∧ Hid (SU w0 blk off dj wr3) ∧ Hid (shiftDown ltInt j dj = shiftDown ltInt (i2 - 1) D1)) (fun vj _ => (intOf vj).toNat)
                  case atStart => exact ⟨i2 - 1, D1, by go_num, by omega, hs1, SW1, Lib.hid rfl⟩
                  case round =>
                    clear SW1
                    obtain ⟨j, D2, rfl, hji, hs2, SI, HJ⟩ := hrel
                    have hsk := hs2
                    obtain ⟨G, hG⟩ : ∃ G : Nat → Int, ∀ t, G t = D2[t]! := ⟨fun t => D2[t]!, fun _ => rfl⟩
                    have HG := Lib.hid hG
                    clear hG
                    obtain ⟨hcw, hfw⟩ := SU.cells SI.out RR.out (by have := HS.out; omega) G HG.out hsk
                    by_cases hj1 : 1 ≤ j
                    · have hjz : (1 : Int) ≤ (j : Int) := by omega
                      go_wp2
                      go_quiet (first | (go_at_call 60; exact quiet_mine (uless_any _ _ _)))
                      go_wp2
                      · have ht : ltInt (G j) (G (j - 1)) = false := by first | (have h1 : (!decide (G j < G (j - 1))) = true := (by assumption); exact by simpa [ltInt] using h1) | (have h1 : G (j - 1) ≤ G j := (by assumption); exact decide_eq_false (by omega))
                        have HX : Hid (fixDown ltInt a i2 D1 = D2) := Lib.hid (by unfold fixDown; rw [if_pos (by omega), ← HJ.out]; exact shiftDown_stop ltInt j D2 (Or.inr (by rw [← HG.out, ← HG.out]; exact ht)))
                        have SX : Hid (SU w0 blk off D2 (wr.drewN nq)) := Lib.hid (SI.out.drewN nq)
                        clear hcw hfw SI HJ ht HG
                        go_loopw [10] (fun vk wr4 => ∃ (k : Nat) (dj : Array Int), vk = .int .i64 k ∧ i2 < k ∧ k ≤ b ∧ dj.size = d.size ∧ Hid (SU w0 blk off dj wr4) ∧ Hid (shiftUp ltInt b k dj = shiftUp ltInt b (i2 + 1) D2)) (fun vk _ => b - (intOf vk).toNat)
                        case atStart => exact ⟨i2 + 1, D2, by go_num, by omega, by omega, hs2, SX, Lib.hid rfl⟩
                        case round =>
                          clear SX
                          obtain ⟨k, D3, rfl, hik, hkb, hs3, SI, HJ⟩ := hrel
                          have hsk := hs3
                          obtain ⟨G, hG⟩ : ∃ G : Nat → Int, ∀ t, G t = D3[t]! := ⟨fun t => D3[t]!, fun _ => rfl⟩
                          have HG := Lib.hid hG
                          clear hG
                          obtain ⟨hcw, hfw⟩ := SU.cells SI.out RR.out (by have := HS.out; omega) G HG.out hsk
                          by_cases hk : k < b
                          · have hkz : (k : Int) < (b : Int) := by omega
                            go_wp2
                            go_quiet (first | (go_at_call 60; exact quiet_mine (uless_any _ _ _)))
                            go_wp2
                            · have ht : ltInt (G k) (G (k - 1)) = false := by first | (have h1 : (!decide (G k < G (k - 1))) = true := (by assumption); exact by simpa [ltInt] using h1) | (have h1 : G (k - 1) ≤ G k := (by assumption); exact decide_eq_false (by omega))
                              have HY : Hid (fixUp ltInt b i2 D2 = D3) := Lib.hid (by unfold fixUp; rw [if_pos (by omega), ← HJ.out]; exact shiftUp_stop ltInt b k D3 (Or.inr (by rw [← HG.out, ← HG.out]; exact ht)))
                              have SZ : Hid (SU w0 blk off D3 (wr.drewN nq)) := Lib.hid (SI.out.drewN nq)
                              go_roundw
                              case rel => exact ⟨i2, s + 1, D3, by go_num, by go_num, by omega, by omega, by omega, hs3, SZ, Lib.hid (by rw [← HF.out, HX.out, HY.out])⟩
                              case measure => simp [intOf]; omega
                            · have ht : ltInt (G k) (G (k - 1)) = true := by first | (have h1 : (!decide (G k < G (k - 1))) = false := (by assumption); exact by simpa [ltInt] using h1) | (have h1 : G k < G (k - 1) := (by assumption); exact decide_eq_true h1)
                              go_region
                              all_goals go_wp2
                              go_roundw
                              case rel => exact ⟨k + 1, swp D3 k (k - 1), by go_num, by omega, by omega, by rw [size_swp]; exact hs3, Lib.hid (SU.swp SI.out RR.out _ HG.out (by omega) (by omega)), Lib.hid ((shiftUp_go ltInt b k D3 hk (by rw [← HG.out, ← HG.out]; exact ht)).symm.trans HJ.out)⟩
                              case measure => simp [intOf]; omega
                          · have hkz : ¬ (k : Int) < (b : Int) := by omega
                            have HY : Hid (fixUp ltInt b i2 D2 = D3) := Lib.hid (by unfold fixUp; rw [if_pos (by omega), ← HJ.out]; exact shiftUp_stop ltInt b k D3 (Or.inl hk))
                            go_wp2
                            have SZ : Hid (SU w0 blk off D3 wr) := SI
                            go_roundw
                            case rel => exact ⟨i2, s + 1, D3, by go_num, by go_num, by omega, by omega, by omega, hs3, SZ, Lib.hid (by rw [← HF.out, HX.out, HY.out])⟩
                            case measure => simp [intOf]; omega
                      · have ht : ltInt (G j) (G (j - 1)) = true := by first | (have h1 : (!decide (G j < G (j - 1))) = false := (by assumption); exact by simpa [ltInt] using h1) | (have h1 : G j < G (j - 1) := (by assumption); exact decide_eq_true h1)
                        go_region
                        all_goals go_wp2
                        go_roundw
                        case rel => exact ⟨j - 1, swp D2 j (j - 1), by go_num, by omega, by rw [size_swp]; exact hs2, Lib.hid (SU.swp SI.out RR.out _ HG.out (by omega) (by omega)), Lib.hid ((shiftDown_go ltInt j D2 hj1 (by rw [← HG.out, ← HG.out]; exact ht)).symm.trans HJ.out)⟩
                        case measure => simp [intOf]; omega
                    · have hjz : ¬ (1 : Int) ≤ (j : Int) := by omega
                      have HX : Hid (fixDown ltInt a i2 D1 = D2) := Lib.hid (by unfold fixDown; rw [if_pos (by omega), ← HJ.out]; exact shiftDown_stop ltInt j D2 (Or.inl (by omega)))
                      go_wp2
                      have SX : Hid (SU w0 blk off D2 wr) := SI
                      clear hcw hfw SI HJ HG
                      go_loopw [10] (fun vk wr4 => ∃ (k : Nat) (dj : Array Int), vk = .int .i64 k ∧ i2 < k ∧ k ≤ b ∧ dj.size = d.size ∧ Hid (SU w0 blk off dj wr4) ∧ Hid (shiftUp ltInt b k dj = shiftUp ltInt b (i2 + 1) D2)) (fun vk _ => b - (intOf vk).toNat)
                      case atStart => exact ⟨i2 + 1, D2, by go_num, by omega, by omega, hs2, SX, Lib.hid rfl⟩
                      case round =>
                        clear SX
                        obtain ⟨k, D3, rfl, hik, hkb, hs3, SI, HJ⟩ := hrel
                        have hsk := hs3
                        obtain ⟨G, hG⟩ : ∃ G : Nat → Int, ∀ t, G t = D3[t]! := ⟨fun t => D3[t]!, fun _ => rfl⟩
                        have HG := Lib.hid hG
                        clear hG
                        obtain ⟨hcw, hfw⟩ := SU.cells SI.out RR.out (by have := HS.out; omega) G HG.out hsk
                        by_cases hk : k < b
                        · have hkz : (k : Int) < (b : Int) := by omega
                          go_wp2
                          go_quiet (first | (go_at_call 60; exact quiet_mine (uless_any _ _ _)))
                          go_wp2
                          · have ht : ltInt (G k) (G (k - 1)) = false := by first | (have h1 : (!decide (G k < G (k - 1))) = true := (by assumption); exact by simpa [ltInt] using h1) | (have h1 : G (k - 1) ≤ G k := (by assumption); exact decide_eq_false (by omega))
                            have HY : Hid (fixUp ltInt b i2 D2 = D3) := Lib.hid (by unfold fixUp; rw [if_pos (by omega), ← HJ.out]; exact shiftUp_stop ltInt b k D3 (Or.inr (by rw [← HG.out, ← HG.out]; exact ht)))
                            have SZ : Hid (SU w0 blk off D3 (wr.drewN nq)) := Lib.hid (SI.out.drewN nq)
                            go_roundw
                            case rel => exact ⟨i2, s + 1, D3, by go_num, by go_num, by omega, by omega, by omega, hs3, SZ, Lib.hid (by rw [← HF.out, HX.out, HY.out])⟩
                            case measure => simp [intOf]; omega
                          · have ht : ltInt (G k) (G (k - 1)) = true := by first | (have h1 : (!decide (G k < G (k - 1))) = false := (by assumption); exact by simpa [ltInt] using h1) | (have h1 : G k < G (k - 1) := (by assumption); exact decide_eq_true h1)
                            go_region
                            all_goals go_wp2
                            go_roundw
                            case rel => exact ⟨k + 1, swp D3 k (k - 1), by go_num, by omega, by omega, by rw [size_swp]; exact hs3, Lib.hid (SU.swp SI.out RR.out _ HG.out (by omega) (by omega)), Lib.hid ((shiftUp_go ltInt b k D3 hk (by rw [← HG.out, ← HG.out]; exact ht)).symm.trans HJ.out)⟩
                            case measure => simp [intOf]; omega
                        · have hkz : ¬ (k : Int) < (b : Int) := by omega
                          have HY : Hid (fixUp ltInt b i2 D2 = D3) := Lib.hid (by unfold fixUp; rw [if_pos (by omega), ← HJ.out]; exact shiftUp_stop ltInt b k D3 (Or.inl hk))
                          go_wp2
                          have SZ : Hid (SU w0 blk off D3 wr) := SI
                          go_roundw
                          case rel => exact ⟨i2, s + 1, D3, by go_num, by go_num, by omega, by omega, by omega, hs3, SZ, Lib.hid (by rw [← HF.out, HX.out, HY.out])⟩
                          case measure => simp [intOf]; omega
                · have hdnz : (2 : Int) ≤ (i2 : Int) - (a : Int) := by omega
                  have hupz : ¬ (2 : Int) ≤ (b : Int) - (i2 : Int) := by omega
                  go_region
                  all_goals go_wp2
                  have SW1 : Hid (SU w0 blk off D1 _) := Lib.hid (by rw [← HD1.out]; exact SU.swp SK3.out RR.out 1 HG.out (i := i2) (j := i2 - 1) (by omega) (by omega))
                  clear hcw hfw SK3 HG HD1
                  go_loopw [9] (fun vj wr3 => ∃ (j : Nat) (dj : Array Int), vj = .int .i64 j ∧ j < i2 ∧ dj.size = d.size ∧ Hid (SU w0 blk off dj wr3) ∧ Hid (shiftDown ltInt j dj = shiftDown ltInt (i2 - 1) D1)) (fun vj _ => (intOf vj).toNat)
                  case atStart => exact ⟨i2 - 1, D1, by go_num, by omega, hs1, SW1, Lib.hid rfl⟩
                  case round =>
                    clear SW1
                    obtain ⟨j, D2, rfl, hji, hs2, SI, HJ⟩ := hrel
                    have hsk := hs2
                    obtain ⟨G, hG⟩ : ∃ G : Nat → Int, ∀ t, G t = D2[t]! := ⟨fun t => D2[t]!, fun _ => rfl⟩
                    have HG := Lib.hid hG
                    clear hG
                    obtain ⟨hcw, hfw⟩ := SU.cells SI.out RR.out (by have := HS.out; omega) G HG.out hsk
                    by_cases hj1 : 1 ≤ j
                    · have hjz : (1 : Int) ≤ (j : Int) := by omega
                      go_wp2
                      go_quiet (first | (go_at_call 60; exact quiet_mine (uless_any _ _ _)))
                      go_wp2
                      · have ht : ltInt (G j) (G (j - 1)) = false := by first | (have h1 : (!decide (G j < G (j - 1))) = true := (by assumption); exact by simpa [ltInt] using h1) | (have h1 : G (j - 1) ≤ G j := (by assumption); exact decide_eq_false (by omega))
                        have HX : Hid (fixDown ltInt a i2 D1 = D2) := Lib.hid (by unfold fixDown; rw [if_pos (by omega), ← HJ.out]; exact shiftDown_stop ltInt j D2 (Or.inr (by rw [← HG.out, ← HG.out]; exact ht)))
                        have SX : Hid (SU w0 blk off D2 (wr.drewN nq)) := Lib.hid (SI.out.drewN nq)
                        clear hcw hfw SI HJ ht HG
                        have HY : Hid (fixUp ltInt b i2 D2 = D2) := Lib.hid (by unfold fixUp; rw [if_neg (by omega)])
                        have SZ := SX
                        obtain ⟨D3, hD3⟩ : ∃ D3, D3 = D2 := ⟨_, rfl⟩
                        subst hD3
                        have hs3 := hs2
                        go_roundw
                        case rel => exact ⟨i2, s + 1, D3, by go_num, by go_num, by omega, by omega, by omega, hs3, SZ, Lib.hid (by rw [← HF.out, HX.out, HY.out])⟩
                        case measure => simp [intOf]; omega
                      · have ht : ltInt (G j) (G (j - 1)) = true := by first | (have h1 : (!decide (G j < G (j - 1))) = false := (by assumption); exact by simpa [ltInt] using h1) | (have h1 : G j < G (j - 1) := (by assumption); exact decide_eq_true h1)
                        go_region
                        all_goals go_wp2
                        go_roundw
                        case rel => exact ⟨j - 1, swp D2 j (j - 1), by go_num, by omega, by rw [size_swp]; exact hs2, Lib.hid (SU.swp SI.out RR.out _ HG.out (by omega) (by omega)), Lib.hid ((shiftDown_go ltInt j D2 hj1 (by rw [← HG.out, ← HG.out]; exact ht)).symm.trans HJ.out)⟩
                        case measure => simp [intOf]; omega
                    · have hjz : ¬ (1 : Int) ≤ (j : Int) := by omega
                      have HX : Hid (fixDown ltInt a i2 D1 = D2) := Lib.hid (by unfold fixDown; rw [if_pos (by omega), ← HJ.out]; exact shiftDown_stop ltInt j D2 (Or.inl (by omega)))
                      go_wp2
                      have SX : Hid (SU w0 blk off D2 wr) := SI
                      clear hcw hfw SI HJ HG
                      have HY : Hid (fixUp ltInt b i2 D2 = D2) := Lib.hid (by unfold fixUp; rw [if_neg (by omega)])
                      have SZ := SX
                      obtain ⟨D3, hD3⟩ : ∃ D3, D3 = D2 := ⟨_, rfl⟩
                      subst hD3
                      have hs3 := hs2
                      go_roundw
                      case rel => exact ⟨i2, s + 1, D3, by go_num, by go_num, by omega, by omega, by omega, hs3, SZ, Lib.hid (by rw [← HF.out, HX.out, HY.out])⟩
                      case measure => simp [intOf]; omega
              · by_cases hup : 2 ≤ b - i2
                · have hdnz : ¬ (2 : Int) ≤ (i2 : Int) - (a : Int) := by omega
                  have hupz : (2 : Int) ≤ (b : Int) - (i2 : Int) := by omega
                  go_region
                  all_goals go_wp2
                  have SW1 : Hid (SU w0 blk off D1 _) := Lib.hid (by rw [← HD1.out]; exact SU.swp SK3.out RR.out 1 HG.out (i := i2) (j := i2 - 1) (by omega) (by omega))
                  clear hcw hfw SK3 HG HD1
                  have HX : Hid (fixDown ltInt a i2 D1 = D1) := Lib.hid (by unfold fixDown; rw [if_neg (by omega)])
                  have SX := SW1
                  obtain ⟨D2, hD2⟩ : ∃ D2, D2 = D1 := ⟨_, rfl⟩
                  subst hD2
                  have hs2 := hs1
                  go_loopw [10] (fun vk wr4 => ∃ (k : Nat) (dj : Array Int), vk = .int .i64 k ∧ i2 < k ∧ k ≤ b ∧ dj.size = d.size ∧ Hid (SU w0 blk off dj wr4) ∧ Hid (shiftUp ltInt b k dj = shiftUp ltInt b (i2 + 1) D2)) (fun vk _ => b - (intOf vk).toNat)
                  case atStart => exact ⟨i2 + 1, D2, by go_num, by omega, by omega, hs2, SX, Lib.hid rfl⟩
                  case round =>
                    clear SX
                    obtain ⟨k, D3, rfl, hik, hkb, hs3, SI, HJ⟩ := hrel
                    have hsk := hs3
                    obtain ⟨G, hG⟩ : ∃ G : Nat → Int, ∀ t, G t = D3[t]! := ⟨fun t => D3[t]!, fun _ => rfl⟩
                    have HG := Lib.hid hG
                    clear hG
                    obtain ⟨hcw, hfw⟩ := SU.cells SI.out RR.out (by have := HS.out; omega) G HG.out hsk
                    by_cases hk : k < b
                    · have hkz : (k : Int) < (b : Int) := by omega
                      go_wp2
                      go_quiet (first | (go_at_call 60; exact quiet_mine (uless_any _ _ _)))
                      go_wp2
                      · have ht : ltInt (G k) (G (k - 1)) = false := by first | (have h1 : (!decide (G k < G (k - 1))) = true := (by assumption); exact by simpa [ltInt] using h1) | (have h1 : G (k - 1) ≤ G k := (by assumption); exact decide_eq_false (by omega))
                        have HY : Hid (fixUp ltInt b i2 D2 = D3) := Lib.hid (by unfold fixUp; rw [if_pos (by omega), ← HJ.out]; exact shiftUp_stop ltInt b k D3 (Or.inr (by rw [← HG.out, ← HG.out]; exact ht)))
                        have SZ : Hid (SU w0 blk off D3 (wr.drewN nq)) := Lib.hid (SI.out.drewN nq)
                        go_roundw
                        case rel => exact ⟨i2, s + 1, D3, by go_num, by go_num, by omega, by omega, by omega, hs3, SZ, Lib.hid (by rw [← HF.out, HX.out, HY.out])⟩
                        case measure => simp [intOf]; omega
                      · have ht : ltInt (G k) (G (k - 1)) = true := by first | (have h1 : (!decide (G k < G (k - 1))) = false := (by assumption); exact by simpa [ltInt] using h1) | (have h1 : G k < G (k - 1) := (by assumption); exact decide_eq_true h1)
                        go_region
                        all_goals go_wp2
                        go_roundw
                        case rel => exact ⟨k + 1, swp D3 k (k - 1), by go_num, by omega, by omega, by rw [size_swp]; exact hs3, Lib.hid (SU.swp SI.out RR.out _ HG.out (by omega) (by omega)), Lib.hid ((shiftUp_go ltInt b k D3 hk (by rw [← HG.out, ← HG.out]; exact ht)).symm.trans HJ.out)⟩
                        case measure => simp [intOf]; omega
                    · have hkz : ¬ (k : Int) < (b : Int) := by omega
                      have HY : Hid (fixUp ltInt b i2 D2 = D3) := Lib.hid (by unfold fixUp; rw [if_pos (by omega), ← HJ.out]; exact shiftUp_stop ltInt b k D3 (Or.inl hk))
                      go_wp2
                      have SZ : Hid (SU w0 blk off D3 wr) := SI
                      go_roundw
                      case rel => exact ⟨i2, s + 1, D3, by go_num, by go_num, by omega, by omega, by omega, hs3, SZ, Lib.hid (by rw [← HF.out, HX.out, HY.out])⟩
                      case measure => simp [intOf]; omega
                · exfalso; omega
            · exfalso; omega
        · have hltz : ¬ (i2 : Int) < (b : Int) := by omega
          have hbe : ((i2 : Int) == (b : Int)) = true := by simp; omega
          have HI2 : Hid (i2 = scanSorted ltInt dk b i) := Lib.hid ((scanSorted_stop ltInt dk b i2 (Or.inl hlt)).symm.trans HI.out)
          go_wp2
          go_quiet (fail)
          go_wp2
          exact bodyPost_ret (results_tmp rfl _ _ _) rfl ⟨true, dk, by show partialIns _ _ _ 5 _ _ = _; rw [← HE.out, show 5 - s = 5 - (s + 1) + 1 by omega, partialIns_succ, ← HI2.out, if_pos (by omega)], rfl, SI.out.drewN nq⟩
    · have hlt5z : ¬ (s : Int) < 5 := by omega
      go_wp2
      exact bodyPost_ret (results_tmp rfl _ _ _) rfl (.inl ⟨dk, by show partialIns _ _ _ 5 _ _ = _; rw [← HE.out, show 5 - s = 0 by omega]; rfl, rfl, SK.out⟩)
end Go.Proofs.YtpchncpcckfghaaGreat
