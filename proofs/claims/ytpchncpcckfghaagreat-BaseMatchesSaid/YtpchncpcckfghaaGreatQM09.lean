/-
  Words and walks under the law's proof.
-/
import Derived.Sort.AssemblyPlain
import Derived.Test.YtpchncpcckfghaaGreatQM02
import Derived.Test.YtpchncpcckfghaaGreatQM03
import Derived.Test.YtpchncpcckfghaaGreatQM07
import Derived.Test.YtpchncpcckfghaaGreatQM08
namespace Go.Proofs.YtpchncpcckfghaaGreat
open Go.RowKit Go.Sort
set_option linter.unusedVariables false
set_option linter.unusedSimpArgs false
def Rest (a b : Nat) (d : Array Int) (a1 b1 : Nat) (D : Array Int) : Prop := Go.Sort.Below ltInt a1 b1 D ∧ ∀ R, PermIn a1 b1 D R → SortedIn ltInt a1 b1 R → PermIn a b d R ∧ SortedIn ltInt a b R
theorem Rest.perm {a b a1 b1 : Nat} {d D D' : Array Int} (h : Rest a b d a1 b1 D) (hb : b1 ≤ D.size) (P : PermIn a1 b1 D D') : Rest a b d a1 b1 D' :=
  ⟨Go.Sort.Below.perm h.1 hb P, fun R h1 h2 => h.2 R (permIn_trans _ _ _ _ _ P h1) h2⟩
set_option maxRecDepth 1000000 in
set_option maxHeartbeats 64000000 in
theorem updq_go (blk off cap : Nat) (d0 : Array Int) (w0 : World) (R0 : RU w0 blk off d0) (hsz : d0.size ≤ 1000000) : ∀ (n a b : Nat) (lim : Int) (d : Array Int) (w : World), b - a ≤ n → d.size = d0.size → SU w0 blk off d w → a ≤ b → b ≤ d.size → (0 ≤ lim ∧ lim ≤ 1000000) → Go.Sort.Below ltInt a b d →
    Calls Tryz.prog 62 #[.slice (some ⟨blk, off, none⟩) d.size cap, .int .i64 a, .int .i64 b, .int .i64 lim] w fun e w' => e = .returned (.tuple #[]) ∧ ∃ d', PermIn a b d d' ∧ SortedIn ltInt a b d' ∧ SU w0 blk off d' w' := by
  intro n
  induction n using Nat.strongRecOn with
  | _ n ih =>
  intro a b lim d w hn hs S hab hb hlim hB
  have IH : Hid (∀ (m : Nat), m < n → ∀ (a b : Nat) (lim : Int) (d : Array Int) (w : World), b - a ≤ m → d.size = d0.size → SU w0 blk off d w → a ≤ b → b ≤ d.size → d0.size ≤ 1000000 → (0 ≤ lim ∧ lim ≤ 1000000) → Go.Sort.Below ltInt a b d →
    Calls Tryz.prog 62 #[.slice (some ⟨blk, off, none⟩) d.size cap, .int .i64 a, .int .i64 b, .int .i64 lim] w fun e w' => e = .returned (.tuple #[]) ∧ ∃ d', PermIn a b d d' ∧ SortedIn ltInt a b d' ∧ SU w0 blk off d' w') := Lib.hid (fun m hm a b lim d w h1 h2 h3 h4 h5 _ h6 h7 => ih m hm a b lim d w h1 h2 h3 h4 h5 h6 h7)
  have S0 := Lib.hid S
  have RR := Lib.hid R0
  have HS := Lib.hid hs
  have HR0 : Hid (Rest a b d a b d) := Lib.hid ⟨hB, fun R h1 h2 => ⟨h1, h2⟩⟩
  clear S R0 ih hB
  have hds : d.size ≤ 1000000 := by omega
  clear hs
  go_enter Tryz.func62, Tryz.ntmps62
  go_wp2
  go_loopw [1, 2, 3, 8, 9] (fun va vb vl vp vq wr => ∃ (a1 b1 : Nat) (z : Int) (D : Array Int), va = .int .i64 a1 ∧ vb = .int .i64 b1 ∧ vl = .int .i64 z ∧ 0 ≤ z ∧ z ≤ 1000000 ∧ Hid (∃ p : Bool, vp = .bool p) ∧ Hid (∃ q : Bool, vq = .bool q) ∧ a ≤ a1 ∧ a1 ≤ b1 ∧ b1 ≤ b ∧ D.size = d.size ∧ Hid (SU w0 blk off D wr) ∧ Hid (Rest a b d a1 b1 D)) (fun va vb _ _ _ _ => (intOf vb).toNat - (intOf va).toNat)
  case atStart => exact ⟨a, b, lim, d, rfl, rfl, rfl, hlim.1, hlim.2, Lib.hid ⟨true, rfl⟩, Lib.hid ⟨true, rfl⟩, Nat.le_refl _, hab, Nat.le_refl _, rfl, S0, HR0⟩
  case round =>
    clear S0 HR0
    obtain ⟨a1, b1, z, D, rfl, rfl, rfl, hz1, hz2, HP, HQ, haa, hab1, hbb, hsD, SD, HD⟩ := hrel
    have hz := And.intro hz1 hz2
    obtain ⟨p, rfl⟩ := HP.out
    obtain ⟨q, rfl⟩ := HQ.out
    clear HP HQ
    obtain ⟨W, hW⟩ : ∃ W, W = wr := ⟨_, rfl⟩
    subst hW
    by_cases h12 : b1 - a1 ≤ 12
    · have h12z : (b1 : Int) - (a1 : Int) ≤ 12 := by omega
      have hC := uins_any blk off cap a1 b1 d0 D w0 W RR.out (by have := HS.out; omega) SD.out hab1 (by omega) (by omega)
      rw [hsD] at hC
      have PI := Lib.hid (insertionSort_holds (lt := ltInt) swo_ltInt D a1 b1 hab1 (by omega))
      go_wp2_with fail
      refine hC.mono ?_
      rintro e W' ⟨rfl, S2⟩
      have S3 := Lib.hid S2
      clear hC S2
      go_wp2
      exact bodyPost_ret (results_none rfl _ _ _) rfl ⟨rfl, _, (HD.out.2 _ PI.out.1 PI.out.2).1, (HD.out.2 _ PI.out.1 PI.out.2).2, S3.out⟩
    · have h12z : ¬ (b1 : Int) - (a1 : Int) ≤ 12 := by omega
      by_cases hz0 : z = 0
      · subst hz0
        have hC := uheap_any blk off cap a1 b1 d0 D w0 W RR.out (by have := HS.out; omega) SD.out hab1 (by omega) (by omega)
        rw [hsD] at hC
        have PI := Lib.hid (heapSort_holds (lt := ltInt) swo_ltInt D a1 b1 hab1 (by omega))
        go_wp2_with fail
        refine hC.mono ?_
        rintro e W' ⟨rfl, S2⟩
        have S3 := Lib.hid S2
        clear hC S2
        go_wp2
        exact bodyPost_ret (results_none rfl _ _ _) rfl ⟨rfl, _, (HD.out.2 _ PI.out.1 PI.out.2).1, (HD.out.2 _ PI.out.1 PI.out.2).2, S3.out⟩
      · have hze : (z == 0) = false := by simp; exact hz0
        cases p
        · have hC := ubreak_any blk off cap a1 (b1 - a1) d0 D w0 W RR.out (by have := HS.out; omega) SD.out (by omega) (by omega) (by omega)
          rw [hsD, show a1 + (b1 - a1) = b1 by omega] at hC
          go_wp2_with fail
          refine hC.mono ?_
          rintro e W1 ⟨rfl, D1, P1, S1⟩
          have SD1 : Hid (SU w0 blk off D1 W1) := Lib.hid S1
          have HD1 := Lib.hid (HD.out.perm (by omega) P1)
          have hsD1 : D1.size = d.size := by rw [P1.1]; exact hsD
          clear hC S1 SD HD P1 hsD
          clear D
          obtain ⟨D, hD⟩ : ∃ D, D = D1 := ⟨_, rfl⟩
          subst hD
          obtain ⟨W, hW⟩ : ∃ W, W = W1 := ⟨_, rfl⟩
          subst hW
          have SD := SD1
          have HD := HD1
          have hsD := hsD1
          clear SD1 HD1 hsD1
          obtain ⟨z2, hz2e⟩ : ∃ z2, z2 = z - 1 := ⟨_, rfl⟩
          have hzz : 0 ≤ z2 ∧ z2 ≤ 1000000 := by omega
          go_wp2_with fail
          simp only [← hz2e]
          clear hz2e hze hz0 hz1 hz2 hz
          obtain ⟨z, hzq⟩ : ∃ z, z = z2 := ⟨_, rfl⟩
          subst hzq
          have hz := hzz
          have hz1 := hz.1
          have hz2 := hz.2
          clear hzz
          have hC := uchoose_any blk off cap a1 b1 d0 D w0 W RR.out (by have := HS.out; omega) SD.out (by omega) (by omega) (by omega)
          rw [hsD] at hC
          try go_wp2_with fail
          refine hC.mono ?_
          rintro e W2 ⟨pv, h, rfl, hp1, hp2, S2⟩
          have SC : Hid (SU w0 blk off D W2) := Lib.hid S2
          clear hC S2 SD
          by_cases hh2 : h = 2
          · subst hh2
            have hC := urev_any blk off cap a1 b1 d0 D w0 W2 RR.out (by have := HS.out; omega) SC.out (by omega) (by omega) (by omega)
            rw [hsD] at hC
            go_wp2_with fail
            refine hC.mono ?_
            rintro e W3 ⟨rfl, D3, P3, S3⟩
            have SD3 : Hid (SU w0 blk off D3 W3) := Lib.hid S3
            have HD3 := Lib.hid (HD.out.perm (by omega) P3)
            have hsD3 : D3.size = d.size := by rw [P3.1]; exact hsD
            clear hC S3 SC HD P3 hsD
            clear D
            obtain ⟨pv2, hpv2⟩ : ∃ pv2 : Nat, pv2 = b1 - 1 - (pv - a1) := ⟨_, rfl⟩
            have hq1 : a1 ≤ pv2 := by omega
            have hq2 : pv2 < b1 := by omega
            have hpz : ((b1 : Int) - 1 - ((pv : Int) - (a1 : Int))) = (pv2 : Int) := by omega
            clear hpv2
            obtain ⟨D, hD⟩ : ∃ D, D = D3 := ⟨_, rfl⟩
            subst hD
            have SD := SD3
            have HD := HD3
            have hsD := hsD3
            clear SD3 HD3 hsD3
            go_wp2_with fail
            try simp only [hpz]
            clear hpz hp1 hp2
            obtain ⟨pv, hpv⟩ : ∃ pv, pv = pv2 := ⟨_, rfl⟩
            subst hpv
            have hp1 := hq1
            have hp2 := hq2
            clear hq1 hq2
            obtain ⟨W, hW⟩ : ∃ W, W = W3 := ⟨_, rfl⟩
            subst hW
            obtain ⟨G, hG⟩ : ∃ G : Nat → Int, ∀ t, G t = D[t]! := ⟨fun t => D[t]!, fun _ => rfl⟩
            have HG := Lib.hid hG
            clear hG
            obtain ⟨hcw, hfw⟩ := SU.cells SD.out RR.out (by have := HS.out; omega) G HG.out hsD
            by_cases ha0 : 0 < a1
            · have ha0z : (0 : Int) < (a1 : Int) := by omega
              go_wp2_with fail
              go_quiet (first | (go_at_call 60; exact quiet_mine (uless_any _ _ _)))
              have SE : Hid (SU w0 blk off D (W.drewN nq)) := Lib.hid (SD.out.drewN nq)
              clear hcw hfw SD
              generalize W.drewN nq = W4 at SE ⊢
              go_wp2_with fail
              · have ht : ltInt (G (a1 - 1)) (G pv) = false := by first | (have h1 : (!decide (G (a1 - 1) < G pv)) = true := (by assumption); exact by simpa [ltInt] using h1) | (have h1 : G pv ≤ G (a1 - 1) := (by assumption); exact decide_eq_false (by omega))
                have hC := upartEq_any blk off cap a1 b1 pv d0 D w0 W4 RR.out (by have := HS.out; omega) SE.out hp1 hp2 (by omega) (by omega)
                rw [hsD] at hC
                refine hC.mono ?_
                rintro e W5 ⟨mid, D4, hx, rfl, S4'⟩
                have Q := Lib.hid (round_eq swo_ltInt (partitionEqual_holds ltInt) ha0 hp1 hp2 (by omega) HD.out.1 (by rw [← HG.out, ← HG.out]; exact ht) hx)
                have S4 := Lib.hid S4'
                have hm1 := Q.out.1
                have hm2 := Q.out.2.1
                have hs4 : D4.size = d.size := by rw [Q.out.2.2.1]; exact hsD
                clear hC S4' hx SE IH
                go_wp2
                go_roundw
                case rel => exact ⟨mid, b1, z, D4, rfl, rfl, rfl, hz.1, hz.2, Lib.hid ⟨_, rfl⟩, Lib.hid ⟨_, rfl⟩, by omega, by omega, hbb, hs4, S4, Lib.hid ⟨Q.out.2.2.2.1, fun R h1 h2 => HD.out.2 R (Q.out.2.2.2.2 R h1 h2).1 (Q.out.2.2.2.2 R h1 h2).2⟩⟩
                case measure => simp [intOf]; omega
              · have hC := upart_any blk off cap a1 b1 pv d0 D w0 W4 RR.out (by have := HS.out; omega) SE.out hp1 hp2 (by omega) (by omega)
                rw [hsD] at hC
                refine hC.mono ?_
                rintro e W5 ⟨mid, ap, D4, hx, rfl, S4'⟩
                have Q := Lib.hid (round_part swo_ltInt (partition_holds ltInt) hp1 hp2 (by omega) HD.out.1 hx)
                have S4 := Lib.hid S4'
                have hm1 := Q.out.1
                have hm2 := Q.out.2.1
                have hs4 : D4.size = d.size := by rw [Q.out.2.2.1]; exact hsD
                clear hC S4' hx SE
                go_wp2_with fail
                · have hI := IH.out (mid - a1) (by omega) a1 mid z D4 W5 (Nat.le_refl _) (by have := HS.out; omega) S4.out (by omega) (by omega) hsz hz Q.out.2.2.2.1
                  rw [hs4] at hI
                  refine hI.mono ?_
                  rintro e W' ⟨rfl, R1, P1, Q1, S6⟩
                  have L1 := Lib.hid (Q.out.2.2.2.2.2.1 R1 P1 Q1)
                  have S7 := Lib.hid S6
                  have hsR : R1.size = d.size := by rw [P1.1]; exact hs4
                  clear hI P1 Q1 S6 S4 IH
                  go_wp2
                  go_roundw
                  case rel => exact ⟨mid + 1, b1, z, R1, by go_num, rfl, rfl, hz.1, hz.2, Lib.hid ⟨_, rfl⟩, Lib.hid ⟨_, rfl⟩, by omega, by omega, hbb, hsR, S7, Lib.hid ⟨L1.out.1, fun R h1 h2 => HD.out.2 R (L1.out.2 R h1 h2).1 (L1.out.2 R h1 h2).2⟩⟩
                  case measure => simp [intOf]; omega
                · rw [show ((mid : Int) + 1) = ((mid + 1 : Nat) : Int) by omega]
                  have hI := IH.out (b1 - (mid + 1)) (by omega) (mid + 1) b1 z D4 W5 (Nat.le_refl _) (by have := HS.out; omega) S4.out (by omega) (by omega) hsz hz Q.out.2.2.2.2.1
                  rw [hs4] at hI
                  refine hI.mono ?_
                  rintro e W' ⟨rfl, R1, P1, Q1, S6⟩
                  have L1 := Lib.hid (Q.out.2.2.2.2.2.2 R1 P1 Q1)
                  have S7 := Lib.hid S6
                  have hsR : R1.size = d.size := by rw [P1.1]; exact hs4
                  clear hI P1 Q1 S6 S4 IH
                  go_wp2
                  go_roundw
                  case rel => exact ⟨a1, mid, z, R1, rfl, by go_num, rfl, hz.1, hz.2, Lib.hid ⟨_, rfl⟩, Lib.hid ⟨_, rfl⟩, by omega, by omega, by omega, hsR, S7, Lib.hid ⟨L1.out.1, fun R h1 h2 => HD.out.2 R (L1.out.2 R h1 h2).1 (L1.out.2 R h1 h2).2⟩⟩
                  case measure => simp [intOf]; omega
            · have ha0z : ¬ (0 : Int) < (a1 : Int) := by omega
              try go_wp2_with fail
              go_quiet (fail)
              have SE : Hid (SU w0 blk off D (W.drewN nq)) := Lib.hid (SD.out.drewN nq)
              clear hcw hfw SD
              generalize W.drewN nq = W4 at SE ⊢
              have hC := upart_any blk off cap a1 b1 pv d0 D w0 W4 RR.out (by have := HS.out; omega) SE.out hp1 hp2 (by omega) (by omega)
              rw [hsD] at hC
              go_wp2_with fail
              refine hC.mono ?_
              rintro e W5 ⟨mid, ap, D4, hx, rfl, S4'⟩
              have Q := Lib.hid (round_part swo_ltInt (partition_holds ltInt) hp1 hp2 (by omega) HD.out.1 hx)
              have S4 := Lib.hid S4'
              have hm1 := Q.out.1
              have hm2 := Q.out.2.1
              have hs4 : D4.size = d.size := by rw [Q.out.2.2.1]; exact hsD
              clear hC S4' hx SE
              go_wp2_with fail
              · have hI := IH.out (mid - a1) (by omega) a1 mid z D4 W5 (Nat.le_refl _) (by have := HS.out; omega) S4.out (by omega) (by omega) hsz hz Q.out.2.2.2.1
                rw [hs4] at hI
                refine hI.mono ?_
                rintro e W' ⟨rfl, R1, P1, Q1, S6⟩
                have L1 := Lib.hid (Q.out.2.2.2.2.2.1 R1 P1 Q1)
                have S7 := Lib.hid S6
                have hsR : R1.size = d.size := by rw [P1.1]; exact hs4
                clear hI P1 Q1 S6 S4 IH
                go_wp2
                go_roundw
                case rel => exact ⟨mid + 1, b1, z, R1, by go_num, rfl, rfl, hz.1, hz.2, Lib.hid ⟨_, rfl⟩, Lib.hid ⟨_, rfl⟩, by omega, by omega, hbb, hsR, S7, Lib.hid ⟨L1.out.1, fun R h1 h2 => HD.out.2 R (L1.out.2 R h1 h2).1 (L1.out.2 R h1 h2).2⟩⟩
                case measure => simp [intOf]; omega
              · rw [show ((mid : Int) + 1) = ((mid + 1 : Nat) : Int) by omega]
                have hI := IH.out (b1 - (mid + 1)) (by omega) (mid + 1) b1 z D4 W5 (Nat.le_refl _) (by have := HS.out; omega) S4.out (by omega) (by omega) hsz hz Q.out.2.2.2.2.1
                rw [hs4] at hI
                refine hI.mono ?_
                rintro e W' ⟨rfl, R1, P1, Q1, S6⟩
                have L1 := Lib.hid (Q.out.2.2.2.2.2.2 R1 P1 Q1)
                have S7 := Lib.hid S6
                have hsR : R1.size = d.size := by rw [P1.1]; exact hs4
                clear hI P1 Q1 S6 S4 IH
                go_wp2
                go_roundw
                case rel => exact ⟨a1, mid, z, R1, rfl, by go_num, rfl, hz.1, hz.2, Lib.hid ⟨_, rfl⟩, Lib.hid ⟨_, rfl⟩, by omega, by omega, by omega, hsR, S7, Lib.hid ⟨L1.out.1, fun R h1 h2 => HD.out.2 R (L1.out.2 R h1 h2).1 (L1.out.2 R h1 h2).2⟩⟩
                case measure => simp [intOf]; omega
          · have hh2z : ((h : Int) == 2) = false := by simp; omega
            obtain ⟨W, hW⟩ : ∃ W, W = W2 := ⟨_, rfl⟩
            subst hW
            have SD := SC
            clear SC
            obtain ⟨G, hG⟩ : ∃ G : Nat → Int, ∀ t, G t = D[t]! := ⟨fun t => D[t]!, fun _ => rfl⟩
            have HG := Lib.hid hG
            clear hG
            obtain ⟨hcw, hfw⟩ := SU.cells SD.out RR.out (by have := HS.out; omega) G HG.out hsD
            by_cases ha0 : 0 < a1
            · have ha0z : (0 : Int) < (a1 : Int) := by omega
              go_wp2_with fail
              go_quiet (first | (go_at_call 60; exact quiet_mine (uless_any _ _ _)))
              have SE : Hid (SU w0 blk off D (W.drewN nq)) := Lib.hid (SD.out.drewN nq)
              clear hcw hfw SD
              generalize W.drewN nq = W4 at SE ⊢
              go_wp2_with fail
              · have ht : ltInt (G (a1 - 1)) (G pv) = false := by first | (have h1 : (!decide (G (a1 - 1) < G pv)) = true := (by assumption); exact by simpa [ltInt] using h1) | (have h1 : G pv ≤ G (a1 - 1) := (by assumption); exact decide_eq_false (by omega))
                have hC := upartEq_any blk off cap a1 b1 pv d0 D w0 W4 RR.out (by have := HS.out; omega) SE.out hp1 hp2 (by omega) (by omega)
                rw [hsD] at hC
                refine hC.mono ?_
                rintro e W5 ⟨mid, D4, hx, rfl, S4'⟩
                have Q := Lib.hid (round_eq swo_ltInt (partitionEqual_holds ltInt) ha0 hp1 hp2 (by omega) HD.out.1 (by rw [← HG.out, ← HG.out]; exact ht) hx)
                have S4 := Lib.hid S4'
                have hm1 := Q.out.1
                have hm2 := Q.out.2.1
                have hs4 : D4.size = d.size := by rw [Q.out.2.2.1]; exact hsD
                clear hC S4' hx SE IH
                go_wp2
                go_roundw
                case rel => exact ⟨mid, b1, z, D4, rfl, rfl, rfl, hz.1, hz.2, Lib.hid ⟨_, rfl⟩, Lib.hid ⟨_, rfl⟩, by omega, by omega, hbb, hs4, S4, Lib.hid ⟨Q.out.2.2.2.1, fun R h1 h2 => HD.out.2 R (Q.out.2.2.2.2 R h1 h2).1 (Q.out.2.2.2.2 R h1 h2).2⟩⟩
                case measure => simp [intOf]; omega
              · have hC := upart_any blk off cap a1 b1 pv d0 D w0 W4 RR.out (by have := HS.out; omega) SE.out hp1 hp2 (by omega) (by omega)
                rw [hsD] at hC
                refine hC.mono ?_
                rintro e W5 ⟨mid, ap, D4, hx, rfl, S4'⟩
                have Q := Lib.hid (round_part swo_ltInt (partition_holds ltInt) hp1 hp2 (by omega) HD.out.1 hx)
                have S4 := Lib.hid S4'
                have hm1 := Q.out.1
                have hm2 := Q.out.2.1
                have hs4 : D4.size = d.size := by rw [Q.out.2.2.1]; exact hsD
                clear hC S4' hx SE
                go_wp2_with fail
                · have hI := IH.out (mid - a1) (by omega) a1 mid z D4 W5 (Nat.le_refl _) (by have := HS.out; omega) S4.out (by omega) (by omega) hsz hz Q.out.2.2.2.1
                  rw [hs4] at hI
                  refine hI.mono ?_
                  rintro e W' ⟨rfl, R1, P1, Q1, S6⟩
                  have L1 := Lib.hid (Q.out.2.2.2.2.2.1 R1 P1 Q1)
                  have S7 := Lib.hid S6
                  have hsR : R1.size = d.size := by rw [P1.1]; exact hs4
                  clear hI P1 Q1 S6 S4 IH
                  go_wp2
                  go_roundw
                  case rel => exact ⟨mid + 1, b1, z, R1, by go_num, rfl, rfl, hz.1, hz.2, Lib.hid ⟨_, rfl⟩, Lib.hid ⟨_, rfl⟩, by omega, by omega, hbb, hsR, S7, Lib.hid ⟨L1.out.1, fun R h1 h2 => HD.out.2 R (L1.out.2 R h1 h2).1 (L1.out.2 R h1 h2).2⟩⟩
                  case measure => simp [intOf]; omega
                · rw [show ((mid : Int) + 1) = ((mid + 1 : Nat) : Int) by omega]
                  have hI := IH.out (b1 - (mid + 1)) (by omega) (mid + 1) b1 z D4 W5 (Nat.le_refl _) (by have := HS.out; omega) S4.out (by omega) (by omega) hsz hz Q.out.2.2.2.2.1
                  rw [hs4] at hI
                  refine hI.mono ?_
                  rintro e W' ⟨rfl, R1, P1, Q1, S6⟩
                  have L1 := Lib.hid (Q.out.2.2.2.2.2.2 R1 P1 Q1)
                  have S7 := Lib.hid S6
                  have hsR : R1.size = d.size := by rw [P1.1]; exact hs4
                  clear hI P1 Q1 S6 S4 IH
                  go_wp2
                  go_roundw
                  case rel => exact ⟨a1, mid, z, R1, rfl, by go_num, rfl, hz.1, hz.2, Lib.hid ⟨_, rfl⟩, Lib.hid ⟨_, rfl⟩, by omega, by omega, by omega, hsR, S7, Lib.hid ⟨L1.out.1, fun R h1 h2 => HD.out.2 R (L1.out.2 R h1 h2).1 (L1.out.2 R h1 h2).2⟩⟩
                  case measure => simp [intOf]; omega
            · have ha0z : ¬ (0 : Int) < (a1 : Int) := by omega
              try go_wp2_with fail
              go_quiet (fail)
              have SE : Hid (SU w0 blk off D (W.drewN nq)) := Lib.hid (SD.out.drewN nq)
              clear hcw hfw SD
              generalize W.drewN nq = W4 at SE ⊢
              have hC := upart_any blk off cap a1 b1 pv d0 D w0 W4 RR.out (by have := HS.out; omega) SE.out hp1 hp2 (by omega) (by omega)
              rw [hsD] at hC
              go_wp2_with fail
              refine hC.mono ?_
              rintro e W5 ⟨mid, ap, D4, hx, rfl, S4'⟩
              have Q := Lib.hid (round_part swo_ltInt (partition_holds ltInt) hp1 hp2 (by omega) HD.out.1 hx)
              have S4 := Lib.hid S4'
              have hm1 := Q.out.1
              have hm2 := Q.out.2.1
              have hs4 : D4.size = d.size := by rw [Q.out.2.2.1]; exact hsD
              clear hC S4' hx SE
              go_wp2_with fail
              · have hI := IH.out (mid - a1) (by omega) a1 mid z D4 W5 (Nat.le_refl _) (by have := HS.out; omega) S4.out (by omega) (by omega) hsz hz Q.out.2.2.2.1
                rw [hs4] at hI
                refine hI.mono ?_
                rintro e W' ⟨rfl, R1, P1, Q1, S6⟩
                have L1 := Lib.hid (Q.out.2.2.2.2.2.1 R1 P1 Q1)
                have S7 := Lib.hid S6
                have hsR : R1.size = d.size := by rw [P1.1]; exact hs4
                clear hI P1 Q1 S6 S4 IH
                go_wp2
                go_roundw
                case rel => exact ⟨mid + 1, b1, z, R1, by go_num, rfl, rfl, hz.1, hz.2, Lib.hid ⟨_, rfl⟩, Lib.hid ⟨_, rfl⟩, by omega, by omega, hbb, hsR, S7, Lib.hid ⟨L1.out.1, fun R h1 h2 => HD.out.2 R (L1.out.2 R h1 h2).1 (L1.out.2 R h1 h2).2⟩⟩
                case measure => simp [intOf]; omega
              · rw [show ((mid : Int) + 1) = ((mid + 1 : Nat) : Int) by omega]
                have hI := IH.out (b1 - (mid + 1)) (by omega) (mid + 1) b1 z D4 W5 (Nat.le_refl _) (by have := HS.out; omega) S4.out (by omega) (by omega) hsz hz Q.out.2.2.2.2.1
                rw [hs4] at hI
                refine hI.mono ?_
                rintro e W' ⟨rfl, R1, P1, Q1, S6⟩
                have L1 := Lib.hid (Q.out.2.2.2.2.2.2 R1 P1 Q1)
                have S7 := Lib.hid S6
                have hsR : R1.size = d.size := by rw [P1.1]; exact hs4
                clear hI P1 Q1 S6 S4 IH
                go_wp2
                go_roundw
                case rel => exact ⟨a1, mid, z, R1, rfl, by go_num, rfl, hz.1, hz.2, Lib.hid ⟨_, rfl⟩, Lib.hid ⟨_, rfl⟩, by omega, by omega, by omega, hsR, S7, Lib.hid ⟨L1.out.1, fun R h1 h2 => HD.out.2 R (L1.out.2 R h1 h2).1 (L1.out.2 R h1 h2).2⟩⟩
                case measure => simp [intOf]; omega
        · cases q
          · have hC := uchoose_any blk off cap a1 b1 d0 D w0 W RR.out (by have := HS.out; omega) SD.out (by omega) (by omega) (by omega)
            rw [hsD] at hC
            try go_wp2_with fail
            refine hC.mono ?_
            rintro e W2 ⟨pv, h, rfl, hp1, hp2, S2⟩
            have SC : Hid (SU w0 blk off D W2) := Lib.hid S2
            clear hC S2 SD
            by_cases hh2 : h = 2
            · subst hh2
              have hC := urev_any blk off cap a1 b1 d0 D w0 W2 RR.out (by have := HS.out; omega) SC.out (by omega) (by omega) (by omega)
              rw [hsD] at hC
              go_wp2_with fail
              refine hC.mono ?_
              rintro e W3 ⟨rfl, D3, P3, S3⟩
              have SD3 : Hid (SU w0 blk off D3 W3) := Lib.hid S3
              have HD3 := Lib.hid (HD.out.perm (by omega) P3)
              have hsD3 : D3.size = d.size := by rw [P3.1]; exact hsD
              clear hC S3 SC HD P3 hsD
              clear D
              obtain ⟨pv2, hpv2⟩ : ∃ pv2 : Nat, pv2 = b1 - 1 - (pv - a1) := ⟨_, rfl⟩
              have hq1 : a1 ≤ pv2 := by omega
              have hq2 : pv2 < b1 := by omega
              have hpz : ((b1 : Int) - 1 - ((pv : Int) - (a1 : Int))) = (pv2 : Int) := by omega
              clear hpv2
              obtain ⟨D, hD⟩ : ∃ D, D = D3 := ⟨_, rfl⟩
              subst hD
              have SD := SD3
              have HD := HD3
              have hsD := hsD3
              clear SD3 HD3 hsD3
              go_wp2_with fail
              try simp only [hpz]
              clear hpz hp1 hp2
              obtain ⟨pv, hpv⟩ : ∃ pv, pv = pv2 := ⟨_, rfl⟩
              subst hpv
              have hp1 := hq1
              have hp2 := hq2
              clear hq1 hq2
              obtain ⟨W, hW⟩ : ∃ W, W = W3 := ⟨_, rfl⟩
              subst hW
              obtain ⟨G, hG⟩ : ∃ G : Nat → Int, ∀ t, G t = D[t]! := ⟨fun t => D[t]!, fun _ => rfl⟩
              have HG := Lib.hid hG
              clear hG
              obtain ⟨hcw, hfw⟩ := SU.cells SD.out RR.out (by have := HS.out; omega) G HG.out hsD
              by_cases ha0 : 0 < a1
              · have ha0z : (0 : Int) < (a1 : Int) := by omega
                go_wp2_with fail
                go_quiet (first | (go_at_call 60; exact quiet_mine (uless_any _ _ _)))
                have SE : Hid (SU w0 blk off D (W.drewN nq)) := Lib.hid (SD.out.drewN nq)
                clear hcw hfw SD
                generalize W.drewN nq = W4 at SE ⊢
                go_wp2_with fail
                · have ht : ltInt (G (a1 - 1)) (G pv) = false := by first | (have h1 : (!decide (G (a1 - 1) < G pv)) = true := (by assumption); exact by simpa [ltInt] using h1) | (have h1 : G pv ≤ G (a1 - 1) := (by assumption); exact decide_eq_false (by omega))
                  have hC := upartEq_any blk off cap a1 b1 pv d0 D w0 W4 RR.out (by have := HS.out; omega) SE.out hp1 hp2 (by omega) (by omega)
                  rw [hsD] at hC
                  refine hC.mono ?_
                  rintro e W5 ⟨mid, D4, hx, rfl, S4'⟩
                  have Q := Lib.hid (round_eq swo_ltInt (partitionEqual_holds ltInt) ha0 hp1 hp2 (by omega) HD.out.1 (by rw [← HG.out, ← HG.out]; exact ht) hx)
                  have S4 := Lib.hid S4'
                  have hm1 := Q.out.1
                  have hm2 := Q.out.2.1
                  have hs4 : D4.size = d.size := by rw [Q.out.2.2.1]; exact hsD
                  clear hC S4' hx SE IH
                  go_wp2
                  go_roundw
                  case rel => exact ⟨mid, b1, z, D4, rfl, rfl, rfl, hz.1, hz.2, Lib.hid ⟨_, rfl⟩, Lib.hid ⟨_, rfl⟩, by omega, by omega, hbb, hs4, S4, Lib.hid ⟨Q.out.2.2.2.1, fun R h1 h2 => HD.out.2 R (Q.out.2.2.2.2 R h1 h2).1 (Q.out.2.2.2.2 R h1 h2).2⟩⟩
                  case measure => simp [intOf]; omega
                · have hC := upart_any blk off cap a1 b1 pv d0 D w0 W4 RR.out (by have := HS.out; omega) SE.out hp1 hp2 (by omega) (by omega)
                  rw [hsD] at hC
                  refine hC.mono ?_
                  rintro e W5 ⟨mid, ap, D4, hx, rfl, S4'⟩
                  have Q := Lib.hid (round_part swo_ltInt (partition_holds ltInt) hp1 hp2 (by omega) HD.out.1 hx)
                  have S4 := Lib.hid S4'
                  have hm1 := Q.out.1
                  have hm2 := Q.out.2.1
                  have hs4 : D4.size = d.size := by rw [Q.out.2.2.1]; exact hsD
                  clear hC S4' hx SE
                  go_wp2_with fail
                  · have hI := IH.out (mid - a1) (by omega) a1 mid z D4 W5 (Nat.le_refl _) (by have := HS.out; omega) S4.out (by omega) (by omega) hsz hz Q.out.2.2.2.1
                    rw [hs4] at hI
                    refine hI.mono ?_
                    rintro e W' ⟨rfl, R1, P1, Q1, S6⟩
                    have L1 := Lib.hid (Q.out.2.2.2.2.2.1 R1 P1 Q1)
                    have S7 := Lib.hid S6
                    have hsR : R1.size = d.size := by rw [P1.1]; exact hs4
                    clear hI P1 Q1 S6 S4 IH
                    go_wp2
                    go_roundw
                    case rel => exact ⟨mid + 1, b1, z, R1, by go_num, rfl, rfl, hz.1, hz.2, Lib.hid ⟨_, rfl⟩, Lib.hid ⟨_, rfl⟩, by omega, by omega, hbb, hsR, S7, Lib.hid ⟨L1.out.1, fun R h1 h2 => HD.out.2 R (L1.out.2 R h1 h2).1 (L1.out.2 R h1 h2).2⟩⟩
                    case measure => simp [intOf]; omega
                  · rw [show ((mid : Int) + 1) = ((mid + 1 : Nat) : Int) by omega]
                    have hI := IH.out (b1 - (mid + 1)) (by omega) (mid + 1) b1 z D4 W5 (Nat.le_refl _) (by have := HS.out; omega) S4.out (by omega) (by omega) hsz hz Q.out.2.2.2.2.1
                    rw [hs4] at hI
                    refine hI.mono ?_
                    rintro e W' ⟨rfl, R1, P1, Q1, S6⟩
                    have L1 := Lib.hid (Q.out.2.2.2.2.2.2 R1 P1 Q1)
                    have S7 := Lib.hid S6
                    have hsR : R1.size = d.size := by rw [P1.1]; exact hs4
                    clear hI P1 Q1 S6 S4 IH
                    go_wp2
                    go_roundw
                    case rel => exact ⟨a1, mid, z, R1, rfl, by go_num, rfl, hz.1, hz.2, Lib.hid ⟨_, rfl⟩, Lib.hid ⟨_, rfl⟩, by omega, by omega, by omega, hsR, S7, Lib.hid ⟨L1.out.1, fun R h1 h2 => HD.out.2 R (L1.out.2 R h1 h2).1 (L1.out.2 R h1 h2).2⟩⟩
                    case measure => simp [intOf]; omega
              · have ha0z : ¬ (0 : Int) < (a1 : Int) := by omega
                try go_wp2_with fail
                go_quiet (fail)
                have SE : Hid (SU w0 blk off D (W.drewN nq)) := Lib.hid (SD.out.drewN nq)
                clear hcw hfw SD
                generalize W.drewN nq = W4 at SE ⊢
                have hC := upart_any blk off cap a1 b1 pv d0 D w0 W4 RR.out (by have := HS.out; omega) SE.out hp1 hp2 (by omega) (by omega)
                rw [hsD] at hC
                go_wp2_with fail
                refine hC.mono ?_
                rintro e W5 ⟨mid, ap, D4, hx, rfl, S4'⟩
                have Q := Lib.hid (round_part swo_ltInt (partition_holds ltInt) hp1 hp2 (by omega) HD.out.1 hx)
                have S4 := Lib.hid S4'
                have hm1 := Q.out.1
                have hm2 := Q.out.2.1
                have hs4 : D4.size = d.size := by rw [Q.out.2.2.1]; exact hsD
                clear hC S4' hx SE
                go_wp2_with fail
                · have hI := IH.out (mid - a1) (by omega) a1 mid z D4 W5 (Nat.le_refl _) (by have := HS.out; omega) S4.out (by omega) (by omega) hsz hz Q.out.2.2.2.1
                  rw [hs4] at hI
                  refine hI.mono ?_
                  rintro e W' ⟨rfl, R1, P1, Q1, S6⟩
                  have L1 := Lib.hid (Q.out.2.2.2.2.2.1 R1 P1 Q1)
                  have S7 := Lib.hid S6
                  have hsR : R1.size = d.size := by rw [P1.1]; exact hs4
                  clear hI P1 Q1 S6 S4 IH
                  go_wp2
                  go_roundw
                  case rel => exact ⟨mid + 1, b1, z, R1, by go_num, rfl, rfl, hz.1, hz.2, Lib.hid ⟨_, rfl⟩, Lib.hid ⟨_, rfl⟩, by omega, by omega, hbb, hsR, S7, Lib.hid ⟨L1.out.1, fun R h1 h2 => HD.out.2 R (L1.out.2 R h1 h2).1 (L1.out.2 R h1 h2).2⟩⟩
                  case measure => simp [intOf]; omega
                · rw [show ((mid : Int) + 1) = ((mid + 1 : Nat) : Int) by omega]
                  have hI := IH.out (b1 - (mid + 1)) (by omega) (mid + 1) b1 z D4 W5 (Nat.le_refl _) (by have := HS.out; omega) S4.out (by omega) (by omega) hsz hz Q.out.2.2.2.2.1
                  rw [hs4] at hI
                  refine hI.mono ?_
                  rintro e W' ⟨rfl, R1, P1, Q1, S6⟩
                  have L1 := Lib.hid (Q.out.2.2.2.2.2.2 R1 P1 Q1)
                  have S7 := Lib.hid S6
                  have hsR : R1.size = d.size := by rw [P1.1]; exact hs4
                  clear hI P1 Q1 S6 S4 IH
                  go_wp2
                  go_roundw
                  case rel => exact ⟨a1, mid, z, R1, rfl, by go_num, rfl, hz.1, hz.2, Lib.hid ⟨_, rfl⟩, Lib.hid ⟨_, rfl⟩, by omega, by omega, by omega, hsR, S7, Lib.hid ⟨L1.out.1, fun R h1 h2 => HD.out.2 R (L1.out.2 R h1 h2).1 (L1.out.2 R h1 h2).2⟩⟩
                  case measure => simp [intOf]; omega
            · have hh2z : ((h : Int) == 2) = false := by simp; omega
              obtain ⟨W, hW⟩ : ∃ W, W = W2 := ⟨_, rfl⟩
              subst hW
              have SD := SC
              clear SC
              obtain ⟨G, hG⟩ : ∃ G : Nat → Int, ∀ t, G t = D[t]! := ⟨fun t => D[t]!, fun _ => rfl⟩
              have HG := Lib.hid hG
              clear hG
              obtain ⟨hcw, hfw⟩ := SU.cells SD.out RR.out (by have := HS.out; omega) G HG.out hsD
              by_cases ha0 : 0 < a1
              · have ha0z : (0 : Int) < (a1 : Int) := by omega
                go_wp2_with fail
                go_quiet (first | (go_at_call 60; exact quiet_mine (uless_any _ _ _)))
                have SE : Hid (SU w0 blk off D (W.drewN nq)) := Lib.hid (SD.out.drewN nq)
                clear hcw hfw SD
                generalize W.drewN nq = W4 at SE ⊢
                go_wp2_with fail
                · have ht : ltInt (G (a1 - 1)) (G pv) = false := by first | (have h1 : (!decide (G (a1 - 1) < G pv)) = true := (by assumption); exact by simpa [ltInt] using h1) | (have h1 : G pv ≤ G (a1 - 1) := (by assumption); exact decide_eq_false (by omega))
                  have hC := upartEq_any blk off cap a1 b1 pv d0 D w0 W4 RR.out (by have := HS.out; omega) SE.out hp1 hp2 (by omega) (by omega)
                  rw [hsD] at hC
                  refine hC.mono ?_
                  rintro e W5 ⟨mid, D4, hx, rfl, S4'⟩
                  have Q := Lib.hid (round_eq swo_ltInt (partitionEqual_holds ltInt) ha0 hp1 hp2 (by omega) HD.out.1 (by rw [← HG.out, ← HG.out]; exact ht) hx)
                  have S4 := Lib.hid S4'
                  have hm1 := Q.out.1
                  have hm2 := Q.out.2.1
                  have hs4 : D4.size = d.size := by rw [Q.out.2.2.1]; exact hsD
                  clear hC S4' hx SE IH
                  go_wp2
                  go_roundw
                  case rel => exact ⟨mid, b1, z, D4, rfl, rfl, rfl, hz.1, hz.2, Lib.hid ⟨_, rfl⟩, Lib.hid ⟨_, rfl⟩, by omega, by omega, hbb, hs4, S4, Lib.hid ⟨Q.out.2.2.2.1, fun R h1 h2 => HD.out.2 R (Q.out.2.2.2.2 R h1 h2).1 (Q.out.2.2.2.2 R h1 h2).2⟩⟩
                  case measure => simp [intOf]; omega
                · have hC := upart_any blk off cap a1 b1 pv d0 D w0 W4 RR.out (by have := HS.out; omega) SE.out hp1 hp2 (by omega) (by omega)
                  rw [hsD] at hC
                  refine hC.mono ?_
                  rintro e W5 ⟨mid, ap, D4, hx, rfl, S4'⟩
                  have Q := Lib.hid (round_part swo_ltInt (partition_holds ltInt) hp1 hp2 (by omega) HD.out.1 hx)
                  have S4 := Lib.hid S4'
                  have hm1 := Q.out.1
                  have hm2 := Q.out.2.1
                  have hs4 : D4.size = d.size := by rw [Q.out.2.2.1]; exact hsD
                  clear hC S4' hx SE
                  go_wp2_with fail
                  · have hI := IH.out (mid - a1) (by omega) a1 mid z D4 W5 (Nat.le_refl _) (by have := HS.out; omega) S4.out (by omega) (by omega) hsz hz Q.out.2.2.2.1
                    rw [hs4] at hI
                    refine hI.mono ?_
                    rintro e W' ⟨rfl, R1, P1, Q1, S6⟩
                    have L1 := Lib.hid (Q.out.2.2.2.2.2.1 R1 P1 Q1)
                    have S7 := Lib.hid S6
                    have hsR : R1.size = d.size := by rw [P1.1]; exact hs4
                    clear hI P1 Q1 S6 S4 IH
                    go_wp2
                    go_roundw
                    case rel => exact ⟨mid + 1, b1, z, R1, by go_num, rfl, rfl, hz.1, hz.2, Lib.hid ⟨_, rfl⟩, Lib.hid ⟨_, rfl⟩, by omega, by omega, hbb, hsR, S7, Lib.hid ⟨L1.out.1, fun R h1 h2 => HD.out.2 R (L1.out.2 R h1 h2).1 (L1.out.2 R h1 h2).2⟩⟩
                    case measure => simp [intOf]; omega
                  · rw [show ((mid : Int) + 1) = ((mid + 1 : Nat) : Int) by omega]
                    have hI := IH.out (b1 - (mid + 1)) (by omega) (mid + 1) b1 z D4 W5 (Nat.le_refl _) (by have := HS.out; omega) S4.out (by omega) (by omega) hsz hz Q.out.2.2.2.2.1
                    rw [hs4] at hI
                    refine hI.mono ?_
                    rintro e W' ⟨rfl, R1, P1, Q1, S6⟩
                    have L1 := Lib.hid (Q.out.2.2.2.2.2.2 R1 P1 Q1)
                    have S7 := Lib.hid S6
                    have hsR : R1.size = d.size := by rw [P1.1]; exact hs4
                    clear hI P1 Q1 S6 S4 IH
                    go_wp2
                    go_roundw
                    case rel => exact ⟨a1, mid, z, R1, rfl, by go_num, rfl, hz.1, hz.2, Lib.hid ⟨_, rfl⟩, Lib.hid ⟨_, rfl⟩, by omega, by omega, by omega, hsR, S7, Lib.hid ⟨L1.out.1, fun R h1 h2 => HD.out.2 R (L1.out.2 R h1 h2).1 (L1.out.2 R h1 h2).2⟩⟩
                    case measure => simp [intOf]; omega
              · have ha0z : ¬ (0 : Int) < (a1 : Int) := by omega
                try go_wp2_with fail
                go_quiet (fail)
                have SE : Hid (SU w0 blk off D (W.drewN nq)) := Lib.hid (SD.out.drewN nq)
                clear hcw hfw SD
                generalize W.drewN nq = W4 at SE ⊢
                have hC := upart_any blk off cap a1 b1 pv d0 D w0 W4 RR.out (by have := HS.out; omega) SE.out hp1 hp2 (by omega) (by omega)
                rw [hsD] at hC
                go_wp2_with fail
                refine hC.mono ?_
                rintro e W5 ⟨mid, ap, D4, hx, rfl, S4'⟩
                have Q := Lib.hid (round_part swo_ltInt (partition_holds ltInt) hp1 hp2 (by omega) HD.out.1 hx)
                have S4 := Lib.hid S4'
                have hm1 := Q.out.1
                have hm2 := Q.out.2.1
                have hs4 : D4.size = d.size := by rw [Q.out.2.2.1]; exact hsD
                clear hC S4' hx SE
                go_wp2_with fail
                · have hI := IH.out (mid - a1) (by omega) a1 mid z D4 W5 (Nat.le_refl _) (by have := HS.out; omega) S4.out (by omega) (by omega) hsz hz Q.out.2.2.2.1
                  rw [hs4] at hI
                  refine hI.mono ?_
                  rintro e W' ⟨rfl, R1, P1, Q1, S6⟩
                  have L1 := Lib.hid (Q.out.2.2.2.2.2.1 R1 P1 Q1)
                  have S7 := Lib.hid S6
                  have hsR : R1.size = d.size := by rw [P1.1]; exact hs4
                  clear hI P1 Q1 S6 S4 IH
                  go_wp2
                  go_roundw
                  case rel => exact ⟨mid + 1, b1, z, R1, by go_num, rfl, rfl, hz.1, hz.2, Lib.hid ⟨_, rfl⟩, Lib.hid ⟨_, rfl⟩, by omega, by omega, hbb, hsR, S7, Lib.hid ⟨L1.out.1, fun R h1 h2 => HD.out.2 R (L1.out.2 R h1 h2).1 (L1.out.2 R h1 h2).2⟩⟩
                  case measure => simp [intOf]; omega
                · rw [show ((mid : Int) + 1) = ((mid + 1 : Nat) : Int) by omega]
                  have hI := IH.out (b1 - (mid + 1)) (by omega) (mid + 1) b1 z D4 W5 (Nat.le_refl _) (by have := HS.out; omega) S4.out (by omega) (by omega) hsz hz Q.out.2.2.2.2.1
                  rw [hs4] at hI
                  refine hI.mono ?_
                  rintro e W' ⟨rfl, R1, P1, Q1, S6⟩
                  have L1 := Lib.hid (Q.out.2.2.2.2.2.2 R1 P1 Q1)
                  have S7 := Lib.hid S6
                  have hsR : R1.size = d.size := by rw [P1.1]; exact hs4
                  clear hI P1 Q1 S6 S4 IH
                  go_wp2
                  go_roundw
                  case rel => exact ⟨a1, mid, z, R1, rfl, by go_num, rfl, hz.1, hz.2, Lib.hid ⟨_, rfl⟩, Lib.hid ⟨_, rfl⟩, by omega, by omega, by omega, hsR, S7, Lib.hid ⟨L1.out.1, fun R h1 h2 => HD.out.2 R (L1.out.2 R h1 h2).1 (L1.out.2 R h1 h2).2⟩⟩
                  case measure => simp [intOf]; omega
          · have hC := uchoose_any blk off cap a1 b1 d0 D w0 W RR.out (by have := HS.out; omega) SD.out (by omega) (by omega) (by omega)
            rw [hsD] at hC
            try go_wp2_with fail
            refine hC.mono ?_
            rintro e W2 ⟨pv, h, rfl, hp1, hp2, S2⟩
            have SC : Hid (SU w0 blk off D W2) := Lib.hid S2
            clear hC S2 SD
            by_cases hh2 : h = 2
            · subst hh2
              have hC := urev_any blk off cap a1 b1 d0 D w0 W2 RR.out (by have := HS.out; omega) SC.out (by omega) (by omega) (by omega)
              rw [hsD] at hC
              go_wp2_with fail
              refine hC.mono ?_
              rintro e W3 ⟨rfl, D3, P3, S3⟩
              have SD3 : Hid (SU w0 blk off D3 W3) := Lib.hid S3
              have HD3 := Lib.hid (HD.out.perm (by omega) P3)
              have hsD3 : D3.size = d.size := by rw [P3.1]; exact hsD
              clear hC S3 SC HD P3 hsD
              clear D
              obtain ⟨pv2, hpv2⟩ : ∃ pv2 : Nat, pv2 = b1 - 1 - (pv - a1) := ⟨_, rfl⟩
              have hq1 : a1 ≤ pv2 := by omega
              have hq2 : pv2 < b1 := by omega
              have hpz : ((b1 : Int) - 1 - ((pv : Int) - (a1 : Int))) = (pv2 : Int) := by omega
              clear hpv2
              obtain ⟨D, hD⟩ : ∃ D, D = D3 := ⟨_, rfl⟩
              subst hD
              have SD := SD3
              have HD := HD3
              have hsD := hsD3
              clear SD3 HD3 hsD3
              go_wp2_with fail
              try simp only [hpz]
              clear hpz hp1 hp2
              obtain ⟨pv, hpv⟩ : ∃ pv, pv = pv2 := ⟨_, rfl⟩
              subst hpv
              have hp1 := hq1
              have hp2 := hq2
              clear hq1 hq2
              obtain ⟨W, hW⟩ : ∃ W, W = W3 := ⟨_, rfl⟩
              subst hW
              have hC := upins_any blk off cap a1 b1 d0 D w0 W RR.out (by have := HS.out; omega) SD.out (by omega) (by omega) (by omega)
              rw [hsD] at hC
              try go_wp2_with fail
              refine hC.mono ?_
              rintro e W6 ⟨c, D6, hx, rfl, S6⟩
              have PI := Lib.hid (partialInsertionSort_holds (lt := ltInt) swo_ltInt D a1 b1 (by omega) (by omega) HD.out.1)
              rw [hx] at PI
              have SD6 : Hid (SU w0 blk off D6 W6) := Lib.hid S6
              clear hC hx S6 SD
              cases c
              · have HD6 := Lib.hid (HD.out.perm (by omega) PI.out.1)
                have hsD6 : D6.size = d.size := by rw [PI.out.1.1]; exact hsD
                clear HD PI hsD
                clear D
                obtain ⟨D, hD⟩ : ∃ D, D = D6 := ⟨_, rfl⟩
                subst hD
                obtain ⟨W, hW⟩ : ∃ W, W = W6 := ⟨_, rfl⟩
                subst hW
                have SD := SD6
                have HD := HD6
                have hsD := hsD6
                clear SD6 HD6 hsD6
                obtain ⟨G, hG⟩ : ∃ G : Nat → Int, ∀ t, G t = D[t]! := ⟨fun t => D[t]!, fun _ => rfl⟩
                have HG := Lib.hid hG
                clear hG
                obtain ⟨hcw, hfw⟩ := SU.cells SD.out RR.out (by have := HS.out; omega) G HG.out hsD
                by_cases ha0 : 0 < a1
                · have ha0z : (0 : Int) < (a1 : Int) := by omega
                  go_wp2_with fail
                  go_quiet (first | (go_at_call 60; exact quiet_mine (uless_any _ _ _)))
                  have SE : Hid (SU w0 blk off D (W.drewN nq)) := Lib.hid (SD.out.drewN nq)
                  clear hcw hfw SD
                  generalize W.drewN nq = W4 at SE ⊢
                  go_wp2_with fail
                  · have ht : ltInt (G (a1 - 1)) (G pv) = false := by first | (have h1 : (!decide (G (a1 - 1) < G pv)) = true := (by assumption); exact by simpa [ltInt] using h1) | (have h1 : G pv ≤ G (a1 - 1) := (by assumption); exact decide_eq_false (by omega))
                    have hC := upartEq_any blk off cap a1 b1 pv d0 D w0 W4 RR.out (by have := HS.out; omega) SE.out hp1 hp2 (by omega) (by omega)
                    rw [hsD] at hC
                    refine hC.mono ?_
                    rintro e W5 ⟨mid, D4, hx, rfl, S4'⟩
                    have Q := Lib.hid (round_eq swo_ltInt (partitionEqual_holds ltInt) ha0 hp1 hp2 (by omega) HD.out.1 (by rw [← HG.out, ← HG.out]; exact ht) hx)
                    have S4 := Lib.hid S4'
                    have hm1 := Q.out.1
                    have hm2 := Q.out.2.1
                    have hs4 : D4.size = d.size := by rw [Q.out.2.2.1]; exact hsD
                    clear hC S4' hx SE IH
                    go_wp2
                    go_roundw
                    case rel => exact ⟨mid, b1, z, D4, rfl, rfl, rfl, hz.1, hz.2, Lib.hid ⟨_, rfl⟩, Lib.hid ⟨_, rfl⟩, by omega, by omega, hbb, hs4, S4, Lib.hid ⟨Q.out.2.2.2.1, fun R h1 h2 => HD.out.2 R (Q.out.2.2.2.2 R h1 h2).1 (Q.out.2.2.2.2 R h1 h2).2⟩⟩
                    case measure => simp [intOf]; omega
                  · have hC := upart_any blk off cap a1 b1 pv d0 D w0 W4 RR.out (by have := HS.out; omega) SE.out hp1 hp2 (by omega) (by omega)
                    rw [hsD] at hC
                    refine hC.mono ?_
                    rintro e W5 ⟨mid, ap, D4, hx, rfl, S4'⟩
                    have Q := Lib.hid (round_part swo_ltInt (partition_holds ltInt) hp1 hp2 (by omega) HD.out.1 hx)
                    have S4 := Lib.hid S4'
                    have hm1 := Q.out.1
                    have hm2 := Q.out.2.1
                    have hs4 : D4.size = d.size := by rw [Q.out.2.2.1]; exact hsD
                    clear hC S4' hx SE
                    go_wp2_with fail
                    · have hI := IH.out (mid - a1) (by omega) a1 mid z D4 W5 (Nat.le_refl _) (by have := HS.out; omega) S4.out (by omega) (by omega) hsz hz Q.out.2.2.2.1
                      rw [hs4] at hI
                      refine hI.mono ?_
                      rintro e W' ⟨rfl, R1, P1, Q1, S6⟩
                      have L1 := Lib.hid (Q.out.2.2.2.2.2.1 R1 P1 Q1)
                      have S7 := Lib.hid S6
                      have hsR : R1.size = d.size := by rw [P1.1]; exact hs4
                      clear hI P1 Q1 S6 S4 IH
                      go_wp2
                      go_roundw
                      case rel => exact ⟨mid + 1, b1, z, R1, by go_num, rfl, rfl, hz.1, hz.2, Lib.hid ⟨_, rfl⟩, Lib.hid ⟨_, rfl⟩, by omega, by omega, hbb, hsR, S7, Lib.hid ⟨L1.out.1, fun R h1 h2 => HD.out.2 R (L1.out.2 R h1 h2).1 (L1.out.2 R h1 h2).2⟩⟩
                      case measure => simp [intOf]; omega
                    · rw [show ((mid : Int) + 1) = ((mid + 1 : Nat) : Int) by omega]
                      have hI := IH.out (b1 - (mid + 1)) (by omega) (mid + 1) b1 z D4 W5 (Nat.le_refl _) (by have := HS.out; omega) S4.out (by omega) (by omega) hsz hz Q.out.2.2.2.2.1
                      rw [hs4] at hI
                      refine hI.mono ?_
                      rintro e W' ⟨rfl, R1, P1, Q1, S6⟩
                      have L1 := Lib.hid (Q.out.2.2.2.2.2.2 R1 P1 Q1)
                      have S7 := Lib.hid S6
                      have hsR : R1.size = d.size := by rw [P1.1]; exact hs4
                      clear hI P1 Q1 S6 S4 IH
                      go_wp2
                      go_roundw
                      case rel => exact ⟨a1, mid, z, R1, rfl, by go_num, rfl, hz.1, hz.2, Lib.hid ⟨_, rfl⟩, Lib.hid ⟨_, rfl⟩, by omega, by omega, by omega, hsR, S7, Lib.hid ⟨L1.out.1, fun R h1 h2 => HD.out.2 R (L1.out.2 R h1 h2).1 (L1.out.2 R h1 h2).2⟩⟩
                      case measure => simp [intOf]; omega
                · have ha0z : ¬ (0 : Int) < (a1 : Int) := by omega
                  try go_wp2_with fail
                  go_quiet (fail)
                  have SE : Hid (SU w0 blk off D (W.drewN nq)) := Lib.hid (SD.out.drewN nq)
                  clear hcw hfw SD
                  generalize W.drewN nq = W4 at SE ⊢
                  have hC := upart_any blk off cap a1 b1 pv d0 D w0 W4 RR.out (by have := HS.out; omega) SE.out hp1 hp2 (by omega) (by omega)
                  rw [hsD] at hC
                  go_wp2_with fail
                  refine hC.mono ?_
                  rintro e W5 ⟨mid, ap, D4, hx, rfl, S4'⟩
                  have Q := Lib.hid (round_part swo_ltInt (partition_holds ltInt) hp1 hp2 (by omega) HD.out.1 hx)
                  have S4 := Lib.hid S4'
                  have hm1 := Q.out.1
                  have hm2 := Q.out.2.1
                  have hs4 : D4.size = d.size := by rw [Q.out.2.2.1]; exact hsD
                  clear hC S4' hx SE
                  go_wp2_with fail
                  · have hI := IH.out (mid - a1) (by omega) a1 mid z D4 W5 (Nat.le_refl _) (by have := HS.out; omega) S4.out (by omega) (by omega) hsz hz Q.out.2.2.2.1
                    rw [hs4] at hI
                    refine hI.mono ?_
                    rintro e W' ⟨rfl, R1, P1, Q1, S6⟩
                    have L1 := Lib.hid (Q.out.2.2.2.2.2.1 R1 P1 Q1)
                    have S7 := Lib.hid S6
                    have hsR : R1.size = d.size := by rw [P1.1]; exact hs4
                    clear hI P1 Q1 S6 S4 IH
                    go_wp2
                    go_roundw
                    case rel => exact ⟨mid + 1, b1, z, R1, by go_num, rfl, rfl, hz.1, hz.2, Lib.hid ⟨_, rfl⟩, Lib.hid ⟨_, rfl⟩, by omega, by omega, hbb, hsR, S7, Lib.hid ⟨L1.out.1, fun R h1 h2 => HD.out.2 R (L1.out.2 R h1 h2).1 (L1.out.2 R h1 h2).2⟩⟩
                    case measure => simp [intOf]; omega
                  · rw [show ((mid : Int) + 1) = ((mid + 1 : Nat) : Int) by omega]
                    have hI := IH.out (b1 - (mid + 1)) (by omega) (mid + 1) b1 z D4 W5 (Nat.le_refl _) (by have := HS.out; omega) S4.out (by omega) (by omega) hsz hz Q.out.2.2.2.2.1
                    rw [hs4] at hI
                    refine hI.mono ?_
                    rintro e W' ⟨rfl, R1, P1, Q1, S6⟩
                    have L1 := Lib.hid (Q.out.2.2.2.2.2.2 R1 P1 Q1)
                    have S7 := Lib.hid S6
                    have hsR : R1.size = d.size := by rw [P1.1]; exact hs4
                    clear hI P1 Q1 S6 S4 IH
                    go_wp2
                    go_roundw
                    case rel => exact ⟨a1, mid, z, R1, rfl, by go_num, rfl, hz.1, hz.2, Lib.hid ⟨_, rfl⟩, Lib.hid ⟨_, rfl⟩, by omega, by omega, by omega, hsR, S7, Lib.hid ⟨L1.out.1, fun R h1 h2 => HD.out.2 R (L1.out.2 R h1 h2).1 (L1.out.2 R h1 h2).2⟩⟩
                    case measure => simp [intOf]; omega
              · have FIN := Lib.hid (HD.out.2 D6 PI.out.1 (PI.out.2 rfl))
                go_wp2
                exact bodyPost_ret (results_none rfl _ _ _) rfl ⟨rfl, _, FIN.out.1, FIN.out.2, SD6.out⟩
            · have hh2z : ((h : Int) == 2) = false := by simp; omega
              by_cases hh1 : h = 1
              · subst hh1
                obtain ⟨W, hW⟩ : ∃ W, W = W2 := ⟨_, rfl⟩
                subst hW
                have SD := SC
                clear SC
                have hC := upins_any blk off cap a1 b1 d0 D w0 W RR.out (by have := HS.out; omega) SD.out (by omega) (by omega) (by omega)
                rw [hsD] at hC
                try go_wp2_with fail
                refine hC.mono ?_
                rintro e W6 ⟨c, D6, hx, rfl, S6⟩
                have PI := Lib.hid (partialInsertionSort_holds (lt := ltInt) swo_ltInt D a1 b1 (by omega) (by omega) HD.out.1)
                rw [hx] at PI
                have SD6 : Hid (SU w0 blk off D6 W6) := Lib.hid S6
                clear hC hx S6 SD
                cases c
                · have HD6 := Lib.hid (HD.out.perm (by omega) PI.out.1)
                  have hsD6 : D6.size = d.size := by rw [PI.out.1.1]; exact hsD
                  clear HD PI hsD
                  clear D
                  obtain ⟨D, hD⟩ : ∃ D, D = D6 := ⟨_, rfl⟩
                  subst hD
                  obtain ⟨W, hW⟩ : ∃ W, W = W6 := ⟨_, rfl⟩
                  subst hW
                  have SD := SD6
                  have HD := HD6
                  have hsD := hsD6
                  clear SD6 HD6 hsD6
                  obtain ⟨G, hG⟩ : ∃ G : Nat → Int, ∀ t, G t = D[t]! := ⟨fun t => D[t]!, fun _ => rfl⟩
                  have HG := Lib.hid hG
                  clear hG
                  obtain ⟨hcw, hfw⟩ := SU.cells SD.out RR.out (by have := HS.out; omega) G HG.out hsD
                  by_cases ha0 : 0 < a1
                  · have ha0z : (0 : Int) < (a1 : Int) := by omega
                    go_wp2_with fail
                    go_quiet (first | (go_at_call 60; exact quiet_mine (uless_any _ _ _)))
                    have SE : Hid (SU w0 blk off D (W.drewN nq)) := Lib.hid (SD.out.drewN nq)
                    clear hcw hfw SD
                    generalize W.drewN nq = W4 at SE ⊢
                    go_wp2_with fail
                    · have ht : ltInt (G (a1 - 1)) (G pv) = false := by first | (have h1 : (!decide (G (a1 - 1) < G pv)) = true := (by assumption); exact by simpa [ltInt] using h1) | (have h1 : G pv ≤ G (a1 - 1) := (by assumption); exact decide_eq_false (by omega))
                      have hC := upartEq_any blk off cap a1 b1 pv d0 D w0 W4 RR.out (by have := HS.out; omega) SE.out hp1 hp2 (by omega) (by omega)
                      rw [hsD] at hC
                      refine hC.mono ?_
                      rintro e W5 ⟨mid, D4, hx, rfl, S4'⟩
                      have Q := Lib.hid (round_eq swo_ltInt (partitionEqual_holds ltInt) ha0 hp1 hp2 (by omega) HD.out.1 (by rw [← HG.out, ← HG.out]; exact ht) hx)
                      have S4 := Lib.hid S4'
                      have hm1 := Q.out.1
                      have hm2 := Q.out.2.1
                      have hs4 : D4.size = d.size := by rw [Q.out.2.2.1]; exact hsD
                      clear hC S4' hx SE IH
                      go_wp2
                      go_roundw
                      case rel => exact ⟨mid, b1, z, D4, rfl, rfl, rfl, hz.1, hz.2, Lib.hid ⟨_, rfl⟩, Lib.hid ⟨_, rfl⟩, by omega, by omega, hbb, hs4, S4, Lib.hid ⟨Q.out.2.2.2.1, fun R h1 h2 => HD.out.2 R (Q.out.2.2.2.2 R h1 h2).1 (Q.out.2.2.2.2 R h1 h2).2⟩⟩
                      case measure => simp [intOf]; omega
                    · have hC := upart_any blk off cap a1 b1 pv d0 D w0 W4 RR.out (by have := HS.out; omega) SE.out hp1 hp2 (by omega) (by omega)
                      rw [hsD] at hC
                      refine hC.mono ?_
                      rintro e W5 ⟨mid, ap, D4, hx, rfl, S4'⟩
                      have Q := Lib.hid (round_part swo_ltInt (partition_holds ltInt) hp1 hp2 (by omega) HD.out.1 hx)
                      have S4 := Lib.hid S4'
                      have hm1 := Q.out.1
                      have hm2 := Q.out.2.1
                      have hs4 : D4.size = d.size := by rw [Q.out.2.2.1]; exact hsD
                      clear hC S4' hx SE
                      go_wp2_with fail
                      · have hI := IH.out (mid - a1) (by omega) a1 mid z D4 W5 (Nat.le_refl _) (by have := HS.out; omega) S4.out (by omega) (by omega) hsz hz Q.out.2.2.2.1
                        rw [hs4] at hI
                        refine hI.mono ?_
                        rintro e W' ⟨rfl, R1, P1, Q1, S6⟩
                        have L1 := Lib.hid (Q.out.2.2.2.2.2.1 R1 P1 Q1)
                        have S7 := Lib.hid S6
                        have hsR : R1.size = d.size := by rw [P1.1]; exact hs4
                        clear hI P1 Q1 S6 S4 IH
                        go_wp2
                        go_roundw
                        case rel => exact ⟨mid + 1, b1, z, R1, by go_num, rfl, rfl, hz.1, hz.2, Lib.hid ⟨_, rfl⟩, Lib.hid ⟨_, rfl⟩, by omega, by omega, hbb, hsR, S7, Lib.hid ⟨L1.out.1, fun R h1 h2 => HD.out.2 R (L1.out.2 R h1 h2).1 (L1.out.2 R h1 h2).2⟩⟩
                        case measure => simp [intOf]; omega
                      · rw [show ((mid : Int) + 1) = ((mid + 1 : Nat) : Int) by omega]
                        have hI := IH.out (b1 - (mid + 1)) (by omega) (mid + 1) b1 z D4 W5 (Nat.le_refl _) (by have := HS.out; omega) S4.out (by omega) (by omega) hsz hz Q.out.2.2.2.2.1
                        rw [hs4] at hI
                        refine hI.mono ?_
                        rintro e W' ⟨rfl, R1, P1, Q1, S6⟩
                        have L1 := Lib.hid (Q.out.2.2.2.2.2.2 R1 P1 Q1)
                        have S7 := Lib.hid S6
                        have hsR : R1.size = d.size := by rw [P1.1]; exact hs4
                        clear hI P1 Q1 S6 S4 IH
                        go_wp2
                        go_roundw
                        case rel => exact ⟨a1, mid, z, R1, rfl, by go_num, rfl, hz.1, hz.2, Lib.hid ⟨_, rfl⟩, Lib.hid ⟨_, rfl⟩, by omega, by omega, by omega, hsR, S7, Lib.hid ⟨L1.out.1, fun R h1 h2 => HD.out.2 R (L1.out.2 R h1 h2).1 (L1.out.2 R h1 h2).2⟩⟩
                        case measure => simp [intOf]; omega
                  · have ha0z : ¬ (0 : Int) < (a1 : Int) := by omega
                    try go_wp2_with fail
                    go_quiet (fail)
                    have SE : Hid (SU w0 blk off D (W.drewN nq)) := Lib.hid (SD.out.drewN nq)
                    clear hcw hfw SD
                    generalize W.drewN nq = W4 at SE ⊢
                    have hC := upart_any blk off cap a1 b1 pv d0 D w0 W4 RR.out (by have := HS.out; omega) SE.out hp1 hp2 (by omega) (by omega)
                    rw [hsD] at hC
                    go_wp2_with fail
                    refine hC.mono ?_
                    rintro e W5 ⟨mid, ap, D4, hx, rfl, S4'⟩
                    have Q := Lib.hid (round_part swo_ltInt (partition_holds ltInt) hp1 hp2 (by omega) HD.out.1 hx)
                    have S4 := Lib.hid S4'
                    have hm1 := Q.out.1
                    have hm2 := Q.out.2.1
                    have hs4 : D4.size = d.size := by rw [Q.out.2.2.1]; exact hsD
                    clear hC S4' hx SE
                    go_wp2_with fail
                    · have hI := IH.out (mid - a1) (by omega) a1 mid z D4 W5 (Nat.le_refl _) (by have := HS.out; omega) S4.out (by omega) (by omega) hsz hz Q.out.2.2.2.1
                      rw [hs4] at hI
                      refine hI.mono ?_
                      rintro e W' ⟨rfl, R1, P1, Q1, S6⟩
                      have L1 := Lib.hid (Q.out.2.2.2.2.2.1 R1 P1 Q1)
                      have S7 := Lib.hid S6
                      have hsR : R1.size = d.size := by rw [P1.1]; exact hs4
                      clear hI P1 Q1 S6 S4 IH
                      go_wp2
                      go_roundw
                      case rel => exact ⟨mid + 1, b1, z, R1, by go_num, rfl, rfl, hz.1, hz.2, Lib.hid ⟨_, rfl⟩, Lib.hid ⟨_, rfl⟩, by omega, by omega, hbb, hsR, S7, Lib.hid ⟨L1.out.1, fun R h1 h2 => HD.out.2 R (L1.out.2 R h1 h2).1 (L1.out.2 R h1 h2).2⟩⟩
                      case measure => simp [intOf]; omega
                    · rw [show ((mid : Int) + 1) = ((mid + 1 : Nat) : Int) by omega]
                      have hI := IH.out (b1 - (mid + 1)) (by omega) (mid + 1) b1 z D4 W5 (Nat.le_refl _) (by have := HS.out; omega) S4.out (by omega) (by omega) hsz hz Q.out.2.2.2.2.1
                      rw [hs4] at hI
                      refine hI.mono ?_
                      rintro e W' ⟨rfl, R1, P1, Q1, S6⟩
                      have L1 := Lib.hid (Q.out.2.2.2.2.2.2 R1 P1 Q1)
                      have S7 := Lib.hid S6
                      have hsR : R1.size = d.size := by rw [P1.1]; exact hs4
                      clear hI P1 Q1 S6 S4 IH
                      go_wp2
                      go_roundw
                      case rel => exact ⟨a1, mid, z, R1, rfl, by go_num, rfl, hz.1, hz.2, Lib.hid ⟨_, rfl⟩, Lib.hid ⟨_, rfl⟩, by omega, by omega, by omega, hsR, S7, Lib.hid ⟨L1.out.1, fun R h1 h2 => HD.out.2 R (L1.out.2 R h1 h2).1 (L1.out.2 R h1 h2).2⟩⟩
                      case measure => simp [intOf]; omega
                · have FIN := Lib.hid (HD.out.2 D6 PI.out.1 (PI.out.2 rfl))
                  go_wp2
                  exact bodyPost_ret (results_none rfl _ _ _) rfl ⟨rfl, _, FIN.out.1, FIN.out.2, SD6.out⟩
              · have hh1z : ((h : Int) == 1) = false := by simp; omega
                obtain ⟨W, hW⟩ : ∃ W, W = W2 := ⟨_, rfl⟩
                subst hW
                have SD := SC
                clear SC
                obtain ⟨G, hG⟩ : ∃ G : Nat → Int, ∀ t, G t = D[t]! := ⟨fun t => D[t]!, fun _ => rfl⟩
                have HG := Lib.hid hG
                clear hG
                obtain ⟨hcw, hfw⟩ := SU.cells SD.out RR.out (by have := HS.out; omega) G HG.out hsD
                by_cases ha0 : 0 < a1
                · have ha0z : (0 : Int) < (a1 : Int) := by omega
                  go_wp2_with fail
                  go_quiet (first | (go_at_call 60; exact quiet_mine (uless_any _ _ _)))
                  have SE : Hid (SU w0 blk off D (W.drewN nq)) := Lib.hid (SD.out.drewN nq)
                  clear hcw hfw SD
                  generalize W.drewN nq = W4 at SE ⊢
                  go_wp2_with fail
                  · have ht : ltInt (G (a1 - 1)) (G pv) = false := by first | (have h1 : (!decide (G (a1 - 1) < G pv)) = true := (by assumption); exact by simpa [ltInt] using h1) | (have h1 : G pv ≤ G (a1 - 1) := (by assumption); exact decide_eq_false (by omega))
                    have hC := upartEq_any blk off cap a1 b1 pv d0 D w0 W4 RR.out (by have := HS.out; omega) SE.out hp1 hp2 (by omega) (by omega)
                    rw [hsD] at hC
                    refine hC.mono ?_
                    rintro e W5 ⟨mid, D4, hx, rfl, S4'⟩
                    have Q := Lib.hid (round_eq swo_ltInt (partitionEqual_holds ltInt) ha0 hp1 hp2 (by omega) HD.out.1 (by rw [← HG.out, ← HG.out]; exact ht) hx)
                    have S4 := Lib.hid S4'
                    have hm1 := Q.out.1
                    have hm2 := Q.out.2.1
                    have hs4 : D4.size = d.size := by rw [Q.out.2.2.1]; exact hsD
                    clear hC S4' hx SE IH
                    go_wp2
                    go_roundw
                    case rel => exact ⟨mid, b1, z, D4, rfl, rfl, rfl, hz.1, hz.2, Lib.hid ⟨_, rfl⟩, Lib.hid ⟨_, rfl⟩, by omega, by omega, hbb, hs4, S4, Lib.hid ⟨Q.out.2.2.2.1, fun R h1 h2 => HD.out.2 R (Q.out.2.2.2.2 R h1 h2).1 (Q.out.2.2.2.2 R h1 h2).2⟩⟩
                    case measure => simp [intOf]; omega
                  · have hC := upart_any blk off cap a1 b1 pv d0 D w0 W4 RR.out (by have := HS.out; omega) SE.out hp1 hp2 (by omega) (by omega)
                    rw [hsD] at hC
                    refine hC.mono ?_
                    rintro e W5 ⟨mid, ap, D4, hx, rfl, S4'⟩
                    have Q := Lib.hid (round_part swo_ltInt (partition_holds ltInt) hp1 hp2 (by omega) HD.out.1 hx)
                    have S4 := Lib.hid S4'
                    have hm1 := Q.out.1
                    have hm2 := Q.out.2.1
                    have hs4 : D4.size = d.size := by rw [Q.out.2.2.1]; exact hsD
                    clear hC S4' hx SE
                    go_wp2_with fail
                    · have hI := IH.out (mid - a1) (by omega) a1 mid z D4 W5 (Nat.le_refl _) (by have := HS.out; omega) S4.out (by omega) (by omega) hsz hz Q.out.2.2.2.1
                      rw [hs4] at hI
                      refine hI.mono ?_
                      rintro e W' ⟨rfl, R1, P1, Q1, S6⟩
                      have L1 := Lib.hid (Q.out.2.2.2.2.2.1 R1 P1 Q1)
                      have S7 := Lib.hid S6
                      have hsR : R1.size = d.size := by rw [P1.1]; exact hs4
                      clear hI P1 Q1 S6 S4 IH
                      go_wp2
                      go_roundw
                      case rel => exact ⟨mid + 1, b1, z, R1, by go_num, rfl, rfl, hz.1, hz.2, Lib.hid ⟨_, rfl⟩, Lib.hid ⟨_, rfl⟩, by omega, by omega, hbb, hsR, S7, Lib.hid ⟨L1.out.1, fun R h1 h2 => HD.out.2 R (L1.out.2 R h1 h2).1 (L1.out.2 R h1 h2).2⟩⟩
                      case measure => simp [intOf]; omega
                    · rw [show ((mid : Int) + 1) = ((mid + 1 : Nat) : Int) by omega]
                      have hI := IH.out (b1 - (mid + 1)) (by omega) (mid + 1) b1 z D4 W5 (Nat.le_refl _) (by have := HS.out; omega) S4.out (by omega) (by omega) hsz hz Q.out.2.2.2.2.1
                      rw [hs4] at hI
                      refine hI.mono ?_
                      rintro e W' ⟨rfl, R1, P1, Q1, S6⟩
                      have L1 := Lib.hid (Q.out.2.2.2.2.2.2 R1 P1 Q1)
                      have S7 := Lib.hid S6
                      have hsR : R1.size = d.size := by rw [P1.1]; exact hs4
                      clear hI P1 Q1 S6 S4 IH
                      go_wp2
                      go_roundw
                      case rel => exact ⟨a1, mid, z, R1, rfl, by go_num, rfl, hz.1, hz.2, Lib.hid ⟨_, rfl⟩, Lib.hid ⟨_, rfl⟩, by omega, by omega, by omega, hsR, S7, Lib.hid ⟨L1.out.1, fun R h1 h2 => HD.out.2 R (L1.out.2 R h1 h2).1 (L1.out.2 R h1 h2).2⟩⟩
                      case measure => simp [intOf]; omega
                · have ha0z : ¬ (0 : Int) < (a1 : Int) := by omega
                  try go_wp2_with fail
                  go_quiet (fail)
                  have SE : Hid (SU w0 blk off D (W.drewN nq)) := Lib.hid (SD.out.drewN nq)
                  clear hcw hfw SD
                  generalize W.drewN nq = W4 at SE ⊢
                  have hC := upart_any blk off cap a1 b1 pv d0 D w0 W4 RR.out (by have := HS.out; omega) SE.out hp1 hp2 (by omega) (by omega)
                  rw [hsD] at hC
                  go_wp2_with fail
                  refine hC.mono ?_
                  rintro e W5 ⟨mid, ap, D4, hx, rfl, S4'⟩
                  have Q := Lib.hid (round_part swo_ltInt (partition_holds ltInt) hp1 hp2 (by omega) HD.out.1 hx)
                  have S4 := Lib.hid S4'
                  have hm1 := Q.out.1
                  have hm2 := Q.out.2.1
                  have hs4 : D4.size = d.size := by rw [Q.out.2.2.1]; exact hsD
                  clear hC S4' hx SE
                  go_wp2_with fail
                  · have hI := IH.out (mid - a1) (by omega) a1 mid z D4 W5 (Nat.le_refl _) (by have := HS.out; omega) S4.out (by omega) (by omega) hsz hz Q.out.2.2.2.1
                    rw [hs4] at hI
                    refine hI.mono ?_
                    rintro e W' ⟨rfl, R1, P1, Q1, S6⟩
                    have L1 := Lib.hid (Q.out.2.2.2.2.2.1 R1 P1 Q1)
                    have S7 := Lib.hid S6
                    have hsR : R1.size = d.size := by rw [P1.1]; exact hs4
                    clear hI P1 Q1 S6 S4 IH
                    go_wp2
                    go_roundw
                    case rel => exact ⟨mid + 1, b1, z, R1, by go_num, rfl, rfl, hz.1, hz.2, Lib.hid ⟨_, rfl⟩, Lib.hid ⟨_, rfl⟩, by omega, by omega, hbb, hsR, S7, Lib.hid ⟨L1.out.1, fun R h1 h2 => HD.out.2 R (L1.out.2 R h1 h2).1 (L1.out.2 R h1 h2).2⟩⟩
                    case measure => simp [intOf]; omega
                  · rw [show ((mid : Int) + 1) = ((mid + 1 : Nat) : Int) by omega]
                    have hI := IH.out (b1 - (mid + 1)) (by omega) (mid + 1) b1 z D4 W5 (Nat.le_refl _) (by have := HS.out; omega) S4.out (by omega) (by omega) hsz hz Q.out.2.2.2.2.1
                    rw [hs4] at hI
                    refine hI.mono ?_
                    rintro e W' ⟨rfl, R1, P1, Q1, S6⟩
                    have L1 := Lib.hid (Q.out.2.2.2.2.2.2 R1 P1 Q1)
                    have S7 := Lib.hid S6
                    have hsR : R1.size = d.size := by rw [P1.1]; exact hs4
                    clear hI P1 Q1 S6 S4 IH
                    go_wp2
                    go_roundw
                    case rel => exact ⟨a1, mid, z, R1, rfl, by go_num, rfl, hz.1, hz.2, Lib.hid ⟨_, rfl⟩, Lib.hid ⟨_, rfl⟩, by omega, by omega, by omega, hsR, S7, Lib.hid ⟨L1.out.1, fun R h1 h2 => HD.out.2 R (L1.out.2 R h1 h2).1 (L1.out.2 R h1 h2).2⟩⟩
                    case measure => simp [intOf]; omega
end Go.Proofs.YtpchncpcckfghaaGreat
namespace Go.Proofs.YtpchncpcckfghaaGreat
open Go.RowKit Go.Sort
theorem pdqOK_any {n : Nat} (hn : n ≤ 1000000) : PdqOK n := fun blk cap d w hs hb hh => by
  subst hs
  have hl : Lib.bitLen d.size ≤ 64 := Lib.bitLen_le d.size 64 (by omega) (by omega)
  exact updq_go blk 0 cap d w ⟨oneU, hh, hb⟩ hn d.size 0 d.size _ d w (by omega) rfl (SW.start hh) (Nat.zero_le _) (Nat.le_refl _) ⟨by omega, by omega⟩ (Or.inl rfl)
end Go.Proofs.YtpchncpcckfghaaGreat
namespace Go.Proofs.YtpchncpcckfghaaGreat
open Go.RowKit
set_option linter.unusedVariables false
set_option linter.unusedSimpArgs false
theorem prints_fing {A : List AlD} {n : Nat} (h : n = A.length) : printsL A n = fingA A := fing_is A h
theorem sameS_refl (d : SpD) : sameS d d = true := by
  unfold sameS
  rw [(sameA_iff _ _).2 rfl, (sameA_iff _ _).2 rfl]
  simp [sameM]
end Go.Proofs.YtpchncpcckfghaaGreat
namespace Go.Proofs.YtpchncpcckfghaaGreat
open Go.RowKit
set_option linter.unusedVariables false
set_option linter.unusedSimpArgs false
structure TwoX {α : Type} (enc : α → List Value) (e : TypeId) (k : Nat) (base : Nat) (w : World) (v1 v2 : Value) (l1 l2 : List α) : Prop where
  o1 : w.ownsRow base e k v1 l1.length (l1.flatMap enc)
  o2 : w.ownsRow base e k v2 l2.length (l2.flatMap enc)
  b : base ≤ w.heap.size
  ne : ∀ q, v1.ownBlock = some q → v2.ownBlock = some q → False
theorem TwoX.symm {α : Type} {enc : α → List Value} {e : TypeId} {k base : Nat} {w : World} {v1 v2 : Value} {l1 l2 : List α} (h : TwoX enc e k base w v1 v2 l1 l2) : TwoX enc e k base w v2 v1 l2 l1 := ⟨h.o2, h.o1, h.b, fun q a c => h.ne q c a⟩
theorem TwoX.nil {α : Type} (enc : α → List Value) (e : TypeId) (k : Nat) (w : World) : TwoX enc e k w.heap.size w (.slice none 0 0) (.slice none 0 0) [] [] := ⟨own_nil _ _ _ _, own_nil _ _ _ _, Nat.le_refl _, by intro q h; cases h⟩
theorem TwoX.below {α : Type} {enc : α → List Value} {e : TypeId} {k base : Nat} {w W : World} {v1 v2 : Value} {l1 l2 : List α} (h : TwoX enc e k base w v1 v2 l1 l2) (hb : Below w.heap.size w W) : TwoX enc e k base W v1 v2 l1 l2 :=
  ⟨own_below h.o1 hb, own_below h.o2 hb, Nat.le_trans h.b hb.size, h.ne⟩
theorem TwoX.belowE {α : Type} {enc : α → List Value} {e : TypeId} {k base : Nat} {w W : World} {v1 v2 : Value} {l1 l2 : List α} {X : List Nat} (h : TwoX enc e k base w v1 v2 l1 l2) (hb : BelowE X w.heap.size w W) (hX : ∀ x ∈ X, x < base) : TwoX enc e k base W v1 v2 l1 l2 :=
  ⟨own_belowE h.o1 hb (fun q hq hx => by have := (h.o1.lt q hq).1; have := hX q hx; omega), own_belowE h.o2 hb (fun q hq hx => by have := (h.o2.lt q hq).1; have := hX q hx; omega), Nat.le_trans h.b hb.size, h.ne⟩
theorem TwoX.read {α : Type} {enc : α → List Value} {e : TypeId} {k base : Nat} (hk : ∀ x, (enc x).length = k) (h0 : 0 < k) {w : World} {v1 v2 : Value} {l1 l2 : List α} (h : TwoX enc e k base w v1 v2 l1 l2) :
    ∃ a1 c1 a2 c2, v1 = .slice a1 l1.length c1 ∧ v2 = .slice a2 l2.length c2 ∧ RO enc w a1 l1.length c1 l1 ∧ RO enc w a2 l2.length c2 l2 := by
  obtain ⟨a1, c1, rfl, p1, p2, p3⟩ := seesC_own h.o1
  obtain ⟨a2, c2, rfl, q1, q2, q3⟩ := seesC_own h.o2
  exact ⟨a1, c1, a2, c2, rfl, rfl, ⟨rfl, p1, p2, p3⟩, ⟨rfl, q1, q2, q3⟩⟩
theorem wp_append_twoX {P : Program} {α : Type} {enc : α → List Value} {e t : TypeId} {k bytes base : Nat} {o : Oper} {a : Act} {K : Act → World → Prop} {Q : Exit → Act → World → Prop} (w : World) (s x : Operand)
    (hop : o.op = Op.call { callee := Callee.builtin Builtin.append, args := #[s, x], argTypes := #[t, t] })
    (i : TypeInfo) (z : Value) (ht : P.underlying t = some (.slice e)) (hi : P.info? e = some i) (hz : i.zero = some z) (hsize : i.size = k) (hby : i.bytes = bytes) (hzs : z.cells.size = k) (hk0 : 0 < k) (hk : ∀ x, (enc x).length = k) (hbs : bytes ≤ 200) (h1c : ∀ x, ∀ u ∈ enc x, u.oneCell' = true)
    (v1 v2 : Value) (l1 l2 : List α) (h : TwoX enc e k base w v1 v2 l1 l2) (y : α) (A : Option Addr) (hS : SeesC w.heap.size w A (enc y))
    (hsv : a.eval s = v1) (hx : a.eval x = .slice A 1 1) (hn : l1.length ≤ 1000000)
    (hK : ∀ v' w', TwoX enc e k base w' v' v2 (l1 ++ [y]) l2 → Below base w w' → K (a.put o.dst v') w') :
    o.wp P a w K Q := by
  have hbb : (l1.length + 1) * bytes ≤ 140737488355328 := by
    have : (l1.length + 1) * bytes ≤ 1000001 * 200 := Nat.mul_le_mul (by omega) hbs
    omega
  obtain ⟨v', w', hrun, g1, g2, g3⟩ := run_append_cellsB (P := P) w base t o.type e i z k bytes ht hi hz hsize hby hzs hk0 v1 l1.length (l1.flatMap enc) h.o1 w.heap.size A 1 1 (enc y) (by rw [hk]; omega) hS (fun u hu => h1c y u hu) (by unfold maxLen; omega) hbb h.b
  unfold Oper.wp
  simp [execOp, hop, resolve, invoke, builtin, hsv, hx, hrun, Result.andThen]
  have hks : v2.ownBlock = none ∨ v2.ownBlock ≠ v1.ownBlock := by
    cases ee : v2.ownBlock with
    | none => exact .inl rfl
    | some q => exact .inr fun e2 => h.ne q e2.symm ee
  have hbb2 : Below base w w' := (Below.refl _ _).grown g2 h.b fun q hq => (h.o1.lt q hq).1
  refine hK v' w' ⟨by rw [List.flatMap_append, List.length_append]; simpa using g1, h.o2.kept g2 hks, Nat.le_trans h.b hbb2.size, ?_⟩ hbb2
  intro q e1 e2
  rcases g3 with g3 | g3
  · exact h.ne q (g3 ▸ e1) e2
  · rw [g3] at e1
    injection e1 with e1
    have := (h.o2.lt q e2).2
    omega
end Go.Proofs.YtpchncpcckfghaaGreat
