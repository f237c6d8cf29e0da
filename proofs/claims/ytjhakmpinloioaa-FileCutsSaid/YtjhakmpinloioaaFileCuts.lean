/- FileCuts: what was written stands there up to a byte. -/
import Derived.Test.YtjhakmpinloioaaFileLives
import Derived.Test.YtjhakmpinloioaaByteRows
namespace Go.Proofs.Ytjhakmpinloioaa
open Go.RowKit
set_option linter.unusedVariables false
set_option linter.unusedSimpArgs false

theorem byt_row' {H : Type} {enc : TypeId × Value → H} {w : World} {fuel : Nat} {r : Option Addr} {len cap : Nat} {x : DataW H × List MemPlace}
    (h : DataW.trod enc Try.prog w 0 (fun _ => true) true fuel 34 [.slice r len cap] = some x) : BytSl w r len cap :=
  byt_row Try.underlying34 Try.underlying30 Try.underlying5 (by kernel_rfl) (by kernel_rfl) h

def catZ (Z : Nat → List Int) : Nat → List Int
  | 0 => []
  | k + 1 => catZ Z k ++ Z k
def CutSt (c : List Int) (K : Nat) : St := if c.length ≤ K then ⟨upd (fun _ => []) 0 c, false, true, K - c.length⟩ else ⟨upd (fun _ => []) 0 (c.take K), true, false, 0⟩
theorem cutSt_fine (c : List Int) (K : Nat) (h : c.length ≤ 4194304) (hK : (K : Int) ≤ 9223372036854775807) : (CutSt c K).fine := by
  unfold CutSt St.fine
  split
  · refine ⟨by simpa [upd] using h, by simp [upd], ?_⟩
    simp; omega
  · refine ⟨by simp [upd]; omega, by simp [upd], by simp⟩
theorem upd_upd (l : Nat → List Int) (n : Nat) (x y : List Int) : upd (upd l n x) n y = upd l n y := by
  funext i; simp [upd]; split <;> rfl
theorem upd_at (l : Nat → List Int) (n : Nat) (x : List Int) : upd l n x n = x := by simp [upd]
theorem write_cutSt (c b : List Int) (K : Nat) (h : c.length + b.length ≤ 4194304) : writeO (CutSt c K) 0 b = (if c.length + b.length ≤ K then 0 else 280, CutSt (c ++ b) K) := by
  by_cases h1 : c.length ≤ K
  · have h2 : CutSt c K = ⟨upd (fun _ => []) 0 c, false, true, K - c.length⟩ := by unfold CutSt; rw [if_pos h1]
    rw [h2]
    have h3 : ¬ 4194304 < c.length + b.length := by omega
    by_cases h4 : c.length + b.length ≤ K
    · have h5 : ¬ K - c.length < b.length := by omega
      have h6 : CutSt (c ++ b) K = ⟨upd (fun _ => []) 0 (c ++ b), false, true, K - (c ++ b).length⟩ := by unfold CutSt; rw [if_pos (by simpa using h4)]
      rw [h6, if_pos h4]
      have h7 : b.length ≤ K - c.length := by omega
      simp [writeO, upd_upd, upd_at, h3, St.code, St.after, St.paid, St.with_, h5, Nat.min_eq_left h7]
      omega
    · have h5 : K - c.length < b.length := by omega
      have h6 : CutSt (c ++ b) K = ⟨upd (fun _ => []) 0 ((c ++ b).take K), true, false, 0⟩ := by unfold CutSt; rw [if_neg (by simpa using h4)]
      rw [h6, if_neg h4]
      have h7 : K - c.length ≤ b.length := by omega
      have h8 : (c ++ b).take K = c ++ b.take (K - c.length) := by rw [List.take_append, List.take_of_length_le h1]
      rw [h8]
      simp [writeO, upd_upd, upd_at, h3, St.code, St.after, St.paid, St.with_, h5, Nat.min_eq_right h7]
  · have h2 : CutSt c K = ⟨upd (fun _ => []) 0 (c.take K), true, false, 0⟩ := by unfold CutSt; rw [if_neg h1]
    have h6 : CutSt (c ++ b) K = ⟨upd (fun _ => []) 0 ((c ++ b).take K), true, false, 0⟩ := by unfold CutSt; rw [if_neg (by simp; omega)]
    rw [h2, h6, List.take_append_of_le_length (by omega), if_neg (by omega)]
    simp [writeO]
theorem read_cutSt (c : List Int) (K : Nat) : readO (wakeO (CutSt c K)) 0 = (if c.length ≤ K then c else c.take K, 0) := by
  unfold CutSt
  split <;> simp [readO, wakeO, upd]

set_option maxRecDepth 100000 in
set_option maxHeartbeats 4000000 in
theorem fileCuts_walk (w : World) (ro : Option Addr) (len co : Nat) (hrow : BytSl w ro len co) (kk : Int) (hkk : (Lit.int .i64 kk).wf = true) :
    Calls Try.prog 4 #[.slice ro len co, .int .i64 kk] w (Gives (.bool true) w) := by
  obtain ⟨hlc, hcm, A, L, C, Z, hops⟩ := hrow
  have hkk2 := (i64_wf hkk).2
  unfold maxLen at hcm
  by_cases hbig : 60 < len
  · go_enter Try.func4, Try.ntmps4
    go_wp2_with fail
    refine (lives_any _).mono ?_
    rintro e w' ⟨rfl, hb'⟩
    go_wp2
    go_ret
    exact ⟨rfl, hb'⟩
  have hd1 : decide ((60 : Int) < (len : Int)) = false := by simp; omega
  by_cases hneg : kk < 0
  · clear hbig
    go_enter Try.func4, Try.ntmps4
    go_wp2_with fail
    refine (lives_any _).mono ?_
    rintro e w' ⟨rfl, hb'⟩
    go_wp2
    go_ret
    exact ⟨rfl, hb'⟩
  obtain ⟨K, rfl⟩ := Int.eq_ofNat_of_zero_le (show 0 ≤ kk by omega)
  have hn1 : ¬ ((K : Int) < 0) := by omega
  have hll : len ≤ 60 := by omega
  have hK : (K : Int) ≤ 9223372036854775807 := by omega
  have hops' := Lib.hid hops
  have hlc' := Lib.hid hlc
  clear hbig hneg hkk hkk2 hops hlc
  go_enter Try.func4, Try.ntmps4
  go_wp2_with fail
  refine (new_any w).mono ?_
  rintro e w1 ⟨d, F0, rfl, D, b1, f1⟩
  go_wp2_with fail
  refine (lives_any w1).mono ?_
  rintro e w2 ⟨rfl, h⟩
  have D2 := D.below h
  replace b1 := b1.trans (h.mono b1.size)
  clear h D
  go_wp2_with fail
  refine (arm_any d F0 _ K hK w2 D2).mono ?_
  rintro e w3 ⟨rfl, D3, x3⟩
  have b3 : Below w.heap.size w w3 := b1.trans ((x3.mono b1.size).toBelow (by simpa using f1 d D2.mem))
  have D3' : Hid (Dk w3 d F0 (CutSt [] K)) := Lib.hid (D3.same (by simp [CutSt, armO, upd]) (by simp [CutSt, armO, upd]) (by simp [CutSt, armO]) (by simp [CutSt, armO]) (by simp [CutSt, armO]))
  have b3' := Lib.hid b3
  have f1' := Lib.hid f1
  clear x3 b1 D2 D3 b3 f1
  go_wp2
  go_loopw [6, 7] (fun s i wr => ∃ (k : Nat) (F : List Nat), k ≤ len ∧ Hid ((catZ Z k).length ≤ 300 * k) ∧ Hid (∀ x ∈ F, w.heap.size ≤ x) ∧ s = .string (strOfNums (catZ Z k)) ∧ i = .int .i64 k ∧ Hid (Dk wr d F (CutSt (catZ Z k) K)) ∧ Hid (Below w.heap.size w wr)) (fun _ i _ => len - (intOf i).toNat)
  case atStart => exact ⟨0, F0, Nat.zero_le _, Lib.hid (by simp [catZ]), f1', rfl, rfl, D3', b3'⟩
  case round =>
    obtain ⟨k, F, hk, hc, hF, rfl, rfl, hD, hB⟩ := hrel
    by_cases hlt : k < len
    · obtain ⟨b, off, rfl, hbl, g0, g1, g2, g3, g4, g5⟩ := hops'.out.at_ hB.out hlt
      have hcl := hc.out
      by_cases hlong : 300 < L k
      · have hd3 : decide ((300 : Int) < (L k : Int)) = true := by simp; omega
        clear hD hF hc g3 g4 g5 g2
        go_wp2
        go_ret
        exact ⟨rfl, hB.out⟩
      · have hd3 : ¬ ((300 : Int) < (L k : Int)) := by omega
        have hfine := cutSt_fine (catZ Z k) K (by omega) hK
        have hdw : w.heap.size ≤ d := hF.out d hD.out.mem
        have hw := write_any d F (CutSt (catZ Z k) K) 0 (A k) (L k) (C k) (Z k) wr hD.out hfine g3.symm ((g5.out (X := [d]) (by simpa using hdw)).mono hB.out.size) g1 (by omega)
        rw [write_cutSt (catZ Z k) (Z k) K (by omega)] at hw
        have hcv' : Hid (∀ w4, Below w.heap.size w w4 → w4.cell? ⟨b, off + k, none⟩ = some (.slice (A k) (L k) (C k)) ∧ (convert 30 9 (.slice (A k) (L k) (C k))).run Try.prog w4 = .ok (.string (strOfNums (Z k))) w4) := Lib.hid fun w4 b4 => by
          obtain ⟨b2, off2, hr, -, k0, -, -, -, -, k5⟩ := hops'.out.at_ b4 hlt
          injection hr with hr
          injection hr with hr1 hr2
          subst hr1 hr2
          exact ⟨k0, conv_sees _ 9 5 Try.underlying30 Try.underlying5 Try.underlying9 k5 (L k) (C k) g3.symm⟩
        have hs12 : Hid (strOfNums (catZ Z (k + 1)) = strOfNums (catZ Z k) ++ strOfNums (Z k)) := Lib.hid (by rw [catZ, str_append])
        have hc1 : Hid ((catZ Z (k + 1)).length ≤ 300 * (k + 1)) := Lib.hid (by rw [catZ]; simp; omega)
        have hsz1 : (strOfNums (catZ Z k)).size = (catZ Z k).length := strOfNums_size _
        have hsz2 : (strOfNums (Z k)).size = (Z k).length := strOfNums_size _
        have hsum : ¬ 9223372036854775807 < (strOfNums (catZ Z k)).size + (strOfNums (Z k)).size := by omega
        rw [show catZ Z k ++ Z k = catZ Z (k + 1) from rfl] at hw
        by_cases hfit : (catZ Z k).length + (Z k).length ≤ K
        · rw [if_pos hfit] at hw
          have hfi : ((strOfNums (catZ Z k)).size : Int) + ((strOfNums (Z k)).size : Int) ≤ (K : Int) := by omega
          have hw' := Lib.hid hw
          clear hw hfit hsz1 hsz2 hfine g3 g4 g5 g2 hcl
          generalize strOfNums (catZ Z k) = s1 at *
          generalize strOfNums (Z k) = s2 at *
          generalize A k = ak at *
          generalize L k = lk at *
          generalize C k = ck at *
          go_wp2_with fail
          refine hw'.out.mono ?_
          rintro e w4 ⟨rfl, F4, D4, t4⟩
          obtain ⟨b4, f4⟩ := t4.all hB.out hF.out
          obtain ⟨g6, g7⟩ := hcv'.out w4 b4
          have D4' := Lib.hid D4
          have b4' := Lib.hid b4
          have f4' := Lib.hid f4
          clear D4 t4 b4 f4 hD hB hF
          go_wp2
          go_roundw
          case rel => exact ⟨k + 1, F4, by omega, hc1, f4', by rw [hs12.out], by go_num, D4', b4'⟩
          case measure => simp [intOf]; omega
        · rw [if_neg hfit] at hw
          have hfi : ¬ ((strOfNums (catZ Z k)).size : Int) + ((strOfNums (Z k)).size : Int) ≤ (K : Int) := by omega
          have hw' := Lib.hid hw
          clear hw hfit hsz1 hsz2 hfine g3 g4 g5 g2 hcl
          generalize strOfNums (catZ Z k) = s1 at *
          generalize strOfNums (Z k) = s2 at *
          generalize A k = ak at *
          generalize L k = lk at *
          generalize C k = ck at *
          go_wp2_with fail
          refine hw'.out.mono ?_
          rintro e w4 ⟨rfl, F4, D4, t4⟩
          obtain ⟨b4, f4⟩ := t4.all hB.out hF.out
          obtain ⟨g6, g7⟩ := hcv'.out w4 b4
          have D4' := Lib.hid D4
          have b4' := Lib.hid b4
          have f4' := Lib.hid f4
          clear D4 t4 b4 f4 hD hB hF
          go_wp2
          go_roundw
          case rel => exact ⟨k + 1, F4, by omega, hc1, f4', by rw [hs12.out], by go_num, D4', b4'⟩
          case measure => simp [intOf]; omega
    · have hcl := hc.out
      have hfine := cutSt_fine (catZ Z k) K (by omega) hK
      have hdm : w.heap.size ≤ d := hF.out d hD.out.mem
      have hwake := Lib.hid (wake_any d F (CutSt (catZ Z k) K) wr hD.out)
      have hrd := read_cutSt (catZ Z k) K
      have hsz1 : (strOfNums (catZ Z k)).size = (catZ Z k).length := strOfNums_size _
      have hwfine : (wakeO (CutSt (catZ Z k) K)).fine := ⟨hfine.1, hfine.2.1, hfine.2.2⟩
      by_cases hfit : (catZ Z k).length ≤ K
      · rw [if_pos hfit] at hrd
        have hfi : ((strOfNums (catZ Z k)).size : Int) ≤ (K : Int) := by omega
        clear hfit hsz1 hfine hcl
        go_wp2_with fail
        refine hwake.out.mono ?_
        rintro e w4 ⟨rfl, D4, x4⟩
        have b4 : Below w.heap.size w w4 := hB.out.trans ((x4.mono hB.out.size).toBelow (by simpa using hdm))
        clear x4 hD hB
        go_wp2_with fail
        refine (read_any d F _ 0 w4 D4 hwfine).mono ?_
        rw [hrd]
        rintro e w5 ⟨v5, rfl, o5, c5⟩
        have b5 := Lib.hid (b4.trans (c5.mono b4.size))
        obtain ⟨a5, k5, rfl, -, s5⟩ := sees_own o5
        have hcv : (convert 30 9 (.slice a5 (catZ Z k).length k5)).run Try.prog w5 = .ok (.string (strOfNums (catZ Z k))) w5 := conv_sees _ 9 5 Try.underlying30 Try.underlying5 Try.underlying9 s5 _ k5 rfl
        clear b4 c5 o5 s5 D4 hwfine hwake hrd hc hF
        generalize strOfNums (catZ Z k) = s1 at *
        generalize (catZ Z k).length = n1 at *
        go_wp2
        go_ret
        exact ⟨rfl, b5.out⟩
      · rw [if_neg hfit] at hrd
        have hfi : ¬ ((strOfNums (catZ Z k)).size : Int) ≤ (K : Int) := by omega
        have hK2 : (K : Int) ≤ ((strOfNums (catZ Z k)).size : Int) := by omega
        have hsl : ∀ W, (Instr.slice 9 (.string (strOfNums (catZ Z k))) none (some (.int .i64 (K : Int))) none).run Try.prog W = .ok (.string (strOfNums ((catZ Z k).take K))) W := fun W => by
          rw [← str_take]
          have := run_slice_string_h W 9 (strOfNums (catZ Z k)) Try.underlying9 .i64 (K : Int) (by omega) hK2
          simpa using this
        clear hfit hsz1 hfine hcl
        go_wp2_with fail
        refine hwake.out.mono ?_
        rintro e w4 ⟨rfl, D4, x4⟩
        have b4 : Below w.heap.size w w4 := hB.out.trans ((x4.mono hB.out.size).toBelow (by simpa using hdm))
        clear x4 hD hB
        go_wp2_with fail
        refine (read_any d F _ 0 w4 D4 hwfine).mono ?_
        rw [hrd]
        rintro e w5 ⟨v5, rfl, o5, c5⟩
        have b5 := Lib.hid (b4.trans (c5.mono b4.size))
        obtain ⟨a5, k5, rfl, -, s5⟩ := sees_own o5
        have hcv : ∀ n, (convert 30 9 (.slice a5 ((catZ Z k).take K).length k5)).run Try.prog (w5.drewN n) = .ok (.string (strOfNums ((catZ Z k).take K))) (w5.drewN n) := fun n => conv_sees _ 9 5 Try.underlying30 Try.underlying5 Try.underlying9 (s5.drewN n) _ k5 rfl
        clear b4 c5 o5 s5 D4 hwfine hwake hrd hc hF
        generalize strOfNums (catZ Z k) = s1 at *
        generalize strOfNums ((catZ Z k).take K) = s2 at *
        generalize ((catZ Z k).take K).length = n2 at *
        go_wp2
        go_quiet (fail)
        go_wp2
        go_ret
        exact ⟨rfl, Below.drewN b5.out _⟩
end Go.Proofs.Ytjhakmpinloioaa
