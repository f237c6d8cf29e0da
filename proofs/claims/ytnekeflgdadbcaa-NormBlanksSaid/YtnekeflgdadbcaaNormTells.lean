/- NormTells: the walk of the statement's function. -/
import Derived.Test.YtnekeflgdadbcaaNormLives
namespace Go.Proofs.Ytnekeflgdadbcaa
open Go.RowKit
set_option linter.unusedVariables false
set_option linter.unusedSimpArgs false

theorem beq_same (a : ByteArray) : (a.toList == a.toList) = true := by simp
theorem norm_texts (s t : ByteArray) : ((strOfNums (normS (codes s))).toList == (strOfNums (normS (codes t))).toList) = decide (partsL (codes s) = partsL (codes t)) := by
  have hbs := norm_bs (parts_bs _ (Nat.le_refl _) (codes_bs s)) false
  have hbt := norm_bs (parts_bs _ (Nat.le_refl _) (codes_bs t)) false
  by_cases h : partsL (codes s) = partsL (codes t)
  · rw [decide_eq_true h, (normS_inj _ _).2 h]; simp
  · rw [decide_eq_false h]
    exact str_ne hbs hbt (fun e => h ((normS_inj _ _).1 e))
/-- Two rows of texts that calls have made, one behind the other, and the document's Same of them. -/
theorem same_rows (p q : List (List Int)) (hp : ∀ l ∈ p, Bs l) (hq : ∀ l ∈ q, Bs l) (hlp : p.length ≤ 100000) (hlq : q.length ≤ 100000) (a1 a2 : Option Addr) (c1 c2 : Nat) (k1 : p.length ≤ c1) (k2 : q.length ≤ c2) (w : World)
    (s1 : SeesT w.heap.size w a1 (p.map strOfNums)) (s2 : SeesT w.heap.size w a2 (q.map strOfNums)) : Calls Try.prog 9 #[.slice a1 p.length c1, .slice a2 q.length c2] w (Gives (.bool (decide (p = q))) w) := by
  have := same_any a1 p.length c1 (p.map strOfNums) a2 q.length c2 (q.map strOfNums) w (by simp) (by simp) k1 k2 hlp hlq s1 s2
  rwa [map_str_inj hp hq] at this

set_option maxRecDepth 100000 in
set_option maxHeartbeats 4000000 in
theorem normTells_walk (w : World) (s : ByteArray) (hs : s.size ≤ maxLen) (hs2 : s.size ≤ 140737488351232) (t : ByteArray) (ht : t.size ≤ maxLen) (ht2 : t.size ≤ 140737488351232) :
    Calls Try.prog 3 #[.string s, .string t] w (Gives (.bool true) w) := by
  have hl := Lib.hid (fun W => lives_any W)
  have hss : s.size ≤ 9223372036854775807 := by omega
  have htt : t.size ≤ 9223372036854775807 := by omega
  by_cases hb : s.size ≤ 1000 ∧ t.size ≤ 1000
  · obtain ⟨h1, h2⟩ := hb
    have hNs := Lib.hid (fun W => norm_any s (by omega) W)
    have hNt := Lib.hid (fun W => norm_any t (by omega) W)
    have hRs := Lib.hid (fun W => rparts_any s (by omega) W)
    have hRt := Lib.hid (fun W => rparts_any t (by omega) W)
    have hPs := Lib.hid (fun W => parts_any s (by omega) W)
    have hRn := Lib.hid (fun W => rnorm_any s (by omega) W)
    have hSm := Lib.hid (fun W => nsame_any s t (by omega) (by omega) W)
    have hxy := norm_texts s t
    have hbp : Hid (∀ l ∈ partsL (codes s), Bs l) := Lib.hid (parts_bs _ (Nat.le_refl _) (codes_bs s))
    have hbq : Hid (∀ l ∈ partsL (codes t), Bs l) := Lib.hid (parts_bs _ (Nat.le_refl _) (codes_bs t))
    have hlp : Hid ((partsL (codes s)).length ≤ 100000) := Lib.hid (by have := parts_len (codes s); rw [codes_length] at this; omega)
    have hlq : Hid ((partsL (codes t)).length ≤ 100000) := Lib.hid (by have := parts_len (codes t); rw [codes_length] at this; omega)
    clear hs hs2 ht ht2 hss htt
    generalize strOfNums (normS (codes s)) = X at *
    generalize strOfNums (normS (codes t)) = Y at *
    generalize partsL (codes s) = p at *
    generalize partsL (codes t) = q at *
    have hSR := Lib.hid (same_rows p q hbp.out hbq.out hlp.out hlq.out)
    have hSP := Lib.hid (same_rows p p hbp.out hbp.out hlp.out hlp.out)
    rw [show decide (p = p) = true by simp] at hSP
    generalize decide (p = q) = d at *
    have hXX := beq_same X
    clear hbp hbq hlp hlq
    have h1i : (s.size : Int) ≤ 1000 := by omega
    have h2i : (t.size : Int) ≤ 1000 := by omega
    clear h1 h2
    go_enter Try.func3, Try.ntmps3
    go_wp2_with fail
    refine (hNs.out w).mono ?_
    rintro e w1 ⟨rfl, b1⟩
    have B1 := Lib.hid b1
    clear b1 hNs
    go_wp2_with fail
    refine (hNt.out w1).mono ?_
    rintro e w2 ⟨rfl, b2⟩
    have B2 := Lib.hid (B1.out.trans (b2.mono B1.out.size))
    clear b2 hNt B1
    go_wp2_with fail
    refine (hRs.out w2).mono ?_
    rintro e w3 h3
    obtain ⟨a3, c3, rfl, k3, s3, b3⟩ := h3.open
    have B3 := Lib.hid (B2.out.trans (b3.mono B2.out.size))
    have S3 := Lib.hid s3
    have K3 : Hid (p.length ≤ c3) := Lib.hid (by simpa using k3)
    clear h3 s3 b3 k3 B2
    go_wp2_with fail
    refine (hRt.out w3).mono ?_
    rintro e w4 h4
    obtain ⟨a4, c4, rfl, k4, s4, b4⟩ := h4.open
    have B4 := Lib.hid (B3.out.trans (b4.mono B3.out.size))
    have hc := Lib.hid (hSR.out a3 a4 c3 c4 K3.out (by simpa using k4) w4 ((S3.out.below b4).mono b4.size) s4)
    clear h4 s4 b4 k4 B3 S3 K3 hSR hRt
    go_wp2_with fail
    refine hc.out.mono ?_
    rintro e w5 ⟨rfl, b5⟩
    have B5 := Lib.hid (B4.out.trans (b5.mono B4.out.size))
    clear b5 B4 hc
    go_wp2_with fail
    refine (hl.out w5).mono ?_
    rintro e w6 ⟨rfl, b6⟩
    have B6 := Lib.hid (B5.out.trans (b6.mono B5.out.size))
    clear b6 B5 hl
    go_wp2_with fail
    refine (hPs.out w6).mono ?_
    rintro e w7 h7
    obtain ⟨a7, c7, rfl, k7, s7, b7⟩ := h7.open
    have B7 := Lib.hid (B6.out.trans (b7.mono B6.out.size))
    have S7 := Lib.hid s7
    have K7 : Hid (p.length ≤ c7) := Lib.hid (by simpa using k7)
    clear h7 s7 b7 k7 B6 hPs
    go_wp2_with fail
    refine (hRs.out w7).mono ?_
    rintro e w8 h8
    obtain ⟨a8, c8, rfl, k8, s8, b8⟩ := h8.open
    have B8 := Lib.hid (B7.out.trans (b8.mono B7.out.size))
    have hc := Lib.hid (hSP.out a7 a8 c7 c8 K7.out (by simpa using k8) w8 ((S7.out.below b8).mono b8.size) s8)
    clear h8 s8 b8 k8 B7 S7 K7 hSP hRs
    go_wp2_with fail
    refine hc.out.mono ?_
    rintro e w9 ⟨rfl, b9⟩
    have B9 := Lib.hid (B8.out.trans (b9.mono B8.out.size))
    clear b9 B8 hc
    go_wp2_with fail
    refine (hRn.out w9).mono ?_
    rintro e w10 ⟨rfl, b10⟩
    have B10 := Lib.hid (B9.out.trans (b10.mono B9.out.size))
    clear b10 B9 hRn
    go_wp2_with fail
    refine (hSm.out w10).mono ?_
    rintro e w11 ⟨rfl, b11⟩
    have B11 := Lib.hid (B10.out.trans (b11.mono B10.out.size))
    clear b11 B10 hSm
    cases d
    · go_wp2_with fail
      go_ret
      exact ⟨rfl, B11.out⟩
    · go_wp2_with fail
      go_ret
      exact ⟨rfl, B11.out⟩
  · by_cases h1 : s.size ≤ 1000
    · have h1i : (s.size : Int) ≤ 1000 := by omega
      have h2i : ¬ (t.size : Int) ≤ 1000 := by omega
      clear hb h1
      go_enter Try.func3, Try.ntmps3
      go_wp2_with fail
      refine (hl.out w).mono ?_
      rintro e w1 ⟨rfl, b1⟩
      go_wp2_with fail
      go_ret
      exact ⟨rfl, b1⟩
    · have h1i : ¬ (s.size : Int) ≤ 1000 := by omega
      clear hb h1
      go_enter Try.func3, Try.ntmps3
      go_wp2_with fail
      refine (hl.out w).mono ?_
      rintro e w1 ⟨rfl, b1⟩
      go_wp2_with fail
      go_ret
      exact ⟨rfl, b1⟩
end Go.Proofs.Ytnekeflgdadbcaa
