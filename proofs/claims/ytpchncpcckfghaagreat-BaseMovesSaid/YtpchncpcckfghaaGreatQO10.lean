/-
  Words and walks under the law's proof.
-/
import Derived.Test.YtpchncpcckfghaaGreatQO07
import Derived.Test.YtpchncpcckfghaaGreatQO08
import Derived.Test.YtpchncpcckfghaaGreatQO09
namespace Go.Proofs.YtpchncpcckfghaaGreat
open Go.RowKit
set_option linter.unusedVariables false
set_option linter.unusedSimpArgs false
theorem ofR_note {fs : List Int} {s : ByteArray} {t : MkD} (h : t ∈ ofR fs s) : t.note = s ∧ t.f ∈ fs := by
  have h1 := look_mem (ofR_rise fs s) h
  rw [ofR_look] at h1
  split at h1
  · rename_i h2
    injection h1 with h1
    exact ⟨h1.symm, h2⟩
  · cases h1
theorem ofR_base {fs : List Int} {s : ByteArray} (hs : noteB s = true) (hn : fs.length ≤ 1024) : baseB (ofR fs s) = true := by
  refine baseB_yes (Nat.le_trans (ofR_len fs s) hn) fun i hi => ?_
  have e : (ofR fs s).getD i mk0 = (ofR fs s)[i] := by simp [List.getD, hi]
  unfold okAt
  rw [e, (ofR_note (List.getElem_mem hi)).1, hs, Bool.true_and]
  by_cases h0 : i = 0
  · simp [h0]
  · have hi1 : i - 1 < (ofR fs s).length := by omega
    have e1 : (ofR fs s).getD (i - 1) mk0 = (ofR fs s)[i - 1] := by simp [List.getD, hi1]
    rw [e1, decide_eq_true ((List.pairwise_iff_getElem.1 (ofR_rise fs s)) (i - 1) i hi1 hi (by omega)), Bool.or_true]
theorem apl_all {α : Type} {d : α} {p : Nat → Bool} {l : List α} : ∀ {k : Nat}, k ≤ l.length → (∀ i, i < k → p i = true) → partL d p true l k = l.take k ∧ partL d p false l k = []
  | 0, _, _ => ⟨by simp [partL], rfl⟩
  | k + 1, hk, h => by
    obtain ⟨h1, h2⟩ := apl_all (d := d) (p := p) (l := l) (k := k) (by omega) (fun i hi => h i (by omega))
    obtain ⟨e1, e2⟩ := apl_yes (d := d) (p := p) (l := l) (h k (by omega))
    rw [e1, e2, h1, h2]
    refine ⟨?_, rfl⟩
    rw [List.take_add_one]
    simp [List.getD, show k < l.length by omega]
theorem ofR_split {A : List AlD} {fs : List Int} {s : ByteArray} (hf : fs.length = A.length) : splitD (ofR fs s) A fs = ⟨A, [], ofR fs s, []⟩ := by
  unfold splitD
  obtain ⟨e1, e2⟩ := apl_all (d := al0) (p := fun k => hasB (ofR fs s) (fs.getD k 0)) (l := A) (k := A.length) (Nat.le_refl _) (fun i hi => by
    have hi2 : i < fs.length := by omega
    show hasB (ofR fs s) (fs.getD i 0) = true
    rw [look_has, ofR_look, if_pos (by simp [List.getD, hi2])]
    rfl)
  obtain ⟨e3, e4⟩ := apl_all (d := mk0) (p := fun k => decide (((ofR fs s).getD k mk0).f ∈ fs)) (l := ofR fs s) (k := (ofR fs s).length) (Nat.le_refl _) (fun i hi => by
    have e : (ofR fs s).getD i mk0 = (ofR fs s)[i] := by simp [List.getD, hi]
    show decide (((ofR fs s).getD i mk0).f ∈ fs) = true
    rw [e]
    exact decide_eq_true (ofR_note (List.getElem_mem hi)).2)
  rw [e1, e2, e3, e4, List.take_length, List.take_length]
set_option maxRecDepth 100000 in
set_option maxHeartbeats 4000000 in
theorem of_big (w : World) (a2 : Option Addr) (n2 c2 : Nat) (A : List AlD) (s : ByteArray) (hs2 : s.size ≤ 140737488351232) (hw2 : ∀ t ∈ A, alW t) (hg : bigA A = true ∨ (bigA A = false ∧ 200 < s.size)) (h2 : RO alC w a2 n2 c2 A) :
    Calls Tryz.prog 6 #[.slice a2 n2 c2, .string s] w (Gives (.bool true) w) := by
  have qg2 := alarge_any A a2 n2 c2 w h2 hw2
  have qlv := Lib.hid (fun W => blives_any W)
  rcases hg with hg | ⟨hg, hg2⟩
  · rw [hg] at qg2
    have QG2 := Lib.hid qg2
    clear qg2 h2 hw2 hg
    go_enter Tryz.func6, Tryz.ntmps6
    go_wp2_with fail
    with_reducible refine QG2.out.mono ?_
    rintro e w1 ⟨rfl, rfl⟩
    go_wp2_with fail
    with_reducible refine (qlv.out _).mono ?_
    rintro e w2 ⟨rfl, b2⟩
    have b2' := Lib.hid b2
    clear b2
    go_wp2
    exact bodyPost_ret (results_tmp rfl _ _ _) rfl ⟨rfl, b2'.out⟩
  · rw [hg] at qg2
    have QG2 := Lib.hid qg2
    have hz : (200 : Int) < (s.size : Int) := by omega
    clear qg2 h2 hw2 hg hg2
    go_enter Tryz.func6, Tryz.ntmps6
    go_wp2_with fail
    with_reducible refine QG2.out.mono ?_
    rintro e w1 ⟨rfl, rfl⟩
    go_wp2_with fail
    with_reducible refine (qlv.out _).mono ?_
    rintro e w2 ⟨rfl, b2⟩
    have b2' := Lib.hid b2
    clear b2
    go_wp2
    exact bodyPost_ret (results_tmp rfl _ _ _) rfl ⟨rfl, b2'.out⟩
set_option maxRecDepth 100000 in
set_option maxHeartbeats 4000000 in
theorem of_bad (w : World) (a2 : Option Addr) (n2 c2 : Nat) (A : List AlD) (s : ByteArray) (hw2 : ∀ t ∈ A, alW t) (hg : bigA A = false) (hs : s.size ≤ 200) (hb : noteB s = false) (h2 : RO alC w a2 n2 c2 A) :
    Calls Tryz.prog 6 #[.slice a2 n2 c2, .string s] w (Gives (.bool true) w) := by
  have qg2 := alarge_any A a2 n2 c2 w h2 hw2
  rw [hg] at qg2
  have QG2 := Lib.hid qg2
  have qlv := Lib.hid (fun W => blives_any W)
  have qO := Lib.hid (bof_bad w a2 n2 c2 s hb)
  have qn := Lib.hid (fun W => by have := rnote_any s (by omega) W; rw [hb] at this; exact this)
  have hz : ¬ (200 : Int) < (s.size : Int) := by omega
  clear qg2 h2 hw2 hg hb hs
  go_enter Tryz.func6, Tryz.ntmps6
  go_wp2_with fail
  with_reducible refine QG2.out.mono ?_
  rintro e w1 ⟨rfl, rfl⟩
  go_wp2_with fail
  refine qO.out.mono ?_
  rintro e w1 ⟨rfl, b1⟩
  have B1 := Lib.hid b1
  clear b1 qO QG2
  go_wp2_with fail
  with_reducible refine (qlv.out _).mono ?_
  rintro e w2 ⟨rfl, b2⟩
  have B2 := Lib.hid (B1.out.trans (b2.mono B1.out.size))
  clear b2 B1
  go_wp2_with fail
  with_reducible refine (qn.out _).mono ?_
  rintro e w3 ⟨rfl, rfl⟩
  go_wp2
  exact bodyPost_ret (results_tmp rfl _ _ _) rfl ⟨rfl, B2.out⟩
set_option maxRecDepth 100000 in
set_option maxHeartbeats 8000000 in
theorem of_ok (w : World) (a2 : Option Addr) (n2 c2 : Nat) (A : List AlD) (s : ByteArray) (hw2 : ∀ t ∈ A, alW t) (hg : bigA A = false) (hs : s.size ≤ 200) (hb : noteB s = true) (h2 : RO alC w a2 n2 c2 A) :
    Calls Tryz.prog 6 #[.slice a2 n2 c2, .string s] w (Gives (.bool true) w) := by
  have m2 := h2.len
  have qg2 := alarge_any A a2 n2 c2 w h2 hw2
  rw [hg] at qg2
  have QG2 := Lib.hid qg2
  have qlv := Lib.hid (fun W => blives_any W)
  have hsm := small_of hg
  have hS : ∀ s ∈ A, smallA s := fun s hs => by obtain ⟨p, q, r⟩ := hsm.2 s hs; exact ⟨p, by omega, r⟩
  have hn2 : n2 ≤ 100 := by have := hsm.1; omega
  have hP := pdqOK_any (n := n2) (by omega)
  have qO := Lib.hid (bof_any w a2 n2 c2 A s hb h2 hw2 hS hn2 hP)
  rw [prints_fing m2] at qO
  unfold OfE at qO
  have hfl : (fingA A).length = A.length := fing_len A
  have hsp := ofR_split (A := A) (s := s) hfl
  have hbb := ofR_base (fs := fingA A) hb (by omega)
  have hll := ofR_len (fingA A) s
  have qn := Lib.hid (fun W => by have := rnote_any s (by omega) W; rw [hb] at this; exact this)
  have qR := Lib.hid (fun W hW => rbof_any A a2 n2 c2 s W (h2.below hW) hw2 hS hn2)
  have qM := Lib.hid (fun W a1 n1 c1 (hR : RO mkC W a1 n1 c1 (ofR (fingA A) s)) hW => by have := bmatch_ok W a1 a2 n1 n2 c1 c2 (ofR (fingA A) s) A hbb hR (h2.below hW) hw2 hS hn2 hP; rw [prints_fing m2, hsp] at this; exact this)
  have hno : Hid (∀ t, t ∈ ofR (fingA A) s → t.note = s) := Lib.hid (fun t ht => (ofR_note ht).1)
  have hLn : (ofR (fingA A) s).length ≤ 100 := by omega
  have hbb' := Lib.hid hbb
  have R2 := Lib.hid (fun W hW => h2.below (w' := W) hW)
  clear hfl hsp hbb hll hsm hS hP qg2
  generalize ofR (fingA A) s = L at *
  have qB := Lib.hid (fun W a1 n1 c1 (hR : RO mkC W a1 n1 c1 L) => by
    have hl := hR.len
    have := rbbase_any W a1 n1 c1 L hR (fun t ht => by
      have e : L.getD t mk0 ∈ L := by simp [List.getD, show t < L.length by omega]
      rw [hno.out _ e]; omega)
    rw [hbb'.out] at this
    exact this)
  have qS := Lib.hid (fun W a1 a2 n1 n2 c1 c2 (h1 : RO mkC W a1 n1 c1 L) (h2 : RO mkC W a2 n2 c2 L) => by have := mkSame_any a1 a2 n1 n2 c1 c2 L L W h1 h2; rw [sameM_refl'] at this; exact this)
  have qA := Lib.hid (fun W a1 n1 c1 (h1 : RO alC W a1 n1 c1 A) hW => by have := ralSame_any a1 a2 n1 n2 c1 c2 A A W h1 (h2.below hW); rw [(sameA_iff _ _).2 rfl] at this; exact this)
  have hz : ¬ (200 : Int) < (s.size : Int) := by omega
  clear h2 hw2 hg hs hb m2
  go_enter Tryz.func6, Tryz.ntmps6
  go_wp2_with fail
  with_reducible refine QG2.out.mono ?_
  rintro e w1 ⟨rfl, rfl⟩
  go_wp2_with fail
  refine qO.out.mono ?_
  rintro e w1 ⟨al, cl, rfl, rl, b1⟩
  have RL1 := Lib.hid rl
  have B1 := Lib.hid b1
  clear rl b1 qO QG2
  go_wp2_with fail
  with_reducible refine (qlv.out _).mono ?_
  rintro e w2 ⟨rfl, b2⟩
  have RL2 := Lib.hid (RL1.out.below b2)
  have B2 := Lib.hid (B1.out.trans (b2.mono B1.out.size))
  clear b2 B1 RL1
  go_wp2_with fail
  with_reducible refine (qn.out _).mono ?_
  rintro e w3 ⟨rfl, rfl⟩
  go_wp2_with fail
  refine (qM.out _ _ _ _ RL2.out B2.out).mono ?_
  rintro e w4 ⟨⟨x1, y1, z1, x2, y2, z2, x3, y3, z3, x4, y4, z4⟩, rfl, hR, b4⟩
  dsimp only [SpV.cells]
  have hy2 : y2 = 0 := hR.f.len
  have hy4 : y4 = 0 := hR.s.len
  subst hy2 hy4
  obtain ⟨V4, hV4⟩ : ∃ W, W = w4.alloc (.cells #[.slice x1 y1 z1, .slice x2 0 z2, .slice x3 y3 z3, .slice x4 0 z4] 28) := ⟨_, rfl⟩
  obtain ⟨gm, hgm⟩ : ∃ g, g = w4.heap.size := ⟨_, rfl⟩
  have c4 : Below w4.heap.size w4 V4 := by rw [hV4]; exact box_below _ _ _
  have HM := Lib.hid (show Holds V4 gm 28 #[.slice x1 y1 z1, .slice x2 0 z2, .slice x3 y3 z3, .slice x4 0 z4] by rw [hV4, hgm]; exact Holds.new _ _ _)
  have R4 := Lib.hid (hR.below c4)
  have RL4 := Lib.hid (RL2.out.below (b4.trans (c4.mono b4.size)))
  have B4 := Lib.hid ((B2.out.trans (b4.mono B2.out.size)).trans (c4.mono (Nat.le_trans B2.out.size b4.size)))
  have hV4' := Lib.hid hV4
  have hgm' := Lib.hid hgm
  clear c4 hV4 hgm hR qM b4 B2 RL2
  go_upto_region 9 with (fail)
  rw [← hV4'.out, ← hgm'.out]
  clear hV4' hgm'
  generalize V4 = X at *
  have k0 := HM.out.cell 0
  have k1 := HM.out.cell 1
  have k2 := HM.out.cell 2
  have k3 := HM.out.cell 3
  simp at k0 k1 k2 k3
  go_wp2_with fail
  refine (qR.out _ B4.out).mono ?_
  rintro e w5 ⟨ar, cr, rfl, rr, b5⟩
  have RL5 := Lib.hid (RL4.out.below b5)
  have R5 := Lib.hid (R4.out.below b5)
  have HM5 := Lib.hid (HM.out.below b5 HM.out.lt)
  have B5 := Lib.hid (B4.out.trans (b5.mono B4.out.size))
  have RR := Lib.hid rr
  clear rr b5 qR k0 k1 k2 k3 RL4 R4 HM B4
  go_wp2_with fail
  refine (qS.out _ _ _ _ _ _ _ RL5.out RR.out).mono ?_
  rintro e w6 ⟨rfl, m6, rfl⟩
  have b6 : Below w5.heap.size w5 (w5.drewN m6) := Below.drewN (Below.refl _ _) m6
  have RL6 := Lib.hid (RL5.out.below b6)
  have R6 := Lib.hid (R5.out.below b6)
  have HM6 := Lib.hid (HM5.out.below b6 HM5.out.lt)
  have B6 := Lib.hid (B5.out.trans (b6.mono B5.out.size))
  clear b6 RL5 R5 HM5 B5 RR
  generalize w5.drewN m6 = w7 at *
  go_wp2_with fail
  refine (qB.out _ _ _ _ RL6.out).mono ?_
  rintro e w8 ⟨rfl, m8, rfl⟩
  have b8 : Below w7.heap.size w7 (w7.drewN m8) := Below.drewN (Below.refl _ _) m8
  have RL8 := Lib.hid (RL6.out.below b8)
  have R8 := Lib.hid (R6.out.below b8)
  have HM8 := Lib.hid (HM6.out.below b8 HM6.out.lt)
  have B8 := Lib.hid (B6.out.trans (b8.mono B6.out.size))
  clear b8 RL6 R6 HM6 B6
  generalize w7.drewN m8 = w9 at *
  have k0 := HM8.out.cell 0
  have k1 := HM8.out.cell 1
  have k2 := HM8.out.cell 2
  have k3 := HM8.out.cell 3
  simp at k0 k1 k2 k3
  go_wp2_with fail
  refine (qA.out _ _ _ _ R8.out.k B8.out).mono ?_
  rintro e w10 ⟨rfl, m10, rfl⟩
  have b10 : Below w9.heap.size w9 (w9.drewN m10) := Below.drewN (Below.refl _ _) m10
  have RL10 := Lib.hid (RL8.out.below b10)
  have R10 := Lib.hid (R8.out.below b10)
  have HM10 := Lib.hid (HM8.out.below b10 HM8.out.lt)
  have B10 := Lib.hid (B8.out.trans (b10.mono B8.out.size))
  clear b10 RL8 R8 HM8 B8 k0 k1 k2 k3
  generalize w9.drewN m10 = w11 at *
  have k0 := HM10.out.cell 0
  have k1 := HM10.out.cell 1
  have k2 := HM10.out.cell 2
  have k3 := HM10.out.cell 3
  simp at k0 k1 k2 k3
  go_wp2_with fail
  refine (qS.out _ _ _ _ _ _ _ R10.out.m RL10.out).mono ?_
  rintro e w12 ⟨rfl, m12, rfl⟩
  have b12 : Below w11.heap.size w11 (w11.drewN m12) := Below.drewN (Below.refl _ _) m12
  have HM12 := HM10.out.below b12 HM10.out.lt
  have B12 := Lib.hid (B10.out.trans (b12.mono B10.out.size))
  clear b12 RL10 R10 HM10 B10 k0 k1 k2 k3
  generalize w11.drewN m12 = w13 at *
  have k3 := HM12.cell 3
  simp at k3
  go_wp2
  exact bodyPost_ret (results_tmp rfl _ _ _) rfl ⟨rfl, B12.out⟩
theorem baseOf_walk (w : World) (a2 : Option Addr) (n2 c2 : Nat) (row2 : AlSl w a2 n2 c2) (s : ByteArray) (hs : s.size ≤ maxLen) (hs2 : s.size ≤ 140737488351232) :
    Calls Tryz.prog 6 #[.slice a2 n2 c2, .string s] w (Gives (.bool true) w) := by
  obtain ⟨A, h2, hw2, -⟩ := row2
  cases hg2 : bigA A with
  | true => exact of_big w a2 n2 c2 A s hs2 hw2 (.inl hg2) h2
  | false =>
  by_cases hl : 200 < s.size
  · exact of_big w a2 n2 c2 A s hs2 hw2 (.inr ⟨hg2, hl⟩) h2
  cases hb : noteB s with
  | true => exact of_ok w a2 n2 c2 A s hw2 hg2 (by omega) hb h2
  | false => exact of_bad w a2 n2 c2 A s hw2 hg2 (by omega) hb h2
end Go.Proofs.YtpchncpcckfghaaGreat
