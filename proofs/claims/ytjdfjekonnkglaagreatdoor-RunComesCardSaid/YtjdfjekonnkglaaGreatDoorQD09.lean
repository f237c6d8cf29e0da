/-
  Words and walks under the law's proof.
-/
import Derived.ArgAppend
import Derived.Test.YtjdfjekonnkglaaGreatDoorQD01
import Derived.Test.YtjdfjekonnkglaaGreatDoorQD02
import Derived.Test.YtjdfjekonnkglaaGreatDoorQD04
import Derived.Test.YtjdfjekonnkglaaGreatDoorQD05
import Derived.Test.YtjdfjekonnkglaaGreatDoorQD08
namespace Go.Proofs.YtjdfjekonnkglaaGreatDoor
open Go.RowKit
set_option linter.unusedVariables false
set_option linter.unusedSimpArgs false
theorem infoIntP : ∃ i, Tryz.prog.info? 3 = some i ∧ i.zero = some (.int .i64 0) ∧ i.size = 1 ∧ i.bytes = 8 := by
  have h := infoInt
  cases hi : Tryz.prog.info? 3 with
  | none => rw [hi] at h; simp at h
  | some i => rw [hi] at h; simp at h; exact ⟨i, rfl, h.1, h.2.1, h.2.2⟩
def SlP (l : List Int) (w : World) (e : Ending) (w' : World) : Prop := ∃ a n c, e = .returned (.slice a n c) ∧ SL w' a n c l ∧ Below w.heap.size w w'
theorem pchk_ok {D : PD} (h : progB D = true) : chkP D = 0 := by unfold chkP; rw [if_pos h]
theorem pchk_bad {D : PD} (h : progB D = false) : chkP D = 110 := by unfold chkP; rw [h]; rfl
theorem prog_sizes {D : PD} (h : progB D = true) : 1 ≤ D.spots.length ∧ D.spots.length ≤ 128 ∧ D.edges.length ≤ 256 := by
  unfold progB at h
  simp only [Bool.and_eq_true, decide_eq_true_eq] at h
  exact ⟨h.1.1, h.1.2.1, h.1.2.2⟩
theorem prog_edge {D : PD} (h : progB D = true) {i : Nat} (hi : i < D.edges.length) : edgeB D.spots.length D.vars.length (D.edges.getD i edge0) = true := by
  unfold progB at h
  simp only [Bool.and_eq_true] at h
  have h2 := List.all_eq_true.1 h.2.2.2.2 (D.edges.getD i edge0) (by simp [List.getD, hi])
  exact h2
theorem edge_ends {n m : Nat} {e : EdgeD} (h : edgeB n m e = true) : 0 ≤ e.frm ∧ e.frm < n ∧ 0 ≤ e.dst ∧ e.dst < n := by
  unfold edgeB pointB at h
  simp only [Bool.and_eq_true, decide_eq_true_eq] at h
  exact ⟨h.1.1, h.1.2, h.2.1.1, h.2.1.2⟩
end Go.Proofs.YtjdfjekonnkglaaGreatDoor
namespace Go.Proofs.YtjdfjekonnkglaaGreatDoor
open Go.RowKit
set_option linter.unusedVariables false
set_option linter.unusedSimpArgs false
theorem rr_kind {k x y c d n : Int} (h : rightB k x y c d n = true) : 1 ≤ k ∧ k ≤ 5 := by
  unfold rightB at h
  split at h
  · cases h
  · omega
theorem rr_let {x y c d n : Int} (h : rightB 2 x y c d n = true) : 1 ≤ x ∧ x ≤ n ∧ 0 ≤ y ∧ y ≤ n ∧ isV c = true := by
  unfold rightB at h
  split at h
  · cases h
  · simp only [stmtB, letB, isVarB, isTermB, isValB, show ¬ (2 : Int) = 1 by omega, if_false, if_true, Bool.and_eq_true, decide_eq_true_eq, beq_iff_eq] at h
    exact ⟨h.1.1, h.1.2, h.2.1.1, h.2.1.2, (isV_iff c).2 ⟨h.2.2.1.1, h.2.2.1.2⟩⟩
theorem rr_any {x y c d n : Int} (h : rightB 3 x y c d n = true) : 1 ≤ x ∧ x ≤ n ∧ isV c = true := by
  unfold rightB at h
  split at h
  · cases h
  · simp only [stmtB, anyB, isVarB, isTermB, isValB, show ¬ (3 : Int) = 1 by omega, show ¬ (3 : Int) = 2 by omega, if_false, if_true, Bool.and_eq_true, decide_eq_true_eq, beq_iff_eq] at h
    exact ⟨h.1.1, h.1.2, (isV_iff c).2 ⟨h.2.2.1.1, h.2.2.1.2⟩⟩
theorem rr_diff {k x y c d n : Int} (hk : k = 4 ∨ k = 5) (h : rightB k x y c d n = true) : 0 ≤ x ∧ x ≤ n ∧ 0 ≤ y ∧ y ≤ n ∧ isV c = true := by
  unfold rightB at h
  split at h
  · cases h
  · unfold stmtB at h
    rw [if_neg (by omega), if_neg (by omega), if_neg (by omega)] at h
    simp only [diffB, isVarB, isTermB, isValB, Bool.and_eq_true, decide_eq_true_eq, beq_iff_eq, bne_iff_ne] at h
    exact ⟨h.1.1, h.1.2, h.2.1.1, h.2.1.2, (isV_iff c).2 ⟨h.2.2.2.1.1, h.2.2.2.1.2⟩⟩
theorem rr_skip {x y c d n : Int} (h : rightB 1 x y c d n = true) : isV c = true := by
  unfold rightB at h
  split at h
  · cases h
  · simp only [stmtB, skipB, if_true, Bool.and_eq_true, beq_iff_eq] at h
    rw [h.2.2.1]
    decide
theorem stepR_no {D : PD} {pt : Int} {l : List Int} {e v : Int} (he : ¬ (0 ≤ e ∧ e < (D.edges.length : Int))) : stepR D pt l e v = ((0, []), 1) := by unfold stepR; rw [if_neg he]
theorem stepR_other {D : PD} {pt : Int} {l : List Int} {E : Nat} {v : Int} (he : E < D.edges.length) (hf : ¬ (D.edges.getD E edge0).frm = pt) : stepR D pt l (E : Int) v = ((0, []), 1) := by
  unfold stepR
  rw [if_pos (by omega), Int.toNat_natCast, if_neg hf]
theorem refN_ne (k : Int) : ¬ refN k = 0 := by unfold refN; split <;> omega
theorem stepR_go {D : PD} {pt : Int} {l : List Int} {E : Nat} {v : Int} {ds k x y c d : Int} (he : E < D.edges.length) (hE : D.edges.getD E edge0 = (⟨pt, ds, k, x, y, c, d⟩ : EdgeD)) (hl : l.all isV = true) (hc : isV c = true) :
    stepR D pt l (E : Int) v = if okR k x y c d l v = true then ((ds, newR k x y c d l v), 0) else ((0, []), refN k) := by
  unfold stepR
  rw [if_pos (by omega), Int.toNat_natCast, hE]
  dsimp only
  rw [if_pos rfl, does_eq hl hc]
  by_cases h : okR k x y c d l v = true
  · rw [if_pos h, if_pos h]; rfl
  · rw [if_neg h, if_neg h, if_neg (refN_ne k)]
theorem step_any (pnm : ByteArray) (pa1 : Option Addr) (pn1 pc1 : Nat) (pa2 : Option Addr) (pn2 pc2 : Nat) (pa3 : Option Addr) (pn3 pc3 : Nat) (D : PD) (pt : Int) (a : Option Addr) (n c : Nat) (l : List Int) (hp : progB D = true) (hv : valsB l D.vars.length = true) (e v : Int) (w : World) (h : PrA w ⟨pnm, pa1, pn1, pc1, pa2, pn2, pc2, pa3, pn3, pc3⟩ D) (hs : SL w a n c l) :
    Calls Tryz.prog 24 #[.agg #[.string pnm, .slice pa1 pn1 pc1, .slice pa2 pn2 pc2, .slice pa3 pn3 pc3], .agg #[.int .i64 pt, .slice a n c], .agg #[.int .i64 e, .int .i64 v]] w (StE (stepR D pt l e v).1.1 (stepR D pt l e v).1.2 (stepR D pt l e v).2 w) := by
  have h3 : pn3 = D.edges.length := h.edges.len
  have hv2 := hv
  unfold valsB at hv2
  rw [Bool.and_eq_true, decide_eq_true_eq] at hv2
  have hnl := hs.len
  have hv8 : D.vars.length ≤ 8 := by
    unfold progB at hp
    simp only [Bool.and_eq_true, decide_eq_true_eq] at hp
    have := hp.2.2.1
    unfold varsB at this
    rw [Bool.and_eq_true, decide_eq_true_eq] at this
    exact this.1
  have hn : n ≤ 1000 := by omega
  by_cases he0 : e < 0
  · rw [stepR_no (by omega)]
    exact step_bad1 pnm pa1 pn1 pc1 pa2 pn2 pc2 pa3 pn3 pc3 D pt a n c l e v he0 w h
  · obtain ⟨E, rfl⟩ := Int.eq_ofNat_of_zero_le (show 0 ≤ e by omega)
    by_cases he : E < pn3
    · have heD : E < D.edges.length := by omega
      obtain ⟨fr, ds, k, x, y, cc, d, hE⟩ : ∃ fr ds k x y cc d, D.edges.getD E edge0 = (⟨fr, ds, k, x, y, cc, d⟩ : EdgeD) := ⟨_, _, _, _, _, _, _, rfl⟩
      by_cases hf : fr = pt
      · subst hf
        have hr : rightB k x y cc d (D.vars.length : Int) = true := by
          have := prog_edge hp heD
          unfold edgeB at this
          rw [hE] at this
          simp only [Bool.and_eq_true] at this
          exact this.2.2
        have hln : (n : Int) = (D.vars.length : Int) := by omega
        obtain ⟨k0, k5⟩ := rr_kind hr
        rcases (show k = 1 ∨ k = 2 ∨ k = 3 ∨ k = 4 ∨ k = 5 by omega) with rfl | rfl | rfl | rfl | rfl
        · rw [stepR_go heD hE hv2.2 (rr_skip hr), if_pos (by unfold okR; simp)]
          exact step_1t pnm pa1 pn1 pc1 pa2 pn2 pc2 pa3 pn3 pc3 D fr a n c l E v he ds x y cc d hE hn _ (fun B g a n cp W hM _ _ => mskip_any B g 1 x y cc d v a n cp l W hM) w h hs
        · obtain ⟨r1, r2, r3, r4, r5⟩ := rr_let hr
          rw [stepR_go heD hE hv2.2 r5]
          have hok : okR 2 x y cc d l v = isV (valAt l y + cc) := rfl
          have hnew : newR 2 x y cc d l v = withV l x (addN (valAt l y) cc) := rfl
          have hm := fun B g a n cp W hM h1 (h2 : n = l.length) => mlet_any B g 2 x y cc d v a n cp l W hM r1 (by omega) r3 (by omega) h1 hv2.2 r5
          rw [← hok, ← hnew] at hm
          cases ho : okR 2 x y cc d l v
          · rw [ho] at hm
            exact step_2f pnm pa1 pn1 pc1 pa2 pn2 pc2 pa3 pn3 pc3 D fr a n c l E v he ds x y cc d hE hn _ hm w h hs
          · rw [ho] at hm
            exact step_2t pnm pa1 pn1 pc1 pa2 pn2 pc2 pa3 pn3 pc3 D fr a n c l E v he ds x y cc d hE hn _ hm w h hs
        · obtain ⟨r1, r2, r5⟩ := rr_any hr
          rw [stepR_go heD hE hv2.2 r5]
          have hok : okR 3 x y cc d l v = decide (cc ≤ v ∧ v ≤ d) := rfl
          have hnew : newR 3 x y cc d l v = withV l x v := rfl
          have hm := fun B g a n cp W hM h1 (h2 : n = l.length) => mpick_any B g 3 x y cc d v a n cp l W hM r1 (by omega) h1
          rw [← hok, ← hnew] at hm
          cases ho : okR 3 x y cc d l v
          · rw [ho] at hm
            exact step_3f pnm pa1 pn1 pc1 pa2 pn2 pc2 pa3 pn3 pc3 D fr a n c l E v he ds x y cc d hE hn _ hm w h hs
          · rw [ho] at hm
            exact step_3t pnm pa1 pn1 pc1 pa2 pn2 pc2 pa3 pn3 pc3 D fr a n c l E v he ds x y cc d hE hn _ hm w h hs
        · obtain ⟨r1, r2, r3, r4, r5⟩ := rr_diff (k := 4) (by omega) hr
          rw [stepR_go heD hE hv2.2 r5]
          have hok : okR 4 x y cc d l v = decide (valAt l x - valAt l y ≤ cc) := rfl
          have hnew : newR 4 x y cc d l v = l := rfl
          have hm := fun B g a n cp W hM h1 (h2 : n = l.length) => mlimit_any' B g 4 x y cc d v a n cp l W hM r1 (by omega) r3 (by omega) h1 hv2.2
          rw [← hok] at hm
          rw [hnew]
          cases ho : okR 4 x y cc d l v
          · rw [ho] at hm
            exact step_4f pnm pa1 pn1 pc1 pa2 pn2 pc2 pa3 pn3 pc3 D fr a n c l E v he ds x y cc d hE hn _ hm w h hs
          · rw [ho] at hm
            exact step_4t pnm pa1 pn1 pc1 pa2 pn2 pc2 pa3 pn3 pc3 D fr a n c l E v he ds x y cc d hE hn _ hm w h hs
        · obtain ⟨r1, r2, r3, r4, r5⟩ := rr_diff (k := 5) (by omega) hr
          rw [stepR_go heD hE hv2.2 r5]
          have hok : okR 5 x y cc d l v = decide (valAt l x - valAt l y ≤ cc) := rfl
          have hnew : newR 5 x y cc d l v = l := rfl
          have hm := fun B g a n cp W hM h1 (h2 : n = l.length) => mlimit_any' B g 5 x y cc d v a n cp l W hM r1 (by omega) r3 (by omega) h1 hv2.2
          rw [← hok] at hm
          rw [hnew]
          cases ho : okR 5 x y cc d l v
          · rw [ho] at hm
            exact step_5f pnm pa1 pn1 pc1 pa2 pn2 pc2 pa3 pn3 pc3 D fr a n c l E v he ds x y cc d hE hn _ hm w h hs
          · rw [ho] at hm
            exact step_5t pnm pa1 pn1 pc1 pa2 pn2 pc2 pa3 pn3 pc3 D fr a n c l E v he ds x y cc d hE hn _ hm w h hs
      · rw [stepR_other heD (by rw [hE]; exact hf)]
        obtain ⟨b, off, ha3, -⟩ := edges_at h.edges (i := E) he
        exact step_bad3 pnm pa1 pn1 pc1 pa2 pn2 pc2 pa3 pn3 pc3 D pt a n c l E v he fr ds k x y cc d hE b off ha3 hf w h
    · rw [stepR_no (by omega)]
      exact step_bad2 pnm pa1 pn1 pc1 pa2 pn2 pc2 pa3 pn3 pc3 D pt a n c l E v (by omega) w h
end Go.Proofs.YtjdfjekonnkglaaGreatDoor
namespace Go.Proofs.YtjdfjekonnkglaaGreatDoor
open Go.RowKit
set_option linter.unusedVariables false
set_option linter.unusedSimpArgs false
set_option maxRecDepth 100000 in
set_option maxHeartbeats 8000000 in
theorem rcheckP_any (p : PV) (D : PD) (hw : PW D) (w : World) (h : PrA w p D) : Calls Tryz.prog 5 #[.agg #[.string p.nm, .slice p.a1 p.n1 p.c1, .slice p.a2 p.n2 p.c2, .slice p.a3 p.n3 p.c3]] w (Gives (.bool (progB D)) w) := by
  have hR : Hid (progB D = ((decide (1 ≤ p.n2) && (decide (p.n2 ≤ 128) && decide (p.n3 ≤ 256))) && (nameB p.nm && (varsB D.vars && (D.spots.all spotB && D.edges.all (edgeB p.n2 p.n1)))))) := Lib.hid (by unfold progB; rw [h.nm, h.vars.len, h.spots.len, h.edges.len])
  have q1 := Lib.hid (fun W => rname_any p.nm (by rw [h.nm]; have := hw.nm; omega) W)
  have q2 := Lib.hid (fun W (hW : TT W p.a1 p.n1 p.c1 D.vars) => rvars_any p.a1 p.n1 p.c1 D.vars (fun s hs => by have := hw.vars s hs; omega) W hW)
  have hsw : Hid (∀ k, k < D.spots.length → spotW (D.spots.getD k spot0)) := Lib.hid (fun k hk => hw.spots _ (by simp [List.getD, hk]))
  obtain ⟨pnm, pa1, pn1, pc1, pa2, pn2, pc2, pa3, pn3, pc3⟩ := p
  have hv := h.vars
  have hs := h.spots
  have he := h.edges
  clear h hw
  dsimp only at hR q1 q2 hv hs he ⊢
  obtain ⟨W1, hW1⟩ : ∃ W1, W1 = w.alloc (.cells #[.string pnm, .slice pa1 pn1 pc1, .slice pa2 pn2 pc2, .slice pa3 pn3 pc3] 26) := ⟨_, rfl⟩
  have Z : Hid (Holds W1 w.heap.size 26 #[.string pnm, .slice pa1 pn1 pc1, .slice pa2 pn2 pc2, .slice pa3 pn3 pc3]) := Lib.hid (by rw [hW1]; exact Holds.new w _ _)
  have BL := Lib.hid (show Below w.heap.size w W1 by rw [hW1]; exact box_below _ _ _)
  have V := Lib.hid (hv.below BL.out)
  have S := Lib.hid (hs.below BL.out)
  have E := Lib.hid (he.below BL.out)
  have ls := Lib.hid hs.len
  have le := Lib.hid he.len
  have hm1 : (pn1 : Int) ≤ 9223372036854775807 := by have := hv.cap; have := hv.max; unfold maxLen at this; omega
  have hm2 : (pn2 : Int) ≤ 9223372036854775807 := by have := hs.max'; omega
  have hm3 : (pn3 : Int) ≤ 9223372036854775807 := by have := he.max'; omega
  have hW1' := Lib.hid hW1
  have k0 := Z.out.cell 0
  have k1 := Z.out.cell 1
  have k2 := Z.out.cell 2
  have k3 := Z.out.cell 3
  have ns := Lib.hid (fun k hk h => all_no (q := spotB) (l := D.spots) (d := spot0) (k := k) hk h)
  have ys := Lib.hid (fun h => all_yes (q := spotB) (l := D.spots) spot0 h)
  have ne := Lib.hid (fun k hk h => all_no (q := edgeB pn2 pn1) (l := D.edges) (d := edge0) (k := k) hk h)
  have ye := Lib.hid (fun h => all_yes (q := edgeB pn2 pn1) (l := D.edges) edge0 h)
  clear hv hs he hW1
  generalize progB D = R at *
  generalize D.spots.all spotB = bs at *
  generalize D.edges.all (edgeB pn2 pn1) = be at *
  generalize varsB D.vars = bv at *
  generalize nameB pnm = bn at *
  cases bn
  · have hf : Hid (R = false) := Lib.hid (by rw [hR.out]; simp)
    go_enter Tryz.func5, Tryz.ntmps5
    go_wp2_with fail
    refine (q1.out _).mono ?_
    rintro e w1 ⟨rfl, rfl⟩
    go_wp2
    go_ret
    rw [← hW1'.out]
    exact ⟨ret_bool hf.out.symm, BL.out⟩
  have enter_ := True.intro
  go_enter Tryz.func5, Tryz.ntmps5
  go_wp2_with fail
  refine (q1.out _).mono ?_
  rintro e w1 ⟨rfl, rfl⟩
  go_wp2_with fail
  rw [← hW1'.out]
  with_reducible refine (q2.out W1 V.out).mono ?_
  rintro e u ⟨rfl, m, hm⟩
  have hb1 : Below W1.heap.size W1 u := by rw [hm]; exact Below.drewN (Below.refl _ _) m
  replace Z := Lib.hid (Z.out.below hb1 Z.out.lt)
  replace S := Lib.hid (S.out.below hb1)
  replace E := Lib.hid (E.out.below hb1)
  replace BL := Lib.hid (BL.out.trans (hb1.mono BL.out.size))
  clear hb1 hm q2 V hW1' k0 k1 k2 k3 q1 enter_
  have k2 := Z.out.cell 2
  have k3 := Z.out.cell 3
  cases bv
  · have hf : Hid (R = false) := Lib.hid (by rw [hR.out]; simp)
    go_wp2
    go_ret
    exact ⟨ret_bool hf.out.symm, BL.out⟩
  by_cases g1 : 1 ≤ pn2
  rotate_left
  · have i1 : (pn2 : Int) < 1 := by omega
    have hf : Hid (R = false) := Lib.hid (by rw [hR.out, decide_eq_false g1]; simp)
    go_wp2
    go_ret
    exact ⟨ret_bool hf.out.symm, BL.out⟩
  have i1 : ¬ (pn2 : Int) < 1 := by omega
  by_cases g2 : pn2 ≤ 128
  rotate_left
  · have i2 : (128 : Int) < (pn2 : Int) := by omega
    have hf : Hid (R = false) := Lib.hid (by rw [hR.out, decide_eq_false g2]; simp)
    go_wp2
    go_ret
    exact ⟨ret_bool hf.out.symm, BL.out⟩
  have i2 : ¬ (128 : Int) < (pn2 : Int) := by omega
  by_cases g3 : pn3 ≤ 256
  rotate_left
  · have i3 : (256 : Int) < (pn3 : Int) := by omega
    have hf : Hid (R = false) := Lib.hid (by rw [hR.out, decide_eq_false g3]; simp)
    go_wp2
    go_ret
    exact ⟨ret_bool hf.out.symm, BL.out⟩
  have i3 : ¬ (256 : Int) < (pn3 : Int) := by omega
  go_wp2
  clear k2 k3 i1 i2 i3
  go_loopw [4] (fun y wr => ∃ k : Nat, k ≤ pn2 ∧ y = .int .i64 k ∧ Hid (∀ t, t < k → spotB (D.spots.getD t spot0) = true) ∧ wr = u) (fun y _ => pn2 - (intOf y).toNat)
  case atStart => exact ⟨0, Nat.zero_le _, rfl, Lib.hid (fun t ht => by omega), rfl⟩
  case round =>
    obtain ⟨k, hk, rfl, hal, rfl⟩ := hrel
    by_cases hlt : k < pn2
    · have hki : (k : Int) < (pn2 : Int) := by omega
      have k2 := Z.out.cell 2
      obtain ⟨b, off, rfl, -, x0, x1, x2⟩ := spots_at S.out hlt
      have hno' := Lib.hid (ns.out k (by rw [← ls.out]; exact hlt))
      have hyes' : Hid (spotB (D.spots.getD k spot0) = true → ∀ t, t < k + 1 → spotB (D.spots.getD t spot0) = true) := Lib.hid (fun h t ht => by
        by_cases e : t = k
        · rw [e]; exact h
        · exact hal.out t (by omega))
      have hz := hsw.out k (by rw [← ls.out]; exact hlt)
      obtain ⟨s, f, x, hd⟩ : ∃ s f x, D.spots.getD k spot0 = (⟨s, f, x⟩ : SpotD) := ⟨_, _, _, rfl⟩
      rw [hd] at x0 x1 x2 hno' hyes' hz
      dsimp only at x0 x1 x2
      have q1 := Lib.hid (fun W => rname_any s (by have := hz.1; dsimp only at this; omega) W)
      have q2 := Lib.hid (fun W => rfile_any f (by have := hz.2.1; dsimp only at this; omega) W)
      have hsb : Hid (spotB ⟨s, f, x⟩ = (nameB s && (fileB f && (decide (1 ≤ x) && decide (x ≤ 1048576))))) := Lib.hid rfl
      clear hd hal ns hz
      generalize spotB ⟨s, f, x⟩ = B at *
      cases e1 : nameB s
      · rw [e1] at q1 hsb
        have hf : Hid (R = false) := Lib.hid (by rw [hR.out, hno'.out (by rw [hsb.out]; simp)]; simp)
        clear hno' hyes' hsb
        go_wp2_with fail
        refine (q1.out _).mono ?_
        rintro e w1 ⟨rfl, rfl⟩
        go_wp2
        go_ret
        exact ⟨ret_bool hf.out.symm, BL.out⟩
      rw [e1] at q1 hsb
      cases e2 : fileB f
      · rw [e2] at q2 hsb
        have hf : Hid (R = false) := Lib.hid (by rw [hR.out, hno'.out (by rw [hsb.out]; simp)]; simp)
        clear hno' hyes' hsb
        go_wp2_with fail
        refine (q1.out _).mono ?_
        rintro e w1 ⟨rfl, rfl⟩
        go_wp2_with fail
        refine (q2.out _).mono ?_
        rintro e w1 ⟨rfl, rfl⟩
        go_wp2
        go_ret
        exact ⟨ret_bool hf.out.symm, BL.out⟩
      rw [e2] at q2 hsb
      by_cases h1 : 1 ≤ x
      rotate_left
      · have h1n : x < 1 := by omega
        have hf : Hid (R = false) := Lib.hid (by rw [hR.out, hno'.out (by rw [hsb.out, decide_eq_false h1]; simp)]; simp)
        clear hno' hyes' hsb
        go_wp2_with fail
        refine (q1.out _).mono ?_
        rintro e w1 ⟨rfl, rfl⟩
        go_wp2_with fail
        refine (q2.out _).mono ?_
        rintro e w1 ⟨rfl, rfl⟩
        go_wp2
        go_ret
        exact ⟨ret_bool hf.out.symm, BL.out⟩
      have h1n : ¬ x < 1 := by omega
      by_cases h2 : x ≤ 1048576
      rotate_left
      · have h2n : 1048576 < x := by omega
        have hf : Hid (R = false) := Lib.hid (by rw [hR.out, hno'.out (by rw [hsb.out, decide_eq_false h2]; simp)]; simp)
        clear hno' hyes' hsb
        go_wp2_with fail
        refine (q1.out _).mono ?_
        rintro e w1 ⟨rfl, rfl⟩
        go_wp2_with fail
        refine (q2.out _).mono ?_
        rintro e w1 ⟨rfl, rfl⟩
        go_wp2
        go_ret
        exact ⟨ret_bool hf.out.symm, BL.out⟩
      have h2n : ¬ 1048576 < x := by omega
      have hg := Lib.hid (hyes'.out (by rw [hsb.out, decide_eq_true h1, decide_eq_true h2]; rfl))
      clear hno' hyes' hsb
      go_wp2_with fail
      refine (q1.out _).mono ?_
      rintro e w1 ⟨rfl, rfl⟩
      go_wp2_with fail
      refine (q2.out _).mono ?_
      rintro e w1 ⟨rfl, rfl⟩
      go_wp2
      go_roundw
      case rel => exact ⟨k + 1, by omega, by go_num, hg, trivial⟩
      case measure => simp [intOf]; omega
    · have hki : ¬ (k : Int) < (pn2 : Int) := by omega
      have hb := Lib.hid (ys.out (fun t ht => hal.out t (by rw [← ls.out] at ht; omega)))
      have hR2 : Hid (R = be) := Lib.hid (by rw [hR.out, hb.out, decide_eq_true g1, decide_eq_true g2, decide_eq_true g3]; rfl)
      clear hb hR ns ys hal hsw
      go_wp2
      clear hki hlt hk
      generalize wr = u at *
      go_loopw [5] (fun y wr => ∃ k : Nat, k ≤ pn3 ∧ y = .int .i64 k ∧ Hid (∀ t, t < k → edgeB pn2 pn1 (D.edges.getD t edge0) = true) ∧ Hid (Below u.heap.size u wr)) (fun y _ => pn3 - (intOf y).toNat)
      case atStart => exact ⟨0, Nat.zero_le _, rfl, Lib.hid (fun t ht => by omega), Lib.hid (Below.refl _ _)⟩
      case round =>
        obtain ⟨k, hk, rfl, hal, hB⟩ := hrel
        have k1 := (Z.out.below hB.out Z.out.lt).cell 1
        have k3 := (Z.out.below hB.out Z.out.lt).cell 3
        have hzl : w.heap.size < wr.heap.size := Nat.lt_of_lt_of_le Z.out.lt hB.out.size
        by_cases hlt : k < pn3
        · have hki : (k : Int) < (pn3 : Int) := by omega
          obtain ⟨b, off, rfl, -, x0, x1, x2, x3, x4, x5, x6⟩ := edges_at (E.out.below hB.out) hlt
          have hno' := Lib.hid (ne.out k (by rw [← le.out]; exact hlt))
          have hyes' : Hid (edgeB pn2 pn1 (D.edges.getD k edge0) = true → ∀ t, t < k + 1 → edgeB pn2 pn1 (D.edges.getD t edge0) = true) := Lib.hid (fun h t ht => by
            by_cases e : t = k
            · rw [e]; exact h
            · exact hal.out t (by omega))
          obtain ⟨fr, ds, ek, ex, ey, ec, ed, hd⟩ : ∃ fr ds ek ex ey ec ed, D.edges.getD k edge0 = (⟨fr, ds, ek, ex, ey, ec, ed⟩ : EdgeD) := ⟨_, _, _, _, _, _, _, rfl⟩
          rw [hd] at x0 x1 x2 x3 x4 x5 x6 hno' hyes'
          dsimp only at x0 x1 x2 x3 x4 x5 x6
          have heb : Hid (edgeB pn2 pn1 ⟨fr, ds, ek, ex, ey, ec, ed⟩ = ((decide (0 ≤ fr) && decide (fr < (pn2 : Int))) && ((decide (0 ≤ ds) && decide (ds < (pn2 : Int))) && rightB ek ex ey ec ed (pn1 : Int)))) := Lib.hid rfl
          have q3 := Lib.hid (fun W => rright_any ek ex ey ec ed (pn1 : Int) W)
          have hB1 := Lib.hid (hB.out.trans ((box_below wr #[.int .i64 fr, .int .i64 ds, .int .i64 ek, .int .i64 ex, .int .i64 ey, .int .i64 ec, .int .i64 ed] 53).mono hB.out.size))
          clear hd hal ne
          generalize edgeB pn2 pn1 ⟨fr, ds, ek, ex, ey, ec, ed⟩ = B at *
          generalize rightB ek ex ey ec ed (pn1 : Int) = br at *
          by_cases p1 : 0 ≤ fr
          rotate_left
          · have j1 : fr < 0 := by omega
            have hf : Hid (R = false) := Lib.hid (by rw [hR2.out, hno'.out (by rw [heb.out, decide_eq_false p1]; simp)])
            clear hno' hyes' heb
            go_wp2
            go_ret
            exact ⟨ret_bool hf.out.symm, BL.out.trans (hB1.out.mono BL.out.size)⟩
          have j1 : ¬ fr < 0 := by omega
          by_cases p2 : fr < (pn2 : Int)
          rotate_left
          · have j2 : (pn2 : Int) ≤ fr := by omega
            have hf : Hid (R = false) := Lib.hid (by rw [hR2.out, hno'.out (by rw [heb.out, decide_eq_false p2]; simp)])
            clear hno' hyes' heb
            go_wp2
            go_ret
            exact ⟨ret_bool hf.out.symm, BL.out.trans (hB1.out.mono BL.out.size)⟩
          have j2 : ¬ (pn2 : Int) ≤ fr := by omega
          by_cases p3 : 0 ≤ ds
          rotate_left
          · have j3 : ds < 0 := by omega
            have hf : Hid (R = false) := Lib.hid (by rw [hR2.out, hno'.out (by rw [heb.out, decide_eq_false p3]; simp)])
            clear hno' hyes' heb
            go_wp2
            go_ret
            exact ⟨ret_bool hf.out.symm, BL.out.trans (hB1.out.mono BL.out.size)⟩
          have j3 : ¬ ds < 0 := by omega
          by_cases p4 : ds < (pn2 : Int)
          rotate_left
          · have j4 : (pn2 : Int) ≤ ds := by omega
            have hf : Hid (R = false) := Lib.hid (by rw [hR2.out, hno'.out (by rw [heb.out, decide_eq_false p4]; simp)])
            clear hno' hyes' heb
            go_wp2
            go_ret
            exact ⟨ret_bool hf.out.symm, BL.out.trans (hB1.out.mono BL.out.size)⟩
          have j4 : ¬ (pn2 : Int) ≤ ds := by omega
          cases br
          · have hf : Hid (R = false) := Lib.hid (by rw [hR2.out, hno'.out (by rw [heb.out]; simp)])
            clear hno' hyes' heb
            go_wp2_with fail
            refine (q3.out _).mono ?_
            rintro e w1 ⟨rfl, b1⟩
            have hB2 := Lib.hid (hB1.out.trans (b1.mono hB1.out.size))
            clear b1
            go_wp2
            go_ret
            exact ⟨ret_bool hf.out.symm, BL.out.trans (hB2.out.mono BL.out.size)⟩
          have hg := Lib.hid (hyes'.out (by rw [heb.out, decide_eq_true p1, decide_eq_true p2, decide_eq_true p3, decide_eq_true p4]; rfl))
          clear hno' hyes' heb
          go_wp2_with fail
          refine (q3.out _).mono ?_
          rintro e w1 ⟨rfl, b1⟩
          have hB2 := Lib.hid (hB1.out.trans (b1.mono hB1.out.size))
          clear b1
          go_wp2
          go_roundw
          case rel => exact ⟨k + 1, by omega, by go_num, hg, hB2⟩
          case measure => simp [intOf]; omega
        · have hki : ¬ (k : Int) < (pn3 : Int) := by omega
          have hb := Lib.hid (ye.out (fun t ht => hal.out t (by rw [← le.out] at ht; omega)))
          have hf : Hid (R = true) := Lib.hid (by rw [hR2.out, hb.out])
          clear hb ye ne hR2
          go_wp2
          go_ret
          exact ⟨ret_bool hf.out.symm, BL.out.trans (hB.out.mono BL.out.size)⟩
end Go.Proofs.YtjdfjekonnkglaaGreatDoor
namespace Go.Proofs.YtjdfjekonnkglaaGreatDoor
open Go.RowKit
set_option linter.unusedVariables false
set_option linter.unusedSimpArgs false
def stateB (D : PD) (pt : Int) (l : List Int) : Bool := decide (0 ≤ pt) && (decide (pt < (D.spots.length : Int)) && valsB l D.vars.length)
set_option maxRecDepth 100000 in
set_option maxHeartbeats 4000000 in
theorem isState_any (pnm : ByteArray) (pa1 : Option Addr) (pn1 pc1 : Nat) (pa2 : Option Addr) (pn2 pc2 : Nat) (pa3 : Option Addr) (pn3 pc3 : Nat) (D : PD) (pt : Int) (a : Option Addr) (n c : Nat) (l : List Int) (w : World) (h : PrA w ⟨pnm, pa1, pn1, pc1, pa2, pn2, pc2, pa3, pn3, pc3⟩ D) (hs : SL w a n c l) : Calls Tryz.prog 26 #[.agg #[.string pnm, .slice pa1 pn1 pc1, .slice pa2 pn2 pc2, .slice pa3 pn3 pc3], .agg #[.int .i64 pt, .slice a n c]] w (Gives (.bool (stateB D pt l)) w) := by
  obtain ⟨W1, hW1⟩ : ∃ W1, W1 = (w.alloc (.cells #[.string pnm, .slice pa1 pn1 pc1, .slice pa2 pn2 pc2, .slice pa3 pn3 pc3] 26)).alloc (.cells #[.int .i64 pt, .slice a n c] 39) := ⟨_, rfl⟩
  have BL : Hid (Below w.heap.size w W1) := Lib.hid (by rw [hW1]; exact ((Below.refl _ _).alloc (Nat.le_refl _) _).alloc (by simp) _)
  have Z0 : Hid (Holds W1 w.heap.size 26 #[.string pnm, .slice pa1 pn1 pc1, .slice pa2 pn2 pc2, .slice pa3 pn3 pc3]) := Lib.hid (by rw [hW1]; exact (Holds.new w _ _).alloc _)
  have Z1 : Hid (Holds W1 (w.heap.size + 1) 39 #[.int .i64 pt, .slice a n c]) := Lib.hid (by rw [hW1]; have q := Holds.new (w.alloc (.cells #[.string pnm, .slice pa1 pn1 pc1, .slice pa2 pn2 pc2, .slice pa3 pn3 pc3] 26)) 39 #[.int .i64 pt, .slice a n c]; simpa using q)
  have P := Lib.hid (h.below BL.out)
  have S := Lib.hid (hs.below BL.out)
  have hsp : Hid (pn2 = D.spots.length) := Lib.hid h.spots.len
  have hW1' := Lib.hid hW1
  have q := Lib.hid (areVals_any ⟨pnm, pa1, pn1, pc1, pa2, pn2, pc2, pa3, pn3, pc3⟩ D a n c l W1 P.out S.out)
  have hR : Hid (stateB D pt l = (decide (0 ≤ pt) && (decide (pt < (pn2 : Int)) && valsB l D.vars.length))) := Lib.hid (by unfold stateB; rw [hsp.out])
  have k0 := Z0.out.cell 0
  have k1 := Z0.out.cell 1
  have k2 := Z0.out.cell 2
  have k3 := Z0.out.cell 3
  have j0 := Z1.out.cell 0
  have j1 := Z1.out.cell 1
  simp at k0 k1 k2 k3 j0 j1
  rw [hW1] at k0 k1 k2 k3 j0 j1
  clear hW1
  clear h hs
  generalize stateB D pt l = R at *
  generalize valsB l D.vars.length = V at *
  by_cases h0 : 0 ≤ pt
  · by_cases h1 : pt < (pn2 : Int)
    · have hR2 : Hid (R = V) := Lib.hid (by rw [hR.out, decide_eq_true h0, decide_eq_true h1]; rfl)
      clear hR
      go_enter Tryz.func26, Tryz.ntmps26
      go_wp2_with fail
      rw [← hW1'.out]
      with_reducible refine q.out.mono ?_
      rintro e W2 ⟨rfl, b2⟩
      clear k0 k1 k2 k3 j0 j1
      go_wp2
      go_ret
      exact ⟨by rw [hR2.out]; simp, BL.out.trans (b2.mono BL.out.size)⟩
    · have hR2 : Hid (R = false) := Lib.hid (by rw [hR.out, decide_eq_true h0, decide_eq_false h1]; rfl)
      clear hR
      go_enter Tryz.func26, Tryz.ntmps26
      go_wp2
      go_ret
      rw [← hW1'.out]
      exact ⟨by rw [hR2.out]; simp, BL.out⟩
  · have hR2 : Hid (R = false) := Lib.hid (by rw [hR.out, decide_eq_false h0]; rfl)
    clear hR
    go_enter Tryz.func26, Tryz.ntmps26
    go_wp2
    go_ret
    rw [← hW1'.out]
    exact ⟨by rw [hR2.out]; simp, BL.out⟩
set_option maxRecDepth 100000 in
set_option maxHeartbeats 4000000 in
theorem runRight_any (pnm : ByteArray) (pa1 : Option Addr) (pn1 pc1 : Nat) (pa2 : Option Addr) (pn2 pc2 : Nat) (pa3 : Option Addr) (pn3 pc3 : Nat) (D : PD) (pt : Int) (a : Option Addr) (n c : Nat) (l : List Int) (w : World) (h : PrA w ⟨pnm, pa1, pn1, pc1, pa2, pn2, pc2, pa3, pn3, pc3⟩ D) (hs : SL w a n c l) : Calls Tryz.prog 10 #[.agg #[.string pnm, .slice pa1 pn1 pc1, .slice pa2 pn2 pc2, .slice pa3 pn3 pc3], .agg #[.int .i64 pt, .slice a n c]] w (Gives (.bool (progB D && stateB D pt l)) w) := by
  obtain ⟨W1, hW1⟩ : ∃ W1, W1 = (w.alloc (.cells #[.string pnm, .slice pa1 pn1 pc1, .slice pa2 pn2 pc2, .slice pa3 pn3 pc3] 26)).alloc (.cells #[.int .i64 pt, .slice a n c] 39) := ⟨_, rfl⟩
  have BL : Hid (Below w.heap.size w W1) := Lib.hid (by rw [hW1]; exact ((Below.refl _ _).alloc (Nat.le_refl _) _).alloc (by simp) _)
  have Z0 : Hid (Holds W1 w.heap.size 26 #[.string pnm, .slice pa1 pn1 pc1, .slice pa2 pn2 pc2, .slice pa3 pn3 pc3]) := Lib.hid (by rw [hW1]; exact (Holds.new w _ _).alloc _)
  have Z1 : Hid (Holds W1 (w.heap.size + 1) 39 #[.int .i64 pt, .slice a n c]) := Lib.hid (by rw [hW1]; have q := Holds.new (w.alloc (.cells #[.string pnm, .slice pa1 pn1 pc1, .slice pa2 pn2 pc2, .slice pa3 pn3 pc3] 26)) 39 #[.int .i64 pt, .slice a n c]; simpa using q)
  have P := Lib.hid (h.below BL.out)
  have S := Lib.hid (hs.below BL.out)
  have hsp : Hid (pn2 = D.spots.length) := Lib.hid h.spots.len
  have hW1' := Lib.hid hW1
  have qc := Lib.hid (pcheck_any ⟨pnm, pa1, pn1, pc1, pa2, pn2, pc2, pa3, pn3, pc3⟩ D W1 P.out)
  have qs := Lib.hid (fun W (hW : Below W1.heap.size W1 W) => isState_any pnm pa1 pn1 pc1 pa2 pn2 pc2 pa3 pn3 pc3 D pt a n c l W (P.out.below hW) (S.out.below hW))
  have k0 := Z0.out.cell 0
  have k1 := Z0.out.cell 1
  have k2 := Z0.out.cell 2
  have k3 := Z0.out.cell 3
  have j0 := Z1.out.cell 0
  have j1 := Z1.out.cell 1
  simp at k0 k1 k2 k3 j0 j1
  rw [hW1] at k0 k1 k2 k3 j0 j1
  clear hW1
  clear h hs
  generalize stateB D pt l = V at *
  cases hp : progB D
  · rw [pchk_bad hp] at qc
    clear hp
    go_enter Tryz.func10, Tryz.ntmps10
    go_wp2_with fail
    rw [← hW1'.out]
    with_reducible refine qc.out.mono ?_
    rintro e W2 ⟨rfl, b2⟩
    clear k0 k1 k2 k3 j0 j1
    go_wp2
    go_ret
    exact ⟨by simp, BL.out.trans (b2.mono BL.out.size)⟩
  · rw [pchk_ok hp] at qc
    clear hp
    go_enter Tryz.func10, Tryz.ntmps10
    go_wp2_with fail
    rw [← hW1'.out]
    with_reducible refine qc.out.mono ?_
    rintro e W2 ⟨rfl, b2⟩
    replace Z0 := Lib.hid (Z0.out.below b2 Z0.out.lt)
    replace Z1 := Lib.hid (Z1.out.below b2 Z1.out.lt)
    replace BL := Lib.hid (BL.out.trans (b2.mono BL.out.size))
    have b2' := Lib.hid b2
    clear k0 k1 k2 k3 j0 j1 b2
    have k0 := Z0.out.cell 0
    have k1 := Z0.out.cell 1
    have k2 := Z0.out.cell 2
    have k3 := Z0.out.cell 3
    have j0 := Z1.out.cell 0
    have j1 := Z1.out.cell 1
    simp at k0 k1 k2 k3 j0 j1
    go_wp2_with fail
    with_reducible refine (qs.out _ b2'.out).mono ?_
    rintro e W3 ⟨rfl, b3⟩
    clear k0 k1 k2 k3 j0 j1
    go_wp2
    go_ret
    exact ⟨by simp, BL.out.trans (b3.mono BL.out.size)⟩
def sameT (p1 p2 : Int) (l1 l2 : List Int) : Bool := decide (p1 = p2 ∧ l1 = l2)
theorem equal_any (a1 a2 : Option Addr) (n1 n2 c1 c2 : Nat) (l1 l2 : List Int) (w : World) (h1 : SL w a1 n1 c1 l1) (h2 : SL w a2 n2 c2 l2) : Calls Tryz.prog 27 #[.slice a1 n1 c1, .slice a2 n2 c2] w (Gives (.bool (decide (l1 = l2))) w) := by
  have e1 := h1.len
  have e2 := h2.len
  have m1 := h1.max
  have m2 := h2.max
  by_cases hn : n1 = n2
  · by_cases h0 : n1 = 0
    · subst h0
      subst hn
      obtain rfl : l1 = [] := List.eq_nil_of_length_eq_zero e1.symm
      obtain rfl : l2 = [] := List.eq_nil_of_length_eq_zero e2.symm
      refine (Tryz.slices_Equal_int_empty a1 a2 c1 0 c2 w (by omega)).mono ?_
      rintro e w' ⟨rfl, rfl⟩
      exact ⟨by simp, Below.refl _ _⟩
    · obtain ⟨b, off, rfl, hb, hc⟩ : ∃ b off, a1 = some ⟨b, off, none⟩ ∧ b < w.heap.size ∧ ∀ i, i < l1.length → w.cell? ⟨b, off + i, none⟩ = some (.int .i64 (l1.getD i 0)) := by
        rcases h1.sees with h | h
        · rw [h] at e1; simp at e1; omega
        · exact h
      obtain ⟨b', off', rfl, hb', hc'⟩ : ∃ b off, a2 = some ⟨b, off, none⟩ ∧ b < w.heap.size ∧ ∀ i, i < l2.length → w.cell? ⟨b, off + i, none⟩ = some (.int .i64 (l2.getD i 0)) := by
        rcases h2.sees with h | h
        · rw [h] at e2; simp at e2; omega
        · exact h
      refine (Tryz.slices_Equal_int b off n1 c1 b' off' n2 c2 l1 l2 w (by omega) (by omega) (by omega) (by omega) hc hc').mono ?_
      rintro e w' ⟨rfl, q, rfl⟩
      refine ⟨?_, Below.drewN (Below.refl _ _) q⟩
      rw [List.take_of_length_le (by omega), List.take_of_length_le (by omega)]
      exact ret_bool (by rw [Bool.eq_iff_iff, beq_iff_eq, decide_eq_true_iff])
  · refine (Tryz.slices_Equal_int_lens a1 a2 n1 c1 n2 c2 w hn).mono ?_
    rintro e w' ⟨rfl, rfl⟩
    exact ⟨by rw [decide_eq_false (by rintro rfl; exact hn (by rw [e1, e2]))], Below.refl _ _⟩
set_option maxRecDepth 100000 in
set_option maxHeartbeats 4000000 in
theorem runSame_any (p1 p2 : Int) (a1 a2 : Option Addr) (n1 n2 c1 c2 : Nat) (l1 l2 : List Int) (w : World) (h1 : SL w a1 n1 c1 l1) (h2 : SL w a2 n2 c2 l2) : Calls Tryz.prog 12 #[.agg #[.int .i64 p1, .slice a1 n1 c1], .agg #[.int .i64 p2, .slice a2 n2 c2]] w (Gives (.bool (sameT p1 p2 l1 l2)) w) := by
  obtain ⟨W1, hW1⟩ : ∃ W1, W1 = (w.alloc (.cells #[.int .i64 p1, .slice a1 n1 c1] 39)).alloc (.cells #[.int .i64 p2, .slice a2 n2 c2] 39) := ⟨_, rfl⟩
  have BL : Hid (Below w.heap.size w W1) := Lib.hid (by rw [hW1]; exact ((Below.refl _ _).alloc (Nat.le_refl _) _).alloc (by simp) _)
  have Z0 : Hid (Holds W1 w.heap.size 39 #[.int .i64 p1, .slice a1 n1 c1]) := Lib.hid (by rw [hW1]; exact (Holds.new w _ _).alloc _)
  have Z1 : Hid (Holds W1 (w.heap.size + 1) 39 #[.int .i64 p2, .slice a2 n2 c2]) := Lib.hid (by rw [hW1]; have q := Holds.new (w.alloc (.cells #[.int .i64 p1, .slice a1 n1 c1] 39)) 39 #[.int .i64 p2, .slice a2 n2 c2]; simpa using q)
  have S1 := Lib.hid (h1.below BL.out)
  have S2 := Lib.hid (h2.below BL.out)
  have hW1' := Lib.hid hW1
  have q := Lib.hid (equal_any a1 a2 n1 n2 c1 c2 l1 l2 W1 S1.out S2.out)
  have k0 := Z0.out.cell 0
  have k1 := Z0.out.cell 1
  have j0 := Z1.out.cell 0
  have j1 := Z1.out.cell 1
  simp at k0 k1 j0 j1
  rw [hW1] at k0 k1 j0 j1
  clear hW1 h1 h2
  by_cases hp : p1 = p2
  · have d : (p1 == p2) = true := by simp [hp]
    have hR : Hid (sameT p1 p2 l1 l2 = decide (l1 = l2)) := Lib.hid (by unfold sameT; simp [hp])
    generalize sameT p1 p2 l1 l2 = R at *
    clear hp
    go_enter Tryz.func12, Tryz.ntmps12
    go_wp2_with fail
    rw [← hW1'.out]
    with_reducible refine q.out.mono ?_
    rintro e W2 ⟨rfl, b2⟩
    clear k0 k1 j0 j1
    go_wp2
    go_ret
    exact ⟨by rw [hR.out]; simp, BL.out.trans (b2.mono BL.out.size)⟩
  · have d : (p1 == p2) = false := by simp [hp]
    have hR : Hid (sameT p1 p2 l1 l2 = false) := Lib.hid (by unfold sameT; simp [hp])
    generalize sameT p1 p2 l1 l2 = R at *
    clear hp
    go_enter Tryz.func12, Tryz.ntmps12
    go_wp2
    go_ret
    rw [← hW1'.out]
    exact ⟨by rw [hR.out]; simp, BL.out⟩
theorem sameT_no {p1 p2 : Int} {l1 l2 : List Int} {k : Nat} (hk : k < l1.length) (h : l1.getD k 0 ≠ l2.getD k 0) : sameT p1 p2 l1 l2 = false := by
  unfold sameT
  rw [decide_eq_false_iff_not]
  rintro ⟨_, rfl⟩
  exact h rfl
theorem sameT_yes {p : Int} {l1 l2 : List Int} (hl : l1.length = l2.length) (h : ∀ k, k < l1.length → l1.getD k 0 = l2.getD k 0) : sameT p p l1 l2 = true := by
  unfold sameT
  rw [decide_eq_true_iff]
  refine ⟨rfl, List.ext_getElem hl fun i h1 h2 => ?_⟩
  have := h i h1
  simpa [List.getD, h1, h2] using this
set_option maxRecDepth 100000 in
set_option maxHeartbeats 4000000 in
theorem rSame_any (p1 p2 : Int) (a1 a2 : Option Addr) (n1 n2 c1 c2 : Nat) (l1 l2 : List Int) (w : World) (h1 : SL w a1 n1 c1 l1) (h2 : SL w a2 n2 c2 l2) : Calls Tryz.prog 20 #[.agg #[.int .i64 p1, .slice a1 n1 c1], .agg #[.int .i64 p2, .slice a2 n2 c2]] w (Gives (.bool (sameT p1 p2 l1 l2)) w) := by
  obtain ⟨W1, hW1⟩ : ∃ W1, W1 = (w.alloc (.cells #[.int .i64 p1, .slice a1 n1 c1] 39)).alloc (.cells #[.int .i64 p2, .slice a2 n2 c2] 39) := ⟨_, rfl⟩
  have BL : Hid (Below w.heap.size w W1) := Lib.hid (by rw [hW1]; exact ((Below.refl _ _).alloc (Nat.le_refl _) _).alloc (by simp) _)
  have Z0 : Hid (Holds W1 w.heap.size 39 #[.int .i64 p1, .slice a1 n1 c1]) := Lib.hid (by rw [hW1]; exact (Holds.new w _ _).alloc _)
  have Z1 : Hid (Holds W1 (w.heap.size + 1) 39 #[.int .i64 p2, .slice a2 n2 c2]) := Lib.hid (by rw [hW1]; have q := Holds.new (w.alloc (.cells #[.int .i64 p1, .slice a1 n1 c1] 39)) 39 #[.int .i64 p2, .slice a2 n2 c2]; simpa using q)
  have S1 := Lib.hid (h1.below BL.out)
  have S2 := Lib.hid (h2.below BL.out)
  have hW1' := Lib.hid hW1
  have hn1 := Lib.hid h1.len
  have hn2 := Lib.hid h2.len
  have hm := h1.max
  have k0 := Z0.out.cell 0
  have k1 := Z0.out.cell 1
  have j0 := Z1.out.cell 0
  have j1 := Z1.out.cell 1
  simp at k0 k1 j0 j1
  rw [hW1] at k0 k1 j0 j1
  clear hW1 h1 h2
  by_cases hp : p1 = p2
  · have d : (p1 != p2) = false := by simp [hp]
    by_cases hn : n1 = n2
    · have d2 : ((n1 : Int) != (n2 : Int)) = false := by simp [hn]
      have hno := Lib.hid (fun k h1 h2 => sameT_no (p1 := p1) (p2 := p2) (l1 := l1) (l2 := l2) (k := k) h1 h2)
      have hyes : Hid ((∀ k, k < l1.length → l1.getD k 0 = l2.getD k 0) → sameT p1 p2 l1 l2 = true) := Lib.hid (fun h => by rw [hp]; exact sameT_yes (by rw [← hn1.out, ← hn2.out, hn]) h)
      have hnn := Lib.hid hn
      generalize sameT p1 p2 l1 l2 = R at *
      clear hp hn
      go_enter Tryz.func20, Tryz.ntmps20
      go_wp2
      rw [← hW1'.out]
      clear hW1' k0 k1 j0 j1
      have k1 := Z0.out.cell 1
      have j1 := Z1.out.cell 1
      simp at k1 j1
      go_loopw [5] (fun y wr => ∃ k : Nat, k ≤ n1 ∧ y = .int .i64 k ∧ Hid (Below W1.heap.size W1 wr) ∧ Hid (∀ t, t < k → l1.getD t 0 = l2.getD t 0)) (fun y _ => n1 - (intOf y).toNat)
      case atStart => exact ⟨0, Nat.zero_le _, rfl, Lib.hid (Below.refl _ _), Lib.hid (fun t ht => by omega)⟩
      case round =>
        obtain ⟨k, hk, rfl, hB, hal⟩ := hrel
        clear k1 j1
        have k1 := (Z0.out.below hB.out Z0.out.lt).cell 1
        have j1 := (Z1.out.below hB.out Z1.out.lt).cell 1
        simp at k1 j1
        by_cases hlt : k < n1
        · have hki : (k : Int) < (n1 : Int) := by omega
          have hki2 : (k : Int) < (n2 : Int) := by have := hnn.out; omega
          have hkl : k < l1.length := by rw [← hn1.out]; exact hlt
          obtain ⟨b, off, rfl, hbl, x0⟩ := sees_num S1.out.sees hkl
          obtain ⟨b', off', rfl, hbl', y0⟩ := sees_num S2.out.sees (i := k) (by rw [← hn2.out, ← hnn.out]; exact hlt)
          have X0 : ∀ W, Below wr.heap.size wr W → W.cell? ⟨b, off + k, none⟩ = some (.int .i64 (l1.getD k 0)) := fun W hW => ((hB.out.trans (hW.mono hB.out.size)).cell (p := ⟨b, off + k, none⟩) hbl).trans x0
          have Y0 : ∀ W, Below wr.heap.size wr W → W.cell? ⟨b', off' + k, none⟩ = some (.int .i64 (l2.getD k 0)) := fun W hW => ((hB.out.trans (hW.mono hB.out.size)).cell (p := ⟨b', off' + k, none⟩) hbl').trans y0
          have K1 : ∀ W, Below wr.heap.size wr W → W.cell? ⟨w.heap.size, 1, none⟩ = some (.slice (some ⟨b, off, none⟩) n1 c1) := fun W hW => (Z0.out.below (hB.out.trans (hW.mono hB.out.size)) Z0.out.lt).cell 1
          have J1 : ∀ W, Below wr.heap.size wr W → W.cell? ⟨w.heap.size + 1, 1, none⟩ = some (.slice (some ⟨b', off', none⟩) n2 c2) := fun W hW => (Z1.out.below (hB.out.trans (hW.mono hB.out.size)) Z1.out.lt).cell 1
          have hno' := Lib.hid (fun h => hno.out k hkl h)
          have hal2 : Hid (l1.getD k 0 = l2.getD k 0 → ∀ t, t < k + 1 → l1.getD t 0 = l2.getD t 0) := Lib.hid (fun h t ht => by
            by_cases e : t = k
            · rw [e]; exact h
            · exact hal.out t (by omega))
          clear x0 y0 hno hal
          generalize l1.getD k 0 = X at *
          generalize l2.getD k 0 = Y at *
          by_cases hXY : X = Y
          · have dx : (X != Y) = false := by simp [hXY]
            have hg := Lib.hid (hal2.out hXY)
            clear hXY hno' hal2
            go_wp2
            refine wp_drawn_on (fun W => Below wr.heap.size wr W) (by kernel_rfl) ((Below.refl _ _).drew) (fun hHeld => ?_)
            refine wpAnyH_take (i := 0) (oi := { dst := some 27, op := Go.Op.fieldAddr 39 (Go.Operand.tmp 2) 1, type := 0, pos := "ref.go:99", after := #[], guard := none }) (v := ?v1) rfl (by kernel_rfl) (by kernel_rfl) (by kernel_rfl) (fun _ _ _ h => h) (Or.inl ⟨by kernel_rfl, ?h1⟩) (by assumption) ?r1
            case h1 => (intro w hSw; (try dsimp only at hSw); go_simp; try with_reducible rfl)
            try simp only [Act.put, List.setIfInBounds_toArray, List.set_cons_zero, List.set_cons_succ]
            refine wpAnyH_take (i := 1) (oi := { dst := some 28, op := Go.Op.load 27 (Go.Operand.tmp 27), type := 27, pos := "ref.go:99", after := #[{ on := 0, ground := Go.Ground.data }], guard := none }) (v := ?v2) rfl (by kernel_rfl) (by kernel_rfl) (by kernel_rfl) (fun _ _ _ h => h) (Or.inl ⟨by kernel_rfl, ?h2⟩) (by assumption) ?r2
            case h2 => (intro w hSw; (try dsimp only at hSw); go_simp; try with_reducible rfl)
            try simp only [Act.put, List.setIfInBounds_toArray, List.set_cons_zero, List.set_cons_succ]
            refine wpAnyH_take (i := 2) (oi := { dst := some 29, op := Go.Op.move (Go.Operand.tmp 5), type := 3, pos := "ref.go:99", after := #[], guard := none }) (v := ?v3) rfl (by kernel_rfl) (by kernel_rfl) (by kernel_rfl) (fun _ _ _ h => h) (Or.inl ⟨by kernel_rfl, ?h3⟩) (by assumption) ?r3
            case h3 => (intro w hSw; (try dsimp only at hSw); go_simp; try with_reducible rfl)
            try simp only [Act.put, List.setIfInBounds_toArray, List.set_cons_zero, List.set_cons_succ]
            refine wpAnyH_take (i := 3) (oi := { dst := some 30, op := Go.Op.indexAddr 27 (Go.Operand.tmp 28) (Go.Operand.tmp 29), type := 0, pos := "ref.go:99", after := #[{ on := 1, ground := Go.Ground.data }, { on := 2, ground := Go.Ground.data }], guard := none }) (v := ?v4) rfl (by kernel_rfl) (by kernel_rfl) (by kernel_rfl) (fun _ _ _ h => h) (Or.inl ⟨by kernel_rfl, ?h4⟩) (by assumption) ?r4
            case h4 => (intro w hSw; (try dsimp only at hSw); go_simp; try with_reducible rfl)
            try simp only [Act.put, List.setIfInBounds_toArray, List.set_cons_zero, List.set_cons_succ]
            refine wpAnyH_take (i := 4) (oi := { dst := some 31, op := Go.Op.load 3 (Go.Operand.tmp 30), type := 3, pos := "ref.go:99", after := #[{ on := 3, ground := Go.Ground.data }], guard := none }) (v := ?v5) rfl (by kernel_rfl) (by kernel_rfl) (by kernel_rfl) (fun _ _ _ h => h) (Or.inl ⟨by kernel_rfl, ?h5⟩) (by assumption) ?r5
            case h5 => (intro w hSw; (try dsimp only at hSw); go_simp; try with_reducible rfl)
            try simp only [Act.put, List.setIfInBounds_toArray, List.set_cons_zero, List.set_cons_succ]
            refine wpAnyH_take (i := 5) (oi := { dst := some 32, op := Go.Op.fieldAddr 39 (Go.Operand.tmp 3) 1, type := 0, pos := "ref.go:99", after := #[], guard := none }) (v := ?v6) rfl (by kernel_rfl) (by kernel_rfl) (by kernel_rfl) (fun _ _ _ h => h) (Or.inl ⟨by kernel_rfl, ?h6⟩) (by assumption) ?r6
            case h6 => (intro w hSw; (try dsimp only at hSw); go_simp; try with_reducible rfl)
            try simp only [Act.put, List.setIfInBounds_toArray, List.set_cons_zero, List.set_cons_succ]
            refine wpAnyH_take (i := 6) (oi := { dst := some 33, op := Go.Op.load 27 (Go.Operand.tmp 32), type := 27, pos := "ref.go:99", after := #[{ on := 5, ground := Go.Ground.data }], guard := none }) (v := ?v7) rfl (by kernel_rfl) (by kernel_rfl) (by kernel_rfl) (fun _ _ _ h => h) (Or.inl ⟨by kernel_rfl, ?h7⟩) (by assumption) ?r7
            case h7 => (intro w hSw; (try dsimp only at hSw); go_simp; try with_reducible rfl)
            try simp only [Act.put, List.setIfInBounds_toArray, List.set_cons_zero, List.set_cons_succ]
            refine wpAnyH_take (i := 7) (oi := { dst := some 34, op := Go.Op.move (Go.Operand.tmp 5), type := 3, pos := "ref.go:99", after := #[], guard := none }) (v := ?v8) rfl (by kernel_rfl) (by kernel_rfl) (by kernel_rfl) (fun _ _ _ h => h) (Or.inl ⟨by kernel_rfl, ?h8⟩) (by assumption) ?r8
            case h8 => (intro w hSw; (try dsimp only at hSw); go_simp; try with_reducible rfl)
            try simp only [Act.put, List.setIfInBounds_toArray, List.set_cons_zero, List.set_cons_succ]
            refine wpAnyH_take (i := 8) (oi := { dst := some 35, op := Go.Op.indexAddr 27 (Go.Operand.tmp 33) (Go.Operand.tmp 34), type := 0, pos := "ref.go:99", after := #[{ on := 6, ground := Go.Ground.data }, { on := 7, ground := Go.Ground.data }], guard := none }) (v := ?v9) rfl (by kernel_rfl) (by kernel_rfl) (by kernel_rfl) (fun _ _ _ h => h) (Or.inl ⟨by kernel_rfl, ?h9⟩) (by assumption) ?r9
            case h9 => (intro w hSw; (try dsimp only at hSw); go_simp; try with_reducible rfl)
            try simp only [Act.put, List.setIfInBounds_toArray, List.set_cons_zero, List.set_cons_succ]
            refine wpAnyH_take (i := 9) (oi := { dst := some 36, op := Go.Op.load 3 (Go.Operand.tmp 35), type := 3, pos := "ref.go:99", after := #[{ on := 8, ground := Go.Ground.data }], guard := none }) (v := ?v10) rfl (by kernel_rfl) (by kernel_rfl) (by kernel_rfl) (fun _ _ _ h => h) (Or.inl ⟨by kernel_rfl, ?h10⟩) (by assumption) ?r10
            case h10 => (intro w hSw; (try dsimp only at hSw); go_simp; try with_reducible rfl)
            try simp only [Act.put, List.setIfInBounds_toArray, List.set_cons_zero, List.set_cons_succ]
            refine wpAnyH_take (i := 10) (oi := { dst := some 37, op := Go.Op.binOp Go.BinOp.neq 3 (Go.Operand.tmp 31) (Go.Operand.tmp 36) 3, type := 4, pos := "ref.go:99", after := #[{ on := 4, ground := Go.Ground.data }, { on := 9, ground := Go.Ground.data }], guard := none }) (v := ?v11) rfl (by kernel_rfl) (by kernel_rfl) (by kernel_rfl) (fun _ _ _ h => h) (Or.inl ⟨by kernel_rfl, ?h11⟩) (by assumption) ?r11
            case h11 => (intro w hSw; (try dsimp only at hSw); go_simp; try with_reducible rfl)
            try simp only [Act.put, List.setIfInBounds_toArray, List.set_cons_zero, List.set_cons_succ]
            refine wpAnyH_done (by kernel_rfl) ?_ _
            go_wp2
            go_roundw
            case rel => exact ⟨k + 1, by omega, by go_num, Lib.hid (hB.out.trans (hHeld.mono hB.out.size)), hg⟩
            case measure => simp [intOf]; omega
          · have dx : (X != Y) = true := by simp [hXY]
            have hf := Lib.hid (hno'.out hXY)
            clear hXY hno' hal2
            go_wp2
            refine wp_drawn_on (fun W => Below wr.heap.size wr W) (by kernel_rfl) ((Below.refl _ _).drew) (fun hHeld => ?_)
            refine wpAnyH_take (i := 0) (oi := { dst := some 27, op := Go.Op.fieldAddr 39 (Go.Operand.tmp 2) 1, type := 0, pos := "ref.go:99", after := #[], guard := none }) (v := ?v12) rfl (by kernel_rfl) (by kernel_rfl) (by kernel_rfl) (fun _ _ _ h => h) (Or.inl ⟨by kernel_rfl, ?h12⟩) (by assumption) ?r12
            case h12 => (intro w hSw; (try dsimp only at hSw); go_simp; try with_reducible rfl)
            try simp only [Act.put, List.setIfInBounds_toArray, List.set_cons_zero, List.set_cons_succ]
            refine wpAnyH_take (i := 1) (oi := { dst := some 28, op := Go.Op.load 27 (Go.Operand.tmp 27), type := 27, pos := "ref.go:99", after := #[{ on := 0, ground := Go.Ground.data }], guard := none }) (v := ?v13) rfl (by kernel_rfl) (by kernel_rfl) (by kernel_rfl) (fun _ _ _ h => h) (Or.inl ⟨by kernel_rfl, ?h13⟩) (by assumption) ?r13
            case h13 => (intro w hSw; (try dsimp only at hSw); go_simp; try with_reducible rfl)
            try simp only [Act.put, List.setIfInBounds_toArray, List.set_cons_zero, List.set_cons_succ]
            refine wpAnyH_take (i := 2) (oi := { dst := some 29, op := Go.Op.move (Go.Operand.tmp 5), type := 3, pos := "ref.go:99", after := #[], guard := none }) (v := ?v14) rfl (by kernel_rfl) (by kernel_rfl) (by kernel_rfl) (fun _ _ _ h => h) (Or.inl ⟨by kernel_rfl, ?h14⟩) (by assumption) ?r14
            case h14 => (intro w hSw; (try dsimp only at hSw); go_simp; try with_reducible rfl)
            try simp only [Act.put, List.setIfInBounds_toArray, List.set_cons_zero, List.set_cons_succ]
            refine wpAnyH_take (i := 3) (oi := { dst := some 30, op := Go.Op.indexAddr 27 (Go.Operand.tmp 28) (Go.Operand.tmp 29), type := 0, pos := "ref.go:99", after := #[{ on := 1, ground := Go.Ground.data }, { on := 2, ground := Go.Ground.data }], guard := none }) (v := ?v15) rfl (by kernel_rfl) (by kernel_rfl) (by kernel_rfl) (fun _ _ _ h => h) (Or.inl ⟨by kernel_rfl, ?h15⟩) (by assumption) ?r15
            case h15 => (intro w hSw; (try dsimp only at hSw); go_simp; try with_reducible rfl)
            try simp only [Act.put, List.setIfInBounds_toArray, List.set_cons_zero, List.set_cons_succ]
            refine wpAnyH_take (i := 4) (oi := { dst := some 31, op := Go.Op.load 3 (Go.Operand.tmp 30), type := 3, pos := "ref.go:99", after := #[{ on := 3, ground := Go.Ground.data }], guard := none }) (v := ?v16) rfl (by kernel_rfl) (by kernel_rfl) (by kernel_rfl) (fun _ _ _ h => h) (Or.inl ⟨by kernel_rfl, ?h16⟩) (by assumption) ?r16
            case h16 => (intro w hSw; (try dsimp only at hSw); go_simp; try with_reducible rfl)
            try simp only [Act.put, List.setIfInBounds_toArray, List.set_cons_zero, List.set_cons_succ]
            refine wpAnyH_take (i := 5) (oi := { dst := some 32, op := Go.Op.fieldAddr 39 (Go.Operand.tmp 3) 1, type := 0, pos := "ref.go:99", after := #[], guard := none }) (v := ?v17) rfl (by kernel_rfl) (by kernel_rfl) (by kernel_rfl) (fun _ _ _ h => h) (Or.inl ⟨by kernel_rfl, ?h17⟩) (by assumption) ?r17
            case h17 => (intro w hSw; (try dsimp only at hSw); go_simp; try with_reducible rfl)
            try simp only [Act.put, List.setIfInBounds_toArray, List.set_cons_zero, List.set_cons_succ]
            refine wpAnyH_take (i := 6) (oi := { dst := some 33, op := Go.Op.load 27 (Go.Operand.tmp 32), type := 27, pos := "ref.go:99", after := #[{ on := 5, ground := Go.Ground.data }], guard := none }) (v := ?v18) rfl (by kernel_rfl) (by kernel_rfl) (by kernel_rfl) (fun _ _ _ h => h) (Or.inl ⟨by kernel_rfl, ?h18⟩) (by assumption) ?r18
            case h18 => (intro w hSw; (try dsimp only at hSw); go_simp; try with_reducible rfl)
            try simp only [Act.put, List.setIfInBounds_toArray, List.set_cons_zero, List.set_cons_succ]
            refine wpAnyH_take (i := 7) (oi := { dst := some 34, op := Go.Op.move (Go.Operand.tmp 5), type := 3, pos := "ref.go:99", after := #[], guard := none }) (v := ?v19) rfl (by kernel_rfl) (by kernel_rfl) (by kernel_rfl) (fun _ _ _ h => h) (Or.inl ⟨by kernel_rfl, ?h19⟩) (by assumption) ?r19
            case h19 => (intro w hSw; (try dsimp only at hSw); go_simp; try with_reducible rfl)
            try simp only [Act.put, List.setIfInBounds_toArray, List.set_cons_zero, List.set_cons_succ]
            refine wpAnyH_take (i := 8) (oi := { dst := some 35, op := Go.Op.indexAddr 27 (Go.Operand.tmp 33) (Go.Operand.tmp 34), type := 0, pos := "ref.go:99", after := #[{ on := 6, ground := Go.Ground.data }, { on := 7, ground := Go.Ground.data }], guard := none }) (v := ?v20) rfl (by kernel_rfl) (by kernel_rfl) (by kernel_rfl) (fun _ _ _ h => h) (Or.inl ⟨by kernel_rfl, ?h20⟩) (by assumption) ?r20
            case h20 => (intro w hSw; (try dsimp only at hSw); go_simp; try with_reducible rfl)
            try simp only [Act.put, List.setIfInBounds_toArray, List.set_cons_zero, List.set_cons_succ]
            refine wpAnyH_take (i := 9) (oi := { dst := some 36, op := Go.Op.load 3 (Go.Operand.tmp 35), type := 3, pos := "ref.go:99", after := #[{ on := 8, ground := Go.Ground.data }], guard := none }) (v := ?v21) rfl (by kernel_rfl) (by kernel_rfl) (by kernel_rfl) (fun _ _ _ h => h) (Or.inl ⟨by kernel_rfl, ?h21⟩) (by assumption) ?r21
            case h21 => (intro w hSw; (try dsimp only at hSw); go_simp; try with_reducible rfl)
            try simp only [Act.put, List.setIfInBounds_toArray, List.set_cons_zero, List.set_cons_succ]
            refine wpAnyH_take (i := 10) (oi := { dst := some 37, op := Go.Op.binOp Go.BinOp.neq 3 (Go.Operand.tmp 31) (Go.Operand.tmp 36) 3, type := 4, pos := "ref.go:99", after := #[{ on := 4, ground := Go.Ground.data }, { on := 9, ground := Go.Ground.data }], guard := none }) (v := ?v22) rfl (by kernel_rfl) (by kernel_rfl) (by kernel_rfl) (fun _ _ _ h => h) (Or.inl ⟨by kernel_rfl, ?h22⟩) (by assumption) ?r22
            case h22 => (intro w hSw; (try dsimp only at hSw); go_simp; try with_reducible rfl)
            try simp only [Act.put, List.setIfInBounds_toArray, List.set_cons_zero, List.set_cons_succ]
            refine wpAnyH_done (by kernel_rfl) ?_ _
            go_wp2
            go_ret
            exact ⟨by rw [hf.out]; rfl, BL.out.trans ((hB.out.trans (hHeld.mono hB.out.size)).mono BL.out.size)⟩
        · have hki : ¬ (k : Int) < (n1 : Int) := by omega
          have hf := Lib.hid (hyes.out (fun t ht => hal.out t (by rw [← hn1.out] at ht; omega)))
          go_wp2
          go_ret
          exact ⟨by rw [hf.out]; rfl, BL.out.trans (hB.out.mono BL.out.size)⟩
    · have d2 : ((n1 : Int) != (n2 : Int)) = true := by simp; omega
      have hf : Hid (sameT p1 p2 l1 l2 = false) := Lib.hid (by unfold sameT; rw [decide_eq_false_iff_not]; rintro ⟨_, rfl⟩; exact hn (by rw [hn1.out, hn2.out]))
      generalize sameT p1 p2 l1 l2 = R at *
      clear hp hn
      go_enter Tryz.func20, Tryz.ntmps20
      go_wp2
      go_ret
      rw [← hW1'.out]
      exact ⟨by rw [hf.out]; rfl, BL.out⟩
  · have d : (p1 != p2) = true := by simp [hp]
    have hf : Hid (sameT p1 p2 l1 l2 = false) := Lib.hid (by unfold sameT; simp [hp])
    generalize sameT p1 p2 l1 l2 = R at *
    clear hp
    go_enter Tryz.func20, Tryz.ntmps20
    go_wp2
    go_ret
    rw [← hW1'.out]
    exact ⟨by rw [hf.out]; rfl, BL.out⟩
end Go.Proofs.YtjdfjekonnkglaaGreatDoor
namespace Go.Proofs.YtjdfjekonnkglaaGreatDoor
open Go.RowKit
set_option linter.unusedVariables false
set_option linter.unusedSimpArgs false
theorem SL.cells {w : World} {a : Option Addr} {n c : Nat} {l : List Int} (h : SL w a n c l) : SeesC w.heap.size w a (nums .i64 l) := by
  rcases h.sees with rfl | ⟨b, off, rfl, hb, hc⟩
  · exact .inl rfl
  · refine .inr ⟨b, off, rfl, hb, fun i u hu => ?_⟩
    unfold nums at hu
    have hi : i < l.length := by have := (List.getElem?_eq_some_iff.1 hu).1; simpa using this
    rw [hc i hi]
    simp [hi] at hu
    simp [List.getD, hi, hu]
theorem clone_sl {n : Nat} {a' : Option Addr} {c' : Nat} {l : List Int} {w w' : World} (h : w'.ownsRow w.heap.size 3 1 (.slice a' n c') n (nums .i64 l)) (hn : n ≤ 1000) : SL w' a' n c' l := by
  obtain ⟨a2, c2, e, he, hs⟩ := sees_own h
  injection e with e1 e2 e3
  subst e1
  exact ⟨he, own_cap h, by omega, hs⟩
end Go.Proofs.YtjdfjekonnkglaaGreatDoor
namespace Go.Proofs.YtjdfjekonnkglaaGreatDoor
open Go.RowKit
set_option linter.unusedVariables false
set_option linter.unusedSimpArgs false
theorem sl_set2 {w : World} {a : Option Addr} {n c : Nat} {l : List Int} (h : SL w a n c l) (g : Nat) (u1 u2 : Value) (hne : ∀ p : Addr, a = some p → p.block ≠ g) : SL ((w.setCell ⟨g, 0, none⟩ u1).setCell ⟨g, 1, none⟩ u2) a n c l := by
  have hE : SeesE [g] .i64 w.heap.size w a l := by
    rcases h.sees with hh | ⟨b, off, rfl, h2, h3⟩
    · exact .inl hh
    · exact .inr ⟨b, off, rfl, h2, (fun hm => hne ⟨b, off, none⟩ rfl (by simpa using hm)), h3⟩
  have hb : BelowE [g] w.heap.size w ((w.setCell ⟨g, 0, none⟩ u1).setCell ⟨g, 1, none⟩ u2) := ((BelowE.refl _ _ _).setIn (p := ⟨g, 0, none⟩) (by simp) _).setIn (p := ⟨g, 1, none⟩) (by simp) _
  exact ⟨h.len, h.cap, h.max, ((hE.belowE hb).mono hb.size).sees⟩
end Go.Proofs.YtjdfjekonnkglaaGreatDoor
namespace Go.Proofs.YtjdfjekonnkglaaGreatDoor
open Go.RowKit
set_option linter.unusedVariables false
set_option linter.unusedSimpArgs false
def stepS (D : PD) (pt : Int) (l : List Int) (e v : Int) : (Int × List Int) × Int := if progB D = true then (if stateB D pt l = true then stepR D pt l e v else ((0, []), 1)) else ((0, []), 110)
set_option maxRecDepth 100000 in
set_option maxHeartbeats 4000000 in
theorem runStep_no (pnm : ByteArray) (pa1 : Option Addr) (pn1 pc1 : Nat) (pa2 : Option Addr) (pn2 pc2 : Nat) (pa3 : Option Addr) (pn3 pc3 : Nat) (D : PD) (pt : Int) (a : Option Addr) (n c : Nat) (l : List Int) (e v : Int) (w : World) (h : PrA w ⟨pnm, pa1, pn1, pc1, pa2, pn2, pc2, pa3, pn3, pc3⟩ D) (hs : SL w a n c l) (hp : progB D = false) : Calls Tryz.prog 11 #[.agg #[.string pnm, .slice pa1 pn1 pc1, .slice pa2 pn2 pc2, .slice pa3 pn3 pc3], .agg #[.int .i64 pt, .slice a n c], .agg #[.int .i64 e, .int .i64 v]] w (StE 0 [] 110 w) := by
  obtain ⟨W1, hW1⟩ : ∃ W1, W1 = (((w.alloc (.cells #[.string pnm, .slice pa1 pn1 pc1, .slice pa2 pn2 pc2, .slice pa3 pn3 pc3] 26)).alloc (.cells #[.int .i64 pt, .slice a n c] 39)).alloc (.cells #[.int .i64 e, .int .i64 v] 44)).alloc (.cells #[.int .i64 0, .slice none 0 0] 39) := ⟨_, rfl⟩
  have BL : Hid (Below w.heap.size w W1) := Lib.hid (by rw [hW1]; exact ((((Below.refl _ _).alloc (Nat.le_refl _) _).alloc (by simp) _).alloc (by simp; omega) _).alloc (by simp; omega) _)
  have Z0 : Hid (Holds W1 w.heap.size 26 #[.string pnm, .slice pa1 pn1 pc1, .slice pa2 pn2 pc2, .slice pa3 pn3 pc3]) := Lib.hid (by rw [hW1]; exact (((Holds.new w _ _).alloc _).alloc _).alloc _)
  have Z1 : Hid (Holds W1 (w.heap.size + 1) 39 #[.int .i64 pt, .slice a n c]) := Lib.hid (by rw [hW1]; have q := ((Holds.new (w.alloc (.cells #[.string pnm, .slice pa1 pn1 pc1, .slice pa2 pn2 pc2, .slice pa3 pn3 pc3] 26)) 39 #[.int .i64 pt, .slice a n c]).alloc (.cells #[.int .i64 e, .int .i64 v] 44)).alloc (.cells #[.int .i64 0, .slice none 0 0] 39); simpa using q)
  have Z2 : Hid (Holds W1 (w.heap.size + 2) 44 #[.int .i64 e, .int .i64 v]) := Lib.hid (by rw [hW1]; have q := (Holds.new ((w.alloc (.cells #[.string pnm, .slice pa1 pn1 pc1, .slice pa2 pn2 pc2, .slice pa3 pn3 pc3] 26)).alloc (.cells #[.int .i64 pt, .slice a n c] 39)) 44 #[.int .i64 e, .int .i64 v]).alloc (.cells #[.int .i64 0, .slice none 0 0] 39); simpa using q)
  have Z3 : Hid (Holds W1 (w.heap.size + 3) 39 #[.int .i64 0, .slice none 0 0]) := Lib.hid (by rw [hW1]; have q := Holds.new (((w.alloc (.cells #[.string pnm, .slice pa1 pn1 pc1, .slice pa2 pn2 pc2, .slice pa3 pn3 pc3] 26)).alloc (.cells #[.int .i64 pt, .slice a n c] 39)).alloc (.cells #[.int .i64 e, .int .i64 v] 44)) 39 #[.int .i64 0, .slice none 0 0]; simpa using q)
  have hW1' := Lib.hid hW1
  clear hW1
  have P := Lib.hid (h.below BL.out)
  have S := Lib.hid (hs.below BL.out)
  have qc := Lib.hid (pcheck_any ⟨pnm, pa1, pn1, pc1, pa2, pn2, pc2, pa3, pn3, pc3⟩ D W1 P.out)
  rw [pchk_bad hp] at qc
  have k0 := Z0.out.cell 0
  have k1 := Z0.out.cell 1
  have k2 := Z0.out.cell 2
  have k3 := Z0.out.cell 3
  have j0 := Z1.out.cell 0
  have j1 := Z1.out.cell 1
  have i0 := Z2.out.cell 0
  have i1 := Z2.out.cell 1
  simp at k0 k1 k2 k3 j0 j1 i0 i1
  rw [hW1'.out] at k0 k1 k2 k3 j0 j1 i0 i1
  clear h hs hp
  go_enter Tryz.func11, Tryz.ntmps11
  go_wp2_with fail
  rw [← hW1'.out]
  with_reducible refine qc.out.mono ?_
  rintro e2 W2 ⟨rfl, b2⟩
  clear k0 k1 k2 k3 j0 j1 i0 i1
  replace Z0 := Lib.hid (Z0.out.below b2 Z0.out.lt)
  replace Z1 := Lib.hid (Z1.out.below b2 Z1.out.lt)
  replace Z2 := Lib.hid (Z2.out.below b2 Z2.out.lt)
  replace Z3 := Lib.hid (Z3.out.below b2 Z3.out.lt)
  replace P := Lib.hid (P.out.below b2)
  replace S := Lib.hid (S.out.below b2)
  replace BL := Lib.hid (BL.out.trans (b2.mono BL.out.size))
  clear b2
  have m0 := Z3.out.cell 0
  have m1 := Z3.out.cell 1
  have n0 := Z3.out.free 0
  have n1 := Z3.out.free 1
  simp at m0 m1
  go_wp2
  exact state_ret2 (state_set Z3.out _ _) ⟨none, 0, 0, rfl, SL.nil _, belT BL.out (by omega) _ _, fun p hp => by cases hp⟩ _ _ 6 7 rfl rfl rfl rfl
set_option maxRecDepth 100000 in
set_option maxHeartbeats 4000000 in
theorem runStep_bad (pnm : ByteArray) (pa1 : Option Addr) (pn1 pc1 : Nat) (pa2 : Option Addr) (pn2 pc2 : Nat) (pa3 : Option Addr) (pn3 pc3 : Nat) (D : PD) (pt : Int) (a : Option Addr) (n c : Nat) (l : List Int) (e v : Int) (w : World) (h : PrA w ⟨pnm, pa1, pn1, pc1, pa2, pn2, pc2, pa3, pn3, pc3⟩ D) (hs : SL w a n c l) (hp : progB D = true) (hst : stateB D pt l = false) : Calls Tryz.prog 11 #[.agg #[.string pnm, .slice pa1 pn1 pc1, .slice pa2 pn2 pc2, .slice pa3 pn3 pc3], .agg #[.int .i64 pt, .slice a n c], .agg #[.int .i64 e, .int .i64 v]] w (StE 0 [] 1 w) := by
  obtain ⟨W1, hW1⟩ : ∃ W1, W1 = (((w.alloc (.cells #[.string pnm, .slice pa1 pn1 pc1, .slice pa2 pn2 pc2, .slice pa3 pn3 pc3] 26)).alloc (.cells #[.int .i64 pt, .slice a n c] 39)).alloc (.cells #[.int .i64 e, .int .i64 v] 44)).alloc (.cells #[.int .i64 0, .slice none 0 0] 39) := ⟨_, rfl⟩
  have BL : Hid (Below w.heap.size w W1) := Lib.hid (by rw [hW1]; exact ((((Below.refl _ _).alloc (Nat.le_refl _) _).alloc (by simp) _).alloc (by simp; omega) _).alloc (by simp; omega) _)
  have Z0 : Hid (Holds W1 w.heap.size 26 #[.string pnm, .slice pa1 pn1 pc1, .slice pa2 pn2 pc2, .slice pa3 pn3 pc3]) := Lib.hid (by rw [hW1]; exact (((Holds.new w _ _).alloc _).alloc _).alloc _)
  have Z1 : Hid (Holds W1 (w.heap.size + 1) 39 #[.int .i64 pt, .slice a n c]) := Lib.hid (by rw [hW1]; have q := ((Holds.new (w.alloc (.cells #[.string pnm, .slice pa1 pn1 pc1, .slice pa2 pn2 pc2, .slice pa3 pn3 pc3] 26)) 39 #[.int .i64 pt, .slice a n c]).alloc (.cells #[.int .i64 e, .int .i64 v] 44)).alloc (.cells #[.int .i64 0, .slice none 0 0] 39); simpa using q)
  have Z2 : Hid (Holds W1 (w.heap.size + 2) 44 #[.int .i64 e, .int .i64 v]) := Lib.hid (by rw [hW1]; have q := (Holds.new ((w.alloc (.cells #[.string pnm, .slice pa1 pn1 pc1, .slice pa2 pn2 pc2, .slice pa3 pn3 pc3] 26)).alloc (.cells #[.int .i64 pt, .slice a n c] 39)) 44 #[.int .i64 e, .int .i64 v]).alloc (.cells #[.int .i64 0, .slice none 0 0] 39); simpa using q)
  have Z3 : Hid (Holds W1 (w.heap.size + 3) 39 #[.int .i64 0, .slice none 0 0]) := Lib.hid (by rw [hW1]; have q := Holds.new (((w.alloc (.cells #[.string pnm, .slice pa1 pn1 pc1, .slice pa2 pn2 pc2, .slice pa3 pn3 pc3] 26)).alloc (.cells #[.int .i64 pt, .slice a n c] 39)).alloc (.cells #[.int .i64 e, .int .i64 v] 44)) 39 #[.int .i64 0, .slice none 0 0]; simpa using q)
  have hW1' := Lib.hid hW1
  clear hW1
  have P := Lib.hid (h.below BL.out)
  have S := Lib.hid (hs.below BL.out)
  have qc := Lib.hid (pcheck_any ⟨pnm, pa1, pn1, pc1, pa2, pn2, pc2, pa3, pn3, pc3⟩ D W1 P.out)
  rw [pchk_ok hp] at qc
  have qs := Lib.hid (fun W (hW : Below W1.heap.size W1 W) => isState_any pnm pa1 pn1 pc1 pa2 pn2 pc2 pa3 pn3 pc3 D pt a n c l W (P.out.below hW) (S.out.below hW))
  rw [hst] at qs
  have k0 := Z0.out.cell 0
  have k1 := Z0.out.cell 1
  have k2 := Z0.out.cell 2
  have k3 := Z0.out.cell 3
  have j0 := Z1.out.cell 0
  have j1 := Z1.out.cell 1
  have i0 := Z2.out.cell 0
  have i1 := Z2.out.cell 1
  simp at k0 k1 k2 k3 j0 j1 i0 i1
  rw [hW1'.out] at k0 k1 k2 k3 j0 j1 i0 i1
  clear h hs hp hst
  go_enter Tryz.func11, Tryz.ntmps11
  go_wp2_with fail
  rw [← hW1'.out]
  with_reducible refine qc.out.mono ?_
  rintro e2 W2 ⟨rfl, b2⟩
  clear k0 k1 k2 k3 j0 j1 i0 i1
  have b2' := Lib.hid b2
  replace Z0 := Lib.hid (Z0.out.below b2 Z0.out.lt)
  replace Z1 := Lib.hid (Z1.out.below b2 Z1.out.lt)
  replace Z2 := Lib.hid (Z2.out.below b2 Z2.out.lt)
  replace Z3 := Lib.hid (Z3.out.below b2 Z3.out.lt)
  replace P := Lib.hid (P.out.below b2)
  replace S := Lib.hid (S.out.below b2)
  replace BL := Lib.hid (BL.out.trans (b2.mono BL.out.size))
  clear b2
  have k0 := Z0.out.cell 0
  have k1 := Z0.out.cell 1
  have k2 := Z0.out.cell 2
  have k3 := Z0.out.cell 3
  have j0 := Z1.out.cell 0
  have j1 := Z1.out.cell 1
  have i0 := Z2.out.cell 0
  have i1 := Z2.out.cell 1
  simp at k0 k1 k2 k3 j0 j1 i0 i1
  go_wp2_with fail
  with_reducible refine (qs.out _ b2'.out).mono ?_
  rintro e3 W3 ⟨rfl, b3⟩
  clear k0 k1 k2 k3 j0 j1 i0 i1
  replace Z0 := Lib.hid (Z0.out.below b3 Z0.out.lt)
  replace Z1 := Lib.hid (Z1.out.below b3 Z1.out.lt)
  replace Z2 := Lib.hid (Z2.out.below b3 Z2.out.lt)
  replace Z3 := Lib.hid (Z3.out.below b3 Z3.out.lt)
  replace P := Lib.hid (P.out.below b3)
  replace S := Lib.hid (S.out.below b3)
  replace BL := Lib.hid (BL.out.trans (b3.mono BL.out.size))
  clear b3
  have m0 := Z3.out.cell 0
  have m1 := Z3.out.cell 1
  have n0 := Z3.out.free 0
  have n1 := Z3.out.free 1
  simp at m0 m1
  go_wp2
  exact state_ret2 (state_set Z3.out _ _) ⟨none, 0, 0, rfl, SL.nil _, belT BL.out (by omega) _ _, fun p hp => by cases hp⟩ _ _ 6 7 rfl rfl rfl rfl
set_option maxRecDepth 100000 in
set_option maxHeartbeats 4000000 in
theorem runStep_go (pnm : ByteArray) (pa1 : Option Addr) (pn1 pc1 : Nat) (pa2 : Option Addr) (pn2 pc2 : Nat) (pa3 : Option Addr) (pn3 pc3 : Nat) (D : PD) (pt : Int) (a : Option Addr) (n c : Nat) (l : List Int) (e v : Int) (w : World) (h : PrA w ⟨pnm, pa1, pn1, pc1, pa2, pn2, pc2, pa3, pn3, pc3⟩ D) (hs : SL w a n c l) (hp : progB D = true) (hst : stateB D pt l = true) : Calls Tryz.prog 11 #[.agg #[.string pnm, .slice pa1 pn1 pc1, .slice pa2 pn2 pc2, .slice pa3 pn3 pc3], .agg #[.int .i64 pt, .slice a n c], .agg #[.int .i64 e, .int .i64 v]] w (StE (stepR D pt l e v).1.1 (stepR D pt l e v).1.2 (stepR D pt l e v).2 w) := by
  obtain ⟨W1, hW1⟩ : ∃ W1, W1 = (((w.alloc (.cells #[.string pnm, .slice pa1 pn1 pc1, .slice pa2 pn2 pc2, .slice pa3 pn3 pc3] 26)).alloc (.cells #[.int .i64 pt, .slice a n c] 39)).alloc (.cells #[.int .i64 e, .int .i64 v] 44)).alloc (.cells #[.int .i64 0, .slice none 0 0] 39) := ⟨_, rfl⟩
  have BL : Hid (Below w.heap.size w W1) := Lib.hid (by rw [hW1]; exact ((((Below.refl _ _).alloc (Nat.le_refl _) _).alloc (by simp) _).alloc (by simp; omega) _).alloc (by simp; omega) _)
  have Z0 : Hid (Holds W1 w.heap.size 26 #[.string pnm, .slice pa1 pn1 pc1, .slice pa2 pn2 pc2, .slice pa3 pn3 pc3]) := Lib.hid (by rw [hW1]; exact (((Holds.new w _ _).alloc _).alloc _).alloc _)
  have Z1 : Hid (Holds W1 (w.heap.size + 1) 39 #[.int .i64 pt, .slice a n c]) := Lib.hid (by rw [hW1]; have q := ((Holds.new (w.alloc (.cells #[.string pnm, .slice pa1 pn1 pc1, .slice pa2 pn2 pc2, .slice pa3 pn3 pc3] 26)) 39 #[.int .i64 pt, .slice a n c]).alloc (.cells #[.int .i64 e, .int .i64 v] 44)).alloc (.cells #[.int .i64 0, .slice none 0 0] 39); simpa using q)
  have Z2 : Hid (Holds W1 (w.heap.size + 2) 44 #[.int .i64 e, .int .i64 v]) := Lib.hid (by rw [hW1]; have q := (Holds.new ((w.alloc (.cells #[.string pnm, .slice pa1 pn1 pc1, .slice pa2 pn2 pc2, .slice pa3 pn3 pc3] 26)).alloc (.cells #[.int .i64 pt, .slice a n c] 39)) 44 #[.int .i64 e, .int .i64 v]).alloc (.cells #[.int .i64 0, .slice none 0 0] 39); simpa using q)
  have Z3 : Hid (Holds W1 (w.heap.size + 3) 39 #[.int .i64 0, .slice none 0 0]) := Lib.hid (by rw [hW1]; have q := Holds.new (((w.alloc (.cells #[.string pnm, .slice pa1 pn1 pc1, .slice pa2 pn2 pc2, .slice pa3 pn3 pc3] 26)).alloc (.cells #[.int .i64 pt, .slice a n c] 39)).alloc (.cells #[.int .i64 e, .int .i64 v] 44)) 39 #[.int .i64 0, .slice none 0 0]; simpa using q)
  have hW1' := Lib.hid hW1
  clear hW1
  have P := Lib.hid (h.below BL.out)
  have S := Lib.hid (hs.below BL.out)
  have qc := Lib.hid (pcheck_any ⟨pnm, pa1, pn1, pc1, pa2, pn2, pc2, pa3, pn3, pc3⟩ D W1 P.out)
  rw [pchk_ok hp] at qc
  have qs := Lib.hid (fun W (hW : Below W1.heap.size W1 W) => isState_any pnm pa1 pn1 pc1 pa2 pn2 pc2 pa3 pn3 pc3 D pt a n c l W (P.out.below hW) (S.out.below hW))
  rw [hst] at qs
  have k0 := Z0.out.cell 0
  have k1 := Z0.out.cell 1
  have k2 := Z0.out.cell 2
  have k3 := Z0.out.cell 3
  have j0 := Z1.out.cell 0
  have j1 := Z1.out.cell 1
  have i0 := Z2.out.cell 0
  have i1 := Z2.out.cell 1
  simp at k0 k1 k2 k3 j0 j1 i0 i1
  rw [hW1'.out] at k0 k1 k2 k3 j0 j1 i0 i1
  have hv : valsB l D.vars.length = true := by unfold stateB at hst; simp only [Bool.and_eq_true] at hst; exact hst.2.2
  have qp := Lib.hid (fun W hW hW2 => step_any pnm pa1 pn1 pc1 pa2 pn2 pc2 pa3 pn3 pc3 D pt a n c l hp hv e v W hW hW2)
  generalize stepR D pt l e v = R at *
  clear hv
  clear h hs hp hst
  go_enter Tryz.func11, Tryz.ntmps11
  go_wp2_with fail
  rw [← hW1'.out]
  with_reducible refine qc.out.mono ?_
  rintro e2 W2 ⟨rfl, b2⟩
  clear k0 k1 k2 k3 j0 j1 i0 i1
  have b2' := Lib.hid b2
  replace Z0 := Lib.hid (Z0.out.below b2 Z0.out.lt)
  replace Z1 := Lib.hid (Z1.out.below b2 Z1.out.lt)
  replace Z2 := Lib.hid (Z2.out.below b2 Z2.out.lt)
  replace Z3 := Lib.hid (Z3.out.below b2 Z3.out.lt)
  replace P := Lib.hid (P.out.below b2)
  replace S := Lib.hid (S.out.below b2)
  replace BL := Lib.hid (BL.out.trans (b2.mono BL.out.size))
  clear b2
  have k0 := Z0.out.cell 0
  have k1 := Z0.out.cell 1
  have k2 := Z0.out.cell 2
  have k3 := Z0.out.cell 3
  have j0 := Z1.out.cell 0
  have j1 := Z1.out.cell 1
  have i0 := Z2.out.cell 0
  have i1 := Z2.out.cell 1
  simp at k0 k1 k2 k3 j0 j1 i0 i1
  go_wp2_with fail
  with_reducible refine (qs.out _ b2'.out).mono ?_
  rintro e3 W3 ⟨rfl, b3⟩
  clear k0 k1 k2 k3 j0 j1 i0 i1
  replace Z0 := Lib.hid (Z0.out.below b3 Z0.out.lt)
  replace Z1 := Lib.hid (Z1.out.below b3 Z1.out.lt)
  replace Z2 := Lib.hid (Z2.out.below b3 Z2.out.lt)
  replace Z3 := Lib.hid (Z3.out.below b3 Z3.out.lt)
  replace P := Lib.hid (P.out.below b3)
  replace S := Lib.hid (S.out.below b3)
  replace BL := Lib.hid (BL.out.trans (b3.mono BL.out.size))
  clear b3
  have k0 := Z0.out.cell 0
  have k1 := Z0.out.cell 1
  have k2 := Z0.out.cell 2
  have k3 := Z0.out.cell 3
  have j0 := Z1.out.cell 0
  have j1 := Z1.out.cell 1
  have i0 := Z2.out.cell 0
  have i1 := Z2.out.cell 1
  simp at k0 k1 k2 k3 j0 j1 i0 i1
  go_wp2_with fail
  with_reducible refine (qp.out _ P.out S.out).mono ?_
  rintro e4 W4 ⟨a', n', c', rfl, hS4, b4, hfr⟩
  clear k0 k1 k2 k3 j0 j1 i0 i1
  have hfr' := Lib.hid hfr
  have hz3 := Lib.hid Z3.out.lt
  have S4 := Lib.hid hS4
  clear hfr hS4
  replace Z0 := Lib.hid (Z0.out.below b4 Z0.out.lt)
  replace Z1 := Lib.hid (Z1.out.below b4 Z1.out.lt)
  replace Z2 := Lib.hid (Z2.out.below b4 Z2.out.lt)
  replace Z3 := Lib.hid (Z3.out.below b4 Z3.out.lt)
  replace P := Lib.hid (P.out.below b4)
  replace S := Lib.hid (S.out.below b4)
  replace BL := Lib.hid (BL.out.trans (b4.mono BL.out.size))
  clear b4
  have m0 := Z3.out.cell 0
  have m1 := Z3.out.cell 1
  have n0 := Z3.out.free 0
  have n1 := Z3.out.free 1
  simp at m0 m1
  go_wp2
  exact state_ret2 (state_set Z3.out _ _) ⟨a', n', c', rfl, sl_set2 S4.out _ _ _ (fun p hp => by have := hfr'.out p hp; have := hz3.out; omega), belT BL.out (by omega) _ _, fun p hp => by have := hfr'.out p hp; have := hz3.out; omega⟩ _ _ 6 7 rfl rfl rfl rfl
theorem runStep_any (pnm : ByteArray) (pa1 : Option Addr) (pn1 pc1 : Nat) (pa2 : Option Addr) (pn2 pc2 : Nat) (pa3 : Option Addr) (pn3 pc3 : Nat) (D : PD) (pt : Int) (a : Option Addr) (n c : Nat) (l : List Int) (e v : Int) (w : World) (h : PrA w ⟨pnm, pa1, pn1, pc1, pa2, pn2, pc2, pa3, pn3, pc3⟩ D) (hs : SL w a n c l) : Calls Tryz.prog 11 #[.agg #[.string pnm, .slice pa1 pn1 pc1, .slice pa2 pn2 pc2, .slice pa3 pn3 pc3], .agg #[.int .i64 pt, .slice a n c], .agg #[.int .i64 e, .int .i64 v]] w (StE (stepS D pt l e v).1.1 (stepS D pt l e v).1.2 (stepS D pt l e v).2 w) := by
  unfold stepS
  by_cases hp : progB D = true
  · rw [if_pos hp]
    by_cases hst : stateB D pt l = true
    · rw [if_pos hst]
      exact runStep_go pnm pa1 pn1 pc1 pa2 pn2 pc2 pa3 pn3 pc3 D pt a n c l e v w h hs hp hst
    · rw [if_neg hst]
      exact runStep_bad pnm pa1 pn1 pc1 pa2 pn2 pc2 pa3 pn3 pc3 D pt a n c l e v w h hs hp (by simpa using hst)
  · rw [if_neg hp]
    exact runStep_no pnm pa1 pn1 pc1 pa2 pn2 pc2 pa3 pn3 pc3 D pt a n c l e v w h hs (by simpa using hp)
end Go.Proofs.YtjdfjekonnkglaaGreatDoor
namespace Go.Proofs.YtjdfjekonnkglaaGreatDoor
open Go.RowKit
set_option linter.unusedVariables false
set_option linter.unusedSimpArgs false
def chC (p : Int × Int) : List Value := [.int .i64 p.1, .int .i64 p.2]
theorem chC_len (p : Int × Int) : (chC p).length = 2 := rfl
theorem choice_at {w : World} {a : Option Addr} {n c : Nat} {l : List (Int × Int)} (h : RO chC w a n c l) {i : Nat} (hi : i < n) : ∃ b off, a = some ⟨b, off, none⟩ ∧ b < w.heap.size ∧ w.cell? ⟨b, off + i * 2, none⟩ = some (.int .i64 (l.getD i (0, 0)).1) ∧ w.cell? ⟨b, off + i * 2 + 1, none⟩ = some (.int .i64 (l.getD i (0, 0)).2) := by
  obtain ⟨b, off, h1, h2, hc⟩ := h.at_ chC_len (by decide) (0, 0) hi
  exact ⟨b, off, h1, h2, hc 0 (by decide), hc 1 (by decide)⟩
def runL (D : PD) : Int → List Int → List (Int × Int) → List (Int × List Int) × Int
  | _, _, [] => ([], 0)
  | pt, l, (e, v) :: cs => if (stepR D pt l e v).2 = 0 then ((stepR D pt l e v).1 :: (runL D (stepR D pt l e v).1.1 (stepR D pt l e v).1.2 cs).1, (runL D (stepR D pt l e v).1.1 (stepR D pt l e v).1.2 cs).2) else ([], (stepR D pt l e v).2)
theorem isV_mid {c v d : Int} (h1 : isV c = true) (h2 : isV d = true) (h3 : c ≤ v) (h4 : v ≤ d) : isV v = true := by
  rw [isV_iff] at *
  omega
theorem all_set {l : List Int} {j : Nat} {u : Int} (h : l.all isV = true) (hu : isV u = true) : (l.set j u).all isV = true := by
  rw [List.all_eq_true] at *
  intro x hx
  rcases List.mem_or_eq_of_mem_set hx with h1 | h1
  · exact h x h1
  · rw [h1]; exact hu
theorem rr_any2 {x y c d n : Int} (h : rightB 3 x y c d n = true) : isV d = true := by
  unfold rightB at h
  split at h
  · cases h
  · simp only [stmtB, anyB, isVarB, isTermB, isValB, show ¬ (3 : Int) = 1 by omega, show ¬ (3 : Int) = 2 by omega, if_false, if_true, Bool.and_eq_true, decide_eq_true_eq, beq_iff_eq] at h
    exact (isV_iff d).2 ⟨h.2.2.2.1.1, h.2.2.2.1.2⟩
theorem does_vals {k x y c d n : Int} {l : List Int} {v : Int} (hr : rightB k x y c d n = true) (hl : l.all isV = true) (h0 : (doesR k x y c d l v).2 = 0) : (doesR k x y c d l v).1.all isV = true ∧ (doesR k x y c d l v).1.length = l.length := by
  obtain ⟨k0, k5⟩ := rr_kind hr
  rcases (show k = 1 ∨ k = 2 ∨ k = 3 ∨ k = 4 ∨ k = 5 by omega) with rfl | rfl | rfl | rfl | rfl
  · exact ⟨hl, rfl⟩
  · unfold doesR at h0 ⊢
    rw [if_pos rfl] at h0 ⊢
    by_cases ho : isV (valAt l y + c) = true
    · rw [if_pos ho]; exact ⟨all_set hl ho, by simp [withV]⟩
    · rw [if_neg ho] at h0; cases h0
  · unfold doesR at h0 ⊢
    rw [if_neg (by omega), if_pos rfl] at h0 ⊢
    by_cases ho : c ≤ v ∧ v ≤ d
    · rw [if_pos ho]; exact ⟨all_set hl (isV_mid (rr_any hr).2.2 (rr_any2 hr) ho.1 ho.2), by simp [withV]⟩
    · rw [if_neg ho] at h0; cases h0
  · unfold doesR at h0 ⊢
    rw [if_neg (by omega), if_neg (by omega), if_pos rfl] at h0 ⊢
    by_cases ho : valAt l x - valAt l y ≤ c
    · rw [if_pos ho]; exact ⟨hl, rfl⟩
    · rw [if_neg ho] at h0; cases h0
  · unfold doesR at h0 ⊢
    rw [if_neg (by omega), if_neg (by omega), if_neg (by omega), if_pos rfl] at h0 ⊢
    by_cases ho : valAt l x - valAt l y ≤ c
    · rw [if_pos ho]; exact ⟨hl, rfl⟩
    · rw [if_neg ho] at h0; cases h0
theorem step_vals {D : PD} {pt : Int} {l : List Int} {e v : Int} (hp : progB D = true) (hv : valsB l D.vars.length = true) (h0 : (stepR D pt l e v).2 = 0) : valsB (stepR D pt l e v).1.2 D.vars.length = true := by
  have hv2 := hv
  unfold valsB at hv2
  rw [Bool.and_eq_true, decide_eq_true_eq] at hv2
  unfold stepR at h0 ⊢
  split at h0
  · next h1 =>
    rw [if_pos h1]
    split at h0
    · next h2 =>
      rw [if_pos h2]
      split at h0
      · next h3 =>
        rw [if_pos h3]
        have hr := prog_edge hp (i := e.toNat) (by omega)
        unfold edgeB at hr
        simp only [Bool.and_eq_true] at hr
        obtain ⟨g1, g2⟩ := does_vals (v := v) hr.2.2 hv2.2 h3
        show valsB (doesR _ _ _ _ _ l v).1 D.vars.length = true
        unfold valsB
        rw [Bool.and_eq_true, decide_eq_true_eq]
        exact ⟨by rw [g2]; exact hv2.1, g1⟩
      · next h3 => exact absurd h0 h3
    · cases h0
  · cases h0
def StsL (W : World) (a : Option Addr) (n c : Nat) (L : List (Int × List Int)) : Prop :=
  n = L.length ∧ n ≤ c ∧ (L = [] ∨ ∃ b, a = some ⟨b, 0, none⟩ ∧ b < W.heap.size ∧ ∀ i, i < L.length → ∃ ai ni ci, W.cell? ⟨b, i * 2, none⟩ = some (.int .i64 (L.getD i (0, [])).1) ∧ W.cell? ⟨b, i * 2 + 1, none⟩ = some (.slice ai ni ci) ∧ SL W ai ni ci (L.getD i (0, [])).2)
theorem StsL.below {W W' : World} {a : Option Addr} {n c : Nat} {L : List (Int × List Int)} (h : StsL W a n c L) (hb : Below W.heap.size W W') : StsL W' a n c L := by
  obtain ⟨h1, h2, h3⟩ := h
  refine ⟨h1, h2, ?_⟩
  rcases h3 with h3 | ⟨b, rfl, hB, hc⟩
  · exact .inl h3
  · refine .inr ⟨b, rfl, Nat.lt_of_lt_of_le hB hb.size, fun i hi => ?_⟩
    obtain ⟨ai, ni, ci, g1, g2, g3⟩ := hc i hi
    exact ⟨ai, ni, ci, (hb.cell (p := ⟨b, i * 2, none⟩) hB).trans g1, (hb.cell (p := ⟨b, i * 2 + 1, none⟩) hB).trans g2, g3.below hb⟩
def RunE (L : List (Int × List Int)) (err : Int) (w : World) (e : Ending) (w' : World) : Prop := ∃ a n c, e = .returned (.tuple #[.slice a n c, .int .i64 err]) ∧ StsL w' a n c L ∧ Below w.heap.size w w'
def Apart (a : Option Addr) (l : List Int) (x y : Nat) : Prop := l = [] ∨ ∀ p : Addr, a = some p → p.block ≠ x ∧ p.block ≠ y
theorem sl_keep {w w' : World} {a : Option Addr} {n c : Nat} {l : List Int} {X : List Nat} (h : SL w a n c l) (hb : BelowE X w.heap.size w w') (hne : l = [] ∨ ∀ p : Addr, a = some p → p.block ∉ X) : SL w' a n c l := by
  rcases hne with e | hne
  · exact ⟨h.len, h.cap, h.max, .inl e⟩
  · have hE : SeesE X .i64 w.heap.size w a l := by
      rcases h.sees with hh | ⟨b, off, rfl, h2, h3⟩
      · exact .inl hh
      · exact .inr ⟨b, off, rfl, h2, hne ⟨b, off, none⟩ rfl, h3⟩
    exact ⟨h.len, h.cap, h.max, ((hE.belowE hb).mono hb.size).sees⟩
theorem Apart.left {a : Option Addr} {l : List Int} {x y : Nat} (h : Apart a l x y) : l = [] ∨ ∀ p : Addr, a = some p → p.block ∉ [x] := by
  rcases h with h | h
  · exact .inl h
  · exact .inr fun p hp => by simpa using (h p hp).1
theorem Apart.right {a : Option Addr} {l : List Int} {x y : Nat} (h : Apart a l x y) : l = [] ∨ ∀ p : Addr, a = some p → p.block ∉ [y] := by
  rcases h with h | h
  · exact .inl h
  · exact .inr fun p hp => by simpa using (h p hp).2
theorem Apart.move {w : World} {a : Option Addr} {n c : Nat} {l : List Int} {x y y' : Nat} (h : Apart a l x y) (hs : SL w a n c l) (hy : y' = y ∨ w.heap.size ≤ y') : Apart a l x y' := by
  rcases h with h | h
  · exact .inl h
  · rcases hs.sees with hh | ⟨b, off, rfl, h2, h3⟩
    · exact .inl hh
    · refine .inr fun p hp => ⟨(h p hp).1, ?_⟩
      rcases hy with e | e
      · rw [e]; exact (h p hp).2
      · injection hp with hp
        subst hp
        show b ≠ y'
        omega
structure RowI (w : World) (gs gr cap : Nat) (L : List (Int × List Int)) (xs : List Value) (W : World) : Prop where
  bel : Below w.heap.size w W
  gs0 : w.heap.size ≤ gs
  gsl : gs < W.heap.size
  row : W.ownsRow w.heap.size 39 2 (.slice (some ⟨gr, 0, none⟩) L.length cap) L.length xs
  ne : gr ≠ gs
  each : ∀ i, i < L.length → ∃ ai ni ci, xs[i * 2]? = some (.int .i64 (L.getD i (0, [])).1) ∧ xs[i * 2 + 1]? = some (.slice ai ni ci) ∧ SL W ai ni ci (L.getD i (0, [])).2 ∧ Apart ai (L.getD i (0, [])).2 gs gr
theorem RowI.gr {w : World} {gs gr cap : Nat} {L : List (Int × List Int)} {xs : List Value} {W : World} (h : RowI w gs gr cap L xs W) : w.heap.size ≤ gr ∧ gr < W.heap.size := h.row.lt gr rfl
theorem RowI.below {w : World} {gs gr cap : Nat} {L : List (Int × List Int)} {xs : List Value} {W W' : World} (h : RowI w gs gr cap L xs W) (hb : Below W.heap.size W W') : RowI w gs gr cap L xs W' :=
  ⟨h.bel.trans (hb.mono h.bel.size), h.gs0, Nat.lt_of_lt_of_le h.gsl hb.size, own_below h.row hb, h.ne, fun i hi => by
    obtain ⟨ai, ni, ci, g1, g2, g3, g4⟩ := h.each i hi
    exact ⟨ai, ni, ci, g1, g2, g3.below hb, g4⟩⟩
theorem RowI.set {w : World} {gs gr cap : Nat} {L : List (Int × List Int)} {xs : List Value} {W : World} (h : RowI w gs gr cap L xs W) (u1 u2 : Value) : RowI w gs gr cap L xs ((W.setCell ⟨gs, 0, none⟩ u1).setCell ⟨gs, 1, none⟩ u2) := by
  have hE : BelowE [gs] W.heap.size W ((W.setCell ⟨gs, 0, none⟩ u1).setCell ⟨gs, 1, none⟩ u2) := ((BelowE.refl _ _ _).setIn (p := ⟨gs, 0, none⟩) (by simp) _).setIn (p := ⟨gs, 1, none⟩) (by simp) _
  refine ⟨belT h.bel h.gs0 _ _, h.gs0, by simpa using h.gsl, own_belowE h.row hE (fun k hk => by injection hk with hk; subst hk; simpa using h.ne), h.ne, fun i hi => ?_⟩
  obtain ⟨ai, ni, ci, g1, g2, g3, g4⟩ := h.each i hi
  exact ⟨ai, ni, ci, g1, g2, sl_keep g3 hE g4.left, g4⟩
theorem RowI.grow {w : World} {gs gr cap : Nat} {L : List (Int × List Int)} {xs : List Value} {W X W' : World} (h : RowI w gs gr cap L xs W) {pt : Int} {a : Option Addr} {n c : Nat} {l : List Int} (hX : X = W.alloc (.cells #[.int .i64 pt, .slice a n c] 39)) (hs : SL W a n c l) (hne : Apart a l gs gr)
    {v' : Value} (own : W'.ownsRow 0 39 2 v' (L.length + 1) (xs ++ [.int .i64 pt, .slice a n c])) (g : X.grownBy W' (Value.slice (some ⟨gr, 0, none⟩) L.length cap).ownBlock) (blk : v'.ownBlock = some gr ∨ v'.ownBlock = some X.heap.size) :
    ∃ gr' cap', v' = .slice (some ⟨gr', 0, none⟩) (L ++ [(pt, l)]).length cap' ∧ RowI w gs gr' cap' (L ++ [(pt, l)]) (xs ++ [.int .i64 pt, .slice a n c]) W' ∧ SL W' a n c l ∧ Apart a l gs gr' ∧ BelowE [gr] W.heap.size W W' := by
  have hb1 : Below W.heap.size W X := by rw [hX]; exact box_below _ _ _
  have hXs : X.heap.size = W.heap.size + 1 := by rw [hX]; simp
  have hgr := h.gr
  have hE : BelowE [gr] X.heap.size X W' := ⟨g.os, g.tape, g.output, g.size, fun k hk hx => g.block k hk (fun e => hx (by have : k = gr := (by simpa [Value.ownBlock] using e); simp [this]))⟩
  have hE2 : BelowE [gr] W.heap.size W W' := (BelowE.of hb1).trans (hE.mono hb1.size)
  obtain ⟨gr', cap', rfl, hgr'⟩ : ∃ gr' cap', v' = .slice (some ⟨gr', 0, none⟩) (L.length + 1) cap' ∧ (gr' = gr ∨ gr' = X.heap.size) := by
    rcases own.2 with ⟨_, h0⟩ | ⟨b, cp, cur, rfl, _⟩
    · omega
    · refine ⟨b, cp, rfl, ?_⟩
      rcases blk with e | e
      · left; simpa [Value.ownBlock] using e
      · right; simpa [Value.ownBlock] using e
  have hy : gr' = gr ∨ W.heap.size ≤ gr' := by rcases hgr' with e | e <;> omega
  refine ⟨gr', cap', by simp, ⟨?_, h.gs0, Nat.lt_of_lt_of_le h.gsl hE2.size, ?_, ?_, ?_⟩, sl_keep hs hE2 hne.right, hne.move hs hy, hE2⟩
  · exact h.bel.trans ((hE2.mono h.bel.size).less (Y := []) (fun x hx hl => by simp at hx; omega)).none
  · have := own_from (B := w.heap.size) own (fun b hb => by
      have hb' : b = gr' := by simpa [Value.ownBlock] using hb.symm
      have := h.bel.size
      rcases hgr' with e | e <;> omega)
    simpa using this
  · rcases hgr' with e | e
    · rw [e]; exact h.ne
    · have := h.gsl; omega
  · intro i hi
    have hxl : xs.length = L.length * 2 := h.row.1
    by_cases hiL : i < L.length
    · obtain ⟨ai, ni, ci, g1, g2, g3, g4⟩ := h.each i hiL
      have e1 : (L ++ [(pt, l)]).getD i (0, []) = L.getD i (0, []) := by simp [List.getD, List.getElem?_append_left hiL]
      rw [e1]
      refine ⟨ai, ni, ci, by rw [List.getElem?_append_left (by omega)]; exact g1, by rw [List.getElem?_append_left (by omega)]; exact g2, sl_keep g3 hE2 g4.right, g4.move g3 hy⟩
    · have hie : i = L.length := by simp at hi; omega
      subst hie
      have e1 : (L ++ [(pt, l)]).getD L.length (0, []) = (pt, l) := by simp [List.getD]
      rw [e1]
      refine ⟨a, n, c, by rw [List.getElem?_append_right (by omega), hxl]; simp, by rw [List.getElem?_append_right (by omega), hxl]; simp, sl_keep hs hE2 hne.right, hne.move hs hy⟩
end Go.Proofs.YtjdfjekonnkglaaGreatDoor
namespace Go.Proofs.YtjdfjekonnkglaaGreatDoor
open Go.RowKit
set_option linter.unusedVariables false
set_option linter.unusedSimpArgs false
def stateZ : Value := .agg #[.int .i64 0, .slice none 0 0]
theorem infoStateP : (Tryz.prog.info? 39).map (fun i => (i.zero, i.size, i.bytes)) = some (some stateZ, 2, 32) := by kernel_rfl
theorem infoStateQ : ∃ i, Tryz.prog.info? 39 = some i ∧ i.zero = some stateZ ∧ i.size = 2 ∧ i.bytes = 32 := by
  have h := infoStateP
  cases hi : Tryz.prog.info? 39 with
  | none => rw [hi] at h; simp at h
  | some i => rw [hi] at h; simp at h; exact ⟨i, rfl, h.1, h.2.1, h.2.2⟩
structure RunAt (D : PD) (ch : List (Int × Int)) (l0 : List Int) (i : Nat) (L : List (Int × List Int)) (pt : Int) (l : List Int) : Prop where
  len : L.length = i + 1
  vals : valsB l D.vars.length = true
  out : (0, l0) :: (runL D 0 l0 ch).1 = L ++ (runL D pt l (ch.drop i)).1
  err : (runL D 0 l0 ch).2 = (runL D pt l (ch.drop i)).2
theorem run_at0 {D : PD} {ch : List (Int × Int)} {l0 : List Int} (hv : valsB l0 D.vars.length = true) : RunAt D ch l0 0 [(0, l0)] 0 l0 := ⟨rfl, hv, rfl, rfl⟩
theorem drop_at {ch : List (Int × Int)} {i : Nat} (hi : i < ch.length) : ch.drop i = ((ch.getD i (0, 0)).1, (ch.getD i (0, 0)).2) :: ch.drop (i + 1) := by
  rw [List.drop_eq_getElem_cons hi]
  have : ch.getD i (0, 0) = ch[i] := by simp [List.getD, hi]
  rw [this]
theorem runL_at {D : PD} {ch : List (Int × Int)} {i : Nat} (hi : i < ch.length) (pt : Int) (l : List Int) : runL D pt l (ch.drop i) = if (stepR D pt l (ch.getD i (0, 0)).1 (ch.getD i (0, 0)).2).2 = 0 then ((stepR D pt l (ch.getD i (0, 0)).1 (ch.getD i (0, 0)).2).1 :: (runL D (stepR D pt l (ch.getD i (0, 0)).1 (ch.getD i (0, 0)).2).1.1 (stepR D pt l (ch.getD i (0, 0)).1 (ch.getD i (0, 0)).2).1.2 (ch.drop (i + 1))).1, (runL D (stepR D pt l (ch.getD i (0, 0)).1 (ch.getD i (0, 0)).2).1.1 (stepR D pt l (ch.getD i (0, 0)).1 (ch.getD i (0, 0)).2).1.2 (ch.drop (i + 1))).2) else ([], (stepR D pt l (ch.getD i (0, 0)).1 (ch.getD i (0, 0)).2).2) := by
  rw [drop_at hi]
  rfl
theorem run_next {D : PD} {ch : List (Int × Int)} {l0 : List Int} {i : Nat} {L : List (Int × List Int)} {pt : Int} {l : List Int} (hp : progB D = true) (h : RunAt D ch l0 i L pt l) (hi : i < ch.length) (h0 : (stepR D pt l (ch.getD i (0, 0)).1 (ch.getD i (0, 0)).2).2 = 0) : RunAt D ch l0 (i + 1) (L ++ [((stepR D pt l (ch.getD i (0, 0)).1 (ch.getD i (0, 0)).2).1.1, (stepR D pt l (ch.getD i (0, 0)).1 (ch.getD i (0, 0)).2).1.2)]) (stepR D pt l (ch.getD i (0, 0)).1 (ch.getD i (0, 0)).2).1.1 (stepR D pt l (ch.getD i (0, 0)).1 (ch.getD i (0, 0)).2).1.2 := by
  have h1 := h.out
  have h2 := h.err
  rw [runL_at hi, if_pos h0] at h1 h2
  exact ⟨by rw [List.length_append, h.len]; rfl, step_vals hp h.vals h0, by rw [List.append_assoc]; exact h1, h2⟩
theorem run_stop {D : PD} {ch : List (Int × Int)} {l0 : List Int} {i : Nat} {L : List (Int × List Int)} {pt : Int} {l : List Int} (h : RunAt D ch l0 i L pt l) (hi : i < ch.length) (h0 : (stepR D pt l (ch.getD i (0, 0)).1 (ch.getD i (0, 0)).2).2 ≠ 0) : (0, l0) :: (runL D 0 l0 ch).1 = L ∧ (runL D 0 l0 ch).2 = (stepR D pt l (ch.getD i (0, 0)).1 (ch.getD i (0, 0)).2).2 := by
  have h1 := h.out
  have h2 := h.err
  rw [runL_at hi, if_neg h0] at h1 h2
  exact ⟨by rw [h1, List.append_nil], h2⟩
theorem run_end {D : PD} {ch : List (Int × Int)} {l0 : List Int} {i : Nat} {L : List (Int × List Int)} {pt : Int} {l : List Int} (h : RunAt D ch l0 i L pt l) (hi : i = ch.length) : (0, l0) :: (runL D 0 l0 ch).1 = L ∧ (runL D 0 l0 ch).2 = 0 := by
  have h1 := h.out
  have h2 := h.err
  have e2 : runL D pt l (ch.drop i) = ([], 0) := by
    rw [hi, List.drop_length]
    rfl
  rw [e2] at h1 h2
  exact ⟨by rw [h1, List.append_nil], h2⟩
structure LoopI (w : World) (gs gr cap : Nat) (L : List (Int × List Int)) (xs : List Value) (pt : Int) (a : Option Addr) (n c : Nat) (l : List Int) (W : World) : Prop where
  row : RowI w gs gr cap L xs W
  box : Holds W gs 39 #[.int .i64 pt, .slice a n c]
  sl : SL W a n c l
  ap : Apart a l gs gr
theorem LoopI.below {w : World} {gs gr cap : Nat} {L : List (Int × List Int)} {xs : List Value} {pt : Int} {a : Option Addr} {n c : Nat} {l : List Int} {W W' : World} (h : LoopI w gs gr cap L xs pt a n c l W) (hb : Below W.heap.size W W') : LoopI w gs gr cap L xs pt a n c l W' :=
  ⟨h.row.below hb, h.box.below hb h.box.lt, h.sl.below hb, h.ap⟩
theorem sts_row {w : World} {gs gr cap : Nat} {L : List (Int × List Int)} {xs : List Value} {W : World} (h : RowI w gs gr cap L xs W) : StsL W (some ⟨gr, 0, none⟩) L.length cap L := by
  obtain ⟨hxl, hr⟩ := h.row
  rcases hr with ⟨e, _⟩ | ⟨b, cp, cur, e, _, hh, hcap, _, hsz, hxs⟩
  · cases e
  · injection e with e1 e2 e3
    injection e1 with e1
    injection e1 with e1
    subst e1 e3
    refine ⟨rfl, hcap, ?_⟩
    have hgl := (Array.getElem?_eq_some_iff.1 hh).1
    refine .inr ⟨gr, rfl, hgl, fun i hi => ?_⟩
    obtain ⟨ai, ni, ci, g1, g2, g3, _⟩ := h.each i hi
    have hcell : ∀ k u, xs[k]? = some u → W.cell? ⟨gr, k, none⟩ = some u := by
      intro k u hu
      rw [cell_of_row _ _ _ _ _ _ hh]
      have hk : k < L.length * 2 := by
        have := (List.getElem?_eq_some_iff.1 hu).1
        omega
      rw [← hxs, List.getElem?_take_of_lt hk] at hu
      simpa using hu
    exact ⟨ai, ni, ci, hcell _ _ g1, hcell _ _ g2, g3⟩
theorem LoopI.set {w : World} {gs gr cap : Nat} {L : List (Int × List Int)} {xs : List Value} {pt : Int} {a : Option Addr} {n c : Nat} {l : List Int} {W : World} (h : LoopI w gs gr cap L xs pt a n c l W) {a' : Option Addr} {n' c' : Nat} {l' : List Int} (pt' : Int) (hs : SL W a' n' c' l') (hap : Apart a' l' gs gr) : LoopI w gs gr cap L xs pt' a' n' c' l' ((W.setCell ⟨gs, 0, none⟩ (.int .i64 pt')).setCell ⟨gs, 1, none⟩ (.slice a' n' c')) := by
  have hE : BelowE [gs] W.heap.size W ((W.setCell ⟨gs, 0, none⟩ (.int .i64 pt')).setCell ⟨gs, 1, none⟩ (.slice a' n' c')) := ((BelowE.refl _ _ _).setIn (p := ⟨gs, 0, none⟩) (by simp) _).setIn (p := ⟨gs, 1, none⟩) (by simp) _
  exact ⟨h.row.set _ _, state_set h.box _ _, sl_keep hs hE hap.left, hap⟩
theorem wpList_append_loop {w V : World} {gs gr cap : Nat} {L : List (Int × List Int)} {xs : List Value} {pt : Int} {a : Option Addr} {n c : Nat} {l : List Int} (h : LoopI w gs gr cap L xs pt a n c l V) {ops : Array Oper} {rest : List Oper} {o : Oper} {ac : Act} {Q : Exit → Act → World → Prop}
    (hg : o.guard = none) (s x : Operand) (hop : o.op = Op.call { callee := Callee.builtin Builtin.append, args := #[s, x], argTypes := #[33, 33] })
    (hsv : ac.eval s = .slice (some ⟨gr, 0, none⟩) L.length cap) (hx : ac.eval x = .slice (some ⟨V.heap.size, 0, none⟩) 1 1) (hn : L.length ≤ 2000)
    (hK : ∀ gr' cap' W', LoopI w gs gr' cap' (L ++ [(pt, l)]) (xs ++ [.int .i64 pt, .slice a n c]) pt a n c l W' → wpList Tryz.prog ops Q rest (ac.put o.dst (.slice (some ⟨gr', 0, none⟩) (L ++ [(pt, l)]).length cap')) W') :
    wpList Tryz.prog ops Q (o :: rest) ac (V.alloc (.cells #[.int .i64 pt, .slice a n c] 39)) := by
  obtain ⟨i0, hi, hz0, hz1, hz2⟩ := infoStateQ
  refine wpList_append_cells _ hg s x 33 hop 39 i0 stateZ 2 32 Tryz.underlying33 hi hz0 hz1 hz2 rfl (by omega) _ L.length xs (own_below (own_from h.row.row (B := 0) (fun _ _ => Nat.zero_le _)) (box_below V _ _)) _ _ 1 1 [.int .i64 pt, .slice a n c] rfl (by have q := seesC_lit V 39 #[.int .i64 pt, .slice a n c]; simpa using q) (by intro u hu; simp at hu; rcases hu with rfl | rfl <;> rfl) (by simp) hsv hx (by unfold maxLen; omega) (by omega) ?_
  intro v' W' o2 g2 b2
  obtain ⟨gr', cap', rfl, hr, hs, hap, hE⟩ := h.row.grow rfl h.sl h.ap o2 g2 (by rcases b2 with e | e; exact .inl e; exact .inr e)
  refine hK gr' cap' W' ⟨hr, ?_, hs, hap⟩
  exact (h.box.belowE hE h.box.lt (by simpa using h.row.ne.symm))
theorem apart_new {w : World} {gs gr cap : Nat} {L : List (Int × List Int)} {xs : List Value} {W : World} {a : Option Addr} {l : List Int} (hf : ∀ p : Addr, a = some p → W.heap.size ≤ p.block) (h : RowI w gs gr cap L xs W) : Apart a l gs gr := .inr fun p hp => by have := hf p hp; have := h.gsl; have := h.gr; omega
theorem sl_fresh {w w' : World} {n : Nat} {a' : Option Addr} {c' : Nat} {l : List Int} (h : w'.ownsRow w.heap.size 3 1 (.slice a' n c') n (nums .i64 l)) : ∀ p : Addr, a' = some p → w.heap.size ≤ p.block ∧ p.block < w'.heap.size := by
  intro p hp
  subst hp
  exact h.lt p.block rfl
theorem loop_start {W : World} {a : Option Addr} {n c : Nat} {l : List Int} (hs : SL W a n c l) : LoopI W W.heap.size (W.heap.size + 1) 1 [(0, l)] [.int .i64 0, .slice a n c] 0 a n c l ((W.alloc (.cells #[.int .i64 0, .slice a n c] 39)).alloc (.cells #[.int .i64 0, .slice a n c] 39)) := by
  have hb : Below W.heap.size W ((W.alloc (.cells #[.int .i64 0, .slice a n c] 39)).alloc (.cells #[.int .i64 0, .slice a n c] 39)) := box2_below _ _ _ _ _
  have hap : Apart a l W.heap.size (W.heap.size + 1) := by
    rcases hs.sees with hh | ⟨b, off, rfl, h2, _⟩
    · exact .inl hh
    · refine .inr fun p hp => ?_
      injection hp with hp
      subst hp
      show b ≠ _ ∧ b ≠ _
      omega
  refine ⟨⟨hb, Nat.le_refl _, by simp; omega, ?_, by omega, ?_⟩, (Holds.new W _ _).alloc _, hs.below hb, hap⟩
  · have q := own_cells (W.alloc (.cells #[.int .i64 0, .slice a n c] 39)) 39 2 1 #[.int .i64 0, .slice a n c] rfl (by unfold maxLen; omega)
    have q2 := own_from q (B := W.heap.size) (fun b hb => by have := (q.lt b hb).1; simp at this; omega)
    simpa using q2
  · intro i hi
    have : i = 0 := by simp at hi; omega
    subst this
    exact ⟨a, n, c, rfl, rfl, hs.below hb, hap⟩
set_option maxRecDepth 100000 in
set_option maxHeartbeats 4000000 in
theorem run_no (pnm : ByteArray) (pa1 : Option Addr) (pn1 pc1 : Nat) (pa2 : Option Addr) (pn2 pc2 : Nat) (pa3 : Option Addr) (pn3 pc3 : Nat) (D : PD) (a : Option Addr) (n c : Nat) (l : List Int) (ca : Option Addr) (cn cc : Nat) (ch : List (Int × Int)) (w : World) (h : PrA w ⟨pnm, pa1, pn1, pc1, pa2, pn2, pc2, pa3, pn3, pc3⟩ D) (hs : SL w a n c l) (hc : RO chC w ca cn cc ch) (hcn : cn ≤ 1000) (hp : progB D = false) : Calls Tryz.prog 8 #[.agg #[.string pnm, .slice pa1 pn1 pc1, .slice pa2 pn2 pc2, .slice pa3 pn3 pc3], .slice a n c, .slice ca cn cc] w (RunE [] 110 w) := by
  obtain ⟨W1, hW1⟩ : ∃ W1, W1 = w.alloc (.cells #[.string pnm, .slice pa1 pn1 pc1, .slice pa2 pn2 pc2, .slice pa3 pn3 pc3] 26) := ⟨_, rfl⟩
  have BL : Hid (Below w.heap.size w W1) := Lib.hid (by rw [hW1]; exact box_below _ _ _)
  have Z0 : Hid (Holds W1 w.heap.size 26 #[.string pnm, .slice pa1 pn1 pc1, .slice pa2 pn2 pc2, .slice pa3 pn3 pc3]) := Lib.hid (by rw [hW1]; exact Holds.new w _ _)
  have hW1' := Lib.hid hW1
  clear hW1
  have P := Lib.hid (h.below BL.out)
  have S := Lib.hid (hs.below BL.out)
  have C := Lib.hid (hc.below BL.out)
  have qc := Lib.hid (pcheck_any ⟨pnm, pa1, pn1, pc1, pa2, pn2, pc2, pa3, pn3, pc3⟩ D W1 P.out)
  rw [pchk_bad hp] at qc
  have k0 := Z0.out.cell 0
  have k1 := Z0.out.cell 1
  have k2 := Z0.out.cell 2
  have k3 := Z0.out.cell 3
  simp at k0 k1 k2 k3
  rw [hW1'.out] at k0 k1 k2 k3
  clear h hs hc
  go_enter Tryz.func8, Tryz.ntmps8
  go_wp2_with fail
  rw [← hW1'.out]
  with_reducible refine qc.out.mono ?_
  rintro e2 W2 ⟨rfl, b2⟩
  clear k0 k1 k2 k3 qc
  replace Z0 := Lib.hid (Z0.out.below b2 Z0.out.lt)
  replace P := Lib.hid (P.out.below b2)
  replace S := Lib.hid (S.out.below b2)
  replace C := Lib.hid (C.out.below b2)
  replace BL := Lib.hid (BL.out.trans (b2.mono BL.out.size))
  clear b2
  go_wp2
  exact bodyPost_ret (results_tmp2 rfl _ _ _) rfl ⟨none, 0, 0, rfl, ⟨rfl, Nat.le_refl _, .inl rfl⟩, BL.out⟩
set_option maxRecDepth 100000 in
set_option maxHeartbeats 4000000 in
theorem run_bad (pnm : ByteArray) (pa1 : Option Addr) (pn1 pc1 : Nat) (pa2 : Option Addr) (pn2 pc2 : Nat) (pa3 : Option Addr) (pn3 pc3 : Nat) (D : PD) (a : Option Addr) (n c : Nat) (l : List Int) (ca : Option Addr) (cn cc : Nat) (ch : List (Int × Int)) (w : World) (h : PrA w ⟨pnm, pa1, pn1, pc1, pa2, pn2, pc2, pa3, pn3, pc3⟩ D) (hs : SL w a n c l) (hc : RO chC w ca cn cc ch) (hcn : cn ≤ 1000) (hp : progB D = true) (hv : valsB l D.vars.length = false) : Calls Tryz.prog 8 #[.agg #[.string pnm, .slice pa1 pn1 pc1, .slice pa2 pn2 pc2, .slice pa3 pn3 pc3], .slice a n c, .slice ca cn cc] w (RunE [] 1 w) := by
  obtain ⟨W1, hW1⟩ : ∃ W1, W1 = w.alloc (.cells #[.string pnm, .slice pa1 pn1 pc1, .slice pa2 pn2 pc2, .slice pa3 pn3 pc3] 26) := ⟨_, rfl⟩
  have BL : Hid (Below w.heap.size w W1) := Lib.hid (by rw [hW1]; exact box_below _ _ _)
  have Z0 : Hid (Holds W1 w.heap.size 26 #[.string pnm, .slice pa1 pn1 pc1, .slice pa2 pn2 pc2, .slice pa3 pn3 pc3]) := Lib.hid (by rw [hW1]; exact Holds.new w _ _)
  have hW1' := Lib.hid hW1
  clear hW1
  have P := Lib.hid (h.below BL.out)
  have S := Lib.hid (hs.below BL.out)
  have C := Lib.hid (hc.below BL.out)
  have qc := Lib.hid (pcheck_any ⟨pnm, pa1, pn1, pc1, pa2, pn2, pc2, pa3, pn3, pc3⟩ D W1 P.out)
  rw [pchk_ok hp] at qc
  have qv := Lib.hid (fun W (hW : Below W1.heap.size W1 W) => areVals_any ⟨pnm, pa1, pn1, pc1, pa2, pn2, pc2, pa3, pn3, pc3⟩ D a n c l W (P.out.below hW) (S.out.below hW))
  rw [hv] at qv
  have k0 := Z0.out.cell 0
  have k1 := Z0.out.cell 1
  have k2 := Z0.out.cell 2
  have k3 := Z0.out.cell 3
  simp at k0 k1 k2 k3
  rw [hW1'.out] at k0 k1 k2 k3
  clear h hs hc
  go_enter Tryz.func8, Tryz.ntmps8
  go_wp2_with fail
  rw [← hW1'.out]
  with_reducible refine qc.out.mono ?_
  rintro e2 W2 ⟨rfl, b2⟩
  clear k0 k1 k2 k3 qc
  have b2' := Lib.hid b2
  replace Z0 := Lib.hid (Z0.out.below b2 Z0.out.lt)
  replace P := Lib.hid (P.out.below b2)
  replace S := Lib.hid (S.out.below b2)
  replace C := Lib.hid (C.out.below b2)
  replace BL := Lib.hid (BL.out.trans (b2.mono BL.out.size))
  clear b2
  have k0 := Z0.out.cell 0
  have k1 := Z0.out.cell 1
  have k2 := Z0.out.cell 2
  have k3 := Z0.out.cell 3
  simp at k0 k1 k2 k3
  go_wp2_with fail
  with_reducible refine (qv.out _ b2'.out).mono ?_
  rintro e3 W3 ⟨rfl, b3⟩
  clear k0 k1 k2 k3 b2' qv
  replace Z0 := Lib.hid (Z0.out.below b3 Z0.out.lt)
  replace P := Lib.hid (P.out.below b3)
  replace S := Lib.hid (S.out.below b3)
  replace C := Lib.hid (C.out.below b3)
  replace BL := Lib.hid (BL.out.trans (b3.mono BL.out.size))
  clear b3
  go_wp2
  exact bodyPost_ret (results_tmp2 rfl _ _ _) rfl ⟨none, 0, 0, rfl, ⟨rfl, Nat.le_refl _, .inl rfl⟩, BL.out⟩
set_option maxRecDepth 100000 in
set_option maxHeartbeats 4000000 in
theorem run_go (pnm : ByteArray) (pa1 : Option Addr) (pn1 pc1 : Nat) (pa2 : Option Addr) (pn2 pc2 : Nat) (pa3 : Option Addr) (pn3 pc3 : Nat) (D : PD) (a : Option Addr) (n c : Nat) (l : List Int) (ca : Option Addr) (cn cc : Nat) (ch : List (Int × Int)) (w : World) (h : PrA w ⟨pnm, pa1, pn1, pc1, pa2, pn2, pc2, pa3, pn3, pc3⟩ D) (hs : SL w a n c l) (hc : RO chC w ca cn cc ch) (hcn : cn ≤ 1000) (hp : progB D = true) (hv : valsB l D.vars.length = true) (hn : n ≤ 1000) : Calls Tryz.prog 8 #[.agg #[.string pnm, .slice pa1 pn1 pc1, .slice pa2 pn2 pc2, .slice pa3 pn3 pc3], .slice a n c, .slice ca cn cc] w (RunE ((0, l) :: (runL D 0 l ch).1) (runL D 0 l ch).2 w) := by
  obtain ⟨W1, hW1⟩ : ∃ W1, W1 = w.alloc (.cells #[.string pnm, .slice pa1 pn1 pc1, .slice pa2 pn2 pc2, .slice pa3 pn3 pc3] 26) := ⟨_, rfl⟩
  have BL : Hid (Below w.heap.size w W1) := Lib.hid (by rw [hW1]; exact box_below _ _ _)
  have Z0 : Hid (Holds W1 w.heap.size 26 #[.string pnm, .slice pa1 pn1 pc1, .slice pa2 pn2 pc2, .slice pa3 pn3 pc3]) := Lib.hid (by rw [hW1]; exact Holds.new w _ _)
  have hW1' := Lib.hid hW1
  clear hW1
  have P := Lib.hid (h.below BL.out)
  have S := Lib.hid (hs.below BL.out)
  have C := Lib.hid (hc.below BL.out)
  have qc := Lib.hid (pcheck_any ⟨pnm, pa1, pn1, pc1, pa2, pn2, pc2, pa3, pn3, pc3⟩ D W1 P.out)
  rw [pchk_ok hp] at qc
  have qv := Lib.hid (fun W (hW : Below W1.heap.size W1 W) => areVals_any ⟨pnm, pa1, pn1, pc1, pa2, pn2, pc2, pa3, pn3, pc3⟩ D a n c l W (P.out.below hW) (S.out.below hW))
  rw [hv] at qv
  have k0 := Z0.out.cell 0
  have k1 := Z0.out.cell 1
  have k2 := Z0.out.cell 2
  have k3 := Z0.out.cell 3
  simp at k0 k1 k2 k3
  rw [hW1'.out] at k0 k1 k2 k3
  clear h hs hc
  go_enter Tryz.func8, Tryz.ntmps8
  go_wp2_with fail
  rw [← hW1'.out]
  with_reducible refine qc.out.mono ?_
  rintro e2 W2 ⟨rfl, b2⟩
  clear k0 k1 k2 k3 qc
  have b2' := Lib.hid b2
  replace Z0 := Lib.hid (Z0.out.below b2 Z0.out.lt)
  replace P := Lib.hid (P.out.below b2)
  replace S := Lib.hid (S.out.below b2)
  replace C := Lib.hid (C.out.below b2)
  replace BL := Lib.hid (BL.out.trans (b2.mono BL.out.size))
  clear b2
  have k0 := Z0.out.cell 0
  have k1 := Z0.out.cell 1
  have k2 := Z0.out.cell 2
  have k3 := Z0.out.cell 3
  simp at k0 k1 k2 k3
  go_wp2_with fail
  with_reducible refine (qv.out _ b2'.out).mono ?_
  rintro e3 W3 ⟨rfl, b3⟩
  clear k0 k1 k2 k3 b2' qv
  replace Z0 := Lib.hid (Z0.out.below b3 Z0.out.lt)
  replace P := Lib.hid (P.out.below b3)
  replace S := Lib.hid (S.out.below b3)
  replace C := Lib.hid (C.out.below b3)
  replace BL := Lib.hid (BL.out.trans (b3.mono BL.out.size))
  clear b3
  have z3 : Hid (w.heap.size < W3.heap.size) := Lib.hid Z0.out.lt
  have qk := Lib.hid (clone_any a n c l hn _ S.out)
  go_wp2_with fail
  with_reducible refine qk.out.mono ?_
  rintro e4 W4 ⟨a', c', rfl, ho, b4⟩
  have z4 := Lib.hid b4.size
  have ho4 := Lib.hid ho
  clear qk ho
  replace Z0 := Lib.hid (Z0.out.below b4 Z0.out.lt)
  replace P := Lib.hid (P.out.below b4)
  replace S := Lib.hid (S.out.below b4)
  replace C := Lib.hid (C.out.below b4)
  replace BL := Lib.hid (BL.out.trans (b4.mono BL.out.size))
  clear b4
  go_wp2
  have s4 := Lib.hid (clone_sl ho4.out hn)
  have hf4 := Lib.hid (fun p hp => sl_fresh ho4.out p hp)
  have hI0 : Hid (LoopI W4 W4.heap.size (W4.heap.size + 1) 1 [(0, l)] [.int .i64 0, .slice a' n c'] 0 a' n c' l ((W4.alloc (.cells #[.int .i64 0, .slice a' n c'] 39)).alloc (.cells #[.int .i64 0, .slice a' n c'] 39))) := Lib.hid (loop_start s4.out)
  have hR0 : Hid (RunAt D ch l 0 [(0, l)] 0 l) := Lib.hid (run_at0 hv)
  go_loopw [10, 31] (fun v x wr => ∃ (i gr cap : Nat) (L : List (Int × List Int)) (xs : List Value) (pt : Int) (ai : Option Addr) (ni ci : Nat) (li : List Int), i ≤ cn ∧ x = .int .i64 i ∧ v = .slice (some ⟨gr, 0, none⟩) L.length cap ∧ Hid (LoopI W4 W4.heap.size gr cap L xs pt ai ni ci li wr) ∧ Hid (RunAt D ch l i L pt li)) (fun _ x _ => cn - (intOf x).toNat)
  case atStart => exact ⟨0, W4.heap.size + 1, 1, [(0, l)], [.int .i64 0, .slice a' n c'], 0, a', n, c', l, by omega, rfl, rfl, hI0, hR0⟩
  case round =>
    clear hI0 hR0 s4 hf4 ho4
    obtain ⟨i, gr, cap, L, xs, pt, ai, ni, ci, li, hi, rfl, rfl, hI, hR⟩ := hrel
    by_cases hlt : i < cn
    · have hlti : (i : Int) < (cn : Int) := by omega
      obtain ⟨b, off, rfl, hB, x0, x1⟩ := choice_at (C.out.below hI.out.row.bel) hlt
      have hil : i < ch.length := by rw [← C.out.len]; exact hlt
      have hnext := Lib.hid (fun h0 => run_next hp hR.out hil h0)
      have hstop := Lib.hid (fun h0 => run_stop hR.out hil h0)
      have hst := Lib.hid (fun W hW hW2 => step_any pnm pa1 pn1 pc1 pa2 pn2 pc2 pa3 pn3 pc3 D pt ai ni ci li hp hR.out.vals (ch.getD i (0, 0)).1 (ch.getD i (0, 0)).2 W hW hW2)
      generalize stepR D pt li (ch.getD i (0, 0)).1 (ch.getD i (0, 0)).2 = R at hnext hstop hst
      generalize (ch.getD i (0, 0)).1 = ce at hst x0
      generalize (ch.getD i (0, 0)).2 = cv at hst x1
      obtain ⟨⟨rp, rl⟩, re⟩ := R
      go_upto_region 11 with (fail)
      obtain ⟨X, hX⟩ : ∃ X, X = wr.alloc (.cells #[.int .i64 ce, .int .i64 cv] 44) := ⟨_, rfl⟩
      rw [← hX]
      have bX : Below wr.heap.size wr X := by rw [hX]; exact box_below _ _ _
      have hXc : Hid (Holds X wr.heap.size 44 #[.int .i64 ce, .int .i64 cv]) := Lib.hid (by rw [hX]; exact Holds.new _ _ _)
      replace hI := Lib.hid (hI.out.below bX)
      clear hX bX x0 x1 hB
      generalize wr.heap.size = gc at hXc ⊢
      have k0 := (Z0.out.below hI.out.row.bel Z0.out.lt).cell 0
      have k1 := (Z0.out.below hI.out.row.bel Z0.out.lt).cell 1
      have k2 := (Z0.out.below hI.out.row.bel Z0.out.lt).cell 2
      have k3 := (Z0.out.below hI.out.row.bel Z0.out.lt).cell 3
      have j0 := hI.out.box.cell 0
      have j1 := hI.out.box.cell 1
      have i0 := hXc.out.cell 0
      have i1 := hXc.out.cell 1
      simp at k0 k1 k2 k3 j0 j1 i0 i1
      go_wp2_with fail
      with_reducible refine (hst.out _ (P.out.below hI.out.row.bel) hI.out.sl).mono ?_
      rintro e5 W5 ⟨a5, n5, c5, rfl, s5, b5, f5⟩
      have hap := Lib.hid (apart_new (l := rl) f5 hI.out.row)
      have s5' := Lib.hid s5
      replace hI := Lib.hid (hI.out.below b5)
      clear k0 k1 k2 k3 j0 j1 i0 i1 b5 f5 s5 hst hXc
      go_upto_region 12 with (fail)
      obtain ⟨Y, hY⟩ : ∃ Y, Y = W5.alloc (.cells #[.int .i64 rp, .slice a5 n5 c5] 39) := ⟨_, rfl⟩
      rw [← hY]
      have bY : Below W5.heap.size W5 Y := by rw [hY]; exact box_below _ _ _
      have hYc : Hid (Holds Y W5.heap.size 39 #[.int .i64 rp, .slice a5 n5 c5]) := Lib.hid (by rw [hY]; exact Holds.new _ _ _)
      replace hI := Lib.hid (hI.out.below bY)
      replace s5' := Lib.hid (s5'.out.below bY)
      clear hY bY
      generalize W5.heap.size = gy at hYc ⊢
      by_cases h0 : re = 0
      · subst h0
        have hR2 := Lib.hid (hnext.out rfl)
        have y0 := hYc.out.cell 0
        have y1 := hYc.out.cell 1
        have j0 := hI.out.box.cell 0
        have j1 := hI.out.box.cell 1
        have f0 := hI.out.box.free 0
        have f1 := hI.out.box.free 1
        simp at y0 y1 j0 j1
        go_upto_region 15 with (fail)
        replace hI := Lib.hid (hI.out.set rp s5'.out hap.out)
        obtain ⟨V, hV⟩ : ∃ V, V = (Y.setCell ⟨W4.heap.size, 0, none⟩ (.int .i64 rp)).setCell ⟨W4.heap.size, 1, none⟩ (.slice a5 n5 c5) := ⟨_, rfl⟩
        rw [← hV] at hI ⊢
        clear hV y0 y1 j0 j1 f0 f1 hYc s5' hap
        have j0 := hI.out.box.cell 0
        have j1 := hI.out.box.cell 1
        simp at j0 j1
        go_wp2_with (at_builtin; refine wpList_append_loop hI.out rfl _ _ rfl rfl rfl (by have := hR.out.len; omega) ?_; intro gr' cap' W' hI2; replace hI2 := Lib.hid hI2; clear j0 j1)
        go_roundw
        case rel => exact ⟨i + 1, gr', cap', L ++ [(rp, rl)], _, rp, a5, n5, c5, rl, by omega, by go_num, by simp, hI2, hR2⟩
        case measure => simp [intOf]; omega
      · obtain ⟨hs1, hs2⟩ := hstop.out h0
        have hsb := Lib.hid (sts_row hI.out.row)
        rw [← hs1] at hsb
        have hs2' := Lib.hid hs2
        have hs1' := Lib.hid hs1
        go_wp2
        exact bodyPost_ret (results_tmp2 rfl _ _ _) rfl ⟨_, _, _, by rw [hs2'.out]; rfl, by have q := hsb.out; rw [hs1'.out] at q ⊢; exact q, BL.out.trans (hI.out.row.bel.mono BL.out.size)⟩
    · obtain ⟨hs1, hs2⟩ := run_end hR.out (show i = ch.length by rw [← C.out.len]; omega)
      have hsb := Lib.hid (sts_row hI.out.row)
      have hs2' := Lib.hid hs2
      have hs1' := Lib.hid hs1
      clear hs1 hs2
      go_wp2
      exact bodyPost_ret (results_tmp2 rfl _ _ _) rfl ⟨_, _, _, by rw [hs2'.out]; rfl, by rw [hs1'.out]; exact hsb.out, BL.out.trans (hI.out.row.bel.mono BL.out.size)⟩
end Go.Proofs.YtjdfjekonnkglaaGreatDoor
