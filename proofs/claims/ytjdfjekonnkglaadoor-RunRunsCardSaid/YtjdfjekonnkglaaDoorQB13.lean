/-
  Words and walks under the law's proof.
-/
import Derived.Test.YtjdfjekonnkglaaDoorQB01
import Derived.Test.YtjdfjekonnkglaaDoorQB02
import Derived.Test.YtjdfjekonnkglaaDoorQB04
import Derived.Test.YtjdfjekonnkglaaDoorQB09
import Derived.Test.YtjdfjekonnkglaaDoorQB11
import Derived.Test.YtjdfjekonnkglaaDoorQB12
namespace Go.Proofs.YtjdfjekonnkglaaDoor
open Go.RowKit
set_option linter.unusedVariables false
set_option linter.unusedSimpArgs false
def bigS (s : SpotD) : Bool := decide (100 < s.fn.size) || decide (100 < s.file.size)
def bigP (D : PD) : Bool := (decide (100 < D.nm.size) || (decide (20 < D.vars.length) || (decide (150 < D.spots.length) || decide (300 < D.edges.length)))) || (D.vars.any (fun s => decide (100 < s.size)) || D.spots.any bigS)
theorem any_yes {α : Type} {q : α → Bool} {l : List α} {d : α} {k : Nat} (hk : k < l.length) (h : q (l.getD k d) = true) : l.any q = true := by
  rw [List.any_eq_true]
  exact ⟨l.getD k d, by simp [List.getD, hk], h⟩
theorem any_no {α : Type} {q : α → Bool} {l : List α} (d : α) (h : ∀ t, t < l.length → q (l.getD t d) = false) : l.any q = false := by
  rw [List.any_eq_false]
  intro x hx
  obtain ⟨t, ht, rfl⟩ := List.getElem_of_mem hx
  have := h t ht
  simpa [List.getD, ht] using this
set_option maxRecDepth 100000 in
set_option maxHeartbeats 8000000 in
theorem plarge_any (p : PV) (D : PD) (hw : PW D) (w : World) (h : PrA w p D) : Calls Tryd.prog 17 #[.agg #[.string p.nm, .slice p.a1 p.n1 p.c1, .slice p.a2 p.n2 p.c2, .slice p.a3 p.n3 p.c3]] w (Gives (.bool (bigP D)) w) := by
  have hR : Hid (bigP D = ((decide (100 < p.nm.size) || (decide (20 < p.n1) || (decide (150 < p.n2) || decide (300 < p.n3)))) || (D.vars.any (fun s => decide (100 < s.size)) || D.spots.any bigS))) := Lib.hid (by unfold bigP; rw [h.nm, h.vars.len, h.spots.len, h.edges.len])
  have hns : p.nm.size ≤ 140737488351232 := by rw [h.nm]; exact hw.nm
  have hvw : Hid (∀ k, k < D.vars.length → (D.vars.getD k e0).size ≤ 140737488351232) := Lib.hid (fun k hk => hw.vars _ (by simp [List.getD, hk]))
  have hsw : Hid (∀ k, k < D.spots.length → spotW (D.spots.getD k spot0)) := Lib.hid (fun k hk => hw.spots _ (by simp [List.getD, hk]))
  obtain ⟨pnm, pa1, pn1, pc1, pa2, pn2, pc2, pa3, pn3, pc3⟩ := p
  have hv := h.vars
  have hs := h.spots
  have he := h.edges
  clear h hw
  dsimp only at hR hv hs he hns ⊢
  obtain ⟨W1, hW1⟩ : ∃ W1, W1 = w.alloc (.cells #[.string pnm, .slice pa1 pn1 pc1, .slice pa2 pn2 pc2, .slice pa3 pn3 pc3] 26) := ⟨_, rfl⟩
  have Z : Hid (Holds W1 w.heap.size 26 #[.string pnm, .slice pa1 pn1 pc1, .slice pa2 pn2 pc2, .slice pa3 pn3 pc3]) := Lib.hid (by rw [hW1]; exact Holds.new w _ _)
  have BL := Lib.hid (show Below w.heap.size w W1 by rw [hW1]; exact box_below _ _ _)
  have V := Lib.hid (hv.below BL.out)
  have S := Lib.hid (hs.below BL.out)
  have lv := Lib.hid hv.len
  have ls := Lib.hid hs.len
  have hm1 : (pn1 : Int) ≤ 9223372036854775807 := by have := hv.cap; have := hv.max; unfold maxLen at this; omega
  have hm2 : (pn2 : Int) ≤ 9223372036854775807 := by have := hs.max'; omega
  have hm3 : (pn3 : Int) ≤ 9223372036854775807 := by have := he.max'; omega
  have hW1' := Lib.hid hW1
  have k0 := Z.out.cell 0
  have k1 := Z.out.cell 1
  have k2 := Z.out.cell 2
  have k3 := Z.out.cell 3
  have yv := Lib.hid (fun k hk h => any_yes (q := fun s : ByteArray => decide (100 < s.size)) (l := D.vars) (d := e0) (k := k) hk h)
  have nv := Lib.hid (fun h => any_no (q := fun s : ByteArray => decide (100 < s.size)) (l := D.vars) e0 h)
  have ys := Lib.hid (fun k hk h => any_yes (q := bigS) (l := D.spots) (d := spot0) (k := k) hk h)
  have ns := Lib.hid (fun h => any_no (q := bigS) (l := D.spots) spot0 h)
  clear hv hs he hW1
  generalize bigP D = R at *
  generalize D.vars.any (fun s => decide (100 < s.size)) = bv at *
  generalize D.spots.any bigS = bs at *
  by_cases g0 : 100 < pnm.size
  · have ig0 : (100 : Int) < (pnm.size : Int) := by omega
    have hf : Hid (R = true) := Lib.hid (by rw [hR.out, decide_eq_true g0]; simp)
    go_enter Tryd.func17, Tryd.ntmps17
    go_wp2
    go_ret
    rw [← hW1'.out]
    exact ⟨ret_bool hf.out.symm, BL.out⟩
  have ig0 : ¬ (100 : Int) < (pnm.size : Int) := by omega
  by_cases g1 : 20 < pn1
  · have ig1 : (20 : Int) < (pn1 : Int) := by omega
    have hf : Hid (R = true) := Lib.hid (by rw [hR.out, decide_eq_true g1]; simp)
    go_enter Tryd.func17, Tryd.ntmps17
    go_wp2
    go_ret
    rw [← hW1'.out]
    exact ⟨ret_bool hf.out.symm, BL.out⟩
  have ig1 : ¬ (20 : Int) < (pn1 : Int) := by omega
  by_cases g2 : 150 < pn2
  · have ig2 : (150 : Int) < (pn2 : Int) := by omega
    have hf : Hid (R = true) := Lib.hid (by rw [hR.out, decide_eq_true g2]; simp)
    go_enter Tryd.func17, Tryd.ntmps17
    go_wp2
    go_ret
    rw [← hW1'.out]
    exact ⟨ret_bool hf.out.symm, BL.out⟩
  have ig2 : ¬ (150 : Int) < (pn2 : Int) := by omega
  by_cases g3 : 300 < pn3
  · have ig3 : (300 : Int) < (pn3 : Int) := by omega
    have hf : Hid (R = true) := Lib.hid (by rw [hR.out, decide_eq_true g3]; simp)
    go_enter Tryd.func17, Tryd.ntmps17
    go_wp2
    go_ret
    rw [← hW1'.out]
    exact ⟨ret_bool hf.out.symm, BL.out⟩
  have ig3 : ¬ (300 : Int) < (pn3 : Int) := by omega
  have hR2 : Hid (R = (bv || bs)) := Lib.hid (by rw [hR.out, decide_eq_false g0, decide_eq_false g1, decide_eq_false g2, decide_eq_false g3]; rfl)
  clear hR
  go_enter Tryd.func17, Tryd.ntmps17
  go_wp2
  rw [← hW1'.out]
  clear hW1'
  go_loop [3] (fun y => ∃ k : Nat, k ≤ pn1 ∧ y = .int .i64 k ∧ Hid (∀ t, t < k → decide (100 < (D.vars.getD t e0).size) = false)) (fun y => pn1 - (intOf y).toNat)
  case atStart => exact ⟨0, Nat.zero_le _, rfl, Lib.hid (fun t ht => by omega)⟩
  case round =>
    obtain ⟨k, hk, rfl, hal⟩ := hrel
    by_cases hlt : k < pn1
    · have hki : (k : Int) < (pn1 : Int) := by omega
      have hkl : k < D.vars.length := by rw [← lv.out]; exact hlt
      obtain ⟨b, off, rfl, -, hc⟩ := V.out.at_ hkl
      have x0 := hc k hkl
      have hz := hvw.out k hkl
      have hy := Lib.hid (yv.out k hkl)
      have hn : Hid (¬ 100 < (D.vars.getD k e0).size → ∀ t, t < k + 1 → decide (100 < (D.vars.getD t e0).size) = false) := Lib.hid (fun h t ht => by
        by_cases e : t = k
        · rw [e]; exact decide_eq_false h
        · exact hal.out t (by omega))
      clear hc hal yv
      generalize D.vars.getD k e0 = s at *
      by_cases hs : 100 < s.size
      · have hsi : (100 : Int) < (s.size : Int) := by omega
        have hf : Hid (R = true) := Lib.hid (by rw [hR2.out, hy.out (decide_eq_true hs)]; rfl)
        clear hy hn
        go_wp2
        go_ret
        exact ⟨ret_bool hf.out.symm, BL.out⟩
      · have hsi : ¬ (100 : Int) < (s.size : Int) := by omega
        have hg := Lib.hid (hn.out hs)
        clear hy hn
        go_wp2
        go_round
        case rel => exact ⟨k + 1, by omega, by go_num, hg⟩
        case measure => simp [intOf]; omega
    · have hki : ¬ (k : Int) < (pn1 : Int) := by omega
      have hb := Lib.hid (nv.out (fun t ht => hal.out t (by rw [← lv.out] at ht; omega)))
      have hR3 : Hid (R = bs) := Lib.hid (by rw [hR2.out, hb.out]; rfl)
      clear hb hR2 yv nv hal
      go_wp2
      clear hki hlt hk
      go_loop [4] (fun y => ∃ k : Nat, k ≤ pn2 ∧ y = .int .i64 k ∧ Hid (∀ t, t < k → bigS (D.spots.getD t spot0) = false)) (fun y => pn2 - (intOf y).toNat)
      case atStart => exact ⟨0, Nat.zero_le _, rfl, Lib.hid (fun t ht => by omega)⟩
      case round =>
        obtain ⟨k, hk, rfl, hal⟩ := hrel
        by_cases hlt : k < pn2
        · have hki : (k : Int) < (pn2 : Int) := by omega
          obtain ⟨b, off, rfl, -, x0, x1, x2⟩ := spots_at S.out hlt
          have hz := hsw.out k (by rw [← ls.out]; exact hlt)
          have hy := Lib.hid (ys.out k (by rw [← ls.out]; exact hlt))
          have hn : Hid (bigS (D.spots.getD k spot0) = false → ∀ t, t < k + 1 → bigS (D.spots.getD t spot0) = false) := Lib.hid (fun h t ht => by
            by_cases e : t = k
            · rw [e]; exact h
            · exact hal.out t (by omega))
          obtain ⟨s, f, x, hd⟩ : ∃ s f x, D.spots.getD k spot0 = (⟨s, f, x⟩ : SpotD) := ⟨_, _, _, rfl⟩
          rw [hd] at x0 x1 hy hn hz
          have hz1 : s.size ≤ 140737488351232 := hz.1
          have hz2 : f.size ≤ 140737488351232 := hz.2.1
          dsimp only at x0 x1
          have hbe : Hid (bigS ⟨s, f, x⟩ = (decide (100 < s.size) || decide (100 < f.size))) := Lib.hid rfl
          clear hd hal ys hz x2
          generalize bigS ⟨s, f, x⟩ = B at *
          by_cases h1 : 100 < s.size
          · have h1i : (100 : Int) < (s.size : Int) := by omega
            have hf : Hid (R = true) := Lib.hid (by rw [hR3.out, hy.out (by rw [hbe.out, decide_eq_true h1]; rfl)])
            clear hy hn hbe
            go_wp2
            go_ret
            exact ⟨ret_bool hf.out.symm, BL.out⟩
          · have h1i : ¬ (100 : Int) < (s.size : Int) := by omega
            by_cases h2 : 100 < f.size
            · have h2i : (100 : Int) < (f.size : Int) := by omega
              have hf : Hid (R = true) := Lib.hid (by rw [hR3.out, hy.out (by rw [hbe.out, decide_eq_false h1, decide_eq_true h2]; rfl)])
              clear hy hn hbe
              go_wp2
              go_ret
              exact ⟨ret_bool hf.out.symm, BL.out⟩
            · have h2i : ¬ (100 : Int) < (f.size : Int) := by omega
              have hg := Lib.hid (hn.out (by rw [hbe.out, decide_eq_false h1, decide_eq_false h2]; rfl))
              clear hy hn hbe
              go_wp2
              go_round
              case rel => exact ⟨k + 1, by omega, by go_num, hg⟩
              case measure => simp [intOf]; omega
        · have hki : ¬ (k : Int) < (pn2 : Int) := by omega
          have hb := Lib.hid (ns.out (fun t ht => hal.out t (by rw [← ls.out] at ht; omega)))
          have hf : Hid (R = false) := Lib.hid (by rw [hR3.out, hb.out])
          clear hb ns ys hR3
          go_wp2
          go_ret
          exact ⟨ret_bool hf.out.symm, BL.out⟩
end Go.Proofs.YtjdfjekonnkglaaDoor
namespace Go.Proofs.YtjdfjekonnkglaaDoor
open Go.RowKit
set_option linter.unusedVariables false
set_option linter.unusedSimpArgs false
def bigR (D : PD) (n cn : Nat) : Bool := (bigP D || decide (20 < n)) || decide (300 < cn)
set_option maxRecDepth 100000 in
theorem rlarge_any (pnm : ByteArray) (pa1 : Option Addr) (pn1 pc1 : Nat) (pa2 : Option Addr) (pn2 pc2 : Nat) (pa3 : Option Addr) (pn3 pc3 : Nat) (D : PD) (hw : PW D) (a : Option Addr) (n c : Nat) (ca : Option Addr) (cn cc : Nat) (hn : n ≤ 9223372036854775807) (hcn : cn ≤ 9223372036854775807) (w : World) (h : PrA w ⟨pnm, pa1, pn1, pc1, pa2, pn2, pc2, pa3, pn3, pc3⟩ D) : Calls Tryd.prog 5 #[.agg #[.string pnm, .slice pa1 pn1 pc1, .slice pa2 pn2 pc2, .slice pa3 pn3 pc3], .slice a n c, .slice ca cn cc] w (Gives (.bool (bigR D n cn)) w) := by
  obtain ⟨W1, hW1⟩ : ∃ W1, W1 = w.alloc (.cells #[.string pnm, .slice pa1 pn1 pc1, .slice pa2 pn2 pc2, .slice pa3 pn3 pc3] 26) := ⟨_, rfl⟩
  have BL : Hid (Below w.heap.size w W1) := Lib.hid (by rw [hW1]; exact box_below _ _ _)
  have Z0 : Hid (Holds W1 w.heap.size 26 #[.string pnm, .slice pa1 pn1 pc1, .slice pa2 pn2 pc2, .slice pa3 pn3 pc3]) := Lib.hid (by rw [hW1]; exact Holds.new w _ _)
  have q := Lib.hid (plarge_any ⟨pnm, pa1, pn1, pc1, pa2, pn2, pc2, pa3, pn3, pc3⟩ D hw W1 (h.below BL.out))
  have k0 := Z0.out.cell 0
  have k1 := Z0.out.cell 1
  have k2 := Z0.out.cell 2
  have k3 := Z0.out.cell 3
  simp at k0 k1 k2 k3
  have hW1' := Lib.hid hW1
  rw [hW1] at k0 k1 k2 k3
  clear hW1 h Z0
  have hR : Hid (bigR D n cn = ((bigP D || decide (20 < n)) || decide (300 < cn))) := Lib.hid rfl
  generalize bigR D n cn = R at *
  generalize bigP D = B at *
  go_enter Tryd.func5, Tryd.ntmps5
  go_wp2_with fail
  rw [← hW1'.out]
  with_reducible refine q.out.mono ?_
  rintro e W2 ⟨rfl, b2⟩
  have B2 := Lib.hid (BL.out.trans (b2.mono BL.out.size))
  clear k0 k1 k2 k3 hW1' BL b2 q
  cases B with
  | true =>
    go_wp2
    go_ret
    exact ⟨by rw [hR.out]; rfl, B2.out⟩
  | false =>
    by_cases h1 : 20 < n
    · have h1i : (20 : Int) < (n : Int) := by omega
      have h1d : decide ((20 : Int) < (n : Int)) = true := by simpa using h1i
      go_wp2
      go_ret
      exact ⟨by rw [hR.out]; simp [h1], B2.out⟩
    · have h1i : ¬ (20 : Int) < (n : Int) := by omega
      by_cases h2 : 300 < cn
      · have h2i : (300 : Int) < (cn : Int) := by omega
        go_wp2
        go_ret
        exact ⟨by rw [hR.out]; simp [h2], B2.out⟩
      · have h2i : ¬ (300 : Int) < (cn : Int) := by omega
        go_wp2
        go_ret
        exact ⟨by rw [hR.out]; simp [h1, h2]; omega, B2.out⟩
end Go.Proofs.YtjdfjekonnkglaaDoor
namespace Go.Proofs.YtjdfjekonnkglaaDoor
open Go.RowKit
set_option linter.unusedVariables false
set_option linter.unusedSimpArgs false
theorem apart_set {w : World} {a : Option Addr} {n c : Nat} {l : List Int} (h : SL w a n c l) {g : Nat} (hne : l = [] ∨ ∀ p : Addr, a = some p → p.block ≠ g) (u1 u2 : Value) : SL ((w.setCell ⟨g, 0, none⟩ u1).setCell ⟨g, 1, none⟩ u2) a n c l := by
  have hE : BelowE [g] w.heap.size w ((w.setCell ⟨g, 0, none⟩ u1).setCell ⟨g, 1, none⟩ u2) := ((BelowE.refl _ _ _).setIn (p := ⟨g, 0, none⟩) (by simp) _).setIn (p := ⟨g, 1, none⟩) (by simp) _
  refine sl_keep h hE ?_
  rcases hne with e | e
  · exact .inl e
  · exact .inr fun p hp => by simpa using e p hp
set_option maxRecDepth 100000 in
set_option maxHeartbeats 8000000 in
theorem rrun_go (pnm : ByteArray) (pa1 : Option Addr) (pn1 pc1 : Nat) (pa2 : Option Addr) (pn2 pc2 : Nat) (pa3 : Option Addr) (pn3 pc3 : Nat) (D : PD) (a : Option Addr) (n c : Nat) (l : List Int) (ca : Option Addr) (cn cc : Nat) (ch : List (Int × Int)) (w : World) (h : PrA w ⟨pnm, pa1, pn1, pc1, pa2, pn2, pc2, pa3, pn3, pc3⟩ D) (hs : SL w a n c l) (hc : RO chC w ca cn cc ch) (hcn : cn ≤ 1000) (hp : progB D = true) (hv : valsB l D.vars.length = true) (hn : n ≤ 1000) : Calls Tryd.prog 16 #[.agg #[.string pnm, .slice pa1 pn1 pc1, .slice pa2 pn2 pc2, .slice pa3 pn3 pc3], .slice a n c, .slice ca cn cc] w (RunE ((0, l) :: (runL D 0 l ch).1) (runL D 0 l ch).2 w) := by
  obtain ⟨i0, hi, hz0, hz1, hz2⟩ := infoIntR
  obtain ⟨W1, hW1⟩ : ∃ W1, W1 = w.alloc (.cells #[.string pnm, .slice pa1 pn1 pc1, .slice pa2 pn2 pc2, .slice pa3 pn3 pc3] 26) := ⟨_, rfl⟩
  have BL : Hid (Below w.heap.size w W1) := Lib.hid (by rw [hW1]; exact box_below _ _ _)
  have Z0 : Hid (Holds W1 w.heap.size 26 #[.string pnm, .slice pa1 pn1 pc1, .slice pa2 pn2 pc2, .slice pa3 pn3 pc3]) := Lib.hid (by rw [hW1]; exact Holds.new w _ _)
  have P := Lib.hid (h.below BL.out)
  have S := Lib.hid (hs.below BL.out)
  have C := Lib.hid (hc.below BL.out)
  have hll : Hid ((nums .i64 l).length = n * 1) := Lib.hid (by simp [nums, S.out.len])
  have hsc := Lib.hid ((S.out.below (box_below W1 #[] 3)).cells)
  have hro : Hid ((W1.alloc (.cells #[] 3)).ownsRow W1.heap.size 3 1 (.slice (some ⟨W1.heap.size, 0, none⟩) 0 0) 0 []) := Lib.hid (own_cells W1 3 1 0 #[] (by simp) (by simp [maxLen]))
  have hb0 : Hid (Below W1.heap.size W1 (W1.alloc (.cells #[] 3))) := Lib.hid (box_below _ _ _)
  have hW1' := Lib.hid hW1
  clear hW1 h hs hc
  go_enter Tryd.func16, Tryd.ntmps16
  go_upto_region 1 with (fail)
  rw [← hW1'.out]
  clear hW1'
  go_wp2_with (at_builtin; refine wpList_append_cellsB _ rfl _ _ 27 rfl W1 3 i0 (.int .i64 0) 1 8 Tryd.underlying27 hi hz0 hz1 hz2 rfl (by omega) (.slice (some ⟨W1.heap.size, 0, none⟩) 0 0) 0 [] hro.out hb0.out _ a n c (nums .i64 l) hll.out hsc.out (nums_one _) rfl rfl (by unfold maxLen; omega) (by omega) ?_; intro v' W4 o2 b2; simp only [List.nil_append, Nat.zero_add] at o2; obtain ⟨a', c', rfl, o3⟩ := own_form o2; have ho4 := Lib.hid o3; replace Z0 := Lib.hid (Z0.out.below b2 Z0.out.lt); replace P := Lib.hid (P.out.below b2); replace C := Lib.hid (C.out.below b2); replace BL := Lib.hid (BL.out.trans (b2.mono BL.out.size)); clear o2 b2 o3 S hll hsc hro hb0)
  have s4 := Lib.hid (clone_sl ho4.out hn)
  have hI0 : Hid (LoopI W4 W4.heap.size (W4.heap.size + 1) 1 [(0, l)] [.int .i64 0, .slice a' n c'] 0 a' n c' l ((W4.alloc (.cells #[.int .i64 0, .slice a' n c'] 29)).alloc (.cells #[.int .i64 0, .slice a' n c'] 29))) := Lib.hid (loop_start s4.out)
  have hR0 : Hid (RunAt D ch l 0 [(0, l)] 0 l) := Lib.hid (run_at0 hv)
  go_loopw [9, 10] (fun v x wr => ∃ (i gr cap : Nat) (L : List (Int × List Int)) (xs : List Value) (pt : Int) (ai : Option Addr) (ni ci : Nat) (li : List Int), i ≤ cn ∧ x = .int .i64 i ∧ v = .slice (some ⟨gr, 0, none⟩) L.length cap ∧ Hid (LoopI W4 W4.heap.size gr cap L xs pt ai ni ci li wr) ∧ Hid (RunAt D ch l i L pt li)) (fun _ x _ => cn - (intOf x).toNat)
  case atStart => exact ⟨0, W4.heap.size + 1, 1, [(0, l)], [.int .i64 0, .slice a' n c'], 0, a', n, c', l, by omega, rfl, rfl, hI0, hR0⟩
  case round =>
    clear hI0 hR0 s4 ho4
    obtain ⟨i, gr, cap, L, xs, pt, ai, ni, ci, li, hi', rfl, rfl, hI, hR⟩ := hrel
    by_cases hlt : i < cn
    · have hlti : (i : Int) < (cn : Int) := by omega
      obtain ⟨b, off, rfl, hB, -, -⟩ := choice_at (C.out.below hI.out.row.bel) hlt
      have hil : i < ch.length := by rw [← C.out.len]; exact hlt
      have hnext := Lib.hid (fun h0 => run_next hp hR.out hil h0)
      have hstop := Lib.hid (fun h0 => run_stop hR.out hil h0)
      have hst := Lib.hid (fun W hW hW2 => rStep_any pnm pa1 pn1 pc1 pa2 pn2 pc2 pa3 pn3 pc3 D pt ai ni ci li hp hR.out.vals (ch.getD i (0, 0)).1 (ch.getD i (0, 0)).2 W hW hW2)
      have x0 : ∀ W, Below wr.heap.size wr W → W.cell? ⟨b, off + i * 2, none⟩ = some (.int .i64 (ch.getD i (0, 0)).1) := fun W hW => by
        obtain ⟨b', off', e', -, y0, y1⟩ := choice_at ((C.out.below hI.out.row.bel).below hW) hlt
        injection e' with e'
        injection e' with e1 e2
        subst e1 e2
        exact y0
      have x1 : ∀ W, Below wr.heap.size wr W → W.cell? ⟨b, off + i * 2 + 1, none⟩ = some (.int .i64 (ch.getD i (0, 0)).2) := fun W hW => by
        obtain ⟨b', off', e', -, y0, y1⟩ := choice_at ((C.out.below hI.out.row.bel).below hW) hlt
        injection e' with e'
        injection e' with e1 e2
        subst e1 e2
        exact y1
      generalize stepR D pt li (ch.getD i (0, 0)).1 (ch.getD i (0, 0)).2 = R at hnext hstop hst
      generalize (ch.getD i (0, 0)).1 = ce at hst x0
      generalize (ch.getD i (0, 0)).2 = cv at hst x1
      obtain ⟨⟨rp, rl⟩, re⟩ := R
      have hnext' : Hid (re = 0 → RunAt D ch l (i + 1) (L ++ [(rp, rl)]) rp rl) := hnext
      have hstop' : Hid (re ≠ 0 → (0, l) :: (runL D 0 l ch).1 = L ∧ (runL D 0 l ch).2 = re) := hstop
      clear hnext hstop
      go_upto_region 6 with (fail)
      generalize wr = X at *
      have LF : ∀ W, Below X.heap.size X W → LoopI W4 W4.heap.size gr cap L xs pt ai ni ci li W ∧ PrA W ⟨pnm, pa1, pn1, pc1, pa2, pn2, pc2, pa3, pn3, pc3⟩ D := fun W hW => ⟨hI.out.below hW, P.out.below (hI.out.below hW).row.bel⟩
      have z0 : ∀ W, Below X.heap.size X W → W.cell? ⟨w.heap.size, 0, none⟩ = some (.string pnm) := fun W hW => (Z0.out.below (LF W hW).1.row.bel Z0.out.lt).cell 0
      have z1 : ∀ W, Below X.heap.size X W → W.cell? ⟨w.heap.size, 1, none⟩ = some (.slice pa1 pn1 pc1) := fun W hW => (Z0.out.below (LF W hW).1.row.bel Z0.out.lt).cell 1
      have z2 : ∀ W, Below X.heap.size X W → W.cell? ⟨w.heap.size, 2, none⟩ = some (.slice pa2 pn2 pc2) := fun W hW => (Z0.out.below (LF W hW).1.row.bel Z0.out.lt).cell 2
      have z3 : ∀ W, Below X.heap.size X W → W.cell? ⟨w.heap.size, 3, none⟩ = some (.slice pa3 pn3 pc3) := fun W hW => (Z0.out.below (LF W hW).1.row.bel Z0.out.lt).cell 3
      have j0 : ∀ W, Below X.heap.size X W → W.cell? ⟨W4.heap.size, 0, none⟩ = some (.int .i64 pt) := fun W hW => (LF W hW).1.box.cell 0
      have j1 : ∀ W, Below X.heap.size X W → W.cell? ⟨W4.heap.size, 1, none⟩ = some (.slice ai ni ci) := fun W hW => (LF W hW).1.box.cell 1
      have hX4 : Hid (W4.heap.size < X.heap.size) := Lib.hid hI.out.row.gsl
      by_cases h0 : re = 0
      · have hR2 := Lib.hid (hnext'.out h0)
        clear hnext' hstop'
        subst h0
        refine wp_drawn_on (fun W => Below X.heap.size X W) (by kernel_rfl) ((Below.refl _ _).drew) (fun hHeld => ?_)
        refine wpAnyH_take (i := 0) (oi := { dst := some 26, op := Go.Op.load 26 (Go.Operand.tmp 3), type := 26, pos := "ref.go:83", after := #[], guard := none }) (v := ?v1) rfl (by kernel_rfl) (by kernel_rfl) (by kernel_rfl) (fun _ _ _ h => h) (Or.inl ⟨by kernel_rfl, ?h1⟩) (by assumption) ?r1
        case h1 => (intro w hSw; (try dsimp only at hSw); go_simp; try with_reducible rfl)
        try simp only [Act.put, List.setIfInBounds_toArray, List.set_cons_zero, List.set_cons_succ]
        refine wpAnyH_take (i := 1) (oi := { dst := some 27, op := Go.Op.load 29 (Go.Operand.tmp 8), type := 29, pos := "ref.go:83", after := #[], guard := none }) (v := ?v2) rfl (by kernel_rfl) (by kernel_rfl) (by kernel_rfl) (fun _ _ _ h => h) (Or.inl ⟨by kernel_rfl, ?h2⟩) (by assumption) ?r2
        case h2 => (intro w hSw; (try dsimp only at hSw); go_simp; try with_reducible rfl)
        try simp only [Act.put, List.setIfInBounds_toArray, List.set_cons_zero, List.set_cons_succ]
        refine wpAnyH_take (i := 2) (oi := { dst := some 28, op := Go.Op.move (Go.Operand.tmp 2), type := 41, pos := "ref.go:83", after := #[], guard := none }) (v := ?v3) rfl (by kernel_rfl) (by kernel_rfl) (by kernel_rfl) (fun _ _ _ h => h) (Or.inl ⟨by kernel_rfl, ?h3⟩) (by assumption) ?r3
        case h3 => (intro w hSw; (try dsimp only at hSw); go_simp; try with_reducible rfl)
        try simp only [Act.put, List.setIfInBounds_toArray, List.set_cons_zero, List.set_cons_succ]
        refine wpAnyH_take (i := 3) (oi := { dst := some 29, op := Go.Op.move (Go.Operand.tmp 10), type := 3, pos := "ref.go:83", after := #[], guard := none }) (v := ?v4) rfl (by kernel_rfl) (by kernel_rfl) (by kernel_rfl) (fun _ _ _ h => h) (Or.inl ⟨by kernel_rfl, ?h4⟩) (by assumption) ?r4
        case h4 => (intro w hSw; (try dsimp only at hSw); go_simp; try with_reducible rfl)
        try simp only [Act.put, List.setIfInBounds_toArray, List.set_cons_zero, List.set_cons_succ]
        refine wpAnyH_take (i := 4) (oi := { dst := some 30, op := Go.Op.indexAddr 41 (Go.Operand.tmp 28) (Go.Operand.tmp 29), type := 0, pos := "ref.go:83", after := #[{ on := 2, ground := Go.Ground.data }, { on := 3, ground := Go.Ground.data }], guard := none }) (v := ?v5) rfl (by kernel_rfl) (by kernel_rfl) (by kernel_rfl) (fun _ _ _ h => h) (Or.inl ⟨by kernel_rfl, ?h5⟩) (by assumption) ?r5
        case h5 => (intro w hSw; (try dsimp only at hSw); go_simp; try with_reducible rfl)
        try simp only [Act.put, List.setIfInBounds_toArray, List.set_cons_zero, List.set_cons_succ]
        refine wpAnyH_take (i := 5) (oi := { dst := some 31, op := Go.Op.load 31 (Go.Operand.tmp 30), type := 31, pos := "ref.go:83", after := #[{ on := 4, ground := Go.Ground.data }], guard := none }) (v := ?v6) rfl (by kernel_rfl) (by kernel_rfl) (by kernel_rfl) (fun _ _ _ h => h) (Or.inl ⟨by kernel_rfl, ?h6⟩) (by assumption) ?r6
        case h6 => (intro w hSw; (try dsimp only at hSw); go_simp; try with_reducible rfl)
        try simp only [Act.put, List.setIfInBounds_toArray, List.set_cons_zero, List.set_cons_succ]
        refine wpAnyH_ready (rs := [6, 10]) (by kernel_rfl) (by simp) ?_
        refine AllReadyH.cons (o := { dst := some 32, op := Go.Op.call { callee := Go.Callee.value (Go.Operand.func 13), args := #[Go.Operand.tmp 26, Go.Operand.tmp 27, Go.Operand.tmp 31], argTypes := #[26, 29, 31] }, type := 35, pos := "ref.go:83", after := #[{ on := 0, ground := Go.Ground.data }, { on := 1, ground := Go.Ground.data }, { on := 5, ground := Go.Ground.data }], guard := none }) rfl (fun K hK => ?_) (AllReadyH.cons (o := { dst := some 11, op := Go.Op.alloc 29, type := 0, pos := "ref.go:83", after := #[], guard := none }) rfl (fun K hK => ?_) AllReadyH.nil)
        · go_simp
          with_reducible refine (hst.out _ (LF _ hHeld).2 (LF _ hHeld).1.sl).mono ?_
          rintro e w6 ⟨a5, n5, c5, rfl, s5, b5, f5⟩
          replace s5 : SL w6 a5 n5 c5 rl := s5
          have hx6 : Below X.heap.size X w6 := hHeld.trans (b5.mono hHeld.size)
          have hap := apart_new (l := rl) f5 (LF _ hHeld).1.row
          go_simp
          refine hK.out _ _ (hx6) (fun hHeld => ?_)
          clear hK K
          try simp only [Act.put, List.setIfInBounds_toArray, List.set_cons_zero, List.set_cons_succ]
          refine wpAnyH_take (i := 7) (oi := { dst := some 25, op := Go.Op.move (Go.Operand.tmp 32), type := 35, pos := "ref.go:83", after := #[{ on := 6, ground := Go.Ground.data }], guard := none }) (v := ?v7) rfl (by kernel_rfl) (by kernel_rfl) (by kernel_rfl) (fun _ _ _ h => h) (Or.inl ⟨by kernel_rfl, ?h7⟩) (by assumption) ?r7
          case h7 => (intro w hSw; (try dsimp only at hSw); go_simp; try with_reducible rfl)
          try simp only [Act.put, List.setIfInBounds_toArray, List.set_cons_zero, List.set_cons_succ]
          refine wpAnyH_take (i := 8) (oi := { dst := some 33, op := Go.Op.extract (Go.Operand.tmp 25) 0, type := 29, pos := "ref.go:83", after := #[{ on := 7, ground := Go.Ground.data }], guard := none }) (v := ?v8) rfl (by kernel_rfl) (by kernel_rfl) (by kernel_rfl) (fun _ _ _ h => h) (Or.inl ⟨by kernel_rfl, ?h8⟩) (by assumption) ?r8
          case h8 => (intro w hSw; (try dsimp only at hSw); go_simp; try with_reducible rfl)
          try simp only [Act.put, List.setIfInBounds_toArray, List.set_cons_zero, List.set_cons_succ]
          refine wpAnyH_take (i := 9) (oi := { dst := some 34, op := Go.Op.extract (Go.Operand.tmp 25) 1, type := 34, pos := "ref.go:83", after := #[{ on := 7, ground := Go.Ground.data }, { on := 11, ground := Go.Ground.gcOnly Go.Departure.lateStores }], guard := none }) (v := ?v9) rfl (by kernel_rfl) (by kernel_rfl) (by kernel_rfl) (fun _ _ _ h => h) (Or.inl ⟨by kernel_rfl, ?h9⟩) (by assumption) ?r9
          case h9 => (intro w hSw; (try dsimp only at hSw); go_simp; try with_reducible rfl)
          try simp only [Act.put, List.setIfInBounds_toArray, List.set_cons_zero, List.set_cons_succ]
          refine wpAnyH_ready (rs := [10]) (by kernel_rfl) (by simp) ?_
          refine AllReadyH.cons (o := { dst := some 11, op := Go.Op.alloc 29, type := 0, pos := "ref.go:83", after := #[], guard := none }) rfl (fun K hK => ?_) AllReadyH.nil
          go_simp
          have hx10 := hHeld.alloc hHeld.size (.cells #[.int .i64 0, .slice none 0 0] 29)
          first | have hzA := Holds.new w6 29 #[.int .i64 0, .slice none 0 0] | have hz10 := Holds.new X 29 #[.int .i64 0, .slice none 0 0]
          refine hK.out _ _ (hx10) (fun hHeld => ?_)
          clear hK K
          try simp only [Act.put, List.setIfInBounds_toArray, List.set_cons_zero, List.set_cons_succ]
          refine wpAnyH_ready (rs := [11]) (by kernel_rfl) (by simp) ?_
          refine AllReadyH.cons (o := { dst := none, op := Go.Op.store 29 (Go.Operand.tmp 11) (Go.Operand.tmp 33), type := 0, pos := "ref.go:83", after := #[{ on := 10, ground := Go.Ground.data }, { on := 8, ground := Go.Ground.data }, { on := 6, ground := Go.Ground.chain }, { on := 0, ground := Go.Ground.phase }, { on := 1, ground := Go.Ground.phase }, { on := 2, ground := Go.Ground.phase }, { on := 3, ground := Go.Ground.phase }, { on := 4, ground := Go.Ground.phase }, { on := 5, ground := Go.Ground.phase }, { on := 6, ground := Go.Ground.phase }, { on := 7, ground := Go.Ground.phase }, { on := 8, ground := Go.Ground.phase }, { on := 9, ground := Go.Ground.textOnly Go.Departure.lateStores }, { on := 10, ground := Go.Ground.phase }], guard := none }) rfl (fun K hK => ?_) AllReadyH.nil
          first | (have hzB := Holds.below (g := X.heap.size) hz10.drew b5 hz10.lt; have q0 := hzB.cell 0; have q1 := hzB.cell 1; have r0 := hzB.free 0; have r1 := hzB.free 1; simp at q0 q1; go_simp; have hzF := state_set hzB (.int .i64 rp) (.slice a5 n5 c5); have hsF := apart_set s5 (g := X.heap.size) (.inr fun p hp => by have q := f5 p hp; have q2 := hz10.lt; simp at q q2; omega) (.int .i64 rp) (.slice a5 n5 c5); have hx11 := belT hx6 (Nat.le_refl _) (.int .i64 rp) (.slice a5 n5 c5); generalize (w6.setCell ⟨X.heap.size, 0, none⟩ (.int .i64 rp)).setCell ⟨X.heap.size, 1, none⟩ (.slice a5 n5 c5) = w11 at hzF hsF hx11 ⊢; clear q0 q1 r0 r1 hzB hz10) | (go_simp; have hzF := Holds.new w6 29 #[.int .i64 rp, .slice a5 n5 c5]; have hsF := s5.below (box_below w6 #[.int .i64 rp, .slice a5 n5 c5] 29); have hx11 := hx6.alloc hx6.size (.cells #[.int .i64 rp, .slice a5 n5 c5] 29); generalize w6.alloc (.cells #[.int .i64 rp, .slice a5 n5 c5] 29) = w11 at hzF hsF hx11 ⊢; clear hzA)
          refine hK.out _ _ (hx11) (fun hHeld => ?_)
          clear hK K
          try simp only [Act.put, List.setIfInBounds_toArray, List.set_cons_zero, List.set_cons_succ]
          refine wpAnyH_take (i := 12) (oi := { dst := some 12, op := Go.Op.assign (Go.Operand.tmp 34), type := 34, pos := "ref.go:83", after := #[{ on := 9, ground := Go.Ground.data }, { on := 11, ground := Go.Ground.chain }, { on := 0, ground := Go.Ground.phase }, { on := 1, ground := Go.Ground.phase }, { on := 2, ground := Go.Ground.phase }, { on := 3, ground := Go.Ground.phase }, { on := 4, ground := Go.Ground.phase }, { on := 5, ground := Go.Ground.phase }, { on := 6, ground := Go.Ground.phase }, { on := 7, ground := Go.Ground.phase }, { on := 8, ground := Go.Ground.phase }, { on := 9, ground := Go.Ground.phase }, { on := 10, ground := Go.Ground.phase }, { on := 11, ground := Go.Ground.phase }], guard := none }) (v := ?v10) rfl (by kernel_rfl) (by kernel_rfl) (by kernel_rfl) (fun _ _ _ h => h) (Or.inl ⟨by kernel_rfl, ?h10⟩) (by assumption) ?r10
          case h10 => (intro w hSw; (try dsimp only at hSw); go_simp; try with_reducible rfl)
          try simp only [Act.put, List.setIfInBounds_toArray, List.set_cons_zero, List.set_cons_succ]
          refine wpAnyH_done (by kernel_rfl) ?_ _
          have hI2 := Lib.hid (LF _ hHeld).1
          have hYc := Lib.hid hzF
          have s5' := Lib.hid hsF
          have hap' := Lib.hid hap
          clear z0 z1 z2 z3 x0 x1 j0 j1 LF hst hzF hsF hap hHeld s5 b5 f5 hx6 hx10
          have y0 := hYc.out.cell 0
          have y1 := hYc.out.cell 1
          have j0 := hI2.out.box.cell 0
          have j1 := hI2.out.box.cell 1
          have f0 := hI2.out.box.free 0
          have f1 := hI2.out.box.free 1
          simp at y0 y1 j0 j1
          go_upto_region 10 with (fail)
          replace hI2 := Lib.hid (hI2.out.set rp s5'.out hap'.out)
          obtain ⟨V, hV⟩ : ∃ V, V = (w11.setCell ⟨W4.heap.size, 0, none⟩ (.int .i64 rp)).setCell ⟨W4.heap.size, 1, none⟩ (.slice a5 n5 c5) := ⟨_, rfl⟩
          rw [← hV] at hI2 ⊢
          clear hV y0 y1 j0 j1 f0 f1 hYc s5' hap'
          have j0 := hI2.out.box.cell 0
          have j1 := hI2.out.box.cell 1
          simp at j0 j1
          go_wp2_with (at_builtin; refine wpList_append_loop hI2.out rfl _ _ rfl rfl rfl (by have := hR.out.len; omega) ?_; intro gr' cap' W' hI3; replace hI3 := Lib.hid hI3; clear j0 j1)
          go_roundw
          case rel => exact ⟨i + 1, gr', cap', L ++ [(rp, rl)], _, rp, a5, n5, c5, rl, by omega, by go_num, by simp, hI3, hR2⟩
          case measure => simp [intOf]; omega
        · go_simp
          have hx10 := hHeld.alloc hHeld.size (.cells #[.int .i64 0, .slice none 0 0] 29)
          first | have hzA := Holds.new w6 29 #[.int .i64 0, .slice none 0 0] | have hz10 := Holds.new X 29 #[.int .i64 0, .slice none 0 0]
          refine hK.out _ _ (hx10) (fun hHeld => ?_)
          clear hK K
          try simp only [Act.put, List.setIfInBounds_toArray, List.set_cons_zero, List.set_cons_succ]
          refine wpAnyH_ready (rs := [6]) (by kernel_rfl) (by simp) ?_
          refine AllReadyH.cons (o := { dst := some 32, op := Go.Op.call { callee := Go.Callee.value (Go.Operand.func 13), args := #[Go.Operand.tmp 26, Go.Operand.tmp 27, Go.Operand.tmp 31], argTypes := #[26, 29, 31] }, type := 35, pos := "ref.go:83", after := #[{ on := 0, ground := Go.Ground.data }, { on := 1, ground := Go.Ground.data }, { on := 5, ground := Go.Ground.data }], guard := none }) rfl (fun K hK => ?_) AllReadyH.nil
          go_simp
          with_reducible refine (hst.out _ (LF _ hHeld).2 (LF _ hHeld).1.sl).mono ?_
          rintro e w6 ⟨a5, n5, c5, rfl, s5, b5, f5⟩
          replace s5 : SL w6 a5 n5 c5 rl := s5
          have hx6 : Below X.heap.size X w6 := hHeld.trans (b5.mono hHeld.size)
          have hap := apart_new (l := rl) f5 (LF _ hHeld).1.row
          go_simp
          refine hK.out _ _ (hx6) (fun hHeld => ?_)
          clear hK K
          try simp only [Act.put, List.setIfInBounds_toArray, List.set_cons_zero, List.set_cons_succ]
          refine wpAnyH_take (i := 7) (oi := { dst := some 25, op := Go.Op.move (Go.Operand.tmp 32), type := 35, pos := "ref.go:83", after := #[{ on := 6, ground := Go.Ground.data }], guard := none }) (v := ?v11) rfl (by kernel_rfl) (by kernel_rfl) (by kernel_rfl) (fun _ _ _ h => h) (Or.inl ⟨by kernel_rfl, ?h11⟩) (by assumption) ?r11
          case h11 => (intro w hSw; (try dsimp only at hSw); go_simp; try with_reducible rfl)
          try simp only [Act.put, List.setIfInBounds_toArray, List.set_cons_zero, List.set_cons_succ]
          refine wpAnyH_take (i := 8) (oi := { dst := some 33, op := Go.Op.extract (Go.Operand.tmp 25) 0, type := 29, pos := "ref.go:83", after := #[{ on := 7, ground := Go.Ground.data }], guard := none }) (v := ?v12) rfl (by kernel_rfl) (by kernel_rfl) (by kernel_rfl) (fun _ _ _ h => h) (Or.inl ⟨by kernel_rfl, ?h12⟩) (by assumption) ?r12
          case h12 => (intro w hSw; (try dsimp only at hSw); go_simp; try with_reducible rfl)
          try simp only [Act.put, List.setIfInBounds_toArray, List.set_cons_zero, List.set_cons_succ]
          refine wpAnyH_take (i := 9) (oi := { dst := some 34, op := Go.Op.extract (Go.Operand.tmp 25) 1, type := 34, pos := "ref.go:83", after := #[{ on := 7, ground := Go.Ground.data }, { on := 11, ground := Go.Ground.gcOnly Go.Departure.lateStores }], guard := none }) (v := ?v13) rfl (by kernel_rfl) (by kernel_rfl) (by kernel_rfl) (fun _ _ _ h => h) (Or.inl ⟨by kernel_rfl, ?h13⟩) (by assumption) ?r13
          case h13 => (intro w hSw; (try dsimp only at hSw); go_simp; try with_reducible rfl)
          try simp only [Act.put, List.setIfInBounds_toArray, List.set_cons_zero, List.set_cons_succ]
          refine wpAnyH_ready (rs := [11]) (by kernel_rfl) (by simp) ?_
          refine AllReadyH.cons (o := { dst := none, op := Go.Op.store 29 (Go.Operand.tmp 11) (Go.Operand.tmp 33), type := 0, pos := "ref.go:83", after := #[{ on := 10, ground := Go.Ground.data }, { on := 8, ground := Go.Ground.data }, { on := 6, ground := Go.Ground.chain }, { on := 0, ground := Go.Ground.phase }, { on := 1, ground := Go.Ground.phase }, { on := 2, ground := Go.Ground.phase }, { on := 3, ground := Go.Ground.phase }, { on := 4, ground := Go.Ground.phase }, { on := 5, ground := Go.Ground.phase }, { on := 6, ground := Go.Ground.phase }, { on := 7, ground := Go.Ground.phase }, { on := 8, ground := Go.Ground.phase }, { on := 9, ground := Go.Ground.textOnly Go.Departure.lateStores }, { on := 10, ground := Go.Ground.phase }], guard := none }) rfl (fun K hK => ?_) AllReadyH.nil
          first | (have hzB := Holds.below (g := X.heap.size) hz10.drew b5 hz10.lt; have q0 := hzB.cell 0; have q1 := hzB.cell 1; have r0 := hzB.free 0; have r1 := hzB.free 1; simp at q0 q1; go_simp; have hzF := state_set hzB (.int .i64 rp) (.slice a5 n5 c5); have hsF := apart_set s5 (g := X.heap.size) (.inr fun p hp => by have q := f5 p hp; have q2 := hz10.lt; simp at q q2; omega) (.int .i64 rp) (.slice a5 n5 c5); have hx11 := belT hx6 (Nat.le_refl _) (.int .i64 rp) (.slice a5 n5 c5); generalize (w6.setCell ⟨X.heap.size, 0, none⟩ (.int .i64 rp)).setCell ⟨X.heap.size, 1, none⟩ (.slice a5 n5 c5) = w11 at hzF hsF hx11 ⊢; clear q0 q1 r0 r1 hzB hz10) | (go_simp; have hzF := Holds.new w6 29 #[.int .i64 rp, .slice a5 n5 c5]; have hsF := s5.below (box_below w6 #[.int .i64 rp, .slice a5 n5 c5] 29); have hx11 := hx6.alloc hx6.size (.cells #[.int .i64 rp, .slice a5 n5 c5] 29); generalize w6.alloc (.cells #[.int .i64 rp, .slice a5 n5 c5] 29) = w11 at hzF hsF hx11 ⊢; clear hzA)
          refine hK.out _ _ (hx11) (fun hHeld => ?_)
          clear hK K
          try simp only [Act.put, List.setIfInBounds_toArray, List.set_cons_zero, List.set_cons_succ]
          refine wpAnyH_take (i := 12) (oi := { dst := some 12, op := Go.Op.assign (Go.Operand.tmp 34), type := 34, pos := "ref.go:83", after := #[{ on := 9, ground := Go.Ground.data }, { on := 11, ground := Go.Ground.chain }, { on := 0, ground := Go.Ground.phase }, { on := 1, ground := Go.Ground.phase }, { on := 2, ground := Go.Ground.phase }, { on := 3, ground := Go.Ground.phase }, { on := 4, ground := Go.Ground.phase }, { on := 5, ground := Go.Ground.phase }, { on := 6, ground := Go.Ground.phase }, { on := 7, ground := Go.Ground.phase }, { on := 8, ground := Go.Ground.phase }, { on := 9, ground := Go.Ground.phase }, { on := 10, ground := Go.Ground.phase }, { on := 11, ground := Go.Ground.phase }], guard := none }) (v := ?v14) rfl (by kernel_rfl) (by kernel_rfl) (by kernel_rfl) (fun _ _ _ h => h) (Or.inl ⟨by kernel_rfl, ?h14⟩) (by assumption) ?r14
          case h14 => (intro w hSw; (try dsimp only at hSw); go_simp; try with_reducible rfl)
          try simp only [Act.put, List.setIfInBounds_toArray, List.set_cons_zero, List.set_cons_succ]
          refine wpAnyH_done (by kernel_rfl) ?_ _
          have hI2 := Lib.hid (LF _ hHeld).1
          have hYc := Lib.hid hzF
          have s5' := Lib.hid hsF
          have hap' := Lib.hid hap
          clear z0 z1 z2 z3 x0 x1 j0 j1 LF hst hzF hsF hap hHeld s5 b5 f5 hx6 hx10
          have y0 := hYc.out.cell 0
          have y1 := hYc.out.cell 1
          have j0 := hI2.out.box.cell 0
          have j1 := hI2.out.box.cell 1
          have f0 := hI2.out.box.free 0
          have f1 := hI2.out.box.free 1
          simp at y0 y1 j0 j1
          go_upto_region 10 with (fail)
          replace hI2 := Lib.hid (hI2.out.set rp s5'.out hap'.out)
          obtain ⟨V, hV⟩ : ∃ V, V = (w11.setCell ⟨W4.heap.size, 0, none⟩ (.int .i64 rp)).setCell ⟨W4.heap.size, 1, none⟩ (.slice a5 n5 c5) := ⟨_, rfl⟩
          rw [← hV] at hI2 ⊢
          clear hV y0 y1 j0 j1 f0 f1 hYc s5' hap'
          have j0 := hI2.out.box.cell 0
          have j1 := hI2.out.box.cell 1
          simp at j0 j1
          go_wp2_with (at_builtin; refine wpList_append_loop hI2.out rfl _ _ rfl rfl rfl (by have := hR.out.len; omega) ?_; intro gr' cap' W' hI3; replace hI3 := Lib.hid hI3; clear j0 j1)
          go_roundw
          case rel => exact ⟨i + 1, gr', cap', L ++ [(rp, rl)], _, rp, a5, n5, c5, rl, by omega, by go_num, by simp, hI3, hR2⟩
          case measure => simp [intOf]; omega
      · obtain ⟨hs1, hs2⟩ := hstop'.out h0
        have hs2' := Lib.hid hs2
        have hs1' := Lib.hid hs1
        clear hs1 hs2 hnext' hstop'
        refine wp_drawn_on (fun W => Below X.heap.size X W) (by kernel_rfl) ((Below.refl _ _).drew) (fun hHeld => ?_)
        refine wpAnyH_take (i := 0) (oi := { dst := some 26, op := Go.Op.load 26 (Go.Operand.tmp 3), type := 26, pos := "ref.go:83", after := #[], guard := none }) (v := ?v15) rfl (by kernel_rfl) (by kernel_rfl) (by kernel_rfl) (fun _ _ _ h => h) (Or.inl ⟨by kernel_rfl, ?h15⟩) (by assumption) ?r15
        case h15 => (intro w hSw; (try dsimp only at hSw); go_simp; try with_reducible rfl)
        try simp only [Act.put, List.setIfInBounds_toArray, List.set_cons_zero, List.set_cons_succ]
        refine wpAnyH_take (i := 1) (oi := { dst := some 27, op := Go.Op.load 29 (Go.Operand.tmp 8), type := 29, pos := "ref.go:83", after := #[], guard := none }) (v := ?v16) rfl (by kernel_rfl) (by kernel_rfl) (by kernel_rfl) (fun _ _ _ h => h) (Or.inl ⟨by kernel_rfl, ?h16⟩) (by assumption) ?r16
        case h16 => (intro w hSw; (try dsimp only at hSw); go_simp; try with_reducible rfl)
        try simp only [Act.put, List.setIfInBounds_toArray, List.set_cons_zero, List.set_cons_succ]
        refine wpAnyH_take (i := 2) (oi := { dst := some 28, op := Go.Op.move (Go.Operand.tmp 2), type := 41, pos := "ref.go:83", after := #[], guard := none }) (v := ?v17) rfl (by kernel_rfl) (by kernel_rfl) (by kernel_rfl) (fun _ _ _ h => h) (Or.inl ⟨by kernel_rfl, ?h17⟩) (by assumption) ?r17
        case h17 => (intro w hSw; (try dsimp only at hSw); go_simp; try with_reducible rfl)
        try simp only [Act.put, List.setIfInBounds_toArray, List.set_cons_zero, List.set_cons_succ]
        refine wpAnyH_take (i := 3) (oi := { dst := some 29, op := Go.Op.move (Go.Operand.tmp 10), type := 3, pos := "ref.go:83", after := #[], guard := none }) (v := ?v18) rfl (by kernel_rfl) (by kernel_rfl) (by kernel_rfl) (fun _ _ _ h => h) (Or.inl ⟨by kernel_rfl, ?h18⟩) (by assumption) ?r18
        case h18 => (intro w hSw; (try dsimp only at hSw); go_simp; try with_reducible rfl)
        try simp only [Act.put, List.setIfInBounds_toArray, List.set_cons_zero, List.set_cons_succ]
        refine wpAnyH_take (i := 4) (oi := { dst := some 30, op := Go.Op.indexAddr 41 (Go.Operand.tmp 28) (Go.Operand.tmp 29), type := 0, pos := "ref.go:83", after := #[{ on := 2, ground := Go.Ground.data }, { on := 3, ground := Go.Ground.data }], guard := none }) (v := ?v19) rfl (by kernel_rfl) (by kernel_rfl) (by kernel_rfl) (fun _ _ _ h => h) (Or.inl ⟨by kernel_rfl, ?h19⟩) (by assumption) ?r19
        case h19 => (intro w hSw; (try dsimp only at hSw); go_simp; try with_reducible rfl)
        try simp only [Act.put, List.setIfInBounds_toArray, List.set_cons_zero, List.set_cons_succ]
        refine wpAnyH_take (i := 5) (oi := { dst := some 31, op := Go.Op.load 31 (Go.Operand.tmp 30), type := 31, pos := "ref.go:83", after := #[{ on := 4, ground := Go.Ground.data }], guard := none }) (v := ?v20) rfl (by kernel_rfl) (by kernel_rfl) (by kernel_rfl) (fun _ _ _ h => h) (Or.inl ⟨by kernel_rfl, ?h20⟩) (by assumption) ?r20
        case h20 => (intro w hSw; (try dsimp only at hSw); go_simp; try with_reducible rfl)
        try simp only [Act.put, List.setIfInBounds_toArray, List.set_cons_zero, List.set_cons_succ]
        refine wpAnyH_ready (rs := [6, 10]) (by kernel_rfl) (by simp) ?_
        refine AllReadyH.cons (o := { dst := some 32, op := Go.Op.call { callee := Go.Callee.value (Go.Operand.func 13), args := #[Go.Operand.tmp 26, Go.Operand.tmp 27, Go.Operand.tmp 31], argTypes := #[26, 29, 31] }, type := 35, pos := "ref.go:83", after := #[{ on := 0, ground := Go.Ground.data }, { on := 1, ground := Go.Ground.data }, { on := 5, ground := Go.Ground.data }], guard := none }) rfl (fun K hK => ?_) (AllReadyH.cons (o := { dst := some 11, op := Go.Op.alloc 29, type := 0, pos := "ref.go:83", after := #[], guard := none }) rfl (fun K hK => ?_) AllReadyH.nil)
        · go_simp
          with_reducible refine (hst.out _ (LF _ hHeld).2 (LF _ hHeld).1.sl).mono ?_
          rintro e w6 ⟨a5, n5, c5, rfl, s5, b5, f5⟩
          replace s5 : SL w6 a5 n5 c5 rl := s5
          have hx6 : Below X.heap.size X w6 := hHeld.trans (b5.mono hHeld.size)
          have hap := apart_new (l := rl) f5 (LF _ hHeld).1.row
          go_simp
          refine hK.out _ _ (hx6) (fun hHeld => ?_)
          clear hK K
          try simp only [Act.put, List.setIfInBounds_toArray, List.set_cons_zero, List.set_cons_succ]
          refine wpAnyH_take (i := 7) (oi := { dst := some 25, op := Go.Op.move (Go.Operand.tmp 32), type := 35, pos := "ref.go:83", after := #[{ on := 6, ground := Go.Ground.data }], guard := none }) (v := ?v21) rfl (by kernel_rfl) (by kernel_rfl) (by kernel_rfl) (fun _ _ _ h => h) (Or.inl ⟨by kernel_rfl, ?h21⟩) (by assumption) ?r21
          case h21 => (intro w hSw; (try dsimp only at hSw); go_simp; try with_reducible rfl)
          try simp only [Act.put, List.setIfInBounds_toArray, List.set_cons_zero, List.set_cons_succ]
          refine wpAnyH_take (i := 8) (oi := { dst := some 33, op := Go.Op.extract (Go.Operand.tmp 25) 0, type := 29, pos := "ref.go:83", after := #[{ on := 7, ground := Go.Ground.data }], guard := none }) (v := ?v22) rfl (by kernel_rfl) (by kernel_rfl) (by kernel_rfl) (fun _ _ _ h => h) (Or.inl ⟨by kernel_rfl, ?h22⟩) (by assumption) ?r22
          case h22 => (intro w hSw; (try dsimp only at hSw); go_simp; try with_reducible rfl)
          try simp only [Act.put, List.setIfInBounds_toArray, List.set_cons_zero, List.set_cons_succ]
          refine wpAnyH_take (i := 9) (oi := { dst := some 34, op := Go.Op.extract (Go.Operand.tmp 25) 1, type := 34, pos := "ref.go:83", after := #[{ on := 7, ground := Go.Ground.data }, { on := 11, ground := Go.Ground.gcOnly Go.Departure.lateStores }], guard := none }) (v := ?v23) rfl (by kernel_rfl) (by kernel_rfl) (by kernel_rfl) (fun _ _ _ h => h) (Or.inl ⟨by kernel_rfl, ?h23⟩) (by assumption) ?r23
          case h23 => (intro w hSw; (try dsimp only at hSw); go_simp; try with_reducible rfl)
          try simp only [Act.put, List.setIfInBounds_toArray, List.set_cons_zero, List.set_cons_succ]
          refine wpAnyH_ready (rs := [10]) (by kernel_rfl) (by simp) ?_
          refine AllReadyH.cons (o := { dst := some 11, op := Go.Op.alloc 29, type := 0, pos := "ref.go:83", after := #[], guard := none }) rfl (fun K hK => ?_) AllReadyH.nil
          go_simp
          have hx10 := hHeld.alloc hHeld.size (.cells #[.int .i64 0, .slice none 0 0] 29)
          first | have hzA := Holds.new w6 29 #[.int .i64 0, .slice none 0 0] | have hz10 := Holds.new X 29 #[.int .i64 0, .slice none 0 0]
          refine hK.out _ _ (hx10) (fun hHeld => ?_)
          clear hK K
          try simp only [Act.put, List.setIfInBounds_toArray, List.set_cons_zero, List.set_cons_succ]
          refine wpAnyH_ready (rs := [11]) (by kernel_rfl) (by simp) ?_
          refine AllReadyH.cons (o := { dst := none, op := Go.Op.store 29 (Go.Operand.tmp 11) (Go.Operand.tmp 33), type := 0, pos := "ref.go:83", after := #[{ on := 10, ground := Go.Ground.data }, { on := 8, ground := Go.Ground.data }, { on := 6, ground := Go.Ground.chain }, { on := 0, ground := Go.Ground.phase }, { on := 1, ground := Go.Ground.phase }, { on := 2, ground := Go.Ground.phase }, { on := 3, ground := Go.Ground.phase }, { on := 4, ground := Go.Ground.phase }, { on := 5, ground := Go.Ground.phase }, { on := 6, ground := Go.Ground.phase }, { on := 7, ground := Go.Ground.phase }, { on := 8, ground := Go.Ground.phase }, { on := 9, ground := Go.Ground.textOnly Go.Departure.lateStores }, { on := 10, ground := Go.Ground.phase }], guard := none }) rfl (fun K hK => ?_) AllReadyH.nil
          first | (have hzB := Holds.below (g := X.heap.size) hz10.drew b5 hz10.lt; have q0 := hzB.cell 0; have q1 := hzB.cell 1; have r0 := hzB.free 0; have r1 := hzB.free 1; simp at q0 q1; go_simp; have hzF := state_set hzB (.int .i64 rp) (.slice a5 n5 c5); have hsF := apart_set s5 (g := X.heap.size) (.inr fun p hp => by have q := f5 p hp; have q2 := hz10.lt; simp at q q2; omega) (.int .i64 rp) (.slice a5 n5 c5); have hx11 := belT hx6 (Nat.le_refl _) (.int .i64 rp) (.slice a5 n5 c5); generalize (w6.setCell ⟨X.heap.size, 0, none⟩ (.int .i64 rp)).setCell ⟨X.heap.size, 1, none⟩ (.slice a5 n5 c5) = w11 at hzF hsF hx11 ⊢; clear q0 q1 r0 r1 hzB hz10) | (go_simp; have hzF := Holds.new w6 29 #[.int .i64 rp, .slice a5 n5 c5]; have hsF := s5.below (box_below w6 #[.int .i64 rp, .slice a5 n5 c5] 29); have hx11 := hx6.alloc hx6.size (.cells #[.int .i64 rp, .slice a5 n5 c5] 29); generalize w6.alloc (.cells #[.int .i64 rp, .slice a5 n5 c5] 29) = w11 at hzF hsF hx11 ⊢; clear hzA)
          refine hK.out _ _ (hx11) (fun hHeld => ?_)
          clear hK K
          try simp only [Act.put, List.setIfInBounds_toArray, List.set_cons_zero, List.set_cons_succ]
          refine wpAnyH_take (i := 12) (oi := { dst := some 12, op := Go.Op.assign (Go.Operand.tmp 34), type := 34, pos := "ref.go:83", after := #[{ on := 9, ground := Go.Ground.data }, { on := 11, ground := Go.Ground.chain }, { on := 0, ground := Go.Ground.phase }, { on := 1, ground := Go.Ground.phase }, { on := 2, ground := Go.Ground.phase }, { on := 3, ground := Go.Ground.phase }, { on := 4, ground := Go.Ground.phase }, { on := 5, ground := Go.Ground.phase }, { on := 6, ground := Go.Ground.phase }, { on := 7, ground := Go.Ground.phase }, { on := 8, ground := Go.Ground.phase }, { on := 9, ground := Go.Ground.phase }, { on := 10, ground := Go.Ground.phase }, { on := 11, ground := Go.Ground.phase }], guard := none }) (v := ?v24) rfl (by kernel_rfl) (by kernel_rfl) (by kernel_rfl) (fun _ _ _ h => h) (Or.inl ⟨by kernel_rfl, ?h24⟩) (by assumption) ?r24
          case h24 => (intro w hSw; (try dsimp only at hSw); go_simp; try with_reducible rfl)
          try simp only [Act.put, List.setIfInBounds_toArray, List.set_cons_zero, List.set_cons_succ]
          refine wpAnyH_done (by kernel_rfl) ?_ _
          have hI2 := Lib.hid (LF _ hHeld).1
          have hYc := Lib.hid hzF
          have s5' := Lib.hid hsF
          have hap' := Lib.hid hap
          clear z0 z1 z2 z3 x0 x1 j0 j1 LF hst hzF hsF hap hHeld s5 b5 f5 hx6 hx10
          have hsb := Lib.hid (sts_row hI2.out.row)
          go_wp2
          exact bodyPost_ret (results_tmp2 rfl _ _ _) rfl ⟨_, _, _, by rw [hs2'.out]; rfl, by rw [hs1'.out]; exact hsb.out, BL.out.trans (hI2.out.row.bel.mono BL.out.size)⟩
        · go_simp
          have hx10 := hHeld.alloc hHeld.size (.cells #[.int .i64 0, .slice none 0 0] 29)
          first | have hzA := Holds.new w6 29 #[.int .i64 0, .slice none 0 0] | have hz10 := Holds.new X 29 #[.int .i64 0, .slice none 0 0]
          refine hK.out _ _ (hx10) (fun hHeld => ?_)
          clear hK K
          try simp only [Act.put, List.setIfInBounds_toArray, List.set_cons_zero, List.set_cons_succ]
          refine wpAnyH_ready (rs := [6]) (by kernel_rfl) (by simp) ?_
          refine AllReadyH.cons (o := { dst := some 32, op := Go.Op.call { callee := Go.Callee.value (Go.Operand.func 13), args := #[Go.Operand.tmp 26, Go.Operand.tmp 27, Go.Operand.tmp 31], argTypes := #[26, 29, 31] }, type := 35, pos := "ref.go:83", after := #[{ on := 0, ground := Go.Ground.data }, { on := 1, ground := Go.Ground.data }, { on := 5, ground := Go.Ground.data }], guard := none }) rfl (fun K hK => ?_) AllReadyH.nil
          go_simp
          with_reducible refine (hst.out _ (LF _ hHeld).2 (LF _ hHeld).1.sl).mono ?_
          rintro e w6 ⟨a5, n5, c5, rfl, s5, b5, f5⟩
          replace s5 : SL w6 a5 n5 c5 rl := s5
          have hx6 : Below X.heap.size X w6 := hHeld.trans (b5.mono hHeld.size)
          have hap := apart_new (l := rl) f5 (LF _ hHeld).1.row
          go_simp
          refine hK.out _ _ (hx6) (fun hHeld => ?_)
          clear hK K
          try simp only [Act.put, List.setIfInBounds_toArray, List.set_cons_zero, List.set_cons_succ]
          refine wpAnyH_take (i := 7) (oi := { dst := some 25, op := Go.Op.move (Go.Operand.tmp 32), type := 35, pos := "ref.go:83", after := #[{ on := 6, ground := Go.Ground.data }], guard := none }) (v := ?v25) rfl (by kernel_rfl) (by kernel_rfl) (by kernel_rfl) (fun _ _ _ h => h) (Or.inl ⟨by kernel_rfl, ?h25⟩) (by assumption) ?r25
          case h25 => (intro w hSw; (try dsimp only at hSw); go_simp; try with_reducible rfl)
          try simp only [Act.put, List.setIfInBounds_toArray, List.set_cons_zero, List.set_cons_succ]
          refine wpAnyH_take (i := 8) (oi := { dst := some 33, op := Go.Op.extract (Go.Operand.tmp 25) 0, type := 29, pos := "ref.go:83", after := #[{ on := 7, ground := Go.Ground.data }], guard := none }) (v := ?v26) rfl (by kernel_rfl) (by kernel_rfl) (by kernel_rfl) (fun _ _ _ h => h) (Or.inl ⟨by kernel_rfl, ?h26⟩) (by assumption) ?r26
          case h26 => (intro w hSw; (try dsimp only at hSw); go_simp; try with_reducible rfl)
          try simp only [Act.put, List.setIfInBounds_toArray, List.set_cons_zero, List.set_cons_succ]
          refine wpAnyH_take (i := 9) (oi := { dst := some 34, op := Go.Op.extract (Go.Operand.tmp 25) 1, type := 34, pos := "ref.go:83", after := #[{ on := 7, ground := Go.Ground.data }, { on := 11, ground := Go.Ground.gcOnly Go.Departure.lateStores }], guard := none }) (v := ?v27) rfl (by kernel_rfl) (by kernel_rfl) (by kernel_rfl) (fun _ _ _ h => h) (Or.inl ⟨by kernel_rfl, ?h27⟩) (by assumption) ?r27
          case h27 => (intro w hSw; (try dsimp only at hSw); go_simp; try with_reducible rfl)
          try simp only [Act.put, List.setIfInBounds_toArray, List.set_cons_zero, List.set_cons_succ]
          refine wpAnyH_ready (rs := [11]) (by kernel_rfl) (by simp) ?_
          refine AllReadyH.cons (o := { dst := none, op := Go.Op.store 29 (Go.Operand.tmp 11) (Go.Operand.tmp 33), type := 0, pos := "ref.go:83", after := #[{ on := 10, ground := Go.Ground.data }, { on := 8, ground := Go.Ground.data }, { on := 6, ground := Go.Ground.chain }, { on := 0, ground := Go.Ground.phase }, { on := 1, ground := Go.Ground.phase }, { on := 2, ground := Go.Ground.phase }, { on := 3, ground := Go.Ground.phase }, { on := 4, ground := Go.Ground.phase }, { on := 5, ground := Go.Ground.phase }, { on := 6, ground := Go.Ground.phase }, { on := 7, ground := Go.Ground.phase }, { on := 8, ground := Go.Ground.phase }, { on := 9, ground := Go.Ground.textOnly Go.Departure.lateStores }, { on := 10, ground := Go.Ground.phase }], guard := none }) rfl (fun K hK => ?_) AllReadyH.nil
          first | (have hzB := Holds.below (g := X.heap.size) hz10.drew b5 hz10.lt; have q0 := hzB.cell 0; have q1 := hzB.cell 1; have r0 := hzB.free 0; have r1 := hzB.free 1; simp at q0 q1; go_simp; have hzF := state_set hzB (.int .i64 rp) (.slice a5 n5 c5); have hsF := apart_set s5 (g := X.heap.size) (.inr fun p hp => by have q := f5 p hp; have q2 := hz10.lt; simp at q q2; omega) (.int .i64 rp) (.slice a5 n5 c5); have hx11 := belT hx6 (Nat.le_refl _) (.int .i64 rp) (.slice a5 n5 c5); generalize (w6.setCell ⟨X.heap.size, 0, none⟩ (.int .i64 rp)).setCell ⟨X.heap.size, 1, none⟩ (.slice a5 n5 c5) = w11 at hzF hsF hx11 ⊢; clear q0 q1 r0 r1 hzB hz10) | (go_simp; have hzF := Holds.new w6 29 #[.int .i64 rp, .slice a5 n5 c5]; have hsF := s5.below (box_below w6 #[.int .i64 rp, .slice a5 n5 c5] 29); have hx11 := hx6.alloc hx6.size (.cells #[.int .i64 rp, .slice a5 n5 c5] 29); generalize w6.alloc (.cells #[.int .i64 rp, .slice a5 n5 c5] 29) = w11 at hzF hsF hx11 ⊢; clear hzA)
          refine hK.out _ _ (hx11) (fun hHeld => ?_)
          clear hK K
          try simp only [Act.put, List.setIfInBounds_toArray, List.set_cons_zero, List.set_cons_succ]
          refine wpAnyH_take (i := 12) (oi := { dst := some 12, op := Go.Op.assign (Go.Operand.tmp 34), type := 34, pos := "ref.go:83", after := #[{ on := 9, ground := Go.Ground.data }, { on := 11, ground := Go.Ground.chain }, { on := 0, ground := Go.Ground.phase }, { on := 1, ground := Go.Ground.phase }, { on := 2, ground := Go.Ground.phase }, { on := 3, ground := Go.Ground.phase }, { on := 4, ground := Go.Ground.phase }, { on := 5, ground := Go.Ground.phase }, { on := 6, ground := Go.Ground.phase }, { on := 7, ground := Go.Ground.phase }, { on := 8, ground := Go.Ground.phase }, { on := 9, ground := Go.Ground.phase }, { on := 10, ground := Go.Ground.phase }, { on := 11, ground := Go.Ground.phase }], guard := none }) (v := ?v28) rfl (by kernel_rfl) (by kernel_rfl) (by kernel_rfl) (fun _ _ _ h => h) (Or.inl ⟨by kernel_rfl, ?h28⟩) (by assumption) ?r28
          case h28 => (intro w hSw; (try dsimp only at hSw); go_simp; try with_reducible rfl)
          try simp only [Act.put, List.setIfInBounds_toArray, List.set_cons_zero, List.set_cons_succ]
          refine wpAnyH_done (by kernel_rfl) ?_ _
          have hI2 := Lib.hid (LF _ hHeld).1
          have hYc := Lib.hid hzF
          have s5' := Lib.hid hsF
          have hap' := Lib.hid hap
          clear z0 z1 z2 z3 x0 x1 j0 j1 LF hst hzF hsF hap hHeld s5 b5 f5 hx6 hx10
          have hsb := Lib.hid (sts_row hI2.out.row)
          go_wp2
          exact bodyPost_ret (results_tmp2 rfl _ _ _) rfl ⟨_, _, _, by rw [hs2'.out]; rfl, by rw [hs1'.out]; exact hsb.out, BL.out.trans (hI2.out.row.bel.mono BL.out.size)⟩
    · obtain ⟨hs1, hs2⟩ := run_end hR.out (show i = ch.length by rw [← C.out.len]; omega)
      have hsb := Lib.hid (sts_row hI.out.row)
      have hs2' := Lib.hid hs2
      have hs1' := Lib.hid hs1
      clear hs1 hs2
      go_wp2
      exact bodyPost_ret (results_tmp2 rfl _ _ _) rfl ⟨_, _, _, by rw [hs2'.out]; rfl, by rw [hs1'.out]; exact hsb.out, BL.out.trans (hI.out.row.bel.mono BL.out.size)⟩
end Go.Proofs.YtjdfjekonnkglaaDoor
namespace Go.Proofs.YtjdfjekonnkglaaDoor
open Go.RowKit
set_option linter.unusedVariables false
def ChSl (w : World) (r : Option Addr) (len cap : Nat) : Prop := ∃ l, RO chC w r len cap l
theorem choice_row {H : Type} {enc : TypeId × Value → H} {w : World} {fuel : Nat} {r : Option Addr} {len cap : Nat} {x : DataW H × List MemPlace}
    (h : DataW.trod enc Tryd.prog w 0 (fun _ => true) true fuel 41 [.slice r len cap] = some x) : ChSl w r len cap := by
  obtain ⟨h1, h2, h3⟩ := struct_row Tryd.underlying41 Tryd.underlying31 (by kernel_rfl) (by kernel_rfl) (by decide) h
  obtain ⟨l, hl, _⟩ := row_of (w := w) (r := r) (len := len) (cap := cap) chC 2 chC_len (by decide) (fun _ => True) (0, 0) h1 h2 (by
    rcases h3 with rfl | ⟨b, off, rfl, hB, hc⟩
    · exact .inl rfl
    · refine .inr ⟨b, off, rfl, hB, fun i hi => ?_⟩
      obtain ⟨v0, y0, n0, c0, t0⟩ := hc i hi 0 _ rfl
      obtain ⟨v1, y1, n1, c1, t1⟩ := hc i hi 1 _ rfl
      obtain ⟨k0, e0, _, w0⟩ := DataW.trod_int Tryd.underlying3 t0
      obtain ⟨k1, e1, _, w1⟩ := DataW.trod_int Tryd.underlying3 t1
      simp at e0 e1
      subst e0 e1
      refine ⟨(k0, k1), trivial, fun j hj => ?_⟩
      match j, hj with
      | 0, _ => exact c0
      | 1, _ => exact c1)
  exact ⟨l, hl⟩
end Go.Proofs.YtjdfjekonnkglaaDoor
namespace Go.Proofs.YtjdfjekonnkglaaDoor
open Go.RowKit
set_option linter.unusedVariables false
set_option linter.unusedSimpArgs false
structure LRn (A : PD) (l1 : List Int) (ch : List (Int × Int)) (w : World) (pnm : ByteArray) (pa1 : Option Addr) (pn1 pc1 : Nat) (pa2 : Option Addr) (pn2 pc2 : Nat) (pa3 : Option Addr) (pn3 pc3 : Nat) (a1 : Option Addr) (n1 c1 : Nat) (ca : Option Addr) (cn cc : Nat) (W : World) : Prop where
  pr : PrA W ⟨pnm, pa1, pn1, pc1, pa2, pn2, pc2, pa3, pn3, pc3⟩ A
  s1 : SL W a1 n1 c1 l1
  ro : RO chC W ca cn cc ch
  b0 : Holds W w.heap.size 26 #[.string pnm, .slice pa1 pn1 pc1, .slice pa2 pn2 pc2, .slice pa3 pn3 pc3]
  bel : Below w.heap.size w W
theorem LRn.below {A : PD} {l1 : List Int} {ch : List (Int × Int)} {w : World} {pnm : ByteArray} {pa1 : Option Addr} {pn1 pc1 : Nat} {pa2 : Option Addr} {pn2 pc2 : Nat} {pa3 : Option Addr} {pn3 pc3 : Nat} {a1 : Option Addr} {n1 c1 : Nat} {ca : Option Addr} {cn cc : Nat} {W W' : World} (h : LRn A l1 ch w pnm pa1 pn1 pc1 pa2 pn2 pc2 pa3 pn3 pc3 a1 n1 c1 ca cn cc W) (hb : Below W.heap.size W W') : LRn A l1 ch w pnm pa1 pn1 pc1 pa2 pn2 pc2 pa3 pn3 pc3 a1 n1 c1 ca cn cc W' :=
  ⟨h.pr.below hb, h.s1.below hb, h.ro.below hb, h.b0.below hb h.b0.lt, h.bel.trans (hb.mono h.bel.size)⟩
theorem same_self (p : Int) (l : List Int) : sameT p p l l = true := by simp [sameT]
theorem bigR_no {D : PD} {n cn : Nat} (h : bigR D n cn = false) : n ≤ 20 ∧ cn ≤ 300 := by
  unfold bigR at h
  simp at h
  omega
set_option maxRecDepth 100000 in
set_option maxHeartbeats 8000000 in
theorem rruns_big (pnm : ByteArray) (pa1 : Option Addr) (pn1 pc1 : Nat) (pa2 : Option Addr) (pn2 pc2 : Nat) (pa3 : Option Addr) (pn3 pc3 : Nat) (A : PD) (hA : PW A) (a1 : Option Addr) (n1 c1 : Nat) (l1 : List Int) (ca : Option Addr) (cn cc : Nat) (ch : List (Int × Int)) (w : World) (h : PrA w ⟨pnm, pa1, pn1, pc1, pa2, pn2, pc2, pa3, pn3, pc3⟩ A) (h1 : SL w a1 n1 c1 l1) (h2 : RO chC w ca cn cc ch) (hg : bigR A n1 cn = true) :
    Calls Tryd.prog 4 #[.agg #[.string pnm, .slice pa1 pn1 pc1, .slice pa2 pn2 pc2, .slice pa3 pn3 pc3], .slice a1 n1 c1, .slice ca cn cc] w (Gives (.bool true) w) := by
  obtain ⟨u0, hu0⟩ : ∃ u0, u0 = w.alloc (.cells #[.string pnm, .slice pa1 pn1 pc1, .slice pa2 pn2 pc2, .slice pa3 pn3 pc3] 26) := ⟨_, rfl⟩
  have b0 : Below w.heap.size w u0 := by rw [hu0]; exact box_below _ _ _
  have L0 : LRn A l1 ch w pnm pa1 pn1 pc1 pa2 pn2 pc2 pa3 pn3 pc3 a1 n1 c1 ca cn cc u0 := ⟨h.below b0, h1.below b0, h2.below b0, by rw [hu0]; exact Holds.new w _ _, b0⟩
  have L := Lib.hid L0
  have m1 : Hid (n1 ≤ 9223372036854775807) := Lib.hid (by have := h1.max; have := h1.cap; omega)
  have m2 : Hid (cn ≤ 9223372036854775807) := Lib.hid h2.max'
  have hvl : Hid (pn1 = A.vars.length) := Lib.hid h.vars.len
  have hu0' := Lib.hid hu0
  have QL := Lib.hid rlives_any
  have qA := Lib.hid (fun W (h : LRn A l1 ch w pnm pa1 pn1 pc1 pa2 pn2 pc2 pa3 pn3 pc3 a1 n1 c1 ca cn cc W) => rlarge_any pnm pa1 pn1 pc1 pa2 pn2 pc2 pa3 pn3 pc3 A hA a1 n1 c1 ca cn cc m1.out m2.out W h.pr)
  have qk := Lib.hid (fun W (h : LRn A l1 ch w pnm pa1 pn1 pc1 pa2 pn2 pc2 pa3 pn3 pc3 a1 n1 c1 ca cn cc W) => rcheckP_any ⟨pnm, pa1, pn1, pc1, pa2, pn2, pc2, pa3, pn3, pc3⟩ A hA W h.pr)
  clear hu0 b0 L0 h h1 h2
  rw [hg] at qA
  have kx0 := L.out.b0.cell 0
  have kx1 := L.out.b0.cell 1
  have kx2 := L.out.b0.cell 2
  have kx3 := L.out.b0.cell 3
  simp at kx0 kx1 kx2 kx3
  rw [hu0'.out] at kx0 kx1 kx2 kx3
  go_enter Tryd.func4, Tryd.ntmps4
  go_wp2_with fail
  rw [← hu0'.out]
  with_reducible refine (qA.out _ L.out).mono ?_
  rintro e u1 ⟨rfl, bu1⟩
  replace L := Lib.hid (L.out.below bu1)
  clear bu1
  clear kx0 kx1 kx2 kx3
  go_wp2_with fail
  with_reducible refine (QL.out _).mono ?_
  rintro e u2 ⟨rfl, bu2⟩
  replace L := Lib.hid (L.out.below bu2)
  clear bu2
  go_wp2
  go_ret
  exact ⟨rfl, L.out.bel⟩
set_option maxRecDepth 100000 in
set_option maxHeartbeats 8000000 in
theorem rruns_no (pnm : ByteArray) (pa1 : Option Addr) (pn1 pc1 : Nat) (pa2 : Option Addr) (pn2 pc2 : Nat) (pa3 : Option Addr) (pn3 pc3 : Nat) (A : PD) (hA : PW A) (a1 : Option Addr) (n1 c1 : Nat) (l1 : List Int) (ca : Option Addr) (cn cc : Nat) (ch : List (Int × Int)) (w : World) (h : PrA w ⟨pnm, pa1, pn1, pc1, pa2, pn2, pc2, pa3, pn3, pc3⟩ A) (h1 : SL w a1 n1 c1 l1) (h2 : RO chC w ca cn cc ch) (hg : bigR A n1 cn = false) (hp : progB A = false) :
    Calls Tryd.prog 4 #[.agg #[.string pnm, .slice pa1 pn1 pc1, .slice pa2 pn2 pc2, .slice pa3 pn3 pc3], .slice a1 n1 c1, .slice ca cn cc] w (Gives (.bool true) w) := by
  obtain ⟨u0, hu0⟩ : ∃ u0, u0 = w.alloc (.cells #[.string pnm, .slice pa1 pn1 pc1, .slice pa2 pn2 pc2, .slice pa3 pn3 pc3] 26) := ⟨_, rfl⟩
  have b0 : Below w.heap.size w u0 := by rw [hu0]; exact box_below _ _ _
  have L0 : LRn A l1 ch w pnm pa1 pn1 pc1 pa2 pn2 pc2 pa3 pn3 pc3 a1 n1 c1 ca cn cc u0 := ⟨h.below b0, h1.below b0, h2.below b0, by rw [hu0]; exact Holds.new w _ _, b0⟩
  have L := Lib.hid L0
  have m1 : Hid (n1 ≤ 9223372036854775807) := Lib.hid (by have := h1.max; have := h1.cap; omega)
  have m2 : Hid (cn ≤ 9223372036854775807) := Lib.hid h2.max'
  have hvl : Hid (pn1 = A.vars.length) := Lib.hid h.vars.len
  have hu0' := Lib.hid hu0
  have QL := Lib.hid rlives_any
  have qA := Lib.hid (fun W (h : LRn A l1 ch w pnm pa1 pn1 pc1 pa2 pn2 pc2 pa3 pn3 pc3 a1 n1 c1 ca cn cc W) => rlarge_any pnm pa1 pn1 pc1 pa2 pn2 pc2 pa3 pn3 pc3 A hA a1 n1 c1 ca cn cc m1.out m2.out W h.pr)
  have qk := Lib.hid (fun W (h : LRn A l1 ch w pnm pa1 pn1 pc1 pa2 pn2 pc2 pa3 pn3 pc3 a1 n1 c1 ca cn cc W) => rcheckP_any ⟨pnm, pa1, pn1, pc1, pa2, pn2, pc2, pa3, pn3, pc3⟩ A hA W h.pr)
  clear hu0 b0 L0 h h1 h2
  obtain ⟨hn20, hc300⟩ := bigR_no hg
  have qt := Lib.hid (fun W (h : LRn A l1 ch w pnm pa1 pn1 pc1 pa2 pn2 pc2 pa3 pn3 pc3 a1 n1 c1 ca cn cc W) => run_any pnm pa1 pn1 pc1 pa2 pn2 pc2 pa3 pn3 pc3 A a1 n1 c1 l1 ca cn cc ch W h.pr h.s1 h.ro (by omega) (by omega))
  rw [hg] at qA
  have e1 : runT A l1 ch = ([], 110) := by unfold runT; rw [hp]; rfl
  rw [e1] at qt
  rw [hp] at qk
  clear e1
  have kx0 := L.out.b0.cell 0
  have kx1 := L.out.b0.cell 1
  have kx2 := L.out.b0.cell 2
  have kx3 := L.out.b0.cell 3
  simp at kx0 kx1 kx2 kx3
  rw [hu0'.out] at kx0 kx1 kx2 kx3
  go_enter Tryd.func4, Tryd.ntmps4
  go_wp2_with fail
  rw [← hu0'.out]
  with_reducible refine (qA.out _ L.out).mono ?_
  rintro e u1 ⟨rfl, bu1⟩
  replace L := Lib.hid (L.out.below bu1)
  clear bu1
  clear kx0 kx1 kx2 kx3
  have kx0 := L.out.b0.cell 0
  have kx1 := L.out.b0.cell 1
  have kx2 := L.out.b0.cell 2
  have kx3 := L.out.b0.cell 3
  simp at kx0 kx1 kx2 kx3
  go_wp2_with fail
  with_reducible refine (qt.out _ L.out).mono ?_
  rintro e u2 ⟨al, nl, cl, rfl, hst, bu2⟩
  replace L := Lib.hid (L.out.below bu2)
  have T := Lib.hid hst
  clear hst
  clear bu2
  clear kx0 kx1 kx2 kx3
  go_wp2_with fail
  with_reducible refine (QL.out _).mono ?_
  rintro e u3 ⟨rfl, bu3⟩
  replace L := Lib.hid (L.out.below bu3)
  replace T := Lib.hid (T.out.below bu3)
  clear bu3
  have kx0 := L.out.b0.cell 0
  have kx1 := L.out.b0.cell 1
  have kx2 := L.out.b0.cell 2
  have kx3 := L.out.b0.cell 3
  simp at kx0 kx1 kx2 kx3
  go_wp2_with fail
  with_reducible refine (qk.out _ L.out).mono ?_
  rintro e u4 ⟨rfl, bu4⟩
  replace L := Lib.hid (L.out.below bu4)
  replace T := Lib.hid (T.out.below bu4)
  clear bu4
  clear kx0 kx1 kx2 kx3
  obtain rfl : nl = 0 := T.out.1
  go_wp2
  go_ret
  exact ⟨rfl, L.out.bel⟩
set_option maxRecDepth 100000 in
set_option maxHeartbeats 8000000 in
theorem rruns_bad (pnm : ByteArray) (pa1 : Option Addr) (pn1 pc1 : Nat) (pa2 : Option Addr) (pn2 pc2 : Nat) (pa3 : Option Addr) (pn3 pc3 : Nat) (A : PD) (hA : PW A) (a1 : Option Addr) (n1 c1 : Nat) (l1 : List Int) (ca : Option Addr) (cn cc : Nat) (ch : List (Int × Int)) (w : World) (h : PrA w ⟨pnm, pa1, pn1, pc1, pa2, pn2, pc2, pa3, pn3, pc3⟩ A) (h1 : SL w a1 n1 c1 l1) (h2 : RO chC w ca cn cc ch) (hg : bigR A n1 cn = false) (hp : progB A = true) (hv : valsB l1 A.vars.length = false) :
    Calls Tryd.prog 4 #[.agg #[.string pnm, .slice pa1 pn1 pc1, .slice pa2 pn2 pc2, .slice pa3 pn3 pc3], .slice a1 n1 c1, .slice ca cn cc] w (Gives (.bool true) w) := by
  obtain ⟨u0, hu0⟩ : ∃ u0, u0 = w.alloc (.cells #[.string pnm, .slice pa1 pn1 pc1, .slice pa2 pn2 pc2, .slice pa3 pn3 pc3] 26) := ⟨_, rfl⟩
  have b0 : Below w.heap.size w u0 := by rw [hu0]; exact box_below _ _ _
  have L0 : LRn A l1 ch w pnm pa1 pn1 pc1 pa2 pn2 pc2 pa3 pn3 pc3 a1 n1 c1 ca cn cc u0 := ⟨h.below b0, h1.below b0, h2.below b0, by rw [hu0]; exact Holds.new w _ _, b0⟩
  have L := Lib.hid L0
  have m1 : Hid (n1 ≤ 9223372036854775807) := Lib.hid (by have := h1.max; have := h1.cap; omega)
  have m2 : Hid (cn ≤ 9223372036854775807) := Lib.hid h2.max'
  have hvl : Hid (pn1 = A.vars.length) := Lib.hid h.vars.len
  have hu0' := Lib.hid hu0
  have QL := Lib.hid rlives_any
  have qA := Lib.hid (fun W (h : LRn A l1 ch w pnm pa1 pn1 pc1 pa2 pn2 pc2 pa3 pn3 pc3 a1 n1 c1 ca cn cc W) => rlarge_any pnm pa1 pn1 pc1 pa2 pn2 pc2 pa3 pn3 pc3 A hA a1 n1 c1 ca cn cc m1.out m2.out W h.pr)
  have qk := Lib.hid (fun W (h : LRn A l1 ch w pnm pa1 pn1 pc1 pa2 pn2 pc2 pa3 pn3 pc3 a1 n1 c1 ca cn cc W) => rcheckP_any ⟨pnm, pa1, pn1, pc1, pa2, pn2, pc2, pa3, pn3, pc3⟩ A hA W h.pr)
  clear hu0 b0 L0 h h1 h2
  obtain ⟨hn20, hc300⟩ := bigR_no hg
  have qt := Lib.hid (fun W (h : LRn A l1 ch w pnm pa1 pn1 pc1 pa2 pn2 pc2 pa3 pn3 pc3 a1 n1 c1 ca cn cc W) => run_any pnm pa1 pn1 pc1 pa2 pn2 pc2 pa3 pn3 pc3 A a1 n1 c1 l1 ca cn cc ch W h.pr h.s1 h.ro (by omega) (by omega))
  rw [hg] at qA
  have e1 : runT A l1 ch = ([], 1) := by unfold runT; rw [hp, hv]; rfl
  rw [e1] at qt
  rw [hp] at qk
  clear e1
  have kx0 := L.out.b0.cell 0
  have kx1 := L.out.b0.cell 1
  have kx2 := L.out.b0.cell 2
  have kx3 := L.out.b0.cell 3
  simp at kx0 kx1 kx2 kx3
  rw [hu0'.out] at kx0 kx1 kx2 kx3
  go_enter Tryd.func4, Tryd.ntmps4
  go_wp2_with fail
  rw [← hu0'.out]
  with_reducible refine (qA.out _ L.out).mono ?_
  rintro e u1 ⟨rfl, bu1⟩
  replace L := Lib.hid (L.out.below bu1)
  clear bu1
  clear kx0 kx1 kx2 kx3
  have kx0 := L.out.b0.cell 0
  have kx1 := L.out.b0.cell 1
  have kx2 := L.out.b0.cell 2
  have kx3 := L.out.b0.cell 3
  simp at kx0 kx1 kx2 kx3
  go_wp2_with fail
  with_reducible refine (qt.out _ L.out).mono ?_
  rintro e u2 ⟨al, nl, cl, rfl, hst, bu2⟩
  replace L := Lib.hid (L.out.below bu2)
  have T := Lib.hid hst
  clear hst
  clear bu2
  clear kx0 kx1 kx2 kx3
  go_wp2_with fail
  with_reducible refine (QL.out _).mono ?_
  rintro e u3 ⟨rfl, bu3⟩
  replace L := Lib.hid (L.out.below bu3)
  replace T := Lib.hid (T.out.below bu3)
  clear bu3
  have kx0 := L.out.b0.cell 0
  have kx1 := L.out.b0.cell 1
  have kx2 := L.out.b0.cell 2
  have kx3 := L.out.b0.cell 3
  simp at kx0 kx1 kx2 kx3
  go_wp2_with fail
  with_reducible refine (qk.out _ L.out).mono ?_
  rintro e u4 ⟨rfl, bu4⟩
  replace L := Lib.hid (L.out.below bu4)
  replace T := Lib.hid (T.out.below bu4)
  clear bu4
  clear kx0 kx1 kx2 kx3
  obtain rfl : nl = 0 := T.out.1
  have qv := Lib.hid (rVals_any a1 n1 c1 pn1 l1 u4 L.out.s1)
  rw [hvl.out, hv] at qv
  rw [← hvl.out] at qv
  have kx0 := L.out.b0.cell 0
  have kx1 := L.out.b0.cell 1
  have kx2 := L.out.b0.cell 2
  have kx3 := L.out.b0.cell 3
  simp at kx0 kx1 kx2 kx3
  go_wp2_with fail
  with_reducible refine qv.out.mono ?_
  rintro e u5 ⟨rfl, rfl⟩
  clear qv kx0 kx1 kx2 kx3
  go_wp2
  go_ret
  exact ⟨rfl, L.out.bel⟩
theorem runL_len (D : PD) : ∀ (ch : List (Int × Int)) (pt : Int) (l : List Int), (runL D pt l ch).1.length ≤ ch.length
  | [], _, _ => by simp [runL]
  | (e, v) :: cs, pt, l => by
    unfold runL
    split
    · have := runL_len D cs (stepR D pt l e v).1.1 (stepR D pt l e v).1.2
      simp
      omega
    · simp
set_option maxRecDepth 100000 in
set_option maxHeartbeats 8000000 in
theorem rruns_go (pnm : ByteArray) (pa1 : Option Addr) (pn1 pc1 : Nat) (pa2 : Option Addr) (pn2 pc2 : Nat) (pa3 : Option Addr) (pn3 pc3 : Nat) (A : PD) (hA : PW A) (a1 : Option Addr) (n1 c1 : Nat) (l1 : List Int) (ca : Option Addr) (cn cc : Nat) (ch : List (Int × Int)) (w : World) (h : PrA w ⟨pnm, pa1, pn1, pc1, pa2, pn2, pc2, pa3, pn3, pc3⟩ A) (h1 : SL w a1 n1 c1 l1) (h2 : RO chC w ca cn cc ch) (hg : bigR A n1 cn = false) (hp : progB A = true) (hv : valsB l1 A.vars.length = true) :
    Calls Tryd.prog 4 #[.agg #[.string pnm, .slice pa1 pn1 pc1, .slice pa2 pn2 pc2, .slice pa3 pn3 pc3], .slice a1 n1 c1, .slice ca cn cc] w (Gives (.bool true) w) := by
  obtain ⟨u0, hu0⟩ : ∃ u0, u0 = w.alloc (.cells #[.string pnm, .slice pa1 pn1 pc1, .slice pa2 pn2 pc2, .slice pa3 pn3 pc3] 26) := ⟨_, rfl⟩
  have b0 : Below w.heap.size w u0 := by rw [hu0]; exact box_below _ _ _
  have L0 : LRn A l1 ch w pnm pa1 pn1 pc1 pa2 pn2 pc2 pa3 pn3 pc3 a1 n1 c1 ca cn cc u0 := ⟨h.below b0, h1.below b0, h2.below b0, by rw [hu0]; exact Holds.new w _ _, b0⟩
  have L := Lib.hid L0
  have m1 : Hid (n1 ≤ 9223372036854775807) := Lib.hid (by have := h1.max; have := h1.cap; omega)
  have m2 : Hid (cn ≤ 9223372036854775807) := Lib.hid h2.max'
  have hvl : Hid (pn1 = A.vars.length) := Lib.hid h.vars.len
  have hu0' := Lib.hid hu0
  have QL := Lib.hid rlives_any
  have qA := Lib.hid (fun W (h : LRn A l1 ch w pnm pa1 pn1 pc1 pa2 pn2 pc2 pa3 pn3 pc3 a1 n1 c1 ca cn cc W) => rlarge_any pnm pa1 pn1 pc1 pa2 pn2 pc2 pa3 pn3 pc3 A hA a1 n1 c1 ca cn cc m1.out m2.out W h.pr)
  have qk := Lib.hid (fun W (h : LRn A l1 ch w pnm pa1 pn1 pc1 pa2 pn2 pc2 pa3 pn3 pc3 a1 n1 c1 ca cn cc W) => rcheckP_any ⟨pnm, pa1, pn1, pc1, pa2, pn2, pc2, pa3, pn3, pc3⟩ A hA W h.pr)
  clear hu0 b0 L0 h h1 h2
  obtain ⟨hn20, hc300⟩ := bigR_no hg
  have qt := Lib.hid (fun W (h : LRn A l1 ch w pnm pa1 pn1 pc1 pa2 pn2 pc2 pa3 pn3 pc3 a1 n1 c1 ca cn cc W) => run_any pnm pa1 pn1 pc1 pa2 pn2 pc2 pa3 pn3 pc3 A a1 n1 c1 l1 ca cn cc ch W h.pr h.s1 h.ro (by omega) (by omega))
  rw [hg] at qA
  have e1 : runT A l1 ch = ((0, l1) :: (runL A 0 l1 ch).1, (runL A 0 l1 ch).2) := by unfold runT; rw [hp, hv]; rfl
  rw [e1] at qt
  rw [hp] at qk
  have qy := Lib.hid (fun W (h : LRn A l1 ch w pnm pa1 pn1 pc1 pa2 pn2 pc2 pa3 pn3 pc3 a1 n1 c1 ca cn cc W) => rrun_go pnm pa1 pn1 pc1 pa2 pn2 pc2 pa3 pn3 pc3 A a1 n1 c1 l1 ca cn cc ch W h.pr h.s1 h.ro (by omega) hp hv (by omega))
  have hLn : Hid ((0, l1) :: (runL A 0 l1 ch).1 ≠ []) := Lib.hid (by simp)
  have hL0 : Hid (((0, l1) :: (runL A 0 l1 ch).1).length ≤ 1000) := Lib.hid (by have := runL_len A ch 0 l1; have q : cn = ch.length := L.out.ro.len; simp; omega)
  generalize (0, l1) :: (runL A 0 l1 ch).1 = LL at *
  generalize (runL A 0 l1 ch).2 = re at *
  clear e1
  have kx0 := L.out.b0.cell 0
  have kx1 := L.out.b0.cell 1
  have kx2 := L.out.b0.cell 2
  have kx3 := L.out.b0.cell 3
  simp at kx0 kx1 kx2 kx3
  rw [hu0'.out] at kx0 kx1 kx2 kx3
  go_enter Tryd.func4, Tryd.ntmps4
  go_wp2_with fail
  rw [← hu0'.out]
  with_reducible refine (qA.out _ L.out).mono ?_
  rintro e u1 ⟨rfl, bu1⟩
  replace L := Lib.hid (L.out.below bu1)
  clear bu1
  clear kx0 kx1 kx2 kx3
  have kx0 := L.out.b0.cell 0
  have kx1 := L.out.b0.cell 1
  have kx2 := L.out.b0.cell 2
  have kx3 := L.out.b0.cell 3
  simp at kx0 kx1 kx2 kx3
  go_wp2_with fail
  with_reducible refine (qt.out _ L.out).mono ?_
  rintro e u2 ⟨al, nl, cl, rfl, hst, bu2⟩
  replace L := Lib.hid (L.out.below bu2)
  have T := Lib.hid hst
  clear hst
  clear bu2
  clear kx0 kx1 kx2 kx3
  go_wp2_with fail
  with_reducible refine (QL.out _).mono ?_
  rintro e u3 ⟨rfl, bu3⟩
  replace L := Lib.hid (L.out.below bu3)
  replace T := Lib.hid (T.out.below bu3)
  clear bu3
  have kx0 := L.out.b0.cell 0
  have kx1 := L.out.b0.cell 1
  have kx2 := L.out.b0.cell 2
  have kx3 := L.out.b0.cell 3
  simp at kx0 kx1 kx2 kx3
  go_wp2_with fail
  with_reducible refine (qk.out _ L.out).mono ?_
  rintro e u4 ⟨rfl, bu4⟩
  replace L := Lib.hid (L.out.below bu4)
  replace T := Lib.hid (T.out.below bu4)
  clear bu4
  clear kx0 kx1 kx2 kx3
  have qv := Lib.hid (rVals_any a1 n1 c1 pn1 l1 u4 L.out.s1)
  rw [hvl.out, hv] at qv
  rw [← hvl.out] at qv
  have kx0 := L.out.b0.cell 0
  have kx1 := L.out.b0.cell 1
  have kx2 := L.out.b0.cell 2
  have kx3 := L.out.b0.cell 3
  simp at kx0 kx1 kx2 kx3
  go_wp2_with fail
  with_reducible refine qv.out.mono ?_
  rintro e u5 ⟨rfl, rfl⟩
  clear qv kx0 kx1 kx2 kx3
  have kx0 := L.out.b0.cell 0
  have kx1 := L.out.b0.cell 1
  have kx2 := L.out.b0.cell 2
  have kx3 := L.out.b0.cell 3
  simp at kx0 kx1 kx2 kx3
  go_wp2_with fail
  with_reducible refine (qy.out _ L.out).mono ?_
  rintro e u6 ⟨aw, nw, cw, rfl, hsw, bu6⟩
  replace L := Lib.hid (L.out.below bu6)
  replace T := Lib.hid (T.out.below bu6)
  have V := Lib.hid hsw
  clear hsw
  clear bu6
  clear kx0 kx1 kx2 kx3
  obtain rfl : nl = LL.length := T.out.1
  obtain rfl : nw = LL.length := V.out.1
  obtain ⟨bo, rfl⟩ := sts_addr T.out hLn.out
  obtain ⟨bw, rfl⟩ := sts_addr V.out hLn.out
  have QS := Lib.hid (fun p a1 a2 n1 n2 c1 c2 l W h1 h2 => rSame_any p p a1 a2 n1 n2 c1 c2 l l W h1 h2)
  have c1' : LL.length ≤ cl := T.out.2.1
  have c2' : LL.length ≤ cw := V.out.2.1
  have hL1 : LL.length ≤ 1000 := hL0.out
  clear qy qt qk qA QL
  go_wp2
  go_loopw [11] (fun x wr => ∃ i : Nat, i ≤ LL.length ∧ x = .int .i64 i ∧ Hid (Below u6.heap.size u6 wr)) (fun x _ => LL.length - (intOf x).toNat)
  case atStart => exact ⟨0, Nat.zero_le _, rfl, Lib.hid (Below.refl _ _)⟩
  case round =>
    obtain ⟨i, hi, rfl, hB⟩ := hrel
    by_cases hlt : i < LL.length
    · have hii : (i : Int) < (LL.length : Int) := by omega
      obtain ⟨ho, ao, no, co, o0, o1, o2⟩ := sts_at (T.out.below hB.out) hlt
      obtain ⟨hw, aw, nw, cw', w0, w1, w2⟩ := sts_at (V.out.below hB.out) hlt
      have q := Lib.hid (fun W h1 h2 => QS.out (LL.getD i (0, [])).1 ao aw no nw co cw' (LL.getD i (0, [])).2 W h1 h2)
      rw [same_self] at q
      generalize (LL.getD i (0, [])).1 = pp at *
      generalize (LL.getD i (0, [])).2 = pl at *
      have O0 : ∀ W, Below wr.heap.size wr W → W.cell? ⟨bo, i * 2, none⟩ = some (.int .i64 pp) := fun W hW => (hW.cell (p := ⟨bo, i * 2, none⟩) ho).trans o0
      have O1 : ∀ W, Below wr.heap.size wr W → W.cell? ⟨bo, i * 2 + 1, none⟩ = some (.slice ao no co) := fun W hW => (hW.cell (p := ⟨bo, i * 2 + 1, none⟩) ho).trans o1
      have V0 : ∀ W, Below wr.heap.size wr W → W.cell? ⟨bw, i * 2, none⟩ = some (.int .i64 pp) := fun W hW => (hW.cell (p := ⟨bw, i * 2, none⟩) hw).trans w0
      have V1 : ∀ W, Below wr.heap.size wr W → W.cell? ⟨bw, i * 2 + 1, none⟩ = some (.slice aw nw cw') := fun W hW => (hW.cell (p := ⟨bw, i * 2 + 1, none⟩) hw).trans w1
      have O2 : ∀ W, Below wr.heap.size wr W → SL W ao no co pl := fun W hW => o2.below hW
      have V2 : ∀ W, Below wr.heap.size wr W → SL W aw nw cw' pl := fun W hW => w2.below hW
      clear o0 o1 o2 w0 w1 w2 ho hw
      go_wp2
      refine wp_drawn_on (fun W => Below wr.heap.size wr W) (by kernel_rfl) ((Below.refl _ _).drew) (fun hHeld => ?_)
      refine wpAnyH_take (i := 0) (oi := { dst := some 72, op := Go.Op.move (Go.Operand.tmp 7), type := 42, pos := "law.go:66", after := #[], guard := none }) (v := ?v1) rfl (by kernel_rfl) (by kernel_rfl) (by kernel_rfl) (fun _ _ _ h => h) (Or.inl ⟨by kernel_rfl, ?h1⟩) (by assumption) ?r1
      case h1 => (intro w hSw; (try dsimp only at hSw); go_simp; try with_reducible rfl)
      try simp only [Act.put, List.setIfInBounds_toArray, List.set_cons_zero, List.set_cons_succ]
      refine wpAnyH_take (i := 1) (oi := { dst := some 73, op := Go.Op.move (Go.Operand.tmp 11), type := 3, pos := "law.go:66", after := #[], guard := none }) (v := ?v2) rfl (by kernel_rfl) (by kernel_rfl) (by kernel_rfl) (fun _ _ _ h => h) (Or.inl ⟨by kernel_rfl, ?h2⟩) (by assumption) ?r2
      case h2 => (intro w hSw; (try dsimp only at hSw); go_simp; try with_reducible rfl)
      try simp only [Act.put, List.setIfInBounds_toArray, List.set_cons_zero, List.set_cons_succ]
      refine wpAnyH_take (i := 2) (oi := { dst := some 74, op := Go.Op.indexAddr 42 (Go.Operand.tmp 72) (Go.Operand.tmp 73), type := 0, pos := "law.go:66", after := #[{ on := 0, ground := Go.Ground.data }, { on := 1, ground := Go.Ground.data }], guard := none }) (v := ?v3) rfl (by kernel_rfl) (by kernel_rfl) (by kernel_rfl) (fun _ _ _ h => h) (Or.inl ⟨by kernel_rfl, ?h3⟩) (by assumption) ?r3
      case h3 => (intro w hSw; (try dsimp only at hSw); go_simp; try with_reducible rfl)
      try simp only [Act.put, List.setIfInBounds_toArray, List.set_cons_zero, List.set_cons_succ]
      refine wpAnyH_take (i := 3) (oi := { dst := some 75, op := Go.Op.load 29 (Go.Operand.tmp 74), type := 29, pos := "law.go:66", after := #[{ on := 2, ground := Go.Ground.data }], guard := none }) (v := ?v4) rfl (by kernel_rfl) (by kernel_rfl) (by kernel_rfl) (fun _ _ _ h => h) (Or.inl ⟨by kernel_rfl, ?h4⟩) (by assumption) ?r4
      case h4 => (intro w hSw; (try dsimp only at hSw); go_simp; try with_reducible rfl)
      try simp only [Act.put, List.setIfInBounds_toArray, List.set_cons_zero, List.set_cons_succ]
      refine wpAnyH_take (i := 4) (oi := { dst := some 76, op := Go.Op.move (Go.Operand.tmp 9), type := 42, pos := "law.go:66", after := #[], guard := none }) (v := ?v5) rfl (by kernel_rfl) (by kernel_rfl) (by kernel_rfl) (fun _ _ _ h => h) (Or.inl ⟨by kernel_rfl, ?h5⟩) (by assumption) ?r5
      case h5 => (intro w hSw; (try dsimp only at hSw); go_simp; try with_reducible rfl)
      try simp only [Act.put, List.setIfInBounds_toArray, List.set_cons_zero, List.set_cons_succ]
      refine wpAnyH_take (i := 5) (oi := { dst := some 77, op := Go.Op.move (Go.Operand.tmp 11), type := 3, pos := "law.go:66", after := #[], guard := none }) (v := ?v6) rfl (by kernel_rfl) (by kernel_rfl) (by kernel_rfl) (fun _ _ _ h => h) (Or.inl ⟨by kernel_rfl, ?h6⟩) (by assumption) ?r6
      case h6 => (intro w hSw; (try dsimp only at hSw); go_simp; try with_reducible rfl)
      try simp only [Act.put, List.setIfInBounds_toArray, List.set_cons_zero, List.set_cons_succ]
      refine wpAnyH_take (i := 6) (oi := { dst := some 78, op := Go.Op.indexAddr 42 (Go.Operand.tmp 76) (Go.Operand.tmp 77), type := 0, pos := "law.go:66", after := #[{ on := 4, ground := Go.Ground.data }, { on := 5, ground := Go.Ground.data }], guard := none }) (v := ?v7) rfl (by kernel_rfl) (by kernel_rfl) (by kernel_rfl) (fun _ _ _ h => h) (Or.inl ⟨by kernel_rfl, ?h7⟩) (by assumption) ?r7
      case h7 => (intro w hSw; (try dsimp only at hSw); go_simp; try with_reducible rfl)
      try simp only [Act.put, List.setIfInBounds_toArray, List.set_cons_zero, List.set_cons_succ]
      refine wpAnyH_take (i := 7) (oi := { dst := some 79, op := Go.Op.load 29 (Go.Operand.tmp 78), type := 29, pos := "law.go:66", after := #[{ on := 6, ground := Go.Ground.data }], guard := none }) (v := ?v8) rfl (by kernel_rfl) (by kernel_rfl) (by kernel_rfl) (fun _ _ _ h => h) (Or.inl ⟨by kernel_rfl, ?h8⟩) (by assumption) ?r8
      case h8 => (intro w hSw; (try dsimp only at hSw); go_simp; try with_reducible rfl)
      try simp only [Act.put, List.setIfInBounds_toArray, List.set_cons_zero, List.set_cons_succ]
      refine wpAnyH_ready (rs := [8]) (by kernel_rfl) (by simp) ?_
      refine AllReadyH.cons (o := { dst := some 80, op := Go.Op.call { callee := Go.Callee.value (Go.Operand.func 9), args := #[Go.Operand.tmp 75, Go.Operand.tmp 79], argTypes := #[29, 29] }, type := 4, pos := "law.go:66", after := #[{ on := 3, ground := Go.Ground.data }, { on := 7, ground := Go.Ground.data }], guard := none }) rfl (fun K hK => ?_) AllReadyH.nil
      go_simp
      with_reducible refine (q.out _ (O2 _ hHeld) (V2 _ hHeld)).mono ?_
      rintro e w8 ⟨rfl, b8⟩
      have hx8 : Below wr.heap.size wr w8 := hHeld.trans (b8.mono hHeld.size)
      go_simp
      refine hK.out _ _ (hx8) (fun hHeld => ?_)
      clear hK K
      try simp only [Act.put, List.setIfInBounds_toArray, List.set_cons_zero, List.set_cons_succ]
      refine wpAnyH_take (i := 9) (oi := { dst := some 81, op := Go.Op.unOp Go.UnOp.not 4 (Go.Operand.tmp 80), type := 4, pos := "law.go:66", after := #[{ on := 8, ground := Go.Ground.data }], guard := none }) (v := ?v9) rfl (by kernel_rfl) (by kernel_rfl) (by kernel_rfl) (fun _ _ _ h => h) (Or.inl ⟨by kernel_rfl, ?h9⟩) (by assumption) ?r9
      case h9 => (intro w hSw; (try dsimp only at hSw); go_simp; try with_reducible rfl)
      try simp only [Act.put, List.setIfInBounds_toArray, List.set_cons_zero, List.set_cons_succ]
      refine wpAnyH_done (by kernel_rfl) ?_ _
      go_wp2
      go_roundw
      case rel => exact ⟨i + 1, by omega, by go_num, Lib.hid (hB.out.trans (hHeld.mono hB.out.size))⟩
      case measure => simp [intOf]; omega
    · have hii : ¬ (i : Int) < (LL.length : Int) := by omega
      go_wp2
      go_ret
      exact ⟨rfl, L.out.bel.trans (hB.out.mono L.out.bel.size)⟩
theorem runRuns_walk (w : World)
    (pnm : ByteArray) (pq : pnm.size ≤ 140737488351232) (pa1 : Option Addr) (pn1 pc1 : Nat) (x1 : TSl w pa1 pn1 pc1) (pa2 : Option Addr) (pn2 pc2 : Nat) (x2 : SpotsSl w pa2 pn2 pc2) (pa3 : Option Addr) (pn3 pc3 : Nat) (x3 : EdgesSl w pa3 pn3 pc3)
    (a1 : Option Addr) (n1 c1 : Nat) (l1 : List Int) (hl1 : l1.length = n1) (hm1 : n1 ≤ maxLen) (hc1 : n1 ≤ c1) (hw1 : ∀ n ∈ l1, (Lit.int .i64 n).wf = true) (hs1 : Sees .i64 w.heap.size w a1 l1)
    (ca : Option Addr) (cn cc : Nat) (x4 : ChSl w ca cn cc) :
    Calls Tryd.prog 4 #[.agg #[.string pnm, .slice pa1 pn1 pc1, .slice pa2 pn2 pc2, .slice pa3 pn3 pc3], .slice a1 n1 c1, .slice ca cn cc] w (Gives (.bool true) w) := by
  obtain ⟨pl, pt, ps, pm⟩ := x1
  obtain ⟨pS, pr2, pw2, pm2⟩ := x2
  obtain ⟨pE, pr3, pw3, pm3⟩ := x3
  obtain ⟨ch, hch⟩ := x4
  have h : PrA w ⟨pnm, pa1, pn1, pc1, pa2, pn2, pc2, pa3, pn3, pc3⟩ ⟨pnm, pl, pS, pE⟩ := ⟨rfl, pt, pr2, pr3⟩
  have hA : PW ⟨pnm, pl, pS, pE⟩ := by constructor <;> first | assumption | (have := pr2.len; have := pr3.len; have := pt.len; simp_all; omega)
  have h1 : SL w a1 n1 c1 l1 := ⟨hl1.symm, hc1, by unfold maxLen at hm1; omega, hs1⟩
  clear pt ps pm pr2 pw2 pm2 pr3 pw3 pm3 hl1 hm1 hc1 hw1 hs1
  generalize (⟨pnm, pl, pS, pE⟩ : PD) = A at h hA
  by_cases hg : bigR A n1 cn = true
  · exact rruns_big pnm pa1 pn1 pc1 pa2 pn2 pc2 pa3 pn3 pc3 A hA a1 n1 c1 l1 ca cn cc ch w h h1 hch hg
  · replace hg : bigR A n1 cn = false := by simpa using hg
    by_cases hp : progB A = true
    · by_cases hv : valsB l1 A.vars.length = true
      · exact rruns_go pnm pa1 pn1 pc1 pa2 pn2 pc2 pa3 pn3 pc3 A hA a1 n1 c1 l1 ca cn cc ch w h h1 hch hg hp hv
      · exact rruns_bad pnm pa1 pn1 pc1 pa2 pn2 pc2 pa3 pn3 pc3 A hA a1 n1 c1 l1 ca cn cc ch w h h1 hch hg hp (by simpa using hv)
    · exact rruns_no pnm pa1 pn1 pc1 pa2 pn2 pc2 pa3 pn3 pc3 A hA a1 n1 c1 l1 ca cn cc ch w h h1 hch hg (by simpa using hp)
end Go.Proofs.YtjdfjekonnkglaaDoor
