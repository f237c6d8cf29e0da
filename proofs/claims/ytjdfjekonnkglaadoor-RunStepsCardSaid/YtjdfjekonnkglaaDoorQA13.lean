/-
  Words and walks under the law's proof.
-/
import Derived.Test.YtjdfjekonnkglaaDoorQA04
import Derived.Test.YtjdfjekonnkglaaDoorQA09
import Derived.Test.YtjdfjekonnkglaaDoorQA12
namespace Go.Proofs.YtjdfjekonnkglaaDoor
open Go.RowKit
set_option linter.unusedVariables false
set_option linter.unusedSimpArgs false
def bigS (s : SpotD) : Bool := decide (100 < s.fn.size) || decide (100 < s.file.size)
def bigP (D : PD) : Bool := (decide (100 < D.nm.size) || (decide (20 < D.vars.length) || (decide (150 < D.spots.length) || decide (300 < D.edges.length)))) || (D.vars.any (fun s => decide (100 < s.size)) || D.spots.any bigS)
theorem any_yes {α : Type} {q : α → Bool} {l : List α} {d : α} {k : Nat} (hk : k < l.length) (h : q (l.getD k d) = true) : l.any q = true := by
  rw [List.any_eq_true]
  exact ⟨l.getD k d, by simp [List.getD, hk], h⟩
theorem any_no {α : Type} {q : α → Bool} {l : List α} (d : α) (h : ∀ t, t < l.length → q (l.getD t d) = false) : l.any q = false := by
  rw [List.any_eq_false]
  intro x hx
  obtain ⟨t, ht, rfl⟩ := List.getElem_of_mem hx
  have := h t ht
  simpa [List.getD, ht] using this
set_option maxRecDepth 100000 in
set_option maxHeartbeats 8000000 in
theorem plarge_any (p : PV) (D : PD) (hw : PW D) (w : World) (h : PrA w p D) : Calls Tryd.prog 17 #[.agg #[.string p.nm, .slice p.a1 p.n1 p.c1, .slice p.a2 p.n2 p.c2, .slice p.a3 p.n3 p.c3]] w (Gives (.bool (bigP D)) w) := by
  have hR : Hid (bigP D = ((decide (100 < p.nm.size) || (decide (20 < p.n1) || (decide (150 < p.n2) || decide (300 < p.n3)))) || (D.vars.any (fun s => decide (100 < s.size)) || D.spots.any bigS))) := Lib.hid (by unfold bigP; rw [h.nm, h.vars.len, h.spots.len, h.edges.len])
  have hns : p.nm.size ≤ 140737488351232 := by rw [h.nm]; exact hw.nm
  have hvw : Hid (∀ k, k < D.vars.length → (D.vars.getD k e0).size ≤ 140737488351232) := Lib.hid (fun k hk => hw.vars _ (by simp [List.getD, hk]))
  have hsw : Hid (∀ k, k < D.spots.length → spotW (D.spots.getD k spot0)) := Lib.hid (fun k hk => hw.spots _ (by simp [List.getD, hk]))
  obtain ⟨pnm, pa1, pn1, pc1, pa2, pn2, pc2, pa3, pn3, pc3⟩ := p
  have hv := h.vars
  have hs := h.spots
  have he := h.edges
  clear h hw
  dsimp only at hR hv hs he hns ⊢
  obtain ⟨W1, hW1⟩ : ∃ W1, W1 = w.alloc (.cells #[.string pnm, .slice pa1 pn1 pc1, .slice pa2 pn2 pc2, .slice pa3 pn3 pc3] 26) := ⟨_, rfl⟩
  have Z : Hid (Holds W1 w.heap.size 26 #[.string pnm, .slice pa1 pn1 pc1, .slice pa2 pn2 pc2, .slice pa3 pn3 pc3]) := Lib.hid (by rw [hW1]; exact Holds.new w _ _)
  have BL := Lib.hid (show Below w.heap.size w W1 by rw [hW1]; exact box_below _ _ _)
  have V := Lib.hid (hv.below BL.out)
  have S := Lib.hid (hs.below BL.out)
  have lv := Lib.hid hv.len
  have ls := Lib.hid hs.len
  have hm1 : (pn1 : Int) ≤ 9223372036854775807 := by have := hv.cap; have := hv.max; unfold maxLen at this; omega
  have hm2 : (pn2 : Int) ≤ 9223372036854775807 := by have := hs.max'; omega
  have hm3 : (pn3 : Int) ≤ 9223372036854775807 := by have := he.max'; omega
  have hW1' := Lib.hid hW1
  have k0 := Z.out.cell 0
  have k1 := Z.out.cell 1
  have k2 := Z.out.cell 2
  have k3 := Z.out.cell 3
  have yv := Lib.hid (fun k hk h => any_yes (q := fun s : ByteArray => decide (100 < s.size)) (l := D.vars) (d := e0) (k := k) hk h)
  have nv := Lib.hid (fun h => any_no (q := fun s : ByteArray => decide (100 < s.size)) (l := D.vars) e0 h)
  have ys := Lib.hid (fun k hk h => any_yes (q := bigS) (l := D.spots) (d := spot0) (k := k) hk h)
  have ns := Lib.hid (fun h => any_no (q := bigS) (l := D.spots) spot0 h)
  clear hv hs he hW1
  generalize bigP D = R at *
  generalize D.vars.any (fun s => decide (100 < s.size)) = bv at *
  generalize D.spots.any bigS = bs at *
  by_cases g0 : 100 < pnm.size
  · have ig0 : (100 : Int) < (pnm.size : Int) := by omega
    have hf : Hid (R = true) := Lib.hid (by rw [hR.out, decide_eq_true g0]; simp)
    go_enter Tryd.func17, Tryd.ntmps17
    go_wp2
    go_ret
    rw [← hW1'.out]
    exact ⟨ret_bool hf.out.symm, BL.out⟩
  have ig0 : ¬ (100 : Int) < (pnm.size : Int) := by omega
  by_cases g1 : 20 < pn1
  · have ig1 : (20 : Int) < (pn1 : Int) := by omega
    have hf : Hid (R = true) := Lib.hid (by rw [hR.out, decide_eq_true g1]; simp)
    go_enter Tryd.func17, Tryd.ntmps17
    go_wp2
    go_ret
    rw [← hW1'.out]
    exact ⟨ret_bool hf.out.symm, BL.out⟩
  have ig1 : ¬ (20 : Int) < (pn1 : Int) := by omega
  by_cases g2 : 150 < pn2
  · have ig2 : (150 : Int) < (pn2 : Int) := by omega
    have hf : Hid (R = true) := Lib.hid (by rw [hR.out, decide_eq_true g2]; simp)
    go_enter Tryd.func17, Tryd.ntmps17
    go_wp2
    go_ret
    rw [← hW1'.out]
    exact ⟨ret_bool hf.out.symm, BL.out⟩
  have ig2 : ¬ (150 : Int) < (pn2 : Int) := by omega
  by_cases g3 : 300 < pn3
  · have ig3 : (300 : Int) < (pn3 : Int) := by omega
    have hf : Hid (R = true) := Lib.hid (by rw [hR.out, decide_eq_true g3]; simp)
    go_enter Tryd.func17, Tryd.ntmps17
    go_wp2
    go_ret
    rw [← hW1'.out]
    exact ⟨ret_bool hf.out.symm, BL.out⟩
  have ig3 : ¬ (300 : Int) < (pn3 : Int) := by omega
  have hR2 : Hid (R = (bv || bs)) := Lib.hid (by rw [hR.out, decide_eq_false g0, decide_eq_false g1, decide_eq_false g2, decide_eq_false g3]; rfl)
  clear hR
  go_enter Tryd.func17, Tryd.ntmps17
  go_wp2
  rw [← hW1'.out]
  clear hW1'
  go_loop [3] (fun y => ∃ k : Nat, k ≤ pn1 ∧ y = .int .i64 k ∧ Hid (∀ t, t < k → decide (100 < (D.vars.getD t e0).size) = false)) (fun y => pn1 - (intOf y).toNat)
  case atStart => exact ⟨0, Nat.zero_le _, rfl, Lib.hid (fun t ht => by omega)⟩
  case round =>
    obtain ⟨k, hk, rfl, hal⟩ := hrel
    by_cases hlt : k < pn1
    · have hki : (k : Int) < (pn1 : Int) := by omega
      have hkl : k < D.vars.length := by rw [← lv.out]; exact hlt
      obtain ⟨b, off, rfl, -, hc⟩ := V.out.at_ hkl
      have x0 := hc k hkl
      have hz := hvw.out k hkl
      have hy := Lib.hid (yv.out k hkl)
      have hn : Hid (¬ 100 < (D.vars.getD k e0).size → ∀ t, t < k + 1 → decide (100 < (D.vars.getD t e0).size) = false) := Lib.hid (fun h t ht => by
        by_cases e : t = k
        · rw [e]; exact decide_eq_false h
        · exact hal.out t (by omega))
      clear hc hal yv
      generalize D.vars.getD k e0 = s at *
      by_cases hs : 100 < s.size
      · have hsi : (100 : Int) < (s.size : Int) := by omega
        have hf : Hid (R = true) := Lib.hid (by rw [hR2.out, hy.out (decide_eq_true hs)]; rfl)
        clear hy hn
        go_wp2
        go_ret
        exact ⟨ret_bool hf.out.symm, BL.out⟩
      · have hsi : ¬ (100 : Int) < (s.size : Int) := by omega
        have hg := Lib.hid (hn.out hs)
        clear hy hn
        go_wp2
        go_round
        case rel => exact ⟨k + 1, by omega, by go_num, hg⟩
        case measure => simp [intOf]; omega
    · have hki : ¬ (k : Int) < (pn1 : Int) := by omega
      have hb := Lib.hid (nv.out (fun t ht => hal.out t (by rw [← lv.out] at ht; omega)))
      have hR3 : Hid (R = bs) := Lib.hid (by rw [hR2.out, hb.out]; rfl)
      clear hb hR2 yv nv hal
      go_wp2
      clear hki hlt hk
      go_loop [4] (fun y => ∃ k : Nat, k ≤ pn2 ∧ y = .int .i64 k ∧ Hid (∀ t, t < k → bigS (D.spots.getD t spot0) = false)) (fun y => pn2 - (intOf y).toNat)
      case atStart => exact ⟨0, Nat.zero_le _, rfl, Lib.hid (fun t ht => by omega)⟩
      case round =>
        obtain ⟨k, hk, rfl, hal⟩ := hrel
        by_cases hlt : k < pn2
        · have hki : (k : Int) < (pn2 : Int) := by omega
          obtain ⟨b, off, rfl, -, x0, x1, x2⟩ := spots_at S.out hlt
          have hz := hsw.out k (by rw [← ls.out]; exact hlt)
          have hy := Lib.hid (ys.out k (by rw [← ls.out]; exact hlt))
          have hn : Hid (bigS (D.spots.getD k spot0) = false → ∀ t, t < k + 1 → bigS (D.spots.getD t spot0) = false) := Lib.hid (fun h t ht => by
            by_cases e : t = k
            · rw [e]; exact h
            · exact hal.out t (by omega))
          obtain ⟨s, f, x, hd⟩ : ∃ s f x, D.spots.getD k spot0 = (⟨s, f, x⟩ : SpotD) := ⟨_, _, _, rfl⟩
          rw [hd] at x0 x1 hy hn hz
          have hz1 : s.size ≤ 140737488351232 := hz.1
          have hz2 : f.size ≤ 140737488351232 := hz.2.1
          dsimp only at x0 x1
          have hbe : Hid (bigS ⟨s, f, x⟩ = (decide (100 < s.size) || decide (100 < f.size))) := Lib.hid rfl
          clear hd hal ys hz x2
          generalize bigS ⟨s, f, x⟩ = B at *
          by_cases h1 : 100 < s.size
          · have h1i : (100 : Int) < (s.size : Int) := by omega
            have hf : Hid (R = true) := Lib.hid (by rw [hR3.out, hy.out (by rw [hbe.out, decide_eq_true h1]; rfl)])
            clear hy hn hbe
            go_wp2
            go_ret
            exact ⟨ret_bool hf.out.symm, BL.out⟩
          · have h1i : ¬ (100 : Int) < (s.size : Int) := by omega
            by_cases h2 : 100 < f.size
            · have h2i : (100 : Int) < (f.size : Int) := by omega
              have hf : Hid (R = true) := Lib.hid (by rw [hR3.out, hy.out (by rw [hbe.out, decide_eq_false h1, decide_eq_true h2]; rfl)])
              clear hy hn hbe
              go_wp2
              go_ret
              exact ⟨ret_bool hf.out.symm, BL.out⟩
            · have h2i : ¬ (100 : Int) < (f.size : Int) := by omega
              have hg := Lib.hid (hn.out (by rw [hbe.out, decide_eq_false h1, decide_eq_false h2]; rfl))
              clear hy hn hbe
              go_wp2
              go_round
              case rel => exact ⟨k + 1, by omega, by go_num, hg⟩
              case measure => simp [intOf]; omega
        · have hki : ¬ (k : Int) < (pn2 : Int) := by omega
          have hb := Lib.hid (ns.out (fun t ht => hal.out t (by rw [← ls.out] at ht; omega)))
          have hf : Hid (R = false) := Lib.hid (by rw [hR3.out, hb.out])
          clear hb ns ys hR3
          go_wp2
          go_ret
          exact ⟨ret_bool hf.out.symm, BL.out⟩
end Go.Proofs.YtjdfjekonnkglaaDoor
namespace Go.Proofs.YtjdfjekonnkglaaDoor
open Go.RowKit
set_option linter.unusedVariables false
set_option linter.unusedSimpArgs false
def bigR (D : PD) (n cn : Nat) : Bool := (bigP D || decide (20 < n)) || decide (300 < cn)
set_option maxRecDepth 100000 in
theorem rlarge_any (pnm : ByteArray) (pa1 : Option Addr) (pn1 pc1 : Nat) (pa2 : Option Addr) (pn2 pc2 : Nat) (pa3 : Option Addr) (pn3 pc3 : Nat) (D : PD) (hw : PW D) (a : Option Addr) (n c : Nat) (ca : Option Addr) (cn cc : Nat) (hn : n ≤ 9223372036854775807) (hcn : cn ≤ 9223372036854775807) (w : World) (h : PrA w ⟨pnm, pa1, pn1, pc1, pa2, pn2, pc2, pa3, pn3, pc3⟩ D) : Calls Tryd.prog 5 #[.agg #[.string pnm, .slice pa1 pn1 pc1, .slice pa2 pn2 pc2, .slice pa3 pn3 pc3], .slice a n c, .slice ca cn cc] w (Gives (.bool (bigR D n cn)) w) := by
  obtain ⟨W1, hW1⟩ : ∃ W1, W1 = w.alloc (.cells #[.string pnm, .slice pa1 pn1 pc1, .slice pa2 pn2 pc2, .slice pa3 pn3 pc3] 26) := ⟨_, rfl⟩
  have BL : Hid (Below w.heap.size w W1) := Lib.hid (by rw [hW1]; exact box_below _ _ _)
  have Z0 : Hid (Holds W1 w.heap.size 26 #[.string pnm, .slice pa1 pn1 pc1, .slice pa2 pn2 pc2, .slice pa3 pn3 pc3]) := Lib.hid (by rw [hW1]; exact Holds.new w _ _)
  have q := Lib.hid (plarge_any ⟨pnm, pa1, pn1, pc1, pa2, pn2, pc2, pa3, pn3, pc3⟩ D hw W1 (h.below BL.out))
  have k0 := Z0.out.cell 0
  have k1 := Z0.out.cell 1
  have k2 := Z0.out.cell 2
  have k3 := Z0.out.cell 3
  simp at k0 k1 k2 k3
  have hW1' := Lib.hid hW1
  rw [hW1] at k0 k1 k2 k3
  clear hW1 h Z0
  have hR : Hid (bigR D n cn = ((bigP D || decide (20 < n)) || decide (300 < cn))) := Lib.hid rfl
  generalize bigR D n cn = R at *
  generalize bigP D = B at *
  go_enter Tryd.func5, Tryd.ntmps5
  go_wp2_with fail
  rw [← hW1'.out]
  with_reducible refine q.out.mono ?_
  rintro e W2 ⟨rfl, b2⟩
  have B2 := Lib.hid (BL.out.trans (b2.mono BL.out.size))
  clear k0 k1 k2 k3 hW1' BL b2 q
  cases B with
  | true =>
    go_wp2
    go_ret
    exact ⟨by rw [hR.out]; rfl, B2.out⟩
  | false =>
    by_cases h1 : 20 < n
    · have h1i : (20 : Int) < (n : Int) := by omega
      have h1d : decide ((20 : Int) < (n : Int)) = true := by simpa using h1i
      go_wp2
      go_ret
      exact ⟨by rw [hR.out]; simp [h1], B2.out⟩
    · have h1i : ¬ (20 : Int) < (n : Int) := by omega
      by_cases h2 : 300 < cn
      · have h2i : (300 : Int) < (cn : Int) := by omega
        go_wp2
        go_ret
        exact ⟨by rw [hR.out]; simp [h2], B2.out⟩
      · have h2i : ¬ (300 : Int) < (cn : Int) := by omega
        go_wp2
        go_ret
        exact ⟨by rw [hR.out]; simp [h1, h2]; omega, B2.out⟩
end Go.Proofs.YtjdfjekonnkglaaDoor
namespace Go.Proofs.YtjdfjekonnkglaaDoor
open Go.RowKit
set_option linter.unusedVariables false
set_option linter.unusedSimpArgs false
structure LSt (A : PD) (l1 l2 : List Int) (w : World) (pnm : ByteArray) (pa1 : Option Addr) (pn1 pc1 : Nat) (pa2 : Option Addr) (pn2 pc2 : Nat) (pa3 : Option Addr) (pn3 pc3 : Nat) (p1 : Int) (a1 : Option Addr) (n1 c1 : Nat) (p2 : Int) (a2 : Option Addr) (n2 c2 : Nat) (e v : Int) (W : World) : Prop where
  pr : PrA W ⟨pnm, pa1, pn1, pc1, pa2, pn2, pc2, pa3, pn3, pc3⟩ A
  s1 : SL W a1 n1 c1 l1
  s2 : SL W a2 n2 c2 l2
  b0 : Holds W w.heap.size 26 #[.string pnm, .slice pa1 pn1 pc1, .slice pa2 pn2 pc2, .slice pa3 pn3 pc3]
  b1 : Holds W (w.heap.size + 1) 29 #[.int .i64 p1, .slice a1 n1 c1]
  b2 : Holds W (w.heap.size + 2) 29 #[.int .i64 p2, .slice a2 n2 c2]
  b3 : Holds W (w.heap.size + 3) 31 #[.int .i64 e, .int .i64 v]
  bel : Below w.heap.size w W
theorem LSt.below {A : PD} {l1 l2 : List Int} {w : World} {pnm : ByteArray} {pa1 : Option Addr} {pn1 pc1 : Nat} {pa2 : Option Addr} {pn2 pc2 : Nat} {pa3 : Option Addr} {pn3 pc3 : Nat} {p1 : Int} {a1 : Option Addr} {n1 c1 : Nat} {p2 : Int} {a2 : Option Addr} {n2 c2 : Nat} {e v : Int} {W W' : World} (h : LSt A l1 l2 w pnm pa1 pn1 pc1 pa2 pn2 pc2 pa3 pn3 pc3 p1 a1 n1 c1 p2 a2 n2 c2 e v W) (hb : Below W.heap.size W W') : LSt A l1 l2 w pnm pa1 pn1 pc1 pa2 pn2 pc2 pa3 pn3 pc3 p1 a1 n1 c1 p2 a2 n2 c2 e v W' :=
  ⟨h.pr.below hb, h.s1.below hb, h.s2.below hb, h.b0.below hb h.b0.lt, h.b1.below hb h.b1.lt, h.b2.below hb h.b2.lt, h.b3.below hb h.b3.lt, h.bel.trans (hb.mono h.bel.size)⟩
theorem same_refl (p : Int) (l : List Int) : sameT p p l l = true := by simp [sameT]
set_option maxRecDepth 100000 in
set_option maxHeartbeats 8000000 in
theorem rsteps_big (pnm : ByteArray) (pa1 : Option Addr) (pn1 pc1 : Nat) (pa2 : Option Addr) (pn2 pc2 : Nat) (pa3 : Option Addr) (pn3 pc3 : Nat) (A : PD) (hA : PW A) (p1 : Int) (a1 : Option Addr) (n1 c1 : Nat) (l1 : List Int) (p2 : Int) (a2 : Option Addr) (n2 c2 : Nat) (l2 : List Int) (e v : Int) (w : World) (h : PrA w ⟨pnm, pa1, pn1, pc1, pa2, pn2, pc2, pa3, pn3, pc3⟩ A) (h1 : SL w a1 n1 c1 l1) (h2 : SL w a2 n2 c2 l2) (hg : bigR A n1 0 = true) :
    Calls Tryd.prog 3 #[.agg #[.string pnm, .slice pa1 pn1 pc1, .slice pa2 pn2 pc2, .slice pa3 pn3 pc3], .agg #[.int .i64 p1, .slice a1 n1 c1], .agg #[.int .i64 p2, .slice a2 n2 c2], .agg #[.int .i64 e, .int .i64 v]] w (Gives (.bool true) w) := by
  obtain ⟨u0, hu0⟩ : ∃ u0, u0 = (((w.alloc (.cells #[.string pnm, .slice pa1 pn1 pc1, .slice pa2 pn2 pc2, .slice pa3 pn3 pc3] 26)).alloc (.cells #[.int .i64 p1, .slice a1 n1 c1] 29)).alloc (.cells #[.int .i64 p2, .slice a2 n2 c2] 29)).alloc (.cells #[.int .i64 e, .int .i64 v] 31) := ⟨_, rfl⟩
  have b0 : Below w.heap.size w u0 := by rw [hu0]; exact ((((Below.refl _ _).alloc (Nat.le_refl _) _).alloc (by simp) _).alloc (by simp; omega) _).alloc (by simp; omega) _
  have L0 : LSt A l1 l2 w pnm pa1 pn1 pc1 pa2 pn2 pc2 pa3 pn3 pc3 p1 a1 n1 c1 p2 a2 n2 c2 e v u0 := ⟨h.below b0, h1.below b0, h2.below b0, by rw [hu0]; exact (((Holds.new w _ _).alloc _).alloc _).alloc _, by rw [hu0]; have q := ((Holds.new (w.alloc (.cells #[.string pnm, .slice pa1 pn1 pc1, .slice pa2 pn2 pc2, .slice pa3 pn3 pc3] 26)) 29 #[.int .i64 p1, .slice a1 n1 c1]).alloc (.cells #[.int .i64 p2, .slice a2 n2 c2] 29)).alloc (.cells #[.int .i64 e, .int .i64 v] 31); simpa using q, by rw [hu0]; have q := (Holds.new ((w.alloc (.cells #[.string pnm, .slice pa1 pn1 pc1, .slice pa2 pn2 pc2, .slice pa3 pn3 pc3] 26)).alloc (.cells #[.int .i64 p1, .slice a1 n1 c1] 29)) 29 #[.int .i64 p2, .slice a2 n2 c2]).alloc (.cells #[.int .i64 e, .int .i64 v] 31); simpa using q, by rw [hu0]; have q := Holds.new (((w.alloc (.cells #[.string pnm, .slice pa1 pn1 pc1, .slice pa2 pn2 pc2, .slice pa3 pn3 pc3] 26)).alloc (.cells #[.int .i64 p1, .slice a1 n1 c1] 29)).alloc (.cells #[.int .i64 p2, .slice a2 n2 c2] 29)) 31 #[.int .i64 e, .int .i64 v]; simpa using q, b0⟩
  have L := Lib.hid L0
  have m1 : Hid (n1 ≤ 9223372036854775807) := Lib.hid (by have := h1.max; have := h1.cap; omega)
  have m2 : Hid (n2 ≤ 9223372036854775807) := Lib.hid (by have := h2.max; have := h2.cap; omega)
  have hu0' := Lib.hid hu0
  have QL := Lib.hid rlives_any
  have qA := Lib.hid (fun W (h : LSt A l1 l2 w pnm pa1 pn1 pc1 pa2 pn2 pc2 pa3 pn3 pc3 p1 a1 n1 c1 p2 a2 n2 c2 e v W) => rlarge_any pnm pa1 pn1 pc1 pa2 pn2 pc2 pa3 pn3 pc3 A hA a1 n1 c1 none 0 0 m1.out (by omega) W h.pr)
  have qt := Lib.hid (fun W (h : LSt A l1 l2 w pnm pa1 pn1 pc1 pa2 pn2 pc2 pa3 pn3 pc3 p1 a1 n1 c1 p2 a2 n2 c2 e v W) => runStep_any pnm pa1 pn1 pc1 pa2 pn2 pc2 pa3 pn3 pc3 A p1 a1 n1 c1 l1 e v W h.pr h.s1)
  have qs := Lib.hid (fun W (h : LSt A l1 l2 w pnm pa1 pn1 pc1 pa2 pn2 pc2 pa3 pn3 pc3 p1 a1 n1 c1 p2 a2 n2 c2 e v W) => runSame_any p1 p2 a1 a2 n1 n2 c1 c2 l1 l2 W h.s1 h.s2)
  have qr := Lib.hid (fun W (h : LSt A l1 l2 w pnm pa1 pn1 pc1 pa2 pn2 pc2 pa3 pn3 pc3 p1 a1 n1 c1 p2 a2 n2 c2 e v W) => rSame_any p1 p2 a1 a2 n1 n2 c1 c2 l1 l2 W h.s1 h.s2)
  have qk := Lib.hid (fun W (h : LSt A l1 l2 w pnm pa1 pn1 pc1 pa2 pn2 pc2 pa3 pn3 pc3 p1 a1 n1 c1 p2 a2 n2 c2 e v W) => rcheckP_any ⟨pnm, pa1, pn1, pc1, pa2, pn2, pc2, pa3, pn3, pc3⟩ A hA W h.pr)
  have qh := Lib.hid (fun W (h : LSt A l1 l2 w pnm pa1 pn1 pc1 pa2 pn2 pc2 pa3 pn3 pc3 p1 a1 n1 c1 p2 a2 n2 c2 e v W) => runRight_any pnm pa1 pn1 pc1 pa2 pn2 pc2 pa3 pn3 pc3 A p1 a1 n1 c1 l1 W h.pr h.s1)
  have qg := Lib.hid (fun W (h : LSt A l1 l2 w pnm pa1 pn1 pc1 pa2 pn2 pc2 pa3 pn3 pc3 p1 a1 n1 c1 p2 a2 n2 c2 e v W) => rRight_any pnm pa1 pn1 pc1 pa2 pn2 pc2 pa3 pn3 pc3 A p1 a1 n1 c1 l1 W h.pr h.s1)
  clear hu0 b0 L0 h h1 h2
  rw [hg] at qA
  have kx0 := L.out.b0.cell 0
  have kx1 := L.out.b0.cell 1
  have kx2 := L.out.b0.cell 2
  have kx3 := L.out.b0.cell 3
  have ix0 := L.out.b1.cell 0
  have ix1 := L.out.b1.cell 1
  simp at kx0 kx1 kx2 kx3 ix0 ix1
  rw [hu0'.out] at kx0 kx1 kx2 kx3 ix0 ix1
  go_enter Tryd.func3, Tryd.ntmps3
  go_wp2_with fail
  rw [← hu0'.out]
  with_reducible refine (qA.out _ L.out).mono ?_
  rintro e u1 ⟨rfl, bu1⟩
  replace L := Lib.hid (L.out.below bu1)
  clear bu1
  clear kx0 kx1 kx2 kx3 ix0 ix1
  go_wp2_with fail
  with_reducible refine (QL.out _).mono ?_
  rintro e u2 ⟨rfl, bu2⟩
  replace L := Lib.hid (L.out.below bu2)
  clear bu2
  go_wp2
  go_ret
  exact ⟨rfl, L.out.bel⟩
set_option maxRecDepth 100000 in
set_option maxHeartbeats 8000000 in
theorem rsteps_big2 (pnm : ByteArray) (pa1 : Option Addr) (pn1 pc1 : Nat) (pa2 : Option Addr) (pn2 pc2 : Nat) (pa3 : Option Addr) (pn3 pc3 : Nat) (A : PD) (hA : PW A) (p1 : Int) (a1 : Option Addr) (n1 c1 : Nat) (l1 : List Int) (p2 : Int) (a2 : Option Addr) (n2 c2 : Nat) (l2 : List Int) (e v : Int) (w : World) (h : PrA w ⟨pnm, pa1, pn1, pc1, pa2, pn2, pc2, pa3, pn3, pc3⟩ A) (h1 : SL w a1 n1 c1 l1) (h2 : SL w a2 n2 c2 l2) (hg : bigR A n1 0 = false) (hh : 20 < n2) :
    Calls Tryd.prog 3 #[.agg #[.string pnm, .slice pa1 pn1 pc1, .slice pa2 pn2 pc2, .slice pa3 pn3 pc3], .agg #[.int .i64 p1, .slice a1 n1 c1], .agg #[.int .i64 p2, .slice a2 n2 c2], .agg #[.int .i64 e, .int .i64 v]] w (Gives (.bool true) w) := by
  obtain ⟨u0, hu0⟩ : ∃ u0, u0 = (((w.alloc (.cells #[.string pnm, .slice pa1 pn1 pc1, .slice pa2 pn2 pc2, .slice pa3 pn3 pc3] 26)).alloc (.cells #[.int .i64 p1, .slice a1 n1 c1] 29)).alloc (.cells #[.int .i64 p2, .slice a2 n2 c2] 29)).alloc (.cells #[.int .i64 e, .int .i64 v] 31) := ⟨_, rfl⟩
  have b0 : Below w.heap.size w u0 := by rw [hu0]; exact ((((Below.refl _ _).alloc (Nat.le_refl _) _).alloc (by simp) _).alloc (by simp; omega) _).alloc (by simp; omega) _
  have L0 : LSt A l1 l2 w pnm pa1 pn1 pc1 pa2 pn2 pc2 pa3 pn3 pc3 p1 a1 n1 c1 p2 a2 n2 c2 e v u0 := ⟨h.below b0, h1.below b0, h2.below b0, by rw [hu0]; exact (((Holds.new w _ _).alloc _).alloc _).alloc _, by rw [hu0]; have q := ((Holds.new (w.alloc (.cells #[.string pnm, .slice pa1 pn1 pc1, .slice pa2 pn2 pc2, .slice pa3 pn3 pc3] 26)) 29 #[.int .i64 p1, .slice a1 n1 c1]).alloc (.cells #[.int .i64 p2, .slice a2 n2 c2] 29)).alloc (.cells #[.int .i64 e, .int .i64 v] 31); simpa using q, by rw [hu0]; have q := (Holds.new ((w.alloc (.cells #[.string pnm, .slice pa1 pn1 pc1, .slice pa2 pn2 pc2, .slice pa3 pn3 pc3] 26)).alloc (.cells #[.int .i64 p1, .slice a1 n1 c1] 29)) 29 #[.int .i64 p2, .slice a2 n2 c2]).alloc (.cells #[.int .i64 e, .int .i64 v] 31); simpa using q, by rw [hu0]; have q := Holds.new (((w.alloc (.cells #[.string pnm, .slice pa1 pn1 pc1, .slice pa2 pn2 pc2, .slice pa3 pn3 pc3] 26)).alloc (.cells #[.int .i64 p1, .slice a1 n1 c1] 29)).alloc (.cells #[.int .i64 p2, .slice a2 n2 c2] 29)) 31 #[.int .i64 e, .int .i64 v]; simpa using q, b0⟩
  have L := Lib.hid L0
  have m1 : Hid (n1 ≤ 9223372036854775807) := Lib.hid (by have := h1.max; have := h1.cap; omega)
  have m2 : Hid (n2 ≤ 9223372036854775807) := Lib.hid (by have := h2.max; have := h2.cap; omega)
  have hu0' := Lib.hid hu0
  have QL := Lib.hid rlives_any
  have qA := Lib.hid (fun W (h : LSt A l1 l2 w pnm pa1 pn1 pc1 pa2 pn2 pc2 pa3 pn3 pc3 p1 a1 n1 c1 p2 a2 n2 c2 e v W) => rlarge_any pnm pa1 pn1 pc1 pa2 pn2 pc2 pa3 pn3 pc3 A hA a1 n1 c1 none 0 0 m1.out (by omega) W h.pr)
  have qt := Lib.hid (fun W (h : LSt A l1 l2 w pnm pa1 pn1 pc1 pa2 pn2 pc2 pa3 pn3 pc3 p1 a1 n1 c1 p2 a2 n2 c2 e v W) => runStep_any pnm pa1 pn1 pc1 pa2 pn2 pc2 pa3 pn3 pc3 A p1 a1 n1 c1 l1 e v W h.pr h.s1)
  have qs := Lib.hid (fun W (h : LSt A l1 l2 w pnm pa1 pn1 pc1 pa2 pn2 pc2 pa3 pn3 pc3 p1 a1 n1 c1 p2 a2 n2 c2 e v W) => runSame_any p1 p2 a1 a2 n1 n2 c1 c2 l1 l2 W h.s1 h.s2)
  have qr := Lib.hid (fun W (h : LSt A l1 l2 w pnm pa1 pn1 pc1 pa2 pn2 pc2 pa3 pn3 pc3 p1 a1 n1 c1 p2 a2 n2 c2 e v W) => rSame_any p1 p2 a1 a2 n1 n2 c1 c2 l1 l2 W h.s1 h.s2)
  have qk := Lib.hid (fun W (h : LSt A l1 l2 w pnm pa1 pn1 pc1 pa2 pn2 pc2 pa3 pn3 pc3 p1 a1 n1 c1 p2 a2 n2 c2 e v W) => rcheckP_any ⟨pnm, pa1, pn1, pc1, pa2, pn2, pc2, pa3, pn3, pc3⟩ A hA W h.pr)
  have qh := Lib.hid (fun W (h : LSt A l1 l2 w pnm pa1 pn1 pc1 pa2 pn2 pc2 pa3 pn3 pc3 p1 a1 n1 c1 p2 a2 n2 c2 e v W) => runRight_any pnm pa1 pn1 pc1 pa2 pn2 pc2 pa3 pn3 pc3 A p1 a1 n1 c1 l1 W h.pr h.s1)
  have qg := Lib.hid (fun W (h : LSt A l1 l2 w pnm pa1 pn1 pc1 pa2 pn2 pc2 pa3 pn3 pc3 p1 a1 n1 c1 p2 a2 n2 c2 e v W) => rRight_any pnm pa1 pn1 pc1 pa2 pn2 pc2 pa3 pn3 pc3 A p1 a1 n1 c1 l1 W h.pr h.s1)
  clear hu0 b0 L0 h h1 h2
  rw [hg] at qA
  have hhi : (20 : Int) < (n2 : Int) := by omega
  have kx0 := L.out.b0.cell 0
  have kx1 := L.out.b0.cell 1
  have kx2 := L.out.b0.cell 2
  have kx3 := L.out.b0.cell 3
  have ix0 := L.out.b1.cell 0
  have ix1 := L.out.b1.cell 1
  simp at kx0 kx1 kx2 kx3 ix0 ix1
  rw [hu0'.out] at kx0 kx1 kx2 kx3 ix0 ix1
  go_enter Tryd.func3, Tryd.ntmps3
  go_wp2_with fail
  rw [← hu0'.out]
  with_reducible refine (qA.out _ L.out).mono ?_
  rintro e u1 ⟨rfl, bu1⟩
  replace L := Lib.hid (L.out.below bu1)
  clear bu1
  clear kx0 kx1 kx2 kx3 ix0 ix1
  have jx0 := L.out.b2.cell 0
  have jx1 := L.out.b2.cell 1
  simp at jx0 jx1
  go_upto_region 2 with (fail)
  clear jx0 jx1
  go_wp2_with fail
  with_reducible refine (QL.out _).mono ?_
  rintro e u2 ⟨rfl, bu2⟩
  replace L := Lib.hid (L.out.below bu2)
  clear bu2
  go_wp2
  go_ret
  exact ⟨rfl, L.out.bel⟩
set_option maxRecDepth 100000 in
set_option maxHeartbeats 8000000 in
theorem rsteps_no (pnm : ByteArray) (pa1 : Option Addr) (pn1 pc1 : Nat) (pa2 : Option Addr) (pn2 pc2 : Nat) (pa3 : Option Addr) (pn3 pc3 : Nat) (A : PD) (hA : PW A) (p1 : Int) (a1 : Option Addr) (n1 c1 : Nat) (l1 : List Int) (p2 : Int) (a2 : Option Addr) (n2 c2 : Nat) (l2 : List Int) (e v : Int) (w : World) (h : PrA w ⟨pnm, pa1, pn1, pc1, pa2, pn2, pc2, pa3, pn3, pc3⟩ A) (h1 : SL w a1 n1 c1 l1) (h2 : SL w a2 n2 c2 l2) (hg : bigR A n1 0 = false) (hh : ¬ 20 < n2) (hp : progB A = false) :
    Calls Tryd.prog 3 #[.agg #[.string pnm, .slice pa1 pn1 pc1, .slice pa2 pn2 pc2, .slice pa3 pn3 pc3], .agg #[.int .i64 p1, .slice a1 n1 c1], .agg #[.int .i64 p2, .slice a2 n2 c2], .agg #[.int .i64 e, .int .i64 v]] w (Gives (.bool true) w) := by
  obtain ⟨u0, hu0⟩ : ∃ u0, u0 = (((w.alloc (.cells #[.string pnm, .slice pa1 pn1 pc1, .slice pa2 pn2 pc2, .slice pa3 pn3 pc3] 26)).alloc (.cells #[.int .i64 p1, .slice a1 n1 c1] 29)).alloc (.cells #[.int .i64 p2, .slice a2 n2 c2] 29)).alloc (.cells #[.int .i64 e, .int .i64 v] 31) := ⟨_, rfl⟩
  have b0 : Below w.heap.size w u0 := by rw [hu0]; exact ((((Below.refl _ _).alloc (Nat.le_refl _) _).alloc (by simp) _).alloc (by simp; omega) _).alloc (by simp; omega) _
  have L0 : LSt A l1 l2 w pnm pa1 pn1 pc1 pa2 pn2 pc2 pa3 pn3 pc3 p1 a1 n1 c1 p2 a2 n2 c2 e v u0 := ⟨h.below b0, h1.below b0, h2.below b0, by rw [hu0]; exact (((Holds.new w _ _).alloc _).alloc _).alloc _, by rw [hu0]; have q := ((Holds.new (w.alloc (.cells #[.string pnm, .slice pa1 pn1 pc1, .slice pa2 pn2 pc2, .slice pa3 pn3 pc3] 26)) 29 #[.int .i64 p1, .slice a1 n1 c1]).alloc (.cells #[.int .i64 p2, .slice a2 n2 c2] 29)).alloc (.cells #[.int .i64 e, .int .i64 v] 31); simpa using q, by rw [hu0]; have q := (Holds.new ((w.alloc (.cells #[.string pnm, .slice pa1 pn1 pc1, .slice pa2 pn2 pc2, .slice pa3 pn3 pc3] 26)).alloc (.cells #[.int .i64 p1, .slice a1 n1 c1] 29)) 29 #[.int .i64 p2, .slice a2 n2 c2]).alloc (.cells #[.int .i64 e, .int .i64 v] 31); simpa using q, by rw [hu0]; have q := Holds.new (((w.alloc (.cells #[.string pnm, .slice pa1 pn1 pc1, .slice pa2 pn2 pc2, .slice pa3 pn3 pc3] 26)).alloc (.cells #[.int .i64 p1, .slice a1 n1 c1] 29)).alloc (.cells #[.int .i64 p2, .slice a2 n2 c2] 29)) 31 #[.int .i64 e, .int .i64 v]; simpa using q, b0⟩
  have L := Lib.hid L0
  have m1 : Hid (n1 ≤ 9223372036854775807) := Lib.hid (by have := h1.max; have := h1.cap; omega)
  have m2 : Hid (n2 ≤ 9223372036854775807) := Lib.hid (by have := h2.max; have := h2.cap; omega)
  have hu0' := Lib.hid hu0
  have QL := Lib.hid rlives_any
  have qA := Lib.hid (fun W (h : LSt A l1 l2 w pnm pa1 pn1 pc1 pa2 pn2 pc2 pa3 pn3 pc3 p1 a1 n1 c1 p2 a2 n2 c2 e v W) => rlarge_any pnm pa1 pn1 pc1 pa2 pn2 pc2 pa3 pn3 pc3 A hA a1 n1 c1 none 0 0 m1.out (by omega) W h.pr)
  have qt := Lib.hid (fun W (h : LSt A l1 l2 w pnm pa1 pn1 pc1 pa2 pn2 pc2 pa3 pn3 pc3 p1 a1 n1 c1 p2 a2 n2 c2 e v W) => runStep_any pnm pa1 pn1 pc1 pa2 pn2 pc2 pa3 pn3 pc3 A p1 a1 n1 c1 l1 e v W h.pr h.s1)
  have qs := Lib.hid (fun W (h : LSt A l1 l2 w pnm pa1 pn1 pc1 pa2 pn2 pc2 pa3 pn3 pc3 p1 a1 n1 c1 p2 a2 n2 c2 e v W) => runSame_any p1 p2 a1 a2 n1 n2 c1 c2 l1 l2 W h.s1 h.s2)
  have qr := Lib.hid (fun W (h : LSt A l1 l2 w pnm pa1 pn1 pc1 pa2 pn2 pc2 pa3 pn3 pc3 p1 a1 n1 c1 p2 a2 n2 c2 e v W) => rSame_any p1 p2 a1 a2 n1 n2 c1 c2 l1 l2 W h.s1 h.s2)
  have qk := Lib.hid (fun W (h : LSt A l1 l2 w pnm pa1 pn1 pc1 pa2 pn2 pc2 pa3 pn3 pc3 p1 a1 n1 c1 p2 a2 n2 c2 e v W) => rcheckP_any ⟨pnm, pa1, pn1, pc1, pa2, pn2, pc2, pa3, pn3, pc3⟩ A hA W h.pr)
  have qh := Lib.hid (fun W (h : LSt A l1 l2 w pnm pa1 pn1 pc1 pa2 pn2 pc2 pa3 pn3 pc3 p1 a1 n1 c1 p2 a2 n2 c2 e v W) => runRight_any pnm pa1 pn1 pc1 pa2 pn2 pc2 pa3 pn3 pc3 A p1 a1 n1 c1 l1 W h.pr h.s1)
  have qg := Lib.hid (fun W (h : LSt A l1 l2 w pnm pa1 pn1 pc1 pa2 pn2 pc2 pa3 pn3 pc3 p1 a1 n1 c1 p2 a2 n2 c2 e v W) => rRight_any pnm pa1 pn1 pc1 pa2 pn2 pc2 pa3 pn3 pc3 A p1 a1 n1 c1 l1 W h.pr h.s1)
  clear hu0 b0 L0 h h1 h2
  rw [hg] at qA
  have hhi : ¬ (20 : Int) < (n2 : Int) := by omega
  have e1 : stepS A p1 l1 e v = ((0, []), 110) := by unfold stepS; rw [hp]; rfl
  rw [e1] at qt
  rw [hp] at qk qh
  rw [Bool.false_and] at qh
  clear e1
  have kx0 := L.out.b0.cell 0
  have kx1 := L.out.b0.cell 1
  have kx2 := L.out.b0.cell 2
  have kx3 := L.out.b0.cell 3
  have ix0 := L.out.b1.cell 0
  have ix1 := L.out.b1.cell 1
  simp at kx0 kx1 kx2 kx3 ix0 ix1
  rw [hu0'.out] at kx0 kx1 kx2 kx3 ix0 ix1
  go_enter Tryd.func3, Tryd.ntmps3
  go_wp2_with fail
  rw [← hu0'.out]
  with_reducible refine (qA.out _ L.out).mono ?_
  rintro e u1 ⟨rfl, bu1⟩
  replace L := Lib.hid (L.out.below bu1)
  clear bu1
  clear kx0 kx1 kx2 kx3 ix0 ix1
  have jx0 := L.out.b2.cell 0
  have jx1 := L.out.b2.cell 1
  simp at jx0 jx1
  go_upto_region 3 with (fail)
  clear jx0 jx1
  have kx0 := L.out.b0.cell 0
  have kx1 := L.out.b0.cell 1
  have kx2 := L.out.b0.cell 2
  have kx3 := L.out.b0.cell 3
  have ix0 := L.out.b1.cell 0
  have ix1 := L.out.b1.cell 1
  have mx0 := L.out.b3.cell 0
  have mx1 := L.out.b3.cell 1
  simp at kx0 kx1 kx2 kx3 ix0 ix1 mx0 mx1
  go_wp2_with fail
  with_reducible refine (qt.out _ L.out).mono ?_
  rintro e u2 ⟨a', n', c', rfl, s', bu2, -⟩
  replace L := Lib.hid (L.out.below bu2)
  clear bu2
  clear kx0 kx1 kx2 kx3 ix0 ix1 mx0 mx1
  obtain rfl : n' = 0 := s'.len
  obtain ⟨u3, hu3⟩ : ∃ u3, u3 = u2.alloc (.cells #[.int .i64 (0), .slice a' 0 c'] 29) := ⟨_, rfl⟩
  have bu3 : Below u2.heap.size u2 u3 := by rw [hu3]; exact box_below _ _ _
  have X : Hid (Holds u3 u2.heap.size 29 #[.int .i64 (0), .slice a' 0 c']) := Lib.hid (by rw [hu3]; exact Holds.new _ _ _)
  have T := Lib.hid (s'.below bu3)
  replace L := Lib.hid (L.out.below bu3)
  have hu3' := Lib.hid hu3
  clear bu3 hu3 s'
  go_upto_region 4 with (fail)
  rw [← hu3'.out]
  clear hu3'
  generalize u2.heap.size = gx at X ⊢
  have LF : ∀ W, Below u3.heap.size u3 W → LSt A l1 l2 w pnm pa1 pn1 pc1 pa2 pn2 pc2 pa3 pn3 pc3 p1 a1 n1 c1 p2 a2 n2 c2 e v W ∧ Holds W gx 29 #[.int .i64 (0), .slice a' 0 c'] ∧ SL W a' 0 c' [] := fun W hW => ⟨L.out.below hW, X.out.below hW X.out.lt, T.out.below hW⟩
  have f0 : ∀ W, Below u3.heap.size u3 W → W.cell? ⟨w.heap.size + 1, 0, none⟩ = some (.int .i64 p1) := fun W hW => (LF W hW).1.b1.cell 0
  have f1 : ∀ W, Below u3.heap.size u3 W → W.cell? ⟨w.heap.size + 1, 1, none⟩ = some (.slice a1 n1 c1) := fun W hW => (LF W hW).1.b1.cell 1
  have g0 : ∀ W, Below u3.heap.size u3 W → W.cell? ⟨w.heap.size + 2, 0, none⟩ = some (.int .i64 p2) := fun W hW => (LF W hW).1.b2.cell 0
  have g1 : ∀ W, Below u3.heap.size u3 W → W.cell? ⟨w.heap.size + 2, 1, none⟩ = some (.slice a2 n2 c2) := fun W hW => (LF W hW).1.b2.cell 1
  clear X T L
  generalize sameT p1 p2 l1 l2 = sm at *
  go_wp2
  refine wp_drawn (by kernel_rfl) (fun hHeld => ?_)
  refine wpAnyH_ready (rs := [0]) (by kernel_rfl) (by simp) ?_
  refine AllReadyH.cons (o := { dst := some 31, op := Go.Op.call { callee := Go.Callee.value (Go.Operand.func 6), args := #[], argTypes := #[] }, type := 4, pos := "law.go:33", after := #[], guard := none }) rfl (fun K hK => ?_) AllReadyH.nil
  go_simp
  with_reducible refine (QL.out _).mono ?_
  rintro e t0 ⟨rfl, b0⟩
  have hB0 := hHeld.trans (b0.mono hHeld.size)
  go_simp
  refine hK.out _ _ (hB0) (fun hHeld => ?_)
  clear hK K
  try simp only [Act.put, List.setIfInBounds_toArray, List.set_cons_zero, List.set_cons_succ]
  refine wpAnyH_now hHeld (fun hHeld => ?_)
  replace LF := rebase LF (hB0)
  replace f0 := rebase f0 (hB0)
  replace f1 := rebase f1 (hB0)
  replace g0 := rebase g0 (hB0)
  replace g1 := rebase g1 (hB0)
  refine wpAnyH_take (i := 1) (oi := { dst := some 32, op := Go.Op.unOp Go.UnOp.not 4 (Go.Operand.tmp 31), type := 4, pos := "law.go:33", after := #[{ on := 0, ground := Go.Ground.data }], guard := none }) (v := ?v1) rfl (by kernel_rfl) (by kernel_rfl) (by kernel_rfl) (fun _ _ _ h => h) (Or.inl ⟨by kernel_rfl, ?h1⟩) (by assumption) ?r1
  case h1 => (intro w hSw; (try dsimp only at hSw); go_simp; try with_reducible rfl)
  try simp only [Act.put, List.setIfInBounds_toArray, List.set_cons_zero, List.set_cons_succ]
  refine wpAnyH_take (i := 2) (oi := { dst := some 33, op := Go.Op.move (Go.Operand.tmp 32), type := 4, pos := "law.go:33", after := #[{ on := 1, ground := Go.Ground.data }, { on := 0, ground := Go.Ground.chain }], guard := none }) (v := ?v2) rfl (by kernel_rfl) (by kernel_rfl) (by kernel_rfl) (fun _ _ _ h => h) (Or.inl ⟨by kernel_rfl, ?h2⟩) (by assumption) ?r2
  case h2 => (intro w hSw; (try dsimp only at hSw); go_simp; try with_reducible rfl)
  try simp only [Act.put, List.setIfInBounds_toArray, List.set_cons_zero, List.set_cons_succ]
  refine wpAnyH_take (i := 3) (oi := { dst := some 34, op := Go.Op.load 29 (Go.Operand.tmp 5), type := 29, pos := "law.go:33", after := #[{ on := 2, ground := Go.Ground.guard }], guard := some (2, false) }) (v := ?v3) rfl (by kernel_rfl) (by kernel_rfl) (by kernel_rfl) (fun _ _ _ h => h) (Or.inl ⟨by kernel_rfl, ?h3⟩) (by assumption) ?r3
  case h3 => (intro w hSw; (try dsimp only at hSw); go_simp; try with_reducible rfl)
  try simp only [Act.put, List.setIfInBounds_toArray, List.set_cons_zero, List.set_cons_succ]
  refine wpAnyH_take (i := 4) (oi := { dst := some 35, op := Go.Op.load 29 (Go.Operand.tmp 6), type := 29, pos := "law.go:33", after := #[{ on := 2, ground := Go.Ground.guard }], guard := some (2, false) }) (v := ?v4) rfl (by kernel_rfl) (by kernel_rfl) (by kernel_rfl) (fun _ _ _ h => h) (Or.inl ⟨by kernel_rfl, ?h4⟩) (by assumption) ?r4
  case h4 => (intro w hSw; (try dsimp only at hSw); go_simp; try with_reducible rfl)
  try simp only [Act.put, List.setIfInBounds_toArray, List.set_cons_zero, List.set_cons_succ]
  refine wpAnyH_take (i := 6) (oi := { dst := some 37, op := Go.Op.load 29 (Go.Operand.tmp 5), type := 29, pos := "law.go:33", after := #[{ on := 2, ground := Go.Ground.guard }], guard := some (2, false) }) (v := ?v5) rfl (by kernel_rfl) (by kernel_rfl) (by kernel_rfl) (fun _ _ _ h => h) (Or.inl ⟨by kernel_rfl, ?h5⟩) (by assumption) ?r5
  case h5 => (intro w hSw; (try dsimp only at hSw); go_simp; try with_reducible rfl)
  try simp only [Act.put, List.setIfInBounds_toArray, List.set_cons_zero, List.set_cons_succ]
  refine wpAnyH_take (i := 7) (oi := { dst := some 38, op := Go.Op.load 29 (Go.Operand.tmp 6), type := 29, pos := "law.go:33", after := #[{ on := 2, ground := Go.Ground.guard }], guard := some (2, false) }) (v := ?v6) rfl (by kernel_rfl) (by kernel_rfl) (by kernel_rfl) (fun _ _ _ h => h) (Or.inl ⟨by kernel_rfl, ?h6⟩) (by assumption) ?r6
  case h6 => (intro w hSw; (try dsimp only at hSw); go_simp; try with_reducible rfl)
  try simp only [Act.put, List.setIfInBounds_toArray, List.set_cons_zero, List.set_cons_succ]
  refine wpAnyH_ready (rs := [5]) (by kernel_rfl) (by simp) ?_
  refine AllReadyH.cons (o := { dst := some 36, op := Go.Op.call { callee := Go.Callee.value (Go.Operand.func 8), args := #[Go.Operand.tmp 34, Go.Operand.tmp 35], argTypes := #[29, 29] }, type := 4, pos := "law.go:33", after := #[{ on := 3, ground := Go.Ground.data }, { on := 4, ground := Go.Ground.data }, { on := 2, ground := Go.Ground.chain }, { on := 2, ground := Go.Ground.guard }], guard := some (2, false) }) rfl (fun K hK => ?_) AllReadyH.nil
  go_simp
  with_reducible refine (qs.out _ (LF _ hHeld).1).mono ?_
  rintro e t5 ⟨rfl, b5⟩
  have hB5 := hHeld.trans (b5.mono hHeld.size)
  go_simp
  refine hK.out _ _ (hB5) (fun hHeld => ?_)
  clear hK K
  try simp only [Act.put, List.setIfInBounds_toArray, List.set_cons_zero, List.set_cons_succ]
  refine wpAnyH_now hHeld (fun hHeld => ?_)
  replace LF := rebase LF (hB5)
  replace f0 := rebase f0 (hB5)
  replace f1 := rebase f1 (hB5)
  replace g0 := rebase g0 (hB5)
  replace g1 := rebase g1 (hB5)
  refine wpAnyH_ready (rs := [8]) (by kernel_rfl) (by simp) ?_
  refine AllReadyH.cons (o := { dst := some 39, op := Go.Op.call { callee := Go.Callee.value (Go.Operand.func 9), args := #[Go.Operand.tmp 37, Go.Operand.tmp 38], argTypes := #[29, 29] }, type := 4, pos := "law.go:33", after := #[{ on := 6, ground := Go.Ground.data }, { on := 7, ground := Go.Ground.data }, { on := 5, ground := Go.Ground.chain }, { on := 2, ground := Go.Ground.guard }], guard := some (2, false) }) rfl (fun K hK => ?_) AllReadyH.nil
  go_simp
  with_reducible refine (qr.out _ (LF _ hHeld).1).mono ?_
  rintro e t8 ⟨rfl, b8⟩
  have hB8 := hHeld.trans (b8.mono hHeld.size)
  go_simp
  refine hK.out _ _ (hB8) (fun hHeld => ?_)
  clear hK K
  try simp only [Act.put, List.setIfInBounds_toArray, List.set_cons_zero, List.set_cons_succ]
  refine wpAnyH_now hHeld (fun hHeld => ?_)
  replace LF := rebase LF (hB8)
  replace f0 := rebase f0 (hB8)
  replace f1 := rebase f1 (hB8)
  replace g0 := rebase g0 (hB8)
  replace g1 := rebase g1 (hB8)
  refine wpAnyH_take (i := 9) (oi := { dst := some 40, op := Go.Op.binOp Go.BinOp.neq 4 (Go.Operand.tmp 36) (Go.Operand.tmp 39) 4, type := 4, pos := "law.go:33", after := #[{ on := 5, ground := Go.Ground.data }, { on := 8, ground := Go.Ground.data }, { on := 2, ground := Go.Ground.guard }], guard := some (2, false) }) (v := ?v7) rfl (by kernel_rfl) (by kernel_rfl) (by kernel_rfl) (fun _ _ _ h => h) (Or.inl ⟨by kernel_rfl, ?h7⟩) (by assumption) ?r7
  case h7 => (intro w hSw; (try dsimp only at hSw); go_simp; try with_reducible rfl)
  try simp only [Act.put, List.setIfInBounds_toArray, List.set_cons_zero, List.set_cons_succ]
  refine wpAnyH_take (i := 10) (oi := { dst := some 41, op := Go.Op.pick (Go.Operand.tmp 33) (Go.Operand.const (Go.Value.bool true)) (Go.Operand.tmp 40), type := 4, pos := "law.go:33", after := #[{ on := 2, ground := Go.Ground.data }, { on := 9, ground := Go.Ground.data }], guard := none }) (v := ?v8) rfl (by kernel_rfl) (by kernel_rfl) (by kernel_rfl) (fun _ _ _ h => h) (Or.inl ⟨by kernel_rfl, ?h8⟩) (by assumption) ?r8
  case h8 => (intro w hSw; (try dsimp only at hSw); go_simp; try with_reducible rfl)
  try simp only [Act.put, List.setIfInBounds_toArray, List.set_cons_zero, List.set_cons_succ]
  refine wpAnyH_done (by kernel_rfl) ?_ _
  obtain ⟨Lx, Xx, Tx⟩ := LF _ hHeld
  replace L := Lib.hid Lx
  have X := Lib.hid Xx
  have T := Lib.hid Tx
  clear LF f0 f1 g0 g1 hHeld Lx Xx Tx
  have kx0 := L.out.b0.cell 0
  have kx1 := L.out.b0.cell 1
  have kx2 := L.out.b0.cell 2
  have kx3 := L.out.b0.cell 3
  simp at kx0 kx1 kx2 kx3
  go_wp2_with fail
  with_reducible refine (qk.out _ L.out).mono ?_
  rintro e u6 ⟨rfl, bu6⟩
  replace L := Lib.hid (L.out.below bu6)
  replace X := Lib.hid (X.out.below bu6 X.out.lt)
  replace T := Lib.hid (T.out.below bu6)
  clear bu6 kx0 kx1 kx2 kx3
  have o0 := X.out.cell 0
  have o1 := X.out.cell 1
  simp at o0 o1
  have qz := Lib.hid (rSame_any 0 0 a' none 0 0 c' 0 [] [] u6 T.out (SL.nil _))
  rw [same_refl] at qz
  go_wp2_with fail
  with_reducible refine qz.out.mono ?_
  rintro e u7 ⟨rfl, bu7⟩
  replace L := Lib.hid (L.out.below bu7)
  clear bu7 o0 o1 qz
  have kx0 := L.out.b0.cell 0
  have kx1 := L.out.b0.cell 1
  have kx2 := L.out.b0.cell 2
  have kx3 := L.out.b0.cell 3
  have ix0 := L.out.b1.cell 0
  have ix1 := L.out.b1.cell 1
  simp at kx0 kx1 kx2 kx3 ix0 ix1
  go_wp2_with fail
  with_reducible refine (qh.out _ L.out).mono ?_
  rintro e u8 ⟨rfl, bu8⟩
  replace L := Lib.hid (L.out.below bu8)
  clear bu8
  clear kx0 kx1 kx2 kx3 ix0 ix1
  go_wp2
  go_ret
  exact ⟨rfl, L.out.bel⟩
set_option maxRecDepth 100000 in
set_option maxHeartbeats 8000000 in
theorem rsteps_bad (pnm : ByteArray) (pa1 : Option Addr) (pn1 pc1 : Nat) (pa2 : Option Addr) (pn2 pc2 : Nat) (pa3 : Option Addr) (pn3 pc3 : Nat) (A : PD) (hA : PW A) (p1 : Int) (a1 : Option Addr) (n1 c1 : Nat) (l1 : List Int) (p2 : Int) (a2 : Option Addr) (n2 c2 : Nat) (l2 : List Int) (e v : Int) (w : World) (h : PrA w ⟨pnm, pa1, pn1, pc1, pa2, pn2, pc2, pa3, pn3, pc3⟩ A) (h1 : SL w a1 n1 c1 l1) (h2 : SL w a2 n2 c2 l2) (hg : bigR A n1 0 = false) (hh : ¬ 20 < n2) (hp : progB A = true) (hst : stateB A p1 l1 = false) :
    Calls Tryd.prog 3 #[.agg #[.string pnm, .slice pa1 pn1 pc1, .slice pa2 pn2 pc2, .slice pa3 pn3 pc3], .agg #[.int .i64 p1, .slice a1 n1 c1], .agg #[.int .i64 p2, .slice a2 n2 c2], .agg #[.int .i64 e, .int .i64 v]] w (Gives (.bool true) w) := by
  obtain ⟨u0, hu0⟩ : ∃ u0, u0 = (((w.alloc (.cells #[.string pnm, .slice pa1 pn1 pc1, .slice pa2 pn2 pc2, .slice pa3 pn3 pc3] 26)).alloc (.cells #[.int .i64 p1, .slice a1 n1 c1] 29)).alloc (.cells #[.int .i64 p2, .slice a2 n2 c2] 29)).alloc (.cells #[.int .i64 e, .int .i64 v] 31) := ⟨_, rfl⟩
  have b0 : Below w.heap.size w u0 := by rw [hu0]; exact ((((Below.refl _ _).alloc (Nat.le_refl _) _).alloc (by simp) _).alloc (by simp; omega) _).alloc (by simp; omega) _
  have L0 : LSt A l1 l2 w pnm pa1 pn1 pc1 pa2 pn2 pc2 pa3 pn3 pc3 p1 a1 n1 c1 p2 a2 n2 c2 e v u0 := ⟨h.below b0, h1.below b0, h2.below b0, by rw [hu0]; exact (((Holds.new w _ _).alloc _).alloc _).alloc _, by rw [hu0]; have q := ((Holds.new (w.alloc (.cells #[.string pnm, .slice pa1 pn1 pc1, .slice pa2 pn2 pc2, .slice pa3 pn3 pc3] 26)) 29 #[.int .i64 p1, .slice a1 n1 c1]).alloc (.cells #[.int .i64 p2, .slice a2 n2 c2] 29)).alloc (.cells #[.int .i64 e, .int .i64 v] 31); simpa using q, by rw [hu0]; have q := (Holds.new ((w.alloc (.cells #[.string pnm, .slice pa1 pn1 pc1, .slice pa2 pn2 pc2, .slice pa3 pn3 pc3] 26)).alloc (.cells #[.int .i64 p1, .slice a1 n1 c1] 29)) 29 #[.int .i64 p2, .slice a2 n2 c2]).alloc (.cells #[.int .i64 e, .int .i64 v] 31); simpa using q, by rw [hu0]; have q := Holds.new (((w.alloc (.cells #[.string pnm, .slice pa1 pn1 pc1, .slice pa2 pn2 pc2, .slice pa3 pn3 pc3] 26)).alloc (.cells #[.int .i64 p1, .slice a1 n1 c1] 29)).alloc (.cells #[.int .i64 p2, .slice a2 n2 c2] 29)) 31 #[.int .i64 e, .int .i64 v]; simpa using q, b0⟩
  have L := Lib.hid L0
  have m1 : Hid (n1 ≤ 9223372036854775807) := Lib.hid (by have := h1.max; have := h1.cap; omega)
  have m2 : Hid (n2 ≤ 9223372036854775807) := Lib.hid (by have := h2.max; have := h2.cap; omega)
  have hu0' := Lib.hid hu0
  have QL := Lib.hid rlives_any
  have qA := Lib.hid (fun W (h : LSt A l1 l2 w pnm pa1 pn1 pc1 pa2 pn2 pc2 pa3 pn3 pc3 p1 a1 n1 c1 p2 a2 n2 c2 e v W) => rlarge_any pnm pa1 pn1 pc1 pa2 pn2 pc2 pa3 pn3 pc3 A hA a1 n1 c1 none 0 0 m1.out (by omega) W h.pr)
  have qt := Lib.hid (fun W (h : LSt A l1 l2 w pnm pa1 pn1 pc1 pa2 pn2 pc2 pa3 pn3 pc3 p1 a1 n1 c1 p2 a2 n2 c2 e v W) => runStep_any pnm pa1 pn1 pc1 pa2 pn2 pc2 pa3 pn3 pc3 A p1 a1 n1 c1 l1 e v W h.pr h.s1)
  have qs := Lib.hid (fun W (h : LSt A l1 l2 w pnm pa1 pn1 pc1 pa2 pn2 pc2 pa3 pn3 pc3 p1 a1 n1 c1 p2 a2 n2 c2 e v W) => runSame_any p1 p2 a1 a2 n1 n2 c1 c2 l1 l2 W h.s1 h.s2)
  have qr := Lib.hid (fun W (h : LSt A l1 l2 w pnm pa1 pn1 pc1 pa2 pn2 pc2 pa3 pn3 pc3 p1 a1 n1 c1 p2 a2 n2 c2 e v W) => rSame_any p1 p2 a1 a2 n1 n2 c1 c2 l1 l2 W h.s1 h.s2)
  have qk := Lib.hid (fun W (h : LSt A l1 l2 w pnm pa1 pn1 pc1 pa2 pn2 pc2 pa3 pn3 pc3 p1 a1 n1 c1 p2 a2 n2 c2 e v W) => rcheckP_any ⟨pnm, pa1, pn1, pc1, pa2, pn2, pc2, pa3, pn3, pc3⟩ A hA W h.pr)
  have qh := Lib.hid (fun W (h : LSt A l1 l2 w pnm pa1 pn1 pc1 pa2 pn2 pc2 pa3 pn3 pc3 p1 a1 n1 c1 p2 a2 n2 c2 e v W) => runRight_any pnm pa1 pn1 pc1 pa2 pn2 pc2 pa3 pn3 pc3 A p1 a1 n1 c1 l1 W h.pr h.s1)
  have qg := Lib.hid (fun W (h : LSt A l1 l2 w pnm pa1 pn1 pc1 pa2 pn2 pc2 pa3 pn3 pc3 p1 a1 n1 c1 p2 a2 n2 c2 e v W) => rRight_any pnm pa1 pn1 pc1 pa2 pn2 pc2 pa3 pn3 pc3 A p1 a1 n1 c1 l1 W h.pr h.s1)
  clear hu0 b0 L0 h h1 h2
  rw [hg] at qA
  have hhi : ¬ (20 : Int) < (n2 : Int) := by omega
  have e1 : stepS A p1 l1 e v = ((0, []), 1) := by unfold stepS; rw [hp, hst]; rfl
  rw [e1] at qt
  rw [hp] at qk
  rw [hst] at qg
  rw [hp, hst, Bool.and_false] at qh
  clear e1
  have kx0 := L.out.b0.cell 0
  have kx1 := L.out.b0.cell 1
  have kx2 := L.out.b0.cell 2
  have kx3 := L.out.b0.cell 3
  have ix0 := L.out.b1.cell 0
  have ix1 := L.out.b1.cell 1
  simp at kx0 kx1 kx2 kx3 ix0 ix1
  rw [hu0'.out] at kx0 kx1 kx2 kx3 ix0 ix1
  go_enter Tryd.func3, Tryd.ntmps3
  go_wp2_with fail
  rw [← hu0'.out]
  with_reducible refine (qA.out _ L.out).mono ?_
  rintro e u1 ⟨rfl, bu1⟩
  replace L := Lib.hid (L.out.below bu1)
  clear bu1
  clear kx0 kx1 kx2 kx3 ix0 ix1
  have jx0 := L.out.b2.cell 0
  have jx1 := L.out.b2.cell 1
  simp at jx0 jx1
  go_upto_region 3 with (fail)
  clear jx0 jx1
  have kx0 := L.out.b0.cell 0
  have kx1 := L.out.b0.cell 1
  have kx2 := L.out.b0.cell 2
  have kx3 := L.out.b0.cell 3
  have ix0 := L.out.b1.cell 0
  have ix1 := L.out.b1.cell 1
  have mx0 := L.out.b3.cell 0
  have mx1 := L.out.b3.cell 1
  simp at kx0 kx1 kx2 kx3 ix0 ix1 mx0 mx1
  go_wp2_with fail
  with_reducible refine (qt.out _ L.out).mono ?_
  rintro e u2 ⟨a', n', c', rfl, s', bu2, -⟩
  replace L := Lib.hid (L.out.below bu2)
  clear bu2
  clear kx0 kx1 kx2 kx3 ix0 ix1 mx0 mx1
  obtain rfl : n' = 0 := s'.len
  obtain ⟨u3, hu3⟩ : ∃ u3, u3 = u2.alloc (.cells #[.int .i64 (0), .slice a' 0 c'] 29) := ⟨_, rfl⟩
  have bu3 : Below u2.heap.size u2 u3 := by rw [hu3]; exact box_below _ _ _
  have X : Hid (Holds u3 u2.heap.size 29 #[.int .i64 (0), .slice a' 0 c']) := Lib.hid (by rw [hu3]; exact Holds.new _ _ _)
  have T := Lib.hid (s'.below bu3)
  replace L := Lib.hid (L.out.below bu3)
  have hu3' := Lib.hid hu3
  clear bu3 hu3 s'
  go_upto_region 4 with (fail)
  rw [← hu3'.out]
  clear hu3'
  generalize u2.heap.size = gx at X ⊢
  have LF : ∀ W, Below u3.heap.size u3 W → LSt A l1 l2 w pnm pa1 pn1 pc1 pa2 pn2 pc2 pa3 pn3 pc3 p1 a1 n1 c1 p2 a2 n2 c2 e v W ∧ Holds W gx 29 #[.int .i64 (0), .slice a' 0 c'] ∧ SL W a' 0 c' [] := fun W hW => ⟨L.out.below hW, X.out.below hW X.out.lt, T.out.below hW⟩
  have f0 : ∀ W, Below u3.heap.size u3 W → W.cell? ⟨w.heap.size + 1, 0, none⟩ = some (.int .i64 p1) := fun W hW => (LF W hW).1.b1.cell 0
  have f1 : ∀ W, Below u3.heap.size u3 W → W.cell? ⟨w.heap.size + 1, 1, none⟩ = some (.slice a1 n1 c1) := fun W hW => (LF W hW).1.b1.cell 1
  have g0 : ∀ W, Below u3.heap.size u3 W → W.cell? ⟨w.heap.size + 2, 0, none⟩ = some (.int .i64 p2) := fun W hW => (LF W hW).1.b2.cell 0
  have g1 : ∀ W, Below u3.heap.size u3 W → W.cell? ⟨w.heap.size + 2, 1, none⟩ = some (.slice a2 n2 c2) := fun W hW => (LF W hW).1.b2.cell 1
  clear X T L
  generalize sameT p1 p2 l1 l2 = sm at *
  go_wp2
  refine wp_drawn (by kernel_rfl) (fun hHeld => ?_)
  refine wpAnyH_ready (rs := [0]) (by kernel_rfl) (by simp) ?_
  refine AllReadyH.cons (o := { dst := some 31, op := Go.Op.call { callee := Go.Callee.value (Go.Operand.func 6), args := #[], argTypes := #[] }, type := 4, pos := "law.go:33", after := #[], guard := none }) rfl (fun K hK => ?_) AllReadyH.nil
  go_simp
  with_reducible refine (QL.out _).mono ?_
  rintro e t0 ⟨rfl, b0⟩
  have hB0 := hHeld.trans (b0.mono hHeld.size)
  go_simp
  refine hK.out _ _ (hB0) (fun hHeld => ?_)
  clear hK K
  try simp only [Act.put, List.setIfInBounds_toArray, List.set_cons_zero, List.set_cons_succ]
  refine wpAnyH_now hHeld (fun hHeld => ?_)
  replace LF := rebase LF (hB0)
  replace f0 := rebase f0 (hB0)
  replace f1 := rebase f1 (hB0)
  replace g0 := rebase g0 (hB0)
  replace g1 := rebase g1 (hB0)
  refine wpAnyH_take (i := 1) (oi := { dst := some 32, op := Go.Op.unOp Go.UnOp.not 4 (Go.Operand.tmp 31), type := 4, pos := "law.go:33", after := #[{ on := 0, ground := Go.Ground.data }], guard := none }) (v := ?v9) rfl (by kernel_rfl) (by kernel_rfl) (by kernel_rfl) (fun _ _ _ h => h) (Or.inl ⟨by kernel_rfl, ?h9⟩) (by assumption) ?r9
  case h9 => (intro w hSw; (try dsimp only at hSw); go_simp; try with_reducible rfl)
  try simp only [Act.put, List.setIfInBounds_toArray, List.set_cons_zero, List.set_cons_succ]
  refine wpAnyH_take (i := 2) (oi := { dst := some 33, op := Go.Op.move (Go.Operand.tmp 32), type := 4, pos := "law.go:33", after := #[{ on := 1, ground := Go.Ground.data }, { on := 0, ground := Go.Ground.chain }], guard := none }) (v := ?v10) rfl (by kernel_rfl) (by kernel_rfl) (by kernel_rfl) (fun _ _ _ h => h) (Or.inl ⟨by kernel_rfl, ?h10⟩) (by assumption) ?r10
  case h10 => (intro w hSw; (try dsimp only at hSw); go_simp; try with_reducible rfl)
  try simp only [Act.put, List.setIfInBounds_toArray, List.set_cons_zero, List.set_cons_succ]
  refine wpAnyH_take (i := 3) (oi := { dst := some 34, op := Go.Op.load 29 (Go.Operand.tmp 5), type := 29, pos := "law.go:33", after := #[{ on := 2, ground := Go.Ground.guard }], guard := some (2, false) }) (v := ?v11) rfl (by kernel_rfl) (by kernel_rfl) (by kernel_rfl) (fun _ _ _ h => h) (Or.inl ⟨by kernel_rfl, ?h11⟩) (by assumption) ?r11
  case h11 => (intro w hSw; (try dsimp only at hSw); go_simp; try with_reducible rfl)
  try simp only [Act.put, List.setIfInBounds_toArray, List.set_cons_zero, List.set_cons_succ]
  refine wpAnyH_take (i := 4) (oi := { dst := some 35, op := Go.Op.load 29 (Go.Operand.tmp 6), type := 29, pos := "law.go:33", after := #[{ on := 2, ground := Go.Ground.guard }], guard := some (2, false) }) (v := ?v12) rfl (by kernel_rfl) (by kernel_rfl) (by kernel_rfl) (fun _ _ _ h => h) (Or.inl ⟨by kernel_rfl, ?h12⟩) (by assumption) ?r12
  case h12 => (intro w hSw; (try dsimp only at hSw); go_simp; try with_reducible rfl)
  try simp only [Act.put, List.setIfInBounds_toArray, List.set_cons_zero, List.set_cons_succ]
  refine wpAnyH_take (i := 6) (oi := { dst := some 37, op := Go.Op.load 29 (Go.Operand.tmp 5), type := 29, pos := "law.go:33", after := #[{ on := 2, ground := Go.Ground.guard }], guard := some (2, false) }) (v := ?v13) rfl (by kernel_rfl) (by kernel_rfl) (by kernel_rfl) (fun _ _ _ h => h) (Or.inl ⟨by kernel_rfl, ?h13⟩) (by assumption) ?r13
  case h13 => (intro w hSw; (try dsimp only at hSw); go_simp; try with_reducible rfl)
  try simp only [Act.put, List.setIfInBounds_toArray, List.set_cons_zero, List.set_cons_succ]
  refine wpAnyH_take (i := 7) (oi := { dst := some 38, op := Go.Op.load 29 (Go.Operand.tmp 6), type := 29, pos := "law.go:33", after := #[{ on := 2, ground := Go.Ground.guard }], guard := some (2, false) }) (v := ?v14) rfl (by kernel_rfl) (by kernel_rfl) (by kernel_rfl) (fun _ _ _ h => h) (Or.inl ⟨by kernel_rfl, ?h14⟩) (by assumption) ?r14
  case h14 => (intro w hSw; (try dsimp only at hSw); go_simp; try with_reducible rfl)
  try simp only [Act.put, List.setIfInBounds_toArray, List.set_cons_zero, List.set_cons_succ]
  refine wpAnyH_ready (rs := [5]) (by kernel_rfl) (by simp) ?_
  refine AllReadyH.cons (o := { dst := some 36, op := Go.Op.call { callee := Go.Callee.value (Go.Operand.func 8), args := #[Go.Operand.tmp 34, Go.Operand.tmp 35], argTypes := #[29, 29] }, type := 4, pos := "law.go:33", after := #[{ on := 3, ground := Go.Ground.data }, { on := 4, ground := Go.Ground.data }, { on := 2, ground := Go.Ground.chain }, { on := 2, ground := Go.Ground.guard }], guard := some (2, false) }) rfl (fun K hK => ?_) AllReadyH.nil
  go_simp
  with_reducible refine (qs.out _ (LF _ hHeld).1).mono ?_
  rintro e t5 ⟨rfl, b5⟩
  have hB5 := hHeld.trans (b5.mono hHeld.size)
  go_simp
  refine hK.out _ _ (hB5) (fun hHeld => ?_)
  clear hK K
  try simp only [Act.put, List.setIfInBounds_toArray, List.set_cons_zero, List.set_cons_succ]
  refine wpAnyH_now hHeld (fun hHeld => ?_)
  replace LF := rebase LF (hB5)
  replace f0 := rebase f0 (hB5)
  replace f1 := rebase f1 (hB5)
  replace g0 := rebase g0 (hB5)
  replace g1 := rebase g1 (hB5)
  refine wpAnyH_ready (rs := [8]) (by kernel_rfl) (by simp) ?_
  refine AllReadyH.cons (o := { dst := some 39, op := Go.Op.call { callee := Go.Callee.value (Go.Operand.func 9), args := #[Go.Operand.tmp 37, Go.Operand.tmp 38], argTypes := #[29, 29] }, type := 4, pos := "law.go:33", after := #[{ on := 6, ground := Go.Ground.data }, { on := 7, ground := Go.Ground.data }, { on := 5, ground := Go.Ground.chain }, { on := 2, ground := Go.Ground.guard }], guard := some (2, false) }) rfl (fun K hK => ?_) AllReadyH.nil
  go_simp
  with_reducible refine (qr.out _ (LF _ hHeld).1).mono ?_
  rintro e t8 ⟨rfl, b8⟩
  have hB8 := hHeld.trans (b8.mono hHeld.size)
  go_simp
  refine hK.out _ _ (hB8) (fun hHeld => ?_)
  clear hK K
  try simp only [Act.put, List.setIfInBounds_toArray, List.set_cons_zero, List.set_cons_succ]
  refine wpAnyH_now hHeld (fun hHeld => ?_)
  replace LF := rebase LF (hB8)
  replace f0 := rebase f0 (hB8)
  replace f1 := rebase f1 (hB8)
  replace g0 := rebase g0 (hB8)
  replace g1 := rebase g1 (hB8)
  refine wpAnyH_take (i := 9) (oi := { dst := some 40, op := Go.Op.binOp Go.BinOp.neq 4 (Go.Operand.tmp 36) (Go.Operand.tmp 39) 4, type := 4, pos := "law.go:33", after := #[{ on := 5, ground := Go.Ground.data }, { on := 8, ground := Go.Ground.data }, { on := 2, ground := Go.Ground.guard }], guard := some (2, false) }) (v := ?v15) rfl (by kernel_rfl) (by kernel_rfl) (by kernel_rfl) (fun _ _ _ h => h) (Or.inl ⟨by kernel_rfl, ?h15⟩) (by assumption) ?r15
  case h15 => (intro w hSw; (try dsimp only at hSw); go_simp; try with_reducible rfl)
  try simp only [Act.put, List.setIfInBounds_toArray, List.set_cons_zero, List.set_cons_succ]
  refine wpAnyH_take (i := 10) (oi := { dst := some 41, op := Go.Op.pick (Go.Operand.tmp 33) (Go.Operand.const (Go.Value.bool true)) (Go.Operand.tmp 40), type := 4, pos := "law.go:33", after := #[{ on := 2, ground := Go.Ground.data }, { on := 9, ground := Go.Ground.data }], guard := none }) (v := ?v16) rfl (by kernel_rfl) (by kernel_rfl) (by kernel_rfl) (fun _ _ _ h => h) (Or.inl ⟨by kernel_rfl, ?h16⟩) (by assumption) ?r16
  case h16 => (intro w hSw; (try dsimp only at hSw); go_simp; try with_reducible rfl)
  try simp only [Act.put, List.setIfInBounds_toArray, List.set_cons_zero, List.set_cons_succ]
  refine wpAnyH_done (by kernel_rfl) ?_ _
  obtain ⟨Lx, Xx, Tx⟩ := LF _ hHeld
  replace L := Lib.hid Lx
  have X := Lib.hid Xx
  have T := Lib.hid Tx
  clear LF f0 f1 g0 g1 hHeld Lx Xx Tx
  have kx0 := L.out.b0.cell 0
  have kx1 := L.out.b0.cell 1
  have kx2 := L.out.b0.cell 2
  have kx3 := L.out.b0.cell 3
  simp at kx0 kx1 kx2 kx3
  go_wp2_with fail
  with_reducible refine (qk.out _ L.out).mono ?_
  rintro e u6 ⟨rfl, bu6⟩
  replace L := Lib.hid (L.out.below bu6)
  replace X := Lib.hid (X.out.below bu6 X.out.lt)
  replace T := Lib.hid (T.out.below bu6)
  clear bu6 kx0 kx1 kx2 kx3
  have kx0 := L.out.b0.cell 0
  have kx1 := L.out.b0.cell 1
  have kx2 := L.out.b0.cell 2
  have kx3 := L.out.b0.cell 3
  have ix0 := L.out.b1.cell 0
  have ix1 := L.out.b1.cell 1
  simp at kx0 kx1 kx2 kx3 ix0 ix1
  go_wp2_with fail
  with_reducible refine (qg.out _ L.out).mono ?_
  rintro e u9 ⟨rfl, bu9⟩
  replace L := Lib.hid (L.out.below bu9)
  replace X := Lib.hid (X.out.below bu9 X.out.lt)
  replace T := Lib.hid (T.out.below bu9)
  clear bu9 kx0 kx1 kx2 kx3 ix0 ix1
  have o0 := X.out.cell 0
  have o1 := X.out.cell 1
  simp at o0 o1
  have qz := Lib.hid (rSame_any 0 0 a' none 0 0 c' 0 [] [] u9 T.out (SL.nil _))
  rw [same_refl] at qz
  go_wp2_with fail
  with_reducible refine qz.out.mono ?_
  rintro e u7 ⟨rfl, bu7⟩
  replace L := Lib.hid (L.out.below bu7)
  clear bu7 o0 o1 qz
  have kx0 := L.out.b0.cell 0
  have kx1 := L.out.b0.cell 1
  have kx2 := L.out.b0.cell 2
  have kx3 := L.out.b0.cell 3
  have ix0 := L.out.b1.cell 0
  have ix1 := L.out.b1.cell 1
  simp at kx0 kx1 kx2 kx3 ix0 ix1
  go_wp2_with fail
  with_reducible refine (qh.out _ L.out).mono ?_
  rintro e u8 ⟨rfl, bu8⟩
  replace L := Lib.hid (L.out.below bu8)
  clear bu8
  clear kx0 kx1 kx2 kx3 ix0 ix1
  go_wp2
  go_ret
  exact ⟨rfl, L.out.bel⟩
set_option maxRecDepth 100000 in
set_option maxHeartbeats 8000000 in
theorem rsteps_go (pnm : ByteArray) (pa1 : Option Addr) (pn1 pc1 : Nat) (pa2 : Option Addr) (pn2 pc2 : Nat) (pa3 : Option Addr) (pn3 pc3 : Nat) (A : PD) (hA : PW A) (p1 : Int) (a1 : Option Addr) (n1 c1 : Nat) (l1 : List Int) (p2 : Int) (a2 : Option Addr) (n2 c2 : Nat) (l2 : List Int) (e v : Int) (w : World) (h : PrA w ⟨pnm, pa1, pn1, pc1, pa2, pn2, pc2, pa3, pn3, pc3⟩ A) (h1 : SL w a1 n1 c1 l1) (h2 : SL w a2 n2 c2 l2) (hg : bigR A n1 0 = false) (hh : ¬ 20 < n2) (hp : progB A = true) (hst : stateB A p1 l1 = true) :
    Calls Tryd.prog 3 #[.agg #[.string pnm, .slice pa1 pn1 pc1, .slice pa2 pn2 pc2, .slice pa3 pn3 pc3], .agg #[.int .i64 p1, .slice a1 n1 c1], .agg #[.int .i64 p2, .slice a2 n2 c2], .agg #[.int .i64 e, .int .i64 v]] w (Gives (.bool true) w) := by
  obtain ⟨u0, hu0⟩ : ∃ u0, u0 = (((w.alloc (.cells #[.string pnm, .slice pa1 pn1 pc1, .slice pa2 pn2 pc2, .slice pa3 pn3 pc3] 26)).alloc (.cells #[.int .i64 p1, .slice a1 n1 c1] 29)).alloc (.cells #[.int .i64 p2, .slice a2 n2 c2] 29)).alloc (.cells #[.int .i64 e, .int .i64 v] 31) := ⟨_, rfl⟩
  have b0 : Below w.heap.size w u0 := by rw [hu0]; exact ((((Below.refl _ _).alloc (Nat.le_refl _) _).alloc (by simp) _).alloc (by simp; omega) _).alloc (by simp; omega) _
  have L0 : LSt A l1 l2 w pnm pa1 pn1 pc1 pa2 pn2 pc2 pa3 pn3 pc3 p1 a1 n1 c1 p2 a2 n2 c2 e v u0 := ⟨h.below b0, h1.below b0, h2.below b0, by rw [hu0]; exact (((Holds.new w _ _).alloc _).alloc _).alloc _, by rw [hu0]; have q := ((Holds.new (w.alloc (.cells #[.string pnm, .slice pa1 pn1 pc1, .slice pa2 pn2 pc2, .slice pa3 pn3 pc3] 26)) 29 #[.int .i64 p1, .slice a1 n1 c1]).alloc (.cells #[.int .i64 p2, .slice a2 n2 c2] 29)).alloc (.cells #[.int .i64 e, .int .i64 v] 31); simpa using q, by rw [hu0]; have q := (Holds.new ((w.alloc (.cells #[.string pnm, .slice pa1 pn1 pc1, .slice pa2 pn2 pc2, .slice pa3 pn3 pc3] 26)).alloc (.cells #[.int .i64 p1, .slice a1 n1 c1] 29)) 29 #[.int .i64 p2, .slice a2 n2 c2]).alloc (.cells #[.int .i64 e, .int .i64 v] 31); simpa using q, by rw [hu0]; have q := Holds.new (((w.alloc (.cells #[.string pnm, .slice pa1 pn1 pc1, .slice pa2 pn2 pc2, .slice pa3 pn3 pc3] 26)).alloc (.cells #[.int .i64 p1, .slice a1 n1 c1] 29)).alloc (.cells #[.int .i64 p2, .slice a2 n2 c2] 29)) 31 #[.int .i64 e, .int .i64 v]; simpa using q, b0⟩
  have L := Lib.hid L0
  have m1 : Hid (n1 ≤ 9223372036854775807) := Lib.hid (by have := h1.max; have := h1.cap; omega)
  have m2 : Hid (n2 ≤ 9223372036854775807) := Lib.hid (by have := h2.max; have := h2.cap; omega)
  have hu0' := Lib.hid hu0
  have QL := Lib.hid rlives_any
  have qA := Lib.hid (fun W (h : LSt A l1 l2 w pnm pa1 pn1 pc1 pa2 pn2 pc2 pa3 pn3 pc3 p1 a1 n1 c1 p2 a2 n2 c2 e v W) => rlarge_any pnm pa1 pn1 pc1 pa2 pn2 pc2 pa3 pn3 pc3 A hA a1 n1 c1 none 0 0 m1.out (by omega) W h.pr)
  have qt := Lib.hid (fun W (h : LSt A l1 l2 w pnm pa1 pn1 pc1 pa2 pn2 pc2 pa3 pn3 pc3 p1 a1 n1 c1 p2 a2 n2 c2 e v W) => runStep_any pnm pa1 pn1 pc1 pa2 pn2 pc2 pa3 pn3 pc3 A p1 a1 n1 c1 l1 e v W h.pr h.s1)
  have qs := Lib.hid (fun W (h : LSt A l1 l2 w pnm pa1 pn1 pc1 pa2 pn2 pc2 pa3 pn3 pc3 p1 a1 n1 c1 p2 a2 n2 c2 e v W) => runSame_any p1 p2 a1 a2 n1 n2 c1 c2 l1 l2 W h.s1 h.s2)
  have qr := Lib.hid (fun W (h : LSt A l1 l2 w pnm pa1 pn1 pc1 pa2 pn2 pc2 pa3 pn3 pc3 p1 a1 n1 c1 p2 a2 n2 c2 e v W) => rSame_any p1 p2 a1 a2 n1 n2 c1 c2 l1 l2 W h.s1 h.s2)
  have qk := Lib.hid (fun W (h : LSt A l1 l2 w pnm pa1 pn1 pc1 pa2 pn2 pc2 pa3 pn3 pc3 p1 a1 n1 c1 p2 a2 n2 c2 e v W) => rcheckP_any ⟨pnm, pa1, pn1, pc1, pa2, pn2, pc2, pa3, pn3, pc3⟩ A hA W h.pr)
  have qh := Lib.hid (fun W (h : LSt A l1 l2 w pnm pa1 pn1 pc1 pa2 pn2 pc2 pa3 pn3 pc3 p1 a1 n1 c1 p2 a2 n2 c2 e v W) => runRight_any pnm pa1 pn1 pc1 pa2 pn2 pc2 pa3 pn3 pc3 A p1 a1 n1 c1 l1 W h.pr h.s1)
  have qg := Lib.hid (fun W (h : LSt A l1 l2 w pnm pa1 pn1 pc1 pa2 pn2 pc2 pa3 pn3 pc3 p1 a1 n1 c1 p2 a2 n2 c2 e v W) => rRight_any pnm pa1 pn1 pc1 pa2 pn2 pc2 pa3 pn3 pc3 A p1 a1 n1 c1 l1 W h.pr h.s1)
  clear hu0 b0 L0 h h1 h2
  rw [hg] at qA
  have hhi : ¬ (20 : Int) < (n2 : Int) := by omega
  have hv : valsB l1 A.vars.length = true := by unfold stateB at hst; simp only [Bool.and_eq_true] at hst; exact hst.2.2
  have e1 : stepS A p1 l1 e v = stepR A p1 l1 e v := by unfold stepS; rw [hp, hst]; rfl
  rw [e1] at qt
  have qy := Lib.hid (fun W (h : LSt A l1 l2 w pnm pa1 pn1 pc1 pa2 pn2 pc2 pa3 pn3 pc3 p1 a1 n1 c1 p2 a2 n2 c2 e v W) => rStep_any pnm pa1 pn1 pc1 pa2 pn2 pc2 pa3 pn3 pc3 A p1 a1 n1 c1 l1 hp hv e v W h.pr h.s1)
  rw [hp] at qk
  rw [hst] at qg
  rw [hp, hst, Bool.and_true] at qh
  generalize stepR A p1 l1 e v = R at *
  obtain ⟨⟨rp, rl⟩, re⟩ := R
  clear e1 hv
  have kx0 := L.out.b0.cell 0
  have kx1 := L.out.b0.cell 1
  have kx2 := L.out.b0.cell 2
  have kx3 := L.out.b0.cell 3
  have ix0 := L.out.b1.cell 0
  have ix1 := L.out.b1.cell 1
  simp at kx0 kx1 kx2 kx3 ix0 ix1
  rw [hu0'.out] at kx0 kx1 kx2 kx3 ix0 ix1
  go_enter Tryd.func3, Tryd.ntmps3
  go_wp2_with fail
  rw [← hu0'.out]
  with_reducible refine (qA.out _ L.out).mono ?_
  rintro e u1 ⟨rfl, bu1⟩
  replace L := Lib.hid (L.out.below bu1)
  clear bu1
  clear kx0 kx1 kx2 kx3 ix0 ix1
  have jx0 := L.out.b2.cell 0
  have jx1 := L.out.b2.cell 1
  simp at jx0 jx1
  go_upto_region 3 with (fail)
  clear jx0 jx1
  have kx0 := L.out.b0.cell 0
  have kx1 := L.out.b0.cell 1
  have kx2 := L.out.b0.cell 2
  have kx3 := L.out.b0.cell 3
  have ix0 := L.out.b1.cell 0
  have ix1 := L.out.b1.cell 1
  have mx0 := L.out.b3.cell 0
  have mx1 := L.out.b3.cell 1
  simp at kx0 kx1 kx2 kx3 ix0 ix1 mx0 mx1
  go_wp2_with fail
  with_reducible refine (qt.out _ L.out).mono ?_
  rintro e u2 ⟨a', n', c', rfl, s', bu2, -⟩
  replace L := Lib.hid (L.out.below bu2)
  clear bu2
  clear kx0 kx1 kx2 kx3 ix0 ix1 mx0 mx1
  obtain ⟨u3, hu3⟩ : ∃ u3, u3 = u2.alloc (.cells #[.int .i64 (rp), .slice a' n' c'] 29) := ⟨_, rfl⟩
  have bu3 : Below u2.heap.size u2 u3 := by rw [hu3]; exact box_below _ _ _
  have X : Hid (Holds u3 u2.heap.size 29 #[.int .i64 (rp), .slice a' n' c']) := Lib.hid (by rw [hu3]; exact Holds.new _ _ _)
  have T := Lib.hid (s'.below bu3)
  replace L := Lib.hid (L.out.below bu3)
  have hu3' := Lib.hid hu3
  clear bu3 hu3 s'
  go_upto_region 4 with (fail)
  rw [← hu3'.out]
  clear hu3'
  generalize u2.heap.size = gx at X ⊢
  have LF : ∀ W, Below u3.heap.size u3 W → LSt A l1 l2 w pnm pa1 pn1 pc1 pa2 pn2 pc2 pa3 pn3 pc3 p1 a1 n1 c1 p2 a2 n2 c2 e v W ∧ Holds W gx 29 #[.int .i64 (rp), .slice a' n' c'] ∧ SL W a' n' c' rl := fun W hW => ⟨L.out.below hW, X.out.below hW X.out.lt, T.out.below hW⟩
  have f0 : ∀ W, Below u3.heap.size u3 W → W.cell? ⟨w.heap.size + 1, 0, none⟩ = some (.int .i64 p1) := fun W hW => (LF W hW).1.b1.cell 0
  have f1 : ∀ W, Below u3.heap.size u3 W → W.cell? ⟨w.heap.size + 1, 1, none⟩ = some (.slice a1 n1 c1) := fun W hW => (LF W hW).1.b1.cell 1
  have g0 : ∀ W, Below u3.heap.size u3 W → W.cell? ⟨w.heap.size + 2, 0, none⟩ = some (.int .i64 p2) := fun W hW => (LF W hW).1.b2.cell 0
  have g1 : ∀ W, Below u3.heap.size u3 W → W.cell? ⟨w.heap.size + 2, 1, none⟩ = some (.slice a2 n2 c2) := fun W hW => (LF W hW).1.b2.cell 1
  clear X T L
  generalize sameT p1 p2 l1 l2 = sm at *
  go_wp2
  refine wp_drawn (by kernel_rfl) (fun hHeld => ?_)
  refine wpAnyH_ready (rs := [0]) (by kernel_rfl) (by simp) ?_
  refine AllReadyH.cons (o := { dst := some 31, op := Go.Op.call { callee := Go.Callee.value (Go.Operand.func 6), args := #[], argTypes := #[] }, type := 4, pos := "law.go:33", after := #[], guard := none }) rfl (fun K hK => ?_) AllReadyH.nil
  go_simp
  with_reducible refine (QL.out _).mono ?_
  rintro e t0 ⟨rfl, b0⟩
  have hB0 := hHeld.trans (b0.mono hHeld.size)
  go_simp
  refine hK.out _ _ (hB0) (fun hHeld => ?_)
  clear hK K
  try simp only [Act.put, List.setIfInBounds_toArray, List.set_cons_zero, List.set_cons_succ]
  refine wpAnyH_now hHeld (fun hHeld => ?_)
  replace LF := rebase LF (hB0)
  replace f0 := rebase f0 (hB0)
  replace f1 := rebase f1 (hB0)
  replace g0 := rebase g0 (hB0)
  replace g1 := rebase g1 (hB0)
  refine wpAnyH_take (i := 1) (oi := { dst := some 32, op := Go.Op.unOp Go.UnOp.not 4 (Go.Operand.tmp 31), type := 4, pos := "law.go:33", after := #[{ on := 0, ground := Go.Ground.data }], guard := none }) (v := ?v17) rfl (by kernel_rfl) (by kernel_rfl) (by kernel_rfl) (fun _ _ _ h => h) (Or.inl ⟨by kernel_rfl, ?h17⟩) (by assumption) ?r17
  case h17 => (intro w hSw; (try dsimp only at hSw); go_simp; try with_reducible rfl)
  try simp only [Act.put, List.setIfInBounds_toArray, List.set_cons_zero, List.set_cons_succ]
  refine wpAnyH_take (i := 2) (oi := { dst := some 33, op := Go.Op.move (Go.Operand.tmp 32), type := 4, pos := "law.go:33", after := #[{ on := 1, ground := Go.Ground.data }, { on := 0, ground := Go.Ground.chain }], guard := none }) (v := ?v18) rfl (by kernel_rfl) (by kernel_rfl) (by kernel_rfl) (fun _ _ _ h => h) (Or.inl ⟨by kernel_rfl, ?h18⟩) (by assumption) ?r18
  case h18 => (intro w hSw; (try dsimp only at hSw); go_simp; try with_reducible rfl)
  try simp only [Act.put, List.setIfInBounds_toArray, List.set_cons_zero, List.set_cons_succ]
  refine wpAnyH_take (i := 3) (oi := { dst := some 34, op := Go.Op.load 29 (Go.Operand.tmp 5), type := 29, pos := "law.go:33", after := #[{ on := 2, ground := Go.Ground.guard }], guard := some (2, false) }) (v := ?v19) rfl (by kernel_rfl) (by kernel_rfl) (by kernel_rfl) (fun _ _ _ h => h) (Or.inl ⟨by kernel_rfl, ?h19⟩) (by assumption) ?r19
  case h19 => (intro w hSw; (try dsimp only at hSw); go_simp; try with_reducible rfl)
  try simp only [Act.put, List.setIfInBounds_toArray, List.set_cons_zero, List.set_cons_succ]
  refine wpAnyH_take (i := 4) (oi := { dst := some 35, op := Go.Op.load 29 (Go.Operand.tmp 6), type := 29, pos := "law.go:33", after := #[{ on := 2, ground := Go.Ground.guard }], guard := some (2, false) }) (v := ?v20) rfl (by kernel_rfl) (by kernel_rfl) (by kernel_rfl) (fun _ _ _ h => h) (Or.inl ⟨by kernel_rfl, ?h20⟩) (by assumption) ?r20
  case h20 => (intro w hSw; (try dsimp only at hSw); go_simp; try with_reducible rfl)
  try simp only [Act.put, List.setIfInBounds_toArray, List.set_cons_zero, List.set_cons_succ]
  refine wpAnyH_take (i := 6) (oi := { dst := some 37, op := Go.Op.load 29 (Go.Operand.tmp 5), type := 29, pos := "law.go:33", after := #[{ on := 2, ground := Go.Ground.guard }], guard := some (2, false) }) (v := ?v21) rfl (by kernel_rfl) (by kernel_rfl) (by kernel_rfl) (fun _ _ _ h => h) (Or.inl ⟨by kernel_rfl, ?h21⟩) (by assumption) ?r21
  case h21 => (intro w hSw; (try dsimp only at hSw); go_simp; try with_reducible rfl)
  try simp only [Act.put, List.setIfInBounds_toArray, List.set_cons_zero, List.set_cons_succ]
  refine wpAnyH_take (i := 7) (oi := { dst := some 38, op := Go.Op.load 29 (Go.Operand.tmp 6), type := 29, pos := "law.go:33", after := #[{ on := 2, ground := Go.Ground.guard }], guard := some (2, false) }) (v := ?v22) rfl (by kernel_rfl) (by kernel_rfl) (by kernel_rfl) (fun _ _ _ h => h) (Or.inl ⟨by kernel_rfl, ?h22⟩) (by assumption) ?r22
  case h22 => (intro w hSw; (try dsimp only at hSw); go_simp; try with_reducible rfl)
  try simp only [Act.put, List.setIfInBounds_toArray, List.set_cons_zero, List.set_cons_succ]
  refine wpAnyH_ready (rs := [5]) (by kernel_rfl) (by simp) ?_
  refine AllReadyH.cons (o := { dst := some 36, op := Go.Op.call { callee := Go.Callee.value (Go.Operand.func 8), args := #[Go.Operand.tmp 34, Go.Operand.tmp 35], argTypes := #[29, 29] }, type := 4, pos := "law.go:33", after := #[{ on := 3, ground := Go.Ground.data }, { on := 4, ground := Go.Ground.data }, { on := 2, ground := Go.Ground.chain }, { on := 2, ground := Go.Ground.guard }], guard := some (2, false) }) rfl (fun K hK => ?_) AllReadyH.nil
  go_simp
  with_reducible refine (qs.out _ (LF _ hHeld).1).mono ?_
  rintro e t5 ⟨rfl, b5⟩
  have hB5 := hHeld.trans (b5.mono hHeld.size)
  go_simp
  refine hK.out _ _ (hB5) (fun hHeld => ?_)
  clear hK K
  try simp only [Act.put, List.setIfInBounds_toArray, List.set_cons_zero, List.set_cons_succ]
  refine wpAnyH_now hHeld (fun hHeld => ?_)
  replace LF := rebase LF (hB5)
  replace f0 := rebase f0 (hB5)
  replace f1 := rebase f1 (hB5)
  replace g0 := rebase g0 (hB5)
  replace g1 := rebase g1 (hB5)
  refine wpAnyH_ready (rs := [8]) (by kernel_rfl) (by simp) ?_
  refine AllReadyH.cons (o := { dst := some 39, op := Go.Op.call { callee := Go.Callee.value (Go.Operand.func 9), args := #[Go.Operand.tmp 37, Go.Operand.tmp 38], argTypes := #[29, 29] }, type := 4, pos := "law.go:33", after := #[{ on := 6, ground := Go.Ground.data }, { on := 7, ground := Go.Ground.data }, { on := 5, ground := Go.Ground.chain }, { on := 2, ground := Go.Ground.guard }], guard := some (2, false) }) rfl (fun K hK => ?_) AllReadyH.nil
  go_simp
  with_reducible refine (qr.out _ (LF _ hHeld).1).mono ?_
  rintro e t8 ⟨rfl, b8⟩
  have hB8 := hHeld.trans (b8.mono hHeld.size)
  go_simp
  refine hK.out _ _ (hB8) (fun hHeld => ?_)
  clear hK K
  try simp only [Act.put, List.setIfInBounds_toArray, List.set_cons_zero, List.set_cons_succ]
  refine wpAnyH_now hHeld (fun hHeld => ?_)
  replace LF := rebase LF (hB8)
  replace f0 := rebase f0 (hB8)
  replace f1 := rebase f1 (hB8)
  replace g0 := rebase g0 (hB8)
  replace g1 := rebase g1 (hB8)
  refine wpAnyH_take (i := 9) (oi := { dst := some 40, op := Go.Op.binOp Go.BinOp.neq 4 (Go.Operand.tmp 36) (Go.Operand.tmp 39) 4, type := 4, pos := "law.go:33", after := #[{ on := 5, ground := Go.Ground.data }, { on := 8, ground := Go.Ground.data }, { on := 2, ground := Go.Ground.guard }], guard := some (2, false) }) (v := ?v23) rfl (by kernel_rfl) (by kernel_rfl) (by kernel_rfl) (fun _ _ _ h => h) (Or.inl ⟨by kernel_rfl, ?h23⟩) (by assumption) ?r23
  case h23 => (intro w hSw; (try dsimp only at hSw); go_simp; try with_reducible rfl)
  try simp only [Act.put, List.setIfInBounds_toArray, List.set_cons_zero, List.set_cons_succ]
  refine wpAnyH_take (i := 10) (oi := { dst := some 41, op := Go.Op.pick (Go.Operand.tmp 33) (Go.Operand.const (Go.Value.bool true)) (Go.Operand.tmp 40), type := 4, pos := "law.go:33", after := #[{ on := 2, ground := Go.Ground.data }, { on := 9, ground := Go.Ground.data }], guard := none }) (v := ?v24) rfl (by kernel_rfl) (by kernel_rfl) (by kernel_rfl) (fun _ _ _ h => h) (Or.inl ⟨by kernel_rfl, ?h24⟩) (by assumption) ?r24
  case h24 => (intro w hSw; (try dsimp only at hSw); go_simp; try with_reducible rfl)
  try simp only [Act.put, List.setIfInBounds_toArray, List.set_cons_zero, List.set_cons_succ]
  refine wpAnyH_done (by kernel_rfl) ?_ _
  obtain ⟨Lx, Xx, Tx⟩ := LF _ hHeld
  replace L := Lib.hid Lx
  have X := Lib.hid Xx
  have T := Lib.hid Tx
  clear LF f0 f1 g0 g1 hHeld Lx Xx Tx
  have kx0 := L.out.b0.cell 0
  have kx1 := L.out.b0.cell 1
  have kx2 := L.out.b0.cell 2
  have kx3 := L.out.b0.cell 3
  simp at kx0 kx1 kx2 kx3
  go_wp2_with fail
  with_reducible refine (qk.out _ L.out).mono ?_
  rintro e u6 ⟨rfl, bu6⟩
  replace L := Lib.hid (L.out.below bu6)
  replace X := Lib.hid (X.out.below bu6 X.out.lt)
  replace T := Lib.hid (T.out.below bu6)
  clear bu6 kx0 kx1 kx2 kx3
  have kx0 := L.out.b0.cell 0
  have kx1 := L.out.b0.cell 1
  have kx2 := L.out.b0.cell 2
  have kx3 := L.out.b0.cell 3
  have ix0 := L.out.b1.cell 0
  have ix1 := L.out.b1.cell 1
  simp at kx0 kx1 kx2 kx3 ix0 ix1
  go_wp2_with fail
  with_reducible refine (qg.out _ L.out).mono ?_
  rintro e u9 ⟨rfl, bu9⟩
  replace L := Lib.hid (L.out.below bu9)
  replace X := Lib.hid (X.out.below bu9 X.out.lt)
  replace T := Lib.hid (T.out.below bu9)
  clear bu9 kx0 kx1 kx2 kx3 ix0 ix1
  have kx0 := L.out.b0.cell 0
  have kx1 := L.out.b0.cell 1
  have kx2 := L.out.b0.cell 2
  have kx3 := L.out.b0.cell 3
  have ix0 := L.out.b1.cell 0
  have ix1 := L.out.b1.cell 1
  have mx0 := L.out.b3.cell 0
  have mx1 := L.out.b3.cell 1
  simp at kx0 kx1 kx2 kx3 ix0 ix1 mx0 mx1
  go_wp2_with fail
  with_reducible refine (qy.out _ L.out).mono ?_
  rintro e u10 ⟨a5, n5, c5, rfl, s5, bu10, -⟩
  replace L := Lib.hid (L.out.below bu10)
  replace X := Lib.hid (X.out.below bu10 X.out.lt)
  replace T := Lib.hid (T.out.below bu10)
  clear bu10 kx0 kx1 kx2 kx3 ix0 ix1 mx0 mx1
  obtain ⟨u11, hu11⟩ : ∃ u11, u11 = u10.alloc (.cells #[.int .i64 (rp), .slice a5 n5 c5] 29) := ⟨_, rfl⟩
  have bu11 : Below u10.heap.size u10 u11 := by rw [hu11]; exact box_below _ _ _
  have Y : Hid (Holds u11 u10.heap.size 29 #[.int .i64 (rp), .slice a5 n5 c5]) := Lib.hid (by rw [hu11]; exact Holds.new _ _ _)
  have V := Lib.hid (s5.below bu11)
  replace L := Lib.hid (L.out.below bu11)
  replace X := Lib.hid (X.out.below bu11 X.out.lt)
  replace T := Lib.hid (T.out.below bu11)
  have hu11' := Lib.hid hu11
  clear bu11 hu11 s5
  go_upto_region 11 with (fail)
  rw [← hu11'.out]
  clear hu11'
  generalize u10.heap.size = gy at Y ⊢
  have kx0 := L.out.b0.cell 0
  have kx1 := L.out.b0.cell 1
  have kx2 := L.out.b0.cell 2
  have kx3 := L.out.b0.cell 3
  have ix0 := L.out.b1.cell 0
  have ix1 := L.out.b1.cell 1
  simp at kx0 kx1 kx2 kx3 ix0 ix1
  go_wp2_with fail
  with_reducible refine (qh.out _ L.out).mono ?_
  rintro e u12 ⟨rfl, bu12⟩
  replace L := Lib.hid (L.out.below bu12)
  replace X := Lib.hid (X.out.below bu12 X.out.lt)
  replace T := Lib.hid (T.out.below bu12)
  replace Y := Lib.hid (Y.out.below bu12 Y.out.lt)
  replace V := Lib.hid (V.out.below bu12)
  clear bu12 kx0 kx1 kx2 kx3 ix0 ix1
  have o0 := X.out.cell 0
  have o1 := X.out.cell 1
  simp at o0 o1
  have r0 := Y.out.cell 0
  have r1 := Y.out.cell 1
  simp at r0 r1
  have qz := Lib.hid (rSame_any rp rp a' a5 n' n5 c' c5 rl rl u12 T.out V.out)
  rw [same_refl] at qz
  go_wp2_with fail
  with_reducible refine qz.out.mono ?_
  rintro e u13 ⟨rfl, bu13⟩
  replace L := Lib.hid (L.out.below bu13)
  clear bu13 o0 o1 r0 r1 qz
  go_wp2
  go_ret
  exact ⟨rfl, L.out.bel⟩
theorem runSteps_walk (w : World)
    (pnm : ByteArray) (pq : pnm.size ≤ 140737488351232) (pa1 : Option Addr) (pn1 pc1 : Nat) (x1 : TSl w pa1 pn1 pc1) (pa2 : Option Addr) (pn2 pc2 : Nat) (x2 : SpotsSl w pa2 pn2 pc2) (pa3 : Option Addr) (pn3 pc3 : Nat) (x3 : EdgesSl w pa3 pn3 pc3)
    (p1 : Int) (hp1 : (Lit.int .i64 p1).wf = true) (a1 : Option Addr) (n1 c1 : Nat) (l1 : List Int) (hl1 : l1.length = n1) (hm1 : n1 ≤ maxLen) (hc1 : n1 ≤ c1) (hw1 : ∀ n ∈ l1, (Lit.int .i64 n).wf = true) (hs1 : Sees .i64 w.heap.size w a1 l1)
    (p2 : Int) (hp2 : (Lit.int .i64 p2).wf = true) (a2 : Option Addr) (n2 c2 : Nat) (l2 : List Int) (hl2 : l2.length = n2) (hm2 : n2 ≤ maxLen) (hc2 : n2 ≤ c2) (hw2 : ∀ n ∈ l2, (Lit.int .i64 n).wf = true) (hs2 : Sees .i64 w.heap.size w a2 l2)
    (e : Int) (he : (Lit.int .i64 e).wf = true) (v : Int) (hv : (Lit.int .i64 v).wf = true) :
    Calls Tryd.prog 3 #[.agg #[.string pnm, .slice pa1 pn1 pc1, .slice pa2 pn2 pc2, .slice pa3 pn3 pc3], .agg #[.int .i64 p1, .slice a1 n1 c1], .agg #[.int .i64 p2, .slice a2 n2 c2], .agg #[.int .i64 e, .int .i64 v]] w (Gives (.bool true) w) := by
  obtain ⟨pl, pt, ps, pm⟩ := x1
  obtain ⟨pS, pr2, pw2, pm2⟩ := x2
  obtain ⟨pE, pr3, pw3, pm3⟩ := x3
  have h : PrA w ⟨pnm, pa1, pn1, pc1, pa2, pn2, pc2, pa3, pn3, pc3⟩ ⟨pnm, pl, pS, pE⟩ := ⟨rfl, pt, pr2, pr3⟩
  have hA : PW ⟨pnm, pl, pS, pE⟩ := by constructor <;> first | assumption | (have := pr2.len; have := pr3.len; have := pt.len; simp_all; omega)
  have h1 : SL w a1 n1 c1 l1 := ⟨hl1.symm, hc1, by unfold maxLen at hm1; omega, hs1⟩
  have h2 : SL w a2 n2 c2 l2 := ⟨hl2.symm, hc2, by unfold maxLen at hm2; omega, hs2⟩
  clear pt ps pm pr2 pw2 pm2 pr3 pw3 pm3 hl1 hm1 hc1 hw1 hs1 hl2 hm2 hc2 hw2 hs2
  generalize (⟨pnm, pl, pS, pE⟩ : PD) = A at h hA
  by_cases hg : bigR A n1 0 = true
  · exact rsteps_big pnm pa1 pn1 pc1 pa2 pn2 pc2 pa3 pn3 pc3 A hA p1 a1 n1 c1 l1 p2 a2 n2 c2 l2 e v w h h1 h2 hg
  · replace hg : bigR A n1 0 = false := by simpa using hg
    by_cases hh : 20 < n2
    · exact rsteps_big2 pnm pa1 pn1 pc1 pa2 pn2 pc2 pa3 pn3 pc3 A hA p1 a1 n1 c1 l1 p2 a2 n2 c2 l2 e v w h h1 h2 hg hh
    · by_cases hp : progB A = true
      · by_cases hst : stateB A p1 l1 = true
        · exact rsteps_go pnm pa1 pn1 pc1 pa2 pn2 pc2 pa3 pn3 pc3 A hA p1 a1 n1 c1 l1 p2 a2 n2 c2 l2 e v w h h1 h2 hg hh hp hst
        · exact rsteps_bad pnm pa1 pn1 pc1 pa2 pn2 pc2 pa3 pn3 pc3 A hA p1 a1 n1 c1 l1 p2 a2 n2 c2 l2 e v w h h1 h2 hg hh hp (by simpa using hst)
      · exact rsteps_no pnm pa1 pn1 pc1 pa2 pn2 pc2 pa3 pn3 pc3 A hA p1 a1 n1 c1 l1 p2 a2 n2 c2 l2 e v w h h1 h2 hg hh (by simpa using hp)
end Go.Proofs.YtjdfjekonnkglaaDoor
