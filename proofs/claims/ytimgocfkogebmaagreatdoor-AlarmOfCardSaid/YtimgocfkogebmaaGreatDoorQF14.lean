/-
  Words and walks under the law's proof.
-/
import Derived.Shelf.GgClosure.StringsIndexFuncTop
import Derived.Lib.RuneCount
import Derived.Test.YtimgocfkogebmaaGreatDoorRows
import Derived.IntWalk
import Derived.Deep.QuietTactic
import Derived.BigQuiet
import Derived.Laws.Cover1
import Derived.Test.YtimgocfkogebmaaGreatDoorQF01
import Derived.Test.YtimgocfkogebmaaGreatDoorQF04
import Derived.Test.YtimgocfkogebmaaGreatDoorQF08
import Derived.Test.YtimgocfkogebmaaGreatDoorQF09
import Derived.Test.YtimgocfkogebmaaGreatDoorQF10
import Derived.Test.YtimgocfkogebmaaGreatDoorQF11
import Derived.Test.YtimgocfkogebmaaGreatDoorQF12
import Derived.Test.YtimgocfkogebmaaGreatDoorQF13
namespace Go.Proofs.YtimgocfkogebmaaGreatDoor
open Go.RowKit
set_option linter.unusedVariables false
set_option linter.unusedSimpArgs false
set_option maxRecDepth 100000 in
set_option maxHeartbeats 8000000 in
theorem rofs_any (p : PV) (D : PD) (a : Option Addr) (n cc : Nat) (L : List (Int × List Int)) (w : World) (h : PrA w p D) (hl : ZRow w a n cc L) (hb : chkZ D L = 0) (h3 : p.n3 ≤ 256) :
    Calls Tryz.prog 23 #[.agg #[.string p.nm, .slice p.a1 p.n1 p.c1, .slice p.a2 p.n2 p.c2, .slice p.a3 p.n3 p.c3], .slice a n cc] w (AlGives w (sortC cmpA (alarmsA D L D.edges))) := by
  have hm3 : (p.n3 : Int) ≤ 256 := by omega
  have hel := h.edges.len
  have hsn : Hid (∀ i, i < p.n3 → alarmsA D L (D.edges.take (i + 1)) = alarmsA D L (D.edges.take i) ++ (if mayZ D.vars.length (edgeL L (D.edges.getD i edge0)) (D.edges.getD i edge0) = true then [edgeA D L (D.edges.getD i edge0)] else [])) := Lib.hid (fun i hi => by
    have e : D.edges.take (i + 1) = D.edges.take i ++ [D.edges.getD i edge0] := by rw [List.take_add_one]; simp [List.getD, show i < D.edges.length by omega]
    rw [e, alarmsA_snoc]
    unfold edgeA
    split <;> rfl)
  have hle : Hid (∀ i, i ≤ p.n3 → (alarmsA D L (D.edges.take i)).length ≤ i) := Lib.hid (fun i hi => Nat.le_trans (alarmsA_len D L _) (by rw [List.length_take]; omega))
  have hend : Hid (alarmsA D L (D.edges.take p.n3) = alarmsA D L D.edges) := Lib.hid (by rw [List.take_of_length_le (by omega)])
  have q2 := Lib.hid (fun i W hW hlW hi => redge_any p D a n cc L i W hW hlW hb hi)
  have q3 := Lib.hid (fun a n c l W hW hn => rasorted_any a n c l hn W hW)
  have P0 := Lib.hid h
  have Z0 := Lib.hid hl
  obtain ⟨pnm, pa1, pn1, pc1, pa2, pn2, pc2, pa3, pn3, pc3⟩ := p
  dsimp only at *
  obtain ⟨w1, hW1⟩ : ∃ w1, w1 = w.alloc (.cells #[.string pnm, .slice pa1 pn1 pc1, .slice pa2 pn2 pc2, .slice pa3 pn3 pc3] 38) := ⟨_, rfl⟩
  have HP1 := Lib.hid (show Holds w1 w.heap.size 38 #[.string pnm, .slice pa1 pn1 pc1, .slice pa2 pn2 pc2, .slice pa3 pn3 pc3] by rw [hW1]; exact Holds.new w _ _)
  have BL := Lib.hid (show Below w.heap.size w w1 by rw [hW1]; exact box_below _ _ _)
  have hW1' := Lib.hid hW1
  clear hW1 h hl hel hb
  go_enter Tryz.func23, Tryz.ntmps23
  go_wp2
  rw [← hW1'.out]
  clear hW1'
  go_loopw [5, 6] (fun v x wr => ∃ i : Nat, i ≤ pn3 ∧ x = .int .i64 i ∧ Hid (wr.ownsRow w1.heap.size 23 6 v (alarmsA D L (D.edges.take i)).length (alcells (alarmsA D L (D.edges.take i)))) ∧ Hid (Below w1.heap.size w1 wr)) (fun _ x _ => pn3 - (intOf x).toNat)
  case atStart => exact ⟨0, Nat.zero_le _, rfl, Lib.hid (own_al_nil w1 _), Lib.hid (Below.refl _ _)⟩
  case round =>
    obtain ⟨i, hin, rfl, hown, hB⟩ := hrel
    generalize wr = g0 at *
    have HPg := HP1.out.below hB.out HP1.out.lt
    have p0 := HPg.cell 0
    have p1 := HPg.cell 1
    have p2 := HPg.cell 2
    have p3 := HPg.cell 3
    simp at p0 p1 p2 p3
    clear HPg
    by_cases hlt : i < pn3
    · have hii : (i : Int) < (pn3 : Int) := by omega
      have hs1 := hsn.out i hlt
      have hl1 := hle.out i hin
      have BLg := BL.out.trans (hB.out.mono BL.out.size)
      have qq := Lib.hid (q2.out i g0 (P0.out.below BLg) (Z0.out.below BLg) hlt)
      obtain ⟨AN, hAN⟩ : ∃ AN, AN = alarmsA D L (D.edges.take (i + 1)) := ⟨_, rfl⟩
      rw [← hAN] at hs1
      replace hAN := Lib.hid hAN
      generalize alarmsA D L (D.edges.take i) = AO at *
      generalize mayZ D.vars.length (edgeL L (D.edges.getD i edge0)) (D.edges.getD i edge0) = mb at *
      generalize edgeA D L (D.edges.getD i edge0) = AZ at *
      have hs1' := Lib.hid hs1
      have hl1' := Lib.hid hl1
      clear hs1 hl1 BLg
      go_wp2_with fail
      with_reducible refine qq.out.mono ?_
      rintro e g2 ⟨rfl, b2⟩
      have own2 := Lib.hid (own_below hown.out b2)
      have B2 := Lib.hid (hB.out.trans (b2.mono hB.out.size))
      clear hown hB b2 qq p0 p1 p2 p3
      have B3 := Lib.hid (B2.out.trans ((box_below g2 #[.int .i64 AZ.kind, .int .i64 AZ.sev, .string AZ.fn, .string AZ.file, .int .i64 AZ.line, .string AZ.expr] 23).mono B2.out.size))
      have own3 := Lib.hid (own_below own2.out (box_below g2 #[.int .i64 AZ.kind, .int .i64 AZ.sev, .string AZ.fn, .string AZ.file, .int .i64 AZ.line, .string AZ.expr] 23))
      have hn5 : AO.length ≤ 1000000 := by have := hl1'.out; omega
      clear own2 B2
      cases mb
      · have hr : AN = AO := by rw [hs1'.out]; simp
        clear hs1'
        subst hr
        go_wp2
        go_roundw
        case rel => exact ⟨i + 1, by omega, by go_num, by rw [← hAN.out]; exact own3, B3⟩
        case measure => simp [intOf]; omega
      · have hr : AN = AO ++ [AZ] := by rw [hs1'.out]; simp
        clear hs1'
        go_wp2_with (at_builtin; refine wpList_append_al _ rfl (.tmp 24) (.tmp 26) rfl w1 _ AO.length AO own3.out B3.out AZ rfl _ rfl (by simp) hn5 ?_; intro v' w' own' b')
        have ownF := Lib.hid own'
        have BF := Lib.hid b'
        clear own' b' own3 B3
        go_wp2
        go_roundw
        case rel => exact ⟨i + 1, by omega, by go_num, by rw [← hAN.out, hr, List.length_append]; exact ownF, BF⟩
        case measure => simp [intOf]; omega
    · have hii : ¬ (i : Int) < (pn3 : Int) := by omega
      have hi3 : i = pn3 := by omega
      have hlf := hle.out i hin
      have hown2 := hown.out
      rw [hi3, hend.out] at hown2
      rw [hi3, hend.out] at hlf
      obtain ⟨a', c', rfl, hro⟩ := ro_own hown2
      have qs := Lib.hid (q3.out a' _ c' _ g0 hro (by omega))
      have BLg := Lib.hid (BL.out.trans (hB.out.mono BL.out.size))
      clear hown hown2 hlf hi3 hro hsn hle hend
      generalize alarmsA D L D.edges = AE at *
      go_wp2_with fail
      with_reducible refine qs.out.mono ?_
      rintro e w5 ⟨a5, c5, rfl, hro5, b5⟩
      have hfin := Lib.hid (And.intro hro5 (BLg.out.trans (b5.mono BLg.out.size)))
      clear hro5 b5 qs
      go_wp2
      go_ret
      exact ⟨a5, c5, rfl, hfin.out.1, hfin.out.2⟩
end Go.Proofs.YtimgocfkogebmaaGreatDoor
namespace Go.Proofs.YtimgocfkogebmaaGreatDoor
open Go.RowKit
set_option linter.unusedVariables false
set_option linter.unusedSimpArgs false
def bigS (s : SpotD) : Bool := decide (100 < s.fn.size) || decide (100 < s.file.size)
def bigP (D : PD) : Bool := (decide (100 < D.nm.size) || (decide (20 < D.vars.length) || (decide (150 < D.spots.length) || decide (300 < D.edges.length)))) || (D.vars.any (fun s => decide (100 < s.size)) || D.spots.any bigS)
theorem any_yes {α : Type} {q : α → Bool} {l : List α} {d : α} {k : Nat} (hk : k < l.length) (h : q (l.getD k d) = true) : l.any q = true := by
  rw [List.any_eq_true]
  exact ⟨l.getD k d, by simp [List.getD, hk], h⟩
theorem any_no {α : Type} {q : α → Bool} {l : List α} (d : α) (h : ∀ t, t < l.length → q (l.getD t d) = false) : l.any q = false := by
  rw [List.any_eq_false]
  intro x hx
  obtain ⟨t, ht, rfl⟩ := List.getElem_of_mem hx
  have := h t ht
  simpa [List.getD, ht] using this
set_option maxRecDepth 100000 in
set_option maxHeartbeats 8000000 in
theorem plarge_any (p : PV) (D : PD) (hw : PW D) (w : World) (h : PrA w p D) : Calls Tryz.prog 42 #[.agg #[.string p.nm, .slice p.a1 p.n1 p.c1, .slice p.a2 p.n2 p.c2, .slice p.a3 p.n3 p.c3]] w (Gives (.bool (bigP D)) w) := by
  have hR : Hid (bigP D = ((decide (100 < p.nm.size) || (decide (20 < p.n1) || (decide (150 < p.n2) || decide (300 < p.n3)))) || (D.vars.any (fun s => decide (100 < s.size)) || D.spots.any bigS))) := Lib.hid (by unfold bigP; rw [h.nm, h.vars.len, h.spots.len, h.edges.len])
  have hns : p.nm.size ≤ 140737488351232 := by rw [h.nm]; exact hw.nm
  have hvw : Hid (∀ k, k < D.vars.length → (D.vars.getD k e0).size ≤ 140737488351232) := Lib.hid (fun k hk => hw.vars _ (by simp [List.getD, hk]))
  have hsw : Hid (∀ k, k < D.spots.length → spotW (D.spots.getD k spot0)) := Lib.hid (fun k hk => hw.spots _ (by simp [List.getD, hk]))
  obtain ⟨pnm, pa1, pn1, pc1, pa2, pn2, pc2, pa3, pn3, pc3⟩ := p
  have hv := h.vars
  have hs := h.spots
  have he := h.edges
  clear h hw
  dsimp only at hR hv hs he hns ⊢
  obtain ⟨W1, hW1⟩ : ∃ W1, W1 = w.alloc (.cells #[.string pnm, .slice pa1 pn1 pc1, .slice pa2 pn2 pc2, .slice pa3 pn3 pc3] 38) := ⟨_, rfl⟩
  have Z : Hid (Holds W1 w.heap.size 38 #[.string pnm, .slice pa1 pn1 pc1, .slice pa2 pn2 pc2, .slice pa3 pn3 pc3]) := Lib.hid (by rw [hW1]; exact Holds.new w _ _)
  have BL := Lib.hid (show Below w.heap.size w W1 by rw [hW1]; exact box_below _ _ _)
  have V := Lib.hid (hv.below BL.out)
  have S := Lib.hid (hs.below BL.out)
  have lv := Lib.hid hv.len
  have ls := Lib.hid hs.len
  have hm1 : (pn1 : Int) ≤ 9223372036854775807 := by have := hv.cap; have := hv.max; unfold maxLen at this; omega
  have hm2 : (pn2 : Int) ≤ 9223372036854775807 := by have := hs.max'; omega
  have hm3 : (pn3 : Int) ≤ 9223372036854775807 := by have := he.max'; omega
  have hW1' := Lib.hid hW1
  have k0 := Z.out.cell 0
  have k1 := Z.out.cell 1
  have k2 := Z.out.cell 2
  have k3 := Z.out.cell 3
  have yv := Lib.hid (fun k hk h => any_yes (q := fun s : ByteArray => decide (100 < s.size)) (l := D.vars) (d := e0) (k := k) hk h)
  have nv := Lib.hid (fun h => any_no (q := fun s : ByteArray => decide (100 < s.size)) (l := D.vars) e0 h)
  have ys := Lib.hid (fun k hk h => any_yes (q := bigS) (l := D.spots) (d := spot0) (k := k) hk h)
  have ns := Lib.hid (fun h => any_no (q := bigS) (l := D.spots) spot0 h)
  clear hv hs he hW1
  generalize bigP D = R at *
  generalize D.vars.any (fun s => decide (100 < s.size)) = bv at *
  generalize D.spots.any bigS = bs at *
  by_cases g0 : 100 < pnm.size
  · have ig0 : (100 : Int) < (pnm.size : Int) := by omega
    have hf : Hid (R = true) := Lib.hid (by rw [hR.out, decide_eq_true g0]; simp)
    go_enter Tryz.func42, Tryz.ntmps42
    go_wp2
    go_ret
    rw [← hW1'.out]
    exact ⟨ret_bool hf.out.symm, BL.out⟩
  have ig0 : ¬ (100 : Int) < (pnm.size : Int) := by omega
  by_cases g1 : 20 < pn1
  · have ig1 : (20 : Int) < (pn1 : Int) := by omega
    have hf : Hid (R = true) := Lib.hid (by rw [hR.out, decide_eq_true g1]; simp)
    go_enter Tryz.func42, Tryz.ntmps42
    go_wp2
    go_ret
    rw [← hW1'.out]
    exact ⟨ret_bool hf.out.symm, BL.out⟩
  have ig1 : ¬ (20 : Int) < (pn1 : Int) := by omega
  by_cases g2 : 150 < pn2
  · have ig2 : (150 : Int) < (pn2 : Int) := by omega
    have hf : Hid (R = true) := Lib.hid (by rw [hR.out, decide_eq_true g2]; simp)
    go_enter Tryz.func42, Tryz.ntmps42
    go_wp2
    go_ret
    rw [← hW1'.out]
    exact ⟨ret_bool hf.out.symm, BL.out⟩
  have ig2 : ¬ (150 : Int) < (pn2 : Int) := by omega
  by_cases g3 : 300 < pn3
  · have ig3 : (300 : Int) < (pn3 : Int) := by omega
    have hf : Hid (R = true) := Lib.hid (by rw [hR.out, decide_eq_true g3]; simp)
    go_enter Tryz.func42, Tryz.ntmps42
    go_wp2
    go_ret
    rw [← hW1'.out]
    exact ⟨ret_bool hf.out.symm, BL.out⟩
  have ig3 : ¬ (300 : Int) < (pn3 : Int) := by omega
  have hR2 : Hid (R = (bv || bs)) := Lib.hid (by rw [hR.out, decide_eq_false g0, decide_eq_false g1, decide_eq_false g2, decide_eq_false g3]; rfl)
  clear hR
  go_enter Tryz.func42, Tryz.ntmps42
  go_wp2
  rw [← hW1'.out]
  clear hW1'
  go_loop [3] (fun y => ∃ k : Nat, k ≤ pn1 ∧ y = .int .i64 k ∧ Hid (∀ t, t < k → decide (100 < (D.vars.getD t e0).size) = false)) (fun y => pn1 - (intOf y).toNat)
  case atStart => exact ⟨0, Nat.zero_le _, rfl, Lib.hid (fun t ht => by omega)⟩
  case round =>
    obtain ⟨k, hk, rfl, hal⟩ := hrel
    by_cases hlt : k < pn1
    · have hki : (k : Int) < (pn1 : Int) := by omega
      have hkl : k < D.vars.length := by rw [← lv.out]; exact hlt
      obtain ⟨b, off, rfl, -, hc⟩ := V.out.at_ hkl
      have x0 := hc k hkl
      have hz := hvw.out k hkl
      have hy := Lib.hid (yv.out k hkl)
      have hn : Hid (¬ 100 < (D.vars.getD k e0).size → ∀ t, t < k + 1 → decide (100 < (D.vars.getD t e0).size) = false) := Lib.hid (fun h t ht => by
        by_cases e : t = k
        · rw [e]; exact decide_eq_false h
        · exact hal.out t (by omega))
      clear hc hal yv
      generalize D.vars.getD k e0 = s at *
      by_cases hs : 100 < s.size
      · have hsi : (100 : Int) < (s.size : Int) := by omega
        have hf : Hid (R = true) := Lib.hid (by rw [hR2.out, hy.out (decide_eq_true hs)]; rfl)
        clear hy hn
        go_wp2
        go_ret
        exact ⟨ret_bool hf.out.symm, BL.out⟩
      · have hsi : ¬ (100 : Int) < (s.size : Int) := by omega
        have hg := Lib.hid (hn.out hs)
        clear hy hn
        go_wp2
        go_round
        case rel => exact ⟨k + 1, by omega, by go_num, hg⟩
        case measure => simp [intOf]; omega
    · have hki : ¬ (k : Int) < (pn1 : Int) := by omega
      have hb := Lib.hid (nv.out (fun t ht => hal.out t (by rw [← lv.out] at ht; omega)))
      have hR3 : Hid (R = bs) := Lib.hid (by rw [hR2.out, hb.out]; rfl)
      clear hb hR2 yv nv hal
      go_wp2
      clear hki hlt hk
      go_loop [4] (fun y => ∃ k : Nat, k ≤ pn2 ∧ y = .int .i64 k ∧ Hid (∀ t, t < k → bigS (D.spots.getD t spot0) = false)) (fun y => pn2 - (intOf y).toNat)
      case atStart => exact ⟨0, Nat.zero_le _, rfl, Lib.hid (fun t ht => by omega)⟩
      case round =>
        obtain ⟨k, hk, rfl, hal⟩ := hrel
        by_cases hlt : k < pn2
        · have hki : (k : Int) < (pn2 : Int) := by omega
          obtain ⟨b, off, rfl, -, x0, x1, x2⟩ := spots_at S.out hlt
          have hz := hsw.out k (by rw [← ls.out]; exact hlt)
          have hy := Lib.hid (ys.out k (by rw [← ls.out]; exact hlt))
          have hn : Hid (bigS (D.spots.getD k spot0) = false → ∀ t, t < k + 1 → bigS (D.spots.getD t spot0) = false) := Lib.hid (fun h t ht => by
            by_cases e : t = k
            · rw [e]; exact h
            · exact hal.out t (by omega))
          obtain ⟨s, f, x, hd⟩ : ∃ s f x, D.spots.getD k spot0 = (⟨s, f, x⟩ : SpotD) := ⟨_, _, _, rfl⟩
          rw [hd] at x0 x1 hy hn hz
          have hz1 : s.size ≤ 140737488351232 := hz.1
          have hz2 : f.size ≤ 140737488351232 := hz.2.1
          dsimp only at x0 x1
          have hbe : Hid (bigS ⟨s, f, x⟩ = (decide (100 < s.size) || decide (100 < f.size))) := Lib.hid rfl
          clear hd hal ys hz x2
          generalize bigS ⟨s, f, x⟩ = B at *
          by_cases h1 : 100 < s.size
          · have h1i : (100 : Int) < (s.size : Int) := by omega
            have hf : Hid (R = true) := Lib.hid (by rw [hR3.out, hy.out (by rw [hbe.out, decide_eq_true h1]; rfl)])
            clear hy hn hbe
            go_wp2
            go_ret
            exact ⟨ret_bool hf.out.symm, BL.out⟩
          · have h1i : ¬ (100 : Int) < (s.size : Int) := by omega
            by_cases h2 : 100 < f.size
            · have h2i : (100 : Int) < (f.size : Int) := by omega
              have hf : Hid (R = true) := Lib.hid (by rw [hR3.out, hy.out (by rw [hbe.out, decide_eq_false h1, decide_eq_true h2]; rfl)])
              clear hy hn hbe
              go_wp2
              go_ret
              exact ⟨ret_bool hf.out.symm, BL.out⟩
            · have h2i : ¬ (100 : Int) < (f.size : Int) := by omega
              have hg := Lib.hid (hn.out (by rw [hbe.out, decide_eq_false h1, decide_eq_false h2]; rfl))
              clear hy hn hbe
              go_wp2
              go_round
              case rel => exact ⟨k + 1, by omega, by go_num, hg⟩
              case measure => simp [intOf]; omega
        · have hki : ¬ (k : Int) < (pn2 : Int) := by omega
          have hb := Lib.hid (ns.out (fun t ht => hal.out t (by rw [← ls.out] at ht; omega)))
          have hf : Hid (R = false) := Lib.hid (by rw [hR3.out, hb.out])
          clear hb ns ys hR3
          go_wp2
          go_ret
          exact ⟨ret_bool hf.out.symm, BL.out⟩
end Go.Proofs.YtimgocfkogebmaaGreatDoor
namespace Go.Proofs.YtimgocfkogebmaaGreatDoor
open Go.RowKit
set_option linter.unusedVariables false
set_option linter.unusedSimpArgs false
set_option maxRecDepth 100000 in
set_option maxHeartbeats 8000000 in
theorem rcheckP_any (p : PV) (D : PD) (hw : PW D) (w : World) (h : PrA w p D) : Calls Tryz.prog 46 #[.agg #[.string p.nm, .slice p.a1 p.n1 p.c1, .slice p.a2 p.n2 p.c2, .slice p.a3 p.n3 p.c3]] w (Gives (.bool (progB D)) w) := by
  have hR : Hid (progB D = ((decide (1 ≤ p.n2) && (decide (p.n2 ≤ 128) && decide (p.n3 ≤ 256))) && (nameB p.nm && (varsB D.vars && (D.spots.all spotB && D.edges.all (edgeB p.n2 p.n1)))))) := Lib.hid (by unfold progB; rw [h.nm, h.vars.len, h.spots.len, h.edges.len])
  have q1 := Lib.hid (fun W => rname_any p.nm (by rw [h.nm]; have := hw.nm; omega) W)
  have q2 := Lib.hid (fun W (hW : TT W p.a1 p.n1 p.c1 D.vars) => rvars_any p.a1 p.n1 p.c1 D.vars (fun s hs => by have := hw.vars s hs; omega) W hW)
  have hsw : Hid (∀ k, k < D.spots.length → spotW (D.spots.getD k spot0)) := Lib.hid (fun k hk => hw.spots _ (by simp [List.getD, hk]))
  obtain ⟨pnm, pa1, pn1, pc1, pa2, pn2, pc2, pa3, pn3, pc3⟩ := p
  have hv := h.vars
  have hs := h.spots
  have he := h.edges
  clear h hw
  dsimp only at hR q1 q2 hv hs he ⊢
  obtain ⟨W1, hW1⟩ : ∃ W1, W1 = w.alloc (.cells #[.string pnm, .slice pa1 pn1 pc1, .slice pa2 pn2 pc2, .slice pa3 pn3 pc3] 38) := ⟨_, rfl⟩
  have Z : Hid (Holds W1 w.heap.size 38 #[.string pnm, .slice pa1 pn1 pc1, .slice pa2 pn2 pc2, .slice pa3 pn3 pc3]) := Lib.hid (by rw [hW1]; exact Holds.new w _ _)
  have BL := Lib.hid (show Below w.heap.size w W1 by rw [hW1]; exact box_below _ _ _)
  have V := Lib.hid (hv.below BL.out)
  have S := Lib.hid (hs.below BL.out)
  have E := Lib.hid (he.below BL.out)
  have ls := Lib.hid hs.len
  have le := Lib.hid he.len
  have hm1 : (pn1 : Int) ≤ 9223372036854775807 := by have := hv.cap; have := hv.max; unfold maxLen at this; omega
  have hm2 : (pn2 : Int) ≤ 9223372036854775807 := by have := hs.max'; omega
  have hm3 : (pn3 : Int) ≤ 9223372036854775807 := by have := he.max'; omega
  have hW1' := Lib.hid hW1
  have k0 := Z.out.cell 0
  have k1 := Z.out.cell 1
  have k2 := Z.out.cell 2
  have k3 := Z.out.cell 3
  have ns := Lib.hid (fun k hk h => all_no (q := spotB) (l := D.spots) (d := spot0) (k := k) hk h)
  have ys := Lib.hid (fun h => all_yes (q := spotB) (l := D.spots) spot0 h)
  have ne := Lib.hid (fun k hk h => all_no (q := edgeB pn2 pn1) (l := D.edges) (d := edge0) (k := k) hk h)
  have ye := Lib.hid (fun h => all_yes (q := edgeB pn2 pn1) (l := D.edges) edge0 h)
  clear hv hs he hW1
  generalize progB D = R at *
  generalize D.spots.all spotB = bs at *
  generalize D.edges.all (edgeB pn2 pn1) = be at *
  generalize varsB D.vars = bv at *
  generalize nameB pnm = bn at *
  cases bn
  · have hf : Hid (R = false) := Lib.hid (by rw [hR.out]; simp)
    go_enter Tryz.func46, Tryz.ntmps46
    go_wp2_with fail
    refine (q1.out _).mono ?_
    rintro e w1 ⟨rfl, rfl⟩
    go_wp2
    go_ret
    rw [← hW1'.out]
    exact ⟨ret_bool hf.out.symm, BL.out⟩
  have enter_ := True.intro
  go_enter Tryz.func46, Tryz.ntmps46
  go_wp2_with fail
  refine (q1.out _).mono ?_
  rintro e w1 ⟨rfl, rfl⟩
  go_wp2_with fail
  rw [← hW1'.out]
  with_reducible refine (q2.out W1 V.out).mono ?_
  rintro e u ⟨rfl, m, hm⟩
  have hb1 : Below W1.heap.size W1 u := by rw [hm]; exact Below.drewN (Below.refl _ _) m
  replace Z := Lib.hid (Z.out.below hb1 Z.out.lt)
  replace S := Lib.hid (S.out.below hb1)
  replace E := Lib.hid (E.out.below hb1)
  replace BL := Lib.hid (BL.out.trans (hb1.mono BL.out.size))
  clear hb1 hm q2 V hW1' k0 k1 k2 k3 q1 enter_
  have k2 := Z.out.cell 2
  have k3 := Z.out.cell 3
  cases bv
  · have hf : Hid (R = false) := Lib.hid (by rw [hR.out]; simp)
    go_wp2
    go_ret
    exact ⟨ret_bool hf.out.symm, BL.out⟩
  by_cases g1 : 1 ≤ pn2
  rotate_left
  · have i1 : (pn2 : Int) < 1 := by omega
    have hf : Hid (R = false) := Lib.hid (by rw [hR.out, decide_eq_false g1]; simp)
    go_wp2
    go_ret
    exact ⟨ret_bool hf.out.symm, BL.out⟩
  have i1 : ¬ (pn2 : Int) < 1 := by omega
  by_cases g2 : pn2 ≤ 128
  rotate_left
  · have i2 : (128 : Int) < (pn2 : Int) := by omega
    have hf : Hid (R = false) := Lib.hid (by rw [hR.out, decide_eq_false g2]; simp)
    go_wp2
    go_ret
    exact ⟨ret_bool hf.out.symm, BL.out⟩
  have i2 : ¬ (128 : Int) < (pn2 : Int) := by omega
  by_cases g3 : pn3 ≤ 256
  rotate_left
  · have i3 : (256 : Int) < (pn3 : Int) := by omega
    have hf : Hid (R = false) := Lib.hid (by rw [hR.out, decide_eq_false g3]; simp)
    go_wp2
    go_ret
    exact ⟨ret_bool hf.out.symm, BL.out⟩
  have i3 : ¬ (256 : Int) < (pn3 : Int) := by omega
  go_wp2
  clear k2 k3 i1 i2 i3
  go_loopw [4] (fun y wr => ∃ k : Nat, k ≤ pn2 ∧ y = .int .i64 k ∧ Hid (∀ t, t < k → spotB (D.spots.getD t spot0) = true) ∧ wr = u) (fun y _ => pn2 - (intOf y).toNat)
  case atStart => exact ⟨0, Nat.zero_le _, rfl, Lib.hid (fun t ht => by omega), rfl⟩
  case round =>
    obtain ⟨k, hk, rfl, hal, rfl⟩ := hrel
    by_cases hlt : k < pn2
    · have hki : (k : Int) < (pn2 : Int) := by omega
      have k2 := Z.out.cell 2
      obtain ⟨b, off, rfl, -, x0, x1, x2⟩ := spots_at S.out hlt
      have hno' := Lib.hid (ns.out k (by rw [← ls.out]; exact hlt))
      have hyes' : Hid (spotB (D.spots.getD k spot0) = true → ∀ t, t < k + 1 → spotB (D.spots.getD t spot0) = true) := Lib.hid (fun h t ht => by
        by_cases e : t = k
        · rw [e]; exact h
        · exact hal.out t (by omega))
      have hz := hsw.out k (by rw [← ls.out]; exact hlt)
      obtain ⟨s, f, x, hd⟩ : ∃ s f x, D.spots.getD k spot0 = (⟨s, f, x⟩ : SpotD) := ⟨_, _, _, rfl⟩
      rw [hd] at x0 x1 x2 hno' hyes' hz
      dsimp only at x0 x1 x2
      have q1 := Lib.hid (fun W => rname_any s (by have := hz.1; dsimp only at this; omega) W)
      have q2 := Lib.hid (fun W => rfile_any f (by have := hz.2.1; dsimp only at this; omega) W)
      have hsb : Hid (spotB ⟨s, f, x⟩ = (nameB s && (fileB f && (decide (1 ≤ x) && decide (x ≤ 1048576))))) := Lib.hid rfl
      clear hd hal ns hz
      generalize spotB ⟨s, f, x⟩ = B at *
      cases e1 : nameB s
      · rw [e1] at q1 hsb
        have hf : Hid (R = false) := Lib.hid (by rw [hR.out, hno'.out (by rw [hsb.out]; simp)]; simp)
        clear hno' hyes' hsb
        go_wp2_with fail
        refine (q1.out _).mono ?_
        rintro e w1 ⟨rfl, rfl⟩
        go_wp2
        go_ret
        exact ⟨ret_bool hf.out.symm, BL.out⟩
      rw [e1] at q1 hsb
      cases e2 : fileB f
      · rw [e2] at q2 hsb
        have hf : Hid (R = false) := Lib.hid (by rw [hR.out, hno'.out (by rw [hsb.out]; simp)]; simp)
        clear hno' hyes' hsb
        go_wp2_with fail
        refine (q1.out _).mono ?_
        rintro e w1 ⟨rfl, rfl⟩
        go_wp2_with fail
        refine (q2.out _).mono ?_
        rintro e w1 ⟨rfl, rfl⟩
        go_wp2
        go_ret
        exact ⟨ret_bool hf.out.symm, BL.out⟩
      rw [e2] at q2 hsb
      by_cases h1 : 1 ≤ x
      rotate_left
      · have h1n : x < 1 := by omega
        have hf : Hid (R = false) := Lib.hid (by rw [hR.out, hno'.out (by rw [hsb.out, decide_eq_false h1]; simp)]; simp)
        clear hno' hyes' hsb
        go_wp2_with fail
        refine (q1.out _).mono ?_
        rintro e w1 ⟨rfl, rfl⟩
        go_wp2_with fail
        refine (q2.out _).mono ?_
        rintro e w1 ⟨rfl, rfl⟩
        go_wp2
        go_ret
        exact ⟨ret_bool hf.out.symm, BL.out⟩
      have h1n : ¬ x < 1 := by omega
      by_cases h2 : x ≤ 1048576
      rotate_left
      · have h2n : 1048576 < x := by omega
        have hf : Hid (R = false) := Lib.hid (by rw [hR.out, hno'.out (by rw [hsb.out, decide_eq_false h2]; simp)]; simp)
        clear hno' hyes' hsb
        go_wp2_with fail
        refine (q1.out _).mono ?_
        rintro e w1 ⟨rfl, rfl⟩
        go_wp2_with fail
        refine (q2.out _).mono ?_
        rintro e w1 ⟨rfl, rfl⟩
        go_wp2
        go_ret
        exact ⟨ret_bool hf.out.symm, BL.out⟩
      have h2n : ¬ 1048576 < x := by omega
      have hg := Lib.hid (hyes'.out (by rw [hsb.out, decide_eq_true h1, decide_eq_true h2]; rfl))
      clear hno' hyes' hsb
      go_wp2_with fail
      refine (q1.out _).mono ?_
      rintro e w1 ⟨rfl, rfl⟩
      go_wp2_with fail
      refine (q2.out _).mono ?_
      rintro e w1 ⟨rfl, rfl⟩
      go_wp2
      go_roundw
      case rel => exact ⟨k + 1, by omega, by go_num, hg, trivial⟩
      case measure => simp [intOf]; omega
    · have hki : ¬ (k : Int) < (pn2 : Int) := by omega
      have hb := Lib.hid (ys.out (fun t ht => hal.out t (by rw [← ls.out] at ht; omega)))
      have hR2 : Hid (R = be) := Lib.hid (by rw [hR.out, hb.out, decide_eq_true g1, decide_eq_true g2, decide_eq_true g3]; rfl)
      clear hb hR ns ys hal hsw
      go_wp2
      clear hki hlt hk
      generalize wr = u at *
      go_loopw [5] (fun y wr => ∃ k : Nat, k ≤ pn3 ∧ y = .int .i64 k ∧ Hid (∀ t, t < k → edgeB pn2 pn1 (D.edges.getD t edge0) = true) ∧ Hid (Below u.heap.size u wr)) (fun y _ => pn3 - (intOf y).toNat)
      case atStart => exact ⟨0, Nat.zero_le _, rfl, Lib.hid (fun t ht => by omega), Lib.hid (Below.refl _ _)⟩
      case round =>
        obtain ⟨k, hk, rfl, hal, hB⟩ := hrel
        have k1 := (Z.out.below hB.out Z.out.lt).cell 1
        have k3 := (Z.out.below hB.out Z.out.lt).cell 3
        have hzl : w.heap.size < wr.heap.size := Nat.lt_of_lt_of_le Z.out.lt hB.out.size
        by_cases hlt : k < pn3
        · have hki : (k : Int) < (pn3 : Int) := by omega
          obtain ⟨b, off, rfl, -, x0, x1, x2, x3, x4, x5, x6⟩ := edges_at (E.out.below hB.out) hlt
          have hno' := Lib.hid (ne.out k (by rw [← le.out]; exact hlt))
          have hyes' : Hid (edgeB pn2 pn1 (D.edges.getD k edge0) = true → ∀ t, t < k + 1 → edgeB pn2 pn1 (D.edges.getD t edge0) = true) := Lib.hid (fun h t ht => by
            by_cases e : t = k
            · rw [e]; exact h
            · exact hal.out t (by omega))
          obtain ⟨fr, ds, ek, ex, ey, ec, ed, hd⟩ : ∃ fr ds ek ex ey ec ed, D.edges.getD k edge0 = (⟨fr, ds, ek, ex, ey, ec, ed⟩ : EdgeD) := ⟨_, _, _, _, _, _, _, rfl⟩
          rw [hd] at x0 x1 x2 x3 x4 x5 x6 hno' hyes'
          dsimp only at x0 x1 x2 x3 x4 x5 x6
          have heb : Hid (edgeB pn2 pn1 ⟨fr, ds, ek, ex, ey, ec, ed⟩ = ((decide (0 ≤ fr) && decide (fr < (pn2 : Int))) && ((decide (0 ≤ ds) && decide (ds < (pn2 : Int))) && rightB ek ex ey ec ed (pn1 : Int)))) := Lib.hid rfl
          have q3 := Lib.hid (fun W => rright_any ek ex ey ec ed (pn1 : Int) W)
          have hB1 := Lib.hid (hB.out.trans ((box_below wr #[.int .i64 fr, .int .i64 ds, .int .i64 ek, .int .i64 ex, .int .i64 ey, .int .i64 ec, .int .i64 ed] 75).mono hB.out.size))
          clear hd hal ne
          generalize edgeB pn2 pn1 ⟨fr, ds, ek, ex, ey, ec, ed⟩ = B at *
          generalize rightB ek ex ey ec ed (pn1 : Int) = br at *
          by_cases p1 : 0 ≤ fr
          rotate_left
          · have j1 : fr < 0 := by omega
            have hf : Hid (R = false) := Lib.hid (by rw [hR2.out, hno'.out (by rw [heb.out, decide_eq_false p1]; simp)])
            clear hno' hyes' heb
            go_wp2
            go_ret
            exact ⟨ret_bool hf.out.symm, BL.out.trans (hB1.out.mono BL.out.size)⟩
          have j1 : ¬ fr < 0 := by omega
          by_cases p2 : fr < (pn2 : Int)
          rotate_left
          · have j2 : (pn2 : Int) ≤ fr := by omega
            have hf : Hid (R = false) := Lib.hid (by rw [hR2.out, hno'.out (by rw [heb.out, decide_eq_false p2]; simp)])
            clear hno' hyes' heb
            go_wp2
            go_ret
            exact ⟨ret_bool hf.out.symm, BL.out.trans (hB1.out.mono BL.out.size)⟩
          have j2 : ¬ (pn2 : Int) ≤ fr := by omega
          by_cases p3 : 0 ≤ ds
          rotate_left
          · have j3 : ds < 0 := by omega
            have hf : Hid (R = false) := Lib.hid (by rw [hR2.out, hno'.out (by rw [heb.out, decide_eq_false p3]; simp)])
            clear hno' hyes' heb
            go_wp2
            go_ret
            exact ⟨ret_bool hf.out.symm, BL.out.trans (hB1.out.mono BL.out.size)⟩
          have j3 : ¬ ds < 0 := by omega
          by_cases p4 : ds < (pn2 : Int)
          rotate_left
          · have j4 : (pn2 : Int) ≤ ds := by omega
            have hf : Hid (R = false) := Lib.hid (by rw [hR2.out, hno'.out (by rw [heb.out, decide_eq_false p4]; simp)])
            clear hno' hyes' heb
            go_wp2
            go_ret
            exact ⟨ret_bool hf.out.symm, BL.out.trans (hB1.out.mono BL.out.size)⟩
          have j4 : ¬ (pn2 : Int) ≤ ds := by omega
          cases br
          · have hf : Hid (R = false) := Lib.hid (by rw [hR2.out, hno'.out (by rw [heb.out]; simp)])
            clear hno' hyes' heb
            go_wp2_with fail
            refine (q3.out _).mono ?_
            rintro e w1 ⟨rfl, b1⟩
            have hB2 := Lib.hid (hB1.out.trans (b1.mono hB1.out.size))
            clear b1
            go_wp2
            go_ret
            exact ⟨ret_bool hf.out.symm, BL.out.trans (hB2.out.mono BL.out.size)⟩
          have hg := Lib.hid (hyes'.out (by rw [heb.out, decide_eq_true p1, decide_eq_true p2, decide_eq_true p3, decide_eq_true p4]; rfl))
          clear hno' hyes' heb
          go_wp2_with fail
          refine (q3.out _).mono ?_
          rintro e w1 ⟨rfl, b1⟩
          have hB2 := Lib.hid (hB1.out.trans (b1.mono hB1.out.size))
          clear b1
          go_wp2
          go_roundw
          case rel => exact ⟨k + 1, by omega, by go_num, hg, hB2⟩
          case measure => simp [intOf]; omega
        · have hki : ¬ (k : Int) < (pn3 : Int) := by omega
          have hb := Lib.hid (ye.out (fun t ht => hal.out t (by rw [← le.out] at ht; omega)))
          have hf : Hid (R = true) := Lib.hid (by rw [hR2.out, hb.out])
          clear hb ye ne hR2
          go_wp2
          go_ret
          exact ⟨ret_bool hf.out.symm, BL.out.trans (hB.out.mono BL.out.size)⟩
end Go.Proofs.YtimgocfkogebmaaGreatDoor
namespace Go.Proofs.YtimgocfkogebmaaGreatDoor
open Go.RowKit
set_option linter.unusedVariables false
set_option linter.unusedSimpArgs false
def big12 (D : PD) : Bool := bigP D || (decide (20 < D.spots.length) || decide (60 < D.edges.length))
def big15 (D : PD) : Bool := bigP D || (decide (12 < D.spots.length) || decide (30 < D.edges.length))
def bigZ (L : List (Int × List Int)) : Bool := decide (150 < L.length) || L.any fun z => decide (200 < z.2.length)
set_option maxRecDepth 100000 in
set_option maxHeartbeats 2000000 in
theorem big12_any (p : PV) (D : PD) (hw : PW D) (w : World) (h : PrA w p D) : Calls Tryz.prog 43 #[.agg #[.string p.nm, .slice p.a1 p.n1 p.c1, .slice p.a2 p.n2 p.c2, .slice p.a3 p.n3 p.c3]] w (Gives (.bool (big12 D)) w) := by
  have hR : Hid (big12 D = (bigP D || (decide (20 < p.n2) || decide (60 < p.n3)))) := Lib.hid (by unfold big12; rw [h.spots.len, h.edges.len])
  have q1 := Lib.hid (fun W hW => plarge_any p D hw W hW)
  have hm2 : (p.n2 : Int) ≤ 9223372036854775807 := by have := h.spots.max'; omega
  have hm3 : (p.n3 : Int) ≤ 9223372036854775807 := by have := h.edges.max'; omega
  obtain ⟨pnm, pa1, pn1, pc1, pa2, pn2, pc2, pa3, pn3, pc3⟩ := p
  dsimp only at *
  obtain ⟨W1, hW1⟩ : ∃ W1, W1 = w.alloc (.cells #[.string pnm, .slice pa1 pn1 pc1, .slice pa2 pn2 pc2, .slice pa3 pn3 pc3] 38) := ⟨_, rfl⟩
  have Z := Lib.hid (show Holds W1 w.heap.size 38 #[.string pnm, .slice pa1 pn1 pc1, .slice pa2 pn2 pc2, .slice pa3 pn3 pc3] by rw [hW1]; exact Holds.new w _ _)
  have BL := Lib.hid (show Below w.heap.size w W1 by rw [hW1]; exact box_below _ _ _)
  have P := Lib.hid (h.below BL.out)
  have hW1' := Lib.hid hW1
  clear hW1 h
  generalize big12 D = R at *
  generalize bigP D = b0 at *
  go_enter Tryz.func43, Tryz.ntmps43
  go_wp2_with fail
  rw [← hW1'.out]
  with_reducible refine (q1.out _ P.out).mono ?_
  rintro e w1 ⟨rfl, b1⟩
  replace Z := Lib.hid (Z.out.below b1 Z.out.lt)
  replace P := Lib.hid (P.out.below b1)
  replace BL := Lib.hid (BL.out.trans (b1.mono BL.out.size))
  clear b1 q1 hW1'
  have k0 := Z.out.cell 0
  have k1 := Z.out.cell 1
  have k2 := Z.out.cell 2
  have k3 := Z.out.cell 3
  simp at k0 k1 k2 k3
  cases b0
  rotate_left
  · have hr : R = true := by rw [hR.out]; rfl
    clear hR
    subst hr
    go_wp2
    go_ret
    exact ⟨rfl, BL.out⟩
  by_cases h2 : 20 < pn2
  · have h2i : (20 : Int) < (pn2 : Int) := by omega
    have hr : R = true := by rw [hR.out, decide_eq_true h2]; rfl
    clear hR
    subst hr
    go_wp2
    go_ret
    exact ⟨rfl, BL.out⟩
  have h2i : ¬ (20 : Int) < (pn2 : Int) := by omega
  have d2 : decide ((20 : Int) < (pn2 : Int)) = false := decide_eq_false h2i
  have d2n : decide (20 < pn2) = false := decide_eq_false h2
  by_cases h3 : 60 < pn3
  · have h3i : (60 : Int) < (pn3 : Int) := by omega
    have hr : R = true := by rw [hR.out, decide_eq_true h3, decide_eq_false h2]; rfl
    clear hR
    subst hr
    go_wp2
    go_ret
    exact ⟨rfl, BL.out⟩
  have h3i : ¬ (60 : Int) < (pn3 : Int) := by omega
  have d3 : decide ((60 : Int) < (pn3 : Int)) = false := decide_eq_false h3i
  have d3n : decide (60 < pn3) = false := decide_eq_false h3
  have hr : R = false := by rw [hR.out, decide_eq_false h3, decide_eq_false h2]; rfl
  clear hR
  subst hr
  go_wp2
  go_ret
  exact ⟨rfl, BL.out⟩
set_option maxRecDepth 100000 in
set_option maxHeartbeats 2000000 in
theorem big15_any (p : PV) (D : PD) (hw : PW D) (w : World) (h : PrA w p D) : Calls Tryz.prog 17 #[.agg #[.string p.nm, .slice p.a1 p.n1 p.c1, .slice p.a2 p.n2 p.c2, .slice p.a3 p.n3 p.c3]] w (Gives (.bool (big15 D)) w) := by
  have hR : Hid (big15 D = (bigP D || (decide (12 < p.n2) || decide (30 < p.n3)))) := Lib.hid (by unfold big15; rw [h.spots.len, h.edges.len])
  have q1 := Lib.hid (fun W hW => plarge_any p D hw W hW)
  have q2 : Hid (bigP D = false → ¬ 12 < p.n2 → ¬ 30 < p.n3 → ∀ W, PrA W p D → Calls Tryz.prog 43 #[.agg #[.string p.nm, .slice p.a1 p.n1 p.c1, .slice p.a2 p.n2 p.c2, .slice p.a3 p.n3 p.c3]] W (Gives (.bool false) W)) := Lib.hid (fun g1 g2 g3 W hW => by
    have q := big12_any p D hw W hW
    rw [show big12 D = false by unfold big12; rw [g1, decide_eq_false (by rw [← hW.spots.len]; omega), decide_eq_false (by rw [← hW.edges.len]; omega)]; rfl] at q
    exact q)
  have hm2 : (p.n2 : Int) ≤ 9223372036854775807 := by have := h.spots.max'; omega
  have hm3 : (p.n3 : Int) ≤ 9223372036854775807 := by have := h.edges.max'; omega
  obtain ⟨pnm, pa1, pn1, pc1, pa2, pn2, pc2, pa3, pn3, pc3⟩ := p
  dsimp only at *
  obtain ⟨W1, hW1⟩ : ∃ W1, W1 = w.alloc (.cells #[.string pnm, .slice pa1 pn1 pc1, .slice pa2 pn2 pc2, .slice pa3 pn3 pc3] 38) := ⟨_, rfl⟩
  have Z := Lib.hid (show Holds W1 w.heap.size 38 #[.string pnm, .slice pa1 pn1 pc1, .slice pa2 pn2 pc2, .slice pa3 pn3 pc3] by rw [hW1]; exact Holds.new w _ _)
  have BL := Lib.hid (show Below w.heap.size w W1 by rw [hW1]; exact box_below _ _ _)
  have P := Lib.hid (h.below BL.out)
  have hW1' := Lib.hid hW1
  clear hW1 h
  generalize big15 D = R at *
  generalize bigP D = b0 at *
  go_enter Tryz.func17, Tryz.ntmps17
  go_wp2_with fail
  rw [← hW1'.out]
  with_reducible refine (q1.out _ P.out).mono ?_
  rintro e w1 ⟨rfl, b1⟩
  replace Z := Lib.hid (Z.out.below b1 Z.out.lt)
  replace P := Lib.hid (P.out.below b1)
  replace BL := Lib.hid (BL.out.trans (b1.mono BL.out.size))
  clear b1 q1 hW1'
  have k0 := Z.out.cell 0
  have k1 := Z.out.cell 1
  have k2 := Z.out.cell 2
  have k3 := Z.out.cell 3
  simp at k0 k1 k2 k3
  cases b0
  rotate_left
  · have hr : R = true := by rw [hR.out]; rfl
    clear hR
    subst hr
    go_wp2
    go_ret
    exact ⟨rfl, BL.out⟩
  by_cases h2 : 12 < pn2
  · have h2i : (12 : Int) < (pn2 : Int) := by omega
    have hr : R = true := by rw [hR.out, decide_eq_true h2]; rfl
    clear hR
    subst hr
    go_wp2
    go_ret
    exact ⟨rfl, BL.out⟩
  have h2i : ¬ (12 : Int) < (pn2 : Int) := by omega
  have d2 : decide ((12 : Int) < (pn2 : Int)) = false := decide_eq_false h2i
  have d2n : decide (12 < pn2) = false := decide_eq_false h2
  by_cases h3 : 30 < pn3
  · have h3i : (30 : Int) < (pn3 : Int) := by omega
    have hr : R = true := by rw [hR.out, decide_eq_true h3, decide_eq_false h2]; rfl
    clear hR
    subst hr
    go_wp2
    go_ret
    exact ⟨rfl, BL.out⟩
  have h3i : ¬ (30 : Int) < (pn3 : Int) := by omega
  have d3 : decide ((30 : Int) < (pn3 : Int)) = false := decide_eq_false h3i
  have d3n : decide (30 < pn3) = false := decide_eq_false h3
  have hr : R = false := by rw [hR.out, decide_eq_false h3, decide_eq_false h2]; rfl
  clear hR
  subst hr
  have q3 := Lib.hid (q2.out rfl h2 h3 _ P.out)
  clear q2 P
  go_wp2_with fail
  with_reducible refine q3.out.mono ?_
  rintro e w2 ⟨rfl, b2⟩
  replace BL := Lib.hid (BL.out.trans (b2.mono BL.out.size))
  clear b2 q3 k0 k1 k2 k3
  go_wp2
  go_ret
  exact ⟨rfl, BL.out⟩
theorem bigZ_yes {L : List (Int × List Int)} {k : Nat} (hk : k < L.length) (h : 200 < (L.getD k zd0).2.length) : bigZ L = true := by
  unfold bigZ
  rw [show L.any (fun z => decide (200 < z.2.length)) = true from any_yes (d := zd0) hk (decide_eq_true h), Bool.or_true]
theorem bigZ_no {L : List (Int × List Int)} (hl : L.length ≤ 150) (h : ∀ t, t < L.length → ¬ 200 < (L.getD t zd0).2.length) : bigZ L = false := by
  unfold bigZ
  rw [decide_eq_false (by omega), Bool.false_or, List.any_eq_false]
  intro z hz
  obtain ⟨i, hi, rfl⟩ := List.getElem_of_mem hz
  have := h i hi
  simpa [List.getD, hi] using this
set_option maxRecDepth 100000 in
set_option maxHeartbeats 2000000 in
theorem bigZ_any (a : Option Addr) (n c : Nat) (L : List (Int × List Int)) (w : World) (h : ZRow w a n c L) : Calls Tryz.prog 18 #[.slice a n c] w (Tells (.bool (bigZ L)) w) := by
  have hlen := Lib.hid h.len
  have hm : (n : Int) ≤ 9223372036854775807 := by have := h.max'; omega
  have T := Lib.hid h
  have hy := Lib.hid (fun k hk hb => bigZ_yes (L := L) (k := k) hk hb)
  have hn := Lib.hid (fun hl hb => bigZ_no (L := L) hl hb)
  have h150 : Hid (150 < n → bigZ L = true) := Lib.hid (fun hb => by unfold bigZ; rw [decide_eq_true (by rw [← hlen.out]; exact hb), Bool.true_or])
  have q := Lib.hid (fun a m c hm W => large_any a m c hm W)
  clear h
  generalize bigZ L = R at *
  go_enter Tryz.func18, Tryz.ntmps18
  go_wp2
  go_loop [3] (fun y => ∃ k : Nat, k ≤ n ∧ k ≤ 200 ∧ y = .int .i64 k ∧ Hid (∀ t, t < k → ¬ 200 < (L.getD t zd0).2.length)) (fun y => n - (intOf y).toNat)
  case atStart => exact ⟨0, Nat.zero_le _, Nat.zero_le _, rfl, Lib.hid (fun t ht => by omega)⟩
  case round =>
    obtain ⟨k, hk, hk2, rfl, hal⟩ := hrel
    by_cases hlt : k < n
    · have hki : (k : Int) < (n : Int) := by omega
      by_cases h200 : k < 200
      · have h2i : (k : Int) < 200 := by omega
        obtain ⟨b, off, za, zm, zc, rfl, hbl, x0, x1, hs⟩ := T.out.at_ hlt
        have hzl := hs.len
        have qq := Lib.hid (q.out za zm zc hs.max w)
        by_cases hbg : 200 < zm
        · have hr : R = true := hy.out k (by rw [← hlen.out]; exact hlt) (by rw [← hzl]; exact hbg)
          rw [show decide ((200 : Int) < (zm : Int)) = true from decide_eq_true (by omega)] at qq
          clear hy hn hal hzl hs h150 q
          subst hr
          go_wp2_with fail
          with_reducible refine qq.out.mono ?_
          rintro e w1 ⟨rfl, rfl⟩
          go_wp2
          go_ret
          exact ⟨rfl, rfl⟩
        · have hg : Hid (∀ t, t < k + 1 → ¬ 200 < (L.getD t zd0).2.length) := Lib.hid (fun t ht => by
            by_cases e : t = k
            · rw [e, ← hzl]; exact hbg
            · exact hal.out t (by omega))
          rw [show decide ((200 : Int) < (zm : Int)) = false from decide_eq_false (by omega)] at qq
          clear hy hn hal hzl hs h150 q
          go_wp2_with fail
          with_reducible refine qq.out.mono ?_
          rintro e w1 ⟨rfl, rfl⟩
          go_wp2
          go_round
          case rel => exact ⟨k + 1, by omega, by omega, by go_num, hg⟩
          case measure => simp [intOf]; omega
      · have h2i : ¬ (k : Int) < 200 := by omega
        have hr : R = true := h150.out (by omega)
        have hn150 : (150 : Int) < (n : Int) := by omega
        clear hy hn hal h150 q
        subst hr
        go_wp2
        go_ret
        exact ⟨rfl, rfl⟩
    · have hki : ¬ (k : Int) < (n : Int) := by omega
      by_cases hb : 150 < n
      · have hr : R = true := h150.out hb
        have hn150 : (150 : Int) < (n : Int) := by omega
        clear hy hn hal h150 q
        subst hr
        go_wp2
        go_ret
        exact ⟨rfl, rfl⟩
      · have hr : R = false := hn.out (by rw [← hlen.out]; omega) (fun t ht => hal.out t (by rw [← hlen.out] at ht; omega))
        have hn150 : ¬ (150 : Int) < (n : Int) := by omega
        clear hy hn hal h150 q
        subst hr
        go_wp2
        go_ret
        exact ⟨rfl, rfl⟩
set_option maxRecDepth 100000 in
set_option maxHeartbeats 2000000 in
theorem rfirst_any (p : PV) (zn : Int) (za : Option Addr) (zm zc : Nat) (l : List Int) (w : World) (hs : SL w za zm zc l) : Calls Tryz.prog 51 #[.agg #[.string p.nm, .slice p.a1 p.n1 p.c1, .slice p.a2 p.n2 p.c2, .slice p.a3 p.n3 p.c3], .agg #[.int .i64 zn, .slice za zm zc]] w (Gives (.bool (zoneB p.n1 (zn, l))) w) := by
  have hR : Hid (zoneB p.n1 (zn, l) = (decide (zn = (p.n1 : Int)) && checkB zn l)) := Lib.hid rfl
  obtain ⟨pnm, pa1, pn1, pc1, pa2, pn2, pc2, pa3, pn3, pc3⟩ := p
  dsimp only at *
  obtain ⟨W1, hW1⟩ : ∃ W1, W1 = w.alloc (.cells #[.string pnm, .slice pa1 pn1 pc1, .slice pa2 pn2 pc2, .slice pa3 pn3 pc3] 38) := ⟨_, rfl⟩
  obtain ⟨W2, hW2⟩ : ∃ W2, W2 = W1.alloc (.cells #[.int .i64 zn, .slice za zm zc] 51) := ⟨_, rfl⟩
  have z1 : W1.heap.size = w.heap.size + 1 := by rw [hW1]; simp
  have b1 : Below w.heap.size w W1 := by rw [hW1]; exact box_below _ _ _
  have b2 : Below W1.heap.size W1 W2 := by rw [hW2]; exact box_below _ _ _
  have BL := Lib.hid (b1.trans (b2.mono b1.size))
  have HP := Lib.hid (Holds.below (w := W1) (g := w.heap.size) (t := 38) (cs := #[.string pnm, .slice pa1 pn1 pc1, .slice pa2 pn2 pc2, .slice pa3 pn3 pc3]) (by rw [hW1]; exact Holds.new _ _ _) b2 (by omega))
  have HZ := Lib.hid (show Holds W2 (w.heap.size + 1) 51 #[.int .i64 zn, .slice za zm zc] by rw [hW2, ← z1]; exact Holds.new _ _ _)
  have q := Lib.hid (zrcheck_any zn za zm zc l W2 (hs.below BL.out))
  have hh := Lib.hid (And.intro hW1 hW2)
  clear hW1 hW2 z1 b1 b2 hs
  generalize zoneB pn1 (zn, l) = R at *
  generalize checkB zn l = cb at *
  go_enter Tryz.func51, Tryz.ntmps51
  go_wp2_with fail
  rw [← hh.out.1, ← hh.out.2]
  with_reducible refine q.out.mono ?_
  rintro e w1 ⟨rfl, b1⟩
  have k1 := (HP.out.below b1 HP.out.lt).cell 1
  have y0 := (HZ.out.below b1 HZ.out.lt).cell 0
  simp at k1 y0
  replace BL := Lib.hid (BL.out.trans (b1.mono BL.out.size))
  clear b1 q hh HP HZ
  cases cb
  · have hr : R = false := by rw [hR.out, Bool.and_false]
    clear hR
    subst hr
    go_wp2
    go_ret
    exact ⟨rfl, BL.out⟩
  · by_cases h1 : zn = (pn1 : Int)
    · have hr : R = true := by rw [hR.out, decide_eq_true h1]; rfl
      have e1 : (zn == (pn1 : Int)) = true := by simpa using h1
      clear hR h1
      subst hr
      go_wp2
      go_ret
      exact ⟨rfl, BL.out⟩
    · have hr : R = false := by rw [hR.out, decide_eq_false h1]; rfl
      have e1 : (zn == (pn1 : Int)) = false := by simpa using h1
      clear hR h1
      subst hr
      go_wp2
      go_ret
      exact ⟨rfl, BL.out⟩
set_option maxRecDepth 100000 in
set_option maxHeartbeats 4000000 in
theorem rzones_any (p : PV) (D : PD) (a : Option Addr) (n c : Nat) (L : List (Int × List Int)) (w : World) (h : PrA w p D) (hl : ZRow w a n c L) : Calls Tryz.prog 47 #[.agg #[.string p.nm, .slice p.a1 p.n1 p.c1, .slice p.a2 p.n2 p.c2, .slice p.a3 p.n3 p.c3], .slice a n c] w (Gives (.bool (decide (n = p.n2) && L.all (zoneB p.n1))) w) := by
  have hlen := Lib.hid hl.len
  have hm2 : (p.n2 : Int) ≤ 9223372036854775807 := by have := h.spots.max'; omega
  have hmn : (n : Int) ≤ 9223372036854775807 := by have := hl.max'; omega
  have hno := Lib.hid (fun k hk h => all_no (q := zoneB p.n1) (l := L) (d := zd0) (k := k) hk h)
  have hyes := Lib.hid (fun h => all_yes (q := zoneB p.n1) (l := L) zd0 h)
  have q := Lib.hid (fun zn za zm zc l W hs => rfirst_any p zn za zm zc l W hs)
  obtain ⟨pnm, pa1, pn1, pc1, pa2, pn2, pc2, pa3, pn3, pc3⟩ := p
  dsimp only at *
  obtain ⟨W1, hW1⟩ : ∃ W1, W1 = w.alloc (.cells #[.string pnm, .slice pa1 pn1 pc1, .slice pa2 pn2 pc2, .slice pa3 pn3 pc3] 38) := ⟨_, rfl⟩
  have HP := Lib.hid (show Holds W1 w.heap.size 38 #[.string pnm, .slice pa1 pn1 pc1, .slice pa2 pn2 pc2, .slice pa3 pn3 pc3] by rw [hW1]; exact Holds.new w _ _)
  have BL := Lib.hid (show Below w.heap.size w W1 by rw [hW1]; exact box_below _ _ _)
  have ZL := Lib.hid (hl.below BL.out)
  have hW1' := Lib.hid hW1
  clear hW1 h hl
  obtain ⟨R, hRR⟩ : ∃ R, R = (decide (n = pn2) && L.all (zoneB pn1)) := ⟨_, rfl⟩
  rw [← hRR]
  have hR := Lib.hid hRR
  clear hRR
  generalize L.all (zoneB pn1) = zb at *
  go_enter Tryz.func47, Tryz.ntmps47
  go_wp2
  rw [← hW1'.out]
  clear hW1'
  go_loopw [5] (fun y wr => ∃ k : Nat, k ≤ n ∧ y = .int .i64 k ∧ Hid (∀ t, t < k → zoneB pn1 (L.getD t zd0) = true) ∧ Hid (Below W1.heap.size W1 wr)) (fun y _ => n - (intOf y).toNat)
  case atStart => exact ⟨0, Nat.zero_le _, rfl, Lib.hid (fun t ht => by omega), Lib.hid (Below.refl _ _)⟩
  case round =>
    obtain ⟨k, hk, rfl, hal, hB⟩ := hrel
    generalize wr = g0 at *
    by_cases hlt : k < n
    · have hki : (k : Int) < (n : Int) := by omega
      obtain ⟨b, off, za, zm, zc, rfl, hbl, x0, x1, hs⟩ := (ZL.out.below hB.out).at_ hlt
      have hno' := Lib.hid (hno.out k (by rw [← hlen.out]; exact hlt))
      have hyes' : Hid (zoneB pn1 (L.getD k zd0) = true → ∀ t, t < k + 1 → zoneB pn1 (L.getD t zd0) = true) := Lib.hid (fun h t ht => by
        by_cases e : t = k
        · rw [e]; exact h
        · exact hal.out t (by omega))
      obtain ⟨zn, zl, he⟩ : ∃ zn zl, L.getD k zd0 = (zn, zl) := ⟨_, _, rfl⟩
      rw [he] at x0 hs hno' hyes'
      dsimp only at x0 hs
      have HPg := HP.out.below hB.out HP.out.lt
      have hpl := HPg.lt
      have c0 := HPg.cell 0
      have c1 := HPg.cell 1
      have c2 := HPg.cell 2
      have c3 := HPg.cell 3
      simp at c0 c1 c2 c3
      have k0 : ∀ W, Below g0.heap.size g0 W → W.cell? ⟨w.heap.size, 0, none⟩ = some (.string pnm) := fun W hW => (hW.cell (p := ⟨w.heap.size, 0, none⟩) hpl).trans c0
      have k1 : ∀ W, Below g0.heap.size g0 W → W.cell? ⟨w.heap.size, 1, none⟩ = some (.slice pa1 pn1 pc1) := fun W hW => (hW.cell (p := ⟨w.heap.size, 1, none⟩) hpl).trans c1
      have k2 : ∀ W, Below g0.heap.size g0 W → W.cell? ⟨w.heap.size, 2, none⟩ = some (.slice pa2 pn2 pc2) := fun W hW => (hW.cell (p := ⟨w.heap.size, 2, none⟩) hpl).trans c2
      have k3 : ∀ W, Below g0.heap.size g0 W → W.cell? ⟨w.heap.size, 3, none⟩ = some (.slice pa3 pn3 pc3) := fun W hW => (hW.cell (p := ⟨w.heap.size, 3, none⟩) hpl).trans c3
      have y0 : ∀ W, Below g0.heap.size g0 W → W.cell? ⟨b, off + k * 2, none⟩ = some (.int .i64 zn) := fun W hW => (hW.cell (p := ⟨b, off + k * 2, none⟩) hbl).trans x0
      have y1 : ∀ W, Below g0.heap.size g0 W → W.cell? ⟨b, off + k * 2 + 1, none⟩ = some (.slice za zm zc) := fun W hW => (hW.cell (p := ⟨b, off + k * 2 + 1, none⟩) hbl).trans x1
      have q1 := Lib.hid (fun W (hW : Below g0.heap.size g0 W) => q.out zn za zm zc zl W (hs.below hW))
      clear hal hno hs he x0 x1 c0 c1 c2 c3 HPg hpl
      cases e1 : zoneB pn1 (zn, zl)
      · have hf : zb = false := hno'.out e1
        rw [e1] at q1
        have hr : R = false := by rw [hR.out, hf, Bool.and_false]
        clear hno' hyes' hyes e1 hR hf
        subst hr
        go_wp2
        refine wp_drawn_on (fun W => Below g0.heap.size g0 W) (by kernel_rfl) ((Below.refl _ _).drew) (fun hHeld => ?_)
        refine wT 0 (v := ?v1) rfl (by kernel_rfl) (fun _ _ _ h => h) ?h1 (by assumption) ?r1
        case h1 => (intro w hSw; (try dsimp only at hSw); go_simp; try with_reducible rfl)
        refine wT 1 (v := ?v2) rfl (by kernel_rfl) (fun _ _ _ h => h) ?h2 (by assumption) ?r2
        case h2 => (intro w hSw; (try dsimp only at hSw); go_simp; try with_reducible rfl)
        refine wT 2 (v := ?v3) rfl (by kernel_rfl) (fun _ _ _ h => h) ?h3 (by assumption) ?r3
        case h3 => (intro w hSw; (try dsimp only at hSw); go_simp; try with_reducible rfl)
        refine wT 3 (v := ?v4) rfl (by kernel_rfl) (fun _ _ _ h => h) ?h4 (by assumption) ?r4
        case h4 => (intro w hSw; (try dsimp only at hSw); go_simp; try with_reducible rfl)
        refine wT 4 (v := ?v5) rfl (by kernel_rfl) (fun _ _ _ h => h) ?h5 (by assumption) ?r5
        case h5 => (intro w hSw; (try dsimp only at hSw); go_simp; try with_reducible rfl)
        try simp only [Act.put, List.setIfInBounds_toArray, List.set_cons_zero, List.set_cons_succ]
        refine wpAnyH_ready (rs := [5]) (by kernel_rfl) (by simp) ?_
        refine AllReadyH.cons (o := ⟨_, _, _, _, _, _⟩) rfl (fun K hK => ?_) AllReadyH.nil
        go_simp
        with_reducible refine (q1.out _ hHeld).mono ?_
        rintro e v1 ⟨rfl, b1⟩
        go_simp
        refine hK.out _ _ (hHeld.trans (b1.mono hHeld.size)) (fun hHeld => ?_)
        clear hK K
        refine wT 6 (v := ?v6) rfl (by kernel_rfl) (fun _ _ _ h => h) ?h6 (by assumption) ?r6
        case h6 => (intro w hSw; (try dsimp only at hSw); go_simp; try with_reducible rfl)
        try simp only [Act.put, List.setIfInBounds_toArray, List.set_cons_zero, List.set_cons_succ]
        refine wpAnyH_done (by kernel_rfl) ?_ _
        have hB2 := Lib.hid (hB.out.trans (hHeld.mono hB.out.size))
        clear hHeld b1 q1 k0 k1 k2 k3 y0 y1
        go_wp2
        go_ret
        exact ⟨rfl, BL.out.trans (hB2.out.mono BL.out.size)⟩
      · have hg := Lib.hid (hyes'.out e1)
        rw [e1] at q1
        clear hno' hyes' e1
        go_wp2
        refine wp_drawn_on (fun W => Below g0.heap.size g0 W) (by kernel_rfl) ((Below.refl _ _).drew) (fun hHeld => ?_)
        refine wT 0 (v := ?v7) rfl (by kernel_rfl) (fun _ _ _ h => h) ?h7 (by assumption) ?r7
        case h7 => (intro w hSw; (try dsimp only at hSw); go_simp; try with_reducible rfl)
        refine wT 1 (v := ?v8) rfl (by kernel_rfl) (fun _ _ _ h => h) ?h8 (by assumption) ?r8
        case h8 => (intro w hSw; (try dsimp only at hSw); go_simp; try with_reducible rfl)
        refine wT 2 (v := ?v9) rfl (by kernel_rfl) (fun _ _ _ h => h) ?h9 (by assumption) ?r9
        case h9 => (intro w hSw; (try dsimp only at hSw); go_simp; try with_reducible rfl)
        refine wT 3 (v := ?v10) rfl (by kernel_rfl) (fun _ _ _ h => h) ?h10 (by assumption) ?r10
        case h10 => (intro w hSw; (try dsimp only at hSw); go_simp; try with_reducible rfl)
        refine wT 4 (v := ?v11) rfl (by kernel_rfl) (fun _ _ _ h => h) ?h11 (by assumption) ?r11
        case h11 => (intro w hSw; (try dsimp only at hSw); go_simp; try with_reducible rfl)
        try simp only [Act.put, List.setIfInBounds_toArray, List.set_cons_zero, List.set_cons_succ]
        refine wpAnyH_ready (rs := [5]) (by kernel_rfl) (by simp) ?_
        refine AllReadyH.cons (o := ⟨_, _, _, _, _, _⟩) rfl (fun K hK => ?_) AllReadyH.nil
        go_simp
        with_reducible refine (q1.out _ hHeld).mono ?_
        rintro e v1 ⟨rfl, b1⟩
        go_simp
        refine hK.out _ _ (hHeld.trans (b1.mono hHeld.size)) (fun hHeld => ?_)
        clear hK K
        refine wT 6 (v := ?v12) rfl (by kernel_rfl) (fun _ _ _ h => h) ?h12 (by assumption) ?r12
        case h12 => (intro w hSw; (try dsimp only at hSw); go_simp; try with_reducible rfl)
        try simp only [Act.put, List.setIfInBounds_toArray, List.set_cons_zero, List.set_cons_succ]
        refine wpAnyH_done (by kernel_rfl) ?_ _
        have hB2 := Lib.hid (hB.out.trans (hHeld.mono hB.out.size))
        clear hHeld b1 q1 k0 k1 k2 k3 y0 y1
        go_wp2
        go_roundw
        case rel => exact ⟨k + 1, by omega, by go_num, hg, hB2⟩
        case measure => simp [intOf]; omega
    · have hki : ¬ (k : Int) < (n : Int) := by omega
      have hf : zb = true := hyes.out (fun t ht => hal.out t (by rw [← hlen.out] at ht; omega))
      have hr : Hid (R = decide (n = pn2)) := Lib.hid (by rw [hR.out, hf, Bool.and_true])
      have c2 := (HP.out.below hB.out HP.out.lt).cell 2
      simp at c2
      clear hyes hno hal hR hf
      by_cases he : n = pn2
      · have hr2 : R = true := by rw [hr.out]; exact decide_eq_true he
        have e1 : ((n : Int) == (pn2 : Int)) = true := by simp; omega
        have e2 : (n == pn2) = true := by simpa using he
        clear hr he
        subst hr2
        go_wp2
        go_ret
        exact ⟨rfl, BL.out.trans (hB.out.mono BL.out.size)⟩
      · have hr2 : R = false := by rw [hr.out]; exact decide_eq_false he
        have e1 : ((n : Int) == (pn2 : Int)) = false := by simp; omega
        have e2 : (n == pn2) = false := by simpa using he
        clear hr he
        subst hr2
        go_wp2
        go_ret
        exact ⟨rfl, BL.out.trans (hB.out.mono BL.out.size)⟩
set_option maxRecDepth 100000 in
set_option maxHeartbeats 4000000 in
theorem ramay_any (p : PV) (D : PD) (hw : PW D) (a : Option Addr) (n c : Nat) (L : List (Int × List Int)) (w : World) (h : PrA w p D) (hl : ZRow w a n c L) : Calls Tryz.prog 21 #[.agg #[.string p.nm, .slice p.a1 p.n1 p.c1, .slice p.a2 p.n2 p.c2, .slice p.a3 p.n3 p.c3], .slice a n c] w (Gives (.int .i64 (chkZ D L)) w) := by
  have hC : Hid (chkZ D L = if progB D = true then (if (decide (n = p.n2) && L.all (zoneB p.n1)) = true then 0 else 80) else 110) := Lib.hid (by unfold chkZ; rw [hl.len, h.spots.len, h.vars.len])
  have q1 := Lib.hid (fun W hW => rcheckP_any p D hw W hW)
  have q2 := Lib.hid (fun W hW hlW => rzones_any p D a n c L W hW hlW)
  obtain ⟨pnm, pa1, pn1, pc1, pa2, pn2, pc2, pa3, pn3, pc3⟩ := p
  dsimp only at *
  obtain ⟨W1, hW1⟩ : ∃ W1, W1 = w.alloc (.cells #[.string pnm, .slice pa1 pn1 pc1, .slice pa2 pn2 pc2, .slice pa3 pn3 pc3] 38) := ⟨_, rfl⟩
  have HP := Lib.hid (show Holds W1 w.heap.size 38 #[.string pnm, .slice pa1 pn1 pc1, .slice pa2 pn2 pc2, .slice pa3 pn3 pc3] by rw [hW1]; exact Holds.new w _ _)
  have BL := Lib.hid (show Below w.heap.size w W1 by rw [hW1]; exact box_below _ _ _)
  have P := Lib.hid (h.below BL.out)
  have ZL := Lib.hid (hl.below BL.out)
  have hW1' := Lib.hid hW1
  clear hW1 h hl
  generalize chkZ D L = R at *
  generalize progB D = pb at *
  generalize (decide (n = pn2) && L.all (zoneB pn1)) = zb at *
  go_enter Tryz.func21, Tryz.ntmps21
  go_wp2_with fail
  rw [← hW1'.out]
  with_reducible refine (q1.out _ P.out).mono ?_
  rintro e w1 ⟨rfl, b1⟩
  replace HP := Lib.hid (HP.out.below b1 HP.out.lt)
  replace P := Lib.hid (P.out.below b1)
  replace ZL := Lib.hid (ZL.out.below b1)
  replace BL := Lib.hid (BL.out.trans (b1.mono BL.out.size))
  clear b1 q1 hW1'
  cases pb
  · have hr : R = 110 := by rw [hC.out]; rfl
    clear hC
    subst hr
    go_wp2
    go_ret
    exact ⟨rfl, BL.out⟩
  have k0 := HP.out.cell 0
  have k1 := HP.out.cell 1
  have k2 := HP.out.cell 2
  have k3 := HP.out.cell 3
  simp at k0 k1 k2 k3
  have q3 := Lib.hid (q2.out _ P.out ZL.out)
  clear q2 P ZL
  go_wp2_with fail
  with_reducible refine q3.out.mono ?_
  rintro e w2 ⟨rfl, b2⟩
  replace BL := Lib.hid (BL.out.trans (b2.mono BL.out.size))
  clear b2 q3 k0 k1 k2 k3
  cases zb
  · have hr : R = 80 := by rw [hC.out]; rfl
    clear hC
    subst hr
    go_wp2
    go_ret
    exact ⟨rfl, BL.out⟩
  · have hr : R = 0 := by rw [hC.out]; rfl
    clear hC
    subst hr
    go_wp2
    go_ret
    exact ⟨rfl, BL.out⟩
end Go.Proofs.YtimgocfkogebmaaGreatDoor
namespace Go.Proofs.YtimgocfkogebmaaGreatDoor
open Go.RowKit Go.ChangeShapes Go.WideShapes Go.Deep
set_option linter.unusedVariables false
set_option linter.unusedSimpArgs false
def zoneW (z : Int × List Int) : Prop := (Lit.int .i64 z.1).wf = true ∧ ∀ x ∈ z.2, (Lit.int .i64 x).wf = true
def ZonesSl (w : World) (a : Option Addr) (n c : Nat) : Prop := ∃ L, ZRow w a n c L ∧ (∀ z ∈ L, zoneW z) ∧ n ≤ 4398046511104
theorem zones_bytes : Tryz.prog.bytesOf 51 = 32 := by kernel_rfl
theorem nums_cell {H : Type} {enc : TypeId × Value → H} {w : World} {m : Nat} {v : Value} {y : DataW H × List MemPlace} (h : DataW.trod enc Tryz.prog w 0 (fun _ => true) true m 49 [v] = some y) :
    ∃ a l c zs, v = .slice a l c ∧ SL w a l c zs ∧ ∀ x ∈ zs, (Lit.int .i64 x).wf = true := by
  rcases open_ints Tryz.underlying49 Tryz.underlying3 (by kernel_rfl) h with ⟨hcs, _⟩ | ⟨x, l, c, zs, hcs, _, hl, hm, hz, _, hcell, hwz⟩
  · simp at hcs
    exact ⟨none, 0, 0, [], hcs, SL.nil w, by simp⟩
  · simp at hcs
    simp at hz
    have hml : l ≤ 9223372036854775807 := by have := hm; unfold maxLen at this; omega
    refine ⟨some x, l, c, zs.take l, hcs, ⟨by rw [List.length_take]; omega, hl, hml, ?_⟩, fun n hn => hwz n (List.mem_of_mem_take hn)⟩
    by_cases h0 : l = 0
    · left; simp [h0]
    · right
      obtain ⟨b, off, spot⟩ := x
      have h8 := hcell 0 (by omega)
      have hsp : spot = none := by
        have : ((⟨b, off, spot⟩ : Addr).add 0).spot = none := World.cell?_spot h8
        simpa [Addr.add] using this
      subst hsp
      rw [add_at] at h8
      refine ⟨b, off, rfl, World.block_lt_of_cell? w _ h8, fun i hi => ?_⟩
      rw [List.length_take] at hi
      have h9 := hcell i (by omega)
      rw [add_at] at h9
      rw [h9]
      simp [List.getD, show i < l by omega]
theorem zone_row {H : Type} {enc : TypeId × Value → H} {w : World} {fuel : Nat} {r : Option Addr} {len cap : Nat} {x : DataW H × List MemPlace}
    (h : DataW.trod enc Tryz.prog w 0 (fun _ => true) true fuel 39 [.slice r len cap] = some x) (hR : Reach Tryz.prog 39 x.1) : ZonesSl w r len cap := by
  obtain ⟨h1, h2, h3⟩ := flat_row 2 [3, 49] Tryz.underlying39 (by kernel_rfl) (by kernel_rfl) (by kernel_rfl) (by decide) h hR
  rcases h3 with rfl | ⟨hb, b, off, rfl, hB, hc⟩
  · exact ⟨[], ⟨rfl, h1, h2, .inl rfl⟩, by simp, by omega⟩
  · have key : ∀ i, ∃ z : Int × List Int, i < len → (w.cell? ⟨b, off + i * 2, none⟩ = some (.int .i64 z.1) ∧ ∃ a' m' c', w.cell? ⟨b, off + i * 2 + 1, none⟩ = some (.slice a' m' c') ∧ SL w a' m' c' z.2) ∧ zoneW z := by
      intro i
      by_cases hi : i < len
      · obtain ⟨v0, y0, m0, c0, t0, r0⟩ := hc i hi 0 _ rfl
        obtain ⟨v1, y1, m1, c1, t1, r1⟩ := hc i hi 1 _ rfl
        obtain ⟨z0, e0', _, w0⟩ := DataW.trod_int Tryz.underlying3 t0
        simp at e0'
        subst e0'
        obtain ⟨a', l', c', zs, rfl, hs, hw⟩ := nums_cell t1
        exact ⟨(z0, zs), fun _ => ⟨⟨c0, a', l', c', c1, hs⟩, w0, hw⟩⟩
      · exact ⟨zd0, fun h => absurd h hi⟩
    let T : Nat → Int × List Int := fun i => Classical.choose (key i)
    have hT := fun i (hi : i < len) => Classical.choose_spec (key i) hi
    have hg : ∀ i, i < len → ((List.range len).map T).getD i zd0 = T i := fun i hi => by simp [List.getD, hi]
    refine ⟨(List.range len).map T, ⟨by simp, h1, h2, .inr ⟨b, off, rfl, hB, fun i hi => ?_⟩⟩, fun z hz => ?_, by rw [zones_bytes] at hb; omega⟩
    · rw [hg i hi]
      exact (hT i hi).1
    · obtain ⟨i, hi, rfl⟩ := List.mem_map.1 hz
      exact (hT i (by simpa using hi)).2
end Go.Proofs.YtimgocfkogebmaaGreatDoor
namespace Go.Proofs.YtimgocfkogebmaaGreatDoor
open Go.RowKit
set_option linter.unusedVariables false
theorem ask_5 (n X Y : Nat) (c : Int) (l : List Int) (hz : IsZ n l) (q1 : X ≤ n) (q2 : Y ≤ n) (hr : rightB 5 X Y c 0 n = true) (hc : -1099511627776 ≤ c ∧ c ≤ 1099511627776) :
    AskOK n l 5 X Y c 0 (!decide (faultL n l 5 X Y c = [])) (decide (postL n l 5 X Y c 0 = []) && !decide (faultL n l 5 X Y c = [])) := by
  intro W a m ca hs
  have hf : ∀ V, SL V a m ca l → Calls Tryz.prog 134 #[.agg #[.int .i64 n, .slice a m ca], .agg #[.int .i64 5, .int .i64 X, .int .i64 Y, .int .i64 c, .int .i64 0]] V (ZoneE n (faultL n l 5 X Y c) 0 V) := fun V hV => by
    refine Fault_of n 5 X Y c 0 n 0 _ a m ca V fun W hW => ?_
    exact do_faults_5 n X Y c 0 l _ hz hr a m ca (fun W hs => beyond_any n l hz 5 X Y c 0 X Y rfl rfl q1 q2 hc a m ca W hs) W (hV.below hW)
  have hp : ∀ V, SL V a m ca l → Calls Tryz.prog 100 #[.agg #[.int .i64 n, .slice a m ca], .agg #[.int .i64 5, .int .i64 X, .int .i64 Y, .int .i64 c, .int .i64 0]] V (ZoneE n (postL n l 5 X Y c 0) 0 V) := fun V hV => by
    refine Post_of n 5 X Y c 0 n 0 _ a m ca V fun W hW => ?_
    exact do_steps_5 n X Y c 0 l _ hz hr a m ca (fun W hs => plimit_any n l hz 5 X Y c 0 X Y rfl rfl q1 q2 a m ca W hs) W (hV.below hW)
  have hm := fun V (hV : SL V a m ca l) => may_of n 5 X Y c 0 _ (faultL_isz hz 5 X Y c) a m ca V (fun V2 h2 => hf V2 (hV.below h2))
  exact ⟨hm W hs, must_of n 5 X Y c 0 _ (postL_isz hz 5 X Y c 0) _ a m ca W (fun V hV => hp V (hs.below hV)) (fun V hV => hm V (hs.below hV))⟩
end Go.Proofs.YtimgocfkogebmaaGreatDoor
namespace Go.Proofs.YtimgocfkogebmaaGreatDoor
open Go.RowKit
set_option linter.unusedVariables false
set_option linter.unusedSimpArgs false
def oddN (r : Nat) : Bool := decide (r < 32) || decide (126 < r)
theorem dec_low (s : ByteArray) (i : Nat) (h : (s.get! i).toNat < 128) : Utf8.decode s i = ((s.get! i).toNat, 1) := by
  unfold Utf8.decode
  simp only [Nat.add_zero]
  rw [if_pos h]
theorem dec_high (s : ByteArray) (i : Nat) (h : ¬ (s.get! i).toNat < 128) : 128 ≤ (Utf8.decode s i).1 := by
  unfold Utf8.decode
  simp only [Nat.add_zero]
  rw [if_neg h]
  have e : Utf8.runeError = 65533 := rfl
  split
  · split
    · next hc => exact hc
    · rw [e]; omega
  · split
    · split
      · next hc => simp at hc; omega
      · rw [e]; omega
    · split
      · split
        · next hc => simp at hc; omega
        · rw [e]; omega
      · rw [e]; omega
theorem idx_odd (s : ByteArray) : ∀ (f pos : Nat), s.size ≤ f + pos → (0 ≤ Lib.idxFuncFrom oddN true s f pos ↔ ∃ j, pos ≤ j ∧ j < s.size ∧ oddN (s.get! j).toNat = true)
  | 0, pos, h => by
    unfold Lib.idxFuncFrom
    exact ⟨fun h => by omega, fun ⟨j, h1, h2, _⟩ => by omega⟩
  | f + 1, pos, h => by
    unfold Lib.idxFuncFrom
    by_cases hp : pos < s.size
    · rw [if_pos hp]
      by_cases hb : (s.get! pos).toNat < 128
      · rw [dec_low s pos hb]
        by_cases ho : oddN (s.get! pos).toNat = true
        · rw [if_pos ho]
          exact ⟨fun _ => ⟨pos, Nat.le_refl _, hp, ho⟩, fun _ => by omega⟩
        · rw [if_neg ho, idx_odd s f (pos + 1) (by omega)]
          constructor
          · rintro ⟨j, h1, h2, h3⟩; exact ⟨j, by omega, h2, h3⟩
          · rintro ⟨j, h1, h2, h3⟩
            refine ⟨j, ?_, h2, h3⟩
            rcases Nat.lt_or_ge pos j with h4 | h4
            · exact h4
            · have : j = pos := by omega
              subst this
              exact absurd h3 ho
      · have hd := dec_high s pos hb
        have ho : oddN (Utf8.decode s pos).1 = true := by simp [oddN]; omega
        rw [if_pos ho]
        exact ⟨fun _ => ⟨pos, Nat.le_refl _, hp, by simp [oddN]; omega⟩, fun _ => by omega⟩
    · rw [if_neg hp]
      exact ⟨fun h => by omega, fun ⟨j, h1, h2, _⟩ => by omega⟩
theorem idx_all (s : ByteArray) : decide (0 ≤ Lib.idxFunc oddN true s) = !((byt s).all fun c => decide (32 ≤ c.toNat) && decide (c.toNat ≤ 126)) := by
  have h := idx_odd s s.size 0 (by omega)
  have e : ∀ j, j < s.size → s.get! j = (byt s).getD j 0 := by
    clear h
    intro j hj
    unfold byt
    have h2 : j < s.data.size := hj
    obtain ⟨bs⟩ := s
    show bs[j]! = bs.toList.getD j 0
    rw [getElem!_pos bs j h2]
    simp [List.getD, h2]
  unfold Lib.idxFunc
  rw [Bool.eq_iff_iff, decide_eq_true_eq, h]
  simp only [Bool.not_eq_true', List.all_eq_false]
  constructor
  · rintro ⟨j, _, h2, h3⟩
    refine ⟨s.get! j, ?_, ?_⟩
    · rw [e j h2]
      have h4 : j < (byt s).length := h2
      simp [List.getD, h4]
    · unfold oddN at h3
      simp at h3 ⊢
      omega
  · rintro ⟨c, hc, h3⟩
    obtain ⟨j, hj, e2⟩ := List.getElem_of_mem hc
    refine ⟨j, Nat.zero_le _, hj, ?_⟩
    rw [e j hj]
    have e3 : (byt s).getD j 0 = c := by rw [← e2]; simp [List.getD, hj]
    rw [e3]
    unfold oddN
    simp at h3 ⊢
    omega
end Go.Proofs.YtimgocfkogebmaaGreatDoor
namespace Go.Proofs.YtimgocfkogebmaaGreatDoor
open Go.RowKit
set_option linter.unusedVariables false
set_option linter.unusedSimpArgs false
set_option maxRecDepth 100000 in
theorem aodd_any (x : Nat) (w : World) : Calls Tryz.prog 67 #[.int .i32 (x : Int)] w (SetTo (.bool (oddN x)) w) := by
  have hR : Hid (oddN x = (decide (x < 32) || decide (126 < x))) := Lib.hid rfl
  generalize oddN x = R at *
  by_cases h1 : x < 32
  · have h1i : (x : Int) < 32 := by omega
    have hF : Hid (R = true) := Lib.hid (by rw [hR.out, decide_eq_true h1]; rfl)
    clear hR
    go_enter Tryz.func67, Tryz.ntmps67
    go_wp2
    go_ret
    exact ⟨ret_bool hF.out.symm, rfl⟩
  have h1i : ¬ (x : Int) < 32 := by omega
  by_cases h2 : 126 < x
  · have h2i : (126 : Int) < (x : Int) := by omega
    have hF : Hid (R = true) := Lib.hid (by rw [hR.out, decide_eq_false h1, decide_eq_true h2]; rfl)
    clear hR
    go_enter Tryz.func67, Tryz.ntmps67
    go_wp2
    go_ret
    exact ⟨ret_bool hF.out.symm, rfl⟩
  have h2i : ¬ (126 : Int) < (x : Int) := by omega
  have hF : Hid (R = false) := Lib.hid (by rw [hR.out, decide_eq_false h1, decide_eq_false h2]; rfl)
  clear hR
  go_enter Tryz.func67, Tryz.ntmps67
  go_wp2
  go_ret
  exact ⟨ret_bool hF.out.symm, rfl⟩
theorem contains_expr (s : ByteArray) (w : World) : Calls Tryz.prog 68 #[.string s, .func (.func 67) #[] #[]] w (Gives (.bool (!((byt s).all fun c => decide (32 ≤ c.toNat) && decide (c.toNat ≤ 126)))) w) := by
  have h := Tryz.strings_ContainsFunc_grows 67 #[] (fun args w => by kernel_rfl) oddN s w (fun W x hx hb => (aodd_any x W).mono (fun e w' h => ⟨h.1, by rw [← h.2]; exact Below.refl _ _⟩))
  rw [idx_all s] at h
  exact h
theorem astr_empty (s : ByteArray) : s.toList.isEmpty = decide (s.size = 0) := by
  rw [ByteArray.toList_eq]
  have : s.size = s.data.toList.length := by rw [Array.length_toList]; rfl
  rw [this]
  cases s.data.toList <;> simp
set_option maxRecDepth 100000 in
theorem aexpr_any (s : ByteArray) (w : World) : Calls Tryz.prog 32 #[.string s] w (Gives (.bool (exprB s)) w) := by
  have hR : Hid (exprB s = (decide (1 ≤ s.size) && (decide (s.size ≤ 128) && (byt s).all fun c => decide (32 ≤ c.toNat) && decide (c.toNat ≤ 126)))) := Lib.hid rfl
  have q := Lib.hid (contains_expr s w)
  generalize ((byt s).all fun c => decide (32 ≤ c.toNat) && decide (c.toNat ≤ 126)) = b at *
  generalize exprB s = R at *
  by_cases h0 : s.size = 0
  · have hF : Hid (R = false) := Lib.hid (by rw [hR.out, decide_eq_false (by omega)]; rfl)
    have hs : s = ⟨#[]⟩ := by
      obtain ⟨⟨l⟩⟩ := s
      have h1 : l.length = 0 := h0
      rw [List.length_eq_zero_iff.1 h1]
    subst hs
    clear hR q
    go_enter Tryz.func32, Tryz.ntmps32
    go_wp2
    go_ret
    exact ⟨ret_bool hF.out.symm, Below.refl _ _⟩
  have hne3 : s.toList.isEmpty = false := by rw [astr_empty]; simpa using h0
  have hne4 : ¬ (s.toList = []) := by
    intro h
    rw [h] at hne3
    simp at hne3
  by_cases h2 : s.size ≤ 128
  · have h2i : (s.size : Int) ≤ 128 := by omega
    have hF : Hid (R = b) := Lib.hid (by rw [hR.out, decide_eq_true (by omega), decide_eq_true h2]; rfl)
    clear hR
    go_enter Tryz.func32, Tryz.ntmps32
    go_wp2_with fail
    refine q.out.mono ?_
    rintro e w1 ⟨rfl, hb1⟩
    go_wp2
    go_ret
    exact ⟨ret_bool (by rw [hF.out]; try (cases b <;> rfl)), hb1⟩
  have h2i : ¬ (s.size : Int) ≤ 128 := by omega
  have hF : Hid (R = false) := Lib.hid (by rw [hR.out, decide_eq_true (by omega), decide_eq_false h2]; rfl)
  clear hR q
  go_enter Tryz.func32, Tryz.ntmps32
  go_wp2
  go_ret
  exact ⟨ret_bool hF.out.symm, Below.refl _ _⟩
end Go.Proofs.YtimgocfkogebmaaGreatDoor
namespace Go.Proofs.YtimgocfkogebmaaGreatDoor
open Go.RowKit
set_option linter.unusedVariables false
set_option linter.unusedSimpArgs false
theorem stands_place (w : World) (a : AlD) (g : Nat) (hg : g = w.heap.size) : PrA (w.alloc (.cells #[.string a.fn, .string a.file, .int .i64 a.line] 80)) ⟨a.fn, none, 0, 0, some ⟨g, 0, none⟩, 1, 1, none, 0, 0⟩ (placeD a) := by
  subst hg
  refine ⟨rfl, ?_, ⟨rfl, Nat.le_refl _, by simp [maxLen], seesC_lit w 80 _⟩, RO.nil _⟩
  exact ⟨rfl, Nat.le_refl _, by simp [maxLen], .inl rfl⟩
set_option maxRecDepth 100000 in
theorem stands_any (a : AlD) (w : World) : Calls Tryz.prog 31 #[.agg #[.int .i64 a.kind, .int .i64 a.sev, .string a.fn, .string a.file, .int .i64 a.line, .string a.expr]] w (Gives (.bool (progB (placeD a))) w) := by
  have q := Lib.hid (fun W p (hW : PrA W p (placeD a)) => pcheck_any p (placeD a) W hW)
  have pl := Lib.hid (fun W g hg => stands_place W a g hg)
  have hC : Hid (chkP (placeD a) = if progB (placeD a) = true then 0 else 110) := Lib.hid rfl
  generalize chkP (placeD a) = R at *
  generalize progB (placeD a) = b at *
  go_enter Tryz.func31, Tryz.ntmps31
  go_wp2_with fail
  with_reducible refine (q.out _ ⟨a.fn, none, 0, 0, some ⟨w.heap.size + 1 + 1, 0, none⟩, 1, 1, none, 0, 0⟩ (pl.out _ _ (by simp))).mono ?_
  rintro e w1 ⟨rfl, b1⟩
  have B := Lib.hid ((((Below.refl w.heap.size w).alloc (Nat.le_refl _) _).alloc (by simp) _ |>.alloc (by simp; omega) _).trans (b1.mono (by simp; omega)))
  have hQ : Hid ((R = 0) = (b = true)) := Lib.hid (by rw [hC.out]; cases b <;> simp)
  clear b1 pl q
  cases b
  · have hF : Hid (R = 110) := Lib.hid (by rw [hC.out]; rfl)
    have hr : R = 110 := hF.out
    clear hC hQ
    subst hr
    go_wp2
    go_ret
    exact ⟨rfl, B.out⟩
  · have hr : R = 0 := by rw [hC.out]; rfl
    clear hC hQ
    subst hr
    go_wp2
    go_ret
    exact ⟨rfl, B.out⟩
set_option maxRecDepth 100000 in
set_option maxHeartbeats 2000000 in
theorem acheck_any (a : AlD) (w : World) : Calls Tryz.prog 9 #[.agg #[.int .i64 a.kind, .int .i64 a.sev, .string a.fn, .string a.file, .int .i64 a.line, .string a.expr]] w (Gives (.int .i64 (chkA a)) w) := by
  have hC : Hid (chkA a = if alB a = true then 0 else 170) := Lib.hid rfl
  have hB : Hid (alB a = ((decide (1 ≤ a.kind) && (decide (a.kind ≤ 3) && (decide (1 ≤ a.sev) && decide (a.sev ≤ 2)))) && (progB (placeD a) && exprB a.expr))) := Lib.hid (by
    rw [place_is]
    unfold alB
    simp only [Bool.and_assoc])
  have q1 := Lib.hid (fun W => stands_any a W)
  have q2 := Lib.hid (fun W => aexpr_any a.expr W)
  have b0 := Lib.hid (box_below w #[.int .i64 a.kind, .int .i64 a.sev, .string a.fn, .string a.file, .int .i64 a.line, .string a.expr] 23)
  generalize chkA a = R at *
  generalize alB a = Q at *
  generalize progB (placeD a) = b1 at *
  generalize exprB a.expr = b2 at *
  by_cases c1 : (1 : Int) ≤ a.kind
  rotate_left
  · have hr : R = 170 := by rw [hC.out, hB.out, decide_eq_false c1]; rfl
    clear hC hB q1 q2
    subst hr
    go_enter Tryz.func9, Tryz.ntmps9
    go_wp2
    go_ret
    exact ⟨rfl, b0.out⟩
  by_cases c2 : a.kind ≤ 3
  rotate_left
  · have hr : R = 170 := by rw [hC.out, hB.out, decide_eq_true c1, decide_eq_false c2]; rfl
    clear hC hB q1 q2
    subst hr
    go_enter Tryz.func9, Tryz.ntmps9
    go_wp2
    go_ret
    exact ⟨rfl, b0.out⟩
  by_cases c3 : 1 ≤ a.sev
  rotate_left
  · have hr : R = 170 := by rw [hC.out, hB.out, decide_eq_true c1, decide_eq_true c2, decide_eq_false c3]; rfl
    clear hC hB q1 q2
    subst hr
    go_enter Tryz.func9, Tryz.ntmps9
    go_wp2
    go_ret
    exact ⟨rfl, b0.out⟩
  by_cases c4 : a.sev ≤ 2
  rotate_left
  · have hr : R = 170 := by rw [hC.out, hB.out, decide_eq_true c1, decide_eq_true c2, decide_eq_true c3, decide_eq_false c4]; rfl
    clear hC hB q1 q2
    subst hr
    go_enter Tryz.func9, Tryz.ntmps9
    go_wp2
    go_ret
    exact ⟨rfl, b0.out⟩
  have hB2 : Hid (Q = (b1 && b2)) := Lib.hid (by rw [hB.out, decide_eq_true c1, decide_eq_true c2, decide_eq_true c3, decide_eq_true c4]; rfl)
  clear hB
  obtain ⟨W1, hW1⟩ : ∃ W1, W1 = w.alloc (.cells #[.int .i64 a.kind, .int .i64 a.sev, .string a.fn, .string a.file, .int .i64 a.line, .string a.expr] 23) := ⟨_, rfl⟩
  have Z : Hid (Holds W1 w.heap.size 23 #[.int .i64 a.kind, .int .i64 a.sev, .string a.fn, .string a.file, .int .i64 a.line, .string a.expr]) := Lib.hid (by rw [hW1]; exact Holds.new w _ _)
  rw [← hW1] at b0
  have hW1' := Lib.hid hW1
  clear hW1
  cases b1
  · have hr : R = 170 := by rw [hC.out, hB2.out]; rfl
    clear hC hB2 q2
    subst hr
    go_enter Tryz.func9, Tryz.ntmps9
    go_wp2_with fail
    rw [← hW1'.out]
    clear hW1'
    with_reducible refine (q1.out _).mono ?_
    rintro e w1 ⟨rfl, b1⟩
    replace b0 := Lib.hid (b0.out.trans (b1.mono b0.out.size))
    clear b1 q1 Z
    go_wp2
    go_ret
    exact ⟨rfl, b0.out⟩
  have hr : Hid (R = if b2 = true then 0 else 170) := Lib.hid (by rw [hC.out, hB2.out]; rfl)
  clear hC hB2
  go_enter Tryz.func9, Tryz.ntmps9
  go_wp2_with fail
  rw [← hW1'.out]
  clear hW1'
  with_reducible refine (q1.out _).mono ?_
  rintro e w1 ⟨rfl, b1⟩
  have x5 := (Z.out.below b1 Z.out.lt).cell 5
  simp at x5
  replace b0 := Lib.hid (b0.out.trans (b1.mono b0.out.size))
  clear b1 q1 Z
  go_wp2_with fail
  with_reducible refine (q2.out _).mono ?_
  rintro e w2 ⟨rfl, b2⟩
  replace b0 := Lib.hid (b0.out.trans (b2.mono b0.out.size))
  clear b2 q2 x5
  cases b2
  · have hr2 : R = 170 := by rw [hr.out]; rfl
    clear hr
    subst hr2
    go_wp2
    go_ret
    exact ⟨rfl, b0.out⟩
  · have hr2 : R = 0 := by rw [hr.out]; rfl
    clear hr
    subst hr2
    go_wp2
    go_ret
    exact ⟨rfl, b0.out⟩
end Go.Proofs.YtimgocfkogebmaaGreatDoor
namespace Go.Proofs.YtimgocfkogebmaaGreatDoor
open Go.RowKit
set_option linter.unusedVariables false
set_option linter.unusedSimpArgs false
theorem altl_iff (s t : ByteArray) : s.toList = t.toList ↔ s = t := by
  rw [ByteArray.toList_eq, ByteArray.toList_eq]
  exact ⟨fun h => ByteArray.ext (Array.toList_inj.1 h), fun h => by rw [h]⟩
theorem al_all (a b : AlD) : a = b ↔ a.kind = b.kind ∧ a.sev = b.sev ∧ a.fn = b.fn ∧ a.file = b.file ∧ a.line = b.line ∧ a.expr = b.expr := by
  cases a; cases b; simp
theorem al_cmp (a b : AlD) {α : Type} (f : Bool → α) (q : Bool) (h : q = true ↔ a = b) : (if a.kind = b.kind then (if a.sev = b.sev then (if a.fn.toList = b.fn.toList then (if a.file.toList = b.file.toList then (if a.line = b.line then (if a.expr.toList = b.expr.toList then f true else f false) else f false) else f false) else f false) else f false) else f false) = f q := by
  rw [al_all] at h
  simp only [altl_iff]
  cases q
  · have h' : ¬ (a.kind = b.kind ∧ a.sev = b.sev ∧ a.fn = b.fn ∧ a.file = b.file ∧ a.line = b.line ∧ a.expr = b.expr) := fun x => by have := h.2 x; cases this
    repeat' split
    all_goals first | rfl | (exfalso; apply h'; exact ⟨by assumption, by assumption, by assumption, by assumption, by assumption, by assumption⟩)
  · obtain ⟨h1, h2, h3, h4, h5, h6⟩ := h.1 rfl
    rw [if_pos h1, if_pos h2, if_pos h3, if_pos h4, if_pos h5, if_pos h6]
theorem al_cmp' (a b : AlD) {α : Type} (f : Bool → α) (q : Bool) (h : q = true ↔ ¬ a = b) : (if a.kind = b.kind then (if a.sev = b.sev then (if a.fn.toList = b.fn.toList then (if a.file.toList = b.file.toList then (if a.line = b.line then (if a.expr.toList = b.expr.toList then f false else f true) else f true) else f true) else f true) else f true) else f true) = f q := by
  have q2 := al_cmp a b (fun x => f (!x)) (!q) (by cases q <;> simp at h ⊢ <;> exact h)
  simpa using q2
def sameA (l r : List AlD) : Bool := decide (l.length = r.length) && (List.range l.length).all fun i => decide (cmpA (l.getD i al0) (r.getD i al0) = 0)
theorem sameA_iff (l r : List AlD) : sameA l r = true ↔ l = r := by
  unfold sameA
  rw [Bool.and_eq_true, decide_eq_true_eq, List.all_eq_true]
  constructor
  · rintro ⟨h1, h2⟩
    apply List.ext_getElem h1
    intro i a b
    have q := h2 i (List.mem_range.2 a)
    rw [decide_eq_true_eq] at q
    have q2 := (cmA.zero _ _).1 q
    simpa [List.getD, a, b] using q2
  · rintro rfl
    exact ⟨rfl, fun i _ => by rw [decide_eq_true_eq]; exact (cmA.zero _ _).2 rfl⟩
theorem sameA_no {l r : List AlD} {k : Nat} (hk : k < l.length) (h : ¬ l.getD k al0 = r.getD k al0) : sameA l r = false := by
  cases hs : sameA l r
  · rfl
  · rw [sameA_iff] at hs
    subst hs
    exact absurd rfl h
theorem sameA_len {l r : List AlD} (h : l.length ≠ r.length) : sameA l r = false := by
  cases hs : sameA l r
  · rfl
  · rw [sameA_iff] at hs
    subst hs
    exact absurd rfl h
theorem sameA_yes {l r : List AlD} (hl : l.length = r.length) (h : ∀ t, t < l.length → l.getD t al0 = r.getD t al0) : sameA l r = true := by
  rw [sameA_iff]
  apply List.ext_getElem hl
  intro i a b
  have q := h i a
  simpa [List.getD, a, b] using q
set_option maxRecDepth 100000 in
set_option maxHeartbeats 8000000 in
theorem alEqual_any (a1 a2 : Option Addr) (n1 n2 c1 c2 : Nat) (l1 l2 : List AlD) (w : World) (h1 : RO alC w a1 n1 c1 l1) (h2 : RO alC w a2 n2 c2 l2) : Calls Tryz.prog 41 #[.slice a1 n1 c1, .slice a2 n2 c2] w (DrawnB (.bool (sameA l1 l2)) w) := by
  have hl1 := Lib.hid h1.len
  have hl2 := Lib.hid h2.len
  have T1 := Lib.hid h1
  have T2 := Lib.hid h2
  have hm1 := h1.max'
  have hm2 := h2.max'
  have hm1i : (n1 : Int) ≤ 9223372036854775807 := by omega
  clear h1 h2
  by_cases hne : n1 = n2
  · have e0' : ((n1 : Int) != (n2 : Int)) = false := by simp; omega
    have e0n : (n1 != n2) = false := by simpa using hne
    have hne' := Lib.hid hne
    have hno := Lib.hid (fun k hk h => sameA_no (l := l1) (r := l2) (k := k) hk h)
    have hyes := Lib.hid (fun h => sameA_yes (l := l1) (r := l2) (by rw [← hl1.out, ← hl2.out]; exact hne) h)
    clear hne
    generalize sameA l1 l2 = R at *
    go_enter Tryz.func41, Tryz.ntmps41
    go_wp2
    go_loopw [13] (fun x wr => ∃ k m : Nat, k ≤ n1 ∧ x = .int .i64 k ∧ Hid (∀ t, t < k → l1.getD t al0 = l2.getD t al0) ∧ wr = w.drewN m) (fun x _ => n1 - (intOf x).toNat)
    case atStart => exact ⟨0, 0, by omega, rfl, Lib.hid (fun t ht => by omega), rfl⟩
    case round =>
      obtain ⟨k, m, hk, rfl, hal, rfl⟩ := hrel
      by_cases hlt : k < n1
      · have hki : (k : Int) < (n1 : Int) := by omega
        have hk2 : k < n2 := by have := hne'.out; omega
        have hki2 : (k : Int) < (n2 : Int) := by omega
        obtain ⟨b1, o1, rfl, -, x0, x1, x2, x3, x4, x5⟩ := al_at T1.out hlt
        obtain ⟨b2, o2, rfl, -, y0, y1, y2, y3, y4, y5⟩ := al_at T2.out hk2
        have hno' := Lib.hid (hno.out k (by rw [← hl1.out]; exact hlt))
        have hyes' : Hid (l1.getD k al0 = l2.getD k al0 → ∀ t, t < k + 1 → l1.getD t al0 = l2.getD t al0) := Lib.hid (fun h t ht => by
          by_cases e : t = k
          · rw [e]; exact h
          · exact hal.out t (by omega))
        obtain ⟨⟨ak, asv, af, afi, al, ax⟩, hs1⟩ : ∃ u, l1.getD k al0 = (u : AlD) := ⟨_, rfl⟩
        obtain ⟨⟨bk, bsv, bf, bfi, bl, bx⟩, hs2⟩ : ∃ u, l2.getD k al0 = (u : AlD) := ⟨_, rfl⟩
        rw [hs1] at x0 x1 x2 x3 x4 x5 hno' hyes'
        rw [hs2] at y0 y1 y2 y3 y4 y5 hno' hyes'
        dsimp only at x0 x1 x2 x3 x4 x5 y0 y1 y2 y3 y4 y5
        clear hs1 hs2 hal hno
        have g0 : ∀ W, (∃ j, W = w.drewN j) → W.cell? ⟨b1, o1 + k * 6, none⟩ = some (.int .i64 ak) := fun W hW => by obtain ⟨j, rfl⟩ := hW; exact x0
        have g1 : ∀ W, (∃ j, W = w.drewN j) → W.cell? ⟨b1, o1 + k * 6 + 1, none⟩ = some (.int .i64 asv) := fun W hW => by obtain ⟨j, rfl⟩ := hW; exact x1
        have g2 : ∀ W, (∃ j, W = w.drewN j) → W.cell? ⟨b1, o1 + k * 6 + 2, none⟩ = some (.string af) := fun W hW => by obtain ⟨j, rfl⟩ := hW; exact x2
        have g3 : ∀ W, (∃ j, W = w.drewN j) → W.cell? ⟨b1, o1 + k * 6 + 3, none⟩ = some (.string afi) := fun W hW => by obtain ⟨j, rfl⟩ := hW; exact x3
        have g4 : ∀ W, (∃ j, W = w.drewN j) → W.cell? ⟨b1, o1 + k * 6 + 4, none⟩ = some (.int .i64 al) := fun W hW => by obtain ⟨j, rfl⟩ := hW; exact x4
        have g5 : ∀ W, (∃ j, W = w.drewN j) → W.cell? ⟨b1, o1 + k * 6 + 5, none⟩ = some (.string ax) := fun W hW => by obtain ⟨j, rfl⟩ := hW; exact x5
        have e0 : ∀ W, (∃ j, W = w.drewN j) → W.cell? ⟨b2, o2 + k * 6, none⟩ = some (.int .i64 bk) := fun W hW => by obtain ⟨j, rfl⟩ := hW; exact y0
        have e1 : ∀ W, (∃ j, W = w.drewN j) → W.cell? ⟨b2, o2 + k * 6 + 1, none⟩ = some (.int .i64 bsv) := fun W hW => by obtain ⟨j, rfl⟩ := hW; exact y1
        have e2 : ∀ W, (∃ j, W = w.drewN j) → W.cell? ⟨b2, o2 + k * 6 + 2, none⟩ = some (.string bf) := fun W hW => by obtain ⟨j, rfl⟩ := hW; exact y2
        have e3 : ∀ W, (∃ j, W = w.drewN j) → W.cell? ⟨b2, o2 + k * 6 + 3, none⟩ = some (.string bfi) := fun W hW => by obtain ⟨j, rfl⟩ := hW; exact y3
        have e4 : ∀ W, (∃ j, W = w.drewN j) → W.cell? ⟨b2, o2 + k * 6 + 4, none⟩ = some (.int .i64 bl) := fun W hW => by obtain ⟨j, rfl⟩ := hW; exact y4
        have e5 : ∀ W, (∃ j, W = w.drewN j) → W.cell? ⟨b2, o2 + k * 6 + 5, none⟩ = some (.string bx) := fun W hW => by obtain ⟨j, rfl⟩ := hW; exact y5
        clear x0 x1 x2 x3 x4 x5 y0 y1 y2 y3 y4 y5
        by_cases hq : (⟨ak, asv, af, afi, al, ax⟩ : AlD) = ⟨bk, bsv, bf, bfi, bl, bx⟩
        · have hg := Lib.hid (hyes'.out hq)
          have haq : Hid (false = true ↔ ¬ (⟨ak, asv, af, afi, al, ax⟩ : AlD) = ⟨bk, bsv, bf, bfi, bl, bx⟩) := Lib.hid (by simp only [hq, not_true_eq_false, Bool.false_eq_true])
          clear hyes' hno' hq
          go_wp2
          refine wp_drawn_on (fun W => ∃ j, W = w.drewN j) (by kernel_rfl) (⟨m + 1, rfl⟩) (fun hHeld => ?_)
          refine wT 0 (v := ?v1) rfl (by kernel_rfl) (fun _ _ _ h => h) ?h1 (by assumption) ?r1
          case h1 => (intro w hSw; (try dsimp only at hSw); go_simp; try with_reducible rfl)
          refine wT 1 (v := ?v2) rfl (by kernel_rfl) (fun _ _ _ h => h) ?h2 (by assumption) ?r2
          case h2 => (intro w hSw; (try dsimp only at hSw); go_simp; try with_reducible rfl)
          refine wT 2 (v := ?v3) rfl (by kernel_rfl) (fun _ _ _ h => h) ?h3 (by assumption) ?r3
          case h3 => (intro w hSw; (try dsimp only at hSw); go_simp; try with_reducible rfl)
          refine wT 3 (v := ?v4) rfl (by kernel_rfl) (fun _ _ _ h => h) ?h4 (by assumption) ?r4
          case h4 => (intro w hSw; (try dsimp only at hSw); go_simp; try with_reducible rfl)
          refine wT 4 (v := ?v5) rfl (by kernel_rfl) (fun _ _ _ h => h) ?h5 (by assumption) ?r5
          case h5 => (intro w hSw; (try dsimp only at hSw); go_simp; try with_reducible rfl)
          refine wT 5 (v := ?v6) rfl (by kernel_rfl) (fun _ _ _ h => h) ?h6 (by assumption) ?r6
          case h6 => (intro w hSw; (try dsimp only at hSw); go_simp; try with_reducible rfl)
          refine wT 6 (v := ?v7) rfl (by kernel_rfl) (fun _ _ _ h => h) ?h7 (by assumption) ?r7
          case h7 => (intro w hSw; (try dsimp only at hSw); go_simp; try with_reducible rfl)
          refine wT 7 (v := ?v8) rfl (by kernel_rfl) (fun _ _ _ h => h) ?h8 (by assumption) ?r8
          case h8 => (intro w hSw; (try dsimp only at hSw); go_simp; try with_reducible rfl)
          refine wT 8 (v := ?v9) rfl (by kernel_rfl) (fun _ _ _ h => h) ?h9 (by assumption) ?r9
          case h9 => (intro w hSw; (try dsimp only at hSw); refine Eq.trans (b := Result.ok (Next.value (.bool false)) w) (by go_simp; exact al_cmp' ⟨ak, asv, af, afi, al, ax⟩ ⟨bk, bsv, bf, bfi, bl, bx⟩ (fun b => Result.ok (Next.value (Value.bool b)) w) false haq.out) ?_; with_reducible rfl)
          try simp only [Act.put, List.setIfInBounds_toArray, List.set_cons_zero, List.set_cons_succ]
          refine wpAnyH_done (by kernel_rfl) ?_ _
          clear g0 e0 g1 e1 g2 e2 g3 e3 g4 e4 g5 e5
          go_wp2
          go_roundw
          case rel => exact ⟨k + 1, m + 1, by omega, by go_num, hg, rfl⟩
          case measure => simp [intOf]; omega
        · have hf := Lib.hid (hno'.out hq)
          obtain ⟨bq, hb⟩ : ∃ bq : Bool, Hid (bq = true) := ⟨true, Lib.hid rfl⟩
          have haq : Hid (bq = true ↔ ¬ (⟨ak, asv, af, afi, al, ax⟩ : AlD) = ⟨bk, bsv, bf, bfi, bl, bx⟩) := Lib.hid ⟨fun _ => hq, fun _ => hb.out⟩
          clear hyes' hno' hq
          go_wp2
          refine wp_drawn_on (fun W => ∃ j, W = w.drewN j) (by kernel_rfl) (⟨m + 1, rfl⟩) (fun hHeld => ?_)
          refine wT 0 (v := ?v10) rfl (by kernel_rfl) (fun _ _ _ h => h) ?h10 (by assumption) ?r10
          case h10 => (intro w hSw; (try dsimp only at hSw); go_simp; try with_reducible rfl)
          refine wT 1 (v := ?v11) rfl (by kernel_rfl) (fun _ _ _ h => h) ?h11 (by assumption) ?r11
          case h11 => (intro w hSw; (try dsimp only at hSw); go_simp; try with_reducible rfl)
          refine wT 2 (v := ?v12) rfl (by kernel_rfl) (fun _ _ _ h => h) ?h12 (by assumption) ?r12
          case h12 => (intro w hSw; (try dsimp only at hSw); go_simp; try with_reducible rfl)
          refine wT 3 (v := ?v13) rfl (by kernel_rfl) (fun _ _ _ h => h) ?h13 (by assumption) ?r13
          case h13 => (intro w hSw; (try dsimp only at hSw); go_simp; try with_reducible rfl)
          refine wT 4 (v := ?v14) rfl (by kernel_rfl) (fun _ _ _ h => h) ?h14 (by assumption) ?r14
          case h14 => (intro w hSw; (try dsimp only at hSw); go_simp; try with_reducible rfl)
          refine wT 5 (v := ?v15) rfl (by kernel_rfl) (fun _ _ _ h => h) ?h15 (by assumption) ?r15
          case h15 => (intro w hSw; (try dsimp only at hSw); go_simp; try with_reducible rfl)
          refine wT 6 (v := ?v16) rfl (by kernel_rfl) (fun _ _ _ h => h) ?h16 (by assumption) ?r16
          case h16 => (intro w hSw; (try dsimp only at hSw); go_simp; try with_reducible rfl)
          refine wT 7 (v := ?v17) rfl (by kernel_rfl) (fun _ _ _ h => h) ?h17 (by assumption) ?r17
          case h17 => (intro w hSw; (try dsimp only at hSw); go_simp; try with_reducible rfl)
          refine wT 8 (v := ?v18) rfl (by kernel_rfl) (fun _ _ _ h => h) ?h18 (by assumption) ?r18
          case h18 => (intro w hSw; (try dsimp only at hSw); refine Eq.trans (b := Result.ok (Next.value (.bool bq)) w) (by go_simp; exact al_cmp' ⟨ak, asv, af, afi, al, ax⟩ ⟨bk, bsv, bf, bfi, bl, bx⟩ (fun b => Result.ok (Next.value (Value.bool b)) w) bq haq.out) ?_; with_reducible rfl)
          try simp only [Act.put, List.setIfInBounds_toArray, List.set_cons_zero, List.set_cons_succ]
          refine wpAnyH_done (by kernel_rfl) ?_ _
          clear g0 e0 g1 e1 g2 e2 g3 e3 g4 e4 g5 e5
          have hb2 : bq = true := hb.out
          subst hb2
          go_wp2
          go_ret
          exact ⟨ret_bool hf.out.symm, m + 1, rfl⟩
      · have hki : ¬ (k : Int) < (n1 : Int) := by omega
        have hf := Lib.hid (hyes.out (fun t ht => hal.out t (by rw [← hl1.out] at ht; omega)))
        clear hyes hno hal
        go_wp2
        go_ret
        exact ⟨ret_bool hf.out.symm, m, rfl⟩
  · have e0' : ((n1 : Int) != (n2 : Int)) = true := by simp; omega
    have e0n : (n1 != n2) = true := by simpa using hne
    have hR : Hid (sameA l1 l2 = false) := Lib.hid (sameA_len (by rw [← hl1.out, ← hl2.out]; exact hne))
    clear hne
    generalize sameA l1 l2 = R at *
    go_enter Tryz.func41, Tryz.ntmps41
    go_wp2
    go_ret
    exact ⟨ret_bool hR.out.symm, 0, rfl⟩
set_option maxRecDepth 100000 in
set_option maxHeartbeats 8000000 in
theorem ralSame_any (a1 a2 : Option Addr) (n1 n2 c1 c2 : Nat) (l1 l2 : List AlD) (w : World) (h1 : RO alC w a1 n1 c1 l1) (h2 : RO alC w a2 n2 c2 l2) : Calls Tryz.prog 13 #[.slice a1 n1 c1, .slice a2 n2 c2] w (DrawnB (.bool (sameA l1 l2)) w) := by
  have hl1 := Lib.hid h1.len
  have hl2 := Lib.hid h2.len
  have T1 := Lib.hid h1
  have T2 := Lib.hid h2
  have hm1 := h1.max'
  have hm2 := h2.max'
  have hm1i : (n1 : Int) ≤ 9223372036854775807 := by omega
  clear h1 h2
  by_cases hne : n1 = n2
  · have e0' : ((n1 : Int) != (n2 : Int)) = false := by simp; omega
    have e0n : (n1 != n2) = false := by simpa using hne
    have hne' := Lib.hid hne
    have hno := Lib.hid (fun k hk h => sameA_no (l := l1) (r := l2) (k := k) hk h)
    have hyes := Lib.hid (fun h => sameA_yes (l := l1) (r := l2) (by rw [← hl1.out, ← hl2.out]; exact hne) h)
    clear hne
    generalize sameA l1 l2 = R at *
    go_enter Tryz.func13, Tryz.ntmps13
    go_wp2
    go_loopw [5] (fun x wr => ∃ k m : Nat, k ≤ n1 ∧ x = .int .i64 k ∧ Hid (∀ t, t < k → l1.getD t al0 = l2.getD t al0) ∧ wr = w.drewN m) (fun x _ => n1 - (intOf x).toNat)
    case atStart => exact ⟨0, 0, by omega, rfl, Lib.hid (fun t ht => by omega), rfl⟩
    case round =>
      obtain ⟨k, m, hk, rfl, hal, rfl⟩ := hrel
      by_cases hlt : k < n1
      · have hki : (k : Int) < (n1 : Int) := by omega
        have hk2 : k < n2 := by have := hne'.out; omega
        have hki2 : (k : Int) < (n2 : Int) := by omega
        obtain ⟨b1, o1, rfl, -, x0, x1, x2, x3, x4, x5⟩ := al_at T1.out hlt
        obtain ⟨b2, o2, rfl, -, y0, y1, y2, y3, y4, y5⟩ := al_at T2.out hk2
        have hno' := Lib.hid (hno.out k (by rw [← hl1.out]; exact hlt))
        have hyes' : Hid (l1.getD k al0 = l2.getD k al0 → ∀ t, t < k + 1 → l1.getD t al0 = l2.getD t al0) := Lib.hid (fun h t ht => by
          by_cases e : t = k
          · rw [e]; exact h
          · exact hal.out t (by omega))
        obtain ⟨⟨ak, asv, af, afi, al, ax⟩, hs1⟩ : ∃ u, l1.getD k al0 = (u : AlD) := ⟨_, rfl⟩
        obtain ⟨⟨bk, bsv, bf, bfi, bl, bx⟩, hs2⟩ : ∃ u, l2.getD k al0 = (u : AlD) := ⟨_, rfl⟩
        rw [hs1] at x0 x1 x2 x3 x4 x5 hno' hyes'
        rw [hs2] at y0 y1 y2 y3 y4 y5 hno' hyes'
        dsimp only at x0 x1 x2 x3 x4 x5 y0 y1 y2 y3 y4 y5
        clear hs1 hs2 hal hno
        have g0 : ∀ W, (∃ j, W = w.drewN j) → W.cell? ⟨b1, o1 + k * 6, none⟩ = some (.int .i64 ak) := fun W hW => by obtain ⟨j, rfl⟩ := hW; exact x0
        have g1 : ∀ W, (∃ j, W = w.drewN j) → W.cell? ⟨b1, o1 + k * 6 + 1, none⟩ = some (.int .i64 asv) := fun W hW => by obtain ⟨j, rfl⟩ := hW; exact x1
        have g2 : ∀ W, (∃ j, W = w.drewN j) → W.cell? ⟨b1, o1 + k * 6 + 2, none⟩ = some (.string af) := fun W hW => by obtain ⟨j, rfl⟩ := hW; exact x2
        have g3 : ∀ W, (∃ j, W = w.drewN j) → W.cell? ⟨b1, o1 + k * 6 + 3, none⟩ = some (.string afi) := fun W hW => by obtain ⟨j, rfl⟩ := hW; exact x3
        have g4 : ∀ W, (∃ j, W = w.drewN j) → W.cell? ⟨b1, o1 + k * 6 + 4, none⟩ = some (.int .i64 al) := fun W hW => by obtain ⟨j, rfl⟩ := hW; exact x4
        have g5 : ∀ W, (∃ j, W = w.drewN j) → W.cell? ⟨b1, o1 + k * 6 + 5, none⟩ = some (.string ax) := fun W hW => by obtain ⟨j, rfl⟩ := hW; exact x5
        have e0 : ∀ W, (∃ j, W = w.drewN j) → W.cell? ⟨b2, o2 + k * 6, none⟩ = some (.int .i64 bk) := fun W hW => by obtain ⟨j, rfl⟩ := hW; exact y0
        have e1 : ∀ W, (∃ j, W = w.drewN j) → W.cell? ⟨b2, o2 + k * 6 + 1, none⟩ = some (.int .i64 bsv) := fun W hW => by obtain ⟨j, rfl⟩ := hW; exact y1
        have e2 : ∀ W, (∃ j, W = w.drewN j) → W.cell? ⟨b2, o2 + k * 6 + 2, none⟩ = some (.string bf) := fun W hW => by obtain ⟨j, rfl⟩ := hW; exact y2
        have e3 : ∀ W, (∃ j, W = w.drewN j) → W.cell? ⟨b2, o2 + k * 6 + 3, none⟩ = some (.string bfi) := fun W hW => by obtain ⟨j, rfl⟩ := hW; exact y3
        have e4 : ∀ W, (∃ j, W = w.drewN j) → W.cell? ⟨b2, o2 + k * 6 + 4, none⟩ = some (.int .i64 bl) := fun W hW => by obtain ⟨j, rfl⟩ := hW; exact y4
        have e5 : ∀ W, (∃ j, W = w.drewN j) → W.cell? ⟨b2, o2 + k * 6 + 5, none⟩ = some (.string bx) := fun W hW => by obtain ⟨j, rfl⟩ := hW; exact y5
        clear x0 x1 x2 x3 x4 x5 y0 y1 y2 y3 y4 y5
        by_cases hq : (⟨ak, asv, af, afi, al, ax⟩ : AlD) = ⟨bk, bsv, bf, bfi, bl, bx⟩
        · have hg := Lib.hid (hyes'.out hq)
          have haq : Hid (false = true ↔ ¬ (⟨ak, asv, af, afi, al, ax⟩ : AlD) = ⟨bk, bsv, bf, bfi, bl, bx⟩) := Lib.hid (by simp only [hq, not_true_eq_false, Bool.false_eq_true])
          clear hyes' hno' hq
          go_wp2
          refine wp_drawn_on (fun W => ∃ j, W = w.drewN j) (by kernel_rfl) (⟨m + 1, rfl⟩) (fun hHeld => ?_)
          refine wT 0 (v := ?v19) rfl (by kernel_rfl) (fun _ _ _ h => h) ?h19 (by assumption) ?r19
          case h19 => (intro w hSw; (try dsimp only at hSw); go_simp; try with_reducible rfl)
          refine wT 1 (v := ?v20) rfl (by kernel_rfl) (fun _ _ _ h => h) ?h20 (by assumption) ?r20
          case h20 => (intro w hSw; (try dsimp only at hSw); go_simp; try with_reducible rfl)
          refine wT 2 (v := ?v21) rfl (by kernel_rfl) (fun _ _ _ h => h) ?h21 (by assumption) ?r21
          case h21 => (intro w hSw; (try dsimp only at hSw); go_simp; try with_reducible rfl)
          refine wT 3 (v := ?v22) rfl (by kernel_rfl) (fun _ _ _ h => h) ?h22 (by assumption) ?r22
          case h22 => (intro w hSw; (try dsimp only at hSw); go_simp; try with_reducible rfl)
          refine wT 4 (v := ?v23) rfl (by kernel_rfl) (fun _ _ _ h => h) ?h23 (by assumption) ?r23
          case h23 => (intro w hSw; (try dsimp only at hSw); go_simp; try with_reducible rfl)
          refine wT 5 (v := ?v24) rfl (by kernel_rfl) (fun _ _ _ h => h) ?h24 (by assumption) ?r24
          case h24 => (intro w hSw; (try dsimp only at hSw); go_simp; try with_reducible rfl)
          refine wT 6 (v := ?v25) rfl (by kernel_rfl) (fun _ _ _ h => h) ?h25 (by assumption) ?r25
          case h25 => (intro w hSw; (try dsimp only at hSw); go_simp; try with_reducible rfl)
          refine wT 7 (v := ?v26) rfl (by kernel_rfl) (fun _ _ _ h => h) ?h26 (by assumption) ?r26
          case h26 => (intro w hSw; (try dsimp only at hSw); go_simp; try with_reducible rfl)
          refine wT 8 (v := ?v27) rfl (by kernel_rfl) (fun _ _ _ h => h) ?h27 (by assumption) ?r27
          case h27 => (intro w hSw; (try dsimp only at hSw); refine Eq.trans (b := Result.ok (Next.value (.bool false)) w) (by go_simp; exact al_cmp' ⟨ak, asv, af, afi, al, ax⟩ ⟨bk, bsv, bf, bfi, bl, bx⟩ (fun b => Result.ok (Next.value (Value.bool b)) w) false haq.out) ?_; with_reducible rfl)
          try simp only [Act.put, List.setIfInBounds_toArray, List.set_cons_zero, List.set_cons_succ]
          refine wpAnyH_done (by kernel_rfl) ?_ _
          clear g0 e0 g1 e1 g2 e2 g3 e3 g4 e4 g5 e5
          go_wp2
          go_roundw
          case rel => exact ⟨k + 1, m + 1, by omega, by go_num, hg, rfl⟩
          case measure => simp [intOf]; omega
        · have hf := Lib.hid (hno'.out hq)
          obtain ⟨bq, hb⟩ : ∃ bq : Bool, Hid (bq = true) := ⟨true, Lib.hid rfl⟩
          have haq : Hid (bq = true ↔ ¬ (⟨ak, asv, af, afi, al, ax⟩ : AlD) = ⟨bk, bsv, bf, bfi, bl, bx⟩) := Lib.hid ⟨fun _ => hq, fun _ => hb.out⟩
          clear hyes' hno' hq
          go_wp2
          refine wp_drawn_on (fun W => ∃ j, W = w.drewN j) (by kernel_rfl) (⟨m + 1, rfl⟩) (fun hHeld => ?_)
          refine wT 0 (v := ?v28) rfl (by kernel_rfl) (fun _ _ _ h => h) ?h28 (by assumption) ?r28
          case h28 => (intro w hSw; (try dsimp only at hSw); go_simp; try with_reducible rfl)
          refine wT 1 (v := ?v29) rfl (by kernel_rfl) (fun _ _ _ h => h) ?h29 (by assumption) ?r29
          case h29 => (intro w hSw; (try dsimp only at hSw); go_simp; try with_reducible rfl)
          refine wT 2 (v := ?v30) rfl (by kernel_rfl) (fun _ _ _ h => h) ?h30 (by assumption) ?r30
          case h30 => (intro w hSw; (try dsimp only at hSw); go_simp; try with_reducible rfl)
          refine wT 3 (v := ?v31) rfl (by kernel_rfl) (fun _ _ _ h => h) ?h31 (by assumption) ?r31
          case h31 => (intro w hSw; (try dsimp only at hSw); go_simp; try with_reducible rfl)
          refine wT 4 (v := ?v32) rfl (by kernel_rfl) (fun _ _ _ h => h) ?h32 (by assumption) ?r32
          case h32 => (intro w hSw; (try dsimp only at hSw); go_simp; try with_reducible rfl)
          refine wT 5 (v := ?v33) rfl (by kernel_rfl) (fun _ _ _ h => h) ?h33 (by assumption) ?r33
          case h33 => (intro w hSw; (try dsimp only at hSw); go_simp; try with_reducible rfl)
          refine wT 6 (v := ?v34) rfl (by kernel_rfl) (fun _ _ _ h => h) ?h34 (by assumption) ?r34
          case h34 => (intro w hSw; (try dsimp only at hSw); go_simp; try with_reducible rfl)
          refine wT 7 (v := ?v35) rfl (by kernel_rfl) (fun _ _ _ h => h) ?h35 (by assumption) ?r35
          case h35 => (intro w hSw; (try dsimp only at hSw); go_simp; try with_reducible rfl)
          refine wT 8 (v := ?v36) rfl (by kernel_rfl) (fun _ _ _ h => h) ?h36 (by assumption) ?r36
          case h36 => (intro w hSw; (try dsimp only at hSw); refine Eq.trans (b := Result.ok (Next.value (.bool bq)) w) (by go_simp; exact al_cmp' ⟨ak, asv, af, afi, al, ax⟩ ⟨bk, bsv, bf, bfi, bl, bx⟩ (fun b => Result.ok (Next.value (Value.bool b)) w) bq haq.out) ?_; with_reducible rfl)
          try simp only [Act.put, List.setIfInBounds_toArray, List.set_cons_zero, List.set_cons_succ]
          refine wpAnyH_done (by kernel_rfl) ?_ _
          clear g0 e0 g1 e1 g2 e2 g3 e3 g4 e4 g5 e5
          have hb2 : bq = true := hb.out
          subst hb2
          go_wp2
          go_ret
          exact ⟨ret_bool hf.out.symm, m + 1, rfl⟩
      · have hki : ¬ (k : Int) < (n1 : Int) := by omega
        have hf := Lib.hid (hyes.out (fun t ht => hal.out t (by rw [← hl1.out] at ht; omega)))
        clear hyes hno hal
        go_wp2
        go_ret
        exact ⟨ret_bool hf.out.symm, m, rfl⟩
  · have e0' : ((n1 : Int) != (n2 : Int)) = true := by simp; omega
    have e0n : (n1 != n2) = true := by simpa using hne
    have hR : Hid (sameA l1 l2 = false) := Lib.hid (sameA_len (by rw [← hl1.out, ← hl2.out]; exact hne))
    clear hne
    generalize sameA l1 l2 = R at *
    go_enter Tryz.func13, Tryz.ntmps13
    go_wp2
    go_ret
    exact ⟨ret_bool hR.out.symm, 0, rfl⟩
set_option maxRecDepth 100000 in
theorem alSame_any (a1 a2 : Option Addr) (n1 n2 c1 c2 : Nat) (l1 l2 : List AlD) (w : World) (h1 : RO alC w a1 n1 c1 l1) (h2 : RO alC w a2 n2 c2 l2) : Calls Tryz.prog 16 #[.slice a1 n1 c1, .slice a2 n2 c2] w (DrawnB (.bool (sameA l1 l2)) w) := by
  have q := Lib.hid (alEqual_any a1 a2 n1 n2 c1 c2 l1 l2 w h1 h2)
  clear h1 h2
  generalize sameA l1 l2 = R at *
  go_enter Tryz.func16, Tryz.ntmps16
  go_wp2_with fail
  with_reducible refine q.out.mono ?_
  rintro e w1 ⟨rfl, m, rfl⟩
  go_wp2
  go_ret
  exact ⟨rfl, m, rfl⟩
end Go.Proofs.YtimgocfkogebmaaGreatDoor
