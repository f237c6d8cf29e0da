/-
  Words and walks under the law's proof.
-/
import Derived.Deep.WholeRow
import Derived.Laws.Tables
import Derived.Laws.Rows
import Derived.Deep.QuietTactic
import Derived.BigQuiet
import Derived.Test.YtjdfjekonnkglaaGreatDoorQD10
namespace Go.Proofs.YtjdfjekonnkglaaGreatDoor
open Go.RowKit
set_option linter.unusedVariables false
set_option linter.unusedSimpArgs false
theorem info_marks : (Tryz.prog.info? 60).map (·.size) = some 128 := by kernel_rfl
theorem marks_one (l : List Nat) : (marksP l).all (·.oneCell') = true := by
  rw [Array.all_eq_true']
  intro x hx
  unfold marksP at hx
  simp at hx
  obtain ⟨y, _, rfl⟩ := hx
  rfl
theorem own_some' {w : World} {base : Nat} {e : TypeId} {n : Nat} {v : Value} {xs : List Value} (h : w.ownsRow base e 1 v n xs) (hn : n ≠ 0) : ∃ g cap, v = .slice (some ⟨g, 0, none⟩) n cap ∧ base ≤ g ∧ g < w.heap.size ∧ n ≤ cap ∧ cap ≤ maxLen := by
  rcases h.2 with ⟨_, h0⟩ | ⟨g, cap, cur, h1, h2, h3, h4, h5, _⟩
  · exact absurd h0 hn
  · exact ⟨g, cap, h1, h2, (Array.getElem?_eq_some_iff.1 h3).1, h4, h5⟩
theorem own_num' {w : World} {base : Nat} {e : TypeId} {n m c g : Nat} {l : List Int} (h : w.ownsRow base e 1 (.slice (some ⟨g, 0, none⟩) m c) n (nums .i64 l)) {i : Nat} (hi : i < l.length) : w.cell? ⟨g, i, none⟩ = some (.int .i64 (l.getD i 0)) := by
  have := h.cells (g := g) rfl i (.int .i64 (l.getD i 0)) (by simp [nums, List.getD, hi])
  rw [add_at, Nat.zero_add] at this
  exact this
def SlQ (l : List Int) (w : World) (e : Ending) (w' : World) : Prop := ∃ a n c, e = .returned (.slice a n c) ∧ SL w' a n c l ∧ (∀ b off s, a = some ⟨b, off, s⟩ → w.heap.size ≤ b) ∧ Below w.heap.size w w'
theorem slq_own {w w' : World} {v : Value} {l : List Int} (h : w'.ownsRow w.heap.size 3 1 v l.length (nums .i64 l)) (hl : l.length ≤ 1000) (hb : Below w.heap.size w w') : SlQ l w (.returned v) w' := by
  have hlt := h.lt
  obtain ⟨a, c, rfl, _, hs⟩ := sees_own h
  exact ⟨a, _, c, rfl, ⟨rfl, own_cap h, by omega, hs⟩, (fun b off s e => by subst e; exact (hlt b rfl).1), hb⟩
theorem SlQ.p {l : List Int} {w w' : World} {e : Ending} (h : SlQ l w e w') : SlP l w e w' := by
  obtain ⟨a, n, c, h1, h2, _, h3⟩ := h
  exact ⟨a, n, c, h1, h2, h3⟩
set_option maxRecDepth 100000 in
set_option maxHeartbeats 8000000 in
theorem preach_new (p : PV) (D : PD) (w : World) (h : PrA w p D) : Calls Tryz.prog 9 #[.agg p.cells] w (SlQ (reachP D) w) := by
  obtain ⟨i0, hi, hz0, hz1, hz2⟩ := infoIntP
  have qc := Lib.hid (fun W hW => pcheck_any p D W hW)
  obtain ⟨pnm, pa1, pn1, pc1, pa2, pn2, pc2, pa3, pn3, pc3⟩ := p
  have hed := h.edges
  dsimp only [PV.cells] at hed qc
  show Calls Tryz.prog 9 #[.agg #[.string pnm, .slice pa1 pn1 pc1, .slice pa2 pn2 pc2, .slice pa3 pn3 pc3]] w (SlQ (reachP D) w)
  obtain ⟨W1, hW1⟩ : ∃ W1, W1 = w.alloc (.cells #[.string pnm, .slice pa1 pn1 pc1, .slice pa2 pn2 pc2, .slice pa3 pn3 pc3] 26) := ⟨_, rfl⟩
  have Z : Hid (Holds W1 w.heap.size 26 #[.string pnm, .slice pa1 pn1 pc1, .slice pa2 pn2 pc2, .slice pa3 pn3 pc3]) := Lib.hid (by rw [hW1]; exact Holds.new w _ _)
  have BL := Lib.hid (show Below w.heap.size w W1 by rw [hW1]; exact box_below _ _ _)
  have A0 := Lib.hid (h.below BL.out)
  have A := Lib.hid (hed.below BL.out)
  have hW1' := Lib.hid hW1
  have k0 := Z.out.cell 0
  have k1 := Z.out.cell 1
  have k2 := Z.out.cell 2
  have k3 := Z.out.cell 3
  have hz3 := Lib.hid hed.len
  clear h hed hW1
  cases hp : progB D
  · have hs : Hid (reachP D = []) := Lib.hid (by unfold reachP; rw [hp]; rfl)
    rw [pchk_bad hp] at qc
    clear hp
    generalize reachP D = R at *
    go_enter Tryz.func9, Tryz.ntmps9
    go_wp2_with fail
    rw [← hW1'.out]
    with_reducible refine (qc.out W1 A0.out).mono ?_
    rintro e u1 ⟨rfl, b1⟩
    clear k0 k1 k2 k3
    go_wp2
    go_ret
    exact ⟨none, 0, 0, rfl, by rw [hs.out]; exact SL.nil _, (fun _ _ _ e => by cases e), BL.out.trans (b1.mono BL.out.size)⟩
  · have hs : Hid (reachP D = intsP (reachN D)) := Lib.hid (by unfold reachP; rw [hp]; rfl)
    rw [pchk_ok hp] at qc
    have hP := Lib.hid hp
    have hn3 : pn3 ≤ 256 := by rw [hz3.out]; exact (prog_sizes hp).2.2
    have hnS := Lib.hid (prog_sizes hp)
    have hed := Lib.hid (fun i hi => edge_ends (prog_edge hp (i := i) hi))
    have hml := Lib.hid marks_lit
    clear hp
    generalize reachP D = R at *
    go_enter Tryz.func9, Tryz.ntmps9
    go_wp2_with fail
    rw [← hW1'.out]
    with_reducible refine (qc.out W1 A0.out).mono ?_
    rintro e u1 ⟨rfl, b1⟩
    clear k0 k1 k2 k3 qc hW1' A0
    replace Z := Lib.hid (Z.out.below b1 Z.out.lt)
    replace A := Lib.hid (A.out.below b1)
    replace BL := Lib.hid (BL.out.trans (b1.mono BL.out.size))
    clear b1
    go_wp2_with (refine wpList_store_row rfl 60 (.tmp 3) (.tmp 11) rfl _ (marksP [0]) rfl ?h1 60 _ (heap_alloc_new _ _) ?h2 ?h3 (marks_one _) ?h4)
    case h1 => exact congrArg Value.agg hml.out
    case h2 => rw [info_marks, marks_size]
    case h3 => (rw [marks_size]; kernel_rfl)
    rw [World.setRow_alloc_new]
    have hI0 : Hid (RchI u1 u1.heap.size [0] (.slice (some ⟨u1.heap.size + 1, 0, none⟩) 1 1) ((u1.alloc (.cells (marksP [0]) 60)).alloc (.cells #[.int .i64 0] 3))) := Lib.hid (by
      have q := own_cells (u1.alloc (.cells (marksP [0]) 60)) 3 1 1 #[.int .i64 0] rfl (by unfold maxLen; omega)
      have q2 := own_from q (B := u1.heap.size) (fun b hb => by have := (q.lt b hb).1; simp at this; omega)
      refine ⟨Nat.le_refl _, box2_below _ _ _ _ _, (Holds.new u1 _ _).alloc _, ?_, fun b hb => ?_⟩
      · simpa [intsP, nums] using q2
      · have : b = u1.heap.size + 1 := by simpa [Value.ownBlock] using hb.symm
        omega)
    have hF0 : Hid (FindI (pairsE D) D.spots.length 0 0 [0]) := Lib.hid (find_start (by have := hnS.out; omega))
    go_loopw [4, 5] (fun v x wr => ∃ (k : Nat) (l : List Nat) (g cap : Nat), v = .slice (some ⟨g, 0, none⟩) l.length cap ∧ x = .int .i64 k ∧ k ≤ l.length ∧ Hid (RchI u1 u1.heap.size l v wr) ∧ Hid (FindI (pairsE D) D.spots.length k 0 l)) (fun _ x _ => 129 - (intOf x).toNat)
    case atStart => exact ⟨0, [0], u1.heap.size + 1, 1, rfl, rfl, by simp, hI0, hF0⟩
    case round =>
      clear hI0 hF0
      obtain ⟨k, l, g, cap, rfl, rfl, hk, hI, hF⟩ := hrel
      have hN : l.length ≤ 128 := by have := find_len hF.out; have := hnS.out; omega
      have k3 := (Z.out.below hI.out.bel Z.out.lt).cell 3
      by_cases hlt : k < l.length
      · have hki : (k : Int) < (l.length : Int) := by omega
        go_wp2
        clear k3
        go_loopw [4, 22] (fun v x wr => ∃ (m : Nat) (l : List Nat) (g cap : Nat), v = .slice (some ⟨g, 0, none⟩) l.length cap ∧ x = .int .i64 m ∧ m ≤ pn3 ∧ k < l.length ∧ Hid (RchI u1 u1.heap.size l v wr) ∧ Hid (FindI (pairsE D) D.spots.length k m l)) (fun _ x _ => pn3 - (intOf x).toNat)
        case atStart => exact ⟨0, l, g, cap, rfl, rfl, by omega, hlt, hI, hF⟩
        case round =>
          clear hI hF hlt hki hN hk
          obtain ⟨m, l, g, cap, rfl, rfl, hm, hkl, hI, hF⟩ := hrel
          have hN : l.length ≤ 128 := by have := find_len hF.out; have := hnS.out; omega
          by_cases hlt : m < pn3
          · have hmi : (m : Int) < (pn3 : Int) := by omega
            have hml2 : m < D.edges.length := by rw [← hz3.out]; exact hlt
            obtain ⟨b, off, rfl, hbl, x0, x1, x2, x3, x4, x5, x6⟩ := edges_at (A.out.below hI.out.bel) hlt
            have he := hed.out m hml2
            have hpe := pairs_at D hml2
            obtain ⟨f, hf⟩ := Int.eq_ofNat_of_zero_le he.1
            obtain ⟨s, hs'⟩ := Int.eq_ofNat_of_zero_le he.2.2.1
            have hsn : s < D.spots.length := by omega
            have hs128 : s < 128 := by have := hnS.out; omega
            rw [hf, hs'] at hpe
            have hstep := Lib.hid (find_step hF.out hkl hpe hsn)
            rw [hf] at x0
            rw [hs'] at x1
            generalize (D.edges.getD m edge0).k = ek at *
            generalize (D.edges.getD m edge0).x = ex at *
            generalize (D.edges.getD m edge0).y = ey at *
            generalize (D.edges.getD m edge0).c = ec at *
            generalize (D.edges.getD m edge0).d = ed at *
            obtain ⟨V, hV⟩ : ∃ V, V = wr.alloc (.cells #[.int .i64 (f : Int), .int .i64 (s : Int), .int .i64 ek, .int .i64 ex, .int .i64 ey, .int .i64 ec, .int .i64 ed] 53) := ⟨_, rfl⟩
            have hVb : Below wr.heap.size wr V := by rw [hV]; exact box_below _ _ _
            have hI2 := Lib.hid (hI.out.made hVb)
            have hwr := Lib.hid (show wr.heap.size < V.heap.size by rw [hV]; simp)
            have hgl := Lib.hid hI.out.seen.lt
            have B7 : Holds V wr.heap.size 53 #[.int .i64 (f : Int), .int .i64 (s : Int), .int .i64 ek, .int .i64 ex, .int .i64 ey, .int .i64 ec, .int .i64 ed] := by rw [hV]; exact Holds.new _ _ _
            have HB := Lib.hid B7
            have y0 := B7.cell 0
            have y1 := B7.cell 1
            have yl := own_num' hI2.out.row (i := k) (by rw [intsP_len]; exact hkl)
            rw [intsP_at l hkl] at yl
            have ys := (hI2.out.seen.cell s).trans (marks_at l hs128)
            have hV' := Lib.hid hV
            clear hV hVb he hpe hf hs' B7 hI
            simp only [Int.toNat_natCast] at hstep
            have hsi : (s : Int) < 128 := by omega
            have hki : (k : Int) < (l.length : Int) := by omega
            have hfe : Hid (findE (l.getD k 0) l (f, s) = if f = l.getD k 0 ∧ s ∉ l then l ++ [s] else l) := Lib.hid rfl
            rw [hfe.out] at hstep
            clear hfe
            generalize l.getD k 0 = a0 at *
            by_cases hfa : f = a0
            · subst hfa
              cases hc : l.contains s
              · have hnot : s ∉ l := by simpa using hc
                rw [if_pos ⟨rfl, hnot⟩] at hstep
                rw [hc] at ys
                clear hc hnot
                go_wp2
                rw [← hV'.out]
                clear hV'
                go_quiet (fail)
                obtain ⟨V2, hV2⟩ : ∃ V2, V2 = V.drewN nq := ⟨_, rfl⟩
                rw [← hV2]
                have hb2 : Below V.heap.size V V2 := by rw [hV2]; exact Below.drewN (Below.refl _ _) nq
                have hI3 := Lib.hid (hI2.out.made hb2)
                have y0 : V2.cell? ⟨wr.heap.size, 0, none⟩ = some (.int .i64 (f : Int)) := by rw [hV2]; exact y0
                have y1 : V2.cell? ⟨wr.heap.size, 1, none⟩ = some (.int .i64 (s : Int)) := by rw [hV2]; exact y1
                have y2 : (V2.setCell ⟨u1.heap.size, s, none⟩ (.bool true)).cell? ⟨wr.heap.size, 1, none⟩ = some (.int .i64 (s : Int)) := ((HB.out.below hb2 HB.out.lt).far (p := ⟨u1.heap.size, s, none⟩) (by have := hgl.out; show ¬ wr.heap.size = u1.heap.size; omega) _).cell 1
                have hsz2 := Lib.hid (show wr.heap.size < V2.heap.size by rw [hV2]; exact hwr.out)
                have hne1 : ¬ u1.heap.size = wr.heap.size := by have := hgl.out; omega
                have hne2 : ¬ wr.heap.size = u1.heap.size := by have := hgl.out; omega
                clear hb2 hV2 hI2 yl ys x0 x1 x2 x3 x4 x5 x6
                obtain ⟨X, hX⟩ : ∃ X, X = (V2.setCell ⟨u1.heap.size, s, none⟩ (.bool true)).alloc (.cells #[.int .i64 (s : Int)] 3) := ⟨_, rfl⟩
                have hmk := hI3.out.marked hs128
                have hbX : Below (V2.setCell ⟨u1.heap.size, s, none⟩ (.bool true)).heap.size (V2.setCell ⟨u1.heap.size, s, none⟩ (.bool true)) X := by rw [hX]; exact box_below _ _ _
                have ho0 : Hid (X.ownsRow 0 3 1 (.slice (some ⟨g, 0, none⟩) l.length cap) (intsP l).length (nums .i64 (intsP l))) := Lib.hid (by rw [intsP_len]; exact own_from (own_below hmk.2.2 hbX) (fun _ _ => Nat.zero_le _))
                have hse : Hid (Sees .i64 X.heap.size X (some ⟨V2.heap.size, 0, none⟩) [(s : Int)]) := Lib.hid (by
                  rw [hX]
                  have q := sees_new .i64 (V2.setCell ⟨u1.heap.size, s, none⟩ (.bool true)) 3 [(s : Int)] #[.int .i64 (s : Int)] rfl
                  simpa using q)
                have ff := hI3.out.seen.free s
                have fc := (hI3.out.seen.cell s).trans (marks_at l hs128)
                have hX' := Lib.hid hX
                clear hX hmk hbX
                go_wp2_with (at_builtin; rw [← hX'.out]; refine wpList_append_foot X rfl _ _ 27 rfl 3 i0 (.int .i64 0) 8 Tryz.underlying27 hi hz0 hz1 hz2 rfl .i64 (.slice (some ⟨g, 0, none⟩) l.length cap) (intsP l) ho0.out X.heap.size (some ⟨V2.heap.size, 0, none⟩) [(s : Int)] hse.out 1 1 rfl rfl rfl (by rw [intsP_len]; simp; unfold maxLen; omega) (by rw [intsP_len]; simp; omega) ?_; intro v' w' o1 g1 k1; have h4 := hI3.out.grow hs128 hX'.out o1 g1 k1; obtain ⟨g', cap', rfl, -⟩ := own_some' h4.row (by simp); have h4' := Lib.hid h4; clear h4 o1 g1 k1)
                go_roundw
                case rel => exact ⟨m + 1, l ++ [s], g', cap', by simp, by go_num, by omega, by simp; omega, (by rw [show (l ++ [s]).length = l.length + 1 by simp] at h4'; exact h4'), hstep⟩
                case measure => simp [intOf]; omega
              · have hin : s ∈ l := by simpa using hc
                rw [if_neg (fun h => h.2 hin)] at hstep
                rw [hc] at ys
                clear hc hin
                go_wp2
                rw [← hV'.out]
                clear hV'
                go_quiet (fail)
                have hI3 := Lib.hid (hI2.out.made (Below.drewN (Below.refl _ _) nq))
                go_wp2
                go_roundw
                case rel => exact ⟨m + 1, l, g, cap, rfl, by go_num, by omega, hkl, hI3, hstep⟩
                case measure => simp [intOf]; omega
            · rw [if_neg (fun h => hfa h.1)] at hstep
              have hfa2 : ((f : Int) == (a0 : Int)) = false := by simp; omega
              clear hfa ys
              go_wp2
              rw [← hV'.out]
              clear hV'
              go_quiet (fail)
              have hI3 := Lib.hid (hI2.out.made (Below.drewN (Below.refl _ _) nq))
              go_wp2
              go_roundw
              case rel => exact ⟨m + 1, l, g, cap, rfl, by go_num, by omega, hkl, hI3, hstep⟩
              case measure => simp [intOf]; omega
          · have hmi : ¬ (m : Int) < (pn3 : Int) := by omega
            have hme : m = (pairsE D).length := by rw [pairs_len, ← hz3.out]; omega
            have hF2 := Lib.hid (find_next (by rw [← hme]; exact hF.out))
            clear hF hme
            go_wp2
            go_roundw
            case rel => exact ⟨k + 1, l, g, cap, rfl, by go_num, by omega, hI, hF2⟩
            case measure => simp [intOf]; omega
      · have hki : ¬ (k : Int) < (l.length : Int) := by omega
        have hend := find_end hF.out (by omega : l.length ≤ k)
        have hsr := Lib.hid (sorted_reach hP.out hF.out.nodup hend)
        obtain ⟨g2, cap2, e2, hg2, hg3, hHo⟩ : ∃ g2 cap2, (Value.slice (some ⟨g, 0, none⟩) l.length cap : Value) = .slice (some ⟨g2, 0, none⟩) l.length cap2 ∧ u1.heap.size ≤ g2 ∧ g2 < wr.heap.size ∧ Sort.Holds (Value.int .i64) wr g2 0 (intsP l).toArray := by
          obtain ⟨g2, cap2, e, h1, h2, _, _, _, h3⟩ := Lib.holds_of_ownsRow (enc := Value.int .i64) hI.out.row (by intro e; cases e)
          exact ⟨g2, cap2, e, h1, h2, h3⟩
        injection e2 with e3 e4 e5
        injection e3 with e3
        injection e3 with e3
        subst e3 e5
        have hsort := Tryz.slices_Sort_int g 0 cap (intsP l) wr hHo hg3 (by rw [intsP_len]; omega)
        rw [intsP_len] at hsort
        have hS := Lib.hid hsort
        have hrow := Lib.hid (fun q os => ints_sorted (q := q) (os := os) hI.out.row)
        have hbl := Lib.hid (fun q os => BL.out.trans (((Lib.below_putRow (enc := Value.int .i64) (q := q) (d := ((intsP l).mergeSort fun x y => decide (x ≤ y)).toArray) hI.out.bel hg2).trans ((grow_below _ os).mono (by have := (Lib.below_putRow (enc := Value.int .i64) (q := q) (d := ((intsP l).mergeSort fun x y => decide (x ≤ y)).toArray) hI.out.bel hg2).size; exact this))).mono BL.out.size))
        have hlen : Hid (l.length = (intsP (reachN D)).length) := Lib.hid (by rw [← hsr.out, List.length_mergeSort, intsP_len])
        have hle : Hid ((intsP (reachN D)).length ≤ 1000) := Lib.hid (by rw [← hlen.out]; omega)
        have hus := Lib.hid BL.out.size
        clear hsort hHo hend hF hg3 e4
        go_wp2_with fail
        refine hS.out.mono ?_
        rintro e w7 ⟨rfl, q, os, rfl⟩
        have hr := hrow.out q os
        have hb := hbl.out q os
        clear hS hrow hbl
        generalize Sort.grow _ os = w8 at hr hb ⊢
        rw [hsr.out, ← hs.out] at hr
        have hfin := Lib.hid (slq_own (v := .slice (some ⟨g, 0, none⟩) l.length cap) (l := R) (own_from (by rw [← show l.length = R.length by rw [hs.out, ← hlen.out]]; exact hr) (fun b hb => by have := (hr.lt b hb).1; have := hus.out; omega)) (by rw [hs.out]; exact hle.out) hb)
        clear hr hb
        go_wp2
        go_ret
        exact hfin.out
theorem preach_any (p : PV) (D : PD) (w : World) (h : PrA w p D) : Calls Tryz.prog 9 #[.agg p.cells] w (SlP (reachP D) w) := (preach_new p D w h).mono fun _ _ h => h.p
end Go.Proofs.YtjdfjekonnkglaaGreatDoor
namespace Go.Proofs.YtjdfjekonnkglaaGreatDoor
open Go.RowKit
set_option linter.unusedVariables false
set_option linter.unusedSimpArgs false
theorem any_succ {l : List Int} {k : Nat} (hk : k < l.length) (p : Int) : (l.take (k + 1)).any (fun x => x == p) = ((l.take k).any (fun x => x == p) || (l.getD k 0 == p)) := by
  have e : l.take (k + 1) = l.take k ++ [l.getD k 0] := by
    rw [List.take_add_one]
    simp [List.getD, hk]
  rw [e, List.any_append]
  simp only [List.any_cons, List.any_nil, Bool.or_false]
theorem any_mem {l : List Nat} {k : Nat} (h : k ∈ l) : (intsP l).any (fun x => x == (k : Int)) = true := by
  rw [List.any_eq_true]
  exact ⟨(k : Int), by unfold intsP; exact List.mem_map.2 ⟨k, h, rfl⟩, by simp⟩
theorem sl_at {w : World} {a : Option Addr} {n c : Nat} {l : List Int} (h : SL w a n c l) {k : Nat} (hk : k < n) : ∃ b off, a = some ⟨b, off, none⟩ ∧ b < w.heap.size ∧ w.cell? ⟨b, off + k, none⟩ = some (.int .i64 (l.getD k 0)) := by
  have hl := h.len
  rcases h.sees with rfl | ⟨b, off, rfl, hB, hc⟩
  · simp at hl; omega
  · exact ⟨b, off, rfl, hB, hc k (by omega)⟩
theorem far_set {w : World} {a : Option Addr} {n c : Nat} {l : List Int} (h : SL w a n c l) {g : Nat} (hne : l = [] ∨ ∀ p : Addr, a = some p → p.block ≠ g) (u1 u2 : Value) : SL ((w.setCell ⟨g, 0, none⟩ u1).setCell ⟨g, 1, none⟩ u2) a n c l := by
  have hE : BelowE [g] w.heap.size w ((w.setCell ⟨g, 0, none⟩ u1).setCell ⟨g, 1, none⟩ u2) := ((BelowE.refl _ _ _).setIn (p := ⟨g, 0, none⟩) (by simp) _).setIn (p := ⟨g, 1, none⟩) (by simp) _
  refine sl_keep h hE ?_
  rcases hne with e | e
  · exact .inl e
  · exact .inr fun p hp => by simpa using e p hp
set_option maxRecDepth 100000 in
set_option maxHeartbeats 8000000 in
theorem rcomes_big (pnm : ByteArray) (pa1 : Option Addr) (pn1 pc1 : Nat) (pa2 : Option Addr) (pn2 pc2 : Nat) (pa3 : Option Addr) (pn3 pc3 : Nat) (A : PD) (hA : PW A) (a1 : Option Addr) (n1 c1 : Nat) (l1 : List Int) (ca : Option Addr) (cn cc : Nat) (ch : List (Int × Int)) (w : World) (h : PrA w ⟨pnm, pa1, pn1, pc1, pa2, pn2, pc2, pa3, pn3, pc3⟩ A) (h1 : SL w a1 n1 c1 l1) (h2 : RO chC w ca cn cc ch) (hg : bigR A n1 cn = true) :
    Calls Tryz.prog 3 #[.agg #[.string pnm, .slice pa1 pn1 pc1, .slice pa2 pn2 pc2, .slice pa3 pn3 pc3], .slice a1 n1 c1, .slice ca cn cc] w (Gives (.bool true) w) := by
  obtain ⟨u0, hu0⟩ : ∃ u0, u0 = w.alloc (.cells #[.string pnm, .slice pa1 pn1 pc1, .slice pa2 pn2 pc2, .slice pa3 pn3 pc3] 26) := ⟨_, rfl⟩
  have b0 : Below w.heap.size w u0 := by rw [hu0]; exact box_below _ _ _
  have L0 : LRn A l1 ch w pnm pa1 pn1 pc1 pa2 pn2 pc2 pa3 pn3 pc3 a1 n1 c1 ca cn cc u0 := ⟨h.below b0, h1.below b0, h2.below b0, by rw [hu0]; exact Holds.new w _ _, b0⟩
  have L := Lib.hid L0
  have m1 : Hid (n1 ≤ 9223372036854775807) := Lib.hid (by have := h1.max; have := h1.cap; omega)
  have m2 : Hid (cn ≤ 9223372036854775807) := Lib.hid h2.max'
  have hvl : Hid (pn1 = A.vars.length) := Lib.hid h.vars.len
  have hu0' := Lib.hid hu0
  have QL := Lib.hid rlives_any
  have qA := Lib.hid (fun W (h : LRn A l1 ch w pnm pa1 pn1 pc1 pa2 pn2 pc2 pa3 pn3 pc3 a1 n1 c1 ca cn cc W) => rlarge_any pnm pa1 pn1 pc1 pa2 pn2 pc2 pa3 pn3 pc3 A hA a1 n1 c1 ca cn cc m1.out m2.out W h.pr)
  have qk := Lib.hid (fun W (h : LRn A l1 ch w pnm pa1 pn1 pc1 pa2 pn2 pc2 pa3 pn3 pc3 a1 n1 c1 ca cn cc W) => rcheckP_any ⟨pnm, pa1, pn1, pc1, pa2, pn2, pc2, pa3, pn3, pc3⟩ A hA W h.pr)
  clear hu0 b0 L0 h h1 h2
  rw [hg] at qA
  have kx0 := L.out.b0.cell 0
  have kx1 := L.out.b0.cell 1
  have kx2 := L.out.b0.cell 2
  have kx3 := L.out.b0.cell 3
  simp at kx0 kx1 kx2 kx3
  rw [hu0'.out] at kx0 kx1 kx2 kx3
  go_enter Tryz.func3, Tryz.ntmps3
  go_wp2_with fail
  rw [← hu0'.out]
  with_reducible refine (qA.out _ L.out).mono ?_
  rintro e u1 ⟨rfl, bu1⟩
  replace L := Lib.hid (L.out.below bu1)
  clear bu1
  clear kx0 kx1 kx2 kx3
  go_wp2_with fail
  with_reducible refine (QL.out _).mono ?_
  rintro e u2 ⟨rfl, bu2⟩
  replace L := Lib.hid (L.out.below bu2)
  clear bu2
  go_wp2
  go_ret
  exact ⟨rfl, L.out.bel⟩
set_option maxRecDepth 100000 in
set_option maxHeartbeats 8000000 in
theorem rcomes_no (pnm : ByteArray) (pa1 : Option Addr) (pn1 pc1 : Nat) (pa2 : Option Addr) (pn2 pc2 : Nat) (pa3 : Option Addr) (pn3 pc3 : Nat) (A : PD) (hA : PW A) (a1 : Option Addr) (n1 c1 : Nat) (l1 : List Int) (ca : Option Addr) (cn cc : Nat) (ch : List (Int × Int)) (w : World) (h : PrA w ⟨pnm, pa1, pn1, pc1, pa2, pn2, pc2, pa3, pn3, pc3⟩ A) (h1 : SL w a1 n1 c1 l1) (h2 : RO chC w ca cn cc ch) (hg : bigR A n1 cn = false) (hp : progB A = false) :
    Calls Tryz.prog 3 #[.agg #[.string pnm, .slice pa1 pn1 pc1, .slice pa2 pn2 pc2, .slice pa3 pn3 pc3], .slice a1 n1 c1, .slice ca cn cc] w (Gives (.bool true) w) := by
  obtain ⟨u0, hu0⟩ : ∃ u0, u0 = w.alloc (.cells #[.string pnm, .slice pa1 pn1 pc1, .slice pa2 pn2 pc2, .slice pa3 pn3 pc3] 26) := ⟨_, rfl⟩
  have b0 : Below w.heap.size w u0 := by rw [hu0]; exact box_below _ _ _
  have L0 : LRn A l1 ch w pnm pa1 pn1 pc1 pa2 pn2 pc2 pa3 pn3 pc3 a1 n1 c1 ca cn cc u0 := ⟨h.below b0, h1.below b0, h2.below b0, by rw [hu0]; exact Holds.new w _ _, b0⟩
  have L := Lib.hid L0
  have m1 : Hid (n1 ≤ 9223372036854775807) := Lib.hid (by have := h1.max; have := h1.cap; omega)
  have m2 : Hid (cn ≤ 9223372036854775807) := Lib.hid h2.max'
  have hvl : Hid (pn1 = A.vars.length) := Lib.hid h.vars.len
  have hu0' := Lib.hid hu0
  have QL := Lib.hid rlives_any
  have qA := Lib.hid (fun W (h : LRn A l1 ch w pnm pa1 pn1 pc1 pa2 pn2 pc2 pa3 pn3 pc3 a1 n1 c1 ca cn cc W) => rlarge_any pnm pa1 pn1 pc1 pa2 pn2 pc2 pa3 pn3 pc3 A hA a1 n1 c1 ca cn cc m1.out m2.out W h.pr)
  have qk := Lib.hid (fun W (h : LRn A l1 ch w pnm pa1 pn1 pc1 pa2 pn2 pc2 pa3 pn3 pc3 a1 n1 c1 ca cn cc W) => rcheckP_any ⟨pnm, pa1, pn1, pc1, pa2, pn2, pc2, pa3, pn3, pc3⟩ A hA W h.pr)
  clear hu0 b0 L0 h h1 h2
  rw [hg] at qA
  rw [hp] at qk
  have kx0 := L.out.b0.cell 0
  have kx1 := L.out.b0.cell 1
  have kx2 := L.out.b0.cell 2
  have kx3 := L.out.b0.cell 3
  simp at kx0 kx1 kx2 kx3
  rw [hu0'.out] at kx0 kx1 kx2 kx3
  go_enter Tryz.func3, Tryz.ntmps3
  go_wp2_with fail
  rw [← hu0'.out]
  with_reducible refine (qA.out _ L.out).mono ?_
  rintro e u1 ⟨rfl, bu1⟩
  replace L := Lib.hid (L.out.below bu1)
  clear bu1
  clear kx0 kx1 kx2 kx3
  have kx0 := L.out.b0.cell 0
  have kx1 := L.out.b0.cell 1
  have kx2 := L.out.b0.cell 2
  have kx3 := L.out.b0.cell 3
  simp at kx0 kx1 kx2 kx3
  go_wp2_with fail
  with_reducible refine (qk.out _ L.out).mono ?_
  rintro e u2 ⟨rfl, bu2⟩
  replace L := Lib.hid (L.out.below bu2)
  clear bu2
  clear kx0 kx1 kx2 kx3
  go_wp2_with fail
  with_reducible refine (QL.out _).mono ?_
  rintro e u3 ⟨rfl, bu3⟩
  replace L := Lib.hid (L.out.below bu3)
  clear bu3
  go_wp2
  go_ret
  exact ⟨rfl, L.out.bel⟩
set_option maxRecDepth 100000 in
set_option maxHeartbeats 8000000 in
theorem rcomes_bad (pnm : ByteArray) (pa1 : Option Addr) (pn1 pc1 : Nat) (pa2 : Option Addr) (pn2 pc2 : Nat) (pa3 : Option Addr) (pn3 pc3 : Nat) (A : PD) (hA : PW A) (a1 : Option Addr) (n1 c1 : Nat) (l1 : List Int) (ca : Option Addr) (cn cc : Nat) (ch : List (Int × Int)) (w : World) (h : PrA w ⟨pnm, pa1, pn1, pc1, pa2, pn2, pc2, pa3, pn3, pc3⟩ A) (h1 : SL w a1 n1 c1 l1) (h2 : RO chC w ca cn cc ch) (hg : bigR A n1 cn = false) (hp : progB A = true) (hv : valsB l1 A.vars.length = false) :
    Calls Tryz.prog 3 #[.agg #[.string pnm, .slice pa1 pn1 pc1, .slice pa2 pn2 pc2, .slice pa3 pn3 pc3], .slice a1 n1 c1, .slice ca cn cc] w (Gives (.bool true) w) := by
  obtain ⟨u0, hu0⟩ : ∃ u0, u0 = w.alloc (.cells #[.string pnm, .slice pa1 pn1 pc1, .slice pa2 pn2 pc2, .slice pa3 pn3 pc3] 26) := ⟨_, rfl⟩
  have b0 : Below w.heap.size w u0 := by rw [hu0]; exact box_below _ _ _
  have L0 : LRn A l1 ch w pnm pa1 pn1 pc1 pa2 pn2 pc2 pa3 pn3 pc3 a1 n1 c1 ca cn cc u0 := ⟨h.below b0, h1.below b0, h2.below b0, by rw [hu0]; exact Holds.new w _ _, b0⟩
  have L := Lib.hid L0
  have m1 : Hid (n1 ≤ 9223372036854775807) := Lib.hid (by have := h1.max; have := h1.cap; omega)
  have m2 : Hid (cn ≤ 9223372036854775807) := Lib.hid h2.max'
  have hvl : Hid (pn1 = A.vars.length) := Lib.hid h.vars.len
  have hu0' := Lib.hid hu0
  have QL := Lib.hid rlives_any
  have qA := Lib.hid (fun W (h : LRn A l1 ch w pnm pa1 pn1 pc1 pa2 pn2 pc2 pa3 pn3 pc3 a1 n1 c1 ca cn cc W) => rlarge_any pnm pa1 pn1 pc1 pa2 pn2 pc2 pa3 pn3 pc3 A hA a1 n1 c1 ca cn cc m1.out m2.out W h.pr)
  have qk := Lib.hid (fun W (h : LRn A l1 ch w pnm pa1 pn1 pc1 pa2 pn2 pc2 pa3 pn3 pc3 a1 n1 c1 ca cn cc W) => rcheckP_any ⟨pnm, pa1, pn1, pc1, pa2, pn2, pc2, pa3, pn3, pc3⟩ A hA W h.pr)
  clear hu0 b0 L0 h h1 h2
  rw [hg] at qA
  rw [hp] at qk
  have kx0 := L.out.b0.cell 0
  have kx1 := L.out.b0.cell 1
  have kx2 := L.out.b0.cell 2
  have kx3 := L.out.b0.cell 3
  simp at kx0 kx1 kx2 kx3
  rw [hu0'.out] at kx0 kx1 kx2 kx3
  go_enter Tryz.func3, Tryz.ntmps3
  go_wp2_with fail
  rw [← hu0'.out]
  with_reducible refine (qA.out _ L.out).mono ?_
  rintro e u1 ⟨rfl, bu1⟩
  replace L := Lib.hid (L.out.below bu1)
  clear bu1
  clear kx0 kx1 kx2 kx3
  have kx0 := L.out.b0.cell 0
  have kx1 := L.out.b0.cell 1
  have kx2 := L.out.b0.cell 2
  have kx3 := L.out.b0.cell 3
  simp at kx0 kx1 kx2 kx3
  go_wp2_with fail
  with_reducible refine (qk.out _ L.out).mono ?_
  rintro e u2 ⟨rfl, bu2⟩
  replace L := Lib.hid (L.out.below bu2)
  clear bu2
  clear kx0 kx1 kx2 kx3
  have qv := Lib.hid (rVals_any a1 n1 c1 pn1 l1 u2 L.out.s1)
  rw [hvl.out, hv] at qv
  rw [← hvl.out] at qv
  have kx0 := L.out.b0.cell 0
  have kx1 := L.out.b0.cell 1
  have kx2 := L.out.b0.cell 2
  have kx3 := L.out.b0.cell 3
  simp at kx0 kx1 kx2 kx3
  go_wp2_with fail
  with_reducible refine qv.out.mono ?_
  rintro e u3 ⟨rfl, rfl⟩
  clear qv kx0 kx1 kx2 kx3
  go_wp2_with fail
  with_reducible refine (QL.out _).mono ?_
  rintro e u4 ⟨rfl, bu4⟩
  replace L := Lib.hid (L.out.below bu4)
  clear bu4
  go_wp2
  go_ret
  exact ⟨rfl, L.out.bel⟩
set_option maxRecDepth 100000 in
set_option maxHeartbeats 8000000 in
theorem rcomes_go (pnm : ByteArray) (pa1 : Option Addr) (pn1 pc1 : Nat) (pa2 : Option Addr) (pn2 pc2 : Nat) (pa3 : Option Addr) (pn3 pc3 : Nat) (A : PD) (hA : PW A) (a1 : Option Addr) (n1 c1 : Nat) (l1 : List Int) (ca : Option Addr) (cn cc : Nat) (ch : List (Int × Int)) (w : World) (h : PrA w ⟨pnm, pa1, pn1, pc1, pa2, pn2, pc2, pa3, pn3, pc3⟩ A) (h1 : SL w a1 n1 c1 l1) (h2 : RO chC w ca cn cc ch) (hg : bigR A n1 cn = false) (hp : progB A = true) (hv : valsB l1 A.vars.length = true) :
    Calls Tryz.prog 3 #[.agg #[.string pnm, .slice pa1 pn1 pc1, .slice pa2 pn2 pc2, .slice pa3 pn3 pc3], .slice a1 n1 c1, .slice ca cn cc] w (Gives (.bool true) w) := by
  obtain ⟨u0, hu0⟩ : ∃ u0, u0 = w.alloc (.cells #[.string pnm, .slice pa1 pn1 pc1, .slice pa2 pn2 pc2, .slice pa3 pn3 pc3] 26) := ⟨_, rfl⟩
  have b0 : Below w.heap.size w u0 := by rw [hu0]; exact box_below _ _ _
  have L0 : LRn A l1 ch w pnm pa1 pn1 pc1 pa2 pn2 pc2 pa3 pn3 pc3 a1 n1 c1 ca cn cc u0 := ⟨h.below b0, h1.below b0, h2.below b0, by rw [hu0]; exact Holds.new w _ _, b0⟩
  have L := Lib.hid L0
  have m1 : Hid (n1 ≤ 9223372036854775807) := Lib.hid (by have := h1.max; have := h1.cap; omega)
  have m2 : Hid (cn ≤ 9223372036854775807) := Lib.hid h2.max'
  have hvl : Hid (pn1 = A.vars.length) := Lib.hid h.vars.len
  have hu0' := Lib.hid hu0
  have QL := Lib.hid rlives_any
  have qA := Lib.hid (fun W (h : LRn A l1 ch w pnm pa1 pn1 pc1 pa2 pn2 pc2 pa3 pn3 pc3 a1 n1 c1 ca cn cc W) => rlarge_any pnm pa1 pn1 pc1 pa2 pn2 pc2 pa3 pn3 pc3 A hA a1 n1 c1 ca cn cc m1.out m2.out W h.pr)
  have qk := Lib.hid (fun W (h : LRn A l1 ch w pnm pa1 pn1 pc1 pa2 pn2 pc2 pa3 pn3 pc3 a1 n1 c1 ca cn cc W) => rcheckP_any ⟨pnm, pa1, pn1, pc1, pa2, pn2, pc2, pa3, pn3, pc3⟩ A hA W h.pr)
  clear hu0 b0 L0 h h1 h2
  obtain ⟨hn20, hc300⟩ := bigR_no hg
  rw [hg] at qA
  rw [hp] at qk
  have qt := Lib.hid (fun W (h : LRn A l1 ch w pnm pa1 pn1 pc1 pa2 pn2 pc2 pa3 pn3 pc3 a1 n1 c1 ca cn cc W) => run_any pnm pa1 pn1 pc1 pa2 pn2 pc2 pa3 pn3 pc3 A a1 n1 c1 l1 ca cn cc ch W h.pr h.s1 h.ro (by omega) (by omega))
  have e1 : runT A l1 ch = ((0, l1) :: (runL A 0 l1 ch).1, (runL A 0 l1 ch).2) := by unfold runT; rw [hp, hv]; rfl
  rw [e1] at qt
  have qR := Lib.hid (fun W (h : LRn A l1 ch w pnm pa1 pn1 pc1 pa2 pn2 pc2 pa3 pn3 pc3 a1 n1 c1 ca cn cc W) => preach_any ⟨pnm, pa1, pn1, pc1, pa2, pn2, pc2, pa3, pn3, pc3⟩ A W h.pr)
  have e2 : reachP A = intsP (reachN A) := by unfold reachP; rw [if_pos hp]
  rw [e2] at qR
  have hcl : Hid (cn = ch.length) := Lib.hid L.out.ro.len
  have hgood := Lib.hid (runL_good hp ch (0, l1) (good_start hp hv))
  have hstep := Lib.hid (runL_step (D := A) ch (0, l1))
  have herr := runL_err (D := A) ch 0 l1
  have hmost := runL_most A ch 0 l1
  have hLn : Hid ((0, l1) :: (runL A 0 l1 ch).1 ≠ []) := Lib.hid (by simp)
  obtain ⟨B, hB1, hB2⟩ : ∃ B : Bool, ((runL A 0 l1 ch).2 == 0) = B ∧ (((((0, l1) :: (runL A 0 l1 ch).1).length : Nat) : Int) == (cn : Int) + 1) = B := by
    refine ⟨_, rfl, ?_⟩
    have := hcl.out
    rw [Bool.eq_iff_iff, beq_iff_eq, beq_iff_eq, herr]
    simp
    omega
  have hlo : 0 < ((0, l1) :: (runL A 0 l1 ch).1).length := by simp
  have hhi : ((0, l1) :: (runL A 0 l1 ch).1).length ≤ cn + 1 := by have := hcl.out; simp; omega
  replace hgood : Hid (∀ i, i < ((0, l1) :: (runL A 0 l1 ch).1).length → goodS A (((0, l1) :: (runL A 0 l1 ch).1).getD i s00)) := hgood
  replace hstep : Hid (∀ i, i + 1 < ((0, l1) :: (runL A 0 l1 ch).1).length → i < ch.length ∧ stepR A (((0, l1) :: (runL A 0 l1 ch).1).getD i s00).1 (((0, l1) :: (runL A 0 l1 ch).1).getD i s00).2 (ch.getD i (0, 0)).1 (ch.getD i (0, 0)).2 = (((0, l1) :: (runL A 0 l1 ch).1).getD (i + 1) s00, 0)) := hstep
  generalize (0, l1) :: (runL A 0 l1 ch).1 = LL at *
  generalize (runL A 0 l1 ch).2 = re at *
  clear e1 e2 herr hmost
  have kx0 := L.out.b0.cell 0
  have kx1 := L.out.b0.cell 1
  have kx2 := L.out.b0.cell 2
  have kx3 := L.out.b0.cell 3
  simp at kx0 kx1 kx2 kx3
  rw [hu0'.out] at kx0 kx1 kx2 kx3
  go_enter Tryz.func3, Tryz.ntmps3
  go_wp2_with fail
  rw [← hu0'.out]
  with_reducible refine (qA.out _ L.out).mono ?_
  rintro e u1 ⟨rfl, bu1⟩
  replace L := Lib.hid (L.out.below bu1)
  clear bu1
  clear kx0 kx1 kx2 kx3
  have kx0 := L.out.b0.cell 0
  have kx1 := L.out.b0.cell 1
  have kx2 := L.out.b0.cell 2
  have kx3 := L.out.b0.cell 3
  simp at kx0 kx1 kx2 kx3
  go_wp2_with fail
  with_reducible refine (qk.out _ L.out).mono ?_
  rintro e u2 ⟨rfl, bu2⟩
  replace L := Lib.hid (L.out.below bu2)
  clear bu2
  clear kx0 kx1 kx2 kx3
  have qv := Lib.hid (rVals_any a1 n1 c1 pn1 l1 u2 L.out.s1)
  rw [hvl.out, hv] at qv
  rw [← hvl.out] at qv
  have kx0 := L.out.b0.cell 0
  have kx1 := L.out.b0.cell 1
  have kx2 := L.out.b0.cell 2
  have kx3 := L.out.b0.cell 3
  simp at kx0 kx1 kx2 kx3
  go_wp2_with fail
  with_reducible refine qv.out.mono ?_
  rintro e u3 ⟨rfl, rfl⟩
  clear qv kx0 kx1 kx2 kx3
  have kx0 := L.out.b0.cell 0
  have kx1 := L.out.b0.cell 1
  have kx2 := L.out.b0.cell 2
  have kx3 := L.out.b0.cell 3
  simp at kx0 kx1 kx2 kx3
  go_wp2_with fail
  with_reducible refine (qt.out _ L.out).mono ?_
  rintro e u4 ⟨al, nl, cl, rfl, hst, bu4⟩
  replace L := Lib.hid (L.out.below bu4)
  have T := Lib.hid hst
  clear hst
  clear bu4
  clear kx0 kx1 kx2 kx3
  go_wp2_with fail
  with_reducible refine (QL.out _).mono ?_
  rintro e u5 ⟨rfl, bu5⟩
  replace L := Lib.hid (L.out.below bu5)
  replace T := Lib.hid (T.out.below bu5)
  clear bu5
  obtain rfl : nl = LL.length := T.out.1
  obtain ⟨bo, rfl⟩ := sts_addr T.out hLn.out
  have d0 : ((LL.length : Int) == 0) = false := by rw [beq_eq_false_iff_ne]; omega
  have d1 : ¬ ((cn : Int) + 1 < (LL.length : Int)) := by omega
  have w1 : IntKind.i64.wrap ((cn : Int) + 1) = (cn : Int) + 1 := by rw [IntKind.wrap_i64]; omega
  have d2 : ¬ LL.length = 0 := by omega
  have hL1 : LL.length ≤ 1000 := by omega
  clear qt qk qA QL
  have kx0 := L.out.b0.cell 0
  have kx1 := L.out.b0.cell 1
  have kx2 := L.out.b0.cell 2
  have kx3 := L.out.b0.cell 3
  simp at kx0 kx1 kx2 kx3
  go_wp2_with fail
  with_reducible refine (qR.out _ L.out).mono ?_
  rintro e wd6 ⟨ar, nr, cr, rfl, sr, bwd6⟩
  replace L := Lib.hid (L.out.below bwd6)
  replace T := Lib.hid (T.out.below bwd6)
  have R := Lib.hid sr
  clear sr
  clear bwd6
  clear kx0 kx1 kx2 kx3
  have hnr := R.out.len
  have hnm : nr ≤ 9223372036854775807 := by have := R.out.max; have := R.out.cap; omega
  have hnc : nr ≤ cr := R.out.cap
  have hcl' : LL.length ≤ cl := T.out.2.1
  have QR := Lib.hid (fun pt a n c l W (h1 : LRn A l1 ch w pnm pa1 pn1 pc1 pa2 pn2 pc2 pa3 pn3 pc3 a1 n1 c1 ca cn cc W) h2 => runRight_any pnm pa1 pn1 pc1 pa2 pn2 pc2 pa3 pn3 pc3 A pt a n c l W h1.pr h2)
  have QS := Lib.hid (fun pt a n c l e v W (h1 : LRn A l1 ch w pnm pa1 pn1 pc1 pa2 pn2 pc2 pa3 pn3 pc3 a1 n1 c1 ca cn cc W) h2 => runStep_any pnm pa1 pn1 pc1 pa2 pn2 pc2 pa3 pn3 pc3 A pt a n c l e v W h1.pr h2)
  have QE := Lib.hid (fun p a1 a2 n1 n2 c1 c2 l W h1 h2 => runSame_any p p a1 a2 n1 n2 c1 c2 l l W h1 h2)
  clear qR d0 d1 w1 hB1 hB2
  go_wp2
  go_loopw [10] (fun x wr => ∃ i : Nat, i ≤ LL.length ∧ x = .int .i64 i ∧ Hid (Below wd6.heap.size wd6 wr)) (fun x _ => LL.length - (intOf x).toNat)
  case atStart => exact ⟨0, Nat.zero_le _, rfl, Lib.hid (Below.refl _ _)⟩
  case round =>
    obtain ⟨i, hi, rfl, hB⟩ := hrel
    by_cases hlt : i < LL.length
    · have hii : (i : Int) < (LL.length : Int) := by omega
      obtain ⟨ho, ao, no, co, o0, o1, o2⟩ := sts_at (T.out.below hB.out) hlt
      obtain ⟨kk, hkp, hkm, hks⟩ := hgood.out i hlt
      have hpl : LL.getD i (0, []) = LL.getD i s00 := rfl
      rw [hpl] at o0 o2
      have hprev := Lib.hid (fun (j : Nat) (hj : i = j + 1) => hstep.out j (by omega))
      obtain ⟨⟨pp, pl⟩, hpair⟩ : ∃ q, LL.getD i s00 = q := ⟨_, rfl⟩
      rw [hpair] at o0 o2 hkp hks
      replace o0 : wr.cell? ⟨bo, i * 2, none⟩ = some (.int .i64 pp) := o0
      replace o2 : SL wr ao no co pl := o2
      replace hkp : pp = (kk : Int) := hkp
      replace hks : stateB A pp pl = true := hks
      have hmem := Lib.hid (any_mem hkm)
      rw [← hkp] at hmem
      clear hkp
      have L1 := Lib.hid (L.out.below hB.out)
      have R1 := Lib.hid (R.out.below hB.out)
      generalize intsP (reachN A) = RL at *
      have O0 : ∀ W, Below wr.heap.size wr W → W.cell? ⟨bo, i * 2, none⟩ = some (.int .i64 pp) := fun W hW => (hW.cell (p := ⟨bo, i * 2, none⟩) ho).trans o0
      have O1 : ∀ W, Below wr.heap.size wr W → W.cell? ⟨bo, i * 2 + 1, none⟩ = some (.slice ao no co) := fun W hW => (hW.cell (p := ⟨bo, i * 2 + 1, none⟩) ho).trans o1
      have O2 : ∀ W, Below wr.heap.size wr W → SL W ao no co pl := fun W hW => o2.below hW
      clear o0 o1 o2 ho hkm
      generalize wr = V1 at *
      have cm0 : (RL.take 0).any (fun x => x == pp) = false := by simp
      go_wp2
      go_loopw [11, 12] (fun cv kv w2 => ∃ k : Nat, k ≤ nr ∧ kv = .int .i64 k ∧ cv = .bool ((RL.take k).any (fun x => x == pp)) ∧ Hid (Below V1.heap.size V1 w2)) (fun _ kv _ => nr - (intOf kv).toNat)
      case atStart => exact ⟨0, Nat.zero_le _, rfl, by rw [cm0], Lib.hid (Below.refl _ _)⟩
      case round =>
        obtain ⟨k, hk, rfl, rfl, hB2⟩ := hrel
        generalize wr = w2 at *
        by_cases hkl : k < nr
        · have hki : (k : Int) < (nr : Int) := by omega
          obtain ⟨br, offr, rfl, hbr, r0⟩ := sl_at (R1.out.below hB2.out) hkl
          have hs := Lib.hid (any_succ (l := RL) (k := k) (by omega) pp)
          generalize hrv : RL.getD k 0 = rv at *
          cases hcm : (RL.take k).any (fun x => x == pp) with
          | true =>
            rw [hcm] at hs
            go_wp2
            refine wp_drawn_on (fun W => Below w2.heap.size w2 W) (by kernel_rfl) ((Below.refl _ _).drew) (fun hHeld => ?_)
            refine wpAnyH_take (i := 0) (oi := { dst := some 80, op := Go.Op.move (Go.Operand.tmp 11), type := 4, pos := "law.go:86", after := #[], guard := none }) (v := ?v1) rfl (by kernel_rfl) (by kernel_rfl) (by kernel_rfl) (fun _ _ _ h => h) (Or.inl ⟨by kernel_rfl, ?h1⟩) (by assumption) ?r1
            case h1 => (intro w hSw; (try dsimp only at hSw); go_simp; try with_reducible rfl)
            try simp only [Act.put, List.setIfInBounds_toArray, List.set_cons_zero, List.set_cons_succ]
            refine wpAnyH_take (i := 1) (oi := { dst := some 81, op := Go.Op.move (Go.Operand.tmp 80), type := 4, pos := "law.go:86", after := #[{ on := 0, ground := Go.Ground.data }], guard := none }) (v := ?v2) rfl (by kernel_rfl) (by kernel_rfl) (by kernel_rfl) (fun _ _ _ h => h) (Or.inl ⟨by kernel_rfl, ?h2⟩) (by assumption) ?r2
            case h2 => (intro w hSw; (try dsimp only at hSw); go_simp; try with_reducible rfl)
            try simp only [Act.put, List.setIfInBounds_toArray, List.set_cons_zero, List.set_cons_succ]
            refine wpAnyH_take (i := 2) (oi := { dst := some 82, op := Go.Op.move (Go.Operand.tmp 9), type := 27, pos := "law.go:86", after := #[{ on := 1, ground := Go.Ground.guard }], guard := some (1, false) }) (v := undef) rfl (by kernel_rfl) (by kernel_rfl) (by kernel_rfl) (fun _ _ _ h => h) (Or.inr ⟨by kernel_rfl, rfl⟩) (by assumption) ?_
            try simp only [Act.put, List.setIfInBounds_toArray, List.set_cons_zero, List.set_cons_succ]
            refine wpAnyH_take (i := 3) (oi := { dst := some 83, op := Go.Op.move (Go.Operand.tmp 12), type := 3, pos := "law.go:86", after := #[{ on := 1, ground := Go.Ground.guard }], guard := some (1, false) }) (v := undef) rfl (by kernel_rfl) (by kernel_rfl) (by kernel_rfl) (fun _ _ _ h => h) (Or.inr ⟨by kernel_rfl, rfl⟩) (by assumption) ?_
            try simp only [Act.put, List.setIfInBounds_toArray, List.set_cons_zero, List.set_cons_succ]
            refine wpAnyH_take (i := 4) (oi := { dst := some 84, op := Go.Op.indexAddr 27 (Go.Operand.tmp 82) (Go.Operand.tmp 83), type := 0, pos := "law.go:86", after := #[{ on := 2, ground := Go.Ground.data }, { on := 3, ground := Go.Ground.data }, { on := 1, ground := Go.Ground.guard }], guard := some (1, false) }) (v := undef) rfl (by kernel_rfl) (by kernel_rfl) (by kernel_rfl) (fun _ _ _ h => h) (Or.inr ⟨by kernel_rfl, rfl⟩) (by assumption) ?_
            try simp only [Act.put, List.setIfInBounds_toArray, List.set_cons_zero, List.set_cons_succ]
            refine wpAnyH_take (i := 5) (oi := { dst := some 85, op := Go.Op.load 3 (Go.Operand.tmp 84), type := 3, pos := "law.go:86", after := #[{ on := 4, ground := Go.Ground.data }, { on := 1, ground := Go.Ground.guard }], guard := some (1, false) }) (v := undef) rfl (by kernel_rfl) (by kernel_rfl) (by kernel_rfl) (fun _ _ _ h => h) (Or.inr ⟨by kernel_rfl, rfl⟩) (by assumption) ?_
            try simp only [Act.put, List.setIfInBounds_toArray, List.set_cons_zero, List.set_cons_succ]
            refine wpAnyH_take (i := 6) (oi := { dst := some 86, op := Go.Op.move (Go.Operand.tmp 7), type := 33, pos := "law.go:86", after := #[{ on := 1, ground := Go.Ground.guard }], guard := some (1, false) }) (v := undef) rfl (by kernel_rfl) (by kernel_rfl) (by kernel_rfl) (fun _ _ _ h => h) (Or.inr ⟨by kernel_rfl, rfl⟩) (by assumption) ?_
            try simp only [Act.put, List.setIfInBounds_toArray, List.set_cons_zero, List.set_cons_succ]
            refine wpAnyH_take (i := 7) (oi := { dst := some 87, op := Go.Op.move (Go.Operand.tmp 10), type := 3, pos := "law.go:86", after := #[{ on := 1, ground := Go.Ground.guard }], guard := some (1, false) }) (v := undef) rfl (by kernel_rfl) (by kernel_rfl) (by kernel_rfl) (fun _ _ _ h => h) (Or.inr ⟨by kernel_rfl, rfl⟩) (by assumption) ?_
            try simp only [Act.put, List.setIfInBounds_toArray, List.set_cons_zero, List.set_cons_succ]
            refine wpAnyH_take (i := 8) (oi := { dst := some 88, op := Go.Op.indexAddr 33 (Go.Operand.tmp 86) (Go.Operand.tmp 87), type := 0, pos := "law.go:86", after := #[{ on := 6, ground := Go.Ground.data }, { on := 7, ground := Go.Ground.data }, { on := 1, ground := Go.Ground.guard }], guard := some (1, false) }) (v := undef) rfl (by kernel_rfl) (by kernel_rfl) (by kernel_rfl) (fun _ _ _ h => h) (Or.inr ⟨by kernel_rfl, rfl⟩) (by assumption) ?_
            try simp only [Act.put, List.setIfInBounds_toArray, List.set_cons_zero, List.set_cons_succ]
            refine wpAnyH_take (i := 9) (oi := { dst := some 89, op := Go.Op.fieldAddr 39 (Go.Operand.tmp 88) 0, type := 0, pos := "law.go:86", after := #[{ on := 8, ground := Go.Ground.data }, { on := 1, ground := Go.Ground.guard }], guard := some (1, false) }) (v := undef) rfl (by kernel_rfl) (by kernel_rfl) (by kernel_rfl) (fun _ _ _ h => h) (Or.inr ⟨by kernel_rfl, rfl⟩) (by assumption) ?_
            try simp only [Act.put, List.setIfInBounds_toArray, List.set_cons_zero, List.set_cons_succ]
            refine wpAnyH_take (i := 10) (oi := { dst := some 90, op := Go.Op.load 3 (Go.Operand.tmp 89), type := 3, pos := "law.go:86", after := #[{ on := 9, ground := Go.Ground.data }, { on := 1, ground := Go.Ground.guard }], guard := some (1, false) }) (v := undef) rfl (by kernel_rfl) (by kernel_rfl) (by kernel_rfl) (fun _ _ _ h => h) (Or.inr ⟨by kernel_rfl, rfl⟩) (by assumption) ?_
            try simp only [Act.put, List.setIfInBounds_toArray, List.set_cons_zero, List.set_cons_succ]
            refine wpAnyH_take (i := 11) (oi := { dst := some 91, op := Go.Op.binOp Go.BinOp.eql 3 (Go.Operand.tmp 85) (Go.Operand.tmp 90) 3, type := 4, pos := "law.go:86", after := #[{ on := 5, ground := Go.Ground.data }, { on := 10, ground := Go.Ground.data }, { on := 1, ground := Go.Ground.guard }], guard := some (1, false) }) (v := undef) rfl (by kernel_rfl) (by kernel_rfl) (by kernel_rfl) (fun _ _ _ h => h) (Or.inr ⟨by kernel_rfl, rfl⟩) (by assumption) ?_
            try simp only [Act.put, List.setIfInBounds_toArray, List.set_cons_zero, List.set_cons_succ]
            refine wpAnyH_take (i := 12) (oi := { dst := some 92, op := Go.Op.pick (Go.Operand.tmp 81) (Go.Operand.const (Go.Value.bool true)) (Go.Operand.tmp 91), type := 4, pos := "law.go:86", after := #[{ on := 1, ground := Go.Ground.data }, { on := 11, ground := Go.Ground.data }], guard := none }) (v := ?v13) rfl (by kernel_rfl) (by kernel_rfl) (by kernel_rfl) (fun _ _ _ h => h) (Or.inl ⟨by kernel_rfl, ?h13⟩) (by assumption) ?r13
            case h13 => (intro w hSw; (try dsimp only at hSw); go_simp; try with_reducible rfl)
            try simp only [Act.put, List.setIfInBounds_toArray, List.set_cons_zero, List.set_cons_succ]
            refine wpAnyH_take (i := 13) (oi := { dst := some 11, op := Go.Op.assign (Go.Operand.tmp 92), type := 4, pos := "law.go:86", after := #[{ on := 12, ground := Go.Ground.data }, { on := 1, ground := Go.Ground.chain }, { on := 0, ground := Go.Ground.phase }, { on := 1, ground := Go.Ground.phase }, { on := 2, ground := Go.Ground.phase }, { on := 3, ground := Go.Ground.phase }, { on := 4, ground := Go.Ground.phase }, { on := 5, ground := Go.Ground.phase }, { on := 6, ground := Go.Ground.phase }, { on := 7, ground := Go.Ground.phase }, { on := 8, ground := Go.Ground.phase }, { on := 9, ground := Go.Ground.phase }, { on := 10, ground := Go.Ground.phase }, { on := 11, ground := Go.Ground.phase }, { on := 12, ground := Go.Ground.phase }], guard := none }) (v := ?v14) rfl (by kernel_rfl) (by kernel_rfl) (by kernel_rfl) (fun _ _ _ h => h) (Or.inl ⟨by kernel_rfl, ?h14⟩) (by assumption) ?r14
            case h14 => (intro w hSw; (try dsimp only at hSw); go_simp; try with_reducible rfl)
            try simp only [Act.put, List.setIfInBounds_toArray, List.set_cons_zero, List.set_cons_succ]
            refine wpAnyH_done (by kernel_rfl) ?_ _
            go_wp2
            go_roundw
            case rel => exact ⟨k + 1, by omega, by go_num, by rw [hs.out]; rfl, Lib.hid (hB2.out.trans (hHeld.mono hB2.out.size))⟩
            case measure => simp [intOf]; omega
          | false =>
            rw [hcm, Bool.false_or] at hs
            have F0 : ∀ W, Below w2.heap.size w2 W → W.cell? ⟨br, offr + k, none⟩ = some (.int .i64 rv) := fun W hW => (hW.cell (p := ⟨br, offr + k, none⟩) hbr).trans r0
            have F1 : ∀ W, Below w2.heap.size w2 W → W.cell? ⟨bo, i * 2, none⟩ = some (.int .i64 pp) := fun W hW => O0 W (hB2.out.trans (hW.mono hB2.out.size))
            go_wp2
            refine wp_drawn_on (fun W => Below w2.heap.size w2 W) (by kernel_rfl) ((Below.refl _ _).drew) (fun hHeld => ?_)
            refine wpAnyH_take (i := 0) (oi := { dst := some 80, op := Go.Op.move (Go.Operand.tmp 11), type := 4, pos := "law.go:86", after := #[], guard := none }) (v := ?v15) rfl (by kernel_rfl) (by kernel_rfl) (by kernel_rfl) (fun _ _ _ h => h) (Or.inl ⟨by kernel_rfl, ?h15⟩) (by assumption) ?r15
            case h15 => (intro w hSw; (try dsimp only at hSw); go_simp; try with_reducible rfl)
            try simp only [Act.put, List.setIfInBounds_toArray, List.set_cons_zero, List.set_cons_succ]
            refine wpAnyH_take (i := 1) (oi := { dst := some 81, op := Go.Op.move (Go.Operand.tmp 80), type := 4, pos := "law.go:86", after := #[{ on := 0, ground := Go.Ground.data }], guard := none }) (v := ?v16) rfl (by kernel_rfl) (by kernel_rfl) (by kernel_rfl) (fun _ _ _ h => h) (Or.inl ⟨by kernel_rfl, ?h16⟩) (by assumption) ?r16
            case h16 => (intro w hSw; (try dsimp only at hSw); go_simp; try with_reducible rfl)
            try simp only [Act.put, List.setIfInBounds_toArray, List.set_cons_zero, List.set_cons_succ]
            refine wpAnyH_take (i := 2) (oi := { dst := some 82, op := Go.Op.move (Go.Operand.tmp 9), type := 27, pos := "law.go:86", after := #[{ on := 1, ground := Go.Ground.guard }], guard := some (1, false) }) (v := ?v17) rfl (by kernel_rfl) (by kernel_rfl) (by kernel_rfl) (fun _ _ _ h => h) (Or.inl ⟨by kernel_rfl, ?h17⟩) (by assumption) ?r17
            case h17 => (intro w hSw; (try dsimp only at hSw); go_simp; try with_reducible rfl)
            try simp only [Act.put, List.setIfInBounds_toArray, List.set_cons_zero, List.set_cons_succ]
            refine wpAnyH_take (i := 3) (oi := { dst := some 83, op := Go.Op.move (Go.Operand.tmp 12), type := 3, pos := "law.go:86", after := #[{ on := 1, ground := Go.Ground.guard }], guard := some (1, false) }) (v := ?v18) rfl (by kernel_rfl) (by kernel_rfl) (by kernel_rfl) (fun _ _ _ h => h) (Or.inl ⟨by kernel_rfl, ?h18⟩) (by assumption) ?r18
            case h18 => (intro w hSw; (try dsimp only at hSw); go_simp; try with_reducible rfl)
            try simp only [Act.put, List.setIfInBounds_toArray, List.set_cons_zero, List.set_cons_succ]
            refine wpAnyH_take (i := 4) (oi := { dst := some 84, op := Go.Op.indexAddr 27 (Go.Operand.tmp 82) (Go.Operand.tmp 83), type := 0, pos := "law.go:86", after := #[{ on := 2, ground := Go.Ground.data }, { on := 3, ground := Go.Ground.data }, { on := 1, ground := Go.Ground.guard }], guard := some (1, false) }) (v := ?v19) rfl (by kernel_rfl) (by kernel_rfl) (by kernel_rfl) (fun _ _ _ h => h) (Or.inl ⟨by kernel_rfl, ?h19⟩) (by assumption) ?r19
            case h19 => (intro w hSw; (try dsimp only at hSw); go_simp; try with_reducible rfl)
            try simp only [Act.put, List.setIfInBounds_toArray, List.set_cons_zero, List.set_cons_succ]
            refine wpAnyH_take (i := 5) (oi := { dst := some 85, op := Go.Op.load 3 (Go.Operand.tmp 84), type := 3, pos := "law.go:86", after := #[{ on := 4, ground := Go.Ground.data }, { on := 1, ground := Go.Ground.guard }], guard := some (1, false) }) (v := ?v20) rfl (by kernel_rfl) (by kernel_rfl) (by kernel_rfl) (fun _ _ _ h => h) (Or.inl ⟨by kernel_rfl, ?h20⟩) (by assumption) ?r20
            case h20 => (intro w hSw; (try dsimp only at hSw); go_simp; try with_reducible rfl)
            try simp only [Act.put, List.setIfInBounds_toArray, List.set_cons_zero, List.set_cons_succ]
            refine wpAnyH_take (i := 6) (oi := { dst := some 86, op := Go.Op.move (Go.Operand.tmp 7), type := 33, pos := "law.go:86", after := #[{ on := 1, ground := Go.Ground.guard }], guard := some (1, false) }) (v := ?v21) rfl (by kernel_rfl) (by kernel_rfl) (by kernel_rfl) (fun _ _ _ h => h) (Or.inl ⟨by kernel_rfl, ?h21⟩) (by assumption) ?r21
            case h21 => (intro w hSw; (try dsimp only at hSw); go_simp; try with_reducible rfl)
            try simp only [Act.put, List.setIfInBounds_toArray, List.set_cons_zero, List.set_cons_succ]
            refine wpAnyH_take (i := 7) (oi := { dst := some 87, op := Go.Op.move (Go.Operand.tmp 10), type := 3, pos := "law.go:86", after := #[{ on := 1, ground := Go.Ground.guard }], guard := some (1, false) }) (v := ?v22) rfl (by kernel_rfl) (by kernel_rfl) (by kernel_rfl) (fun _ _ _ h => h) (Or.inl ⟨by kernel_rfl, ?h22⟩) (by assumption) ?r22
            case h22 => (intro w hSw; (try dsimp only at hSw); go_simp; try with_reducible rfl)
            try simp only [Act.put, List.setIfInBounds_toArray, List.set_cons_zero, List.set_cons_succ]
            refine wpAnyH_take (i := 8) (oi := { dst := some 88, op := Go.Op.indexAddr 33 (Go.Operand.tmp 86) (Go.Operand.tmp 87), type := 0, pos := "law.go:86", after := #[{ on := 6, ground := Go.Ground.data }, { on := 7, ground := Go.Ground.data }, { on := 1, ground := Go.Ground.guard }], guard := some (1, false) }) (v := ?v23) rfl (by kernel_rfl) (by kernel_rfl) (by kernel_rfl) (fun _ _ _ h => h) (Or.inl ⟨by kernel_rfl, ?h23⟩) (by assumption) ?r23
            case h23 => (intro w hSw; (try dsimp only at hSw); go_simp; try with_reducible rfl)
            try simp only [Act.put, List.setIfInBounds_toArray, List.set_cons_zero, List.set_cons_succ]
            refine wpAnyH_take (i := 9) (oi := { dst := some 89, op := Go.Op.fieldAddr 39 (Go.Operand.tmp 88) 0, type := 0, pos := "law.go:86", after := #[{ on := 8, ground := Go.Ground.data }, { on := 1, ground := Go.Ground.guard }], guard := some (1, false) }) (v := ?v24) rfl (by kernel_rfl) (by kernel_rfl) (by kernel_rfl) (fun _ _ _ h => h) (Or.inl ⟨by kernel_rfl, ?h24⟩) (by assumption) ?r24
            case h24 => (intro w hSw; (try dsimp only at hSw); go_simp; try with_reducible rfl)
            try simp only [Act.put, List.setIfInBounds_toArray, List.set_cons_zero, List.set_cons_succ]
            refine wpAnyH_take (i := 10) (oi := { dst := some 90, op := Go.Op.load 3 (Go.Operand.tmp 89), type := 3, pos := "law.go:86", after := #[{ on := 9, ground := Go.Ground.data }, { on := 1, ground := Go.Ground.guard }], guard := some (1, false) }) (v := ?v25) rfl (by kernel_rfl) (by kernel_rfl) (by kernel_rfl) (fun _ _ _ h => h) (Or.inl ⟨by kernel_rfl, ?h25⟩) (by assumption) ?r25
            case h25 => (intro w hSw; (try dsimp only at hSw); go_simp; try with_reducible rfl)
            try simp only [Act.put, List.setIfInBounds_toArray, List.set_cons_zero, List.set_cons_succ]
            refine wpAnyH_take (i := 11) (oi := { dst := some 91, op := Go.Op.binOp Go.BinOp.eql 3 (Go.Operand.tmp 85) (Go.Operand.tmp 90) 3, type := 4, pos := "law.go:86", after := #[{ on := 5, ground := Go.Ground.data }, { on := 10, ground := Go.Ground.data }, { on := 1, ground := Go.Ground.guard }], guard := some (1, false) }) (v := ?v26) rfl (by kernel_rfl) (by kernel_rfl) (by kernel_rfl) (fun _ _ _ h => h) (Or.inl ⟨by kernel_rfl, ?h26⟩) (by assumption) ?r26
            case h26 => (intro w hSw; (try dsimp only at hSw); go_simp; try with_reducible rfl)
            try simp only [Act.put, List.setIfInBounds_toArray, List.set_cons_zero, List.set_cons_succ]
            refine wpAnyH_take (i := 12) (oi := { dst := some 92, op := Go.Op.pick (Go.Operand.tmp 81) (Go.Operand.const (Go.Value.bool true)) (Go.Operand.tmp 91), type := 4, pos := "law.go:86", after := #[{ on := 1, ground := Go.Ground.data }, { on := 11, ground := Go.Ground.data }], guard := none }) (v := ?v27) rfl (by kernel_rfl) (by kernel_rfl) (by kernel_rfl) (fun _ _ _ h => h) (Or.inl ⟨by kernel_rfl, ?h27⟩) (by assumption) ?r27
            case h27 => (intro w hSw; (try dsimp only at hSw); go_simp; try with_reducible rfl)
            try simp only [Act.put, List.setIfInBounds_toArray, List.set_cons_zero, List.set_cons_succ]
            refine wpAnyH_take (i := 13) (oi := { dst := some 11, op := Go.Op.assign (Go.Operand.tmp 92), type := 4, pos := "law.go:86", after := #[{ on := 12, ground := Go.Ground.data }, { on := 1, ground := Go.Ground.chain }, { on := 0, ground := Go.Ground.phase }, { on := 1, ground := Go.Ground.phase }, { on := 2, ground := Go.Ground.phase }, { on := 3, ground := Go.Ground.phase }, { on := 4, ground := Go.Ground.phase }, { on := 5, ground := Go.Ground.phase }, { on := 6, ground := Go.Ground.phase }, { on := 7, ground := Go.Ground.phase }, { on := 8, ground := Go.Ground.phase }, { on := 9, ground := Go.Ground.phase }, { on := 10, ground := Go.Ground.phase }, { on := 11, ground := Go.Ground.phase }, { on := 12, ground := Go.Ground.phase }], guard := none }) (v := ?v28) rfl (by kernel_rfl) (by kernel_rfl) (by kernel_rfl) (fun _ _ _ h => h) (Or.inl ⟨by kernel_rfl, ?h28⟩) (by assumption) ?r28
            case h28 => (intro w hSw; (try dsimp only at hSw); go_simp; try with_reducible rfl)
            try simp only [Act.put, List.setIfInBounds_toArray, List.set_cons_zero, List.set_cons_succ]
            refine wpAnyH_done (by kernel_rfl) ?_ _
            go_wp2
            go_roundw
            case rel => exact ⟨k + 1, by omega, by go_num, by rw [hs.out], Lib.hid (hB2.out.trans (hHeld.mono hB2.out.size))⟩
            case measure => simp [intOf]; omega
        · have hki : ¬ (k : Int) < (nr : Int) := by omega
          have hcome : (RL.take k).any (fun x => x == pp) = true := by rw [List.take_of_length_le (by omega)]; exact hmem.out
          rw [hcome]
          have LF : ∀ W, Below w2.heap.size w2 W → LRn A l1 ch w pnm pa1 pn1 pc1 pa2 pn2 pc2 pa3 pn3 pc3 a1 n1 c1 ca cn cc W := fun W hW => (L1.out.below hB2.out).below hW
          have z0 : ∀ W, Below w2.heap.size w2 W → W.cell? ⟨w.heap.size, 0, none⟩ = some (.string pnm) := fun W hW => (LF W hW).b0.cell 0
          have z1 : ∀ W, Below w2.heap.size w2 W → W.cell? ⟨w.heap.size, 1, none⟩ = some (.slice pa1 pn1 pc1) := fun W hW => (LF W hW).b0.cell 1
          have z2 : ∀ W, Below w2.heap.size w2 W → W.cell? ⟨w.heap.size, 2, none⟩ = some (.slice pa2 pn2 pc2) := fun W hW => (LF W hW).b0.cell 2
          have z3 : ∀ W, Below w2.heap.size w2 W → W.cell? ⟨w.heap.size, 3, none⟩ = some (.slice pa3 pn3 pc3) := fun W hW => (LF W hW).b0.cell 3
          have G0 : ∀ W, Below w2.heap.size w2 W → W.cell? ⟨bo, i * 2, none⟩ = some (.int .i64 pp) := fun W hW => O0 W (hB2.out.trans (hW.mono hB2.out.size))
          have G1 : ∀ W, Below w2.heap.size w2 W → W.cell? ⟨bo, i * 2 + 1, none⟩ = some (.slice ao no co) := fun W hW => O1 W (hB2.out.trans (hW.mono hB2.out.size))
          have G2 : ∀ W, Below w2.heap.size w2 W → SL W ao no co pl := fun W hW => O2 W (hB2.out.trans (hW.mono hB2.out.size))
          have qr := Lib.hid (fun W h1 h2 => QR.out pp ao no co pl W h1 h2)
          rw [hp, hks, Bool.and_self] at qr
          have hB3 : Hid (Below wd6.heap.size wd6 w2) := Lib.hid (hB.out.trans (hB2.out.mono hB.out.size))
          have T3 := Lib.hid (T.out.below hB3.out)
          have C3 := Lib.hid ((LF w2 (Below.refl _ _)).ro)
          clear L1 R1 hcome
          go_wp2
          refine wp_drawn_on (fun W => Below w2.heap.size w2 W) (by kernel_rfl) ((Below.refl _ _).drew) (fun hHeld => ?_)
          refine wpAnyH_take (i := 0) (oi := { dst := some 93, op := Go.Op.move (Go.Operand.tmp 11), type := 4, pos := "law.go:88", after := #[], guard := none }) (v := ?v29) rfl (by kernel_rfl) (by kernel_rfl) (by kernel_rfl) (fun _ _ _ h => h) (Or.inl ⟨by kernel_rfl, ?h29⟩) (by assumption) ?r29
          case h29 => (intro w hSw; (try dsimp only at hSw); go_simp; try with_reducible rfl)
          try simp only [Act.put, List.setIfInBounds_toArray, List.set_cons_zero, List.set_cons_succ]
          refine wpAnyH_take (i := 1) (oi := { dst := some 94, op := Go.Op.unOp Go.UnOp.not 4 (Go.Operand.tmp 93), type := 4, pos := "law.go:88", after := #[{ on := 0, ground := Go.Ground.data }], guard := none }) (v := ?v30) rfl (by kernel_rfl) (by kernel_rfl) (by kernel_rfl) (fun _ _ _ h => h) (Or.inl ⟨by kernel_rfl, ?h30⟩) (by assumption) ?r30
          case h30 => (intro w hSw; (try dsimp only at hSw); go_simp; try with_reducible rfl)
          try simp only [Act.put, List.setIfInBounds_toArray, List.set_cons_zero, List.set_cons_succ]
          refine wpAnyH_take (i := 2) (oi := { dst := some 95, op := Go.Op.move (Go.Operand.tmp 94), type := 4, pos := "law.go:88", after := #[{ on := 1, ground := Go.Ground.data }], guard := none }) (v := ?v31) rfl (by kernel_rfl) (by kernel_rfl) (by kernel_rfl) (fun _ _ _ h => h) (Or.inl ⟨by kernel_rfl, ?h31⟩) (by assumption) ?r31
          case h31 => (intro w hSw; (try dsimp only at hSw); go_simp; try with_reducible rfl)
          try simp only [Act.put, List.setIfInBounds_toArray, List.set_cons_zero, List.set_cons_succ]
          refine wpAnyH_take (i := 3) (oi := { dst := some 96, op := Go.Op.load 26 (Go.Operand.tmp 3), type := 26, pos := "law.go:88", after := #[{ on := 2, ground := Go.Ground.guard }], guard := some (2, false) }) (v := ?v32) rfl (by kernel_rfl) (by kernel_rfl) (by kernel_rfl) (fun _ _ _ h => h) (Or.inl ⟨by kernel_rfl, ?h32⟩) (by assumption) ?r32
          case h32 => (intro w hSw; (try dsimp only at hSw); go_simp; try with_reducible rfl)
          try simp only [Act.put, List.setIfInBounds_toArray, List.set_cons_zero, List.set_cons_succ]
          refine wpAnyH_take (i := 4) (oi := { dst := some 97, op := Go.Op.move (Go.Operand.tmp 7), type := 33, pos := "law.go:88", after := #[{ on := 2, ground := Go.Ground.guard }], guard := some (2, false) }) (v := ?v33) rfl (by kernel_rfl) (by kernel_rfl) (by kernel_rfl) (fun _ _ _ h => h) (Or.inl ⟨by kernel_rfl, ?h33⟩) (by assumption) ?r33
          case h33 => (intro w hSw; (try dsimp only at hSw); go_simp; try with_reducible rfl)
          try simp only [Act.put, List.setIfInBounds_toArray, List.set_cons_zero, List.set_cons_succ]
          refine wpAnyH_take (i := 5) (oi := { dst := some 98, op := Go.Op.move (Go.Operand.tmp 10), type := 3, pos := "law.go:88", after := #[{ on := 2, ground := Go.Ground.guard }], guard := some (2, false) }) (v := ?v34) rfl (by kernel_rfl) (by kernel_rfl) (by kernel_rfl) (fun _ _ _ h => h) (Or.inl ⟨by kernel_rfl, ?h34⟩) (by assumption) ?r34
          case h34 => (intro w hSw; (try dsimp only at hSw); go_simp; try with_reducible rfl)
          try simp only [Act.put, List.setIfInBounds_toArray, List.set_cons_zero, List.set_cons_succ]
          refine wpAnyH_take (i := 6) (oi := { dst := some 99, op := Go.Op.indexAddr 33 (Go.Operand.tmp 97) (Go.Operand.tmp 98), type := 0, pos := "law.go:88", after := #[{ on := 4, ground := Go.Ground.data }, { on := 5, ground := Go.Ground.data }, { on := 2, ground := Go.Ground.guard }], guard := some (2, false) }) (v := ?v35) rfl (by kernel_rfl) (by kernel_rfl) (by kernel_rfl) (fun _ _ _ h => h) (Or.inl ⟨by kernel_rfl, ?h35⟩) (by assumption) ?r35
          case h35 => (intro w hSw; (try dsimp only at hSw); go_simp; try with_reducible rfl)
          try simp only [Act.put, List.setIfInBounds_toArray, List.set_cons_zero, List.set_cons_succ]
          refine wpAnyH_take (i := 7) (oi := { dst := some 100, op := Go.Op.load 39 (Go.Operand.tmp 99), type := 39, pos := "law.go:88", after := #[{ on := 6, ground := Go.Ground.data }, { on := 2, ground := Go.Ground.guard }], guard := some (2, false) }) (v := ?v36) rfl (by kernel_rfl) (by kernel_rfl) (by kernel_rfl) (fun _ _ _ h => h) (Or.inl ⟨by kernel_rfl, ?h36⟩) (by assumption) ?r36
          case h36 => (intro w hSw; (try dsimp only at hSw); go_simp; try with_reducible rfl)
          try simp only [Act.put, List.setIfInBounds_toArray, List.set_cons_zero, List.set_cons_succ]
          refine wpAnyH_ready (rs := [8]) (by kernel_rfl) (by simp) ?_
          refine AllReadyH.cons (o := { dst := some 101, op := Go.Op.call { callee := Go.Callee.value (Go.Operand.func 10), args := #[Go.Operand.tmp 96, Go.Operand.tmp 100], argTypes := #[26, 39] }, type := 4, pos := "law.go:88", after := #[{ on := 3, ground := Go.Ground.data }, { on := 7, ground := Go.Ground.data }, { on := 2, ground := Go.Ground.chain }, { on := 2, ground := Go.Ground.guard }], guard := some (2, false) }) rfl (fun K hK => ?_) AllReadyH.nil
          go_simp
          with_reducible refine (qr.out _ (LF _ hHeld) (G2 _ hHeld)).mono ?_
          rintro e w8 ⟨rfl, b8⟩
          have hx8 : Below w2.heap.size w2 w8 := hHeld.trans (b8.mono hHeld.size)
          go_simp
          refine hK.out _ _ (hx8) (fun hHeld => ?_)
          clear hK K
          try simp only [Act.put, List.setIfInBounds_toArray, List.set_cons_zero, List.set_cons_succ]
          refine wpAnyH_take (i := 9) (oi := { dst := some 102, op := Go.Op.unOp Go.UnOp.not 4 (Go.Operand.tmp 101), type := 4, pos := "law.go:88", after := #[{ on := 8, ground := Go.Ground.data }, { on := 2, ground := Go.Ground.guard }], guard := some (2, false) }) (v := ?v37) rfl (by kernel_rfl) (by kernel_rfl) (by kernel_rfl) (fun _ _ _ h => h) (Or.inl ⟨by kernel_rfl, ?h37⟩) (by assumption) ?r37
          case h37 => (intro w hSw; (try dsimp only at hSw); go_simp; try with_reducible rfl)
          try simp only [Act.put, List.setIfInBounds_toArray, List.set_cons_zero, List.set_cons_succ]
          refine wpAnyH_take (i := 10) (oi := { dst := some 103, op := Go.Op.pick (Go.Operand.tmp 95) (Go.Operand.const (Go.Value.bool true)) (Go.Operand.tmp 102), type := 4, pos := "law.go:88", after := #[{ on := 2, ground := Go.Ground.data }, { on := 9, ground := Go.Ground.data }], guard := none }) (v := ?v38) rfl (by kernel_rfl) (by kernel_rfl) (by kernel_rfl) (fun _ _ _ h => h) (Or.inl ⟨by kernel_rfl, ?h38⟩) (by assumption) ?r38
          case h38 => (intro w hSw; (try dsimp only at hSw); go_simp; try with_reducible rfl)
          try simp only [Act.put, List.setIfInBounds_toArray, List.set_cons_zero, List.set_cons_succ]
          refine wpAnyH_done (by kernel_rfl) ?_ _
          have hB4 := Lib.hid hHeld
          clear hHeld qr
          by_cases hi0 : i = 0
          · have hi0' : ((i : Int) == 0) = true := by simp; omega
            go_wp2
            go_roundw
            case rel => exact ⟨i + 1, by omega, by go_num, Lib.hid (hB3.out.trans (hB4.out.mono hB3.out.size))⟩
            case measure => simp [intOf]; omega
          · have hi0' : ((i : Int) == 0) = false := by simp; omega
            obtain ⟨j, hj⟩ : ∃ j, i = j + 1 := ⟨i - 1, by omega⟩
            have hj0 : (i : Int) - 1 = (j : Int) := by omega
            have wj : IntKind.i64.wrap (j : Int) = (j : Int) := by rw [IntKind.wrap_i64]; omega
            obtain ⟨hjc, hjs⟩ := hprev.out j hj
            rw [← hj] at hjs
            have hjl : j < LL.length := by omega
            clear hj
            have hji : (j : Int) < (LL.length : Int) := by omega
            have hjn : j < cn := by rw [hcl.out]; exact hjc
            have hjm : (j : Int) < (cn : Int) := by omega
            obtain ⟨hp0, aj, nj, cj, p0, p1, p2⟩ := sts_at T3.out hjl
            obtain ⟨bc, offc, rfl, hbc, x0, x1⟩ := choice_at C3.out hjn
            have hgj := hgood.out j hjl
            have hsj := stepS_good hp hgj (ch.getD j (0, 0)).1 (ch.getD j (0, 0)).2
            rw [hjs, hpair] at hsj
            have hpj : LL.getD j (0, []) = LL.getD j s00 := rfl
            rw [hpj] at p0 p2
            generalize (LL.getD j s00).1 = jp at *
            generalize (LL.getD j s00).2 = jl at *
            generalize (ch.getD j (0, 0)).1 = ce at *
            generalize (ch.getD j (0, 0)).2 = cv at *
            have qs := Lib.hid (fun W h1 h2 => QS.out jp aj nj cj jl ce cv W h1 h2)
            rw [hsj] at qs
            have qe := Lib.hid (fun a1 n1 c1 W h1 h2 => QE.out pp a1 ao n1 no c1 co pl W h1 h2)
            rw [same_self] at qe
            clear hgj hsj hjs
            go_upto_region 18 with (fail)
            have LF8 : ∀ W, Below w8.heap.size w8 W → LRn A l1 ch w pnm pa1 pn1 pc1 pa2 pn2 pc2 pa3 pn3 pc3 a1 n1 c1 (some ⟨bc, offc, none⟩) cn cc W := fun W hW => LF W (hB4.out.trans (hW.mono hB4.out.size))
            have y0 : ∀ W, Below w8.heap.size w8 W → W.cell? ⟨w.heap.size, 0, none⟩ = some (.string pnm) := fun W hW => (LF8 W hW).b0.cell 0
            have y1 : ∀ W, Below w8.heap.size w8 W → W.cell? ⟨w.heap.size, 1, none⟩ = some (.slice pa1 pn1 pc1) := fun W hW => (LF8 W hW).b0.cell 1
            have y2 : ∀ W, Below w8.heap.size w8 W → W.cell? ⟨w.heap.size, 2, none⟩ = some (.slice pa2 pn2 pc2) := fun W hW => (LF8 W hW).b0.cell 2
            have y3 : ∀ W, Below w8.heap.size w8 W → W.cell? ⟨w.heap.size, 3, none⟩ = some (.slice pa3 pn3 pc3) := fun W hW => (LF8 W hW).b0.cell 3
            have P0 : ∀ W, Below w8.heap.size w8 W → W.cell? ⟨bo, j * 2, none⟩ = some (.int .i64 jp) := fun W hW => ((hB4.out.trans (hW.mono hB4.out.size)).cell (p := ⟨bo, j * 2, none⟩) hp0).trans p0
            have P1 : ∀ W, Below w8.heap.size w8 W → W.cell? ⟨bo, j * 2 + 1, none⟩ = some (.slice aj nj cj) := fun W hW => ((hB4.out.trans (hW.mono hB4.out.size)).cell (p := ⟨bo, j * 2 + 1, none⟩) hp0).trans p1
            have P2 : ∀ W, Below w8.heap.size w8 W → SL W aj nj cj jl := fun W hW => p2.below (hB4.out.trans (hW.mono hB4.out.size))
            have X0 : ∀ W, Below w8.heap.size w8 W → W.cell? ⟨bc, offc + j * 2, none⟩ = some (.int .i64 ce) := fun W hW => ((hB4.out.trans (hW.mono hB4.out.size)).cell (p := ⟨bc, offc + j * 2, none⟩) hbc).trans x0
            have X1 : ∀ W, Below w8.heap.size w8 W → W.cell? ⟨bc, offc + j * 2 + 1, none⟩ = some (.int .i64 cv) := fun W hW => ((hB4.out.trans (hW.mono hB4.out.size)).cell (p := ⟨bc, offc + j * 2 + 1, none⟩) hbc).trans x1
            refine wp_drawn_on (fun W => Below w8.heap.size w8 W) (by kernel_rfl) ((Below.refl _ _).drew) (fun hHeld => ?_)
            refine wpAnyH_take (i := 0) (oi := { dst := some 107, op := Go.Op.load 26 (Go.Operand.tmp 3), type := 26, pos := "law.go:94", after := #[], guard := none }) (v := ?v39) rfl (by kernel_rfl) (by kernel_rfl) (by kernel_rfl) (fun _ _ _ h => h) (Or.inl ⟨by kernel_rfl, ?h39⟩) (by assumption) ?r39
            case h39 => (intro w hSw; (try dsimp only at hSw); go_simp; try with_reducible rfl)
            try simp only [Act.put, List.setIfInBounds_toArray, List.set_cons_zero, List.set_cons_succ]
            refine wpAnyH_take (i := 1) (oi := { dst := some 108, op := Go.Op.move (Go.Operand.tmp 7), type := 33, pos := "law.go:94", after := #[], guard := none }) (v := ?v40) rfl (by kernel_rfl) (by kernel_rfl) (by kernel_rfl) (fun _ _ _ h => h) (Or.inl ⟨by kernel_rfl, ?h40⟩) (by assumption) ?r40
            case h40 => (intro w hSw; (try dsimp only at hSw); go_simp; try with_reducible rfl)
            try simp only [Act.put, List.setIfInBounds_toArray, List.set_cons_zero, List.set_cons_succ]
            refine wpAnyH_take (i := 2) (oi := { dst := some 109, op := Go.Op.move (Go.Operand.tmp 10), type := 3, pos := "law.go:94", after := #[], guard := none }) (v := ?v41) rfl (by kernel_rfl) (by kernel_rfl) (by kernel_rfl) (fun _ _ _ h => h) (Or.inl ⟨by kernel_rfl, ?h41⟩) (by assumption) ?r41
            case h41 => (intro w hSw; (try dsimp only at hSw); go_simp; try with_reducible rfl)
            try simp only [Act.put, List.setIfInBounds_toArray, List.set_cons_zero, List.set_cons_succ]
            refine wpAnyH_take (i := 3) (oi := { dst := some 110, op := Go.Op.binOp Go.BinOp.sub 3 (Go.Operand.tmp 109) (Go.Operand.const (Go.Value.int Go.IntKind.i64 1)) 3, type := 3, pos := "law.go:94", after := #[{ on := 2, ground := Go.Ground.data }], guard := none }) (v := ?v42) rfl (by kernel_rfl) (by kernel_rfl) (by kernel_rfl) (fun _ _ _ h => h) (Or.inl ⟨by kernel_rfl, ?h42⟩) (by assumption) ?r42
            case h42 => (intro w hSw; (try dsimp only at hSw); go_simp; try with_reducible rfl)
            try simp only [Act.put, List.setIfInBounds_toArray, List.set_cons_zero, List.set_cons_succ]
            refine wpAnyH_take (i := 4) (oi := { dst := some 111, op := Go.Op.indexAddr 33 (Go.Operand.tmp 108) (Go.Operand.tmp 110), type := 0, pos := "law.go:94", after := #[{ on := 1, ground := Go.Ground.data }, { on := 3, ground := Go.Ground.data }], guard := none }) (v := ?v43) rfl (by kernel_rfl) (by kernel_rfl) (by kernel_rfl) (fun _ _ _ h => h) (Or.inl ⟨by kernel_rfl, ?h43⟩) (by assumption) ?r43
            case h43 => (intro w hSw; (try dsimp only at hSw); go_simp; try with_reducible rfl)
            try simp only [Act.put, List.setIfInBounds_toArray, List.set_cons_zero, List.set_cons_succ]
            refine wpAnyH_take (i := 5) (oi := { dst := some 112, op := Go.Op.load 39 (Go.Operand.tmp 111), type := 39, pos := "law.go:94", after := #[{ on := 4, ground := Go.Ground.data }], guard := none }) (v := ?v44) rfl (by kernel_rfl) (by kernel_rfl) (by kernel_rfl) (fun _ _ _ h => h) (Or.inl ⟨by kernel_rfl, ?h44⟩) (by assumption) ?r44
            case h44 => (intro w hSw; (try dsimp only at hSw); go_simp; try with_reducible rfl)
            try simp only [Act.put, List.setIfInBounds_toArray, List.set_cons_zero, List.set_cons_succ]
            refine wpAnyH_take (i := 6) (oi := { dst := some 113, op := Go.Op.move (Go.Operand.tmp 2), type := 28, pos := "law.go:94", after := #[], guard := none }) (v := ?v45) rfl (by kernel_rfl) (by kernel_rfl) (by kernel_rfl) (fun _ _ _ h => h) (Or.inl ⟨by kernel_rfl, ?h45⟩) (by assumption) ?r45
            case h45 => (intro w hSw; (try dsimp only at hSw); go_simp; try with_reducible rfl)
            try simp only [Act.put, List.setIfInBounds_toArray, List.set_cons_zero, List.set_cons_succ]
            refine wpAnyH_take (i := 7) (oi := { dst := some 114, op := Go.Op.move (Go.Operand.tmp 10), type := 3, pos := "law.go:94", after := #[], guard := none }) (v := ?v46) rfl (by kernel_rfl) (by kernel_rfl) (by kernel_rfl) (fun _ _ _ h => h) (Or.inl ⟨by kernel_rfl, ?h46⟩) (by assumption) ?r46
            case h46 => (intro w hSw; (try dsimp only at hSw); go_simp; try with_reducible rfl)
            try simp only [Act.put, List.setIfInBounds_toArray, List.set_cons_zero, List.set_cons_succ]
            refine wpAnyH_take (i := 8) (oi := { dst := some 115, op := Go.Op.binOp Go.BinOp.sub 3 (Go.Operand.tmp 114) (Go.Operand.const (Go.Value.int Go.IntKind.i64 1)) 3, type := 3, pos := "law.go:94", after := #[{ on := 7, ground := Go.Ground.data }], guard := none }) (v := ?v47) rfl (by kernel_rfl) (by kernel_rfl) (by kernel_rfl) (fun _ _ _ h => h) (Or.inl ⟨by kernel_rfl, ?h47⟩) (by assumption) ?r47
            case h47 => (intro w hSw; (try dsimp only at hSw); go_simp; try with_reducible rfl)
            try simp only [Act.put, List.setIfInBounds_toArray, List.set_cons_zero, List.set_cons_succ]
            refine wpAnyH_take (i := 9) (oi := { dst := some 116, op := Go.Op.indexAddr 28 (Go.Operand.tmp 113) (Go.Operand.tmp 115), type := 0, pos := "law.go:94", after := #[{ on := 6, ground := Go.Ground.data }, { on := 8, ground := Go.Ground.data }], guard := none }) (v := ?v48) rfl (by kernel_rfl) (by kernel_rfl) (by kernel_rfl) (fun _ _ _ h => h) (Or.inl ⟨by kernel_rfl, ?h48⟩) (by assumption) ?r48
            case h48 => (intro w hSw; (try dsimp only at hSw); go_simp; try with_reducible rfl)
            try simp only [Act.put, List.setIfInBounds_toArray, List.set_cons_zero, List.set_cons_succ]
            refine wpAnyH_take (i := 10) (oi := { dst := some 117, op := Go.Op.load 44 (Go.Operand.tmp 116), type := 44, pos := "law.go:94", after := #[{ on := 9, ground := Go.Ground.data }], guard := none }) (v := ?v49) rfl (by kernel_rfl) (by kernel_rfl) (by kernel_rfl) (fun _ _ _ h => h) (Or.inl ⟨by kernel_rfl, ?h49⟩) (by assumption) ?r49
            case h49 => (intro w hSw; (try dsimp only at hSw); go_simp; try with_reducible rfl)
            try simp only [Act.put, List.setIfInBounds_toArray, List.set_cons_zero, List.set_cons_succ]
            refine wpAnyH_ready (rs := [11, 15]) (by kernel_rfl) (by simp) ?_
            refine AllReadyH.cons (o := { dst := some 118, op := Go.Op.call { callee := Go.Callee.value (Go.Operand.func 11), args := #[Go.Operand.tmp 107, Go.Operand.tmp 112, Go.Operand.tmp 117], argTypes := #[26, 39, 44] }, type := 41, pos := "law.go:94", after := #[{ on := 0, ground := Go.Ground.data }, { on := 5, ground := Go.Ground.data }, { on := 10, ground := Go.Ground.data }], guard := none }) rfl (fun K hK => ?_) (AllReadyH.cons (o := { dst := some 13, op := Go.Op.alloc 39, type := 0, pos := "law.go:94", after := #[], guard := none }) rfl (fun K hK => ?_) AllReadyH.nil)
            · go_simp
              with_reducible refine (qs.out _ (LF8 _ hHeld) (P2 _ hHeld)).mono ?_
              rintro e w6 ⟨a5, n5, c5, rfl, s5, b5, f5⟩
              replace s5 : SL w6 a5 n5 c5 pl := s5
              have hx6 : Below w8.heap.size w8 w6 := hHeld.trans (b5.mono hHeld.size)
              go_simp
              refine hK.out _ _ (hx6) (fun hHeld => ?_)
              clear hK K
              try simp only [Act.put, List.setIfInBounds_toArray, List.set_cons_zero, List.set_cons_succ]
              refine wpAnyH_take (i := 12) (oi := { dst := some 106, op := Go.Op.move (Go.Operand.tmp 118), type := 41, pos := "law.go:94", after := #[{ on := 11, ground := Go.Ground.data }], guard := none }) (v := ?v50) rfl (by kernel_rfl) (by kernel_rfl) (by kernel_rfl) (fun _ _ _ h => h) (Or.inl ⟨by kernel_rfl, ?h50⟩) (by assumption) ?r50
              case h50 => (intro w hSw; (try dsimp only at hSw); go_simp; try with_reducible rfl)
              try simp only [Act.put, List.setIfInBounds_toArray, List.set_cons_zero, List.set_cons_succ]
              refine wpAnyH_take (i := 13) (oi := { dst := some 119, op := Go.Op.extract (Go.Operand.tmp 106) 0, type := 39, pos := "law.go:94", after := #[{ on := 12, ground := Go.Ground.data }], guard := none }) (v := ?v51) rfl (by kernel_rfl) (by kernel_rfl) (by kernel_rfl) (fun _ _ _ h => h) (Or.inl ⟨by kernel_rfl, ?h51⟩) (by assumption) ?r51
              case h51 => (intro w hSw; (try dsimp only at hSw); go_simp; try with_reducible rfl)
              try simp only [Act.put, List.setIfInBounds_toArray, List.set_cons_zero, List.set_cons_succ]
              refine wpAnyH_take (i := 14) (oi := { dst := some 120, op := Go.Op.extract (Go.Operand.tmp 106) 1, type := 34, pos := "law.go:94", after := #[{ on := 12, ground := Go.Ground.data }, { on := 16, ground := Go.Ground.gcOnly Go.Departure.lateStores }], guard := none }) (v := ?v52) rfl (by kernel_rfl) (by kernel_rfl) (by kernel_rfl) (fun _ _ _ h => h) (Or.inl ⟨by kernel_rfl, ?h52⟩) (by assumption) ?r52
              case h52 => (intro w hSw; (try dsimp only at hSw); go_simp; try with_reducible rfl)
              try simp only [Act.put, List.setIfInBounds_toArray, List.set_cons_zero, List.set_cons_succ]
              refine wpAnyH_ready (rs := [15]) (by kernel_rfl) (by simp) ?_
              refine AllReadyH.cons (o := { dst := some 13, op := Go.Op.alloc 39, type := 0, pos := "law.go:94", after := #[], guard := none }) rfl (fun K hK => ?_) AllReadyH.nil
              go_simp
              have hx10 := hHeld.alloc hHeld.size (.cells #[.int .i64 0, .slice none 0 0] 39)
              first | have hzA := Holds.new w6 39 #[.int .i64 0, .slice none 0 0] | have hz10 := Holds.new w8 39 #[.int .i64 0, .slice none 0 0]
              refine hK.out _ _ (hx10) (fun hHeld => ?_)
              clear hK K
              try simp only [Act.put, List.setIfInBounds_toArray, List.set_cons_zero, List.set_cons_succ]
              refine wpAnyH_ready (rs := [16]) (by kernel_rfl) (by simp) ?_
              refine AllReadyH.cons (o := { dst := none, op := Go.Op.store 39 (Go.Operand.tmp 13) (Go.Operand.tmp 119), type := 0, pos := "law.go:94", after := #[{ on := 15, ground := Go.Ground.data }, { on := 13, ground := Go.Ground.data }, { on := 11, ground := Go.Ground.chain }, { on := 0, ground := Go.Ground.phase }, { on := 1, ground := Go.Ground.phase }, { on := 2, ground := Go.Ground.phase }, { on := 3, ground := Go.Ground.phase }, { on := 4, ground := Go.Ground.phase }, { on := 5, ground := Go.Ground.phase }, { on := 6, ground := Go.Ground.phase }, { on := 7, ground := Go.Ground.phase }, { on := 8, ground := Go.Ground.phase }, { on := 9, ground := Go.Ground.phase }, { on := 10, ground := Go.Ground.phase }, { on := 11, ground := Go.Ground.phase }, { on := 12, ground := Go.Ground.phase }, { on := 13, ground := Go.Ground.phase }, { on := 14, ground := Go.Ground.textOnly Go.Departure.lateStores }, { on := 15, ground := Go.Ground.phase }], guard := none }) rfl (fun K hK => ?_) AllReadyH.nil
              first | (have hzB := Holds.below (g := w8.heap.size) hz10.drew b5 hz10.lt; have q0 := hzB.cell 0; have q1 := hzB.cell 1; have r0 := hzB.free 0; have r1 := hzB.free 1; simp at q0 q1; go_simp; have hzF := state_set hzB (.int .i64 pp) (.slice a5 n5 c5); have hsF := far_set s5 (g := w8.heap.size) (.inr fun p hp => by have q := f5 p hp; have q2 := hz10.lt; simp at q q2; omega) (.int .i64 pp) (.slice a5 n5 c5); have hx11 := belT hx6 (Nat.le_refl _) (.int .i64 pp) (.slice a5 n5 c5); generalize (w6.setCell ⟨w8.heap.size, 0, none⟩ (.int .i64 pp)).setCell ⟨w8.heap.size, 1, none⟩ (.slice a5 n5 c5) = w11 at hzF hsF hx11 ⊢; clear q0 q1 r0 r1 hzB hz10) | (go_simp; have hzF := Holds.new w6 39 #[.int .i64 pp, .slice a5 n5 c5]; have hsF := s5.below (box_below w6 #[.int .i64 pp, .slice a5 n5 c5] 39); have hx11 := hx6.alloc hx6.size (.cells #[.int .i64 pp, .slice a5 n5 c5] 39); generalize w6.alloc (.cells #[.int .i64 pp, .slice a5 n5 c5] 39) = w11 at hzF hsF hx11 ⊢; clear hzA)
              refine hK.out _ _ (hx11) (fun hHeld => ?_)
              clear hK K
              try simp only [Act.put, List.setIfInBounds_toArray, List.set_cons_zero, List.set_cons_succ]
              refine wpAnyH_take (i := 17) (oi := { dst := some 14, op := Go.Op.assign (Go.Operand.tmp 120), type := 34, pos := "law.go:94", after := #[{ on := 14, ground := Go.Ground.data }, { on := 16, ground := Go.Ground.chain }, { on := 0, ground := Go.Ground.phase }, { on := 1, ground := Go.Ground.phase }, { on := 2, ground := Go.Ground.phase }, { on := 3, ground := Go.Ground.phase }, { on := 4, ground := Go.Ground.phase }, { on := 5, ground := Go.Ground.phase }, { on := 6, ground := Go.Ground.phase }, { on := 7, ground := Go.Ground.phase }, { on := 8, ground := Go.Ground.phase }, { on := 9, ground := Go.Ground.phase }, { on := 10, ground := Go.Ground.phase }, { on := 11, ground := Go.Ground.phase }, { on := 12, ground := Go.Ground.phase }, { on := 13, ground := Go.Ground.phase }, { on := 14, ground := Go.Ground.phase }, { on := 15, ground := Go.Ground.phase }, { on := 16, ground := Go.Ground.phase }], guard := none }) (v := ?v53) rfl (by kernel_rfl) (by kernel_rfl) (by kernel_rfl) (fun _ _ _ h => h) (Or.inl ⟨by kernel_rfl, ?h53⟩) (by assumption) ?r53
              case h53 => (intro w hSw; (try dsimp only at hSw); go_simp; try with_reducible rfl)
              try simp only [Act.put, List.setIfInBounds_toArray, List.set_cons_zero, List.set_cons_succ]
              refine wpAnyH_done (by kernel_rfl) ?_ _
              have hB5 := Lib.hid (hB4.out.trans (hx11.mono hB4.out.size))
              have H0 : ∀ W, Below w11.heap.size w11 W → W.cell? ⟨bo, i * 2, none⟩ = some (.int .i64 pp) := fun W hW => G0 W (hB5.out.trans (hW.mono hB5.out.size))
              have H1 : ∀ W, Below w11.heap.size w11 W → W.cell? ⟨bo, i * 2 + 1, none⟩ = some (.slice ao no co) := fun W hW => G1 W (hB5.out.trans (hW.mono hB5.out.size))
              have H2 : ∀ W, Below w11.heap.size w11 W → SL W ao no co pl := fun W hW => G2 W (hB5.out.trans (hW.mono hB5.out.size))
              have E0 := fun W hW => (hzF.below (w' := W) (B := w11.heap.size) hW hzF.lt).cell 0
              have E1 := fun W hW => (hzF.below (w' := W) (B := w11.heap.size) hW hzF.lt).cell 1
              have E2 : ∀ W, Below w11.heap.size w11 W → SL W a5 n5 c5 pl := fun W hW => hsF.below hW
              simp only [List.getElem?_toArray, List.getElem?_cons_zero, List.getElem?_cons_succ] at E0 E1
              clear hj0 wj G0 G1 G2 y0 y1 y2 y3 P0 P1 P2 X0 X1 LF8 hHeld s5 b5 f5 hx6 hx10 z0 z1 z2 z3 O0 O1 O2
              go_wp2
              refine wp_drawn_on (fun W => Below w11.heap.size w11 W) (by kernel_rfl) ((Below.refl _ _).drew) (fun hHeld => ?_)
              refine wpAnyH_take (i := 0) (oi := { dst := some 121, op := Go.Op.move (Go.Operand.tmp 14), type := 34, pos := "law.go:95", after := #[], guard := none }) (v := ?v58) rfl (by kernel_rfl) (by kernel_rfl) (by kernel_rfl) (fun _ _ _ h => h) (Or.inl ⟨by kernel_rfl, ?h58⟩) (by assumption) ?r58
              case h58 => (intro w hSw; (try dsimp only at hSw); go_simp; try with_reducible rfl)
              try simp only [Act.put, List.setIfInBounds_toArray, List.set_cons_zero, List.set_cons_succ]
              refine wpAnyH_take (i := 1) (oi := { dst := some 122, op := Go.Op.binOp Go.BinOp.neq 34 (Go.Operand.tmp 121) (Go.Operand.const (Go.Value.int Go.IntKind.i64 0)) 34, type := 4, pos := "law.go:95", after := #[{ on := 0, ground := Go.Ground.data }], guard := none }) (v := ?v59) rfl (by kernel_rfl) (by kernel_rfl) (by kernel_rfl) (fun _ _ _ h => h) (Or.inl ⟨by kernel_rfl, ?h59⟩) (by assumption) ?r59
              case h59 => (intro w hSw; (try dsimp only at hSw); go_simp; try with_reducible rfl)
              try simp only [Act.put, List.setIfInBounds_toArray, List.set_cons_zero, List.set_cons_succ]
              refine wpAnyH_take (i := 2) (oi := { dst := some 123, op := Go.Op.move (Go.Operand.tmp 122), type := 4, pos := "law.go:95", after := #[{ on := 1, ground := Go.Ground.data }], guard := none }) (v := ?v60) rfl (by kernel_rfl) (by kernel_rfl) (by kernel_rfl) (fun _ _ _ h => h) (Or.inl ⟨by kernel_rfl, ?h60⟩) (by assumption) ?r60
              case h60 => (intro w hSw; (try dsimp only at hSw); go_simp; try with_reducible rfl)
              try simp only [Act.put, List.setIfInBounds_toArray, List.set_cons_zero, List.set_cons_succ]
              refine wpAnyH_take (i := 3) (oi := { dst := some 124, op := Go.Op.load 39 (Go.Operand.tmp 13), type := 39, pos := "law.go:95", after := #[{ on := 2, ground := Go.Ground.guard }], guard := some (2, false) }) (v := ?v61) rfl (by kernel_rfl) (by kernel_rfl) (by kernel_rfl) (fun _ _ _ h => h) (Or.inl ⟨by kernel_rfl, ?h61⟩) (by assumption) ?r61
              case h61 => (intro w hSw; (try dsimp only at hSw); go_simp; try with_reducible rfl)
              try simp only [Act.put, List.setIfInBounds_toArray, List.set_cons_zero, List.set_cons_succ]
              refine wpAnyH_take (i := 4) (oi := { dst := some 125, op := Go.Op.move (Go.Operand.tmp 7), type := 33, pos := "law.go:95", after := #[{ on := 2, ground := Go.Ground.guard }], guard := some (2, false) }) (v := ?v62) rfl (by kernel_rfl) (by kernel_rfl) (by kernel_rfl) (fun _ _ _ h => h) (Or.inl ⟨by kernel_rfl, ?h62⟩) (by assumption) ?r62
              case h62 => (intro w hSw; (try dsimp only at hSw); go_simp; try with_reducible rfl)
              try simp only [Act.put, List.setIfInBounds_toArray, List.set_cons_zero, List.set_cons_succ]
              refine wpAnyH_take (i := 5) (oi := { dst := some 126, op := Go.Op.move (Go.Operand.tmp 10), type := 3, pos := "law.go:95", after := #[{ on := 2, ground := Go.Ground.guard }], guard := some (2, false) }) (v := ?v63) rfl (by kernel_rfl) (by kernel_rfl) (by kernel_rfl) (fun _ _ _ h => h) (Or.inl ⟨by kernel_rfl, ?h63⟩) (by assumption) ?r63
              case h63 => (intro w hSw; (try dsimp only at hSw); go_simp; try with_reducible rfl)
              try simp only [Act.put, List.setIfInBounds_toArray, List.set_cons_zero, List.set_cons_succ]
              refine wpAnyH_take (i := 6) (oi := { dst := some 127, op := Go.Op.indexAddr 33 (Go.Operand.tmp 125) (Go.Operand.tmp 126), type := 0, pos := "law.go:95", after := #[{ on := 4, ground := Go.Ground.data }, { on := 5, ground := Go.Ground.data }, { on := 2, ground := Go.Ground.guard }], guard := some (2, false) }) (v := ?v64) rfl (by kernel_rfl) (by kernel_rfl) (by kernel_rfl) (fun _ _ _ h => h) (Or.inl ⟨by kernel_rfl, ?h64⟩) (by assumption) ?r64
              case h64 => (intro w hSw; (try dsimp only at hSw); go_simp; try with_reducible rfl)
              try simp only [Act.put, List.setIfInBounds_toArray, List.set_cons_zero, List.set_cons_succ]
              refine wpAnyH_take (i := 7) (oi := { dst := some 128, op := Go.Op.load 39 (Go.Operand.tmp 127), type := 39, pos := "law.go:95", after := #[{ on := 6, ground := Go.Ground.data }, { on := 2, ground := Go.Ground.guard }], guard := some (2, false) }) (v := ?v65) rfl (by kernel_rfl) (by kernel_rfl) (by kernel_rfl) (fun _ _ _ h => h) (Or.inl ⟨by kernel_rfl, ?h65⟩) (by assumption) ?r65
              case h65 => (intro w hSw; (try dsimp only at hSw); go_simp; try with_reducible rfl)
              try simp only [Act.put, List.setIfInBounds_toArray, List.set_cons_zero, List.set_cons_succ]
              refine wpAnyH_ready (rs := [8]) (by kernel_rfl) (by simp) ?_
              refine AllReadyH.cons (o := { dst := some 129, op := Go.Op.call { callee := Go.Callee.value (Go.Operand.func 12), args := #[Go.Operand.tmp 124, Go.Operand.tmp 128], argTypes := #[39, 39] }, type := 4, pos := "law.go:95", after := #[{ on := 3, ground := Go.Ground.data }, { on := 7, ground := Go.Ground.data }, { on := 2, ground := Go.Ground.chain }, { on := 2, ground := Go.Ground.guard }], guard := some (2, false) }) rfl (fun K hK => ?_) AllReadyH.nil
              go_simp
              with_reducible refine (qe.out _ _ _ _ (E2 _ hHeld) (H2 _ hHeld)).mono ?_
              rintro e w12 ⟨rfl, b12⟩
              have hx12 : Below w11.heap.size w11 w12 := hHeld.trans (b12.mono hHeld.size)
              go_simp
              refine hK.out _ _ (hx12) (fun hHeld => ?_)
              clear hK K
              try simp only [Act.put, List.setIfInBounds_toArray, List.set_cons_zero, List.set_cons_succ]
              refine wpAnyH_take (i := 9) (oi := { dst := some 130, op := Go.Op.unOp Go.UnOp.not 4 (Go.Operand.tmp 129), type := 4, pos := "law.go:95", after := #[{ on := 8, ground := Go.Ground.data }, { on := 2, ground := Go.Ground.guard }], guard := some (2, false) }) (v := ?v66) rfl (by kernel_rfl) (by kernel_rfl) (by kernel_rfl) (fun _ _ _ h => h) (Or.inl ⟨by kernel_rfl, ?h66⟩) (by assumption) ?r66
              case h66 => (intro w hSw; (try dsimp only at hSw); go_simp; try with_reducible rfl)
              try simp only [Act.put, List.setIfInBounds_toArray, List.set_cons_zero, List.set_cons_succ]
              refine wpAnyH_take (i := 10) (oi := { dst := some 131, op := Go.Op.pick (Go.Operand.tmp 123) (Go.Operand.const (Go.Value.bool true)) (Go.Operand.tmp 130), type := 4, pos := "law.go:95", after := #[{ on := 2, ground := Go.Ground.data }, { on := 9, ground := Go.Ground.data }], guard := none }) (v := ?v67) rfl (by kernel_rfl) (by kernel_rfl) (by kernel_rfl) (fun _ _ _ h => h) (Or.inl ⟨by kernel_rfl, ?h67⟩) (by assumption) ?r67
              case h67 => (intro w hSw; (try dsimp only at hSw); go_simp; try with_reducible rfl)
              try simp only [Act.put, List.setIfInBounds_toArray, List.set_cons_zero, List.set_cons_succ]
              refine wpAnyH_done (by kernel_rfl) ?_ _
              go_wp2
              go_roundw
              case rel => exact ⟨i + 1, by omega, by go_num, Lib.hid (hB3.out.trans ((hB5.out.trans (hHeld.mono hB5.out.size)).mono hB3.out.size))⟩
              case measure => simp [intOf]; omega
            · go_simp
              have hx10 := hHeld.alloc hHeld.size (.cells #[.int .i64 0, .slice none 0 0] 39)
              first | have hzA := Holds.new w6 39 #[.int .i64 0, .slice none 0 0] | have hz10 := Holds.new w8 39 #[.int .i64 0, .slice none 0 0]
              refine hK.out _ _ (hx10) (fun hHeld => ?_)
              clear hK K
              try simp only [Act.put, List.setIfInBounds_toArray, List.set_cons_zero, List.set_cons_succ]
              refine wpAnyH_ready (rs := [11]) (by kernel_rfl) (by simp) ?_
              refine AllReadyH.cons (o := { dst := some 118, op := Go.Op.call { callee := Go.Callee.value (Go.Operand.func 11), args := #[Go.Operand.tmp 107, Go.Operand.tmp 112, Go.Operand.tmp 117], argTypes := #[26, 39, 44] }, type := 41, pos := "law.go:94", after := #[{ on := 0, ground := Go.Ground.data }, { on := 5, ground := Go.Ground.data }, { on := 10, ground := Go.Ground.data }], guard := none }) rfl (fun K hK => ?_) AllReadyH.nil
              go_simp
              with_reducible refine (qs.out _ (LF8 _ hHeld) (P2 _ hHeld)).mono ?_
              rintro e w6 ⟨a5, n5, c5, rfl, s5, b5, f5⟩
              replace s5 : SL w6 a5 n5 c5 pl := s5
              have hx6 : Below w8.heap.size w8 w6 := hHeld.trans (b5.mono hHeld.size)
              go_simp
              refine hK.out _ _ (hx6) (fun hHeld => ?_)
              clear hK K
              try simp only [Act.put, List.setIfInBounds_toArray, List.set_cons_zero, List.set_cons_succ]
              refine wpAnyH_take (i := 12) (oi := { dst := some 106, op := Go.Op.move (Go.Operand.tmp 118), type := 41, pos := "law.go:94", after := #[{ on := 11, ground := Go.Ground.data }], guard := none }) (v := ?v54) rfl (by kernel_rfl) (by kernel_rfl) (by kernel_rfl) (fun _ _ _ h => h) (Or.inl ⟨by kernel_rfl, ?h54⟩) (by assumption) ?r54
              case h54 => (intro w hSw; (try dsimp only at hSw); go_simp; try with_reducible rfl)
              try simp only [Act.put, List.setIfInBounds_toArray, List.set_cons_zero, List.set_cons_succ]
              refine wpAnyH_take (i := 13) (oi := { dst := some 119, op := Go.Op.extract (Go.Operand.tmp 106) 0, type := 39, pos := "law.go:94", after := #[{ on := 12, ground := Go.Ground.data }], guard := none }) (v := ?v55) rfl (by kernel_rfl) (by kernel_rfl) (by kernel_rfl) (fun _ _ _ h => h) (Or.inl ⟨by kernel_rfl, ?h55⟩) (by assumption) ?r55
              case h55 => (intro w hSw; (try dsimp only at hSw); go_simp; try with_reducible rfl)
              try simp only [Act.put, List.setIfInBounds_toArray, List.set_cons_zero, List.set_cons_succ]
              refine wpAnyH_take (i := 14) (oi := { dst := some 120, op := Go.Op.extract (Go.Operand.tmp 106) 1, type := 34, pos := "law.go:94", after := #[{ on := 12, ground := Go.Ground.data }, { on := 16, ground := Go.Ground.gcOnly Go.Departure.lateStores }], guard := none }) (v := ?v56) rfl (by kernel_rfl) (by kernel_rfl) (by kernel_rfl) (fun _ _ _ h => h) (Or.inl ⟨by kernel_rfl, ?h56⟩) (by assumption) ?r56
              case h56 => (intro w hSw; (try dsimp only at hSw); go_simp; try with_reducible rfl)
              try simp only [Act.put, List.setIfInBounds_toArray, List.set_cons_zero, List.set_cons_succ]
              refine wpAnyH_ready (rs := [16]) (by kernel_rfl) (by simp) ?_
              refine AllReadyH.cons (o := { dst := none, op := Go.Op.store 39 (Go.Operand.tmp 13) (Go.Operand.tmp 119), type := 0, pos := "law.go:94", after := #[{ on := 15, ground := Go.Ground.data }, { on := 13, ground := Go.Ground.data }, { on := 11, ground := Go.Ground.chain }, { on := 0, ground := Go.Ground.phase }, { on := 1, ground := Go.Ground.phase }, { on := 2, ground := Go.Ground.phase }, { on := 3, ground := Go.Ground.phase }, { on := 4, ground := Go.Ground.phase }, { on := 5, ground := Go.Ground.phase }, { on := 6, ground := Go.Ground.phase }, { on := 7, ground := Go.Ground.phase }, { on := 8, ground := Go.Ground.phase }, { on := 9, ground := Go.Ground.phase }, { on := 10, ground := Go.Ground.phase }, { on := 11, ground := Go.Ground.phase }, { on := 12, ground := Go.Ground.phase }, { on := 13, ground := Go.Ground.phase }, { on := 14, ground := Go.Ground.textOnly Go.Departure.lateStores }, { on := 15, ground := Go.Ground.phase }], guard := none }) rfl (fun K hK => ?_) AllReadyH.nil
              first | (have hzB := Holds.below (g := w8.heap.size) hz10.drew b5 hz10.lt; have q0 := hzB.cell 0; have q1 := hzB.cell 1; have r0 := hzB.free 0; have r1 := hzB.free 1; simp at q0 q1; go_simp; have hzF := state_set hzB (.int .i64 pp) (.slice a5 n5 c5); have hsF := far_set s5 (g := w8.heap.size) (.inr fun p hp => by have q := f5 p hp; have q2 := hz10.lt; simp at q q2; omega) (.int .i64 pp) (.slice a5 n5 c5); have hx11 := belT hx6 (Nat.le_refl _) (.int .i64 pp) (.slice a5 n5 c5); generalize (w6.setCell ⟨w8.heap.size, 0, none⟩ (.int .i64 pp)).setCell ⟨w8.heap.size, 1, none⟩ (.slice a5 n5 c5) = w11 at hzF hsF hx11 ⊢; clear q0 q1 r0 r1 hzB hz10) | (go_simp; have hzF := Holds.new w6 39 #[.int .i64 pp, .slice a5 n5 c5]; have hsF := s5.below (box_below w6 #[.int .i64 pp, .slice a5 n5 c5] 39); have hx11 := hx6.alloc hx6.size (.cells #[.int .i64 pp, .slice a5 n5 c5] 39); generalize w6.alloc (.cells #[.int .i64 pp, .slice a5 n5 c5] 39) = w11 at hzF hsF hx11 ⊢; clear hzA)
              refine hK.out _ _ (hx11) (fun hHeld => ?_)
              clear hK K
              try simp only [Act.put, List.setIfInBounds_toArray, List.set_cons_zero, List.set_cons_succ]
              refine wpAnyH_take (i := 17) (oi := { dst := some 14, op := Go.Op.assign (Go.Operand.tmp 120), type := 34, pos := "law.go:94", after := #[{ on := 14, ground := Go.Ground.data }, { on := 16, ground := Go.Ground.chain }, { on := 0, ground := Go.Ground.phase }, { on := 1, ground := Go.Ground.phase }, { on := 2, ground := Go.Ground.phase }, { on := 3, ground := Go.Ground.phase }, { on := 4, ground := Go.Ground.phase }, { on := 5, ground := Go.Ground.phase }, { on := 6, ground := Go.Ground.phase }, { on := 7, ground := Go.Ground.phase }, { on := 8, ground := Go.Ground.phase }, { on := 9, ground := Go.Ground.phase }, { on := 10, ground := Go.Ground.phase }, { on := 11, ground := Go.Ground.phase }, { on := 12, ground := Go.Ground.phase }, { on := 13, ground := Go.Ground.phase }, { on := 14, ground := Go.Ground.phase }, { on := 15, ground := Go.Ground.phase }, { on := 16, ground := Go.Ground.phase }], guard := none }) (v := ?v57) rfl (by kernel_rfl) (by kernel_rfl) (by kernel_rfl) (fun _ _ _ h => h) (Or.inl ⟨by kernel_rfl, ?h57⟩) (by assumption) ?r57
              case h57 => (intro w hSw; (try dsimp only at hSw); go_simp; try with_reducible rfl)
              try simp only [Act.put, List.setIfInBounds_toArray, List.set_cons_zero, List.set_cons_succ]
              refine wpAnyH_done (by kernel_rfl) ?_ _
              have hB5 := Lib.hid (hB4.out.trans (hx11.mono hB4.out.size))
              have H0 : ∀ W, Below w11.heap.size w11 W → W.cell? ⟨bo, i * 2, none⟩ = some (.int .i64 pp) := fun W hW => G0 W (hB5.out.trans (hW.mono hB5.out.size))
              have H1 : ∀ W, Below w11.heap.size w11 W → W.cell? ⟨bo, i * 2 + 1, none⟩ = some (.slice ao no co) := fun W hW => G1 W (hB5.out.trans (hW.mono hB5.out.size))
              have H2 : ∀ W, Below w11.heap.size w11 W → SL W ao no co pl := fun W hW => G2 W (hB5.out.trans (hW.mono hB5.out.size))
              have E0 := fun W hW => (hzF.below (w' := W) (B := w11.heap.size) hW hzF.lt).cell 0
              have E1 := fun W hW => (hzF.below (w' := W) (B := w11.heap.size) hW hzF.lt).cell 1
              have E2 : ∀ W, Below w11.heap.size w11 W → SL W a5 n5 c5 pl := fun W hW => hsF.below hW
              simp only [List.getElem?_toArray, List.getElem?_cons_zero, List.getElem?_cons_succ] at E0 E1
              clear hj0 wj G0 G1 G2 y0 y1 y2 y3 P0 P1 P2 X0 X1 LF8 hHeld s5 b5 f5 hx6 hx10 z0 z1 z2 z3 O0 O1 O2
              go_wp2
              refine wp_drawn_on (fun W => Below w11.heap.size w11 W) (by kernel_rfl) ((Below.refl _ _).drew) (fun hHeld => ?_)
              refine wpAnyH_take (i := 0) (oi := { dst := some 121, op := Go.Op.move (Go.Operand.tmp 14), type := 34, pos := "law.go:95", after := #[], guard := none }) (v := ?v68) rfl (by kernel_rfl) (by kernel_rfl) (by kernel_rfl) (fun _ _ _ h => h) (Or.inl ⟨by kernel_rfl, ?h68⟩) (by assumption) ?r68
              case h68 => (intro w hSw; (try dsimp only at hSw); go_simp; try with_reducible rfl)
              try simp only [Act.put, List.setIfInBounds_toArray, List.set_cons_zero, List.set_cons_succ]
              refine wpAnyH_take (i := 1) (oi := { dst := some 122, op := Go.Op.binOp Go.BinOp.neq 34 (Go.Operand.tmp 121) (Go.Operand.const (Go.Value.int Go.IntKind.i64 0)) 34, type := 4, pos := "law.go:95", after := #[{ on := 0, ground := Go.Ground.data }], guard := none }) (v := ?v69) rfl (by kernel_rfl) (by kernel_rfl) (by kernel_rfl) (fun _ _ _ h => h) (Or.inl ⟨by kernel_rfl, ?h69⟩) (by assumption) ?r69
              case h69 => (intro w hSw; (try dsimp only at hSw); go_simp; try with_reducible rfl)
              try simp only [Act.put, List.setIfInBounds_toArray, List.set_cons_zero, List.set_cons_succ]
              refine wpAnyH_take (i := 2) (oi := { dst := some 123, op := Go.Op.move (Go.Operand.tmp 122), type := 4, pos := "law.go:95", after := #[{ on := 1, ground := Go.Ground.data }], guard := none }) (v := ?v70) rfl (by kernel_rfl) (by kernel_rfl) (by kernel_rfl) (fun _ _ _ h => h) (Or.inl ⟨by kernel_rfl, ?h70⟩) (by assumption) ?r70
              case h70 => (intro w hSw; (try dsimp only at hSw); go_simp; try with_reducible rfl)
              try simp only [Act.put, List.setIfInBounds_toArray, List.set_cons_zero, List.set_cons_succ]
              refine wpAnyH_take (i := 3) (oi := { dst := some 124, op := Go.Op.load 39 (Go.Operand.tmp 13), type := 39, pos := "law.go:95", after := #[{ on := 2, ground := Go.Ground.guard }], guard := some (2, false) }) (v := ?v71) rfl (by kernel_rfl) (by kernel_rfl) (by kernel_rfl) (fun _ _ _ h => h) (Or.inl ⟨by kernel_rfl, ?h71⟩) (by assumption) ?r71
              case h71 => (intro w hSw; (try dsimp only at hSw); go_simp; try with_reducible rfl)
              try simp only [Act.put, List.setIfInBounds_toArray, List.set_cons_zero, List.set_cons_succ]
              refine wpAnyH_take (i := 4) (oi := { dst := some 125, op := Go.Op.move (Go.Operand.tmp 7), type := 33, pos := "law.go:95", after := #[{ on := 2, ground := Go.Ground.guard }], guard := some (2, false) }) (v := ?v72) rfl (by kernel_rfl) (by kernel_rfl) (by kernel_rfl) (fun _ _ _ h => h) (Or.inl ⟨by kernel_rfl, ?h72⟩) (by assumption) ?r72
              case h72 => (intro w hSw; (try dsimp only at hSw); go_simp; try with_reducible rfl)
              try simp only [Act.put, List.setIfInBounds_toArray, List.set_cons_zero, List.set_cons_succ]
              refine wpAnyH_take (i := 5) (oi := { dst := some 126, op := Go.Op.move (Go.Operand.tmp 10), type := 3, pos := "law.go:95", after := #[{ on := 2, ground := Go.Ground.guard }], guard := some (2, false) }) (v := ?v73) rfl (by kernel_rfl) (by kernel_rfl) (by kernel_rfl) (fun _ _ _ h => h) (Or.inl ⟨by kernel_rfl, ?h73⟩) (by assumption) ?r73
              case h73 => (intro w hSw; (try dsimp only at hSw); go_simp; try with_reducible rfl)
              try simp only [Act.put, List.setIfInBounds_toArray, List.set_cons_zero, List.set_cons_succ]
              refine wpAnyH_take (i := 6) (oi := { dst := some 127, op := Go.Op.indexAddr 33 (Go.Operand.tmp 125) (Go.Operand.tmp 126), type := 0, pos := "law.go:95", after := #[{ on := 4, ground := Go.Ground.data }, { on := 5, ground := Go.Ground.data }, { on := 2, ground := Go.Ground.guard }], guard := some (2, false) }) (v := ?v74) rfl (by kernel_rfl) (by kernel_rfl) (by kernel_rfl) (fun _ _ _ h => h) (Or.inl ⟨by kernel_rfl, ?h74⟩) (by assumption) ?r74
              case h74 => (intro w hSw; (try dsimp only at hSw); go_simp; try with_reducible rfl)
              try simp only [Act.put, List.setIfInBounds_toArray, List.set_cons_zero, List.set_cons_succ]
              refine wpAnyH_take (i := 7) (oi := { dst := some 128, op := Go.Op.load 39 (Go.Operand.tmp 127), type := 39, pos := "law.go:95", after := #[{ on := 6, ground := Go.Ground.data }, { on := 2, ground := Go.Ground.guard }], guard := some (2, false) }) (v := ?v75) rfl (by kernel_rfl) (by kernel_rfl) (by kernel_rfl) (fun _ _ _ h => h) (Or.inl ⟨by kernel_rfl, ?h75⟩) (by assumption) ?r75
              case h75 => (intro w hSw; (try dsimp only at hSw); go_simp; try with_reducible rfl)
              try simp only [Act.put, List.setIfInBounds_toArray, List.set_cons_zero, List.set_cons_succ]
              refine wpAnyH_ready (rs := [8]) (by kernel_rfl) (by simp) ?_
              refine AllReadyH.cons (o := { dst := some 129, op := Go.Op.call { callee := Go.Callee.value (Go.Operand.func 12), args := #[Go.Operand.tmp 124, Go.Operand.tmp 128], argTypes := #[39, 39] }, type := 4, pos := "law.go:95", after := #[{ on := 3, ground := Go.Ground.data }, { on := 7, ground := Go.Ground.data }, { on := 2, ground := Go.Ground.chain }, { on := 2, ground := Go.Ground.guard }], guard := some (2, false) }) rfl (fun K hK => ?_) AllReadyH.nil
              go_simp
              with_reducible refine (qe.out _ _ _ _ (E2 _ hHeld) (H2 _ hHeld)).mono ?_
              rintro e w12 ⟨rfl, b12⟩
              have hx12 : Below w11.heap.size w11 w12 := hHeld.trans (b12.mono hHeld.size)
              go_simp
              refine hK.out _ _ (hx12) (fun hHeld => ?_)
              clear hK K
              try simp only [Act.put, List.setIfInBounds_toArray, List.set_cons_zero, List.set_cons_succ]
              refine wpAnyH_take (i := 9) (oi := { dst := some 130, op := Go.Op.unOp Go.UnOp.not 4 (Go.Operand.tmp 129), type := 4, pos := "law.go:95", after := #[{ on := 8, ground := Go.Ground.data }, { on := 2, ground := Go.Ground.guard }], guard := some (2, false) }) (v := ?v76) rfl (by kernel_rfl) (by kernel_rfl) (by kernel_rfl) (fun _ _ _ h => h) (Or.inl ⟨by kernel_rfl, ?h76⟩) (by assumption) ?r76
              case h76 => (intro w hSw; (try dsimp only at hSw); go_simp; try with_reducible rfl)
              try simp only [Act.put, List.setIfInBounds_toArray, List.set_cons_zero, List.set_cons_succ]
              refine wpAnyH_take (i := 10) (oi := { dst := some 131, op := Go.Op.pick (Go.Operand.tmp 123) (Go.Operand.const (Go.Value.bool true)) (Go.Operand.tmp 130), type := 4, pos := "law.go:95", after := #[{ on := 2, ground := Go.Ground.data }, { on := 9, ground := Go.Ground.data }], guard := none }) (v := ?v77) rfl (by kernel_rfl) (by kernel_rfl) (by kernel_rfl) (fun _ _ _ h => h) (Or.inl ⟨by kernel_rfl, ?h77⟩) (by assumption) ?r77
              case h77 => (intro w hSw; (try dsimp only at hSw); go_simp; try with_reducible rfl)
              try simp only [Act.put, List.setIfInBounds_toArray, List.set_cons_zero, List.set_cons_succ]
              refine wpAnyH_done (by kernel_rfl) ?_ _
              go_wp2
              go_roundw
              case rel => exact ⟨i + 1, by omega, by go_num, Lib.hid (hB3.out.trans ((hB5.out.trans (hHeld.mono hB5.out.size)).mono hB3.out.size))⟩
              case measure => simp [intOf]; omega
    · have hii : ¬ (i : Int) < (LL.length : Int) := by omega
      go_wp2
      go_ret
      exact ⟨rfl, L.out.bel.trans (hB.out.mono L.out.bel.size)⟩
theorem runComes_walk (w : World)
    (pnm : ByteArray) (pq : pnm.size ≤ 140737488351232) (pa1 : Option Addr) (pn1 pc1 : Nat) (x1 : TSl w pa1 pn1 pc1) (pa2 : Option Addr) (pn2 pc2 : Nat) (x2 : SpotsSl w pa2 pn2 pc2) (pa3 : Option Addr) (pn3 pc3 : Nat) (x3 : EdgesSl w pa3 pn3 pc3)
    (a1 : Option Addr) (n1 c1 : Nat) (l1 : List Int) (hl1 : l1.length = n1) (hm1 : n1 ≤ maxLen) (hc1 : n1 ≤ c1) (hw1 : ∀ n ∈ l1, (Lit.int .i64 n).wf = true) (hs1 : Sees .i64 w.heap.size w a1 l1)
    (ca : Option Addr) (cn cc : Nat) (x4 : ChSl w ca cn cc) :
    Calls Tryz.prog 3 #[.agg #[.string pnm, .slice pa1 pn1 pc1, .slice pa2 pn2 pc2, .slice pa3 pn3 pc3], .slice a1 n1 c1, .slice ca cn cc] w (Gives (.bool true) w) := by
  obtain ⟨pl, pt, ps, pm⟩ := x1
  obtain ⟨pS, pr2, pw2, pm2⟩ := x2
  obtain ⟨pE, pr3, pw3, pm3⟩ := x3
  obtain ⟨ch, hch⟩ := x4
  have h : PrA w ⟨pnm, pa1, pn1, pc1, pa2, pn2, pc2, pa3, pn3, pc3⟩ ⟨pnm, pl, pS, pE⟩ := ⟨rfl, pt, pr2, pr3⟩
  have hA : PW ⟨pnm, pl, pS, pE⟩ := by constructor <;> first | assumption | (have := pr2.len; have := pr3.len; have := pt.len; simp_all; omega)
  have h1 : SL w a1 n1 c1 l1 := ⟨hl1.symm, hc1, by unfold maxLen at hm1; omega, hs1⟩
  clear pt ps pm pr2 pw2 pm2 pr3 pw3 pm3 hl1 hm1 hc1 hw1 hs1
  generalize (⟨pnm, pl, pS, pE⟩ : PD) = A at h hA
  by_cases hg : bigR A n1 cn = true
  · exact rcomes_big pnm pa1 pn1 pc1 pa2 pn2 pc2 pa3 pn3 pc3 A hA a1 n1 c1 l1 ca cn cc ch w h h1 hch hg
  · replace hg : bigR A n1 cn = false := by simpa using hg
    by_cases hp : progB A = true
    · by_cases hv : valsB l1 A.vars.length = true
      · exact rcomes_go pnm pa1 pn1 pc1 pa2 pn2 pc2 pa3 pn3 pc3 A hA a1 n1 c1 l1 ca cn cc ch w h h1 hch hg hp hv
      · exact rcomes_bad pnm pa1 pn1 pc1 pa2 pn2 pc2 pa3 pn3 pc3 A hA a1 n1 c1 l1 ca cn cc ch w h h1 hch hg hp (by simpa using hv)
    · exact rcomes_no pnm pa1 pn1 pc1 pa2 pn2 pc2 pa3 pn3 pc3 A hA a1 n1 c1 l1 ca cn cc ch w h h1 hch hg (by simpa using hp)
end Go.Proofs.YtjdfjekonnkglaaGreatDoor
