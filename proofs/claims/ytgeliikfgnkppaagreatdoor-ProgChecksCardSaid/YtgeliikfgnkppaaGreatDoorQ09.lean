import Derived.Deep.WholeRow
import Derived.Laws.Tables
import Derived.Laws.Rows
import Derived.Deep.QuietTactic
import Derived.BigQuiet
import Derived.Laws.MakeOwn
import Derived.Test.YtgeliikfgnkppaaGreatDoorQ05
import Derived.Test.YtgeliikfgnkppaaGreatDoorQ06
import Derived.Test.YtgeliikfgnkppaaGreatDoorQ07
import Derived.Test.YtgeliikfgnkppaaGreatDoorQ08
/- The points that are come to: the program's Reach. (Written by gen-prog-find.py.) -/
namespace Go.Proofs.YtgeliikfgnkppaaGreatDoor
open Go.RowKit
set_option linter.unusedVariables false
set_option linter.unusedSimpArgs false

theorem info_marks : (Tryz.prog.info? 66).map (·.size) = some 128 := by kernel_rfl
theorem marks_one (l : List Nat) : (marksP l).all (·.oneCell') = true := by
  rw [Array.all_eq_true']
  intro x hx
  unfold marksP at hx
  simp at hx
  obtain ⟨y, _, rfl⟩ := hx
  rfl
theorem own_some' {w : World} {base : Nat} {e : TypeId} {n : Nat} {v : Value} {xs : List Value} (h : w.ownsRow base e 1 v n xs) (hn : n ≠ 0) : ∃ g cap, v = .slice (some ⟨g, 0, none⟩) n cap ∧ base ≤ g ∧ g < w.heap.size ∧ n ≤ cap ∧ cap ≤ maxLen := by
  rcases h.2 with ⟨_, h0⟩ | ⟨g, cap, cur, h1, h2, h3, h4, h5, _⟩
  · exact absurd h0 hn
  · exact ⟨g, cap, h1, h2, (Array.getElem?_eq_some_iff.1 h3).1, h4, h5⟩
theorem own_num' {w : World} {base : Nat} {e : TypeId} {n m c g : Nat} {l : List Int} (h : w.ownsRow base e 1 (.slice (some ⟨g, 0, none⟩) m c) n (nums .i64 l)) {i : Nat} (hi : i < l.length) : w.cell? ⟨g, i, none⟩ = some (.int .i64 (l.getD i 0)) := by
  have := h.cells (g := g) rfl i (.int .i64 (l.getD i 0)) (by simp [nums, List.getD, hi])
  rw [add_at, Nat.zero_add] at this
  exact this
/-- A list of numbers handed back, in a block of its own. -/
def SlQ (l : List Int) (w : World) (e : Ending) (w' : World) : Prop := ∃ a n c, e = .returned (.slice a n c) ∧ SL w' a n c l ∧ (∀ b off s, a = some ⟨b, off, s⟩ → w.heap.size ≤ b) ∧ Below w.heap.size w w'
theorem slq_own {w w' : World} {v : Value} {l : List Int} (h : w'.ownsRow w.heap.size 3 1 v l.length (nums .i64 l)) (hl : l.length ≤ 1000) (hb : Below w.heap.size w w') : SlQ l w (.returned v) w' := by
  have hlt := h.lt
  obtain ⟨a, c, rfl, _, hs⟩ := sees_own h
  exact ⟨a, _, c, rfl, ⟨rfl, own_cap h, by omega, hs⟩, (fun b off s e => by subst e; exact (hlt b rfl).1), hb⟩
theorem SlQ.p {l : List Int} {w w' : World} {e : Ending} (h : SlQ l w e w') : SlP l w e w' := by
  obtain ⟨a, n, c, h1, h2, _, h3⟩ := h
  exact ⟨a, n, c, h1, h2, h3⟩
set_option maxRecDepth 100000 in
set_option maxHeartbeats 8000000 in
theorem preach_new (p : PV) (D : PD) (w : World) (h : PrA w p D) : Calls Tryz.prog 15 #[.agg p.cells] w (SlQ (reachP D) w) := by
  obtain ⟨i0, hi, hz0, hz1, hz2⟩ := infoIntP
  have qc := Lib.hid (fun W hW => pcheck_any p D W hW)
  obtain ⟨pnm, pa1, pn1, pc1, pa2, pn2, pc2, pa3, pn3, pc3⟩ := p
  have hed := h.edges
  dsimp only [PV.cells] at hed qc
  show Calls Tryz.prog 15 #[.agg #[.string pnm, .slice pa1 pn1 pc1, .slice pa2 pn2 pc2, .slice pa3 pn3 pc3]] w (SlQ (reachP D) w)
  obtain ⟨W1, hW1⟩ : ∃ W1, W1 = w.alloc (.cells #[.string pnm, .slice pa1 pn1 pc1, .slice pa2 pn2 pc2, .slice pa3 pn3 pc3] 26) := ⟨_, rfl⟩
  have Z : Hid (Holds W1 w.heap.size 26 #[.string pnm, .slice pa1 pn1 pc1, .slice pa2 pn2 pc2, .slice pa3 pn3 pc3]) := Lib.hid (by rw [hW1]; exact Holds.new w _ _)
  have BL := Lib.hid (show Below w.heap.size w W1 by rw [hW1]; exact box_below _ _ _)
  have A0 := Lib.hid (h.below BL.out)
  have A := Lib.hid (hed.below BL.out)
  have hW1' := Lib.hid hW1
  have k0 := Z.out.cell 0
  have k1 := Z.out.cell 1
  have k2 := Z.out.cell 2
  have k3 := Z.out.cell 3
  have hz3 := Lib.hid hed.len
  clear h hed hW1
  cases hp : progB D
  · have hs : Hid (reachP D = []) := Lib.hid (by unfold reachP; rw [hp]; rfl)
    rw [pchk_bad hp] at qc
    clear hp
    generalize reachP D = R at *
    go_enter Tryz.func15, Tryz.ntmps15
    go_wp2_with fail
    rw [← hW1'.out]
    with_reducible refine (qc.out W1 A0.out).mono ?_
    rintro e u1 ⟨rfl, b1⟩
    clear k0 k1 k2 k3
    go_wp2
    go_ret
    exact ⟨none, 0, 0, rfl, by rw [hs.out]; exact SL.nil _, (fun _ _ _ e => by cases e), BL.out.trans (b1.mono BL.out.size)⟩
  · have hs : Hid (reachP D = intsP (reachN D)) := Lib.hid (by unfold reachP; rw [hp]; rfl)
    rw [pchk_ok hp] at qc
    have hP := Lib.hid hp
    have hn3 : pn3 ≤ 256 := by rw [hz3.out]; exact (prog_sizes hp).2.2
    have hnS := Lib.hid (prog_sizes hp)
    have hed := Lib.hid (fun i hi => edge_ends (prog_edge hp (i := i) hi))
    have hml := Lib.hid marks_lit
    clear hp
    generalize reachP D = R at *
    go_enter Tryz.func15, Tryz.ntmps15
    go_wp2_with fail
    rw [← hW1'.out]
    with_reducible refine (qc.out W1 A0.out).mono ?_
    rintro e u1 ⟨rfl, b1⟩
    clear k0 k1 k2 k3 qc hW1' A0
    replace Z := Lib.hid (Z.out.below b1 Z.out.lt)
    replace A := Lib.hid (A.out.below b1)
    replace BL := Lib.hid (BL.out.trans (b1.mono BL.out.size))
    clear b1
    go_wp2_with (refine wpList_store_row rfl 66 (.tmp 3) (.tmp 11) rfl _ (marksP [0]) rfl ?h1 66 _ (heap_alloc_new _ _) ?h2 ?h3 (marks_one _) ?h4)
    case h1 => exact congrArg Value.agg hml.out
    case h2 => rw [info_marks, marks_size]
    case h3 => (rw [marks_size]; kernel_rfl)
    rw [World.setRow_alloc_new]
    have hI0 : Hid (RchI u1 u1.heap.size [0] (.slice (some ⟨u1.heap.size + 1, 0, none⟩) 1 1) ((u1.alloc (.cells (marksP [0]) 66)).alloc (.cells #[.int .i64 0] 3))) := Lib.hid (by
      have q := own_cells (u1.alloc (.cells (marksP [0]) 66)) 3 1 1 #[.int .i64 0] rfl (by unfold maxLen; omega)
      have q2 := own_from q (B := u1.heap.size) (fun b hb => by have := (q.lt b hb).1; simp at this; omega)
      refine ⟨Nat.le_refl _, box2_below _ _ _ _ _, (Holds.new u1 _ _).alloc _, ?_, fun b hb => ?_⟩
      · simpa [intsP, nums] using q2
      · have : b = u1.heap.size + 1 := by simpa [Value.ownBlock] using hb.symm
        omega)
    have hF0 : Hid (FindI (pairsE D) D.spots.length 0 0 [0]) := Lib.hid (find_start (by have := hnS.out; omega))
    go_loopw [4, 5] (fun v x wr => ∃ (k : Nat) (l : List Nat) (g cap : Nat), v = .slice (some ⟨g, 0, none⟩) l.length cap ∧ x = .int .i64 k ∧ k ≤ l.length ∧ Hid (RchI u1 u1.heap.size l v wr) ∧ Hid (FindI (pairsE D) D.spots.length k 0 l)) (fun _ x _ => 129 - (intOf x).toNat)
    case atStart => exact ⟨0, [0], u1.heap.size + 1, 1, rfl, rfl, by simp, hI0, hF0⟩
    case round =>
      clear hI0 hF0
      obtain ⟨k, l, g, cap, rfl, rfl, hk, hI, hF⟩ := hrel
      have hN : l.length ≤ 128 := by have := find_len hF.out; have := hnS.out; omega
      have k3 := (Z.out.below hI.out.bel Z.out.lt).cell 3
      by_cases hlt : k < l.length
      · have hki : (k : Int) < (l.length : Int) := by omega
        go_wp2
        clear k3
        go_loopw [4, 22] (fun v x wr => ∃ (m : Nat) (l : List Nat) (g cap : Nat), v = .slice (some ⟨g, 0, none⟩) l.length cap ∧ x = .int .i64 m ∧ m ≤ pn3 ∧ k < l.length ∧ Hid (RchI u1 u1.heap.size l v wr) ∧ Hid (FindI (pairsE D) D.spots.length k m l)) (fun _ x _ => pn3 - (intOf x).toNat)
        case atStart => exact ⟨0, l, g, cap, rfl, rfl, by omega, hlt, hI, hF⟩
        case round =>
          clear hI hF hlt hki hN hk
          obtain ⟨m, l, g, cap, rfl, rfl, hm, hkl, hI, hF⟩ := hrel
          have hN : l.length ≤ 128 := by have := find_len hF.out; have := hnS.out; omega
          by_cases hlt : m < pn3
          · have hmi : (m : Int) < (pn3 : Int) := by omega
            have hml2 : m < D.edges.length := by rw [← hz3.out]; exact hlt
            obtain ⟨b, off, rfl, hbl, x0, x1, x2, x3, x4, x5, x6⟩ := edges_at (A.out.below hI.out.bel) hlt
            have he := hed.out m hml2
            have hpe := pairs_at D hml2
            obtain ⟨f, hf⟩ := Int.eq_ofNat_of_zero_le he.1
            obtain ⟨s, hs'⟩ := Int.eq_ofNat_of_zero_le he.2.2.1
            have hsn : s < D.spots.length := by omega
            have hs128 : s < 128 := by have := hnS.out; omega
            rw [hf, hs'] at hpe
            have hstep := Lib.hid (find_step hF.out hkl hpe hsn)
            rw [hf] at x0
            rw [hs'] at x1
            generalize (D.edges.getD m edge0).k = ek at *
            generalize (D.edges.getD m edge0).x = ex at *
            generalize (D.edges.getD m edge0).y = ey at *
            generalize (D.edges.getD m edge0).c = ec at *
            generalize (D.edges.getD m edge0).d = ed at *
            obtain ⟨V, hV⟩ : ∃ V, V = wr.alloc (.cells #[.int .i64 (f : Int), .int .i64 (s : Int), .int .i64 ek, .int .i64 ex, .int .i64 ey, .int .i64 ec, .int .i64 ed] 52) := ⟨_, rfl⟩
            have hVb : Below wr.heap.size wr V := by rw [hV]; exact box_below _ _ _
            have hI2 := Lib.hid (hI.out.made hVb)
            have hwr := Lib.hid (show wr.heap.size < V.heap.size by rw [hV]; simp)
            have hgl := Lib.hid hI.out.seen.lt
            have B7 : Holds V wr.heap.size 52 #[.int .i64 (f : Int), .int .i64 (s : Int), .int .i64 ek, .int .i64 ex, .int .i64 ey, .int .i64 ec, .int .i64 ed] := by rw [hV]; exact Holds.new _ _ _
            have HB := Lib.hid B7
            have y0 := B7.cell 0
            have y1 := B7.cell 1
            have yl := own_num' hI2.out.row (i := k) (by rw [intsP_len]; exact hkl)
            rw [intsP_at l hkl] at yl
            have ys := (hI2.out.seen.cell s).trans (marks_at l hs128)
            have hV' := Lib.hid hV
            clear hV hVb he hpe hf hs' B7 hI
            simp only [Int.toNat_natCast] at hstep
            have hsi : (s : Int) < 128 := by omega
            have hki : (k : Int) < (l.length : Int) := by omega
            have hfe : Hid (findE (l.getD k 0) l (f, s) = if f = l.getD k 0 ∧ s ∉ l then l ++ [s] else l) := Lib.hid rfl
            rw [hfe.out] at hstep
            clear hfe
            generalize l.getD k 0 = a0 at *
            by_cases hfa : f = a0
            · subst hfa
              cases hc : l.contains s
              · have hnot : s ∉ l := by simpa using hc
                rw [if_pos ⟨rfl, hnot⟩] at hstep
                rw [hc] at ys
                clear hc hnot
                go_wp2
                rw [← hV'.out]
                clear hV'
                go_quiet (fail)
                obtain ⟨V2, hV2⟩ : ∃ V2, V2 = V.drewN nq := ⟨_, rfl⟩
                rw [← hV2]
                have hb2 : Below V.heap.size V V2 := by rw [hV2]; exact Below.drewN (Below.refl _ _) nq
                have hI3 := Lib.hid (hI2.out.made hb2)
                have y0 : V2.cell? ⟨wr.heap.size, 0, none⟩ = some (.int .i64 (f : Int)) := by rw [hV2]; exact y0
                have y1 : V2.cell? ⟨wr.heap.size, 1, none⟩ = some (.int .i64 (s : Int)) := by rw [hV2]; exact y1
                have y2 : (V2.setCell ⟨u1.heap.size, s, none⟩ (.bool true)).cell? ⟨wr.heap.size, 1, none⟩ = some (.int .i64 (s : Int)) := ((HB.out.below hb2 HB.out.lt).far (p := ⟨u1.heap.size, s, none⟩) (by have := hgl.out; show ¬ wr.heap.size = u1.heap.size; omega) _).cell 1
                have hsz2 := Lib.hid (show wr.heap.size < V2.heap.size by rw [hV2]; exact hwr.out)
                have hne1 : ¬ u1.heap.size = wr.heap.size := by have := hgl.out; omega
                have hne2 : ¬ wr.heap.size = u1.heap.size := by have := hgl.out; omega
                clear hb2 hV2 hI2 yl ys x0 x1 x2 x3 x4 x5 x6
                obtain ⟨X, hX⟩ : ∃ X, X = (V2.setCell ⟨u1.heap.size, s, none⟩ (.bool true)).alloc (.cells #[.int .i64 (s : Int)] 3) := ⟨_, rfl⟩
                have hmk := hI3.out.marked hs128
                have hbX : Below (V2.setCell ⟨u1.heap.size, s, none⟩ (.bool true)).heap.size (V2.setCell ⟨u1.heap.size, s, none⟩ (.bool true)) X := by rw [hX]; exact box_below _ _ _
                have ho0 : Hid (X.ownsRow 0 3 1 (.slice (some ⟨g, 0, none⟩) l.length cap) (intsP l).length (nums .i64 (intsP l))) := Lib.hid (by rw [intsP_len]; exact own_from (own_below hmk.2.2 hbX) (fun _ _ => Nat.zero_le _))
                have hse : Hid (Sees .i64 X.heap.size X (some ⟨V2.heap.size, 0, none⟩) [(s : Int)]) := Lib.hid (by
                  rw [hX]
                  have q := sees_new .i64 (V2.setCell ⟨u1.heap.size, s, none⟩ (.bool true)) 3 [(s : Int)] #[.int .i64 (s : Int)] rfl
                  simpa using q)
                have ff := hI3.out.seen.free s
                have fc := (hI3.out.seen.cell s).trans (marks_at l hs128)
                have hX' := Lib.hid hX
                clear hX hmk hbX
                go_wp2_with (at_builtin; rw [← hX'.out]; refine wpList_append_foot X rfl _ _ 32 rfl 3 i0 (.int .i64 0) 8 Tryz.underlying32 hi hz0 hz1 hz2 rfl .i64 (.slice (some ⟨g, 0, none⟩) l.length cap) (intsP l) ho0.out X.heap.size (some ⟨V2.heap.size, 0, none⟩) [(s : Int)] hse.out 1 1 rfl rfl rfl (by rw [intsP_len]; simp; unfold maxLen; omega) (by rw [intsP_len]; simp; omega) ?_; intro v' w' o1 g1 k1; have h4 := hI3.out.grow hs128 hX'.out o1 g1 k1; obtain ⟨g', cap', rfl, -⟩ := own_some' h4.row (by simp); have h4' := Lib.hid h4; clear h4 o1 g1 k1)
                go_roundw
                case rel => exact ⟨m + 1, l ++ [s], g', cap', by simp, by go_num, by omega, by simp; omega, (by rw [show (l ++ [s]).length = l.length + 1 by simp] at h4'; exact h4'), hstep⟩
                case measure => simp [intOf]; omega
              · have hin : s ∈ l := by simpa using hc
                rw [if_neg (fun h => h.2 hin)] at hstep
                rw [hc] at ys
                clear hc hin
                go_wp2
                rw [← hV'.out]
                clear hV'
                go_quiet (fail)
                have hI3 := Lib.hid (hI2.out.made (Below.drewN (Below.refl _ _) nq))
                go_wp2
                go_roundw
                case rel => exact ⟨m + 1, l, g, cap, rfl, by go_num, by omega, hkl, hI3, hstep⟩
                case measure => simp [intOf]; omega
            · rw [if_neg (fun h => hfa h.1)] at hstep
              have hfa2 : ((f : Int) == (a0 : Int)) = false := by simp; omega
              clear hfa ys
              go_wp2
              rw [← hV'.out]
              clear hV'
              go_quiet (fail)
              have hI3 := Lib.hid (hI2.out.made (Below.drewN (Below.refl _ _) nq))
              go_wp2
              go_roundw
              case rel => exact ⟨m + 1, l, g, cap, rfl, by go_num, by omega, hkl, hI3, hstep⟩
              case measure => simp [intOf]; omega
          · have hmi : ¬ (m : Int) < (pn3 : Int) := by omega
            have hme : m = (pairsE D).length := by rw [pairs_len, ← hz3.out]; omega
            have hF2 := Lib.hid (find_next (by rw [← hme]; exact hF.out))
            clear hF hme
            go_wp2
            go_roundw
            case rel => exact ⟨k + 1, l, g, cap, rfl, by go_num, by omega, hI, hF2⟩
            case measure => simp [intOf]; omega
      · have hki : ¬ (k : Int) < (l.length : Int) := by omega
        have hend := find_end hF.out (by omega : l.length ≤ k)
        have hsr := Lib.hid (sorted_reach hP.out hF.out.nodup hend)
        obtain ⟨g2, cap2, e2, hg2, hg3, hHo⟩ : ∃ g2 cap2, (Value.slice (some ⟨g, 0, none⟩) l.length cap : Value) = .slice (some ⟨g2, 0, none⟩) l.length cap2 ∧ u1.heap.size ≤ g2 ∧ g2 < wr.heap.size ∧ Sort.Holds (Value.int .i64) wr g2 0 (intsP l).toArray := by
          obtain ⟨g2, cap2, e, h1, h2, _, _, _, h3⟩ := Lib.holds_of_ownsRow (enc := Value.int .i64) hI.out.row (by intro e; cases e)
          exact ⟨g2, cap2, e, h1, h2, h3⟩
        injection e2 with e3 e4 e5
        injection e3 with e3
        injection e3 with e3
        subst e3 e5
        have hsort := Tryz.slices_Sort_int g 0 cap (intsP l) wr hHo hg3 (by rw [intsP_len]; omega)
        rw [intsP_len] at hsort
        have hS := Lib.hid hsort
        have hrow := Lib.hid (fun q os => ints_sorted (q := q) (os := os) hI.out.row)
        have hbl := Lib.hid (fun q os => BL.out.trans (((Lib.below_putRow (enc := Value.int .i64) (q := q) (d := ((intsP l).mergeSort fun x y => decide (x ≤ y)).toArray) hI.out.bel hg2).trans ((grow_below _ os).mono (by have := (Lib.below_putRow (enc := Value.int .i64) (q := q) (d := ((intsP l).mergeSort fun x y => decide (x ≤ y)).toArray) hI.out.bel hg2).size; exact this))).mono BL.out.size))
        have hlen : Hid (l.length = (intsP (reachN D)).length) := Lib.hid (by rw [← hsr.out, List.length_mergeSort, intsP_len])
        have hle : Hid ((intsP (reachN D)).length ≤ 1000) := Lib.hid (by rw [← hlen.out]; omega)
        have hus := Lib.hid BL.out.size
        clear hsort hHo hend hF hg3 e4
        go_wp2_with fail
        refine hS.out.mono ?_
        rintro e w7 ⟨rfl, q, os, rfl⟩
        have hr := hrow.out q os
        have hb := hbl.out q os
        clear hS hrow hbl
        generalize Sort.grow _ os = w8 at hr hb ⊢
        rw [hsr.out, ← hs.out] at hr
        have hfin := Lib.hid (slq_own (v := .slice (some ⟨g, 0, none⟩) l.length cap) (l := R) (own_from (by rw [← show l.length = R.length by rw [hs.out, ← hlen.out]]; exact hr) (fun b hb => by have := (hr.lt b hb).1; have := hus.out; omega)) (by rw [hs.out]; exact hle.out) hb)
        clear hr hb
        go_wp2
        go_ret
        exact hfin.out
theorem preach_any (p : PV) (D : PD) (w : World) (h : PrA w p D) : Calls Tryz.prog 15 #[.agg p.cells] w (SlP (reachP D) w) := (preach_new p D w h).mono fun _ _ h => h.p
end Go.Proofs.YtgeliikfgnkppaaGreatDoor
/- The points that are come to: the document's Reach. (Written by gen-prog-refreach.py.) -/
namespace Go.Proofs.YtgeliikfgnkppaaGreatDoor
open Go.RowKit
set_option linter.unusedVariables false
set_option linter.unusedSimpArgs false

def bolsP (l : List Bool) : List Value := l.map .bool
theorem infoBoolP : (Tryz.prog.info? 4).map (fun i => (i.zero, i.size, i.bytes)) = some (some (.bool false), 1, 1) := by kernel_rfl
theorem infoBoolQ : ∃ i, Tryz.prog.info? 4 = some i ∧ i.zero = some (.bool false) ∧ i.size = 1 ∧ i.bytes = 1 := by
  have h := infoBoolP
  cases hi : Tryz.prog.info? 4 with
  | none => rw [hi] at h; simp at h
  | some i => rw [hi] at h; simp at h; exact ⟨i, rfl, h.1, h.2.1, h.2.2⟩
/-- A row of marks of one's own: block g. -/
structure BolI (u : World) (g : Nat) (l : List Bool) (w : World) : Prop where
  low : u.heap.size ≤ g
  bel : Below u.heap.size u w
  row : w.ownsRow u.heap.size 4 1 (.slice (some ⟨g, 0, none⟩) l.length l.length) l.length (bolsP l)
theorem BolI.at_ {u : World} {g : Nat} {l : List Bool} {w : World} (h : BolI u g l w) {i : Nat} (hi : i < l.length) : w.cell? ⟨g, i, none⟩ = some (.bool (l.getD i false)) := by
  have := h.row.cells (g := g) rfl i (.bool (l.getD i false)) (by simp [bolsP, List.getD, hi])
  rw [add_at, Nat.zero_add] at this
  exact this
theorem BolI.set {u : World} {g : Nat} {l : List Bool} {w : World} (h : BolI u g l w) {i : Nat} (hi : i < l.length) : BolI u g (l.set i true) (w.setCell ⟨g, i, none⟩ (.bool true)) := by
  refine ⟨h.low, h.bel.setCell (p := ⟨g, i, none⟩) h.low _, ?_⟩
  have q := own_set h.row i hi (.bool true)
  rw [List.length_set]
  have e : bolsP (l.set i true) = (bolsP l).set i (.bool true) := by simp [bolsP, List.map_set]
  rw [e]
  exact q
theorem BolI.free {u : World} {g : Nat} {l : List Bool} {w : World} (h : BolI u g l w) (i : Nat) : w.frozen? ⟨g, i, none⟩ = false := own_free h.row i
theorem passes_snoc (E : List (Nat × Nat)) : ∀ (n : Nat) (l : List Bool), passes E (n + 1) l = passE E (passes E n l)
  | 0, l => rfl
  | n + 1, l => by
    show passes E (n + 1) (passE E l) = passE E (passes E n (passE E l))
    exact passes_snoc E n (passE E l)
theorem pass_take (E : List (Nat × Nat)) (l : List Bool) {m : Nat} {e : Nat × Nat} (h : E[m]? = some e) : passE (E.take (m + 1)) l = markE (passE (E.take m) l) e := by
  unfold passE
  rw [List.take_add_one, h, List.foldl_append]
  rfl
/-- The first m points that are marked. -/
def upto (l : List Bool) (m : Nat) : List Nat := (List.range m).filter fun v => l.getD v false
theorem upto_yes {l : List Bool} {m : Nat} (h : l.getD m false = true) : upto l (m + 1) = upto l m ++ [m] := by
  unfold upto; rw [List.range_succ, List.filter_append, show [m].filter (fun v => l.getD v false) = [m] from List.filter_cons_of_pos h]
theorem upto_no {l : List Bool} {m : Nat} (h : l.getD m false = false) : upto l (m + 1) = upto l m := by
  unfold upto; rw [List.range_succ, List.filter_append, show [m].filter (fun v => l.getD v false) = [] from List.filter_cons_of_neg (by rw [h]; simp), List.append_nil]
theorem upto_len (l : List Bool) (m : Nat) : (upto l m).length ≤ m := by
  unfold upto; exact Nat.le_trans (List.length_filter_le _ _) (by simp)
theorem made_bols (n : Nat) : (madeCells (Value.bool false).cells (n * 1)).toList = bolsP (List.replicate n false) := by
  apply List.ext_getElem
  · simp [madeCells, bolsP]
  · intro i h1 h2
    simp [madeCells, bolsP, Value.cells, Nat.mod_one]
set_option maxRecDepth 100000 in
set_option maxHeartbeats 8000000 in
theorem rreach_any (p : PV) (D : PD) (hp : progB D = true) (w : World) (h : PrA w p D) : Calls Tryz.prog 19 #[.agg #[.string p.nm, .slice p.a1 p.n1 p.c1, .slice p.a2 p.n2 p.c2, .slice p.a3 p.n3 p.c3]] w (SlP (intsP (reachN D)) w) := by
  obtain ⟨i0, hi, hz0, hz1, hz2⟩ := infoIntP
  obtain ⟨b0, hbi, hbz0, hbz1, hbz2⟩ := infoBoolQ
  have hnS := prog_sizes hp
  have hed := Lib.hid (fun i hi => edge_ends (prog_edge hp (i := i) hi))
  obtain ⟨pnm, pa1, pn1, pc1, pa2, pn2, pc2, pa3, pn3, pc3⟩ := p
  have hs := h.spots
  have he := h.edges
  dsimp only at hs he ⊢
  have ls := Lib.hid hs.len
  have le := Lib.hid he.len
  have hn1 : 1 ≤ pn2 := by rw [ls.out]; omega
  have hn2 : pn2 ≤ 128 := by rw [ls.out]; omega
  have hn3 : pn3 ≤ 256 := by rw [le.out]; omega
  have hn1i : (1 : Int) ≤ (pn2 : Int) := by omega
  have hn2i : (pn2 : Int) ≤ 128 := by omega
  have h0 : 0 < pn2 := by omega
  obtain ⟨W1, hW1⟩ : ∃ W1, W1 = w.alloc (.cells #[.string pnm, .slice pa1 pn1 pc1, .slice pa2 pn2 pc2, .slice pa3 pn3 pc3] 26) := ⟨_, rfl⟩
  have Z : Hid (Holds W1 w.heap.size 26 #[.string pnm, .slice pa1 pn1 pc1, .slice pa2 pn2 pc2, .slice pa3 pn3 pc3]) := Lib.hid (by rw [hW1]; exact Holds.new w _ _)
  have BL := Lib.hid (show Below w.heap.size w W1 by rw [hW1]; exact box_below _ _ _)
  have E := Lib.hid (he.below BL.out)
  have hW1' := Lib.hid hW1
  have k2 := Z.out.cell 2
  have hmk := run_make (P := Tryz.prog) W1 50 4 b0 (.bool false) Tryz.underlying50 hbi hbz0 .i64 .i64 (pn2 : Int) (pn2 : Int) (by omega) (Int.le_refl _) (by rw [hbz2]; omega) (by omega)
  simp only [Int.toNat_natCast] at hmk
  rw [hbz1] at hmk
  obtain ⟨W5, hW5⟩ : ∃ W5, W5 = W1.alloc (.cells (madeCells (Value.bool false).cells (pn2 * 1)) 4) := ⟨_, rfl⟩
  rw [← hW5] at hmk
  have I0 : BolI W1 W1.heap.size (List.replicate pn2 false) W5 := by
    refine ⟨Nat.le_refl _, by rw [hW5]; exact box_below _ _ _, ?_⟩
    have q := own_cells W1 4 1 pn2 (madeCells (Value.bool false).cells (pn2 * 1)) (by rw [size_madeCells]) (by unfold maxLen; omega)
    rw [made_bols] at q
    rw [hW5, List.length_replicate]
    exact q
  have hg1 : W1.heap.size = w.heap.size + 1 := by rw [hW1]; simp
  rw [hg1] at hmk I0
  have fc := I0.at_ (i := 0) (by rw [List.length_replicate]; exact h0)
  have ff := I0.free 0
  generalize (List.replicate pn2 false).getD 0 false = c9 at fc
  obtain ⟨W6, hW6⟩ : ∃ W6, W6 = W5.setCell ⟨w.heap.size + 1, 0, none⟩ (.bool true) := ⟨_, rfl⟩
  have I1 : Hid (BolI W1 (w.heap.size + 1) (startB pn2) W6) := Lib.hid (by rw [hW6]; exact I0.set (by rw [List.length_replicate]; exact h0))
  have hsl : Hid ((startB pn2).length = pn2) := Lib.hid (by simp [startB])
  rw [hW1] at hmk
  have hW6' := Lib.hid hW6
  have hP := Lib.hid hp
  have hEl := Lib.hid (pairs_len D)
  clear hW1 hW5 hW6 I0 hs he h hnS hp hg1
  go_enter Tryz.func19, Tryz.ntmps19
  go_wp2
  rw [← hW6'.out]
  clear hmk fc ff k2 hW6' hW1'
  go_loopw [4] (fun x wr => ∃ (k : Nat) (l : List Bool), k ≤ pn2 ∧ x = .int .i64 k ∧ Hid (l = passes (pairsE D) k (startB pn2)) ∧ Hid (l.length = pn2) ∧ Hid (BolI W1 (w.heap.size + 1) l wr)) (fun x _ => pn2 - (intOf x).toNat)
  case atStart => exact ⟨0, startB pn2, by omega, rfl, Lib.hid rfl, hsl, I1⟩
  case round =>
    clear I1
    obtain ⟨k, l, hk, rfl, hl, hll, hI⟩ := hrel
    have k2 := (Z.out.below hI.out.bel Z.out.lt).cell 2
    have k3 := (Z.out.below hI.out.bel Z.out.lt).cell 3
    by_cases hlt : k < pn2
    · have hki : (k : Int) < (pn2 : Int) := by omega
      go_wp2
      clear k2 k3
      go_loopw [5] (fun x wr => ∃ (m : Nat) (l : List Bool), m ≤ pn3 ∧ x = .int .i64 m ∧ Hid (l = passE ((pairsE D).take m) (passes (pairsE D) k (startB pn2))) ∧ Hid (l.length = pn2) ∧ Hid (BolI W1 (w.heap.size + 1) l wr)) (fun x _ => pn3 - (intOf x).toNat)
      case atStart => exact ⟨0, l, by omega, rfl, Lib.hid (by rw [hl.out]; rfl), hll, hI⟩
      case round =>
        clear hl hll hI
        obtain ⟨m, l, hm, rfl, hl, hll, hI⟩ := hrel
        have k3 := (Z.out.below hI.out.bel Z.out.lt).cell 3
        by_cases hlt : m < pn3
        · have hmi : (m : Int) < (pn3 : Int) := by omega
          have hml2 : m < D.edges.length := by rw [← le.out]; exact hlt
          obtain ⟨b, off, rfl, hbl, x0, x1, x2, x3, x4, x5, x6⟩ := edges_at (E.out.below hI.out.bel) hlt
          have hen := hed.out m hml2
          have hpe := pairs_at D hml2
          obtain ⟨f, hf⟩ := Int.eq_ofNat_of_zero_le hen.1
          obtain ⟨s, hs'⟩ := Int.eq_ofNat_of_zero_le hen.2.2.1
          have hfn : f < pn2 := by have := ls.out; omega
          have hsn : s < pn2 := by have := ls.out; omega
          rw [hf, hs', Int.toNat_natCast, Int.toNat_natCast] at hpe
          have hstep : Hid (passE ((pairsE D).take (m + 1)) (passes (pairsE D) k (startB pn2)) = markE l (f, s)) := Lib.hid (by rw [pass_take _ _ hpe, hl.out])
          rw [hf] at x0
          rw [hs'] at x1
          have hfl : f < l.length := by rw [hll.out]; exact hfn
          have hsl2 : s < l.length := by rw [hll.out]; exact hsn
          have y0 := hI.out.at_ hfl
          have y1 := hI.out.at_ hsl2
          have ff := hI.out.free s
          have hI2 := Lib.hid (hI.out.set hsl2)
          have hll2 : Hid ((l.set s true).length = pn2) := Lib.hid (by rw [List.length_set]; exact hll.out)
          have hme : Hid (markE l (f, s) = if l.getD f false = true then l.set s true else l) := Lib.hid rfl
          have hfi : (f : Int) < (pn2 : Int) := by omega
          have hsi : (s : Int) < (pn2 : Int) := by omega
          clear x2 x3 x4 x5 x6 hen hpe hf hs' hfl hsl2 hbl
          rw [hme.out] at hstep
          clear hme
          generalize l.getD s false = c2 at *
          cases hc : l.getD f false
          · rw [hc, if_neg (by simp)] at hstep
            rw [hc] at y0
            clear hc y1 ff hI2
            go_wp2
            go_roundw
            case rel => exact ⟨m + 1, l, by omega, by go_num, Lib.hid hstep.out.symm, hll, hI⟩
            case measure => simp [intOf]; omega
          · rw [hc, if_pos rfl] at hstep
            rw [hc] at y0
            clear hc
            go_wp2
            go_roundw
            case rel => exact ⟨m + 1, l.set s true, by omega, by go_num, Lib.hid hstep.out.symm, hll2, hI2⟩
            case measure => simp [intOf]; omega
        · have hmi : ¬ (m : Int) < (pn3 : Int) := by omega
          have hme : m = (pairsE D).length := by rw [hEl.out, ← le.out]; omega
          have hl2 : Hid (l = passes (pairsE D) (k + 1) (startB pn2)) := Lib.hid (by rw [passes_snoc, hl.out, hme, List.take_length])
          clear hme hl
          go_wp2
          go_roundw
          case rel => exact ⟨k + 1, l, by omega, by go_num, hl2, hll, hI⟩
          case measure => simp [intOf]; omega
    · have hki : ¬ (k : Int) < (pn2 : Int) := by omega
      have hke : k = pn2 := by omega
      have hN : Hid (upto l pn2 = reachN D) := Lib.hid (by rw [hl.out, hke]; unfold upto reachN; rw [ls.out])
      clear hke hl
      go_wp2
      clear k2 k3 hki hlt hk
      generalize wr = u at *
      have hu0 := Lib.hid hI.out.bel
      go_loopw [6, 7] (fun v x wr => ∃ k : Nat, k ≤ pn2 ∧ x = .int .i64 k ∧ Hid (wr.ownsRow u.heap.size 3 1 v (intsP (upto l k)).length (nums .i64 (intsP (upto l k)))) ∧ Hid (Below u.heap.size u wr)) (fun _ x _ => pn2 - (intOf x).toNat)
      case atStart => exact ⟨0, Nat.zero_le _, rfl, Lib.hid (World.ownsRow_nil _ _ _ _), Lib.hid (Below.refl _ _)⟩
      case round =>
        obtain ⟨k, hk, rfl, hown, hB⟩ := hrel
        by_cases hlt : k < pn2
        · have hki : (k : Int) < (pn2 : Int) := by omega
          have hkl : k < l.length := by rw [hll.out]; exact hlt
          have y0 := (hB.out.cell (p := ⟨w.heap.size + 1, k, none⟩) (by have := hI.out.row.lt _ rfl; exact this.2)).trans (hI.out.at_ hkl)
          have hul := upto_len l k
          have hy := Lib.hid (fun h => upto_yes (l := l) (m := k) h)
          have hn := Lib.hid (fun h => upto_no (l := l) (m := k) h)
          clear hkl
          cases hc : l.getD k false
          · have hs2 := Lib.hid (hn.out hc)
            rw [hc] at y0
            rw [← hs2.out] at hown
            clear hc hy hn
            go_wp2
            go_roundw
            case rel => exact ⟨k + 1, by omega, by go_num, hown, hB⟩
            case measure => simp [intOf]; omega
          · have hs2 := Lib.hid (hy.out hc)
            rw [hc] at y0
            clear hc hy hn
            have hil : (intsP (upto l k)).length ≤ 128 := by rw [intsP_len]; omega
            go_wp2_with (at_builtin; refine wpList_append1 _ rfl _ _ 32 rfl u 3 i0 (.int .i64 0) 8 Tryz.underlying32 hi hz0 hz1 hz2 rfl .i64 (k : Int) _ _ hown.out hB.out rfl rfl (by omega) (by omega) ?_; intro v' w' hown4 hb4; have hown4' := Lib.hid hown4; have hb4' := Lib.hid hb4; clear hown4 hb4)
            rw [← intsP_snoc, ← hs2.out] at hown4'
            go_roundw
            case rel => exact ⟨k + 1, by omega, by go_num, hown4', hb4'⟩
            case measure => simp [intOf]; omega
        · have hki : ¬ (k : Int) < (pn2 : Int) := by omega
          have hke : k = pn2 := by omega
          rw [hke, hN.out] at hown
          have hfin := Lib.hid (slp_own (own_from hown.out (fun b hb => by have := (hown.out.lt b hb).1; have := BL.out.size; have := hu0.out.size; omega)) (by rw [intsP_len]; have := reachN_len D; have := ls.out; omega) (BL.out.trans ((hu0.out.trans (hB.out.mono hu0.out.size)).mono BL.out.size)))
          clear hke
          go_wp2
          go_ret
          exact hfin.out
end Go.Proofs.YtgeliikfgnkppaaGreatDoor
/- ProgChecks: its walk (lives given). (Written by gen-prog-law-checks.py.) -/
namespace Go.Proofs.YtgeliikfgnkppaaGreatDoor
open Go.RowKit
set_option linter.unusedVariables false
set_option linter.unusedSimpArgs false

/-- What stands while ProgChecks goes on. -/
structure LC (A B : PD) (w : World) (pnm : ByteArray) (pa1 : Option Addr) (pn1 pc1 : Nat) (pa2 : Option Addr) (pn2 pc2 : Nat) (pa3 : Option Addr) (pn3 pc3 : Nat) (qnm : ByteArray) (qa1 : Option Addr) (qn1 qc1 : Nat) (qa2 : Option Addr) (qn2 qc2 : Nat) (qa3 : Option Addr) (qn3 qc3 : Nat) (W : World) : Prop where
  p1 : PrA W ⟨pnm, pa1, pn1, pc1, pa2, pn2, pc2, pa3, pn3, pc3⟩ A
  p2 : PrA W ⟨qnm, qa1, qn1, qc1, qa2, qn2, qc2, qa3, qn3, qc3⟩ B
  b1 : Holds W w.heap.size 26 #[.string pnm, .slice pa1 pn1 pc1, .slice pa2 pn2 pc2, .slice pa3 pn3 pc3]
  b2 : Holds W (w.heap.size + 1) 26 #[.string qnm, .slice qa1 qn1 qc1, .slice qa2 qn2 qc2, .slice qa3 qn3 qc3]
  bel : Below w.heap.size w W
  tab : Tab W
theorem LC.below {A B : PD} {w : World} {pnm : ByteArray} {pa1 : Option Addr} {pn1 pc1 : Nat} {pa2 : Option Addr} {pn2 pc2 : Nat} {pa3 : Option Addr} {pn3 pc3 : Nat} {qnm : ByteArray} {qa1 : Option Addr} {qn1 qc1 : Nat} {qa2 : Option Addr} {qn2 qc2 : Nat} {qa3 : Option Addr} {qn3 qc3 : Nat} {W W' : World} (h : LC A B w pnm pa1 pn1 pc1 pa2 pn2 pc2 pa3 pn3 pc3 qnm qa1 qn1 qc1 qa2 qn2 qc2 qa3 qn3 qc3 W) (hb : Below W.heap.size W W') : LC A B w pnm pa1 pn1 pc1 pa2 pn2 pc2 pa3 pn3 pc3 qnm qa1 qn1 qc1 qa2 qn2 qc2 qa3 qn3 qc3 W' :=
  ⟨h.p1.below hb, h.p2.below hb, h.b1.below hb h.b1.lt, h.b2.below hb h.b2.lt, h.bel.trans (hb.mono h.bel.size), h.tab.on hb⟩
theorem selP_ok {q : EdgeD → Bool} {D : PD} (h : progB D = true) : selP q D = selL q D.edges D.edges.length := by unfold selP; rw [if_pos h]
theorem selP_no {q : EdgeD → Bool} {D : PD} (h : progB D = false) : selP q D = [] := by unfold selP; rw [h]; rfl
theorem reachP_ok {D : PD} (h : progB D = true) : reachP D = intsP (reachN D) := by unfold reachP; rw [if_pos h]
theorem reachP_no {D : PD} (h : progB D = false) : reachP D = [] := by unfold reachP; rw [h]; rfl
theorem slp_nil {w w' : World} {e : Ending} (h : SlP [] w e w') : ∃ a c, e = .returned (.slice a 0 c) ∧ Below w.heap.size w w' := by
  obtain ⟨a, n, c, h1, h2, h3⟩ := h
  obtain rfl : n = 0 := h2.len
  exact ⟨a, c, h1, h3⟩
set_option maxRecDepth 100000 in
set_option maxHeartbeats 8000000 in
theorem pchecks_big1 (pnm : ByteArray) (pa1 : Option Addr) (pn1 pc1 : Nat) (pa2 : Option Addr) (pn2 pc2 : Nat) (pa3 : Option Addr) (pn3 pc3 : Nat) (qnm : ByteArray) (qa1 : Option Addr) (qn1 qc1 : Nat) (qa2 : Option Addr) (qn2 qc2 : Nat) (qa3 : Option Addr) (qn3 qc3 : Nat) (A B : PD) (hA : PW A) (hB : PW B) (x : Int) (w : World) (ht : Tab w) (h1 : PrA w ⟨pnm, pa1, pn1, pc1, pa2, pn2, pc2, pa3, pn3, pc3⟩ A) (h2 : PrA w ⟨qnm, qa1, qn1, qc1, qa2, qn2, qc2, qa3, qn3, qc3⟩ B) (HL : ∀ W, Tab W → Calls Tryz.prog 8 #[] W (Gives (.bool true) W)) (hg : bigP A = true) :
    Calls Tryz.prog 3 #[.agg #[.string pnm, .slice pa1 pn1 pc1, .slice pa2 pn2 pc2, .slice pa3 pn3 pc3], .agg #[.string qnm, .slice qa1 qn1 qc1, .slice qa2 qn2 qc2, .slice qa3 qn3 qc3], .int .i64 x] w (Gives (.bool true) w) := by
  obtain ⟨u0, hu0⟩ : ∃ u0, u0 = (w.alloc (.cells #[.string pnm, .slice pa1 pn1 pc1, .slice pa2 pn2 pc2, .slice pa3 pn3 pc3] 26)).alloc (.cells #[.string qnm, .slice qa1 qn1 qc1, .slice qa2 qn2 qc2, .slice qa3 qn3 qc3] 26) := ⟨_, rfl⟩
  have b0 : Below w.heap.size w u0 := by rw [hu0]; exact (box_below _ _ _).alloc (by simp) _
  have L0 : LC A B w pnm pa1 pn1 pc1 pa2 pn2 pc2 pa3 pn3 pc3 qnm qa1 qn1 qc1 qa2 qn2 qc2 qa3 qn3 qc3 u0 := ⟨h1.below b0, h2.below b0, by rw [hu0]; exact (Holds.new w _ _).alloc _, by rw [hu0]; have q := Holds.new (w.alloc (.cells #[.string pnm, .slice pa1 pn1 pc1, .slice pa2 pn2 pc2, .slice pa3 pn3 pc3] 26)) 26 #[.string qnm, .slice qa1 qn1 qc1, .slice qa2 qn2 qc2, .slice qa3 qn3 qc3]; simpa using q, b0, ht.on b0⟩
  have L := Lib.hid L0
  have hu0' := Lib.hid hu0
  have QL := Lib.hid HL
  have qA := Lib.hid (fun W (h : LC A B w pnm pa1 pn1 pc1 pa2 pn2 pc2 pa3 pn3 pc3 qnm qa1 qn1 qc1 qa2 qn2 qc2 qa3 qn3 qc3 W) => plarge_any _ A hA W h.p1)
  have qB := Lib.hid (fun W (h : LC A B w pnm pa1 pn1 pc1 pa2 pn2 pc2 pa3 pn3 pc3 qnm qa1 qn1 qc1 qa2 qn2 qc2 qa3 qn3 qc3 W) => plarge_any _ B hB W h.p2)
  have qc := Lib.hid (fun W (h : LC A B w pnm pa1 pn1 pc1 pa2 pn2 pc2 pa3 pn3 pc3 qnm qa1 qn1 qc1 qa2 qn2 qc2 qa3 qn3 qc3 W) => pcheck_any _ A W h.p1)
  have qs := Lib.hid (fun W (h : LC A B w pnm pa1 pn1 pc1 pa2 pn2 pc2 pa3 pn3 pc3 qnm qa1 qn1 qc1 qa2 qn2 qc2 qa3 qn3 qc3 W) => psame'_any _ _ A B W h.p1 h.p2)
  have qr := Lib.hid (fun W (h : LC A B w pnm pa1 pn1 pc1 pa2 pn2 pc2 pa3 pn3 pc3 qnm qa1 qn1 qc1 qa2 qn2 qc2 qa3 qn3 qc3 W) => psameRef_any _ _ A B W h.p1 h.p2)
  have qk := Lib.hid (fun W (h : LC A B w pnm pa1 pn1 pc1 pa2 pn2 pc2 pa3 pn3 pc3 qnm qa1 qn1 qc1 qa2 qn2 qc2 qa3 qn3 qc3 W) => rcheckP_any _ A hA W h.p1)
  have qo := Lib.hid (fun W (h : LC A B w pnm pa1 pn1 pc1 pa2 pn2 pc2 pa3 pn3 pc3 qnm qa1 qn1 qc1 qa2 qn2 qc2 qa3 qn3 qc3 W) => pOut_any _ A x W h.p1)
  have qi := Lib.hid (fun W (h : LC A B w pnm pa1 pn1 pc1 pa2 pn2 pc2 pa3 pn3 pc3 qnm qa1 qn1 qc1 qa2 qn2 qc2 qa3 qn3 qc3 W) => pInto_any _ A x W h.p1)
  have qh := Lib.hid (fun W (h : LC A B w pnm pa1 pn1 pc1 pa2 pn2 pc2 pa3 pn3 pc3 qnm qa1 qn1 qc1 qa2 qn2 qc2 qa3 qn3 qc3 W) => preach_any ⟨pnm, pa1, pn1, pc1, pa2, pn2, pc2, pa3, pn3, pc3⟩ A W h.p1)
  clear hu0 b0 L0 h1 h2 ht HL
  rw [hg] at qA
  go_enter Tryz.func3, Tryz.ntmps3
  go_wp2_with fail
  rw [← hu0'.out]
  with_reducible refine (qA.out _ L.out).mono ?_
  rintro e u1 ⟨rfl, bu1⟩
  replace L := Lib.hid (L.out.below bu1)
  clear bu1 
  go_wp2_with fail
  with_reducible refine (QL.out _ L.out.tab).mono ?_
  rintro e u2 ⟨rfl, bu2⟩
  replace L := Lib.hid (L.out.below bu2)
  clear bu2 
  go_wp2
  go_ret
  exact ⟨rfl, L.out.bel⟩
set_option maxRecDepth 100000 in
set_option maxHeartbeats 8000000 in
theorem pchecks_big2 (pnm : ByteArray) (pa1 : Option Addr) (pn1 pc1 : Nat) (pa2 : Option Addr) (pn2 pc2 : Nat) (pa3 : Option Addr) (pn3 pc3 : Nat) (qnm : ByteArray) (qa1 : Option Addr) (qn1 qc1 : Nat) (qa2 : Option Addr) (qn2 qc2 : Nat) (qa3 : Option Addr) (qn3 qc3 : Nat) (A B : PD) (hA : PW A) (hB : PW B) (x : Int) (w : World) (ht : Tab w) (h1 : PrA w ⟨pnm, pa1, pn1, pc1, pa2, pn2, pc2, pa3, pn3, pc3⟩ A) (h2 : PrA w ⟨qnm, qa1, qn1, qc1, qa2, qn2, qc2, qa3, qn3, qc3⟩ B) (HL : ∀ W, Tab W → Calls Tryz.prog 8 #[] W (Gives (.bool true) W)) (hg : bigP A = false) (hh : bigP B = true) :
    Calls Tryz.prog 3 #[.agg #[.string pnm, .slice pa1 pn1 pc1, .slice pa2 pn2 pc2, .slice pa3 pn3 pc3], .agg #[.string qnm, .slice qa1 qn1 qc1, .slice qa2 qn2 qc2, .slice qa3 qn3 qc3], .int .i64 x] w (Gives (.bool true) w) := by
  obtain ⟨u0, hu0⟩ : ∃ u0, u0 = (w.alloc (.cells #[.string pnm, .slice pa1 pn1 pc1, .slice pa2 pn2 pc2, .slice pa3 pn3 pc3] 26)).alloc (.cells #[.string qnm, .slice qa1 qn1 qc1, .slice qa2 qn2 qc2, .slice qa3 qn3 qc3] 26) := ⟨_, rfl⟩
  have b0 : Below w.heap.size w u0 := by rw [hu0]; exact (box_below _ _ _).alloc (by simp) _
  have L0 : LC A B w pnm pa1 pn1 pc1 pa2 pn2 pc2 pa3 pn3 pc3 qnm qa1 qn1 qc1 qa2 qn2 qc2 qa3 qn3 qc3 u0 := ⟨h1.below b0, h2.below b0, by rw [hu0]; exact (Holds.new w _ _).alloc _, by rw [hu0]; have q := Holds.new (w.alloc (.cells #[.string pnm, .slice pa1 pn1 pc1, .slice pa2 pn2 pc2, .slice pa3 pn3 pc3] 26)) 26 #[.string qnm, .slice qa1 qn1 qc1, .slice qa2 qn2 qc2, .slice qa3 qn3 qc3]; simpa using q, b0, ht.on b0⟩
  have L := Lib.hid L0
  have hu0' := Lib.hid hu0
  have QL := Lib.hid HL
  have qA := Lib.hid (fun W (h : LC A B w pnm pa1 pn1 pc1 pa2 pn2 pc2 pa3 pn3 pc3 qnm qa1 qn1 qc1 qa2 qn2 qc2 qa3 qn3 qc3 W) => plarge_any _ A hA W h.p1)
  have qB := Lib.hid (fun W (h : LC A B w pnm pa1 pn1 pc1 pa2 pn2 pc2 pa3 pn3 pc3 qnm qa1 qn1 qc1 qa2 qn2 qc2 qa3 qn3 qc3 W) => plarge_any _ B hB W h.p2)
  have qc := Lib.hid (fun W (h : LC A B w pnm pa1 pn1 pc1 pa2 pn2 pc2 pa3 pn3 pc3 qnm qa1 qn1 qc1 qa2 qn2 qc2 qa3 qn3 qc3 W) => pcheck_any _ A W h.p1)
  have qs := Lib.hid (fun W (h : LC A B w pnm pa1 pn1 pc1 pa2 pn2 pc2 pa3 pn3 pc3 qnm qa1 qn1 qc1 qa2 qn2 qc2 qa3 qn3 qc3 W) => psame'_any _ _ A B W h.p1 h.p2)
  have qr := Lib.hid (fun W (h : LC A B w pnm pa1 pn1 pc1 pa2 pn2 pc2 pa3 pn3 pc3 qnm qa1 qn1 qc1 qa2 qn2 qc2 qa3 qn3 qc3 W) => psameRef_any _ _ A B W h.p1 h.p2)
  have qk := Lib.hid (fun W (h : LC A B w pnm pa1 pn1 pc1 pa2 pn2 pc2 pa3 pn3 pc3 qnm qa1 qn1 qc1 qa2 qn2 qc2 qa3 qn3 qc3 W) => rcheckP_any _ A hA W h.p1)
  have qo := Lib.hid (fun W (h : LC A B w pnm pa1 pn1 pc1 pa2 pn2 pc2 pa3 pn3 pc3 qnm qa1 qn1 qc1 qa2 qn2 qc2 qa3 qn3 qc3 W) => pOut_any _ A x W h.p1)
  have qi := Lib.hid (fun W (h : LC A B w pnm pa1 pn1 pc1 pa2 pn2 pc2 pa3 pn3 pc3 qnm qa1 qn1 qc1 qa2 qn2 qc2 qa3 qn3 qc3 W) => pInto_any _ A x W h.p1)
  have qh := Lib.hid (fun W (h : LC A B w pnm pa1 pn1 pc1 pa2 pn2 pc2 pa3 pn3 pc3 qnm qa1 qn1 qc1 qa2 qn2 qc2 qa3 qn3 qc3 W) => preach_any ⟨pnm, pa1, pn1, pc1, pa2, pn2, pc2, pa3, pn3, pc3⟩ A W h.p1)
  clear hu0 b0 L0 h1 h2 ht HL
  rw [hg] at qA
  rw [hh] at qB
  go_enter Tryz.func3, Tryz.ntmps3
  go_wp2_with fail
  rw [← hu0'.out]
  with_reducible refine (qA.out _ L.out).mono ?_
  rintro e u1 ⟨rfl, bu1⟩
  replace L := Lib.hid (L.out.below bu1)
  clear bu1 
  have y0 := L.out.b2.cell 0
  have y1 := L.out.b2.cell 1
  have y2 := L.out.b2.cell 2
  have y3 := L.out.b2.cell 3
  simp at y0 y1 y2 y3
  go_wp2_with fail
  with_reducible refine (qB.out _ L.out).mono ?_
  rintro e u2 ⟨rfl, bu2⟩
  replace L := Lib.hid (L.out.below bu2)
  clear bu2 
  clear y0 y1 y2 y3
  go_wp2_with fail
  with_reducible refine (QL.out _ L.out.tab).mono ?_
  rintro e u3 ⟨rfl, bu3⟩
  replace L := Lib.hid (L.out.below bu3)
  clear bu3 
  go_wp2
  go_ret
  exact ⟨rfl, L.out.bel⟩
set_option maxRecDepth 100000 in
set_option maxHeartbeats 8000000 in
theorem pchecks_no (pnm : ByteArray) (pa1 : Option Addr) (pn1 pc1 : Nat) (pa2 : Option Addr) (pn2 pc2 : Nat) (pa3 : Option Addr) (pn3 pc3 : Nat) (qnm : ByteArray) (qa1 : Option Addr) (qn1 qc1 : Nat) (qa2 : Option Addr) (qn2 qc2 : Nat) (qa3 : Option Addr) (qn3 qc3 : Nat) (A B : PD) (hA : PW A) (hB : PW B) (x : Int) (w : World) (ht : Tab w) (h1 : PrA w ⟨pnm, pa1, pn1, pc1, pa2, pn2, pc2, pa3, pn3, pc3⟩ A) (h2 : PrA w ⟨qnm, qa1, qn1, qc1, qa2, qn2, qc2, qa3, qn3, qc3⟩ B) (HL : ∀ W, Tab W → Calls Tryz.prog 8 #[] W (Gives (.bool true) W)) (hg : bigP A = false) (hh : bigP B = false) (hp : progB A = false) :
    Calls Tryz.prog 3 #[.agg #[.string pnm, .slice pa1 pn1 pc1, .slice pa2 pn2 pc2, .slice pa3 pn3 pc3], .agg #[.string qnm, .slice qa1 qn1 qc1, .slice qa2 qn2 qc2, .slice qa3 qn3 qc3], .int .i64 x] w (Gives (.bool true) w) := by
  obtain ⟨u0, hu0⟩ : ∃ u0, u0 = (w.alloc (.cells #[.string pnm, .slice pa1 pn1 pc1, .slice pa2 pn2 pc2, .slice pa3 pn3 pc3] 26)).alloc (.cells #[.string qnm, .slice qa1 qn1 qc1, .slice qa2 qn2 qc2, .slice qa3 qn3 qc3] 26) := ⟨_, rfl⟩
  have b0 : Below w.heap.size w u0 := by rw [hu0]; exact (box_below _ _ _).alloc (by simp) _
  have L0 : LC A B w pnm pa1 pn1 pc1 pa2 pn2 pc2 pa3 pn3 pc3 qnm qa1 qn1 qc1 qa2 qn2 qc2 qa3 qn3 qc3 u0 := ⟨h1.below b0, h2.below b0, by rw [hu0]; exact (Holds.new w _ _).alloc _, by rw [hu0]; have q := Holds.new (w.alloc (.cells #[.string pnm, .slice pa1 pn1 pc1, .slice pa2 pn2 pc2, .slice pa3 pn3 pc3] 26)) 26 #[.string qnm, .slice qa1 qn1 qc1, .slice qa2 qn2 qc2, .slice qa3 qn3 qc3]; simpa using q, b0, ht.on b0⟩
  have L := Lib.hid L0
  have hu0' := Lib.hid hu0
  have QL := Lib.hid HL
  have qA := Lib.hid (fun W (h : LC A B w pnm pa1 pn1 pc1 pa2 pn2 pc2 pa3 pn3 pc3 qnm qa1 qn1 qc1 qa2 qn2 qc2 qa3 qn3 qc3 W) => plarge_any _ A hA W h.p1)
  have qB := Lib.hid (fun W (h : LC A B w pnm pa1 pn1 pc1 pa2 pn2 pc2 pa3 pn3 pc3 qnm qa1 qn1 qc1 qa2 qn2 qc2 qa3 qn3 qc3 W) => plarge_any _ B hB W h.p2)
  have qc := Lib.hid (fun W (h : LC A B w pnm pa1 pn1 pc1 pa2 pn2 pc2 pa3 pn3 pc3 qnm qa1 qn1 qc1 qa2 qn2 qc2 qa3 qn3 qc3 W) => pcheck_any _ A W h.p1)
  have qs := Lib.hid (fun W (h : LC A B w pnm pa1 pn1 pc1 pa2 pn2 pc2 pa3 pn3 pc3 qnm qa1 qn1 qc1 qa2 qn2 qc2 qa3 qn3 qc3 W) => psame'_any _ _ A B W h.p1 h.p2)
  have qr := Lib.hid (fun W (h : LC A B w pnm pa1 pn1 pc1 pa2 pn2 pc2 pa3 pn3 pc3 qnm qa1 qn1 qc1 qa2 qn2 qc2 qa3 qn3 qc3 W) => psameRef_any _ _ A B W h.p1 h.p2)
  have qk := Lib.hid (fun W (h : LC A B w pnm pa1 pn1 pc1 pa2 pn2 pc2 pa3 pn3 pc3 qnm qa1 qn1 qc1 qa2 qn2 qc2 qa3 qn3 qc3 W) => rcheckP_any _ A hA W h.p1)
  have qo := Lib.hid (fun W (h : LC A B w pnm pa1 pn1 pc1 pa2 pn2 pc2 pa3 pn3 pc3 qnm qa1 qn1 qc1 qa2 qn2 qc2 qa3 qn3 qc3 W) => pOut_any _ A x W h.p1)
  have qi := Lib.hid (fun W (h : LC A B w pnm pa1 pn1 pc1 pa2 pn2 pc2 pa3 pn3 pc3 qnm qa1 qn1 qc1 qa2 qn2 qc2 qa3 qn3 qc3 W) => pInto_any _ A x W h.p1)
  have qh := Lib.hid (fun W (h : LC A B w pnm pa1 pn1 pc1 pa2 pn2 pc2 pa3 pn3 pc3 qnm qa1 qn1 qc1 qa2 qn2 qc2 qa3 qn3 qc3 W) => preach_any ⟨pnm, pa1, pn1, pc1, pa2, pn2, pc2, pa3, pn3, pc3⟩ A W h.p1)
  clear hu0 b0 L0 h1 h2 ht HL
  rw [hg] at qA
  rw [hh] at qB
  rw [hp] at qk
  rw [selP_no hp] at qo qi
  rw [reachP_no hp] at qh
  rw [pchk_bad hp] at qc
  generalize sameP A B = sm at *
  go_enter Tryz.func3, Tryz.ntmps3
  go_wp2_with fail
  rw [← hu0'.out]
  with_reducible refine (qA.out _ L.out).mono ?_
  rintro e u1 ⟨rfl, bu1⟩
  replace L := Lib.hid (L.out.below bu1)
  clear bu1 
  have y0 := L.out.b2.cell 0
  have y1 := L.out.b2.cell 1
  have y2 := L.out.b2.cell 2
  have y3 := L.out.b2.cell 3
  simp at y0 y1 y2 y3
  go_wp2_with fail
  with_reducible refine (qB.out _ L.out).mono ?_
  rintro e u2 ⟨rfl, bu2⟩
  replace L := Lib.hid (L.out.below bu2)
  clear bu2 
  clear y0 y1 y2 y3
  have z0 := L.out.b1.cell 0
  have z1 := L.out.b1.cell 1
  have z2 := L.out.b1.cell 2
  have z3 := L.out.b1.cell 3
  simp at z0 z1 z2 z3
  go_wp2_with fail
  with_reducible refine (qc.out _ L.out).mono ?_
  rintro e u3 ⟨rfl, bu3⟩
  replace L := Lib.hid (L.out.below bu3)
  clear bu3 
  clear z0 z1 z2 z3 
  have LF : ∀ W, Below u3.heap.size u3 W → LC A B w pnm pa1 pn1 pc1 pa2 pn2 pc2 pa3 pn3 pc3 qnm qa1 qn1 qc1 qa2 qn2 qc2 qa3 qn3 qc3 W := fun W hW => L.out.below hW
  have z0 : ∀ W, Below u3.heap.size u3 W → W.cell? ⟨w.heap.size, 0, none⟩ = some (.string pnm) := fun W hW => (LF W hW).b1.cell 0
  have z1 : ∀ W, Below u3.heap.size u3 W → W.cell? ⟨w.heap.size, 1, none⟩ = some (.slice pa1 pn1 pc1) := fun W hW => (LF W hW).b1.cell 1
  have z2 : ∀ W, Below u3.heap.size u3 W → W.cell? ⟨w.heap.size, 2, none⟩ = some (.slice pa2 pn2 pc2) := fun W hW => (LF W hW).b1.cell 2
  have z3 : ∀ W, Below u3.heap.size u3 W → W.cell? ⟨w.heap.size, 3, none⟩ = some (.slice pa3 pn3 pc3) := fun W hW => (LF W hW).b1.cell 3
  have y0 : ∀ W, Below u3.heap.size u3 W → W.cell? ⟨w.heap.size + 1, 0, none⟩ = some (.string qnm) := fun W hW => (LF W hW).b2.cell 0
  have y1 : ∀ W, Below u3.heap.size u3 W → W.cell? ⟨w.heap.size + 1, 1, none⟩ = some (.slice qa1 qn1 qc1) := fun W hW => (LF W hW).b2.cell 1
  have y2 : ∀ W, Below u3.heap.size u3 W → W.cell? ⟨w.heap.size + 1, 2, none⟩ = some (.slice qa2 qn2 qc2) := fun W hW => (LF W hW).b2.cell 2
  have y3 : ∀ W, Below u3.heap.size u3 W → W.cell? ⟨w.heap.size + 1, 3, none⟩ = some (.slice qa3 qn3 qc3) := fun W hW => (LF W hW).b2.cell 3
  go_wp2
  refine wp_drawn (by kernel_rfl) (fun hHeld => ?_)
  refine wpAnyH_ready (rs := [0]) (by kernel_rfl) (by simp) ?_
  refine AllReadyH.cons (o := { dst := some 17, op := Go.Op.call { callee := Go.Callee.value (Go.Operand.func 8), args := #[], argTypes := #[] }, type := 4, pos := "law.go:43", after := #[], guard := none }) rfl (fun K hK => ?_) AllReadyH.nil
  go_simp
  with_reducible refine (QL.out _ (LF _ hHeld).tab).mono ?_
  rintro e t0 ⟨rfl, b0⟩
  have hB0 := hHeld.trans (b0.mono hHeld.size)
  go_simp
  refine hK.out _ _ (hB0) (fun hHeld => ?_)
  clear hK K
  try simp only [Act.put, List.setIfInBounds_toArray, List.set_cons_zero, List.set_cons_succ]
  refine wpAnyH_now hHeld (fun hHeld => ?_)
  replace LF := rebase LF (hB0)
  replace z0 := rebase z0 (hB0)
  replace z1 := rebase z1 (hB0)
  replace z2 := rebase z2 (hB0)
  replace z3 := rebase z3 (hB0)
  replace y0 := rebase y0 (hB0)
  replace y1 := rebase y1 (hB0)
  replace y2 := rebase y2 (hB0)
  replace y3 := rebase y3 (hB0)
  refine wpAnyH_take (i := 1) (oi := { dst := some 18, op := Go.Op.unOp Go.UnOp.not 4 (Go.Operand.tmp 17), type := 4, pos := "law.go:43", after := #[{ on := 0, ground := Go.Ground.data }], guard := none }) (v := ?v1) rfl (by kernel_rfl) (by kernel_rfl) (by kernel_rfl) (fun _ _ _ h => h) (Or.inl ⟨by kernel_rfl, ?h1⟩) (by assumption) ?r1
  case h1 => (intro w hSw; (try dsimp only at hSw); go_simp; try with_reducible rfl)
  try simp only [Act.put, List.setIfInBounds_toArray, List.set_cons_zero, List.set_cons_succ]
  refine wpAnyH_take (i := 2) (oi := { dst := some 19, op := Go.Op.move (Go.Operand.tmp 18), type := 4, pos := "law.go:43", after := #[{ on := 1, ground := Go.Ground.data }, { on := 0, ground := Go.Ground.chain }], guard := none }) (v := ?v2) rfl (by kernel_rfl) (by kernel_rfl) (by kernel_rfl) (fun _ _ _ h => h) (Or.inl ⟨by kernel_rfl, ?h2⟩) (by assumption) ?r2
  case h2 => (intro w hSw; (try dsimp only at hSw); go_simp; try with_reducible rfl)
  try simp only [Act.put, List.setIfInBounds_toArray, List.set_cons_zero, List.set_cons_succ]
  refine wpAnyH_take (i := 3) (oi := { dst := some 20, op := Go.Op.load 26 (Go.Operand.tmp 3), type := 26, pos := "law.go:43", after := #[{ on := 2, ground := Go.Ground.guard }], guard := some (2, false) }) (v := ?v3) rfl (by kernel_rfl) (by kernel_rfl) (by kernel_rfl) (fun _ _ _ h => h) (Or.inl ⟨by kernel_rfl, ?h3⟩) (by assumption) ?r3
  case h3 => (intro w hSw; (try dsimp only at hSw); go_simp; try with_reducible rfl)
  try simp only [Act.put, List.setIfInBounds_toArray, List.set_cons_zero, List.set_cons_succ]
  refine wpAnyH_take (i := 4) (oi := { dst := some 21, op := Go.Op.load 26 (Go.Operand.tmp 4), type := 26, pos := "law.go:43", after := #[{ on := 2, ground := Go.Ground.guard }], guard := some (2, false) }) (v := ?v4) rfl (by kernel_rfl) (by kernel_rfl) (by kernel_rfl) (fun _ _ _ h => h) (Or.inl ⟨by kernel_rfl, ?h4⟩) (by assumption) ?r4
  case h4 => (intro w hSw; (try dsimp only at hSw); go_simp; try with_reducible rfl)
  try simp only [Act.put, List.setIfInBounds_toArray, List.set_cons_zero, List.set_cons_succ]
  refine wpAnyH_take (i := 6) (oi := { dst := some 23, op := Go.Op.load 26 (Go.Operand.tmp 3), type := 26, pos := "law.go:43", after := #[{ on := 2, ground := Go.Ground.guard }], guard := some (2, false) }) (v := ?v5) rfl (by kernel_rfl) (by kernel_rfl) (by kernel_rfl) (fun _ _ _ h => h) (Or.inl ⟨by kernel_rfl, ?h5⟩) (by assumption) ?r5
  case h5 => (intro w hSw; (try dsimp only at hSw); go_simp; try with_reducible rfl)
  try simp only [Act.put, List.setIfInBounds_toArray, List.set_cons_zero, List.set_cons_succ]
  refine wpAnyH_take (i := 7) (oi := { dst := some 24, op := Go.Op.load 26 (Go.Operand.tmp 4), type := 26, pos := "law.go:43", after := #[{ on := 2, ground := Go.Ground.guard }], guard := some (2, false) }) (v := ?v6) rfl (by kernel_rfl) (by kernel_rfl) (by kernel_rfl) (fun _ _ _ h => h) (Or.inl ⟨by kernel_rfl, ?h6⟩) (by assumption) ?r6
  case h6 => (intro w hSw; (try dsimp only at hSw); go_simp; try with_reducible rfl)
  try simp only [Act.put, List.setIfInBounds_toArray, List.set_cons_zero, List.set_cons_succ]
  refine wpAnyH_ready (rs := [5]) (by kernel_rfl) (by simp) ?_
  refine AllReadyH.cons (o := { dst := some 22, op := Go.Op.call { callee := Go.Callee.value (Go.Operand.func 10), args := #[Go.Operand.tmp 20, Go.Operand.tmp 21], argTypes := #[26, 26] }, type := 4, pos := "law.go:43", after := #[{ on := 3, ground := Go.Ground.data }, { on := 4, ground := Go.Ground.data }, { on := 2, ground := Go.Ground.chain }, { on := 2, ground := Go.Ground.guard }], guard := some (2, false) }) rfl (fun K hK => ?_) AllReadyH.nil
  go_simp
  with_reducible refine (qs.out _ (LF _ hHeld)).mono ?_
  rintro e t5 ⟨rfl, b5⟩
  have hB5 := hHeld.trans (b5.mono hHeld.size)
  go_simp
  refine hK.out _ _ (hB5) (fun hHeld => ?_)
  clear hK K
  try simp only [Act.put, List.setIfInBounds_toArray, List.set_cons_zero, List.set_cons_succ]
  refine wpAnyH_now hHeld (fun hHeld => ?_)
  replace LF := rebase LF (hB5)
  replace z0 := rebase z0 (hB5)
  replace z1 := rebase z1 (hB5)
  replace z2 := rebase z2 (hB5)
  replace z3 := rebase z3 (hB5)
  replace y0 := rebase y0 (hB5)
  replace y1 := rebase y1 (hB5)
  replace y2 := rebase y2 (hB5)
  replace y3 := rebase y3 (hB5)
  refine wpAnyH_ready (rs := [8]) (by kernel_rfl) (by simp) ?_
  refine AllReadyH.cons (o := { dst := some 25, op := Go.Op.call { callee := Go.Callee.value (Go.Operand.func 11), args := #[Go.Operand.tmp 23, Go.Operand.tmp 24], argTypes := #[26, 26] }, type := 4, pos := "law.go:43", after := #[{ on := 6, ground := Go.Ground.data }, { on := 7, ground := Go.Ground.data }, { on := 5, ground := Go.Ground.chain }, { on := 2, ground := Go.Ground.guard }], guard := some (2, false) }) rfl (fun K hK => ?_) AllReadyH.nil
  go_simp
  with_reducible refine (qr.out _ (LF _ hHeld)).mono ?_
  rintro e t8 ⟨rfl, b8⟩
  have hB8 := hHeld.trans (b8.mono hHeld.size)
  go_simp
  refine hK.out _ _ (hB8) (fun hHeld => ?_)
  clear hK K
  try simp only [Act.put, List.setIfInBounds_toArray, List.set_cons_zero, List.set_cons_succ]
  refine wpAnyH_now hHeld (fun hHeld => ?_)
  replace LF := rebase LF (hB8)
  replace z0 := rebase z0 (hB8)
  replace z1 := rebase z1 (hB8)
  replace z2 := rebase z2 (hB8)
  replace z3 := rebase z3 (hB8)
  replace y0 := rebase y0 (hB8)
  replace y1 := rebase y1 (hB8)
  replace y2 := rebase y2 (hB8)
  replace y3 := rebase y3 (hB8)
  refine wpAnyH_take (i := 9) (oi := { dst := some 26, op := Go.Op.binOp Go.BinOp.neq 4 (Go.Operand.tmp 22) (Go.Operand.tmp 25) 4, type := 4, pos := "law.go:43", after := #[{ on := 5, ground := Go.Ground.data }, { on := 8, ground := Go.Ground.data }, { on := 2, ground := Go.Ground.guard }], guard := some (2, false) }) (v := ?v7) rfl (by kernel_rfl) (by kernel_rfl) (by kernel_rfl) (fun _ _ _ h => h) (Or.inl ⟨by kernel_rfl, ?h7⟩) (by assumption) ?r7
  case h7 => (intro w hSw; (try dsimp only at hSw); go_simp; try with_reducible rfl)
  try simp only [Act.put, List.setIfInBounds_toArray, List.set_cons_zero, List.set_cons_succ]
  refine wpAnyH_take (i := 10) (oi := { dst := some 27, op := Go.Op.pick (Go.Operand.tmp 19) (Go.Operand.const (Go.Value.bool true)) (Go.Operand.tmp 26), type := 4, pos := "law.go:43", after := #[{ on := 2, ground := Go.Ground.data }, { on := 9, ground := Go.Ground.data }], guard := none }) (v := ?v8) rfl (by kernel_rfl) (by kernel_rfl) (by kernel_rfl) (fun _ _ _ h => h) (Or.inl ⟨by kernel_rfl, ?h8⟩) (by assumption) ?r8
  case h8 => (intro w hSw; (try dsimp only at hSw); go_simp; try with_reducible rfl)
  try simp only [Act.put, List.setIfInBounds_toArray, List.set_cons_zero, List.set_cons_succ]
  refine wpAnyH_done (by kernel_rfl) ?_ _
  replace L := Lib.hid (LF _ hHeld)
  clear z0 z1 z2 z3 y0 y1 y2 y3 LF hHeld
  have z0 := L.out.b1.cell 0
  have z1 := L.out.b1.cell 1
  have z2 := L.out.b1.cell 2
  have z3 := L.out.b1.cell 3
  simp at z0 z1 z2 z3
  go_wp2_with fail
  with_reducible refine (qk.out _ L.out).mono ?_
  rintro e u4 ⟨rfl, bu4⟩
  replace L := Lib.hid (L.out.below bu4)
  clear bu4
  clear z0 z1 z2 z3
  have z0 := L.out.b1.cell 0
  have z1 := L.out.b1.cell 1
  have z2 := L.out.b1.cell 2
  have z3 := L.out.b1.cell 3
  simp at z0 z1 z2 z3
  go_wp2_with fail
  with_reducible refine (qo.out _ L.out).mono ?_
  rintro e u5 hs
  obtain ⟨au5, cu5, rfl, bu5⟩ := slp_nil hs
  replace L := Lib.hid (L.out.below bu5)
  clear bu5 hs
  clear z0 z1 z2 z3
  have z0 := L.out.b1.cell 0
  have z1 := L.out.b1.cell 1
  have z2 := L.out.b1.cell 2
  have z3 := L.out.b1.cell 3
  simp at z0 z1 z2 z3
  go_wp2_with fail
  with_reducible refine (qi.out _ L.out).mono ?_
  rintro e u6 hs
  obtain ⟨au6, cu6, rfl, bu6⟩ := slp_nil hs
  replace L := Lib.hid (L.out.below bu6)
  clear bu6 hs
  clear z0 z1 z2 z3
  have z0 := L.out.b1.cell 0
  have z1 := L.out.b1.cell 1
  have z2 := L.out.b1.cell 2
  have z3 := L.out.b1.cell 3
  simp at z0 z1 z2 z3
  go_wp2_with fail
  with_reducible refine (qh.out _ L.out).mono ?_
  rintro e u7 hs
  obtain ⟨au7, cu7, rfl, bu7⟩ := slp_nil hs
  replace L := Lib.hid (L.out.below bu7)
  clear bu7 hs
  clear z0 z1 z2 z3
  go_wp2
  go_ret
  exact ⟨rfl, L.out.bel⟩
set_option maxRecDepth 100000 in
set_option maxHeartbeats 8000000 in
theorem pchecks_ok (pnm : ByteArray) (pa1 : Option Addr) (pn1 pc1 : Nat) (pa2 : Option Addr) (pn2 pc2 : Nat) (pa3 : Option Addr) (pn3 pc3 : Nat) (qnm : ByteArray) (qa1 : Option Addr) (qn1 qc1 : Nat) (qa2 : Option Addr) (qn2 qc2 : Nat) (qa3 : Option Addr) (qn3 qc3 : Nat) (A B : PD) (hA : PW A) (hB : PW B) (x : Int) (w : World) (ht : Tab w) (h1 : PrA w ⟨pnm, pa1, pn1, pc1, pa2, pn2, pc2, pa3, pn3, pc3⟩ A) (h2 : PrA w ⟨qnm, qa1, qn1, qc1, qa2, qn2, qc2, qa3, qn3, qc3⟩ B) (HL : ∀ W, Tab W → Calls Tryz.prog 8 #[] W (Gives (.bool true) W)) (hg : bigP A = false) (hh : bigP B = false) (hp : progB A = true) :
    Calls Tryz.prog 3 #[.agg #[.string pnm, .slice pa1 pn1 pc1, .slice pa2 pn2 pc2, .slice pa3 pn3 pc3], .agg #[.string qnm, .slice qa1 qn1 qc1, .slice qa2 qn2 qc2, .slice qa3 qn3 qc3], .int .i64 x] w (Gives (.bool true) w) := by
  obtain ⟨u0, hu0⟩ : ∃ u0, u0 = (w.alloc (.cells #[.string pnm, .slice pa1 pn1 pc1, .slice pa2 pn2 pc2, .slice pa3 pn3 pc3] 26)).alloc (.cells #[.string qnm, .slice qa1 qn1 qc1, .slice qa2 qn2 qc2, .slice qa3 qn3 qc3] 26) := ⟨_, rfl⟩
  have b0 : Below w.heap.size w u0 := by rw [hu0]; exact (box_below _ _ _).alloc (by simp) _
  have L0 : LC A B w pnm pa1 pn1 pc1 pa2 pn2 pc2 pa3 pn3 pc3 qnm qa1 qn1 qc1 qa2 qn2 qc2 qa3 qn3 qc3 u0 := ⟨h1.below b0, h2.below b0, by rw [hu0]; exact (Holds.new w _ _).alloc _, by rw [hu0]; have q := Holds.new (w.alloc (.cells #[.string pnm, .slice pa1 pn1 pc1, .slice pa2 pn2 pc2, .slice pa3 pn3 pc3] 26)) 26 #[.string qnm, .slice qa1 qn1 qc1, .slice qa2 qn2 qc2, .slice qa3 qn3 qc3]; simpa using q, b0, ht.on b0⟩
  have L := Lib.hid L0
  have hu0' := Lib.hid hu0
  have QL := Lib.hid HL
  have qA := Lib.hid (fun W (h : LC A B w pnm pa1 pn1 pc1 pa2 pn2 pc2 pa3 pn3 pc3 qnm qa1 qn1 qc1 qa2 qn2 qc2 qa3 qn3 qc3 W) => plarge_any _ A hA W h.p1)
  have qB := Lib.hid (fun W (h : LC A B w pnm pa1 pn1 pc1 pa2 pn2 pc2 pa3 pn3 pc3 qnm qa1 qn1 qc1 qa2 qn2 qc2 qa3 qn3 qc3 W) => plarge_any _ B hB W h.p2)
  have qc := Lib.hid (fun W (h : LC A B w pnm pa1 pn1 pc1 pa2 pn2 pc2 pa3 pn3 pc3 qnm qa1 qn1 qc1 qa2 qn2 qc2 qa3 qn3 qc3 W) => pcheck_any _ A W h.p1)
  have qs := Lib.hid (fun W (h : LC A B w pnm pa1 pn1 pc1 pa2 pn2 pc2 pa3 pn3 pc3 qnm qa1 qn1 qc1 qa2 qn2 qc2 qa3 qn3 qc3 W) => psame'_any _ _ A B W h.p1 h.p2)
  have qr := Lib.hid (fun W (h : LC A B w pnm pa1 pn1 pc1 pa2 pn2 pc2 pa3 pn3 pc3 qnm qa1 qn1 qc1 qa2 qn2 qc2 qa3 qn3 qc3 W) => psameRef_any _ _ A B W h.p1 h.p2)
  have qk := Lib.hid (fun W (h : LC A B w pnm pa1 pn1 pc1 pa2 pn2 pc2 pa3 pn3 pc3 qnm qa1 qn1 qc1 qa2 qn2 qc2 qa3 qn3 qc3 W) => rcheckP_any _ A hA W h.p1)
  have qo := Lib.hid (fun W (h : LC A B w pnm pa1 pn1 pc1 pa2 pn2 pc2 pa3 pn3 pc3 qnm qa1 qn1 qc1 qa2 qn2 qc2 qa3 qn3 qc3 W) => pOut_any _ A x W h.p1)
  have qi := Lib.hid (fun W (h : LC A B w pnm pa1 pn1 pc1 pa2 pn2 pc2 pa3 pn3 pc3 qnm qa1 qn1 qc1 qa2 qn2 qc2 qa3 qn3 qc3 W) => pInto_any _ A x W h.p1)
  have qh := Lib.hid (fun W (h : LC A B w pnm pa1 pn1 pc1 pa2 pn2 pc2 pa3 pn3 pc3 qnm qa1 qn1 qc1 qa2 qn2 qc2 qa3 qn3 qc3 W) => preach_any ⟨pnm, pa1, pn1, pc1, pa2, pn2, pc2, pa3, pn3, pc3⟩ A W h.p1)
  clear hu0 b0 L0 h1 h2 ht HL
  rw [hg] at qA
  rw [hh] at qB
  have hn3 : pn3 ≤ 256 := by have q : pn3 = A.edges.length := L.out.p1.edges.len; have := (prog_sizes hp).2.2; omega
  have qro := Lib.hid (fun W (h : LC A B w pnm pa1 pn1 pc1 pa2 pn2 pc2 pa3 pn3 pc3 qnm qa1 qn1 qc1 qa2 qn2 qc2 qa3 qn3 qc3 W) => rOut_any ⟨pnm, pa1, pn1, pc1, pa2, pn2, pc2, pa3, pn3, pc3⟩ A x hn3 W h.p1)
  have qri := Lib.hid (fun W (h : LC A B w pnm pa1 pn1 pc1 pa2 pn2 pc2 pa3 pn3 pc3 qnm qa1 qn1 qc1 qa2 qn2 qc2 qa3 qn3 qc3 W) => rInto_any ⟨pnm, pa1, pn1, pc1, pa2, pn2, pc2, pa3, pn3, pc3⟩ A x hn3 W h.p1)
  have qrh := Lib.hid (fun W (h : LC A B w pnm pa1 pn1 pc1 pa2 pn2 pc2 pa3 pn3 pc3 qnm qa1 qn1 qc1 qa2 qn2 qc2 qa3 qn3 qc3 W) => rreach_any ⟨pnm, pa1, pn1, pc1, pa2, pn2, pc2, pa3, pn3, pc3⟩ A hp W h.p1)
  have QN : Hid (∀ l a1 a3 n1 n3 c1 c3 W, SL W a1 n1 c1 l → SL W a3 n3 c3 l → Calls Tryz.prog 16 #[.slice a1 n1 c1, .slice a3 n3 c3] W (Gives (.bool true) W)) := Lib.hid (fun l a1 a3 n1 n3 c1 c3 W h1 h2 => by have q := pints_any a1 a3 l l n1 n3 c1 c3 W h1 h2; rw [show decide (l = l) = true by simp] at q; exact q)
  rw [hp] at qk
  rw [selP_ok hp] at qo qi
  rw [reachP_ok hp] at qh
  rw [pchk_ok hp] at qc
  generalize selL (outQ x) A.edges A.edges.length = LO at *
  generalize selL (intoQ x) A.edges A.edges.length = LI at *
  generalize intsP (reachN A) = LR at *
  generalize sameP A B = sm at *
  go_enter Tryz.func3, Tryz.ntmps3
  go_wp2_with fail
  rw [← hu0'.out]
  with_reducible refine (qA.out _ L.out).mono ?_
  rintro e u1 ⟨rfl, bu1⟩
  replace L := Lib.hid (L.out.below bu1)
  clear bu1 
  have y0 := L.out.b2.cell 0
  have y1 := L.out.b2.cell 1
  have y2 := L.out.b2.cell 2
  have y3 := L.out.b2.cell 3
  simp at y0 y1 y2 y3
  go_wp2_with fail
  with_reducible refine (qB.out _ L.out).mono ?_
  rintro e u2 ⟨rfl, bu2⟩
  replace L := Lib.hid (L.out.below bu2)
  clear bu2 
  clear y0 y1 y2 y3
  have z0 := L.out.b1.cell 0
  have z1 := L.out.b1.cell 1
  have z2 := L.out.b1.cell 2
  have z3 := L.out.b1.cell 3
  simp at z0 z1 z2 z3
  go_wp2_with fail
  with_reducible refine (qc.out _ L.out).mono ?_
  rintro e u3 ⟨rfl, bu3⟩
  replace L := Lib.hid (L.out.below bu3)
  clear bu3 
  clear z0 z1 z2 z3 
  have LF : ∀ W, Below u3.heap.size u3 W → LC A B w pnm pa1 pn1 pc1 pa2 pn2 pc2 pa3 pn3 pc3 qnm qa1 qn1 qc1 qa2 qn2 qc2 qa3 qn3 qc3 W := fun W hW => L.out.below hW
  have z0 : ∀ W, Below u3.heap.size u3 W → W.cell? ⟨w.heap.size, 0, none⟩ = some (.string pnm) := fun W hW => (LF W hW).b1.cell 0
  have z1 : ∀ W, Below u3.heap.size u3 W → W.cell? ⟨w.heap.size, 1, none⟩ = some (.slice pa1 pn1 pc1) := fun W hW => (LF W hW).b1.cell 1
  have z2 : ∀ W, Below u3.heap.size u3 W → W.cell? ⟨w.heap.size, 2, none⟩ = some (.slice pa2 pn2 pc2) := fun W hW => (LF W hW).b1.cell 2
  have z3 : ∀ W, Below u3.heap.size u3 W → W.cell? ⟨w.heap.size, 3, none⟩ = some (.slice pa3 pn3 pc3) := fun W hW => (LF W hW).b1.cell 3
  have y0 : ∀ W, Below u3.heap.size u3 W → W.cell? ⟨w.heap.size + 1, 0, none⟩ = some (.string qnm) := fun W hW => (LF W hW).b2.cell 0
  have y1 : ∀ W, Below u3.heap.size u3 W → W.cell? ⟨w.heap.size + 1, 1, none⟩ = some (.slice qa1 qn1 qc1) := fun W hW => (LF W hW).b2.cell 1
  have y2 : ∀ W, Below u3.heap.size u3 W → W.cell? ⟨w.heap.size + 1, 2, none⟩ = some (.slice qa2 qn2 qc2) := fun W hW => (LF W hW).b2.cell 2
  have y3 : ∀ W, Below u3.heap.size u3 W → W.cell? ⟨w.heap.size + 1, 3, none⟩ = some (.slice qa3 qn3 qc3) := fun W hW => (LF W hW).b2.cell 3
  go_wp2
  refine wp_drawn (by kernel_rfl) (fun hHeld => ?_)
  refine wpAnyH_ready (rs := [0]) (by kernel_rfl) (by simp) ?_
  refine AllReadyH.cons (o := { dst := some 17, op := Go.Op.call { callee := Go.Callee.value (Go.Operand.func 8), args := #[], argTypes := #[] }, type := 4, pos := "law.go:43", after := #[], guard := none }) rfl (fun K hK => ?_) AllReadyH.nil
  go_simp
  with_reducible refine (QL.out _ (LF _ hHeld).tab).mono ?_
  rintro e t0 ⟨rfl, b0⟩
  have hB0 := hHeld.trans (b0.mono hHeld.size)
  go_simp
  refine hK.out _ _ (hB0) (fun hHeld => ?_)
  clear hK K
  try simp only [Act.put, List.setIfInBounds_toArray, List.set_cons_zero, List.set_cons_succ]
  refine wpAnyH_now hHeld (fun hHeld => ?_)
  replace LF := rebase LF (hB0)
  replace z0 := rebase z0 (hB0)
  replace z1 := rebase z1 (hB0)
  replace z2 := rebase z2 (hB0)
  replace z3 := rebase z3 (hB0)
  replace y0 := rebase y0 (hB0)
  replace y1 := rebase y1 (hB0)
  replace y2 := rebase y2 (hB0)
  replace y3 := rebase y3 (hB0)
  refine wpAnyH_take (i := 1) (oi := { dst := some 18, op := Go.Op.unOp Go.UnOp.not 4 (Go.Operand.tmp 17), type := 4, pos := "law.go:43", after := #[{ on := 0, ground := Go.Ground.data }], guard := none }) (v := ?v9) rfl (by kernel_rfl) (by kernel_rfl) (by kernel_rfl) (fun _ _ _ h => h) (Or.inl ⟨by kernel_rfl, ?h9⟩) (by assumption) ?r9
  case h9 => (intro w hSw; (try dsimp only at hSw); go_simp; try with_reducible rfl)
  try simp only [Act.put, List.setIfInBounds_toArray, List.set_cons_zero, List.set_cons_succ]
  refine wpAnyH_take (i := 2) (oi := { dst := some 19, op := Go.Op.move (Go.Operand.tmp 18), type := 4, pos := "law.go:43", after := #[{ on := 1, ground := Go.Ground.data }, { on := 0, ground := Go.Ground.chain }], guard := none }) (v := ?v10) rfl (by kernel_rfl) (by kernel_rfl) (by kernel_rfl) (fun _ _ _ h => h) (Or.inl ⟨by kernel_rfl, ?h10⟩) (by assumption) ?r10
  case h10 => (intro w hSw; (try dsimp only at hSw); go_simp; try with_reducible rfl)
  try simp only [Act.put, List.setIfInBounds_toArray, List.set_cons_zero, List.set_cons_succ]
  refine wpAnyH_take (i := 3) (oi := { dst := some 20, op := Go.Op.load 26 (Go.Operand.tmp 3), type := 26, pos := "law.go:43", after := #[{ on := 2, ground := Go.Ground.guard }], guard := some (2, false) }) (v := ?v11) rfl (by kernel_rfl) (by kernel_rfl) (by kernel_rfl) (fun _ _ _ h => h) (Or.inl ⟨by kernel_rfl, ?h11⟩) (by assumption) ?r11
  case h11 => (intro w hSw; (try dsimp only at hSw); go_simp; try with_reducible rfl)
  try simp only [Act.put, List.setIfInBounds_toArray, List.set_cons_zero, List.set_cons_succ]
  refine wpAnyH_take (i := 4) (oi := { dst := some 21, op := Go.Op.load 26 (Go.Operand.tmp 4), type := 26, pos := "law.go:43", after := #[{ on := 2, ground := Go.Ground.guard }], guard := some (2, false) }) (v := ?v12) rfl (by kernel_rfl) (by kernel_rfl) (by kernel_rfl) (fun _ _ _ h => h) (Or.inl ⟨by kernel_rfl, ?h12⟩) (by assumption) ?r12
  case h12 => (intro w hSw; (try dsimp only at hSw); go_simp; try with_reducible rfl)
  try simp only [Act.put, List.setIfInBounds_toArray, List.set_cons_zero, List.set_cons_succ]
  refine wpAnyH_take (i := 6) (oi := { dst := some 23, op := Go.Op.load 26 (Go.Operand.tmp 3), type := 26, pos := "law.go:43", after := #[{ on := 2, ground := Go.Ground.guard }], guard := some (2, false) }) (v := ?v13) rfl (by kernel_rfl) (by kernel_rfl) (by kernel_rfl) (fun _ _ _ h => h) (Or.inl ⟨by kernel_rfl, ?h13⟩) (by assumption) ?r13
  case h13 => (intro w hSw; (try dsimp only at hSw); go_simp; try with_reducible rfl)
  try simp only [Act.put, List.setIfInBounds_toArray, List.set_cons_zero, List.set_cons_succ]
  refine wpAnyH_take (i := 7) (oi := { dst := some 24, op := Go.Op.load 26 (Go.Operand.tmp 4), type := 26, pos := "law.go:43", after := #[{ on := 2, ground := Go.Ground.guard }], guard := some (2, false) }) (v := ?v14) rfl (by kernel_rfl) (by kernel_rfl) (by kernel_rfl) (fun _ _ _ h => h) (Or.inl ⟨by kernel_rfl, ?h14⟩) (by assumption) ?r14
  case h14 => (intro w hSw; (try dsimp only at hSw); go_simp; try with_reducible rfl)
  try simp only [Act.put, List.setIfInBounds_toArray, List.set_cons_zero, List.set_cons_succ]
  refine wpAnyH_ready (rs := [5]) (by kernel_rfl) (by simp) ?_
  refine AllReadyH.cons (o := { dst := some 22, op := Go.Op.call { callee := Go.Callee.value (Go.Operand.func 10), args := #[Go.Operand.tmp 20, Go.Operand.tmp 21], argTypes := #[26, 26] }, type := 4, pos := "law.go:43", after := #[{ on := 3, ground := Go.Ground.data }, { on := 4, ground := Go.Ground.data }, { on := 2, ground := Go.Ground.chain }, { on := 2, ground := Go.Ground.guard }], guard := some (2, false) }) rfl (fun K hK => ?_) AllReadyH.nil
  go_simp
  with_reducible refine (qs.out _ (LF _ hHeld)).mono ?_
  rintro e t5 ⟨rfl, b5⟩
  have hB5 := hHeld.trans (b5.mono hHeld.size)
  go_simp
  refine hK.out _ _ (hB5) (fun hHeld => ?_)
  clear hK K
  try simp only [Act.put, List.setIfInBounds_toArray, List.set_cons_zero, List.set_cons_succ]
  refine wpAnyH_now hHeld (fun hHeld => ?_)
  replace LF := rebase LF (hB5)
  replace z0 := rebase z0 (hB5)
  replace z1 := rebase z1 (hB5)
  replace z2 := rebase z2 (hB5)
  replace z3 := rebase z3 (hB5)
  replace y0 := rebase y0 (hB5)
  replace y1 := rebase y1 (hB5)
  replace y2 := rebase y2 (hB5)
  replace y3 := rebase y3 (hB5)
  refine wpAnyH_ready (rs := [8]) (by kernel_rfl) (by simp) ?_
  refine AllReadyH.cons (o := { dst := some 25, op := Go.Op.call { callee := Go.Callee.value (Go.Operand.func 11), args := #[Go.Operand.tmp 23, Go.Operand.tmp 24], argTypes := #[26, 26] }, type := 4, pos := "law.go:43", after := #[{ on := 6, ground := Go.Ground.data }, { on := 7, ground := Go.Ground.data }, { on := 5, ground := Go.Ground.chain }, { on := 2, ground := Go.Ground.guard }], guard := some (2, false) }) rfl (fun K hK => ?_) AllReadyH.nil
  go_simp
  with_reducible refine (qr.out _ (LF _ hHeld)).mono ?_
  rintro e t8 ⟨rfl, b8⟩
  have hB8 := hHeld.trans (b8.mono hHeld.size)
  go_simp
  refine hK.out _ _ (hB8) (fun hHeld => ?_)
  clear hK K
  try simp only [Act.put, List.setIfInBounds_toArray, List.set_cons_zero, List.set_cons_succ]
  refine wpAnyH_now hHeld (fun hHeld => ?_)
  replace LF := rebase LF (hB8)
  replace z0 := rebase z0 (hB8)
  replace z1 := rebase z1 (hB8)
  replace z2 := rebase z2 (hB8)
  replace z3 := rebase z3 (hB8)
  replace y0 := rebase y0 (hB8)
  replace y1 := rebase y1 (hB8)
  replace y2 := rebase y2 (hB8)
  replace y3 := rebase y3 (hB8)
  refine wpAnyH_take (i := 9) (oi := { dst := some 26, op := Go.Op.binOp Go.BinOp.neq 4 (Go.Operand.tmp 22) (Go.Operand.tmp 25) 4, type := 4, pos := "law.go:43", after := #[{ on := 5, ground := Go.Ground.data }, { on := 8, ground := Go.Ground.data }, { on := 2, ground := Go.Ground.guard }], guard := some (2, false) }) (v := ?v15) rfl (by kernel_rfl) (by kernel_rfl) (by kernel_rfl) (fun _ _ _ h => h) (Or.inl ⟨by kernel_rfl, ?h15⟩) (by assumption) ?r15
  case h15 => (intro w hSw; (try dsimp only at hSw); go_simp; try with_reducible rfl)
  try simp only [Act.put, List.setIfInBounds_toArray, List.set_cons_zero, List.set_cons_succ]
  refine wpAnyH_take (i := 10) (oi := { dst := some 27, op := Go.Op.pick (Go.Operand.tmp 19) (Go.Operand.const (Go.Value.bool true)) (Go.Operand.tmp 26), type := 4, pos := "law.go:43", after := #[{ on := 2, ground := Go.Ground.data }, { on := 9, ground := Go.Ground.data }], guard := none }) (v := ?v16) rfl (by kernel_rfl) (by kernel_rfl) (by kernel_rfl) (fun _ _ _ h => h) (Or.inl ⟨by kernel_rfl, ?h16⟩) (by assumption) ?r16
  case h16 => (intro w hSw; (try dsimp only at hSw); go_simp; try with_reducible rfl)
  try simp only [Act.put, List.setIfInBounds_toArray, List.set_cons_zero, List.set_cons_succ]
  refine wpAnyH_done (by kernel_rfl) ?_ _
  replace L := Lib.hid (LF _ hHeld)
  clear z0 z1 z2 z3 y0 y1 y2 y3 LF hHeld
  have z0 := L.out.b1.cell 0
  have z1 := L.out.b1.cell 1
  have z2 := L.out.b1.cell 2
  have z3 := L.out.b1.cell 3
  simp at z0 z1 z2 z3
  go_wp2_with fail
  with_reducible refine (qk.out _ L.out).mono ?_
  rintro e u4 ⟨rfl, bu4⟩
  replace L := Lib.hid (L.out.below bu4)
  clear bu4
  clear z0 z1 z2 z3
  have LF : ∀ W, Below u4.heap.size u4 W → LC A B w pnm pa1 pn1 pc1 pa2 pn2 pc2 pa3 pn3 pc3 qnm qa1 qn1 qc1 qa2 qn2 qc2 qa3 qn3 qc3 W := fun W hW => L.out.below hW
  have z0 : ∀ W, Below u4.heap.size u4 W → W.cell? ⟨w.heap.size, 0, none⟩ = some (.string pnm) := fun W hW => (LF W hW).b1.cell 0
  have z1 : ∀ W, Below u4.heap.size u4 W → W.cell? ⟨w.heap.size, 1, none⟩ = some (.slice pa1 pn1 pc1) := fun W hW => (LF W hW).b1.cell 1
  have z2 : ∀ W, Below u4.heap.size u4 W → W.cell? ⟨w.heap.size, 2, none⟩ = some (.slice pa2 pn2 pc2) := fun W hW => (LF W hW).b1.cell 2
  have z3 : ∀ W, Below u4.heap.size u4 W → W.cell? ⟨w.heap.size, 3, none⟩ = some (.slice pa3 pn3 pc3) := fun W hW => (LF W hW).b1.cell 3
  have y0 : ∀ W, Below u4.heap.size u4 W → W.cell? ⟨w.heap.size + 1, 0, none⟩ = some (.string qnm) := fun W hW => (LF W hW).b2.cell 0
  have y1 : ∀ W, Below u4.heap.size u4 W → W.cell? ⟨w.heap.size + 1, 1, none⟩ = some (.slice qa1 qn1 qc1) := fun W hW => (LF W hW).b2.cell 1
  have y2 : ∀ W, Below u4.heap.size u4 W → W.cell? ⟨w.heap.size + 1, 2, none⟩ = some (.slice qa2 qn2 qc2) := fun W hW => (LF W hW).b2.cell 2
  have y3 : ∀ W, Below u4.heap.size u4 W → W.cell? ⟨w.heap.size + 1, 3, none⟩ = some (.slice qa3 qn3 qc3) := fun W hW => (LF W hW).b2.cell 3
  go_wp2
  refine wp_drawn (by kernel_rfl) (fun hHeld => ?_)
  refine wpAnyH_take (i := 0) (oi := { dst := some 53, op := Go.Op.move (Go.Operand.tmp 7), type := 29, pos := "law.go:49", after := #[], guard := none }) (v := ?v17) rfl (by kernel_rfl) (by kernel_rfl) (by kernel_rfl) (fun _ _ _ h => h) (Or.inl ⟨by kernel_rfl, ?h17⟩) (by assumption) ?r17
  case h17 => (intro w hSw; (try dsimp only at hSw); go_simp; try with_reducible rfl)
  try simp only [Act.put, List.setIfInBounds_toArray, List.set_cons_zero, List.set_cons_succ]
  refine wpAnyH_take (i := 1) (oi := { dst := some 54, op := Go.Op.binOp Go.BinOp.eql 29 (Go.Operand.tmp 53) (Go.Operand.const (Go.Value.int Go.IntKind.i64 0)) 29, type := 4, pos := "law.go:49", after := #[{ on := 0, ground := Go.Ground.data }], guard := none }) (v := ?v18) rfl (by kernel_rfl) (by kernel_rfl) (by kernel_rfl) (fun _ _ _ h => h) (Or.inl ⟨by kernel_rfl, ?h18⟩) (by assumption) ?r18
  case h18 => (intro w hSw; (try dsimp only at hSw); go_simp; try with_reducible rfl)
  try simp only [Act.put, List.setIfInBounds_toArray, List.set_cons_zero, List.set_cons_succ]
  refine wpAnyH_take (i := 2) (oi := { dst := some 55, op := Go.Op.move (Go.Operand.tmp 54), type := 4, pos := "law.go:49", after := #[{ on := 1, ground := Go.Ground.data }], guard := none }) (v := ?v19) rfl (by kernel_rfl) (by kernel_rfl) (by kernel_rfl) (fun _ _ _ h => h) (Or.inl ⟨by kernel_rfl, ?h19⟩) (by assumption) ?r19
  case h19 => (intro w hSw; (try dsimp only at hSw); go_simp; try with_reducible rfl)
  try simp only [Act.put, List.setIfInBounds_toArray, List.set_cons_zero, List.set_cons_succ]
  refine wpAnyH_take (i := 3) (oi := { dst := some 56, op := Go.Op.load 26 (Go.Operand.tmp 3), type := 26, pos := "law.go:49", after := #[{ on := 2, ground := Go.Ground.guard }], guard := some (2, true) }) (v := ?v20) rfl (by kernel_rfl) (by kernel_rfl) (by kernel_rfl) (fun _ _ _ h => h) (Or.inl ⟨by kernel_rfl, ?h20⟩) (by assumption) ?r20
  case h20 => (intro w hSw; (try dsimp only at hSw); go_simp; try with_reducible rfl)
  try simp only [Act.put, List.setIfInBounds_toArray, List.set_cons_zero, List.set_cons_succ]
  refine wpAnyH_take (i := 4) (oi := { dst := some 57, op := Go.Op.move (Go.Operand.tmp 2), type := 3, pos := "law.go:49", after := #[{ on := 2, ground := Go.Ground.guard }], guard := some (2, true) }) (v := ?v21) rfl (by kernel_rfl) (by kernel_rfl) (by kernel_rfl) (fun _ _ _ h => h) (Or.inl ⟨by kernel_rfl, ?h21⟩) (by assumption) ?r21
  case h21 => (intro w hSw; (try dsimp only at hSw); go_simp; try with_reducible rfl)
  try simp only [Act.put, List.setIfInBounds_toArray, List.set_cons_zero, List.set_cons_succ]
  refine wpAnyH_take (i := 6) (oi := { dst := some 59, op := Go.Op.load 26 (Go.Operand.tmp 3), type := 26, pos := "law.go:49", after := #[{ on := 2, ground := Go.Ground.guard }], guard := some (2, true) }) (v := ?v22) rfl (by kernel_rfl) (by kernel_rfl) (by kernel_rfl) (fun _ _ _ h => h) (Or.inl ⟨by kernel_rfl, ?h22⟩) (by assumption) ?r22
  case h22 => (intro w hSw; (try dsimp only at hSw); go_simp; try with_reducible rfl)
  try simp only [Act.put, List.setIfInBounds_toArray, List.set_cons_zero, List.set_cons_succ]
  refine wpAnyH_take (i := 7) (oi := { dst := some 60, op := Go.Op.move (Go.Operand.tmp 2), type := 3, pos := "law.go:49", after := #[{ on := 2, ground := Go.Ground.guard }], guard := some (2, true) }) (v := ?v23) rfl (by kernel_rfl) (by kernel_rfl) (by kernel_rfl) (fun _ _ _ h => h) (Or.inl ⟨by kernel_rfl, ?h23⟩) (by assumption) ?r23
  case h23 => (intro w hSw; (try dsimp only at hSw); go_simp; try with_reducible rfl)
  try simp only [Act.put, List.setIfInBounds_toArray, List.set_cons_zero, List.set_cons_succ]
  refine wpAnyH_ready (rs := [5]) (by kernel_rfl) (by simp) ?_
  refine AllReadyH.cons (o := { dst := some 58, op := Go.Op.call { callee := Go.Callee.value (Go.Operand.func 13), args := #[Go.Operand.tmp 56, Go.Operand.tmp 57], argTypes := #[26, 3] }, type := 32, pos := "law.go:49", after := #[{ on := 3, ground := Go.Ground.data }, { on := 4, ground := Go.Ground.data }, { on := 2, ground := Go.Ground.chain }, { on := 2, ground := Go.Ground.guard }], guard := some (2, true) }) rfl (fun K hK => ?_) AllReadyH.nil
  go_simp
  with_reducible refine (qo.out _ (LF _ hHeld)).mono ?_
  rintro e t5 ⟨aMO, nMO, cMO, rfl, sMO', b5⟩
  have hB5 := hHeld.trans (b5.mono hHeld.size)
  have MO : ∀ W, Below t5.heap.size t5 W → SL W aMO nMO cMO LO := fun W hW => sMO'.below hW
  go_simp
  refine hK.out _ _ (hB5) (fun hHeld => ?_)
  clear hK K
  try simp only [Act.put, List.setIfInBounds_toArray, List.set_cons_zero, List.set_cons_succ]
  refine wpAnyH_now hHeld (fun hHeld => ?_)
  replace LF := rebase LF (hB5)
  replace z0 := rebase z0 (hB5)
  replace z1 := rebase z1 (hB5)
  replace z2 := rebase z2 (hB5)
  replace z3 := rebase z3 (hB5)
  replace y0 := rebase y0 (hB5)
  replace y1 := rebase y1 (hB5)
  replace y2 := rebase y2 (hB5)
  replace y3 := rebase y3 (hB5)
  refine wpAnyH_ready (rs := [8]) (by kernel_rfl) (by simp) ?_
  refine AllReadyH.cons (o := { dst := some 61, op := Go.Op.call { callee := Go.Callee.value (Go.Operand.func 17), args := #[Go.Operand.tmp 59, Go.Operand.tmp 60], argTypes := #[26, 3] }, type := 32, pos := "law.go:49", after := #[{ on := 6, ground := Go.Ground.data }, { on := 7, ground := Go.Ground.data }, { on := 5, ground := Go.Ground.chain }, { on := 2, ground := Go.Ground.guard }], guard := some (2, true) }) rfl (fun K hK => ?_) AllReadyH.nil
  go_simp
  with_reducible refine (qro.out _ (LF _ hHeld)).mono ?_
  rintro e t8 ⟨aMOr, nMOr, cMOr, rfl, sMOr', b8⟩
  have hB8 := hHeld.trans (b8.mono hHeld.size)
  have MOr : ∀ W, Below t8.heap.size t8 W → SL W aMOr nMOr cMOr LO := fun W hW => sMOr'.below hW
  go_simp
  refine hK.out _ _ (hB8) (fun hHeld => ?_)
  clear hK K
  try simp only [Act.put, List.setIfInBounds_toArray, List.set_cons_zero, List.set_cons_succ]
  refine wpAnyH_now hHeld (fun hHeld => ?_)
  replace LF := rebase LF (hB8)
  replace z0 := rebase z0 (hB8)
  replace z1 := rebase z1 (hB8)
  replace z2 := rebase z2 (hB8)
  replace z3 := rebase z3 (hB8)
  replace y0 := rebase y0 (hB8)
  replace y1 := rebase y1 (hB8)
  replace y2 := rebase y2 (hB8)
  replace y3 := rebase y3 (hB8)
  replace MO := rebase MO (hB8)
  refine wpAnyH_ready (rs := [9]) (by kernel_rfl) (by simp) ?_
  refine AllReadyH.cons (o := { dst := some 62, op := Go.Op.call { callee := Go.Callee.value (Go.Operand.func 16), args := #[Go.Operand.tmp 58, Go.Operand.tmp 61], argTypes := #[32, 32] }, type := 4, pos := "law.go:49", after := #[{ on := 5, ground := Go.Ground.data }, { on := 8, ground := Go.Ground.data }, { on := 8, ground := Go.Ground.chain }, { on := 2, ground := Go.Ground.guard }], guard := some (2, true) }) rfl (fun K hK => ?_) AllReadyH.nil
  go_simp
  with_reducible refine (QN.out _ _ _ _ _ _ _ _ (MO _ hHeld) (MOr _ hHeld)).mono ?_
  rintro e t9 ⟨rfl, b9⟩
  have hB9 := hHeld.trans (b9.mono hHeld.size)
  go_simp
  refine hK.out _ _ (hB9) (fun hHeld => ?_)
  clear hK K
  try simp only [Act.put, List.setIfInBounds_toArray, List.set_cons_zero, List.set_cons_succ]
  refine wpAnyH_now hHeld (fun hHeld => ?_)
  replace LF := rebase LF (hB9)
  replace z0 := rebase z0 (hB9)
  replace z1 := rebase z1 (hB9)
  replace z2 := rebase z2 (hB9)
  replace z3 := rebase z3 (hB9)
  replace y0 := rebase y0 (hB9)
  replace y1 := rebase y1 (hB9)
  replace y2 := rebase y2 (hB9)
  replace y3 := rebase y3 (hB9)
  replace MO := rebase MO (hB9)
  replace MOr := rebase MOr (hB9)
  refine wpAnyH_take (i := 10) (oi := { dst := some 63, op := Go.Op.pick (Go.Operand.tmp 55) (Go.Operand.tmp 62) (Go.Operand.const (Go.Value.bool false)), type := 4, pos := "law.go:49", after := #[{ on := 2, ground := Go.Ground.data }, { on := 9, ground := Go.Ground.data }], guard := none }) (v := ?v24) rfl (by kernel_rfl) (by kernel_rfl) (by kernel_rfl) (fun _ _ _ h => h) (Or.inl ⟨by kernel_rfl, ?h24⟩) (by assumption) ?r24
  case h24 => (intro w hSw; (try dsimp only at hSw); go_simp; try with_reducible rfl)
  try simp only [Act.put, List.setIfInBounds_toArray, List.set_cons_zero, List.set_cons_succ]
  refine wpAnyH_take (i := 11) (oi := { dst := some 64, op := Go.Op.move (Go.Operand.tmp 63), type := 4, pos := "law.go:49", after := #[{ on := 10, ground := Go.Ground.data }, { on := 9, ground := Go.Ground.chain }], guard := none }) (v := ?v25) rfl (by kernel_rfl) (by kernel_rfl) (by kernel_rfl) (fun _ _ _ h => h) (Or.inl ⟨by kernel_rfl, ?h25⟩) (by assumption) ?r25
  case h25 => (intro w hSw; (try dsimp only at hSw); go_simp; try with_reducible rfl)
  try simp only [Act.put, List.setIfInBounds_toArray, List.set_cons_zero, List.set_cons_succ]
  refine wpAnyH_take (i := 12) (oi := { dst := some 65, op := Go.Op.load 26 (Go.Operand.tmp 3), type := 26, pos := "law.go:49", after := #[{ on := 11, ground := Go.Ground.guard }], guard := some (11, true) }) (v := ?v26) rfl (by kernel_rfl) (by kernel_rfl) (by kernel_rfl) (fun _ _ _ h => h) (Or.inl ⟨by kernel_rfl, ?h26⟩) (by assumption) ?r26
  case h26 => (intro w hSw; (try dsimp only at hSw); go_simp; try with_reducible rfl)
  try simp only [Act.put, List.setIfInBounds_toArray, List.set_cons_zero, List.set_cons_succ]
  refine wpAnyH_take (i := 13) (oi := { dst := some 66, op := Go.Op.move (Go.Operand.tmp 2), type := 3, pos := "law.go:49", after := #[{ on := 11, ground := Go.Ground.guard }], guard := some (11, true) }) (v := ?v27) rfl (by kernel_rfl) (by kernel_rfl) (by kernel_rfl) (fun _ _ _ h => h) (Or.inl ⟨by kernel_rfl, ?h27⟩) (by assumption) ?r27
  case h27 => (intro w hSw; (try dsimp only at hSw); go_simp; try with_reducible rfl)
  try simp only [Act.put, List.setIfInBounds_toArray, List.set_cons_zero, List.set_cons_succ]
  refine wpAnyH_take (i := 15) (oi := { dst := some 68, op := Go.Op.load 26 (Go.Operand.tmp 3), type := 26, pos := "law.go:49", after := #[{ on := 11, ground := Go.Ground.guard }], guard := some (11, true) }) (v := ?v28) rfl (by kernel_rfl) (by kernel_rfl) (by kernel_rfl) (fun _ _ _ h => h) (Or.inl ⟨by kernel_rfl, ?h28⟩) (by assumption) ?r28
  case h28 => (intro w hSw; (try dsimp only at hSw); go_simp; try with_reducible rfl)
  try simp only [Act.put, List.setIfInBounds_toArray, List.set_cons_zero, List.set_cons_succ]
  refine wpAnyH_take (i := 16) (oi := { dst := some 69, op := Go.Op.move (Go.Operand.tmp 2), type := 3, pos := "law.go:49", after := #[{ on := 11, ground := Go.Ground.guard }], guard := some (11, true) }) (v := ?v29) rfl (by kernel_rfl) (by kernel_rfl) (by kernel_rfl) (fun _ _ _ h => h) (Or.inl ⟨by kernel_rfl, ?h29⟩) (by assumption) ?r29
  case h29 => (intro w hSw; (try dsimp only at hSw); go_simp; try with_reducible rfl)
  try simp only [Act.put, List.setIfInBounds_toArray, List.set_cons_zero, List.set_cons_succ]
  refine wpAnyH_ready (rs := [14]) (by kernel_rfl) (by simp) ?_
  refine AllReadyH.cons (o := { dst := some 67, op := Go.Op.call { callee := Go.Callee.value (Go.Operand.func 14), args := #[Go.Operand.tmp 65, Go.Operand.tmp 66], argTypes := #[26, 3] }, type := 32, pos := "law.go:49", after := #[{ on := 12, ground := Go.Ground.data }, { on := 13, ground := Go.Ground.data }, { on := 11, ground := Go.Ground.chain }, { on := 11, ground := Go.Ground.guard }], guard := some (11, true) }) rfl (fun K hK => ?_) AllReadyH.nil
  go_simp
  with_reducible refine (qi.out _ (LF _ hHeld)).mono ?_
  rintro e t14 ⟨aMI, nMI, cMI, rfl, sMI', b14⟩
  have hB14 := hHeld.trans (b14.mono hHeld.size)
  have MI : ∀ W, Below t14.heap.size t14 W → SL W aMI nMI cMI LI := fun W hW => sMI'.below hW
  go_simp
  refine hK.out _ _ (hB14) (fun hHeld => ?_)
  clear hK K
  try simp only [Act.put, List.setIfInBounds_toArray, List.set_cons_zero, List.set_cons_succ]
  refine wpAnyH_now hHeld (fun hHeld => ?_)
  replace LF := rebase LF (hB14)
  replace z0 := rebase z0 (hB14)
  replace z1 := rebase z1 (hB14)
  replace z2 := rebase z2 (hB14)
  replace z3 := rebase z3 (hB14)
  replace y0 := rebase y0 (hB14)
  replace y1 := rebase y1 (hB14)
  replace y2 := rebase y2 (hB14)
  replace y3 := rebase y3 (hB14)
  replace MO := rebase MO (hB14)
  replace MOr := rebase MOr (hB14)
  refine wpAnyH_ready (rs := [17]) (by kernel_rfl) (by simp) ?_
  refine AllReadyH.cons (o := { dst := some 70, op := Go.Op.call { callee := Go.Callee.value (Go.Operand.func 18), args := #[Go.Operand.tmp 68, Go.Operand.tmp 69], argTypes := #[26, 3] }, type := 32, pos := "law.go:49", after := #[{ on := 15, ground := Go.Ground.data }, { on := 16, ground := Go.Ground.data }, { on := 14, ground := Go.Ground.chain }, { on := 11, ground := Go.Ground.guard }], guard := some (11, true) }) rfl (fun K hK => ?_) AllReadyH.nil
  go_simp
  with_reducible refine (qri.out _ (LF _ hHeld)).mono ?_
  rintro e t17 ⟨aMIr, nMIr, cMIr, rfl, sMIr', b17⟩
  have hB17 := hHeld.trans (b17.mono hHeld.size)
  have MIr : ∀ W, Below t17.heap.size t17 W → SL W aMIr nMIr cMIr LI := fun W hW => sMIr'.below hW
  go_simp
  refine hK.out _ _ (hB17) (fun hHeld => ?_)
  clear hK K
  try simp only [Act.put, List.setIfInBounds_toArray, List.set_cons_zero, List.set_cons_succ]
  refine wpAnyH_now hHeld (fun hHeld => ?_)
  replace LF := rebase LF (hB17)
  replace z0 := rebase z0 (hB17)
  replace z1 := rebase z1 (hB17)
  replace z2 := rebase z2 (hB17)
  replace z3 := rebase z3 (hB17)
  replace y0 := rebase y0 (hB17)
  replace y1 := rebase y1 (hB17)
  replace y2 := rebase y2 (hB17)
  replace y3 := rebase y3 (hB17)
  replace MO := rebase MO (hB17)
  replace MOr := rebase MOr (hB17)
  replace MI := rebase MI (hB17)
  refine wpAnyH_ready (rs := [18]) (by kernel_rfl) (by simp) ?_
  refine AllReadyH.cons (o := { dst := some 71, op := Go.Op.call { callee := Go.Callee.value (Go.Operand.func 16), args := #[Go.Operand.tmp 67, Go.Operand.tmp 70], argTypes := #[32, 32] }, type := 4, pos := "law.go:49", after := #[{ on := 14, ground := Go.Ground.data }, { on := 17, ground := Go.Ground.data }, { on := 17, ground := Go.Ground.chain }, { on := 11, ground := Go.Ground.guard }], guard := some (11, true) }) rfl (fun K hK => ?_) AllReadyH.nil
  go_simp
  with_reducible refine (QN.out _ _ _ _ _ _ _ _ (MI _ hHeld) (MIr _ hHeld)).mono ?_
  rintro e t18 ⟨rfl, b18⟩
  have hB18 := hHeld.trans (b18.mono hHeld.size)
  go_simp
  refine hK.out _ _ (hB18) (fun hHeld => ?_)
  clear hK K
  try simp only [Act.put, List.setIfInBounds_toArray, List.set_cons_zero, List.set_cons_succ]
  refine wpAnyH_now hHeld (fun hHeld => ?_)
  replace LF := rebase LF (hB18)
  replace z0 := rebase z0 (hB18)
  replace z1 := rebase z1 (hB18)
  replace z2 := rebase z2 (hB18)
  replace z3 := rebase z3 (hB18)
  replace y0 := rebase y0 (hB18)
  replace y1 := rebase y1 (hB18)
  replace y2 := rebase y2 (hB18)
  replace y3 := rebase y3 (hB18)
  replace MO := rebase MO (hB18)
  replace MOr := rebase MOr (hB18)
  replace MI := rebase MI (hB18)
  replace MIr := rebase MIr (hB18)
  refine wpAnyH_take (i := 19) (oi := { dst := some 72, op := Go.Op.pick (Go.Operand.tmp 64) (Go.Operand.tmp 71) (Go.Operand.const (Go.Value.bool false)), type := 4, pos := "law.go:49", after := #[{ on := 11, ground := Go.Ground.data }, { on := 18, ground := Go.Ground.data }], guard := none }) (v := ?v30) rfl (by kernel_rfl) (by kernel_rfl) (by kernel_rfl) (fun _ _ _ h => h) (Or.inl ⟨by kernel_rfl, ?h30⟩) (by assumption) ?r30
  case h30 => (intro w hSw; (try dsimp only at hSw); go_simp; try with_reducible rfl)
  try simp only [Act.put, List.setIfInBounds_toArray, List.set_cons_zero, List.set_cons_succ]
  refine wpAnyH_take (i := 20) (oi := { dst := some 73, op := Go.Op.move (Go.Operand.tmp 72), type := 4, pos := "law.go:49", after := #[{ on := 19, ground := Go.Ground.data }, { on := 18, ground := Go.Ground.chain }], guard := none }) (v := ?v31) rfl (by kernel_rfl) (by kernel_rfl) (by kernel_rfl) (fun _ _ _ h => h) (Or.inl ⟨by kernel_rfl, ?h31⟩) (by assumption) ?r31
  case h31 => (intro w hSw; (try dsimp only at hSw); go_simp; try with_reducible rfl)
  try simp only [Act.put, List.setIfInBounds_toArray, List.set_cons_zero, List.set_cons_succ]
  refine wpAnyH_take (i := 21) (oi := { dst := some 74, op := Go.Op.load 26 (Go.Operand.tmp 3), type := 26, pos := "law.go:49", after := #[{ on := 20, ground := Go.Ground.guard }], guard := some (20, true) }) (v := ?v32) rfl (by kernel_rfl) (by kernel_rfl) (by kernel_rfl) (fun _ _ _ h => h) (Or.inl ⟨by kernel_rfl, ?h32⟩) (by assumption) ?r32
  case h32 => (intro w hSw; (try dsimp only at hSw); go_simp; try with_reducible rfl)
  try simp only [Act.put, List.setIfInBounds_toArray, List.set_cons_zero, List.set_cons_succ]
  refine wpAnyH_take (i := 23) (oi := { dst := some 76, op := Go.Op.load 26 (Go.Operand.tmp 3), type := 26, pos := "law.go:49", after := #[{ on := 20, ground := Go.Ground.guard }], guard := some (20, true) }) (v := ?v33) rfl (by kernel_rfl) (by kernel_rfl) (by kernel_rfl) (fun _ _ _ h => h) (Or.inl ⟨by kernel_rfl, ?h33⟩) (by assumption) ?r33
  case h33 => (intro w hSw; (try dsimp only at hSw); go_simp; try with_reducible rfl)
  try simp only [Act.put, List.setIfInBounds_toArray, List.set_cons_zero, List.set_cons_succ]
  refine wpAnyH_ready (rs := [22]) (by kernel_rfl) (by simp) ?_
  refine AllReadyH.cons (o := { dst := some 75, op := Go.Op.call { callee := Go.Callee.value (Go.Operand.func 15), args := #[Go.Operand.tmp 74], argTypes := #[26] }, type := 32, pos := "law.go:49", after := #[{ on := 21, ground := Go.Ground.data }, { on := 20, ground := Go.Ground.chain }, { on := 20, ground := Go.Ground.guard }], guard := some (20, true) }) rfl (fun K hK => ?_) AllReadyH.nil
  go_simp
  with_reducible refine (qh.out _ (LF _ hHeld)).mono ?_
  rintro e t22 ⟨aMR, nMR, cMR, rfl, sMR', b22⟩
  have hB22 := hHeld.trans (b22.mono hHeld.size)
  have MR : ∀ W, Below t22.heap.size t22 W → SL W aMR nMR cMR LR := fun W hW => sMR'.below hW
  go_simp
  refine hK.out _ _ (hB22) (fun hHeld => ?_)
  clear hK K
  try simp only [Act.put, List.setIfInBounds_toArray, List.set_cons_zero, List.set_cons_succ]
  refine wpAnyH_now hHeld (fun hHeld => ?_)
  replace LF := rebase LF (hB22)
  replace z0 := rebase z0 (hB22)
  replace z1 := rebase z1 (hB22)
  replace z2 := rebase z2 (hB22)
  replace z3 := rebase z3 (hB22)
  replace y0 := rebase y0 (hB22)
  replace y1 := rebase y1 (hB22)
  replace y2 := rebase y2 (hB22)
  replace y3 := rebase y3 (hB22)
  replace MO := rebase MO (hB22)
  replace MOr := rebase MOr (hB22)
  replace MI := rebase MI (hB22)
  replace MIr := rebase MIr (hB22)
  refine wpAnyH_ready (rs := [24]) (by kernel_rfl) (by simp) ?_
  refine AllReadyH.cons (o := { dst := some 77, op := Go.Op.call { callee := Go.Callee.value (Go.Operand.func 19), args := #[Go.Operand.tmp 76], argTypes := #[26] }, type := 32, pos := "law.go:49", after := #[{ on := 23, ground := Go.Ground.data }, { on := 22, ground := Go.Ground.chain }, { on := 20, ground := Go.Ground.guard }], guard := some (20, true) }) rfl (fun K hK => ?_) AllReadyH.nil
  go_simp
  with_reducible refine (qrh.out _ (LF _ hHeld)).mono ?_
  rintro e t24 ⟨aMRr, nMRr, cMRr, rfl, sMRr', b24⟩
  have hB24 := hHeld.trans (b24.mono hHeld.size)
  have MRr : ∀ W, Below t24.heap.size t24 W → SL W aMRr nMRr cMRr LR := fun W hW => sMRr'.below hW
  go_simp
  refine hK.out _ _ (hB24) (fun hHeld => ?_)
  clear hK K
  try simp only [Act.put, List.setIfInBounds_toArray, List.set_cons_zero, List.set_cons_succ]
  refine wpAnyH_now hHeld (fun hHeld => ?_)
  replace LF := rebase LF (hB24)
  replace z0 := rebase z0 (hB24)
  replace z1 := rebase z1 (hB24)
  replace z2 := rebase z2 (hB24)
  replace z3 := rebase z3 (hB24)
  replace y0 := rebase y0 (hB24)
  replace y1 := rebase y1 (hB24)
  replace y2 := rebase y2 (hB24)
  replace y3 := rebase y3 (hB24)
  replace MO := rebase MO (hB24)
  replace MOr := rebase MOr (hB24)
  replace MI := rebase MI (hB24)
  replace MIr := rebase MIr (hB24)
  replace MR := rebase MR (hB24)
  refine wpAnyH_ready (rs := [25]) (by kernel_rfl) (by simp) ?_
  refine AllReadyH.cons (o := { dst := some 78, op := Go.Op.call { callee := Go.Callee.value (Go.Operand.func 16), args := #[Go.Operand.tmp 75, Go.Operand.tmp 77], argTypes := #[32, 32] }, type := 4, pos := "law.go:49", after := #[{ on := 22, ground := Go.Ground.data }, { on := 24, ground := Go.Ground.data }, { on := 24, ground := Go.Ground.chain }, { on := 20, ground := Go.Ground.guard }], guard := some (20, true) }) rfl (fun K hK => ?_) AllReadyH.nil
  go_simp
  with_reducible refine (QN.out _ _ _ _ _ _ _ _ (MR _ hHeld) (MRr _ hHeld)).mono ?_
  rintro e t25 ⟨rfl, b25⟩
  have hB25 := hHeld.trans (b25.mono hHeld.size)
  go_simp
  refine hK.out _ _ (hB25) (fun hHeld => ?_)
  clear hK K
  try simp only [Act.put, List.setIfInBounds_toArray, List.set_cons_zero, List.set_cons_succ]
  refine wpAnyH_now hHeld (fun hHeld => ?_)
  replace LF := rebase LF (hB25)
  replace z0 := rebase z0 (hB25)
  replace z1 := rebase z1 (hB25)
  replace z2 := rebase z2 (hB25)
  replace z3 := rebase z3 (hB25)
  replace y0 := rebase y0 (hB25)
  replace y1 := rebase y1 (hB25)
  replace y2 := rebase y2 (hB25)
  replace y3 := rebase y3 (hB25)
  replace MO := rebase MO (hB25)
  replace MOr := rebase MOr (hB25)
  replace MI := rebase MI (hB25)
  replace MIr := rebase MIr (hB25)
  replace MR := rebase MR (hB25)
  replace MRr := rebase MRr (hB25)
  refine wpAnyH_take (i := 26) (oi := { dst := some 79, op := Go.Op.pick (Go.Operand.tmp 73) (Go.Operand.tmp 78) (Go.Operand.const (Go.Value.bool false)), type := 4, pos := "law.go:49", after := #[{ on := 20, ground := Go.Ground.data }, { on := 25, ground := Go.Ground.data }], guard := none }) (v := ?v34) rfl (by kernel_rfl) (by kernel_rfl) (by kernel_rfl) (fun _ _ _ h => h) (Or.inl ⟨by kernel_rfl, ?h34⟩) (by assumption) ?r34
  case h34 => (intro w hSw; (try dsimp only at hSw); go_simp; try with_reducible rfl)
  try simp only [Act.put, List.setIfInBounds_toArray, List.set_cons_zero, List.set_cons_succ]
  refine wpAnyH_take (i := 27) (oi := { dst := some 6, op := Go.Op.assign (Go.Operand.tmp 79), type := 4, pos := "law.go:49", after := #[{ on := 26, ground := Go.Ground.data }, { on := 25, ground := Go.Ground.chain }, { on := 0, ground := Go.Ground.phase }, { on := 1, ground := Go.Ground.phase }, { on := 2, ground := Go.Ground.phase }, { on := 3, ground := Go.Ground.phase }, { on := 4, ground := Go.Ground.phase }, { on := 5, ground := Go.Ground.phase }, { on := 6, ground := Go.Ground.phase }, { on := 7, ground := Go.Ground.phase }, { on := 8, ground := Go.Ground.phase }, { on := 9, ground := Go.Ground.phase }, { on := 10, ground := Go.Ground.phase }, { on := 11, ground := Go.Ground.phase }, { on := 12, ground := Go.Ground.phase }, { on := 13, ground := Go.Ground.phase }, { on := 14, ground := Go.Ground.phase }, { on := 15, ground := Go.Ground.phase }, { on := 16, ground := Go.Ground.phase }, { on := 17, ground := Go.Ground.phase }, { on := 18, ground := Go.Ground.phase }, { on := 19, ground := Go.Ground.phase }, { on := 20, ground := Go.Ground.phase }, { on := 21, ground := Go.Ground.phase }, { on := 22, ground := Go.Ground.phase }, { on := 23, ground := Go.Ground.phase }, { on := 24, ground := Go.Ground.phase }, { on := 25, ground := Go.Ground.phase }, { on := 26, ground := Go.Ground.phase }], guard := none }) (v := ?v35) rfl (by kernel_rfl) (by kernel_rfl) (by kernel_rfl) (fun _ _ _ h => h) (Or.inl ⟨by kernel_rfl, ?h35⟩) (by assumption) ?r35
  case h35 => (intro w hSw; (try dsimp only at hSw); go_simp; try with_reducible rfl)
  try simp only [Act.put, List.setIfInBounds_toArray, List.set_cons_zero, List.set_cons_succ]
  refine wpAnyH_done (by kernel_rfl) ?_ _
  go_wp2
  go_ret
  exact ⟨rfl, (LF _ hHeld).bel⟩
theorem progChecks_given (pnm : ByteArray) (pa1 : Option Addr) (pn1 pc1 : Nat) (pa2 : Option Addr) (pn2 pc2 : Nat) (pa3 : Option Addr) (pn3 pc3 : Nat) (qnm : ByteArray) (qa1 : Option Addr) (qn1 qc1 : Nat) (qa2 : Option Addr) (qn2 qc2 : Nat) (qa3 : Option Addr) (qn3 qc3 : Nat) (A B : PD) (hA : PW A) (hB : PW B) (x : Int) (w : World) (ht : Tab w) (h1 : PrA w ⟨pnm, pa1, pn1, pc1, pa2, pn2, pc2, pa3, pn3, pc3⟩ A) (h2 : PrA w ⟨qnm, qa1, qn1, qc1, qa2, qn2, qc2, qa3, qn3, qc3⟩ B) (HL : ∀ W, Tab W → Calls Tryz.prog 8 #[] W (Gives (.bool true) W)) :
    Calls Tryz.prog 3 #[.agg #[.string pnm, .slice pa1 pn1 pc1, .slice pa2 pn2 pc2, .slice pa3 pn3 pc3], .agg #[.string qnm, .slice qa1 qn1 qc1, .slice qa2 qn2 qc2, .slice qa3 qn3 qc3], .int .i64 x] w (Gives (.bool true) w) := by
  cases hg : bigP A
  · cases hh : bigP B
    · cases hp : progB A
      · exact pchecks_no pnm pa1 pn1 pc1 pa2 pn2 pc2 pa3 pn3 pc3 qnm qa1 qn1 qc1 qa2 qn2 qc2 qa3 qn3 qc3 A B hA hB x w ht h1 h2 HL hg hh hp
      · exact pchecks_ok pnm pa1 pn1 pc1 pa2 pn2 pc2 pa3 pn3 pc3 qnm qa1 qn1 qc1 qa2 qn2 qc2 qa3 qn3 qc3 A B hA hB x w ht h1 h2 HL hg hh hp
    · exact pchecks_big2 pnm pa1 pn1 pc1 pa2 pn2 pc2 pa3 pn3 pc3 qnm qa1 qn1 qc1 qa2 qn2 qc2 qa3 qn3 qc3 A B hA hB x w ht h1 h2 HL hg hh
  · exact pchecks_big1 pnm pa1 pn1 pc1 pa2 pn2 pc2 pa3 pn3 pc3 qnm qa1 qn1 qc1 qa2 qn2 qc2 qa3 qn3 qc3 A B hA hB x w ht h1 h2 HL hg
end Go.Proofs.YtgeliikfgnkppaaGreatDoor
