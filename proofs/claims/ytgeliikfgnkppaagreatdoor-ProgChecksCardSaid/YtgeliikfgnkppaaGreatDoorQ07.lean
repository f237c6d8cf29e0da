import Derived.Laws.Cover1
import Derived.Test.YtgeliikfgnkppaaGreatDoorQ02
import Derived.Test.YtgeliikfgnkppaaGreatDoorQ06
/- The edges from a point, and into it: the program's and the document's. (Written by gen-prog-out.py.) -/
namespace Go.Proofs.YtgeliikfgnkppaaGreatDoor
open Go.RowKit
set_option linter.unusedVariables false
set_option linter.unusedSimpArgs false

theorem infoIntP : ∃ i, Tryz.prog.info? 3 = some i ∧ i.zero = some (.int .i64 0) ∧ i.size = 1 ∧ i.bytes = 8 := by
  have h := infoInt
  cases hi : Tryz.prog.info? 3 with
  | none => rw [hi] at h; simp at h
  | some i => rw [hi] at h; simp at h; exact ⟨i, rfl, h.1, h.2.1, h.2.2⟩
/-- A list of numbers handed back. -/
def SlP (l : List Int) (w : World) (e : Ending) (w' : World) : Prop := ∃ a n c, e = .returned (.slice a n c) ∧ SL w' a n c l ∧ Below w.heap.size w w'
theorem slp_own {w w' : World} {v : Value} {l : List Int} (h : w'.ownsRow w.heap.size 3 1 v l.length (nums .i64 l)) (hl : l.length ≤ 1000) (hb : Below w.heap.size w w') : SlP l w (.returned v) w' := by
  obtain ⟨a, c, rfl, _, hs⟩ := sees_own h
  exact ⟨a, _, c, rfl, ⟨rfl, own_cap h, by omega, hs⟩, hb⟩
def outQ (pt : Int) (e : EdgeD) : Bool := decide (e.frm = pt)
def intoQ (pt : Int) (e : EdgeD) : Bool := decide (e.dst = pt)
/-- The numbers of the first m edges that are asked for. -/
def selL (q : EdgeD → Bool) (l : List EdgeD) (m : Nat) : List Int := ((List.range m).filter fun k => q (l.getD k edge0)).map fun k : Nat => (k : Int)
theorem sel_zero (q : EdgeD → Bool) (l : List EdgeD) : selL q l 0 = [] := rfl
theorem sel_yes {q : EdgeD → Bool} {l : List EdgeD} {m : Nat} (h : q (l.getD m edge0) = true) : selL q l (m + 1) = selL q l m ++ [(m : Int)] := by
  unfold selL; rw [List.range_succ, List.filter_append, show [m].filter (fun k => q (l.getD k edge0)) = [m] from List.filter_cons_of_pos h, List.map_append]; rfl
theorem sel_no {q : EdgeD → Bool} {l : List EdgeD} {m : Nat} (h : q (l.getD m edge0) = false) : selL q l (m + 1) = selL q l m := by
  unfold selL; rw [List.range_succ, List.filter_append, show [m].filter (fun k => q (l.getD k edge0)) = [] from List.filter_cons_of_neg (by rw [h]; simp), List.append_nil]
theorem sel_len (q : EdgeD → Bool) (l : List EdgeD) (m : Nat) : (selL q l m).length ≤ m := by
  unfold selL; rw [List.length_map]; exact Nat.le_trans (List.length_filter_le _ _) (by simp)
def selP (q : EdgeD → Bool) (D : PD) : List Int := if progB D = true then selL q D.edges D.edges.length else []
theorem pchk_ok {D : PD} (h : progB D = true) : chkP D = 0 := by unfold chkP; rw [if_pos h]
theorem pchk_bad {D : PD} (h : progB D = false) : chkP D = 110 := by unfold chkP; rw [h]; rfl
theorem prog_sizes {D : PD} (h : progB D = true) : 1 ≤ D.spots.length ∧ D.spots.length ≤ 128 ∧ D.edges.length ≤ 256 := by
  unfold progB at h
  simp only [Bool.and_eq_true, decide_eq_true_eq] at h
  exact ⟨h.1.1, h.1.2.1, h.1.2.2⟩
theorem prog_edge {D : PD} (h : progB D = true) {i : Nat} (hi : i < D.edges.length) : edgeB D.spots.length D.vars.length (D.edges.getD i edge0) = true := by
  unfold progB at h
  simp only [Bool.and_eq_true] at h
  have h2 := List.all_eq_true.1 h.2.2.2.2 (D.edges.getD i edge0) (by simp [List.getD, hi])
  exact h2
theorem edge_ends {n m : Nat} {e : EdgeD} (h : edgeB n m e = true) : 0 ≤ e.frm ∧ e.frm < n ∧ 0 ≤ e.dst ∧ e.dst < n := by
  unfold edgeB pointB at h
  simp only [Bool.and_eq_true, decide_eq_true_eq] at h
  exact ⟨h.1.1, h.1.2, h.2.1.1, h.2.1.2⟩
set_option maxRecDepth 100000 in
theorem askOut_any (g : Nat) (pt fr ds ek ex ey ec ed : Int) (w : World) (h : Holds w g 3 #[.int .i64 pt]) : Calls Tryz.prog 42 #[.agg #[.int .i64 fr, .int .i64 ds, .int .i64 ek, .int .i64 ex, .int .i64 ey, .int .i64 ec, .int .i64 ed], .pointer (some ⟨g, 0, none⟩)] w (Gives (.bool (outQ pt (⟨fr, ds, ek, ex, ey, ec, ed⟩ : EdgeD))) w) := by
  have hR : Hid (((fr : Int) == pt) = outQ pt (⟨fr, ds, ek, ex, ey, ec, ed⟩ : EdgeD)) := Lib.hid (by unfold outQ; rw [Bool.eq_iff_iff]; simp)
  have hB := Lib.hid (box_below w #[.int .i64 fr, .int .i64 ds, .int .i64 ek, .int .i64 ex, .int .i64 ey, .int .i64 ec, .int .i64 ed] 52)
  have hg := h.lt
  have g0 := h.cell 0
  clear h
  generalize outQ pt (⟨fr, ds, ek, ex, ey, ec, ed⟩ : EdgeD) = R at *
  go_enter Tryz.func42, Tryz.ntmps42
  go_wp2
  go_ret
  exact ⟨ret_bool hR.out, hB.out⟩
set_option maxRecDepth 100000 in
set_option maxHeartbeats 4000000 in
theorem edgesOut_any (p : PV) (D : PD) (g : Nat) (pt : Int) (w : World) (h : PrA w p D) (hz : Holds w g 3 #[.int .i64 pt]) : Calls Tryz.prog 41 #[.agg #[.string p.nm, .slice p.a1 p.n1 p.c1, .slice p.a2 p.n2 p.c2, .slice p.a3 p.n3 p.c3], .func (.func 42) #[] #[.pointer (some ⟨g, 0, none⟩)]] w (SlP (selP (outQ pt) D) w) := by
  obtain ⟨i0, hi, hz0, hz1, hz2⟩ := infoIntP
  have qc := Lib.hid (fun W hW => pcheck_any p D W hW)
  obtain ⟨W1, hW1⟩ : ∃ W1, W1 = w.alloc (.cells #[.string p.nm, .slice p.a1 p.n1 p.c1, .slice p.a2 p.n2 p.c2, .slice p.a3 p.n3 p.c3] 26) := ⟨_, rfl⟩
  have Z : Hid (Holds W1 w.heap.size 26 #[.string p.nm, .slice p.a1 p.n1 p.c1, .slice p.a2 p.n2 p.c2, .slice p.a3 p.n3 p.c3]) := Lib.hid (by rw [hW1]; exact Holds.new w _ _)
  have BL := Lib.hid (show Below w.heap.size w W1 by rw [hW1]; exact box_below _ _ _)
  have A := Lib.hid (h.below BL.out)
  have G := Lib.hid (hz.below BL.out hz.lt)
  have hW1' := Lib.hid hW1
  have k0 := Z.out.cell 0
  have k1 := Z.out.cell 1
  have k2 := Z.out.cell 2
  have k3 := Z.out.cell 3
  have hz3 := Lib.hid h.edges.len
  clear h hz hW1
  cases hp : progB D
  · have hs : Hid (selP (outQ pt) D = []) := Lib.hid (by unfold selP; rw [hp]; rfl)
    rw [pchk_bad hp] at qc
    clear hp
    generalize selP (outQ pt) D = R at *
    go_enter Tryz.func41, Tryz.ntmps41
    go_wp2_with fail
    rw [← hW1'.out]
    with_reducible refine (qc.out W1 A.out).mono ?_
    rintro e u1 ⟨rfl, b1⟩
    clear k0 k1 k2 k3
    go_wp2
    go_ret
    exact ⟨none, 0, 0, rfl, by rw [hs.out]; exact SL.nil _, BL.out.trans (b1.mono BL.out.size)⟩
  · have hs : Hid (selP (outQ pt) D = selL (outQ pt) D.edges D.edges.length) := Lib.hid (by unfold selP; rw [hp]; rfl)
    rw [pchk_ok hp] at qc
    have hn3 : p.n3 ≤ 256 := by rw [hz3.out]; exact (prog_sizes hp).2.2
    have hy := Lib.hid (fun k h => sel_yes (q := outQ pt) (l := D.edges) (m := k) h)
    have hn := Lib.hid (fun k h => sel_no (q := outQ pt) (l := D.edges) (m := k) h)
    have hle := Lib.hid (fun k => sel_len (outQ pt) D.edges k)
    clear hp
    generalize selP (outQ pt) D = R at *
    go_enter Tryz.func41, Tryz.ntmps41
    go_wp2_with fail
    rw [← hW1'.out]
    with_reducible refine (qc.out W1 A.out).mono ?_
    rintro e u1 ⟨rfl, b1⟩
    clear k0 k1 k2 k3 qc hW1'
    replace Z := Lib.hid (Z.out.below b1 Z.out.lt)
    replace G := Lib.hid (G.out.below b1 G.out.lt)
    replace A := Lib.hid (A.out.below b1)
    replace BL := Lib.hid (BL.out.trans (b1.mono BL.out.size))
    clear b1
    have k3 := Z.out.cell 3
    go_wp2
    clear k3
    go_loopw [5, 14] (fun v x wr => ∃ k : Nat, k ≤ p.n3 ∧ x = .int .i64 k ∧ Hid (wr.ownsRow u1.heap.size 3 1 v (selL (outQ pt) D.edges k).length (nums .i64 (selL (outQ pt) D.edges k))) ∧ Hid (Below u1.heap.size u1 wr)) (fun _ x _ => p.n3 - (intOf x).toNat)
    case atStart => exact ⟨0, Nat.zero_le _, rfl, Lib.hid (World.ownsRow_nil _ _ _ _), Lib.hid (Below.refl _ _)⟩
    case round =>
      obtain ⟨k, hk, rfl, hown, hB⟩ := hrel
      by_cases hlt : k < p.n3
      · have hki : (k : Int) < (p.n3 : Int) := by omega
        obtain ⟨b, off, ha, hbl, x0, x1, x2, x3, x4, x5, x6⟩ := edges_at (A.out.edges.below hB.out) hlt
        have hy' := Lib.hid (hy.out k)
        have hn' := Lib.hid (hn.out k)
        have hl := hle.out k
        obtain ⟨fr, ds, ek, ex, ey, ec, ed, hs2⟩ : ∃ fr ds ek ex ey ec ed, D.edges.getD k edge0 = (⟨fr, ds, ek, ex, ey, ec, ed⟩ : EdgeD) := ⟨_, _, _, _, _, _, _, rfl⟩
        rw [hs2] at x0 x1 x2 x3 x4 x5 x6 hy' hn'
        dsimp only at x0 x1 x2 x3 x4 x5 x6
        have hBe := Lib.hid (box_below wr #[.int .i64 fr, .int .i64 ds, .int .i64 ek, .int .i64 ex, .int .i64 ey, .int .i64 ec, .int .i64 ed] 52)
        have q1 := Lib.hid (askOut_any g pt fr ds ek ex ey ec ed _ ((G.out.below hB.out G.out.lt).below hBe.out (by have := G.out.lt; have := hB.out.size; omega)))
        have hB0 := Lib.hid (BL.out.trans (hB.out.mono BL.out.size))
        have hown0 := Lib.hid (own_below hown.out hBe.out)
        have hB1 := Lib.hid (hB.out.trans (hBe.out.mono hB.out.size))
        clear hs2
        cases hq : outQ pt (⟨fr, ds, ek, ex, ey, ec, ed⟩ : EdgeD)
        · have hs3 := Lib.hid (hn'.out hq)
          rw [hq] at q1
          clear hq hy' hn'
          go_wp2_with fail
          refine q1.out.mono ?_
          rintro e w1 ⟨rfl, b1⟩
          have hB2 := Lib.hid (hB1.out.trans (b1.mono hB1.out.size))
          have hown2 := Lib.hid (own_below hown0.out b1)
          rw [← hs3.out] at hown2
          clear x0 x1 x2 x3 x4 x5 x6 ha b1
          go_wp2
          go_roundw
          case rel => exact ⟨k + 1, by omega, by go_num, hown2, hB2⟩
          case measure => simp [intOf]; omega
        · have hs3 := Lib.hid (hy'.out hq)
          rw [hq] at q1
          clear hq hy' hn'
          go_wp2_with fail
          refine q1.out.mono ?_
          rintro e w1 ⟨rfl, b1⟩
          have hB2 := Lib.hid (hB1.out.trans (b1.mono hB1.out.size))
          have hB3 := Lib.hid (BL.out.trans (hB2.out.mono BL.out.size))
          have hown2 := Lib.hid (own_below hown0.out b1)
          have hsz := hB2.out.size
          clear x0 x1 x2 x3 x4 x5 x6 ha b1
          go_wp2_with (at_builtin; refine wpList_append1 _ rfl _ _ 32 rfl u1 3 i0 (.int .i64 0) 8 Tryz.underlying32 hi hz0 hz1 hz2 rfl .i64 (k : Int) _ _ hown2.out hB2.out rfl rfl (by omega) (by omega) ?_; intro v' w' hown4 hb4; have hown4' := Lib.hid hown4; have hb4' := Lib.hid hb4; clear hown4 hb4)
          rw [← hs3.out] at hown4'
          go_roundw
          case rel => exact ⟨k + 1, by omega, by go_num, hown4', hb4'⟩
          case measure => simp [intOf]; omega
      · have hki : ¬ (k : Int) < (p.n3 : Int) := by omega
        have hke : k = D.edges.length := by have := hz3.out; omega
        rw [hke] at hown
        rw [← hs.out] at hown
        have hfin := Lib.hid (slp_own (own_from hown.out (fun b hb => by have := (hown.out.lt b hb).1; have := BL.out.size; omega)) (by rw [hs.out]; have := hle.out D.edges.length; omega) (BL.out.trans (hB.out.mono BL.out.size)))
        clear hke
        go_wp2
        go_ret
        exact hfin.out
set_option maxRecDepth 100000 in
set_option maxHeartbeats 1000000 in
theorem pOut_any (p : PV) (D : PD) (pt : Int) (w : World) (h : PrA w p D) : Calls Tryz.prog 13 #[.agg #[.string p.nm, .slice p.a1 p.n1 p.c1, .slice p.a2 p.n2 p.c2, .slice p.a3 p.n3 p.c3], .int .i64 pt] w (SlP (selP (outQ pt) D) w) := by
  have hmf : ∀ (fn : Fn) (first cap : Array Value) (w : World), (Instr.makeFunc fn first cap).run Tryz.prog w = .ok (.func fn first cap) w := fun _ _ _ _ => rfl
  obtain ⟨W1, hW1⟩ : ∃ W1, W1 = (w.alloc (.cells #[.string p.nm, .slice p.a1 p.n1 p.c1, .slice p.a2 p.n2 p.c2, .slice p.a3 p.n3 p.c3] 26)).alloc (.cells #[.int .i64 pt] 3) := ⟨_, rfl⟩
  have Z : Holds W1 w.heap.size 26 #[.string p.nm, .slice p.a1 p.n1 p.c1, .slice p.a2 p.n2 p.c2, .slice p.a3 p.n3 p.c3] := by rw [hW1]; exact (Holds.new w _ _).alloc _
  have G : Holds W1 (w.heap.size + 1) 3 #[.int .i64 pt] := by
    rw [hW1]
    have := Holds.new (w.alloc (.cells #[.string p.nm, .slice p.a1 p.n1 p.c1, .slice p.a2 p.n2 p.c2, .slice p.a3 p.n3 p.c3] 26)) 3 #[.int .i64 pt]
    simpa using this
  have BL := Lib.hid (show Below w.heap.size w W1 by rw [hW1]; exact box2_below _ _ _ _ _)
  have q := Lib.hid (edgesOut_any p D (w.heap.size + 1) pt W1 (h.below BL.out) G)
  have hW1' := Lib.hid hW1
  have k0 := Z.cell 0
  have k1 := Z.cell 1
  have k2 := Z.cell 2
  have k3 := Z.cell 3
  clear h hW1 Z G
  generalize selP (outQ pt) D = R at *
  go_enter Tryz.func13, Tryz.ntmps13
  go_wp2_with fail
  rw [← hW1'.out]
  refine q.out.mono ?_
  rintro e u1 ⟨a, n, c, rfl, hs, b1⟩
  have hs' := Lib.hid hs
  have hb := Lib.hid (BL.out.trans (b1.mono BL.out.size))
  clear hs b1
  go_wp2
  go_ret
  exact ⟨a, n, c, rfl, hs'.out, hb.out⟩
set_option maxRecDepth 100000 in
set_option maxHeartbeats 4000000 in
theorem rOut_any (p : PV) (D : PD) (pt : Int) (hn3 : p.n3 ≤ 256) (w : World) (h : PrA w p D) : Calls Tryz.prog 17 #[.agg #[.string p.nm, .slice p.a1 p.n1 p.c1, .slice p.a2 p.n2 p.c2, .slice p.a3 p.n3 p.c3], .int .i64 pt] w (SlP (selL (outQ pt) D.edges D.edges.length) w) := by
  obtain ⟨i0, hi, hz0, hz1, hz2⟩ := infoIntP
  obtain ⟨pnm, pa1, pn1, pc1, pa2, pn2, pc2, pa3, pn3, pc3⟩ := p
  have hed := h.edges
  dsimp only at hed hn3
  obtain ⟨W1, hW1⟩ : ∃ W1, W1 = w.alloc (.cells #[.string pnm, .slice pa1 pn1 pc1, .slice pa2 pn2 pc2, .slice pa3 pn3 pc3] 26) := ⟨_, rfl⟩
  have Z : Hid (Holds W1 w.heap.size 26 #[.string pnm, .slice pa1 pn1 pc1, .slice pa2 pn2 pc2, .slice pa3 pn3 pc3]) := Lib.hid (by rw [hW1]; exact Holds.new w _ _)
  have BL := Lib.hid (show Below w.heap.size w W1 by rw [hW1]; exact box_below _ _ _)
  have A := Lib.hid (hed.below BL.out)
  have hW1' := Lib.hid hW1
  have hz3 := Lib.hid hed.len
  have hy := Lib.hid (fun k h => sel_yes (q := outQ pt) (l := D.edges) (m := k) h)
  have hn := Lib.hid (fun k h => sel_no (q := outQ pt) (l := D.edges) (m := k) h)
  have hle := Lib.hid (fun k => sel_len (outQ pt) D.edges k)
  obtain ⟨R, hR⟩ : ∃ R, R = selL (outQ pt) D.edges D.edges.length := ⟨_, rfl⟩
  rw [← hR]
  have hs := Lib.hid hR
  clear h hed hW1 hR
  go_enter Tryz.func17, Tryz.ntmps17
  go_wp2
  rw [← hW1'.out]
  clear hW1'
  go_loopw [5, 6] (fun v x wr => ∃ k : Nat, k ≤ pn3 ∧ x = .int .i64 k ∧ Hid (wr.ownsRow W1.heap.size 3 1 v (selL (outQ pt) D.edges k).length (nums .i64 (selL (outQ pt) D.edges k))) ∧ Hid (Below W1.heap.size W1 wr)) (fun _ x _ => pn3 - (intOf x).toNat)
  case atStart => exact ⟨0, Nat.zero_le _, rfl, Lib.hid (World.ownsRow_nil _ _ _ _), Lib.hid (Below.refl _ _)⟩
  case round =>
    obtain ⟨k, hk, rfl, hown, hB⟩ := hrel
    have k3 := (Z.out.below hB.out Z.out.lt).cell 3
    by_cases hlt : k < pn3
    · have hki : (k : Int) < (pn3 : Int) := by omega
      obtain ⟨b, off, rfl, hbl, x0, x1, x2, x3, x4, x5, x6⟩ := edges_at (A.out.below hB.out) hlt
      have hy' := Lib.hid (hy.out k)
      have hn' := Lib.hid (hn.out k)
      have hl := hle.out k
      obtain ⟨fr, ds, ek, ex, ey, ec, ed, hs2⟩ : ∃ fr ds ek ex ey ec ed, D.edges.getD k edge0 = (⟨fr, ds, ek, ex, ey, ec, ed⟩ : EdgeD) := ⟨_, _, _, _, _, _, _, rfl⟩
      rw [hs2] at x0 x1 hy' hn'
      dsimp only at x0 x1
      have hqe : Hid (outQ pt (⟨fr, ds, ek, ex, ey, ec, ed⟩ : EdgeD) = ((fr : Int) == pt)) := Lib.hid (by unfold outQ; rw [Bool.eq_iff_iff]; simp)
      clear hs2 x2 x3 x4 x5 x6
      cases hq : ((fr : Int) == pt)
      · have hs3 := Lib.hid (hn'.out (by rw [hqe.out]; exact hq))
        have hown2 := Lib.hid hown.out
        rw [← hs3.out] at hown2
        have hq2 : ¬ ((fr : Int) = pt) := by simpa using hq
        clear hy' hn' hqe
        go_wp2
        go_roundw
        case rel => exact ⟨k + 1, by omega, by go_num, hown2, hB⟩
        case measure => simp [intOf]; omega
      · have hs3 := Lib.hid (hy'.out (by rw [hqe.out]; exact hq))
        have he : fr = pt := by simpa using hq
        clear hy' hn' hqe hq
        subst he
        go_wp2_with (at_builtin; refine wpList_append1 _ rfl _ _ 32 rfl W1 3 i0 (.int .i64 0) 8 Tryz.underlying32 hi hz0 hz1 hz2 rfl .i64 (k : Int) _ _ hown.out hB.out rfl rfl (by omega) (by omega) ?_; intro v' w' hown4 hb4; have hown4' := Lib.hid hown4; have hb4' := Lib.hid hb4; clear hown4 hb4)
        rw [← hs3.out] at hown4'
        go_roundw
        case rel => exact ⟨k + 1, by omega, by go_num, hown4', hb4'⟩
        case measure => simp [intOf]; omega
    · have hki : ¬ (k : Int) < (pn3 : Int) := by omega
      have hke : k = D.edges.length := by have := hz3.out; omega
      rw [hke] at hown
      rw [← hs.out] at hown
      have hfin := Lib.hid (slp_own (own_from hown.out (fun b hb => by have := (hown.out.lt b hb).1; have := BL.out.size; omega)) (by rw [hs.out]; have := hle.out D.edges.length; have := hz3.out; omega) (BL.out.trans (hB.out.mono BL.out.size)))
      clear hke
      go_wp2
      go_ret
      exact hfin.out
set_option maxRecDepth 100000 in
theorem askInto_any (g : Nat) (pt fr ds ek ex ey ec ed : Int) (w : World) (h : Holds w g 3 #[.int .i64 pt]) : Calls Tryz.prog 43 #[.agg #[.int .i64 fr, .int .i64 ds, .int .i64 ek, .int .i64 ex, .int .i64 ey, .int .i64 ec, .int .i64 ed], .pointer (some ⟨g, 0, none⟩)] w (Gives (.bool (intoQ pt (⟨fr, ds, ek, ex, ey, ec, ed⟩ : EdgeD))) w) := by
  have hR : Hid (((ds : Int) == pt) = intoQ pt (⟨fr, ds, ek, ex, ey, ec, ed⟩ : EdgeD)) := Lib.hid (by unfold intoQ; rw [Bool.eq_iff_iff]; simp)
  have hB := Lib.hid (box_below w #[.int .i64 fr, .int .i64 ds, .int .i64 ek, .int .i64 ex, .int .i64 ey, .int .i64 ec, .int .i64 ed] 52)
  have hg := h.lt
  have g0 := h.cell 0
  clear h
  generalize intoQ pt (⟨fr, ds, ek, ex, ey, ec, ed⟩ : EdgeD) = R at *
  go_enter Tryz.func43, Tryz.ntmps43
  go_wp2
  go_ret
  exact ⟨ret_bool hR.out, hB.out⟩
set_option maxRecDepth 100000 in
set_option maxHeartbeats 4000000 in
theorem edgesInto_any (p : PV) (D : PD) (g : Nat) (pt : Int) (w : World) (h : PrA w p D) (hz : Holds w g 3 #[.int .i64 pt]) : Calls Tryz.prog 41 #[.agg #[.string p.nm, .slice p.a1 p.n1 p.c1, .slice p.a2 p.n2 p.c2, .slice p.a3 p.n3 p.c3], .func (.func 43) #[] #[.pointer (some ⟨g, 0, none⟩)]] w (SlP (selP (intoQ pt) D) w) := by
  obtain ⟨i0, hi, hz0, hz1, hz2⟩ := infoIntP
  have qc := Lib.hid (fun W hW => pcheck_any p D W hW)
  obtain ⟨W1, hW1⟩ : ∃ W1, W1 = w.alloc (.cells #[.string p.nm, .slice p.a1 p.n1 p.c1, .slice p.a2 p.n2 p.c2, .slice p.a3 p.n3 p.c3] 26) := ⟨_, rfl⟩
  have Z : Hid (Holds W1 w.heap.size 26 #[.string p.nm, .slice p.a1 p.n1 p.c1, .slice p.a2 p.n2 p.c2, .slice p.a3 p.n3 p.c3]) := Lib.hid (by rw [hW1]; exact Holds.new w _ _)
  have BL := Lib.hid (show Below w.heap.size w W1 by rw [hW1]; exact box_below _ _ _)
  have A := Lib.hid (h.below BL.out)
  have G := Lib.hid (hz.below BL.out hz.lt)
  have hW1' := Lib.hid hW1
  have k0 := Z.out.cell 0
  have k1 := Z.out.cell 1
  have k2 := Z.out.cell 2
  have k3 := Z.out.cell 3
  have hz3 := Lib.hid h.edges.len
  clear h hz hW1
  cases hp : progB D
  · have hs : Hid (selP (intoQ pt) D = []) := Lib.hid (by unfold selP; rw [hp]; rfl)
    rw [pchk_bad hp] at qc
    clear hp
    generalize selP (intoQ pt) D = R at *
    go_enter Tryz.func41, Tryz.ntmps41
    go_wp2_with fail
    rw [← hW1'.out]
    with_reducible refine (qc.out W1 A.out).mono ?_
    rintro e u1 ⟨rfl, b1⟩
    clear k0 k1 k2 k3
    go_wp2
    go_ret
    exact ⟨none, 0, 0, rfl, by rw [hs.out]; exact SL.nil _, BL.out.trans (b1.mono BL.out.size)⟩
  · have hs : Hid (selP (intoQ pt) D = selL (intoQ pt) D.edges D.edges.length) := Lib.hid (by unfold selP; rw [hp]; rfl)
    rw [pchk_ok hp] at qc
    have hn3 : p.n3 ≤ 256 := by rw [hz3.out]; exact (prog_sizes hp).2.2
    have hy := Lib.hid (fun k h => sel_yes (q := intoQ pt) (l := D.edges) (m := k) h)
    have hn := Lib.hid (fun k h => sel_no (q := intoQ pt) (l := D.edges) (m := k) h)
    have hle := Lib.hid (fun k => sel_len (intoQ pt) D.edges k)
    clear hp
    generalize selP (intoQ pt) D = R at *
    go_enter Tryz.func41, Tryz.ntmps41
    go_wp2_with fail
    rw [← hW1'.out]
    with_reducible refine (qc.out W1 A.out).mono ?_
    rintro e u1 ⟨rfl, b1⟩
    clear k0 k1 k2 k3 qc hW1'
    replace Z := Lib.hid (Z.out.below b1 Z.out.lt)
    replace G := Lib.hid (G.out.below b1 G.out.lt)
    replace A := Lib.hid (A.out.below b1)
    replace BL := Lib.hid (BL.out.trans (b1.mono BL.out.size))
    clear b1
    have k3 := Z.out.cell 3
    go_wp2
    clear k3
    go_loopw [5, 14] (fun v x wr => ∃ k : Nat, k ≤ p.n3 ∧ x = .int .i64 k ∧ Hid (wr.ownsRow u1.heap.size 3 1 v (selL (intoQ pt) D.edges k).length (nums .i64 (selL (intoQ pt) D.edges k))) ∧ Hid (Below u1.heap.size u1 wr)) (fun _ x _ => p.n3 - (intOf x).toNat)
    case atStart => exact ⟨0, Nat.zero_le _, rfl, Lib.hid (World.ownsRow_nil _ _ _ _), Lib.hid (Below.refl _ _)⟩
    case round =>
      obtain ⟨k, hk, rfl, hown, hB⟩ := hrel
      by_cases hlt : k < p.n3
      · have hki : (k : Int) < (p.n3 : Int) := by omega
        obtain ⟨b, off, ha, hbl, x0, x1, x2, x3, x4, x5, x6⟩ := edges_at (A.out.edges.below hB.out) hlt
        have hy' := Lib.hid (hy.out k)
        have hn' := Lib.hid (hn.out k)
        have hl := hle.out k
        obtain ⟨fr, ds, ek, ex, ey, ec, ed, hs2⟩ : ∃ fr ds ek ex ey ec ed, D.edges.getD k edge0 = (⟨fr, ds, ek, ex, ey, ec, ed⟩ : EdgeD) := ⟨_, _, _, _, _, _, _, rfl⟩
        rw [hs2] at x0 x1 x2 x3 x4 x5 x6 hy' hn'
        dsimp only at x0 x1 x2 x3 x4 x5 x6
        have hBe := Lib.hid (box_below wr #[.int .i64 fr, .int .i64 ds, .int .i64 ek, .int .i64 ex, .int .i64 ey, .int .i64 ec, .int .i64 ed] 52)
        have q1 := Lib.hid (askInto_any g pt fr ds ek ex ey ec ed _ ((G.out.below hB.out G.out.lt).below hBe.out (by have := G.out.lt; have := hB.out.size; omega)))
        have hB0 := Lib.hid (BL.out.trans (hB.out.mono BL.out.size))
        have hown0 := Lib.hid (own_below hown.out hBe.out)
        have hB1 := Lib.hid (hB.out.trans (hBe.out.mono hB.out.size))
        clear hs2
        cases hq : intoQ pt (⟨fr, ds, ek, ex, ey, ec, ed⟩ : EdgeD)
        · have hs3 := Lib.hid (hn'.out hq)
          rw [hq] at q1
          clear hq hy' hn'
          go_wp2_with fail
          refine q1.out.mono ?_
          rintro e w1 ⟨rfl, b1⟩
          have hB2 := Lib.hid (hB1.out.trans (b1.mono hB1.out.size))
          have hown2 := Lib.hid (own_below hown0.out b1)
          rw [← hs3.out] at hown2
          clear x0 x1 x2 x3 x4 x5 x6 ha b1
          go_wp2
          go_roundw
          case rel => exact ⟨k + 1, by omega, by go_num, hown2, hB2⟩
          case measure => simp [intOf]; omega
        · have hs3 := Lib.hid (hy'.out hq)
          rw [hq] at q1
          clear hq hy' hn'
          go_wp2_with fail
          refine q1.out.mono ?_
          rintro e w1 ⟨rfl, b1⟩
          have hB2 := Lib.hid (hB1.out.trans (b1.mono hB1.out.size))
          have hB3 := Lib.hid (BL.out.trans (hB2.out.mono BL.out.size))
          have hown2 := Lib.hid (own_below hown0.out b1)
          have hsz := hB2.out.size
          clear x0 x1 x2 x3 x4 x5 x6 ha b1
          go_wp2_with (at_builtin; refine wpList_append1 _ rfl _ _ 32 rfl u1 3 i0 (.int .i64 0) 8 Tryz.underlying32 hi hz0 hz1 hz2 rfl .i64 (k : Int) _ _ hown2.out hB2.out rfl rfl (by omega) (by omega) ?_; intro v' w' hown4 hb4; have hown4' := Lib.hid hown4; have hb4' := Lib.hid hb4; clear hown4 hb4)
          rw [← hs3.out] at hown4'
          go_roundw
          case rel => exact ⟨k + 1, by omega, by go_num, hown4', hb4'⟩
          case measure => simp [intOf]; omega
      · have hki : ¬ (k : Int) < (p.n3 : Int) := by omega
        have hke : k = D.edges.length := by have := hz3.out; omega
        rw [hke] at hown
        rw [← hs.out] at hown
        have hfin := Lib.hid (slp_own (own_from hown.out (fun b hb => by have := (hown.out.lt b hb).1; have := BL.out.size; omega)) (by rw [hs.out]; have := hle.out D.edges.length; omega) (BL.out.trans (hB.out.mono BL.out.size)))
        clear hke
        go_wp2
        go_ret
        exact hfin.out
set_option maxRecDepth 100000 in
set_option maxHeartbeats 1000000 in
theorem pInto_any (p : PV) (D : PD) (pt : Int) (w : World) (h : PrA w p D) : Calls Tryz.prog 14 #[.agg #[.string p.nm, .slice p.a1 p.n1 p.c1, .slice p.a2 p.n2 p.c2, .slice p.a3 p.n3 p.c3], .int .i64 pt] w (SlP (selP (intoQ pt) D) w) := by
  have hmf : ∀ (fn : Fn) (first cap : Array Value) (w : World), (Instr.makeFunc fn first cap).run Tryz.prog w = .ok (.func fn first cap) w := fun _ _ _ _ => rfl
  obtain ⟨W1, hW1⟩ : ∃ W1, W1 = (w.alloc (.cells #[.string p.nm, .slice p.a1 p.n1 p.c1, .slice p.a2 p.n2 p.c2, .slice p.a3 p.n3 p.c3] 26)).alloc (.cells #[.int .i64 pt] 3) := ⟨_, rfl⟩
  have Z : Holds W1 w.heap.size 26 #[.string p.nm, .slice p.a1 p.n1 p.c1, .slice p.a2 p.n2 p.c2, .slice p.a3 p.n3 p.c3] := by rw [hW1]; exact (Holds.new w _ _).alloc _
  have G : Holds W1 (w.heap.size + 1) 3 #[.int .i64 pt] := by
    rw [hW1]
    have := Holds.new (w.alloc (.cells #[.string p.nm, .slice p.a1 p.n1 p.c1, .slice p.a2 p.n2 p.c2, .slice p.a3 p.n3 p.c3] 26)) 3 #[.int .i64 pt]
    simpa using this
  have BL := Lib.hid (show Below w.heap.size w W1 by rw [hW1]; exact box2_below _ _ _ _ _)
  have q := Lib.hid (edgesInto_any p D (w.heap.size + 1) pt W1 (h.below BL.out) G)
  have hW1' := Lib.hid hW1
  have k0 := Z.cell 0
  have k1 := Z.cell 1
  have k2 := Z.cell 2
  have k3 := Z.cell 3
  clear h hW1 Z G
  generalize selP (intoQ pt) D = R at *
  go_enter Tryz.func14, Tryz.ntmps14
  go_wp2_with fail
  rw [← hW1'.out]
  refine q.out.mono ?_
  rintro e u1 ⟨a, n, c, rfl, hs, b1⟩
  have hs' := Lib.hid hs
  have hb := Lib.hid (BL.out.trans (b1.mono BL.out.size))
  clear hs b1
  go_wp2
  go_ret
  exact ⟨a, n, c, rfl, hs'.out, hb.out⟩
set_option maxRecDepth 100000 in
set_option maxHeartbeats 4000000 in
theorem rInto_any (p : PV) (D : PD) (pt : Int) (hn3 : p.n3 ≤ 256) (w : World) (h : PrA w p D) : Calls Tryz.prog 18 #[.agg #[.string p.nm, .slice p.a1 p.n1 p.c1, .slice p.a2 p.n2 p.c2, .slice p.a3 p.n3 p.c3], .int .i64 pt] w (SlP (selL (intoQ pt) D.edges D.edges.length) w) := by
  obtain ⟨i0, hi, hz0, hz1, hz2⟩ := infoIntP
  obtain ⟨pnm, pa1, pn1, pc1, pa2, pn2, pc2, pa3, pn3, pc3⟩ := p
  have hed := h.edges
  dsimp only at hed hn3
  obtain ⟨W1, hW1⟩ : ∃ W1, W1 = w.alloc (.cells #[.string pnm, .slice pa1 pn1 pc1, .slice pa2 pn2 pc2, .slice pa3 pn3 pc3] 26) := ⟨_, rfl⟩
  have Z : Hid (Holds W1 w.heap.size 26 #[.string pnm, .slice pa1 pn1 pc1, .slice pa2 pn2 pc2, .slice pa3 pn3 pc3]) := Lib.hid (by rw [hW1]; exact Holds.new w _ _)
  have BL := Lib.hid (show Below w.heap.size w W1 by rw [hW1]; exact box_below _ _ _)
  have A := Lib.hid (hed.below BL.out)
  have hW1' := Lib.hid hW1
  have hz3 := Lib.hid hed.len
  have hy := Lib.hid (fun k h => sel_yes (q := intoQ pt) (l := D.edges) (m := k) h)
  have hn := Lib.hid (fun k h => sel_no (q := intoQ pt) (l := D.edges) (m := k) h)
  have hle := Lib.hid (fun k => sel_len (intoQ pt) D.edges k)
  obtain ⟨R, hR⟩ : ∃ R, R = selL (intoQ pt) D.edges D.edges.length := ⟨_, rfl⟩
  rw [← hR]
  have hs := Lib.hid hR
  clear h hed hW1 hR
  go_enter Tryz.func18, Tryz.ntmps18
  go_wp2
  rw [← hW1'.out]
  clear hW1'
  go_loopw [5, 6] (fun v x wr => ∃ k : Nat, k ≤ pn3 ∧ x = .int .i64 k ∧ Hid (wr.ownsRow W1.heap.size 3 1 v (selL (intoQ pt) D.edges k).length (nums .i64 (selL (intoQ pt) D.edges k))) ∧ Hid (Below W1.heap.size W1 wr)) (fun _ x _ => pn3 - (intOf x).toNat)
  case atStart => exact ⟨0, Nat.zero_le _, rfl, Lib.hid (World.ownsRow_nil _ _ _ _), Lib.hid (Below.refl _ _)⟩
  case round =>
    obtain ⟨k, hk, rfl, hown, hB⟩ := hrel
    have k3 := (Z.out.below hB.out Z.out.lt).cell 3
    by_cases hlt : k < pn3
    · have hki : (k : Int) < (pn3 : Int) := by omega
      obtain ⟨b, off, rfl, hbl, x0, x1, x2, x3, x4, x5, x6⟩ := edges_at (A.out.below hB.out) hlt
      have hy' := Lib.hid (hy.out k)
      have hn' := Lib.hid (hn.out k)
      have hl := hle.out k
      obtain ⟨fr, ds, ek, ex, ey, ec, ed, hs2⟩ : ∃ fr ds ek ex ey ec ed, D.edges.getD k edge0 = (⟨fr, ds, ek, ex, ey, ec, ed⟩ : EdgeD) := ⟨_, _, _, _, _, _, _, rfl⟩
      rw [hs2] at x0 x1 hy' hn'
      dsimp only at x0 x1
      have hqe : Hid (intoQ pt (⟨fr, ds, ek, ex, ey, ec, ed⟩ : EdgeD) = ((ds : Int) == pt)) := Lib.hid (by unfold intoQ; rw [Bool.eq_iff_iff]; simp)
      clear hs2 x2 x3 x4 x5 x6
      cases hq : ((ds : Int) == pt)
      · have hs3 := Lib.hid (hn'.out (by rw [hqe.out]; exact hq))
        have hown2 := Lib.hid hown.out
        rw [← hs3.out] at hown2
        have hq2 : ¬ ((ds : Int) = pt) := by simpa using hq
        clear hy' hn' hqe
        go_wp2
        go_roundw
        case rel => exact ⟨k + 1, by omega, by go_num, hown2, hB⟩
        case measure => simp [intOf]; omega
      · have hs3 := Lib.hid (hy'.out (by rw [hqe.out]; exact hq))
        have he : ds = pt := by simpa using hq
        clear hy' hn' hqe hq
        subst he
        go_wp2_with (at_builtin; refine wpList_append1 _ rfl _ _ 32 rfl W1 3 i0 (.int .i64 0) 8 Tryz.underlying32 hi hz0 hz1 hz2 rfl .i64 (k : Int) _ _ hown.out hB.out rfl rfl (by omega) (by omega) ?_; intro v' w' hown4 hb4; have hown4' := Lib.hid hown4; have hb4' := Lib.hid hb4; clear hown4 hb4)
        rw [← hs3.out] at hown4'
        go_roundw
        case rel => exact ⟨k + 1, by omega, by go_num, hown4', hb4'⟩
        case measure => simp [intOf]; omega
    · have hki : ¬ (k : Int) < (pn3 : Int) := by omega
      have hke : k = D.edges.length := by have := hz3.out; omega
      rw [hke] at hown
      rw [← hs.out] at hown
      have hfin := Lib.hid (slp_own (own_from hown.out (fun b hb => by have := (hown.out.lt b hb).1; have := BL.out.size; omega)) (by rw [hs.out]; have := hle.out D.edges.length; have := hz3.out; omega) (BL.out.trans (hB.out.mono BL.out.size)))
      clear hke
      go_wp2
      go_ret
      exact hfin.out
set_option maxRecDepth 100000 in
theorem pints_any (a1 a3 : Option Addr) (P P2 : List Int) (n1 n3 c1 c3 : Nat) (w : World) (h1 : SL w a1 n1 c1 P) (h2 : SL w a3 n3 c3 P2) :
    Calls Tryz.prog 16 #[.slice a1 n1 c1, .slice a3 n3 c3] w (Gives (.bool (decide (P = P2))) w) := by
  have q := Lib.hid (wrsame_any a1 none a3 none P [] P2 [] n1 0 n3 0 c1 0 c3 0 w ⟨h1, SL.nil w⟩ ⟨h2, SL.nil w⟩)
  rw [show sameW P [] P2 [] = decide (P = P2) by simp [sameW]] at q
  clear h1 h2
  generalize decide (P = P2) = R at *
  go_enter Tryz.func16, Tryz.ntmps16
  go_wp2_with fail
  refine q.out.mono ?_
  rintro e w1 ⟨rfl, hb⟩
  go_wp2
  go_ret
  exact ⟨rfl, hb⟩
end Go.Proofs.YtgeliikfgnkppaaGreatDoor
/- Which rows of texts are tables; whether two are the same: of both. -/
namespace Go.Proofs.YtgeliikfgnkppaaGreatDoor
open Go.RowKit
set_option linter.unusedVariables false
set_option linter.unusedSimpArgs false

def longB (l : List ByteArray) : Bool := l.any fun s => decide (256 < s.size)
def ascB (l : List ByteArray) : Bool := (List.range (l.length - 1)).all fun k => lt8 (byt (l.getD k e0)) (byt (l.getD (k + 1) e0))
def checkT (l : List ByteArray) : Int := if 4096 < l.length ∨ longB l = true then 3 else if ascB l then 0 else 50
theorem toList_byt (s : ByteArray) : s.toList = byt s := by unfold byt; rw [ByteArray.toList_eq]
theorem txt_eq (s t : ByteArray) : (s.toList == t.toList) = decide (s = t) := by
  rw [toList_byt, toList_byt, Bool.eq_iff_iff, beq_iff_eq, decide_eq_true_iff]
  exact ⟨byt_inj, fun h => by rw [h]⟩
theorem leq_no {x y : ByteArray} (h : lt8 (byt y) (byt x) = true) : Op.bytesLess x.toList y.toList = false ∧ (x.toList == y.toList) = false := by
  rw [toList_byt, toList_byt]
  refine ⟨lt8_asymm h, ?_⟩
  rw [beq_eq_false_iff_ne]
  intro e
  rw [e, lt8_irrefl] at h
  cases h
theorem leq_yes {x y : ByteArray} (h : lt8 (byt y) (byt x) = false) : Op.bytesLess x.toList y.toList = true ∨ Op.bytesLess x.toList y.toList = false ∧ (x.toList == y.toList) = true := by
  rw [toList_byt, toList_byt]
  cases h2 : Op.bytesLess (byt x) (byt y)
  · right
    have := lt8_tri h2 h
    rw [this]
    simp
  · exact .inl rfl
theorem long_no {l : List ByteArray} (h : ∀ t, t < l.length → ¬ 256 < (l.getD t e0).size) : longB l = false := by
  unfold longB
  rw [List.any_eq_false]
  intro s hs
  obtain ⟨t, ht, rfl⟩ := List.getElem_of_mem hs
  have := h t ht
  simpa [List.getD, ht] using this
theorem long_yes {l : List ByteArray} {t : Nat} (ht : t < l.length) (h : 256 < (l.getD t e0).size) : longB l = true := by
  unfold longB
  rw [List.any_eq_true]
  exact ⟨l.getD t e0, by simp [List.getD, ht], by simpa using h⟩
theorem asc_no {l : List ByteArray} {k : Nat} (hk : k + 1 < l.length) (h : lt8 (byt (l.getD k e0)) (byt (l.getD (k + 1) e0)) = false) : ascB l = false := by
  unfold ascB
  rw [List.all_eq_false]
  exact ⟨k, by simp; omega, by rw [h]; simp⟩
theorem asc_yes {l : List ByteArray} (h : ∀ t, t + 1 < l.length → lt8 (byt (l.getD t e0)) (byt (l.getD (t + 1) e0)) = true) : ascB l = true := by
  unfold ascB
  rw [List.all_eq_true]
  intro t ht
  exact h t (by simp at ht; omega)
end Go.Proofs.YtgeliikfgnkppaaGreatDoor
/- Whether two rows of texts are the same; which are large. -/
namespace Go.Proofs.YtgeliikfgnkppaaGreatDoor
open Go.RowKit
set_option linter.unusedVariables false
set_option linter.unusedSimpArgs false

set_option maxRecDepth 100000 in
theorem equal_any (a1 a2 : Option Addr) (n1 n2 c1 c2 : Nat) (l1 l2 : List ByteArray) (h1n : n1 ≤ 9223372036854775807) (h2n : n2 ≤ 9223372036854775807) (w : World) (h1 : TT w a1 n1 c1 l1) (h2 : TT w a2 n2 c2 l2) :
    Calls Tryz.prog 36 #[.slice a1 n1 c1, .slice a2 n2 c2] w (DrawnB (.bool (decide (l1 = l2))) w) := by
  have e1 := h1.len
  have e2 := h2.len
  by_cases hz1 : n1 = 0
  · subst hz1
    obtain rfl : l1 = [] := List.eq_nil_of_length_eq_zero e1.symm
    refine (Tryz.slices_Equal_string_empty a1 a2 c1 n2 c2 w h2n).mono ?_
    rintro e w' ⟨rfl, rfl⟩
    refine ⟨ret_bool ?_, 0, rfl⟩
    rw [decide_eq_decide, e2]
    constructor
    · intro h; exact (List.eq_nil_of_length_eq_zero h).symm
    · intro h; rw [← h]; rfl
  · by_cases hz2 : n1 = n2
    · rcases h1.sees with h | ⟨b1, o1, rfl, -, hc1⟩
      · subst h; exact absurd e1 hz1
      rcases h2.sees with h | ⟨b2, o2, rfl, -, hc2⟩
      · subst h; exact absurd (hz2.trans e2) hz1
      refine (Tryz.slices_Equal_string b1 o1 n1 c1 b2 o2 n2 c2 l1 l2 w (by omega) (by omega) h1n h2n hc1 hc2).mono ?_
      rintro e w' ⟨rfl, q, rfl⟩
      refine ⟨?_, q, rfl⟩
      rw [List.take_of_length_le (by omega), List.take_of_length_le (by omega)]
    · refine (Tryz.slices_Equal_string_lens a1 a2 n1 c1 n2 c2 w hz2).mono ?_
      rintro e w' ⟨rfl, rfl⟩
      refine ⟨ret_bool (decide_eq_false ?_).symm, 0, rfl⟩
      intro h
      rw [h] at e1
      omega
theorem same_no {l1 l2 : List ByteArray} {k : Nat} (h : l1.getD k e0 ≠ l2.getD k e0) : decide (l1 = l2) = false := decide_eq_false (fun e => h (by rw [e]))
theorem same_yes {l1 l2 : List ByteArray} (hl : l1.length = l2.length) (h : ∀ t, t < l1.length → l1.getD t e0 = l2.getD t e0) : decide (l1 = l2) = true := by
  refine decide_eq_true (List.ext_getElem hl fun i h1 h2 => ?_)
  have := h i h1
  simpa [List.getD, h1, h2] using this
def largeT (l : List ByteArray) : Bool := decide (200 < l.length) || l.any fun s => decide (400 < s.size)
end Go.Proofs.YtgeliikfgnkppaaGreatDoor
/- Two programs, the same: the program's. (Written by gen-prog-same.py.) -/
namespace Go.Proofs.YtgeliikfgnkppaaGreatDoor
open Go.RowKit
set_option linter.unusedVariables false
set_option linter.unusedSimpArgs false

theorem ptl_iff (s t : ByteArray) : s.toList = t.toList ↔ s = t := by
  rw [ByteArray.toList_eq, ByteArray.toList_eq]
  exact ⟨fun h => ByteArray.ext (Array.toList_inj.1 h), fun h => by rw [h]⟩
def spotEq (a b : SpotD) : Bool := decide (a.fn = b.fn) && (decide (a.file = b.file) && decide (a.line = b.line))
def edgeEq (a b : EdgeD) : Bool := decide (a.frm = b.frm) && (decide (a.dst = b.dst) && (decide (a.k = b.k) && (decide (a.x = b.x) && (decide (a.y = b.y) && (decide (a.c = b.c) && decide (a.d = b.d))))))
def listEq {α : Type} (q : α → α → Bool) (d : α) (l r : List α) : Bool := decide (l.length = r.length) && (List.range l.length).all fun i => q (l.getD i d) (r.getD i d)
theorem listEq_no {α : Type} {q : α → α → Bool} {d : α} {l r : List α} {k : Nat} (hk : k < l.length) (h : q (l.getD k d) (r.getD k d) = false) : listEq q d l r = false := by
  unfold listEq
  rw [show (List.range l.length).all (fun i => q (l.getD i d) (r.getD i d)) = false by rw [List.all_eq_false]; exact ⟨k, List.mem_range.2 hk, by rw [h]; simp⟩, Bool.and_false]
theorem listEq_len {α : Type} {q : α → α → Bool} {d : α} {l r : List α} (h : l.length ≠ r.length) : listEq q d l r = false := by
  unfold listEq; rw [decide_eq_false h, Bool.false_and]
theorem listEq_yes {α : Type} {q : α → α → Bool} {d : α} {l r : List α} (hl : l.length = r.length) (h : ∀ t, t < l.length → q (l.getD t d) (r.getD t d) = true) : listEq q d l r = true := by
  unfold listEq
  rw [decide_eq_true hl, Bool.true_and, List.all_eq_true]
  exact fun t ht => h t (List.mem_range.1 ht)
theorem listEq_refl {α : Type} {q : α → α → Bool} {d : α} (hq : ∀ x, q x x = true) (l : List α) : listEq q d l l = true := listEq_yes rfl (fun t _ => hq _)
theorem spotEq_refl (x : SpotD) : spotEq x x = true := by simp [spotEq]
theorem edgeEq_refl (x : EdgeD) : edgeEq x x = true := by simp [edgeEq]
def sameP (A B : PD) : Bool := decide (A.nm = B.nm) && (decide (A.vars = B.vars) && (listEq spotEq spot0 A.spots B.spots && listEq edgeEq edge0 A.edges B.edges))
theorem sameP_refl (A : PD) : sameP A A = true := by unfold sameP; rw [listEq_refl spotEq_refl, listEq_refl edgeEq_refl]; simp
set_option maxRecDepth 100000 in
set_option maxHeartbeats 8000000 in
theorem spotsEq_any (a1 a2 : Option Addr) (n1 n2 c1 c2 : Nat) (l1 l2 : List SpotD) (w : World) (h1 : RO spotC w a1 n1 c1 l1) (h2 : RO spotC w a2 n2 c2 l2) : Calls Tryz.prog 37 #[.slice a1 n1 c1, .slice a2 n2 c2] w (DrawnB (.bool (listEq spotEq spot0 l1 l2)) w) := by
  have hl1 := Lib.hid h1.len
  have hl2 := Lib.hid h2.len
  have T1 := Lib.hid h1
  have T2 := Lib.hid h2
  have hm1 := h1.max'
  have hm2 := h2.max'
  have hm1i : (n1 : Int) ≤ 9223372036854775807 := by omega
  clear h1 h2
  by_cases hne : n1 = n2
  · have e0' : ((n1 : Int) != (n2 : Int)) = false := by simp; omega
    have e0n : (n1 != n2) = false := by simpa using hne
    have hne' := Lib.hid hne
    have hno := Lib.hid (fun k hk h => listEq_no (q := spotEq) (d := spot0) (l := l1) (r := l2) (k := k) hk h)
    have hyes := Lib.hid (fun h => listEq_yes (q := spotEq) (d := spot0) (l := l1) (r := l2) (by rw [← hl1.out, ← hl2.out]; exact hne) h)
    clear hne
    generalize listEq spotEq spot0 l1 l2 = R at *
    go_enter Tryz.func37, Tryz.ntmps37
    go_wp2
    go_loopw [13] (fun x wr => ∃ k m : Nat, k ≤ n1 ∧ x = .int .i64 k ∧ Hid (∀ t, t < k → spotEq (l1.getD t spot0) (l2.getD t spot0) = true) ∧ wr = w.drewN m) (fun x _ => n1 - (intOf x).toNat)
    case atStart => exact ⟨0, 0, by omega, rfl, Lib.hid (fun t ht => by omega), rfl⟩
    case round =>
      obtain ⟨k, m, hk, rfl, hal, rfl⟩ := hrel
      by_cases hlt : k < n1
      · have hki : (k : Int) < (n1 : Int) := by omega
        have hk2 : k < n2 := by have := hne'.out; omega
        have hki2 : (k : Int) < (n2 : Int) := by omega
        obtain ⟨b1, o1, rfl, -, x0, x1, x2⟩ := spots_at T1.out hlt
        obtain ⟨b2, o2, rfl, -, y0, y1, y2⟩ := spots_at T2.out hk2
        have hno' := Lib.hid (hno.out k (by rw [← hl1.out]; exact hlt))
        have hyes' : Hid (spotEq (l1.getD k spot0) (l2.getD k spot0) = true → ∀ t, t < k + 1 → spotEq (l1.getD t spot0) (l2.getD t spot0) = true) := Lib.hid (fun h t ht => by
          by_cases e : t = k
          · rw [e]; exact h
          · exact hal.out t (by omega))
        obtain ⟨f01, f11, l21, hs1⟩ : ∃ f01 f11 l21, l1.getD k spot0 = (⟨f01, f11, l21⟩ : SpotD) := ⟨_, _, _, rfl⟩
        obtain ⟨f02, f12, l22, hs2⟩ : ∃ f02 f12 l22, l2.getD k spot0 = (⟨f02, f12, l22⟩ : SpotD) := ⟨_, _, _, rfl⟩
        rw [hs1] at x0 x1 x2 hno' hyes'
        rw [hs2] at y0 y1 y2 hno' hyes'
        dsimp only at x0 x1 x2 y0 y1 y2
        clear hs1 hs2 hal hno
        have g0 : ∀ W, (∃ j, W = w.drewN j) → W.cell? ⟨b1, o1 + k * 3, none⟩ = some (.string f01) := fun W hW => by obtain ⟨j, rfl⟩ := hW; exact x0
        have g1 : ∀ W, (∃ j, W = w.drewN j) → W.cell? ⟨b1, o1 + k * 3 + 1, none⟩ = some (.string f11) := fun W hW => by obtain ⟨j, rfl⟩ := hW; exact x1
        have g2 : ∀ W, (∃ j, W = w.drewN j) → W.cell? ⟨b1, o1 + k * 3 + 2, none⟩ = some (.int .i64 l21) := fun W hW => by obtain ⟨j, rfl⟩ := hW; exact x2
        have e0 : ∀ W, (∃ j, W = w.drewN j) → W.cell? ⟨b2, o2 + k * 3, none⟩ = some (.string f02) := fun W hW => by obtain ⟨j, rfl⟩ := hW; exact y0
        have e1 : ∀ W, (∃ j, W = w.drewN j) → W.cell? ⟨b2, o2 + k * 3 + 1, none⟩ = some (.string f12) := fun W hW => by obtain ⟨j, rfl⟩ := hW; exact y1
        have e2 : ∀ W, (∃ j, W = w.drewN j) → W.cell? ⟨b2, o2 + k * 3 + 2, none⟩ = some (.int .i64 l22) := fun W hW => by obtain ⟨j, rfl⟩ := hW; exact y2
        clear x0 x1 x2 y0 y1 y2
        by_cases hq : f01 = f02 ∧ f11 = f12 ∧ l21 = l22
        · have hg := Lib.hid (hyes'.out (by simp [hq, spotEq]))
          obtain ⟨rfl, rfl, rfl⟩ := hq
          clear hyes' hno'
          go_wp2
          refine wp_drawn_on (fun W => ∃ j, W = w.drewN j) (by kernel_rfl) (⟨m + 1, rfl⟩) (fun hHeld => ?_)
          refine wpAnyH_take (i := 0) (oi := { dst := some 16, op := Go.Op.move (Go.Operand.tmp 0), type := 23, pos := "slices.go:25", after := #[], guard := none }) (v := ?v1) rfl (by kernel_rfl) (by kernel_rfl) (by kernel_rfl) (fun _ _ _ h => h) (Or.inl ⟨by kernel_rfl, ?h1⟩) (by assumption) ?r1
          case h1 => (intro w hSw; (try dsimp only at hSw); go_simp; try with_reducible rfl)
          try simp only [Act.put, List.setIfInBounds_toArray, List.set_cons_zero, List.set_cons_succ]
          refine wpAnyH_take (i := 1) (oi := { dst := some 17, op := Go.Op.move (Go.Operand.tmp 5), type := 3, pos := "slices.go:25", after := #[], guard := none }) (v := ?v2) rfl (by kernel_rfl) (by kernel_rfl) (by kernel_rfl) (fun _ _ _ h => h) (Or.inl ⟨by kernel_rfl, ?h2⟩) (by assumption) ?r2
          case h2 => (intro w hSw; (try dsimp only at hSw); go_simp; try with_reducible rfl)
          try simp only [Act.put, List.setIfInBounds_toArray, List.set_cons_zero, List.set_cons_succ]
          refine wpAnyH_take (i := 2) (oi := { dst := some 18, op := Go.Op.indexAddr 23 (Go.Operand.tmp 16) (Go.Operand.tmp 17), type := 0, pos := "slices.go:25", after := #[{ on := 0, ground := Go.Ground.data }, { on := 1, ground := Go.Ground.data }], guard := none }) (v := ?v3) rfl (by kernel_rfl) (by kernel_rfl) (by kernel_rfl) (fun _ _ _ h => h) (Or.inl ⟨by kernel_rfl, ?h3⟩) (by assumption) ?r3
          case h3 => (intro w hSw; (try dsimp only at hSw); go_simp; try with_reducible rfl)
          try simp only [Act.put, List.setIfInBounds_toArray, List.set_cons_zero, List.set_cons_succ]
          refine wpAnyH_take (i := 3) (oi := { dst := some 19, op := Go.Op.load 54 (Go.Operand.tmp 18), type := 54, pos := "slices.go:25", after := #[{ on := 2, ground := Go.Ground.data }], guard := none }) (v := ?v4) rfl (by kernel_rfl) (by kernel_rfl) (by kernel_rfl) (fun _ _ _ h => h) (Or.inl ⟨by kernel_rfl, ?h4⟩) (by assumption) ?r4
          case h4 => (intro w hSw; (try dsimp only at hSw); go_simp; try with_reducible rfl)
          try simp only [Act.put, List.setIfInBounds_toArray, List.set_cons_zero, List.set_cons_succ]
          refine wpAnyH_take (i := 4) (oi := { dst := some 20, op := Go.Op.move (Go.Operand.tmp 1), type := 23, pos := "slices.go:25", after := #[], guard := none }) (v := ?v5) rfl (by kernel_rfl) (by kernel_rfl) (by kernel_rfl) (fun _ _ _ h => h) (Or.inl ⟨by kernel_rfl, ?h5⟩) (by assumption) ?r5
          case h5 => (intro w hSw; (try dsimp only at hSw); go_simp; try with_reducible rfl)
          try simp only [Act.put, List.setIfInBounds_toArray, List.set_cons_zero, List.set_cons_succ]
          refine wpAnyH_take (i := 5) (oi := { dst := some 21, op := Go.Op.move (Go.Operand.tmp 5), type := 3, pos := "slices.go:25", after := #[], guard := none }) (v := ?v6) rfl (by kernel_rfl) (by kernel_rfl) (by kernel_rfl) (fun _ _ _ h => h) (Or.inl ⟨by kernel_rfl, ?h6⟩) (by assumption) ?r6
          case h6 => (intro w hSw; (try dsimp only at hSw); go_simp; try with_reducible rfl)
          try simp only [Act.put, List.setIfInBounds_toArray, List.set_cons_zero, List.set_cons_succ]
          refine wpAnyH_take (i := 6) (oi := { dst := some 22, op := Go.Op.indexAddr 23 (Go.Operand.tmp 20) (Go.Operand.tmp 21), type := 0, pos := "slices.go:25", after := #[{ on := 4, ground := Go.Ground.data }, { on := 5, ground := Go.Ground.data }], guard := none }) (v := ?v7) rfl (by kernel_rfl) (by kernel_rfl) (by kernel_rfl) (fun _ _ _ h => h) (Or.inl ⟨by kernel_rfl, ?h7⟩) (by assumption) ?r7
          case h7 => (intro w hSw; (try dsimp only at hSw); go_simp; try with_reducible rfl)
          try simp only [Act.put, List.setIfInBounds_toArray, List.set_cons_zero, List.set_cons_succ]
          refine wpAnyH_take (i := 7) (oi := { dst := some 23, op := Go.Op.load 54 (Go.Operand.tmp 22), type := 54, pos := "slices.go:25", after := #[{ on := 6, ground := Go.Ground.data }], guard := none }) (v := ?v8) rfl (by kernel_rfl) (by kernel_rfl) (by kernel_rfl) (fun _ _ _ h => h) (Or.inl ⟨by kernel_rfl, ?h8⟩) (by assumption) ?r8
          case h8 => (intro w hSw; (try dsimp only at hSw); go_simp; try with_reducible rfl)
          try simp only [Act.put, List.setIfInBounds_toArray, List.set_cons_zero, List.set_cons_succ]
          refine wpAnyH_take (i := 8) (oi := { dst := some 24, op := Go.Op.binOp Go.BinOp.neq 54 (Go.Operand.tmp 19) (Go.Operand.tmp 23) 54, type := 4, pos := "slices.go:25", after := #[{ on := 3, ground := Go.Ground.data }, { on := 7, ground := Go.Ground.data }], guard := none }) (v := ?v9) rfl (by kernel_rfl) (by kernel_rfl) (by kernel_rfl) (fun _ _ _ h => h) (Or.inl ⟨by kernel_rfl, ?h9⟩) (by assumption) ?r9
          case h9 => (intro w hSw; (try dsimp only at hSw); refine Eq.trans (b := Result.ok (Next.value (.bool false)) w) (by go_simp; try simp [ptxt_eq]) ?_; with_reducible rfl)
          try simp only [Act.put, List.setIfInBounds_toArray, List.set_cons_zero, List.set_cons_succ]
          refine wpAnyH_done (by kernel_rfl) ?_ _
          clear g0 e0 g1 e1 g2 e2
          go_wp2
          go_roundw
          case rel => exact ⟨k + 1, m + 1, by omega, by go_num, hg, rfl⟩
          case measure => simp [intOf]; omega
        · have hf := Lib.hid (hno'.out (by cases hx : spotEq (⟨f01, f11, l21⟩ : SpotD) ⟨f02, f12, l22⟩ with | false => rfl | true => exact absurd (by simpa [spotEq] using hx) hq))
          clear hyes' hno'
          go_wp2
          refine wp_drawn_on (fun W => ∃ j, W = w.drewN j) (by kernel_rfl) (⟨m + 1, rfl⟩) (fun hHeld => ?_)
          refine wpAnyH_take (i := 0) (oi := { dst := some 16, op := Go.Op.move (Go.Operand.tmp 0), type := 23, pos := "slices.go:25", after := #[], guard := none }) (v := ?v10) rfl (by kernel_rfl) (by kernel_rfl) (by kernel_rfl) (fun _ _ _ h => h) (Or.inl ⟨by kernel_rfl, ?h10⟩) (by assumption) ?r10
          case h10 => (intro w hSw; (try dsimp only at hSw); go_simp; try with_reducible rfl)
          try simp only [Act.put, List.setIfInBounds_toArray, List.set_cons_zero, List.set_cons_succ]
          refine wpAnyH_take (i := 1) (oi := { dst := some 17, op := Go.Op.move (Go.Operand.tmp 5), type := 3, pos := "slices.go:25", after := #[], guard := none }) (v := ?v11) rfl (by kernel_rfl) (by kernel_rfl) (by kernel_rfl) (fun _ _ _ h => h) (Or.inl ⟨by kernel_rfl, ?h11⟩) (by assumption) ?r11
          case h11 => (intro w hSw; (try dsimp only at hSw); go_simp; try with_reducible rfl)
          try simp only [Act.put, List.setIfInBounds_toArray, List.set_cons_zero, List.set_cons_succ]
          refine wpAnyH_take (i := 2) (oi := { dst := some 18, op := Go.Op.indexAddr 23 (Go.Operand.tmp 16) (Go.Operand.tmp 17), type := 0, pos := "slices.go:25", after := #[{ on := 0, ground := Go.Ground.data }, { on := 1, ground := Go.Ground.data }], guard := none }) (v := ?v12) rfl (by kernel_rfl) (by kernel_rfl) (by kernel_rfl) (fun _ _ _ h => h) (Or.inl ⟨by kernel_rfl, ?h12⟩) (by assumption) ?r12
          case h12 => (intro w hSw; (try dsimp only at hSw); go_simp; try with_reducible rfl)
          try simp only [Act.put, List.setIfInBounds_toArray, List.set_cons_zero, List.set_cons_succ]
          refine wpAnyH_take (i := 3) (oi := { dst := some 19, op := Go.Op.load 54 (Go.Operand.tmp 18), type := 54, pos := "slices.go:25", after := #[{ on := 2, ground := Go.Ground.data }], guard := none }) (v := ?v13) rfl (by kernel_rfl) (by kernel_rfl) (by kernel_rfl) (fun _ _ _ h => h) (Or.inl ⟨by kernel_rfl, ?h13⟩) (by assumption) ?r13
          case h13 => (intro w hSw; (try dsimp only at hSw); go_simp; try with_reducible rfl)
          try simp only [Act.put, List.setIfInBounds_toArray, List.set_cons_zero, List.set_cons_succ]
          refine wpAnyH_take (i := 4) (oi := { dst := some 20, op := Go.Op.move (Go.Operand.tmp 1), type := 23, pos := "slices.go:25", after := #[], guard := none }) (v := ?v14) rfl (by kernel_rfl) (by kernel_rfl) (by kernel_rfl) (fun _ _ _ h => h) (Or.inl ⟨by kernel_rfl, ?h14⟩) (by assumption) ?r14
          case h14 => (intro w hSw; (try dsimp only at hSw); go_simp; try with_reducible rfl)
          try simp only [Act.put, List.setIfInBounds_toArray, List.set_cons_zero, List.set_cons_succ]
          refine wpAnyH_take (i := 5) (oi := { dst := some 21, op := Go.Op.move (Go.Operand.tmp 5), type := 3, pos := "slices.go:25", after := #[], guard := none }) (v := ?v15) rfl (by kernel_rfl) (by kernel_rfl) (by kernel_rfl) (fun _ _ _ h => h) (Or.inl ⟨by kernel_rfl, ?h15⟩) (by assumption) ?r15
          case h15 => (intro w hSw; (try dsimp only at hSw); go_simp; try with_reducible rfl)
          try simp only [Act.put, List.setIfInBounds_toArray, List.set_cons_zero, List.set_cons_succ]
          refine wpAnyH_take (i := 6) (oi := { dst := some 22, op := Go.Op.indexAddr 23 (Go.Operand.tmp 20) (Go.Operand.tmp 21), type := 0, pos := "slices.go:25", after := #[{ on := 4, ground := Go.Ground.data }, { on := 5, ground := Go.Ground.data }], guard := none }) (v := ?v16) rfl (by kernel_rfl) (by kernel_rfl) (by kernel_rfl) (fun _ _ _ h => h) (Or.inl ⟨by kernel_rfl, ?h16⟩) (by assumption) ?r16
          case h16 => (intro w hSw; (try dsimp only at hSw); go_simp; try with_reducible rfl)
          try simp only [Act.put, List.setIfInBounds_toArray, List.set_cons_zero, List.set_cons_succ]
          refine wpAnyH_take (i := 7) (oi := { dst := some 23, op := Go.Op.load 54 (Go.Operand.tmp 22), type := 54, pos := "slices.go:25", after := #[{ on := 6, ground := Go.Ground.data }], guard := none }) (v := ?v17) rfl (by kernel_rfl) (by kernel_rfl) (by kernel_rfl) (fun _ _ _ h => h) (Or.inl ⟨by kernel_rfl, ?h17⟩) (by assumption) ?r17
          case h17 => (intro w hSw; (try dsimp only at hSw); go_simp; try with_reducible rfl)
          try simp only [Act.put, List.setIfInBounds_toArray, List.set_cons_zero, List.set_cons_succ]
          refine wpAnyH_take (i := 8) (oi := { dst := some 24, op := Go.Op.binOp Go.BinOp.neq 54 (Go.Operand.tmp 19) (Go.Operand.tmp 23) 54, type := 4, pos := "slices.go:25", after := #[{ on := 3, ground := Go.Ground.data }, { on := 7, ground := Go.Ground.data }], guard := none }) (v := ?v18) rfl (by kernel_rfl) (by kernel_rfl) (by kernel_rfl) (fun _ _ _ h => h) (Or.inl ⟨by kernel_rfl, ?h18⟩) (by assumption) ?r18
          case h18 => (intro w hSw; (try dsimp only at hSw); refine Eq.trans (b := Result.ok (Next.value (.bool true)) w) (by go_simp; by_cases h0 : f01 = f02 <;> by_cases h1 : f11 = f12 <;> by_cases h2 : l21 = l22 <;> simp_all [ptxt_eq, ptl_iff]) ?_; with_reducible rfl)
          try simp only [Act.put, List.setIfInBounds_toArray, List.set_cons_zero, List.set_cons_succ]
          refine wpAnyH_done (by kernel_rfl) ?_ _
          clear g0 e0 g1 e1 g2 e2
          go_wp2
          go_ret
          exact ⟨ret_bool hf.out.symm, m + 1, rfl⟩
      · have hki : ¬ (k : Int) < (n1 : Int) := by omega
        have hf := Lib.hid (hyes.out (fun t ht => hal.out t (by rw [← hl1.out] at ht; omega)))
        clear hyes hno hal
        go_wp2
        go_ret
        exact ⟨ret_bool hf.out.symm, m, rfl⟩
  · have e0' : ((n1 : Int) != (n2 : Int)) = true := by simp; omega
    have e0n : (n1 != n2) = true := by simpa using hne
    have hR : Hid (listEq spotEq spot0 l1 l2 = false) := Lib.hid (listEq_len (by rw [← hl1.out, ← hl2.out]; exact hne))
    clear hne
    generalize listEq spotEq spot0 l1 l2 = R at *
    go_enter Tryz.func37, Tryz.ntmps37
    go_wp2
    go_ret
    exact ⟨ret_bool hR.out.symm, 0, rfl⟩
set_option maxRecDepth 100000 in
set_option maxHeartbeats 8000000 in
theorem edgesEq_any (a1 a2 : Option Addr) (n1 n2 c1 c2 : Nat) (l1 l2 : List EdgeD) (w : World) (h1 : RO edgeC w a1 n1 c1 l1) (h2 : RO edgeC w a2 n2 c2 l2) : Calls Tryz.prog 38 #[.slice a1 n1 c1, .slice a2 n2 c2] w (DrawnB (.bool (listEq edgeEq edge0 l1 l2)) w) := by
  have hl1 := Lib.hid h1.len
  have hl2 := Lib.hid h2.len
  have T1 := Lib.hid h1
  have T2 := Lib.hid h2
  have hm1 := h1.max'
  have hm2 := h2.max'
  have hm1i : (n1 : Int) ≤ 9223372036854775807 := by omega
  clear h1 h2
  by_cases hne : n1 = n2
  · have e0' : ((n1 : Int) != (n2 : Int)) = false := by simp; omega
    have e0n : (n1 != n2) = false := by simpa using hne
    have hne' := Lib.hid hne
    have hno := Lib.hid (fun k hk h => listEq_no (q := edgeEq) (d := edge0) (l := l1) (r := l2) (k := k) hk h)
    have hyes := Lib.hid (fun h => listEq_yes (q := edgeEq) (d := edge0) (l := l1) (r := l2) (by rw [← hl1.out, ← hl2.out]; exact hne) h)
    clear hne
    generalize listEq edgeEq edge0 l1 l2 = R at *
    go_enter Tryz.func38, Tryz.ntmps38
    go_wp2
    go_loopw [13] (fun x wr => ∃ k m : Nat, k ≤ n1 ∧ x = .int .i64 k ∧ Hid (∀ t, t < k → edgeEq (l1.getD t edge0) (l2.getD t edge0) = true) ∧ wr = w.drewN m) (fun x _ => n1 - (intOf x).toNat)
    case atStart => exact ⟨0, 0, by omega, rfl, Lib.hid (fun t ht => by omega), rfl⟩
    case round =>
      obtain ⟨k, m, hk, rfl, hal, rfl⟩ := hrel
      by_cases hlt : k < n1
      · have hki : (k : Int) < (n1 : Int) := by omega
        have hk2 : k < n2 := by have := hne'.out; omega
        have hki2 : (k : Int) < (n2 : Int) := by omega
        obtain ⟨b1, o1, rfl, -, x0, x1, x2, x3, x4, x5, x6⟩ := edges_at T1.out hlt
        obtain ⟨b2, o2, rfl, -, y0, y1, y2, y3, y4, y5, y6⟩ := edges_at T2.out hk2
        have hno' := Lib.hid (hno.out k (by rw [← hl1.out]; exact hlt))
        have hyes' : Hid (edgeEq (l1.getD k edge0) (l2.getD k edge0) = true → ∀ t, t < k + 1 → edgeEq (l1.getD t edge0) (l2.getD t edge0) = true) := Lib.hid (fun h t ht => by
          by_cases e : t = k
          · rw [e]; exact h
          · exact hal.out t (by omega))
        obtain ⟨f01, d11, k21, x31, y41, c51, d61, hs1⟩ : ∃ f01 d11 k21 x31 y41 c51 d61, l1.getD k edge0 = (⟨f01, d11, k21, x31, y41, c51, d61⟩ : EdgeD) := ⟨_, _, _, _, _, _, _, rfl⟩
        obtain ⟨f02, d12, k22, x32, y42, c52, d62, hs2⟩ : ∃ f02 d12 k22 x32 y42 c52 d62, l2.getD k edge0 = (⟨f02, d12, k22, x32, y42, c52, d62⟩ : EdgeD) := ⟨_, _, _, _, _, _, _, rfl⟩
        rw [hs1] at x0 x1 x2 x3 x4 x5 x6 hno' hyes'
        rw [hs2] at y0 y1 y2 y3 y4 y5 y6 hno' hyes'
        dsimp only at x0 x1 x2 x3 x4 x5 x6 y0 y1 y2 y3 y4 y5 y6
        clear hs1 hs2 hal hno
        have g0 : ∀ W, (∃ j, W = w.drewN j) → W.cell? ⟨b1, o1 + k * 7, none⟩ = some (.int .i64 f01) := fun W hW => by obtain ⟨j, rfl⟩ := hW; exact x0
        have g1 : ∀ W, (∃ j, W = w.drewN j) → W.cell? ⟨b1, o1 + k * 7 + 1, none⟩ = some (.int .i64 d11) := fun W hW => by obtain ⟨j, rfl⟩ := hW; exact x1
        have g2 : ∀ W, (∃ j, W = w.drewN j) → W.cell? ⟨b1, o1 + k * 7 + 2, none⟩ = some (.int .i64 k21) := fun W hW => by obtain ⟨j, rfl⟩ := hW; exact x2
        have g3 : ∀ W, (∃ j, W = w.drewN j) → W.cell? ⟨b1, o1 + k * 7 + 3, none⟩ = some (.int .i64 x31) := fun W hW => by obtain ⟨j, rfl⟩ := hW; exact x3
        have g4 : ∀ W, (∃ j, W = w.drewN j) → W.cell? ⟨b1, o1 + k * 7 + 4, none⟩ = some (.int .i64 y41) := fun W hW => by obtain ⟨j, rfl⟩ := hW; exact x4
        have g5 : ∀ W, (∃ j, W = w.drewN j) → W.cell? ⟨b1, o1 + k * 7 + 5, none⟩ = some (.int .i64 c51) := fun W hW => by obtain ⟨j, rfl⟩ := hW; exact x5
        have g6 : ∀ W, (∃ j, W = w.drewN j) → W.cell? ⟨b1, o1 + k * 7 + 6, none⟩ = some (.int .i64 d61) := fun W hW => by obtain ⟨j, rfl⟩ := hW; exact x6
        have e0 : ∀ W, (∃ j, W = w.drewN j) → W.cell? ⟨b2, o2 + k * 7, none⟩ = some (.int .i64 f02) := fun W hW => by obtain ⟨j, rfl⟩ := hW; exact y0
        have e1 : ∀ W, (∃ j, W = w.drewN j) → W.cell? ⟨b2, o2 + k * 7 + 1, none⟩ = some (.int .i64 d12) := fun W hW => by obtain ⟨j, rfl⟩ := hW; exact y1
        have e2 : ∀ W, (∃ j, W = w.drewN j) → W.cell? ⟨b2, o2 + k * 7 + 2, none⟩ = some (.int .i64 k22) := fun W hW => by obtain ⟨j, rfl⟩ := hW; exact y2
        have e3 : ∀ W, (∃ j, W = w.drewN j) → W.cell? ⟨b2, o2 + k * 7 + 3, none⟩ = some (.int .i64 x32) := fun W hW => by obtain ⟨j, rfl⟩ := hW; exact y3
        have e4 : ∀ W, (∃ j, W = w.drewN j) → W.cell? ⟨b2, o2 + k * 7 + 4, none⟩ = some (.int .i64 y42) := fun W hW => by obtain ⟨j, rfl⟩ := hW; exact y4
        have e5 : ∀ W, (∃ j, W = w.drewN j) → W.cell? ⟨b2, o2 + k * 7 + 5, none⟩ = some (.int .i64 c52) := fun W hW => by obtain ⟨j, rfl⟩ := hW; exact y5
        have e6 : ∀ W, (∃ j, W = w.drewN j) → W.cell? ⟨b2, o2 + k * 7 + 6, none⟩ = some (.int .i64 d62) := fun W hW => by obtain ⟨j, rfl⟩ := hW; exact y6
        clear x0 x1 x2 x3 x4 x5 x6 y0 y1 y2 y3 y4 y5 y6
        by_cases hq : f01 = f02 ∧ d11 = d12 ∧ k21 = k22 ∧ x31 = x32 ∧ y41 = y42 ∧ c51 = c52 ∧ d61 = d62
        · have hg := Lib.hid (hyes'.out (by simp [hq, edgeEq]))
          obtain ⟨rfl, rfl, rfl, rfl, rfl, rfl, rfl⟩ := hq
          clear hyes' hno'
          go_wp2
          refine wp_drawn_on (fun W => ∃ j, W = w.drewN j) (by kernel_rfl) (⟨m + 1, rfl⟩) (fun hHeld => ?_)
          refine wpAnyH_take (i := 0) (oi := { dst := some 16, op := Go.Op.move (Go.Operand.tmp 0), type := 24, pos := "slices.go:25", after := #[], guard := none }) (v := ?v19) rfl (by kernel_rfl) (by kernel_rfl) (by kernel_rfl) (fun _ _ _ h => h) (Or.inl ⟨by kernel_rfl, ?h19⟩) (by assumption) ?r19
          case h19 => (intro w hSw; (try dsimp only at hSw); go_simp; try with_reducible rfl)
          try simp only [Act.put, List.setIfInBounds_toArray, List.set_cons_zero, List.set_cons_succ]
          refine wpAnyH_take (i := 1) (oi := { dst := some 17, op := Go.Op.move (Go.Operand.tmp 5), type := 3, pos := "slices.go:25", after := #[], guard := none }) (v := ?v20) rfl (by kernel_rfl) (by kernel_rfl) (by kernel_rfl) (fun _ _ _ h => h) (Or.inl ⟨by kernel_rfl, ?h20⟩) (by assumption) ?r20
          case h20 => (intro w hSw; (try dsimp only at hSw); go_simp; try with_reducible rfl)
          try simp only [Act.put, List.setIfInBounds_toArray, List.set_cons_zero, List.set_cons_succ]
          refine wpAnyH_take (i := 2) (oi := { dst := some 18, op := Go.Op.indexAddr 24 (Go.Operand.tmp 16) (Go.Operand.tmp 17), type := 0, pos := "slices.go:25", after := #[{ on := 0, ground := Go.Ground.data }, { on := 1, ground := Go.Ground.data }], guard := none }) (v := ?v21) rfl (by kernel_rfl) (by kernel_rfl) (by kernel_rfl) (fun _ _ _ h => h) (Or.inl ⟨by kernel_rfl, ?h21⟩) (by assumption) ?r21
          case h21 => (intro w hSw; (try dsimp only at hSw); go_simp; try with_reducible rfl)
          try simp only [Act.put, List.setIfInBounds_toArray, List.set_cons_zero, List.set_cons_succ]
          refine wpAnyH_take (i := 3) (oi := { dst := some 19, op := Go.Op.load 52 (Go.Operand.tmp 18), type := 52, pos := "slices.go:25", after := #[{ on := 2, ground := Go.Ground.data }], guard := none }) (v := ?v22) rfl (by kernel_rfl) (by kernel_rfl) (by kernel_rfl) (fun _ _ _ h => h) (Or.inl ⟨by kernel_rfl, ?h22⟩) (by assumption) ?r22
          case h22 => (intro w hSw; (try dsimp only at hSw); go_simp; try with_reducible rfl)
          try simp only [Act.put, List.setIfInBounds_toArray, List.set_cons_zero, List.set_cons_succ]
          refine wpAnyH_take (i := 4) (oi := { dst := some 20, op := Go.Op.move (Go.Operand.tmp 1), type := 24, pos := "slices.go:25", after := #[], guard := none }) (v := ?v23) rfl (by kernel_rfl) (by kernel_rfl) (by kernel_rfl) (fun _ _ _ h => h) (Or.inl ⟨by kernel_rfl, ?h23⟩) (by assumption) ?r23
          case h23 => (intro w hSw; (try dsimp only at hSw); go_simp; try with_reducible rfl)
          try simp only [Act.put, List.setIfInBounds_toArray, List.set_cons_zero, List.set_cons_succ]
          refine wpAnyH_take (i := 5) (oi := { dst := some 21, op := Go.Op.move (Go.Operand.tmp 5), type := 3, pos := "slices.go:25", after := #[], guard := none }) (v := ?v24) rfl (by kernel_rfl) (by kernel_rfl) (by kernel_rfl) (fun _ _ _ h => h) (Or.inl ⟨by kernel_rfl, ?h24⟩) (by assumption) ?r24
          case h24 => (intro w hSw; (try dsimp only at hSw); go_simp; try with_reducible rfl)
          try simp only [Act.put, List.setIfInBounds_toArray, List.set_cons_zero, List.set_cons_succ]
          refine wpAnyH_take (i := 6) (oi := { dst := some 22, op := Go.Op.indexAddr 24 (Go.Operand.tmp 20) (Go.Operand.tmp 21), type := 0, pos := "slices.go:25", after := #[{ on := 4, ground := Go.Ground.data }, { on := 5, ground := Go.Ground.data }], guard := none }) (v := ?v25) rfl (by kernel_rfl) (by kernel_rfl) (by kernel_rfl) (fun _ _ _ h => h) (Or.inl ⟨by kernel_rfl, ?h25⟩) (by assumption) ?r25
          case h25 => (intro w hSw; (try dsimp only at hSw); go_simp; try with_reducible rfl)
          try simp only [Act.put, List.setIfInBounds_toArray, List.set_cons_zero, List.set_cons_succ]
          refine wpAnyH_take (i := 7) (oi := { dst := some 23, op := Go.Op.load 52 (Go.Operand.tmp 22), type := 52, pos := "slices.go:25", after := #[{ on := 6, ground := Go.Ground.data }], guard := none }) (v := ?v26) rfl (by kernel_rfl) (by kernel_rfl) (by kernel_rfl) (fun _ _ _ h => h) (Or.inl ⟨by kernel_rfl, ?h26⟩) (by assumption) ?r26
          case h26 => (intro w hSw; (try dsimp only at hSw); go_simp; try with_reducible rfl)
          try simp only [Act.put, List.setIfInBounds_toArray, List.set_cons_zero, List.set_cons_succ]
          refine wpAnyH_take (i := 8) (oi := { dst := some 24, op := Go.Op.binOp Go.BinOp.neq 52 (Go.Operand.tmp 19) (Go.Operand.tmp 23) 52, type := 4, pos := "slices.go:25", after := #[{ on := 3, ground := Go.Ground.data }, { on := 7, ground := Go.Ground.data }], guard := none }) (v := ?v27) rfl (by kernel_rfl) (by kernel_rfl) (by kernel_rfl) (fun _ _ _ h => h) (Or.inl ⟨by kernel_rfl, ?h27⟩) (by assumption) ?r27
          case h27 => (intro w hSw; (try dsimp only at hSw); refine Eq.trans (b := Result.ok (Next.value (.bool false)) w) (by go_simp; try simp [ptxt_eq]) ?_; with_reducible rfl)
          try simp only [Act.put, List.setIfInBounds_toArray, List.set_cons_zero, List.set_cons_succ]
          refine wpAnyH_done (by kernel_rfl) ?_ _
          clear g0 e0 g1 e1 g2 e2 g3 e3 g4 e4 g5 e5 g6 e6
          go_wp2
          go_roundw
          case rel => exact ⟨k + 1, m + 1, by omega, by go_num, hg, rfl⟩
          case measure => simp [intOf]; omega
        · have hf := Lib.hid (hno'.out (by cases hx : edgeEq (⟨f01, d11, k21, x31, y41, c51, d61⟩ : EdgeD) ⟨f02, d12, k22, x32, y42, c52, d62⟩ with | false => rfl | true => exact absurd (by simpa [edgeEq] using hx) hq))
          clear hyes' hno'
          go_wp2
          refine wp_drawn_on (fun W => ∃ j, W = w.drewN j) (by kernel_rfl) (⟨m + 1, rfl⟩) (fun hHeld => ?_)
          refine wpAnyH_take (i := 0) (oi := { dst := some 16, op := Go.Op.move (Go.Operand.tmp 0), type := 24, pos := "slices.go:25", after := #[], guard := none }) (v := ?v28) rfl (by kernel_rfl) (by kernel_rfl) (by kernel_rfl) (fun _ _ _ h => h) (Or.inl ⟨by kernel_rfl, ?h28⟩) (by assumption) ?r28
          case h28 => (intro w hSw; (try dsimp only at hSw); go_simp; try with_reducible rfl)
          try simp only [Act.put, List.setIfInBounds_toArray, List.set_cons_zero, List.set_cons_succ]
          refine wpAnyH_take (i := 1) (oi := { dst := some 17, op := Go.Op.move (Go.Operand.tmp 5), type := 3, pos := "slices.go:25", after := #[], guard := none }) (v := ?v29) rfl (by kernel_rfl) (by kernel_rfl) (by kernel_rfl) (fun _ _ _ h => h) (Or.inl ⟨by kernel_rfl, ?h29⟩) (by assumption) ?r29
          case h29 => (intro w hSw; (try dsimp only at hSw); go_simp; try with_reducible rfl)
          try simp only [Act.put, List.setIfInBounds_toArray, List.set_cons_zero, List.set_cons_succ]
          refine wpAnyH_take (i := 2) (oi := { dst := some 18, op := Go.Op.indexAddr 24 (Go.Operand.tmp 16) (Go.Operand.tmp 17), type := 0, pos := "slices.go:25", after := #[{ on := 0, ground := Go.Ground.data }, { on := 1, ground := Go.Ground.data }], guard := none }) (v := ?v30) rfl (by kernel_rfl) (by kernel_rfl) (by kernel_rfl) (fun _ _ _ h => h) (Or.inl ⟨by kernel_rfl, ?h30⟩) (by assumption) ?r30
          case h30 => (intro w hSw; (try dsimp only at hSw); go_simp; try with_reducible rfl)
          try simp only [Act.put, List.setIfInBounds_toArray, List.set_cons_zero, List.set_cons_succ]
          refine wpAnyH_take (i := 3) (oi := { dst := some 19, op := Go.Op.load 52 (Go.Operand.tmp 18), type := 52, pos := "slices.go:25", after := #[{ on := 2, ground := Go.Ground.data }], guard := none }) (v := ?v31) rfl (by kernel_rfl) (by kernel_rfl) (by kernel_rfl) (fun _ _ _ h => h) (Or.inl ⟨by kernel_rfl, ?h31⟩) (by assumption) ?r31
          case h31 => (intro w hSw; (try dsimp only at hSw); go_simp; try with_reducible rfl)
          try simp only [Act.put, List.setIfInBounds_toArray, List.set_cons_zero, List.set_cons_succ]
          refine wpAnyH_take (i := 4) (oi := { dst := some 20, op := Go.Op.move (Go.Operand.tmp 1), type := 24, pos := "slices.go:25", after := #[], guard := none }) (v := ?v32) rfl (by kernel_rfl) (by kernel_rfl) (by kernel_rfl) (fun _ _ _ h => h) (Or.inl ⟨by kernel_rfl, ?h32⟩) (by assumption) ?r32
          case h32 => (intro w hSw; (try dsimp only at hSw); go_simp; try with_reducible rfl)
          try simp only [Act.put, List.setIfInBounds_toArray, List.set_cons_zero, List.set_cons_succ]
          refine wpAnyH_take (i := 5) (oi := { dst := some 21, op := Go.Op.move (Go.Operand.tmp 5), type := 3, pos := "slices.go:25", after := #[], guard := none }) (v := ?v33) rfl (by kernel_rfl) (by kernel_rfl) (by kernel_rfl) (fun _ _ _ h => h) (Or.inl ⟨by kernel_rfl, ?h33⟩) (by assumption) ?r33
          case h33 => (intro w hSw; (try dsimp only at hSw); go_simp; try with_reducible rfl)
          try simp only [Act.put, List.setIfInBounds_toArray, List.set_cons_zero, List.set_cons_succ]
          refine wpAnyH_take (i := 6) (oi := { dst := some 22, op := Go.Op.indexAddr 24 (Go.Operand.tmp 20) (Go.Operand.tmp 21), type := 0, pos := "slices.go:25", after := #[{ on := 4, ground := Go.Ground.data }, { on := 5, ground := Go.Ground.data }], guard := none }) (v := ?v34) rfl (by kernel_rfl) (by kernel_rfl) (by kernel_rfl) (fun _ _ _ h => h) (Or.inl ⟨by kernel_rfl, ?h34⟩) (by assumption) ?r34
          case h34 => (intro w hSw; (try dsimp only at hSw); go_simp; try with_reducible rfl)
          try simp only [Act.put, List.setIfInBounds_toArray, List.set_cons_zero, List.set_cons_succ]
          refine wpAnyH_take (i := 7) (oi := { dst := some 23, op := Go.Op.load 52 (Go.Operand.tmp 22), type := 52, pos := "slices.go:25", after := #[{ on := 6, ground := Go.Ground.data }], guard := none }) (v := ?v35) rfl (by kernel_rfl) (by kernel_rfl) (by kernel_rfl) (fun _ _ _ h => h) (Or.inl ⟨by kernel_rfl, ?h35⟩) (by assumption) ?r35
          case h35 => (intro w hSw; (try dsimp only at hSw); go_simp; try with_reducible rfl)
          try simp only [Act.put, List.setIfInBounds_toArray, List.set_cons_zero, List.set_cons_succ]
          refine wpAnyH_take (i := 8) (oi := { dst := some 24, op := Go.Op.binOp Go.BinOp.neq 52 (Go.Operand.tmp 19) (Go.Operand.tmp 23) 52, type := 4, pos := "slices.go:25", after := #[{ on := 3, ground := Go.Ground.data }, { on := 7, ground := Go.Ground.data }], guard := none }) (v := ?v36) rfl (by kernel_rfl) (by kernel_rfl) (by kernel_rfl) (fun _ _ _ h => h) (Or.inl ⟨by kernel_rfl, ?h36⟩) (by assumption) ?r36
          case h36 => (intro w hSw; (try dsimp only at hSw); refine Eq.trans (b := Result.ok (Next.value (.bool true)) w) (by go_simp; by_cases h0 : f01 = f02 <;> by_cases h1 : d11 = d12 <;> by_cases h2 : k21 = k22 <;> by_cases h3 : x31 = x32 <;> by_cases h4 : y41 = y42 <;> by_cases h5 : c51 = c52 <;> by_cases h6 : d61 = d62 <;> simp_all [ptxt_eq, ptl_iff]) ?_; with_reducible rfl)
          try simp only [Act.put, List.setIfInBounds_toArray, List.set_cons_zero, List.set_cons_succ]
          refine wpAnyH_done (by kernel_rfl) ?_ _
          clear g0 e0 g1 e1 g2 e2 g3 e3 g4 e4 g5 e5 g6 e6
          go_wp2
          go_ret
          exact ⟨ret_bool hf.out.symm, m + 1, rfl⟩
      · have hki : ¬ (k : Int) < (n1 : Int) := by omega
        have hf := Lib.hid (hyes.out (fun t ht => hal.out t (by rw [← hl1.out] at ht; omega)))
        clear hyes hno hal
        go_wp2
        go_ret
        exact ⟨ret_bool hf.out.symm, m, rfl⟩
  · have e0' : ((n1 : Int) != (n2 : Int)) = true := by simp; omega
    have e0n : (n1 != n2) = true := by simpa using hne
    have hR : Hid (listEq edgeEq edge0 l1 l2 = false) := Lib.hid (listEq_len (by rw [← hl1.out, ← hl2.out]; exact hne))
    clear hne
    generalize listEq edgeEq edge0 l1 l2 = R at *
    go_enter Tryz.func38, Tryz.ntmps38
    go_wp2
    go_ret
    exact ⟨ret_bool hR.out.symm, 0, rfl⟩
theorem drawnB_below {v : Value} {w : World} {e : Ending} {w' : World} (h : DrawnB v w e w') : e = .returned v ∧ Below w.heap.size w w' := by
  obtain ⟨h1, m, rfl⟩ := h
  exact ⟨h1, drewN_below w m⟩
set_option maxRecDepth 100000 in
set_option maxHeartbeats 4000000 in
theorem psame'_any (p q : PV) (A B : PD) (w : World) (h1 : PrA w p A) (h2 : PrA w q B) : Calls Tryz.prog 10 #[.agg #[.string p.nm, .slice p.a1 p.n1 p.c1, .slice p.a2 p.n2 p.c2, .slice p.a3 p.n3 p.c3], .agg #[.string q.nm, .slice q.a1 q.n1 q.c1, .slice q.a2 q.n2 q.c2, .slice q.a3 q.n3 q.c3]] w (Gives (.bool (sameP A B)) w) := by
  have hR : Hid (sameP A B = (decide (p.nm = q.nm) && (decide (A.vars = B.vars) && (listEq spotEq spot0 A.spots B.spots && listEq edgeEq edge0 A.edges B.edges)))) := Lib.hid (by unfold sameP; rw [h1.nm, h2.nm])
  obtain ⟨W1, hW1⟩ : ∃ W1, W1 = (w.alloc (.cells #[.string p.nm, .slice p.a1 p.n1 p.c1, .slice p.a2 p.n2 p.c2, .slice p.a3 p.n3 p.c3] 26)).alloc (.cells #[.string q.nm, .slice q.a1 q.n1 q.c1, .slice q.a2 q.n2 q.c2, .slice q.a3 q.n3 q.c3] 26) := ⟨_, rfl⟩
  have Z : Hid (Holds W1 w.heap.size 26 #[.string p.nm, .slice p.a1 p.n1 p.c1, .slice p.a2 p.n2 p.c2, .slice p.a3 p.n3 p.c3]) := Lib.hid (by rw [hW1]; exact (Holds.new w _ _).alloc _)
  have V : Hid (Holds W1 (w.heap.size + 1) 26 #[.string q.nm, .slice q.a1 q.n1 q.c1, .slice q.a2 q.n2 q.c2, .slice q.a3 q.n3 q.c3]) := Lib.hid (by
    rw [hW1]
    have := Holds.new (w.alloc (.cells #[.string p.nm, .slice p.a1 p.n1 p.c1, .slice p.a2 p.n2 p.c2, .slice p.a3 p.n3 p.c3] 26)) 26 #[.string q.nm, .slice q.a1 q.n1 q.c1, .slice q.a2 q.n2 q.c2, .slice q.a3 q.n3 q.c3]
    simpa using this)
  have BL := Lib.hid (show Below w.heap.size w W1 by rw [hW1]; exact box2_below _ _ _ _ _)
  have XA := Lib.hid (h1.below BL.out)
  have XB := Lib.hid (h2.below BL.out)
  have hW1' := Lib.hid hW1
  have qv := Lib.hid (fun W (a : PrA W p A) (b : PrA W q B) => (equal_any p.a1 q.a1 p.n1 q.n1 p.c1 q.c1 A.vars B.vars (by have := a.vars.cap; have := a.vars.max; unfold maxLen at this; omega) (by have := b.vars.cap; have := b.vars.max; unfold maxLen at this; omega) W a.vars b.vars).mono (fun e w' h => drawnB_below h))
  have qs := Lib.hid (fun W (a : PrA W p A) (b : PrA W q B) => (spotsEq_any p.a2 q.a2 p.n2 q.n2 p.c2 q.c2 A.spots B.spots W a.spots b.spots).mono (fun e w' h => drawnB_below h))
  have qe := Lib.hid (fun W (a : PrA W p A) (b : PrA W q B) => (edgesEq_any p.a3 q.a3 p.n3 q.n3 p.c3 q.c3 A.edges B.edges W a.edges b.edges).mono (fun e w' h => drawnB_below h))
  have k0 := Z.out.cell 0
  have k1 := Z.out.cell 1
  have j0 := V.out.cell 0
  have j1 := V.out.cell 1
  clear h1 h2 hW1
  generalize sameP A B = R at *
  generalize decide (A.vars = B.vars) = bv at *
  generalize listEq spotEq spot0 A.spots B.spots = bs at *
  generalize listEq edgeEq edge0 A.edges B.edges = be at *
  by_cases hn : p.nm = q.nm
  · have hR2 : Hid (R = (bv && (bs && be))) := Lib.hid (by rw [hR.out, decide_eq_true hn]; rfl)
    have e1 : (p.nm.toList == q.nm.toList) = true := by rw [ptxt_eq]; exact decide_eq_true hn
    clear hR hn
    go_enter Tryz.func10, Tryz.ntmps10
    go_wp2_with fail
    rw [← hW1'.out]
    with_reducible refine (qv.out W1 XA.out XB.out).mono ?_
    rintro e u1 ⟨rfl, b1⟩
    clear k0 k1 j0 j1
    cases bv
    · have hf : Hid (R = false) := Lib.hid (by rw [hR2.out]; rfl)
      go_wp2
      go_ret
      exact ⟨ret_bool hf.out.symm, BL.out.trans (b1.mono BL.out.size)⟩
    · replace Z := Lib.hid (Z.out.below b1 Z.out.lt)
      replace V := Lib.hid (V.out.below b1 V.out.lt)
      replace XA := Lib.hid (XA.out.below b1)
      replace XB := Lib.hid (XB.out.below b1)
      replace BL := Lib.hid (BL.out.trans (b1.mono BL.out.size))
      clear b1
      have k2 := Z.out.cell 2
      have j2 := V.out.cell 2
      go_wp2_with fail
      with_reducible refine (qs.out u1 XA.out XB.out).mono ?_
      rintro e u2 ⟨rfl, b1⟩
      clear k2 j2
      cases bs
      · have hf : Hid (R = false) := Lib.hid (by rw [hR2.out]; rfl)
        go_wp2
        go_ret
        exact ⟨ret_bool hf.out.symm, BL.out.trans (b1.mono BL.out.size)⟩
      · replace Z := Lib.hid (Z.out.below b1 Z.out.lt)
        replace V := Lib.hid (V.out.below b1 V.out.lt)
        replace XA := Lib.hid (XA.out.below b1)
        replace XB := Lib.hid (XB.out.below b1)
        replace BL := Lib.hid (BL.out.trans (b1.mono BL.out.size))
        clear b1
        have hf : Hid (R = be) := Lib.hid (by rw [hR2.out]; rfl)
        have k3 := Z.out.cell 3
        have j3 := V.out.cell 3
        go_wp2_with fail
        with_reducible refine (qe.out u2 XA.out XB.out).mono ?_
        rintro e u3 ⟨rfl, b1⟩
        clear k3 j3
        go_wp2
        go_ret
        exact ⟨ret_bool hf.out.symm, BL.out.trans (b1.mono BL.out.size)⟩
  · have hf : Hid (R = false) := Lib.hid (by rw [hR.out, decide_eq_false hn]; rfl)
    have e1 : (p.nm.toList == q.nm.toList) = false := by rw [ptxt_eq]; exact decide_eq_false hn
    clear hR hn
    go_enter Tryz.func10, Tryz.ntmps10
    go_wp2
    go_ret
    rw [← hW1'.out]
    exact ⟨ret_bool hf.out.symm, BL.out⟩
end Go.Proofs.YtgeliikfgnkppaaGreatDoor
