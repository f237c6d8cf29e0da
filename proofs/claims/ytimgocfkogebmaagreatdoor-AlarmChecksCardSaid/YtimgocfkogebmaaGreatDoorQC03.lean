/-
  Words and walks under the law's proof.
-/
import Derived.Test.YtimgocfkogebmaaGreatDoorRows
import Derived.IntWalk
import Derived.Deep.QuietTactic
import Derived.BigQuiet
import Derived.Test.YtimgocfkogebmaaGreatDoorQC01
import Derived.Test.YtimgocfkogebmaaGreatDoorQC02
namespace Go.Proofs.YtimgocfkogebmaaGreatDoor
open Go.RowKit
set_option linter.unusedVariables false
set_option linter.unusedSimpArgs false
def progB (D : PD) : Bool := (decide (1 ≤ D.spots.length) && (decide (D.spots.length ≤ 128) && decide (D.edges.length ≤ 256))) && (nameB D.nm && (varsB D.vars && (D.spots.all spotB && D.edges.all (edgeB D.spots.length D.vars.length))))
def chkP (D : PD) : Int := if progB D = true then 0 else 110
theorem spots_at {w : World} {a : Option Addr} {n c : Nat} {l : List SpotD} (h : RO spotC w a n c l) {i : Nat} (hi : i < n) : ∃ b off, a = some ⟨b, off, none⟩ ∧ b < w.heap.size ∧ w.cell? ⟨b, off + i * 3, none⟩ = some (.string (l.getD i spot0).fn) ∧ w.cell? ⟨b, off + i * 3 + 1, none⟩ = some (.string (l.getD i spot0).file) ∧ w.cell? ⟨b, off + i * 3 + 2, none⟩ = some (.int .i64 (l.getD i spot0).line) := by
  obtain ⟨b, off, h1, h2, hc⟩ := h.at_ spotC_len (by decide) spot0 hi
  exact ⟨b, off, h1, h2, hc 0 (by decide), hc 1 (by decide), hc 2 (by decide)⟩
theorem edges_at {w : World} {a : Option Addr} {n c : Nat} {l : List EdgeD} (h : RO edgeC w a n c l) {i : Nat} (hi : i < n) : ∃ b off, a = some ⟨b, off, none⟩ ∧ b < w.heap.size ∧ w.cell? ⟨b, off + i * 7, none⟩ = some (.int .i64 (l.getD i edge0).frm) ∧ w.cell? ⟨b, off + i * 7 + 1, none⟩ = some (.int .i64 (l.getD i edge0).dst) ∧ w.cell? ⟨b, off + i * 7 + 2, none⟩ = some (.int .i64 (l.getD i edge0).k) ∧ w.cell? ⟨b, off + i * 7 + 3, none⟩ = some (.int .i64 (l.getD i edge0).x) ∧ w.cell? ⟨b, off + i * 7 + 4, none⟩ = some (.int .i64 (l.getD i edge0).y) ∧ w.cell? ⟨b, off + i * 7 + 5, none⟩ = some (.int .i64 (l.getD i edge0).c) ∧ w.cell? ⟨b, off + i * 7 + 6, none⟩ = some (.int .i64 (l.getD i edge0).d) := by
  obtain ⟨b, off, h1, h2, hc⟩ := h.at_ edgeC_len (by decide) edge0 hi
  exact ⟨b, off, h1, h2, hc 0 (by decide), hc 1 (by decide), hc 2 (by decide), hc 3 (by decide), hc 4 (by decide), hc 5 (by decide), hc 6 (by decide)⟩
theorem all_no {α : Type} {q : α → Bool} {l : List α} {d : α} {k : Nat} (hk : k < l.length) (h : q (l.getD k d) = false) : l.all q = false := by
  rw [List.all_eq_false]
  exact ⟨l.getD k d, by simp [List.getD, hk], by rw [h]; simp⟩
theorem all_yes {α : Type} {q : α → Bool} {l : List α} (d : α) (h : ∀ t, t < l.length → q (l.getD t d) = true) : l.all q = true := by
  rw [List.all_eq_true]
  intro x hx
  obtain ⟨t, ht, rfl⟩ := List.getElem_of_mem hx
  have := h t ht
  simpa [List.getD, ht] using this
def IdxE (b : Bool) (w : World) (e : Ending) (w' : World) : Prop := ∃ i : Int, decide (0 ≤ i) = b ∧ e = .returned (.int .i64 i) ∧ Below w.heap.size w w'
set_option maxRecDepth 100000 in
set_option maxHeartbeats 2000000 in
theorem spotsIdx_any (a : Option Addr) (n c : Nat) (l : List SpotD) (w : World) (h : RO spotC w a n c l) : Calls Tryz.prog 152 #[.slice a n c, .func (.func 103) #[] #[]] w (IdxE (!l.all spotB) w) := by
  have hn : n = l.length := h.len
  have hmax := h.max'
  have hmi : (n : Int) ≤ 9223372036854775807 := by omega
  have hlen := Lib.hid hn
  have T := Lib.hid h
  have hno := Lib.hid (fun k hk h => all_no (q := spotB) (l := l) (d := spot0) (k := k) hk h)
  have hyes := Lib.hid (fun h => all_yes (q := spotB) (l := l) spot0 h)
  clear h hn hmax
  generalize l.all spotB = R at *
  go_enter Tryz.func152, Tryz.ntmps152
  go_wp2
  go_loopw [8] (fun y wr => ∃ k : Nat, k ≤ n ∧ y = .int .i64 k ∧ Hid (∀ t, t < k → spotB (l.getD t spot0) = true) ∧ Hid (Below w.heap.size w wr)) (fun y _ => n - (intOf y).toNat)
  case atStart => exact ⟨0, Nat.zero_le _, rfl, Lib.hid (fun t ht => by omega), Lib.hid (Below.refl _ _)⟩
  case round =>
    obtain ⟨k, hk, rfl, hal, hB⟩ := hrel
    by_cases hlt : k < n
    · have hki : (k : Int) < (n : Int) := by omega
      obtain ⟨b, off, rfl, hbl, x0, x1, x2⟩ := spots_at (T.out.below hB.out) hlt
      have hno' := Lib.hid (hno.out k (by rw [← hlen.out]; exact hlt))
      have hyes' : Hid (spotB (l.getD k spot0) = true → ∀ t, t < k + 1 → spotB (l.getD t spot0) = true) := Lib.hid (fun h t ht => by
        by_cases e : t = k
        · rw [e]; exact h
        · exact hal.out t (by omega))
      obtain ⟨s, f, x, hs⟩ : ∃ s f x, l.getD k spot0 = (⟨s, f, x⟩ : SpotD) := ⟨_, _, _, rfl⟩
      rw [hs] at x0 x1 x2
      dsimp only at x0 x1 x2
      rw [hs] at hno' hyes'
      have q1 := Lib.hid (badSpot_any s f x wr)
      clear hal hno hs
      cases e1 : spotB (⟨s, f, x⟩ : SpotD)
      · have hf := Lib.hid (hno'.out e1)
        rw [e1] at q1
        clear hno' hyes' hyes e1
        go_wp2_with fail
        refine q1.out.mono ?_
        rintro e w1 ⟨rfl, b1⟩
        have hB2 := Lib.hid (hB.out.trans (b1.mono hB.out.size))
        go_wp2
        go_ret
        exact ⟨k, by rw [hf.out]; simp, rfl, hB2.out⟩
      · have hg := Lib.hid (hyes'.out e1)
        rw [e1] at q1
        clear hno' hyes' e1
        go_wp2_with fail
        refine q1.out.mono ?_
        rintro e w1 ⟨rfl, b1⟩
        have hB2 := Lib.hid (hB.out.trans (b1.mono hB.out.size))
        go_wp2
        go_roundw
        case rel => exact ⟨k + 1, by omega, by go_num, hg, hB2⟩
        case measure => simp [intOf]; omega
    · have hki : ¬ (k : Int) < (n : Int) := by omega
      have hf := Lib.hid (hyes.out (fun t ht => hal.out t (by rw [← hlen.out] at ht; omega)))
      clear hyes hno hal
      go_wp2
      go_ret
      exact ⟨-1, by rw [hf.out]; rfl, rfl, hB.out⟩
set_option maxRecDepth 100000 in
theorem spotsHas_any (a : Option Addr) (n c : Nat) (l : List SpotD) (w : World) (h : RO spotC w a n c l) : Calls Tryz.prog 109 #[.slice a n c, .func (.func 103) #[] #[]] w (Gives (.bool (!l.all spotB)) w) := by
  have q := Lib.hid (spotsIdx_any a n c l w h)
  generalize (!l.all spotB) = R at *
  clear h
  go_enter Tryz.func109, Tryz.ntmps109
  go_wp2_with fail
  refine q.out.mono ?_
  rintro e w1 ⟨i, hi, rfl, hb⟩
  have hi' := Lib.hid hi
  clear hi q
  go_wp2
  go_ret
  exact ⟨ret_bool hi'.out, hb⟩
set_option maxRecDepth 100000 in
set_option maxHeartbeats 2000000 in
theorem edgesIdx_any (p : PV) (g : Nat) (a : Option Addr) (n c : Nat) (l : List EdgeD) (w : World) (h : RO edgeC w a n c l) (hz : Holds w g 38 p.cells) : Calls Tryz.prog 153 #[.slice a n c, .func (.func 105) #[] #[.pointer (some ⟨g, 0, none⟩)]] w (IdxE (!l.all (edgeB p.n2 p.n1)) w) := by
  have hn : n = l.length := h.len
  have hmax := h.max'
  have hmi : (n : Int) ≤ 9223372036854775807 := by omega
  have hlen := Lib.hid hn
  have T := Lib.hid h
  have HZ := Lib.hid hz
  have hno := Lib.hid (fun k hk h => all_no (q := (edgeB p.n2 p.n1)) (l := l) (d := edge0) (k := k) hk h)
  have hyes := Lib.hid (fun h => all_yes (q := (edgeB p.n2 p.n1)) (l := l) edge0 h)
  clear h hn hmax hz
  generalize l.all (edgeB p.n2 p.n1) = R at *
  go_enter Tryz.func153, Tryz.ntmps153
  go_wp2
  go_loopw [8] (fun y wr => ∃ k : Nat, k ≤ n ∧ y = .int .i64 k ∧ Hid (∀ t, t < k → (edgeB p.n2 p.n1) (l.getD t edge0) = true) ∧ Hid (Below w.heap.size w wr)) (fun y _ => n - (intOf y).toNat)
  case atStart => exact ⟨0, Nat.zero_le _, rfl, Lib.hid (fun t ht => by omega), Lib.hid (Below.refl _ _)⟩
  case round =>
    obtain ⟨k, hk, rfl, hal, hB⟩ := hrel
    by_cases hlt : k < n
    · have hki : (k : Int) < (n : Int) := by omega
      obtain ⟨b, off, rfl, hbl, x0, x1, x2, x3, x4, x5, x6⟩ := edges_at (T.out.below hB.out) hlt
      have hno' := Lib.hid (hno.out k (by rw [← hlen.out]; exact hlt))
      have hyes' : Hid ((edgeB p.n2 p.n1) (l.getD k edge0) = true → ∀ t, t < k + 1 → (edgeB p.n2 p.n1) (l.getD t edge0) = true) := Lib.hid (fun h t ht => by
        by_cases e : t = k
        · rw [e]; exact h
        · exact hal.out t (by omega))
      obtain ⟨fr, ds, ek, ex, ey, ec, ed, hs⟩ : ∃ fr ds ek ex ey ec ed, l.getD k edge0 = (⟨fr, ds, ek, ex, ey, ec, ed⟩ : EdgeD) := ⟨_, _, _, _, _, _, _, rfl⟩
      rw [hs] at x0 x1 x2 x3 x4 x5 x6
      dsimp only at x0 x1 x2 x3 x4 x5 x6
      rw [hs] at hno' hyes'
      have q1 := Lib.hid (badEdge_any p g fr ds ek ex ey ec ed wr (HZ.out.below hB.out HZ.out.lt))
      clear hal hno hs
      cases e1 : (edgeB p.n2 p.n1) (⟨fr, ds, ek, ex, ey, ec, ed⟩ : EdgeD)
      · have hf := Lib.hid (hno'.out e1)
        rw [e1] at q1
        clear hno' hyes' hyes e1
        go_wp2_with fail
        refine q1.out.mono ?_
        rintro e w1 ⟨rfl, b1⟩
        have hB2 := Lib.hid (hB.out.trans (b1.mono hB.out.size))
        go_wp2
        go_ret
        exact ⟨k, by rw [hf.out]; simp, rfl, hB2.out⟩
      · have hg := Lib.hid (hyes'.out e1)
        rw [e1] at q1
        clear hno' hyes' e1
        go_wp2_with fail
        refine q1.out.mono ?_
        rintro e w1 ⟨rfl, b1⟩
        have hB2 := Lib.hid (hB.out.trans (b1.mono hB.out.size))
        go_wp2
        go_roundw
        case rel => exact ⟨k + 1, by omega, by go_num, hg, hB2⟩
        case measure => simp [intOf]; omega
    · have hki : ¬ (k : Int) < (n : Int) := by omega
      have hf := Lib.hid (hyes.out (fun t ht => hal.out t (by rw [← hlen.out] at ht; omega)))
      clear hyes hno hal
      go_wp2
      go_ret
      exact ⟨-1, by rw [hf.out]; rfl, rfl, hB.out⟩
set_option maxRecDepth 100000 in
theorem edgesHas_any (p : PV) (g : Nat) (a : Option Addr) (n c : Nat) (l : List EdgeD) (w : World) (h : RO edgeC w a n c l) (hz : Holds w g 38 p.cells) : Calls Tryz.prog 110 #[.slice a n c, .func (.func 105) #[] #[.pointer (some ⟨g, 0, none⟩)]] w (Gives (.bool (!l.all (edgeB p.n2 p.n1))) w) := by
  have q := Lib.hid (edgesIdx_any p g a n c l w h hz)
  generalize (!l.all (edgeB p.n2 p.n1)) = R at *
  clear h hz
  go_enter Tryz.func110, Tryz.ntmps110
  go_wp2_with fail
  refine q.out.mono ?_
  rintro e w1 ⟨i, hi, rfl, hb⟩
  have hi' := Lib.hid hi
  clear hi q
  go_wp2
  go_ret
  exact ⟨ret_bool hi'.out, hb⟩
set_option maxRecDepth 100000 in
set_option maxHeartbeats 4000000 in
theorem pcheck_any (p : PV) (D : PD) (w : World) (h : PrA w p D) : Calls Tryz.prog 61 #[.agg #[.string p.nm, .slice p.a1 p.n1 p.c1, .slice p.a2 p.n2 p.c2, .slice p.a3 p.n3 p.c3]] w (Gives (.int .i64 (chkP D)) w) := by
  have hmf : ∀ (fn : Fn) (first cap : Array Value) (w : World), (Instr.makeFunc fn first cap).run Tryz.prog w = .ok (.func fn first cap) w := fun _ _ _ _ => rfl
  have hR : Hid (progB D = ((decide (1 ≤ p.n2) && (decide (p.n2 ≤ 128) && decide (p.n3 ≤ 256))) && (nameB p.nm && (varsB D.vars && (D.spots.all spotB && D.edges.all (edgeB p.n2 p.n1)))))) := Lib.hid (by unfold progB; rw [h.nm, h.vars.len, h.spots.len, h.edges.len])
  have hC : Hid (chkP D = if progB D = true then 0 else 110) := Lib.hid rfl
  have q1 := Lib.hid (fun W => name_any p.nm W)
  have q2 := Lib.hid (fun W (hW : TT W p.a1 p.n1 p.c1 D.vars) => rightVars_any p.a1 p.n1 p.c1 D.vars W hW)
  have q3 := Lib.hid (fun W (hW : RO spotC W p.a2 p.n2 p.c2 D.spots) => spotsHas_any p.a2 p.n2 p.c2 D.spots W hW)
  have q4 := Lib.hid (fun W (hW : RO edgeC W p.a3 p.n3 p.c3 D.edges) (hz : Holds W w.heap.size 38 p.cells) => edgesHas_any p w.heap.size p.a3 p.n3 p.c3 D.edges W hW hz)
  generalize chkP D = R at *
  generalize progB D = Q at *
  generalize nameB p.nm = bn at *
  generalize varsB D.vars = bv at *
  generalize D.spots.all spotB = bs at *
  generalize D.edges.all (edgeB p.n2 p.n1) = be at *
  by_cases g1 : 1 ≤ p.n2
  rotate_left
  · have i1 : ¬ (1 : Int) ≤ (p.n2 : Int) := by omega
    have hF : Hid (R = 110) := Lib.hid (by rw [hC.out, hR.out, decide_eq_false g1]; rfl)
    clear hR hC
    obtain ⟨W1, hW1⟩ : ∃ W1, W1 = w.alloc (.cells #[.string p.nm, .slice p.a1 p.n1 p.c1, .slice p.a2 p.n2 p.c2, .slice p.a3 p.n3 p.c3] 38) := ⟨_, rfl⟩
    have Z : Hid (Holds W1 (w.heap.size) 38 #[.string p.nm, .slice p.a1 p.n1 p.c1, .slice p.a2 p.n2 p.c2, .slice p.a3 p.n3 p.c3]) := Lib.hid (by rw [hW1]; exact Holds.new w _ _)
    have BL := Lib.hid (show Below w.heap.size w W1 by rw [hW1]; exact box_below _ _ _)
    have V := Lib.hid (h.vars.below BL.out)
    have SP := Lib.hid (h.spots.below BL.out)
    have ED := Lib.hid (h.edges.below BL.out)
    have hW1' := Lib.hid hW1
    clear hW1
    clear h
    go_enter Tryz.func61, Tryz.ntmps61
    have k1 := Z.out.cell 0
    have k2 := Z.out.cell 1
    have k3 := Z.out.cell 2
    have k4 := Z.out.cell 3
    go_wp2
    go_ret
    rw [← hW1'.out]
    exact ⟨ret_int hF.out.symm, BL.out⟩
  have i1 : (1 : Int) ≤ (p.n2 : Int) := by omega
  by_cases g2 : p.n2 ≤ 128
  rotate_left
  · have i2 : ¬ (p.n2 : Int) ≤ 128 := by omega
    have hF : Hid (R = 110) := Lib.hid (by rw [hC.out, hR.out, decide_eq_true g1, decide_eq_false g2]; rfl)
    clear hR hC
    obtain ⟨W1, hW1⟩ : ∃ W1, W1 = w.alloc (.cells #[.string p.nm, .slice p.a1 p.n1 p.c1, .slice p.a2 p.n2 p.c2, .slice p.a3 p.n3 p.c3] 38) := ⟨_, rfl⟩
    have Z : Hid (Holds W1 (w.heap.size) 38 #[.string p.nm, .slice p.a1 p.n1 p.c1, .slice p.a2 p.n2 p.c2, .slice p.a3 p.n3 p.c3]) := Lib.hid (by rw [hW1]; exact Holds.new w _ _)
    have BL := Lib.hid (show Below w.heap.size w W1 by rw [hW1]; exact box_below _ _ _)
    have V := Lib.hid (h.vars.below BL.out)
    have SP := Lib.hid (h.spots.below BL.out)
    have ED := Lib.hid (h.edges.below BL.out)
    have hW1' := Lib.hid hW1
    clear hW1
    clear h
    go_enter Tryz.func61, Tryz.ntmps61
    have k1 := Z.out.cell 0
    have k2 := Z.out.cell 1
    have k3 := Z.out.cell 2
    have k4 := Z.out.cell 3
    go_wp2
    go_ret
    rw [← hW1'.out]
    exact ⟨ret_int hF.out.symm, BL.out⟩
  have i2 : (p.n2 : Int) ≤ 128 := by omega
  by_cases g3 : p.n3 ≤ 256
  rotate_left
  · have i3 : ¬ (p.n3 : Int) ≤ 256 := by omega
    have hF : Hid (R = 110) := Lib.hid (by rw [hC.out, hR.out, decide_eq_true g1, decide_eq_true g2, decide_eq_false g3]; rfl)
    clear hR hC
    obtain ⟨W1, hW1⟩ : ∃ W1, W1 = w.alloc (.cells #[.string p.nm, .slice p.a1 p.n1 p.c1, .slice p.a2 p.n2 p.c2, .slice p.a3 p.n3 p.c3] 38) := ⟨_, rfl⟩
    have Z : Hid (Holds W1 (w.heap.size) 38 #[.string p.nm, .slice p.a1 p.n1 p.c1, .slice p.a2 p.n2 p.c2, .slice p.a3 p.n3 p.c3]) := Lib.hid (by rw [hW1]; exact Holds.new w _ _)
    have BL := Lib.hid (show Below w.heap.size w W1 by rw [hW1]; exact box_below _ _ _)
    have V := Lib.hid (h.vars.below BL.out)
    have SP := Lib.hid (h.spots.below BL.out)
    have ED := Lib.hid (h.edges.below BL.out)
    have hW1' := Lib.hid hW1
    clear hW1
    clear h
    go_enter Tryz.func61, Tryz.ntmps61
    have k1 := Z.out.cell 0
    have k2 := Z.out.cell 1
    have k3 := Z.out.cell 2
    have k4 := Z.out.cell 3
    go_wp2
    go_ret
    rw [← hW1'.out]
    exact ⟨ret_int hF.out.symm, BL.out⟩
  have i3 : (p.n3 : Int) ≤ 256 := by omega
  cases bn
  · have hF : Hid (R = 110) := Lib.hid (by rw [hC.out, hR.out, decide_eq_true g1, decide_eq_true g2, decide_eq_true g3]; rfl)
    clear hR hC
    obtain ⟨W1, hW1⟩ : ∃ W1, W1 = w.alloc (.cells #[.string p.nm, .slice p.a1 p.n1 p.c1, .slice p.a2 p.n2 p.c2, .slice p.a3 p.n3 p.c3] 38) := ⟨_, rfl⟩
    have Z : Hid (Holds W1 (w.heap.size) 38 #[.string p.nm, .slice p.a1 p.n1 p.c1, .slice p.a2 p.n2 p.c2, .slice p.a3 p.n3 p.c3]) := Lib.hid (by rw [hW1]; exact Holds.new w _ _)
    have BL := Lib.hid (show Below w.heap.size w W1 by rw [hW1]; exact box_below _ _ _)
    have V := Lib.hid (h.vars.below BL.out)
    have SP := Lib.hid (h.spots.below BL.out)
    have ED := Lib.hid (h.edges.below BL.out)
    have hW1' := Lib.hid hW1
    clear hW1
    clear h
    go_enter Tryz.func61, Tryz.ntmps61
    have k1 := Z.out.cell 0
    have k2 := Z.out.cell 1
    have k3 := Z.out.cell 2
    have k4 := Z.out.cell 3
    have q := Lib.hid (q1.out W1)
    go_wp2_with fail
    rw [← hW1'.out]
    with_reducible refine q.out.mono ?_
    rintro e u1 ⟨rfl, b1⟩
    clear k1 k2 k3 k4
    clear hW1'
    clear q
    have k5 : u1.cell? ⟨w.heap.size, 0, none⟩ = some (.string p.nm) := (Z.out.below b1 Z.out.lt).cell 0
    have k6 : u1.cell? ⟨w.heap.size, 1, none⟩ = some (.slice p.a1 p.n1 p.c1) := (Z.out.below b1 Z.out.lt).cell 1
    have k7 : u1.cell? ⟨w.heap.size, 2, none⟩ = some (.slice p.a2 p.n2 p.c2) := (Z.out.below b1 Z.out.lt).cell 2
    have k8 : u1.cell? ⟨w.heap.size, 3, none⟩ = some (.slice p.a3 p.n3 p.c3) := (Z.out.below b1 Z.out.lt).cell 3
    replace Z := Lib.hid (Z.out.below b1 Z.out.lt)
    replace BL := Lib.hid (BL.out.trans (b1.mono BL.out.size))
    replace V := Lib.hid (V.out.below b1)
    replace SP := Lib.hid (SP.out.below b1)
    replace ED := Lib.hid (ED.out.below b1)
    clear b1
    go_wp2
    go_ret
    exact ⟨ret_int hF.out.symm, BL.out⟩
  cases bv
  · have hF : Hid (R = 110) := Lib.hid (by rw [hC.out, hR.out, decide_eq_true g1, decide_eq_true g2, decide_eq_true g3]; rfl)
    clear hR hC
    obtain ⟨W1, hW1⟩ : ∃ W1, W1 = w.alloc (.cells #[.string p.nm, .slice p.a1 p.n1 p.c1, .slice p.a2 p.n2 p.c2, .slice p.a3 p.n3 p.c3] 38) := ⟨_, rfl⟩
    have Z : Hid (Holds W1 (w.heap.size) 38 #[.string p.nm, .slice p.a1 p.n1 p.c1, .slice p.a2 p.n2 p.c2, .slice p.a3 p.n3 p.c3]) := Lib.hid (by rw [hW1]; exact Holds.new w _ _)
    have BL := Lib.hid (show Below w.heap.size w W1 by rw [hW1]; exact box_below _ _ _)
    have V := Lib.hid (h.vars.below BL.out)
    have SP := Lib.hid (h.spots.below BL.out)
    have ED := Lib.hid (h.edges.below BL.out)
    have hW1' := Lib.hid hW1
    clear hW1
    clear h
    go_enter Tryz.func61, Tryz.ntmps61
    have k1 := Z.out.cell 0
    have k2 := Z.out.cell 1
    have k3 := Z.out.cell 2
    have k4 := Z.out.cell 3
    have q := Lib.hid (q1.out W1)
    go_wp2_with fail
    rw [← hW1'.out]
    with_reducible refine q.out.mono ?_
    rintro e u1 ⟨rfl, b1⟩
    clear k1 k2 k3 k4
    clear hW1'
    clear q
    have k5 : u1.cell? ⟨w.heap.size, 0, none⟩ = some (.string p.nm) := (Z.out.below b1 Z.out.lt).cell 0
    have k6 : u1.cell? ⟨w.heap.size, 1, none⟩ = some (.slice p.a1 p.n1 p.c1) := (Z.out.below b1 Z.out.lt).cell 1
    have k7 : u1.cell? ⟨w.heap.size, 2, none⟩ = some (.slice p.a2 p.n2 p.c2) := (Z.out.below b1 Z.out.lt).cell 2
    have k8 : u1.cell? ⟨w.heap.size, 3, none⟩ = some (.slice p.a3 p.n3 p.c3) := (Z.out.below b1 Z.out.lt).cell 3
    replace Z := Lib.hid (Z.out.below b1 Z.out.lt)
    replace BL := Lib.hid (BL.out.trans (b1.mono BL.out.size))
    replace V := Lib.hid (V.out.below b1)
    replace SP := Lib.hid (SP.out.below b1)
    replace ED := Lib.hid (ED.out.below b1)
    clear b1
    have q := Lib.hid (q2.out u1 V.out)
    go_wp2_with fail
    with_reducible refine q.out.mono ?_
    rintro e u2 ⟨rfl, b2⟩
    clear k5 k6 k7 k8
    clear q
    have k9 : u2.cell? ⟨w.heap.size, 0, none⟩ = some (.string p.nm) := (Z.out.below b2 Z.out.lt).cell 0
    have k10 : u2.cell? ⟨w.heap.size, 1, none⟩ = some (.slice p.a1 p.n1 p.c1) := (Z.out.below b2 Z.out.lt).cell 1
    have k11 : u2.cell? ⟨w.heap.size, 2, none⟩ = some (.slice p.a2 p.n2 p.c2) := (Z.out.below b2 Z.out.lt).cell 2
    have k12 : u2.cell? ⟨w.heap.size, 3, none⟩ = some (.slice p.a3 p.n3 p.c3) := (Z.out.below b2 Z.out.lt).cell 3
    replace Z := Lib.hid (Z.out.below b2 Z.out.lt)
    replace BL := Lib.hid (BL.out.trans (b2.mono BL.out.size))
    replace V := Lib.hid (V.out.below b2)
    replace SP := Lib.hid (SP.out.below b2)
    replace ED := Lib.hid (ED.out.below b2)
    clear b2
    go_wp2
    go_ret
    exact ⟨ret_int hF.out.symm, BL.out⟩
  cases bs
  · have hF : Hid (R = 110) := Lib.hid (by rw [hC.out, hR.out, decide_eq_true g1, decide_eq_true g2, decide_eq_true g3]; rfl)
    clear hR hC
    obtain ⟨W1, hW1⟩ : ∃ W1, W1 = w.alloc (.cells #[.string p.nm, .slice p.a1 p.n1 p.c1, .slice p.a2 p.n2 p.c2, .slice p.a3 p.n3 p.c3] 38) := ⟨_, rfl⟩
    have Z : Hid (Holds W1 (w.heap.size) 38 #[.string p.nm, .slice p.a1 p.n1 p.c1, .slice p.a2 p.n2 p.c2, .slice p.a3 p.n3 p.c3]) := Lib.hid (by rw [hW1]; exact Holds.new w _ _)
    have BL := Lib.hid (show Below w.heap.size w W1 by rw [hW1]; exact box_below _ _ _)
    have V := Lib.hid (h.vars.below BL.out)
    have SP := Lib.hid (h.spots.below BL.out)
    have ED := Lib.hid (h.edges.below BL.out)
    have hW1' := Lib.hid hW1
    clear hW1
    clear h
    go_enter Tryz.func61, Tryz.ntmps61
    have k1 := Z.out.cell 0
    have k2 := Z.out.cell 1
    have k3 := Z.out.cell 2
    have k4 := Z.out.cell 3
    have q := Lib.hid (q1.out W1)
    go_wp2_with fail
    rw [← hW1'.out]
    with_reducible refine q.out.mono ?_
    rintro e u1 ⟨rfl, b1⟩
    clear k1 k2 k3 k4
    clear hW1'
    clear q
    have k5 : u1.cell? ⟨w.heap.size, 0, none⟩ = some (.string p.nm) := (Z.out.below b1 Z.out.lt).cell 0
    have k6 : u1.cell? ⟨w.heap.size, 1, none⟩ = some (.slice p.a1 p.n1 p.c1) := (Z.out.below b1 Z.out.lt).cell 1
    have k7 : u1.cell? ⟨w.heap.size, 2, none⟩ = some (.slice p.a2 p.n2 p.c2) := (Z.out.below b1 Z.out.lt).cell 2
    have k8 : u1.cell? ⟨w.heap.size, 3, none⟩ = some (.slice p.a3 p.n3 p.c3) := (Z.out.below b1 Z.out.lt).cell 3
    replace Z := Lib.hid (Z.out.below b1 Z.out.lt)
    replace BL := Lib.hid (BL.out.trans (b1.mono BL.out.size))
    replace V := Lib.hid (V.out.below b1)
    replace SP := Lib.hid (SP.out.below b1)
    replace ED := Lib.hid (ED.out.below b1)
    clear b1
    have q := Lib.hid (q2.out u1 V.out)
    go_wp2_with fail
    with_reducible refine q.out.mono ?_
    rintro e u2 ⟨rfl, b2⟩
    clear k5 k6 k7 k8
    clear q
    have k9 : u2.cell? ⟨w.heap.size, 0, none⟩ = some (.string p.nm) := (Z.out.below b2 Z.out.lt).cell 0
    have k10 : u2.cell? ⟨w.heap.size, 1, none⟩ = some (.slice p.a1 p.n1 p.c1) := (Z.out.below b2 Z.out.lt).cell 1
    have k11 : u2.cell? ⟨w.heap.size, 2, none⟩ = some (.slice p.a2 p.n2 p.c2) := (Z.out.below b2 Z.out.lt).cell 2
    have k12 : u2.cell? ⟨w.heap.size, 3, none⟩ = some (.slice p.a3 p.n3 p.c3) := (Z.out.below b2 Z.out.lt).cell 3
    replace Z := Lib.hid (Z.out.below b2 Z.out.lt)
    replace BL := Lib.hid (BL.out.trans (b2.mono BL.out.size))
    replace V := Lib.hid (V.out.below b2)
    replace SP := Lib.hid (SP.out.below b2)
    replace ED := Lib.hid (ED.out.below b2)
    clear b2
    have q := Lib.hid (q3.out u2 SP.out)
    go_wp2_with fail
    with_reducible refine q.out.mono ?_
    rintro e u3 ⟨rfl, b3⟩
    clear k9 k10 k11 k12
    clear q
    have k13 : u3.cell? ⟨w.heap.size, 0, none⟩ = some (.string p.nm) := (Z.out.below b3 Z.out.lt).cell 0
    have k14 : u3.cell? ⟨w.heap.size, 1, none⟩ = some (.slice p.a1 p.n1 p.c1) := (Z.out.below b3 Z.out.lt).cell 1
    have k15 : u3.cell? ⟨w.heap.size, 2, none⟩ = some (.slice p.a2 p.n2 p.c2) := (Z.out.below b3 Z.out.lt).cell 2
    have k16 : u3.cell? ⟨w.heap.size, 3, none⟩ = some (.slice p.a3 p.n3 p.c3) := (Z.out.below b3 Z.out.lt).cell 3
    replace Z := Lib.hid (Z.out.below b3 Z.out.lt)
    replace BL := Lib.hid (BL.out.trans (b3.mono BL.out.size))
    replace V := Lib.hid (V.out.below b3)
    replace SP := Lib.hid (SP.out.below b3)
    replace ED := Lib.hid (ED.out.below b3)
    clear b3
    go_wp2
    go_ret
    exact ⟨ret_int hF.out.symm, BL.out⟩
  cases be
  · have hF : Hid (R = 110) := Lib.hid (by rw [hC.out, hR.out, decide_eq_true g1, decide_eq_true g2, decide_eq_true g3]; rfl)
    clear hR hC
    obtain ⟨W1, hW1⟩ : ∃ W1, W1 = w.alloc (.cells #[.string p.nm, .slice p.a1 p.n1 p.c1, .slice p.a2 p.n2 p.c2, .slice p.a3 p.n3 p.c3] 38) := ⟨_, rfl⟩
    have Z : Hid (Holds W1 (w.heap.size) 38 #[.string p.nm, .slice p.a1 p.n1 p.c1, .slice p.a2 p.n2 p.c2, .slice p.a3 p.n3 p.c3]) := Lib.hid (by rw [hW1]; exact Holds.new w _ _)
    have BL := Lib.hid (show Below w.heap.size w W1 by rw [hW1]; exact box_below _ _ _)
    have V := Lib.hid (h.vars.below BL.out)
    have SP := Lib.hid (h.spots.below BL.out)
    have ED := Lib.hid (h.edges.below BL.out)
    have hW1' := Lib.hid hW1
    clear hW1
    clear h
    go_enter Tryz.func61, Tryz.ntmps61
    have k1 := Z.out.cell 0
    have k2 := Z.out.cell 1
    have k3 := Z.out.cell 2
    have k4 := Z.out.cell 3
    have q := Lib.hid (q1.out W1)
    go_wp2_with fail
    rw [← hW1'.out]
    with_reducible refine q.out.mono ?_
    rintro e u1 ⟨rfl, b1⟩
    clear k1 k2 k3 k4
    clear hW1'
    clear q
    have k5 : u1.cell? ⟨w.heap.size, 0, none⟩ = some (.string p.nm) := (Z.out.below b1 Z.out.lt).cell 0
    have k6 : u1.cell? ⟨w.heap.size, 1, none⟩ = some (.slice p.a1 p.n1 p.c1) := (Z.out.below b1 Z.out.lt).cell 1
    have k7 : u1.cell? ⟨w.heap.size, 2, none⟩ = some (.slice p.a2 p.n2 p.c2) := (Z.out.below b1 Z.out.lt).cell 2
    have k8 : u1.cell? ⟨w.heap.size, 3, none⟩ = some (.slice p.a3 p.n3 p.c3) := (Z.out.below b1 Z.out.lt).cell 3
    replace Z := Lib.hid (Z.out.below b1 Z.out.lt)
    replace BL := Lib.hid (BL.out.trans (b1.mono BL.out.size))
    replace V := Lib.hid (V.out.below b1)
    replace SP := Lib.hid (SP.out.below b1)
    replace ED := Lib.hid (ED.out.below b1)
    clear b1
    have q := Lib.hid (q2.out u1 V.out)
    go_wp2_with fail
    with_reducible refine q.out.mono ?_
    rintro e u2 ⟨rfl, b2⟩
    clear k5 k6 k7 k8
    clear q
    have k9 : u2.cell? ⟨w.heap.size, 0, none⟩ = some (.string p.nm) := (Z.out.below b2 Z.out.lt).cell 0
    have k10 : u2.cell? ⟨w.heap.size, 1, none⟩ = some (.slice p.a1 p.n1 p.c1) := (Z.out.below b2 Z.out.lt).cell 1
    have k11 : u2.cell? ⟨w.heap.size, 2, none⟩ = some (.slice p.a2 p.n2 p.c2) := (Z.out.below b2 Z.out.lt).cell 2
    have k12 : u2.cell? ⟨w.heap.size, 3, none⟩ = some (.slice p.a3 p.n3 p.c3) := (Z.out.below b2 Z.out.lt).cell 3
    replace Z := Lib.hid (Z.out.below b2 Z.out.lt)
    replace BL := Lib.hid (BL.out.trans (b2.mono BL.out.size))
    replace V := Lib.hid (V.out.below b2)
    replace SP := Lib.hid (SP.out.below b2)
    replace ED := Lib.hid (ED.out.below b2)
    clear b2
    have q := Lib.hid (q3.out u2 SP.out)
    go_wp2_with fail
    with_reducible refine q.out.mono ?_
    rintro e u3 ⟨rfl, b3⟩
    clear k9 k10 k11 k12
    clear q
    have k13 : u3.cell? ⟨w.heap.size, 0, none⟩ = some (.string p.nm) := (Z.out.below b3 Z.out.lt).cell 0
    have k14 : u3.cell? ⟨w.heap.size, 1, none⟩ = some (.slice p.a1 p.n1 p.c1) := (Z.out.below b3 Z.out.lt).cell 1
    have k15 : u3.cell? ⟨w.heap.size, 2, none⟩ = some (.slice p.a2 p.n2 p.c2) := (Z.out.below b3 Z.out.lt).cell 2
    have k16 : u3.cell? ⟨w.heap.size, 3, none⟩ = some (.slice p.a3 p.n3 p.c3) := (Z.out.below b3 Z.out.lt).cell 3
    replace Z := Lib.hid (Z.out.below b3 Z.out.lt)
    replace BL := Lib.hid (BL.out.trans (b3.mono BL.out.size))
    replace V := Lib.hid (V.out.below b3)
    replace SP := Lib.hid (SP.out.below b3)
    replace ED := Lib.hid (ED.out.below b3)
    clear b3
    have q := Lib.hid (q4.out u3 ED.out Z.out)
    go_wp2_with fail
    with_reducible refine q.out.mono ?_
    rintro e u4 ⟨rfl, b4⟩
    clear k13 k14 k15 k16
    clear q
    replace Z := Lib.hid (Z.out.below b4 Z.out.lt)
    replace BL := Lib.hid (BL.out.trans (b4.mono BL.out.size))
    replace V := Lib.hid (V.out.below b4)
    replace SP := Lib.hid (SP.out.below b4)
    replace ED := Lib.hid (ED.out.below b4)
    clear b4
    go_wp2
    go_ret
    exact ⟨ret_int hF.out.symm, BL.out⟩
  have hF : Hid (R = 0) := Lib.hid (by rw [hC.out, hR.out, decide_eq_true g1, decide_eq_true g2, decide_eq_true g3]; rfl)
  clear hR hC
  obtain ⟨W1, hW1⟩ : ∃ W1, W1 = w.alloc (.cells #[.string p.nm, .slice p.a1 p.n1 p.c1, .slice p.a2 p.n2 p.c2, .slice p.a3 p.n3 p.c3] 38) := ⟨_, rfl⟩
  have Z : Hid (Holds W1 (w.heap.size) 38 #[.string p.nm, .slice p.a1 p.n1 p.c1, .slice p.a2 p.n2 p.c2, .slice p.a3 p.n3 p.c3]) := Lib.hid (by rw [hW1]; exact Holds.new w _ _)
  have BL := Lib.hid (show Below w.heap.size w W1 by rw [hW1]; exact box_below _ _ _)
  have V := Lib.hid (h.vars.below BL.out)
  have SP := Lib.hid (h.spots.below BL.out)
  have ED := Lib.hid (h.edges.below BL.out)
  have hW1' := Lib.hid hW1
  clear hW1
  clear h
  go_enter Tryz.func61, Tryz.ntmps61
  have k1 := Z.out.cell 0
  have k2 := Z.out.cell 1
  have k3 := Z.out.cell 2
  have k4 := Z.out.cell 3
  have q := Lib.hid (q1.out W1)
  go_wp2_with fail
  rw [← hW1'.out]
  with_reducible refine q.out.mono ?_
  rintro e u1 ⟨rfl, b1⟩
  clear k1 k2 k3 k4
  clear hW1'
  clear q
  have k5 : u1.cell? ⟨w.heap.size, 0, none⟩ = some (.string p.nm) := (Z.out.below b1 Z.out.lt).cell 0
  have k6 : u1.cell? ⟨w.heap.size, 1, none⟩ = some (.slice p.a1 p.n1 p.c1) := (Z.out.below b1 Z.out.lt).cell 1
  have k7 : u1.cell? ⟨w.heap.size, 2, none⟩ = some (.slice p.a2 p.n2 p.c2) := (Z.out.below b1 Z.out.lt).cell 2
  have k8 : u1.cell? ⟨w.heap.size, 3, none⟩ = some (.slice p.a3 p.n3 p.c3) := (Z.out.below b1 Z.out.lt).cell 3
  replace Z := Lib.hid (Z.out.below b1 Z.out.lt)
  replace BL := Lib.hid (BL.out.trans (b1.mono BL.out.size))
  replace V := Lib.hid (V.out.below b1)
  replace SP := Lib.hid (SP.out.below b1)
  replace ED := Lib.hid (ED.out.below b1)
  clear b1
  have q := Lib.hid (q2.out u1 V.out)
  go_wp2_with fail
  with_reducible refine q.out.mono ?_
  rintro e u2 ⟨rfl, b2⟩
  clear k5 k6 k7 k8
  clear q
  have k9 : u2.cell? ⟨w.heap.size, 0, none⟩ = some (.string p.nm) := (Z.out.below b2 Z.out.lt).cell 0
  have k10 : u2.cell? ⟨w.heap.size, 1, none⟩ = some (.slice p.a1 p.n1 p.c1) := (Z.out.below b2 Z.out.lt).cell 1
  have k11 : u2.cell? ⟨w.heap.size, 2, none⟩ = some (.slice p.a2 p.n2 p.c2) := (Z.out.below b2 Z.out.lt).cell 2
  have k12 : u2.cell? ⟨w.heap.size, 3, none⟩ = some (.slice p.a3 p.n3 p.c3) := (Z.out.below b2 Z.out.lt).cell 3
  replace Z := Lib.hid (Z.out.below b2 Z.out.lt)
  replace BL := Lib.hid (BL.out.trans (b2.mono BL.out.size))
  replace V := Lib.hid (V.out.below b2)
  replace SP := Lib.hid (SP.out.below b2)
  replace ED := Lib.hid (ED.out.below b2)
  clear b2
  have q := Lib.hid (q3.out u2 SP.out)
  go_wp2_with fail
  with_reducible refine q.out.mono ?_
  rintro e u3 ⟨rfl, b3⟩
  clear k9 k10 k11 k12
  clear q
  have k13 : u3.cell? ⟨w.heap.size, 0, none⟩ = some (.string p.nm) := (Z.out.below b3 Z.out.lt).cell 0
  have k14 : u3.cell? ⟨w.heap.size, 1, none⟩ = some (.slice p.a1 p.n1 p.c1) := (Z.out.below b3 Z.out.lt).cell 1
  have k15 : u3.cell? ⟨w.heap.size, 2, none⟩ = some (.slice p.a2 p.n2 p.c2) := (Z.out.below b3 Z.out.lt).cell 2
  have k16 : u3.cell? ⟨w.heap.size, 3, none⟩ = some (.slice p.a3 p.n3 p.c3) := (Z.out.below b3 Z.out.lt).cell 3
  replace Z := Lib.hid (Z.out.below b3 Z.out.lt)
  replace BL := Lib.hid (BL.out.trans (b3.mono BL.out.size))
  replace V := Lib.hid (V.out.below b3)
  replace SP := Lib.hid (SP.out.below b3)
  replace ED := Lib.hid (ED.out.below b3)
  clear b3
  have q := Lib.hid (q4.out u3 ED.out Z.out)
  go_wp2_with fail
  with_reducible refine q.out.mono ?_
  rintro e u4 ⟨rfl, b4⟩
  clear k13 k14 k15 k16
  clear q
  replace Z := Lib.hid (Z.out.below b4 Z.out.lt)
  replace BL := Lib.hid (BL.out.trans (b4.mono BL.out.size))
  replace V := Lib.hid (V.out.below b4)
  replace SP := Lib.hid (SP.out.below b4)
  replace ED := Lib.hid (ED.out.below b4)
  clear b4
  go_wp2
  go_ret
  exact ⟨ret_int hF.out.symm, BL.out⟩
end Go.Proofs.YtimgocfkogebmaaGreatDoor
namespace Go.Proofs.YtimgocfkogebmaaGreatDoor
set_option linter.unusedVariables false
set_option linter.unusedSimpArgs false
def mat (n : Nat) (l : List Int) (i j : Nat) : Int := l.getD (i * (n + 1) + j) 0
def matL (n : Nat) (F : Nat → Nat → Int) : List Int := (List.range ((n + 1) * (n + 1))).map fun t => F (t / (n + 1)) (t % (n + 1))
theorem matL_len (n : Nat) (F : Nat → Nat → Int) : (matL n F).length = (n + 1) * (n + 1) := by simp [matL]
theorem place_lt {n i j : Nat} (hi : i ≤ n) (hj : j ≤ n) : i * (n + 1) + j < (n + 1) * (n + 1) := by
  have h1 : i * (n + 1) ≤ n * (n + 1) := Nat.mul_le_mul_right _ hi
  have h2 : (n + 1) * (n + 1) = n * (n + 1) + (n + 1) := by rw [Nat.add_mul, Nat.one_mul]
  omega
theorem place_div {n i j : Nat} (hj : j ≤ n) : (i * (n + 1) + j) / (n + 1) = i := by
  rw [Nat.mul_comm, Nat.mul_add_div (by omega), Nat.div_eq_of_lt (by omega)]; omega
theorem place_mod {n i j : Nat} (hj : j ≤ n) : (i * (n + 1) + j) % (n + 1) = j := by
  rw [Nat.mul_comm, Nat.mul_add_mod, Nat.mod_eq_of_lt (by omega)]
theorem mat_matL {n : Nat} (F : Nat → Nat → Int) {i j : Nat} (hi : i ≤ n) (hj : j ≤ n) : mat n (matL n F) i j = F i j := by
  unfold mat matL
  have h := place_lt hi hj
  simp [List.getD, h, place_div hj, place_mod hj]
theorem place_of {n t : Nat} (h : t < (n + 1) * (n + 1)) : t / (n + 1) ≤ n ∧ t % (n + 1) ≤ n ∧ t / (n + 1) * (n + 1) + t % (n + 1) = t := by
  have h1 := Nat.div_lt_of_lt_mul h
  have h2 := Nat.mod_lt t (show 0 < n + 1 by omega)
  have h3 := Nat.div_add_mod t (n + 1)
  rw [Nat.mul_comm] at h3
  omega
theorem mat_ext {n : Nat} {l r : List Int} (hl : l.length = (n + 1) * (n + 1)) (hr : r.length = (n + 1) * (n + 1)) (h : ∀ i j, i ≤ n → j ≤ n → mat n l i j = mat n r i j) : l = r := by
  apply List.ext_getElem (by omega)
  intro t h1 h2
  obtain ⟨q1, q2, q3⟩ := place_of (n := n) (t := t) (by omega)
  have := h _ _ q1 q2
  unfold mat at this
  rw [q3] at this
  simpa [List.getD, h1, h2] using this
def widestF (i j : Nat) : Int := if i = j then 0 else if i = 0 ∨ j = 0 then 1099511627776 else 2199023255552
def clipF (n : Nat) (M : List Int) (i j : Nat) : Int := max (-2199023255553) (min (mat n M i j) (widestF i j))
def clipL (n : Nat) (M : List Int) : List Int := matL n (clipF n M)
structure Closed (n : Nat) (D : Nat → Nat → Int) : Prop where
  zero : ∀ i, i ≤ n → D i i = 0
  tri : ∀ i j k, i ≤ n → j ≤ n → k ≤ n → D i j ≤ D i k + D k j
def Leq (n : Nat) (D E : Nat → Nat → Int) : Prop := ∀ i j, i ≤ n → j ≤ n → D i j ≤ E i j
def thr (n k : Nat) (d : List Int) : Nat → List Int
  | 0 => d
  | t + 1 => (thr n k d t).set t (min ((thr n k d t).getD t 0) (mat n (thr n k d t) (t / (n + 1)) k + mat n (thr n k d t) k (t % (n + 1))))
def thrAll (n k : Nat) (d : List Int) : List Int := thr n k d ((n + 1) * (n + 1))
def belowL (n : Nat) (d : List Int) : Bool := (List.range (n + 1)).any fun i => decide (d.getD (i * (n + 2)) 0 < 0)
def fwRun (n : Nat) : Nat → Nat → List Int → List Int
  | 0, _, d => d
  | f + 1, k, d => if belowL n (thrAll n k d) = true then [] else fwRun n f (k + 1) (thrAll n k d)
def closedL (n : Nat) (M : List Int) : List Int := fwRun n (n + 1) 0 (clipL n M)
theorem thr_len (n k : Nat) (d : List Int) (t : Nat) : (thr n k d t).length = d.length := by
  induction t with
  | zero => rfl
  | succ t ih => simp [thr, ih]
theorem diag_at (n : Nat) (d : List Int) (i : Nat) : d.getD (i * (n + 2)) 0 = mat n d i i := by
  unfold mat
  rw [show i * (n + 2) = i * (n + 1) + i by rw [show n + 2 = (n + 1) + 1 by omega, Nat.mul_add]; omega]
theorem belowL_iff (n : Nat) (d : List Int) : belowL n d = true ↔ ∃ i, i ≤ n ∧ mat n d i i < 0 := by
  unfold belowL
  rw [List.any_eq_true]
  constructor
  · rintro ⟨i, hi, h⟩
    rw [List.mem_range] at hi
    rw [decide_eq_true_eq, diag_at] at h
    exact ⟨i, by omega, h⟩
  · rintro ⟨i, hi, h⟩
    exact ⟨i, List.mem_range.2 (by omega), by rw [decide_eq_true_eq, diag_at]; exact h⟩
theorem belowL_not {n : Nat} {d : List Int} (h : belowL n d = false) {i : Nat} (hi : i ≤ n) : 0 ≤ mat n d i i := by
  by_cases q : 0 ≤ mat n d i i
  · exact q
  · have := (belowL_iff n d).2 ⟨i, hi, by omega⟩
    rw [h] at this; simp at this
theorem getD_set (l : List Int) (t p : Nat) (x : Int) (ht : t < l.length) : (l.set t x).getD p 0 = if p = t then x else l.getD p 0 := by
  by_cases h : p = t
  · subst h; simp [List.getD, ht]
  · rw [if_neg h]; simp [List.getD, List.getElem?_set, show ¬ t = p from fun e => h e.symm]
theorem mat_set {n : Nat} {l : List Int} (hl : l.length = (n + 1) * (n + 1)) {t : Nat} (ht : t < (n + 1) * (n + 1)) (x : Int) {i j : Nat} (hi : i ≤ n) (hj : j ≤ n) : mat n (l.set t x) i j = if i = t / (n + 1) ∧ j = t % (n + 1) then x else mat n l i j := by
  unfold mat
  rw [getD_set _ _ _ _ (by omega)]
  by_cases h : i * (n + 1) + j = t
  · subst h
    rw [if_pos rfl, if_pos ⟨(place_div hj).symm, (place_mod hj).symm⟩]
  · rw [if_neg h, if_neg]
    rintro ⟨rfl, rfl⟩
    exact h (place_of ht).2.2
theorem thr_leq {n k : Nat} {d : List Int} (hl : d.length = (n + 1) * (n + 1)) : ∀ t, t ≤ (n + 1) * (n + 1) → Leq n (mat n (thr n k d t)) (mat n d) := by
  intro t
  induction t with
  | zero => intro _ i j _ _; exact Int.le_refl _
  | succ t ih =>
    intro ht i j hi hj
    have h := ih (by omega) i j hi hj
    simp only [thr]
    rw [mat_set (by rw [thr_len]; exact hl) (by omega) _ hi hj]
    split
    · rename_i q
      obtain ⟨rfl, rfl⟩ := q
      refine Int.le_trans (Int.min_le_left _ _) ?_
      have : (thr n k d t).getD t 0 = mat n (thr n k d t) (t / (n + 1)) (t % (n + 1)) := by unfold mat; rw [(place_of (n := n) (t := t) (by omega)).2.2]
      rw [this]; exact h
    · exact h
theorem thr_keeps {n k : Nat} (hk : k ≤ n) {d : List Int} (hl : d.length = (n + 1) * (n + 1)) {D : Nat → Nat → Int} (hD : Closed n D) (h : Leq n D (mat n d)) : ∀ t, t ≤ (n + 1) * (n + 1) → Leq n D (mat n (thr n k d t)) := by
  intro t
  induction t with
  | zero => intro _; exact h
  | succ t ih =>
    intro ht i j hi hj
    have h1 := ih (by omega)
    simp only [thr]
    rw [mat_set (by rw [thr_len]; exact hl) (by omega) _ hi hj]
    split
    · rename_i q
      obtain ⟨rfl, rfl⟩ := q
      have : (thr n k d t).getD t 0 = mat n (thr n k d t) (t / (n + 1)) (t % (n + 1)) := by unfold mat; rw [(place_of (n := n) (t := t) (by omega)).2.2]
      rw [this]
      have a1 := h1 _ _ hi hj
      have a2 := h1 _ _ hi hk
      have a3 := h1 _ _ hk hj
      have a4 := hD.tri _ _ k hi hj hk
      omega
    · exact h1 i j hi hj
theorem thr_at {n k : Nat} (hk : k ≤ n) {d : List Int} (hl : d.length = (n + 1) * (n + 1)) (h0 : mat n d k k = 0) : ∀ t, t ≤ (n + 1) * (n + 1) → ∀ i j, i ≤ n → j ≤ n →
    mat n (thr n k d t) i j = if i * (n + 1) + j < t then min (mat n d i j) (mat n d i k + mat n d k j) else mat n d i j := by
  intro t
  induction t with
  | zero => intro _ i j _ _; rw [if_neg (by omega)]; rfl
  | succ t ih =>
    intro ht i j hi hj
    have h1 := ih (by omega)
    have hik : ∀ i, i ≤ n → mat n (thr n k d t) i k = mat n d i k := by
      intro i hi
      rw [h1 i k hi hk]
      split
      · rw [h0]; omega
      · rfl
    have hkj : ∀ j, j ≤ n → mat n (thr n k d t) k j = mat n d k j := by
      intro j hj
      rw [h1 k j hk hj]
      split
      · rw [h0]; omega
      · rfl
    obtain ⟨q1, q2, q3⟩ := place_of (n := n) (t := t) (by omega)
    simp only [thr]
    rw [mat_set (by rw [thr_len]; exact hl) (by omega) _ hi hj]
    by_cases q : i = t / (n + 1) ∧ j = t % (n + 1)
    · rw [if_pos q]
      obtain ⟨rfl, rfl⟩ := q
      have : (thr n k d t).getD t 0 = mat n (thr n k d t) (t / (n + 1)) (t % (n + 1)) := by unfold mat; rw [q3]
      rw [this, hik _ hi, hkj _ hj, h1 _ _ hi hj, if_neg (by omega), if_pos (by omega)]
    · rw [if_neg q, h1 i j hi hj]
      have hne : i * (n + 1) + j ≠ t := by
        intro e; subst e
        exact q ⟨(place_div hj).symm, (place_mod hj).symm⟩
      by_cases h : i * (n + 1) + j < t
      · rw [if_pos h, if_pos (by omega)]
      · rw [if_neg h, if_neg (by omega)]
theorem thrAll_at {n k : Nat} (hk : k ≤ n) {d : List Int} (hl : d.length = (n + 1) * (n + 1)) (h0 : mat n d k k = 0) {i j : Nat} (hi : i ≤ n) (hj : j ≤ n) : mat n (thrAll n k d) i j = min (mat n d i j) (mat n d i k + mat n d k j) := by
  unfold thrAll
  rw [thr_at hk hl h0 _ (Nat.le_refl _) i j hi hj, if_pos (place_lt hi hj)]
theorem fw_closed {n : Nat} : ∀ (f k : Nat) (d : List Int), k + f = n + 1 → d.length = (n + 1) * (n + 1) → (∀ i, i ≤ n → mat n d i i ≤ 0) → (k = 0 ∨ ∀ i, i ≤ n → mat n d i i = 0) →
    (∀ i j m, i ≤ n → j ≤ n → m < k → mat n d i j ≤ mat n d i m + mat n d m j) → fwRun n f k d ≠ [] → (fwRun n f k d).length = (n + 1) * (n + 1) ∧ Closed n (mat n (fwRun n f k d)) ∧ Leq n (mat n (fwRun n f k d)) (mat n d) := by
  intro f
  induction f with
  | zero =>
    intro k d hk hl hd h0 ht hne
    simp only [fwRun] at hne ⊢
    refine ⟨hl, ⟨?_, fun i j m hi hj hm => ht i j m hi hj (by omega)⟩, fun i j _ _ => Int.le_refl _⟩
    rcases h0 with h | h
    · omega
    · exact h
  | succ f ih =>
    intro k d hk hl hd h0 ht hne
    simp only [fwRun] at hne ⊢
    by_cases hb : belowL n (thrAll n k d) = true
    · rw [if_pos hb] at hne; exact absurd rfl hne
    rw [if_neg hb] at hne ⊢
    rw [Bool.not_eq_true] at hb
    have hkn : k ≤ n := by omega
    have hle : Leq n (mat n (thrAll n k d)) (mat n d) := thr_leq hl _ (Nat.le_refl _)
    have hz : ∀ i, i ≤ n → mat n d i i = 0 := fun i hi => by
      have a := belowL_not hb hi
      have b := hle i i hi hi
      have c := hd i hi
      omega
    have hat := fun i j (hi : i ≤ n) (hj : j ≤ n) => thrAll_at hkn hl (hz k hkn) hi hj
    have hl2 : (thrAll n k d).length = (n + 1) * (n + 1) := by unfold thrAll; rw [thr_len]; exact hl
    have hz2 : ∀ i, i ≤ n → mat n (thrAll n k d) i i = 0 := fun i hi => by
      have a := belowL_not hb hi
      have b := hle i i hi hi
      have c := hd i hi
      omega
    obtain ⟨r1, r2, r3⟩ := ih (k + 1) (thrAll n k d) (by omega) hl2 (fun i hi => by rw [hz2 i hi]; omega) (.inr hz2) (by
      intro i j m hi hj hm
      have hmn : m ≤ n := by omega
      rw [hat i j hi hj, hat i m hi hmn, hat m j hmn hj]
      by_cases e : m = k
      · subst e
        have := hz m hmn
        omega
      · have t1 := ht i j m hi hj (by omega)
        have t2 := ht k j m hkn hj (by omega)
        have t3 := ht i k m hi hkn (by omega)
        have t4 := ht k k m hkn hkn (by omega)
        have t5 := hz k hkn
        omega) hne
    exact ⟨r1, r2, fun i j hi hj => Int.le_trans (r3 i j hi hj) (hle i j hi hj)⟩
theorem fw_max {n : Nat} {D : Nat → Nat → Int} (hD : Closed n D) : ∀ (f k : Nat) (d : List Int), k + f = n + 1 → d.length = (n + 1) * (n + 1) → Leq n D (mat n d) → (fwRun n f k d).length = (n + 1) * (n + 1) ∧ Leq n D (mat n (fwRun n f k d)) := by
  intro f
  induction f with
  | zero => intro k d hk hl h; exact ⟨hl, h⟩
  | succ f ih =>
    intro k d hk hl h
    have h2 : Leq n D (mat n (thrAll n k d)) := thr_keeps (by omega) hl hD h _ (Nat.le_refl _)
    have hb : ¬ belowL n (thrAll n k d) = true := by
      intro hb
      obtain ⟨i, hi, hlt⟩ := (belowL_iff _ _).1 hb
      have a := h2 i i hi hi
      rw [hD.zero i hi] at a
      omega
    simp only [fwRun]
    rw [if_neg hb]
    exact ih (k + 1) _ (by omega) (by unfold thrAll; rw [thr_len]; exact hl) h2
/- The document's way: ways of twice as many steps. -/
def sqF (n : Nat) (c : Nat → Nat → Int) (i j : Nat) : Int := (List.range (n + 1)).foldl (fun x k => if c i k + c k j < x then c i k + c k j else x) (c i j)
def twL (n : Nat) (m : List Int) : List Int := matL n (sqF n (mat n m))
def sq (n : Nat) (m : List Int) : Nat → List Int
  | 0 => m
  | t + 1 => twL n (sq n m t)
def refCloseL (n : Nat) (M : List Int) : List Int := if belowL n (sq n (clipL n M) 4) = true then [] else sq n (clipL n M) 4
theorem foldl_min (g : Nat → Int) : ∀ (l : List Nat) (x : Int), l.foldl (fun x k => if g k < x then g k else x) x ≤ x ∧ (∀ k ∈ l, l.foldl (fun x k => if g k < x then g k else x) x ≤ g k) ∧
    (l.foldl (fun x k => if g k < x then g k else x) x = x ∨ ∃ k ∈ l, l.foldl (fun x k => if g k < x then g k else x) x = g k) := by
  intro l
  induction l with
  | nil => intro x; simp
  | cons y l ih =>
    intro x
    obtain ⟨h1, h2, h3⟩ := ih (if g y < x then g y else x)
    have hy : (if g y < x then g y else x) ≤ x ∧ (if g y < x then g y else x) ≤ g y ∧ ((if g y < x then g y else x) = x ∨ (if g y < x then g y else x) = g y) := by
      split <;> simp <;> omega
    simp only [List.foldl_cons]
    refine ⟨by omega, ?_, ?_⟩
    · intro k hk
      rcases List.mem_cons.1 hk with rfl | hk
      · omega
      · exact h2 k hk
    · rcases h3 with h | ⟨k, hk, h⟩
      · rcases hy.2.2 with e | e
        · left; rw [h, e]
        · right; exact ⟨y, by simp, by rw [h, e]⟩
      · right; exact ⟨k, by simp [hk], h⟩
theorem sqF_le (n : Nat) (c : Nat → Nat → Int) (i j : Nat) : sqF n c i j ≤ c i j := (foldl_min (fun k => c i k + c k j) _ _).1
theorem sqF_two (n : Nat) (c : Nat → Nat → Int) (i j k : Nat) (hk : k ≤ n) : sqF n c i j ≤ c i k + c k j := (foldl_min (fun k => c i k + c k j) _ _).2.1 k (List.mem_range.2 (by omega))
theorem sqF_is (n : Nat) (c : Nat → Nat → Int) (i j : Nat) : sqF n c i j = c i j ∨ ∃ k, k ≤ n ∧ sqF n c i j = c i k + c k j := by
  rcases (foldl_min (fun k => c i k + c k j) (List.range (n + 1)) (c i j)).2.2 with h | ⟨k, hk, h⟩
  · exact .inl h
  · exact .inr ⟨k, by rw [List.mem_range] at hk; omega, h⟩
theorem sq_len {n : Nat} {m : List Int} (hl : m.length = (n + 1) * (n + 1)) (t : Nat) : (sq n m t).length = (n + 1) * (n + 1) := by
  cases t with
  | zero => exact hl
  | succ t => exact matL_len _ _
theorem sq_at {n : Nat} {m : List Int} (t : Nat) {i j : Nat} (hi : i ≤ n) (hj : j ≤ n) : mat n (sq n m (t + 1)) i j = sqF n (mat n (sq n m t)) i j := mat_matL _ hi hj
def wt (M : Nat → Nat → Int) : Nat → List Nat → Nat → Int
  | i, [], j => M i j
  | i, v :: l, j => M i v + wt M v l j
theorem wt_app (M : Nat → Nat → Int) : ∀ (a : List Nat) (i v : Nat) (b : List Nat) (j : Nat), wt M i (a ++ v :: b) j = wt M i a v + wt M v b j := by
  intro a
  induction a with
  | nil => intro i v b j; rfl
  | cons x a ih => intro i v b j; simp only [List.cons_append, wt]; rw [ih]; omega
theorem sq_wt_le {n : Nat} {m : List Int} : ∀ (t : Nat) (l : List Nat) (i j : Nat), l.length + 1 ≤ 2 ^ t → (∀ x ∈ l, x ≤ n) → i ≤ n → j ≤ n → mat n (sq n m t) i j ≤ wt (mat n m) i l j := by
  intro t
  induction t with
  | zero =>
    intro l i j hl hx hi hj
    have : l = [] := by simpa using hl
    subst this
    exact Int.le_refl _
  | succ t ih =>
    intro l i j hl hx hi hj
    rw [sq_at t hi hj]
    by_cases h : l.length + 1 ≤ 2 ^ t
    · exact Int.le_trans (sqF_le _ _ _ _) (ih l i j h hx hi hj)
    · have hp : 0 < 2 ^ t := Nat.two_pow_pos t
      rw [Nat.pow_succ] at hl
      have hlt : 2 ^ t - 1 < l.length := by omega
      have hs : l = l.take (2 ^ t - 1) ++ l[2 ^ t - 1] :: l.drop (2 ^ t) := by
        conv => lhs; rw [← List.take_append_drop (2 ^ t - 1) l]
        rw [List.drop_eq_getElem_cons hlt, show 2 ^ t - 1 + 1 = 2 ^ t by omega]
      have hv : l[2 ^ t - 1] ≤ n := hx _ (List.getElem_mem hlt)
      rw [hs, wt_app]
      have a1 := ih (l.take (2 ^ t - 1)) i (l[2 ^ t - 1]) (by rw [List.length_take]; omega) (fun x hx' => hx x (List.mem_of_mem_take hx')) hi hv
      have a2 := ih (l.drop (2 ^ t)) (l[2 ^ t - 1]) j (by rw [List.length_drop]; omega) (fun x hx' => hx x (List.mem_of_mem_drop hx')) hv hj
      have a3 := sqF_two n (mat n (sq n m t)) i j _ hv
      omega
theorem sq_wt {n : Nat} {m : List Int} : ∀ (t : Nat) (i j : Nat), i ≤ n → j ≤ n → ∃ l : List Nat, (∀ x ∈ l, x ≤ n) ∧ mat n (sq n m t) i j = wt (mat n m) i l j := by
  intro t
  induction t with
  | zero => intro i j hi hj; exact ⟨[], by simp, rfl⟩
  | succ t ih =>
    intro i j hi hj
    rw [sq_at t hi hj]
    rcases sqF_is n (mat n (sq n m t)) i j with h | ⟨k, hk, h⟩
    · obtain ⟨l, h1, h2⟩ := ih i j hi hj
      exact ⟨l, h1, by rw [h, h2]⟩
    · obtain ⟨l1, h1, h2⟩ := ih i k hi hk
      obtain ⟨l2, h3, h4⟩ := ih k j hk hj
      refine ⟨l1 ++ k :: l2, ?_, by rw [h, h2, h4, wt_app]⟩
      intro x hx
      rcases List.mem_append.1 hx with hx | hx
      · exact h1 x hx
      · rcases List.mem_cons.1 hx with rfl | hx
        · exact hk
        · exact h3 x hx
theorem nodup_le : ∀ (n : Nat) (l : List Nat), (∀ x ∈ l, x < n) → l.Nodup → l.length ≤ n := by
  intro n
  induction n with
  | zero =>
    intro l h _
    cases l with
    | nil => simp
    | cons x l => exact absurd (h x (by simp)) (by omega)
  | succ n ih =>
    intro l h hd
    by_cases hn : n ∈ l
    · have := ih (l.erase n) (by
        intro x hx
        rw [hd.mem_erase_iff] at hx
        have := h x hx.2
        omega) (hd.erase n)
      rw [List.length_erase_of_mem hn] at this
      omega
    · have := ih l (by
        intro x hx
        have h1 := h x hx
        have h2 : x ≠ n := fun e => hn (e ▸ hx)
        omega) hd
      omega
theorem dup_split : ∀ l : List Nat, ¬ l.Nodup → ∃ a v b c, l = a ++ v :: (b ++ v :: c) := by
  intro l
  induction l with
  | nil => intro h; exact absurd List.nodup_nil h
  | cons x l ih =>
    intro h
    by_cases hx : x ∈ l
    · obtain ⟨s, t, rfl⟩ := List.append_of_mem hx
      exact ⟨[], x, s, t, rfl⟩
    · have : ¬ l.Nodup := fun hd => h (List.nodup_cons.2 ⟨hx, hd⟩)
      obtain ⟨a, v, b, c, rfl⟩ := ih this
      exact ⟨x :: a, v, b, c, rfl⟩
theorem sq_all {n : Nat} (hn : n ≤ 8) {m : List Int} (hz : ∀ i, i ≤ n → 0 ≤ mat n (sq n m 4) i i) : ∀ (s : Nat) (l : List Nat), l.length = s → ∀ i j, (∀ x ∈ l, x ≤ n) → i ≤ n → j ≤ n → mat n (sq n m 4) i j ≤ wt (mat n m) i l j := by
  intro s
  induction s using Nat.strongRecOn with
  | _ s ih =>
    intro l hs i j hx hi hj
    by_cases h : l.length + 1 ≤ 2 ^ 4
    · exact sq_wt_le 4 l i j h hx hi hj
    · have hlen : 10 ≤ l.length := by simp at h; omega
      have hdup : ¬ (l.take 10).Nodup := by
        intro hd
        have := nodup_le (n + 1) (l.take 10) (fun x hx' => by have := hx x (List.mem_of_mem_take hx'); omega) hd
        rw [List.length_take] at this
        omega
      obtain ⟨a, v, b, c, he⟩ := dup_split _ hdup
      have hl : l = a ++ v :: (b ++ v :: (c ++ l.drop 10)) := by
        conv => lhs; rw [← List.take_append_drop 10 l, he]
        simp
      have hT : (l.take 10).length = 10 := by rw [List.length_take]; omega
      have hbl : b.length + 1 ≤ 2 ^ 4 := by
        rw [he] at hT
        simp at hT ⊢
        omega
      have hmem : ∀ x, x ∈ a ∨ x = v ∨ x ∈ b ∨ x ∈ c ++ l.drop 10 → x ≤ n := by
        intro x hx'
        apply hx
        rw [hl]
        simp only [List.mem_append, List.mem_cons] at hx' ⊢
        rcases hx' with h | h | h | h
        · simp [h]
        · simp [h]
        · simp [h]
        · rcases h with h | h <;> simp [h]
      have hv : v ≤ n := hmem v (by simp)
      have q1 := sq_wt_le (m := m) 4 b v v hbl (fun x hx' => hmem x (by simp [hx'])) hv hv
      have q2 := hz v hv
      have q3 := ih (a ++ v :: (c ++ l.drop 10)).length (by
        rw [← hs]
        conv => rhs; rw [hl]
        simp
        omega) (a ++ v :: (c ++ l.drop 10)) rfl i j (by
        intro x hx'
        apply hmem
        simp only [List.mem_append, List.mem_cons] at hx' ⊢
        rcases hx' with h | h | h <;> simp [h]) hi hj
      rw [hl]
      rw [wt_app] at q3 ⊢
      rw [wt_app]
      omega
theorem sq_closed {n : Nat} (hn : n ≤ 8) {m : List Int} (hd : ∀ i, i ≤ n → mat n m i i ≤ 0) (hz : ∀ i, i ≤ n → 0 ≤ mat n (sq n m 4) i i) : Closed n (mat n (sq n m 4)) := by
  constructor
  · intro i hi
    have h1 := hz i hi
    have h2 := sq_wt_le (m := m) 4 [] i i (by decide) (by simp) hi hi
    have h3 := hd i hi
    simp only [wt] at h2
    omega
  · intro i j k hi hj hk
    obtain ⟨l1, h1, h2⟩ := sq_wt (m := m) 4 i k hi hk
    obtain ⟨l2, h3, h4⟩ := sq_wt (m := m) 4 k j hk hj
    rw [h2, h4, ← wt_app]
    refine sq_all hn hz _ _ rfl i j ?_ hi hj
    intro x hx
    rcases List.mem_append.1 hx with hx | hx
    · exact h1 x hx
    · rcases List.mem_cons.1 hx with rfl | hx
      · exact hk
      · exact h3 x hx
theorem sq_max {n : Nat} {m : List Int} {D : Nat → Nat → Int} (hD : Closed n D) (h : Leq n D (mat n m)) : ∀ t, Leq n D (mat n (sq n m t)) := by
  intro t
  induction t with
  | zero => exact h
  | succ t ih =>
    intro i j hi hj
    rw [sq_at t hi hj]
    rcases sqF_is n (mat n (sq n m t)) i j with q | ⟨k, hk, q⟩
    · rw [q]; exact ih i j hi hj
    · rw [q]
      have a1 := ih i k hi hk
      have a2 := ih k j hk hj
      have a3 := hD.tri i j k hi hj hk
      omega
theorem clip_diag {n : Nat} {M : List Int} {i : Nat} (hi : i ≤ n) : mat n (clipL n M) i i ≤ 0 := by
  unfold clipL
  rw [mat_matL _ hi hi]
  unfold clipF widestF
  rw [if_pos rfl]
  omega
theorem clip_len (n : Nat) (M : List Int) : (clipL n M).length = (n + 1) * (n + 1) := matL_len _ _
theorem size_pos (n : Nat) : 0 < (n + 1) * (n + 1) := Nat.mul_pos (by omega) (by omega)
theorem closedL_is {n : Nat} {M : List Int} (h : closedL n M ≠ []) : (closedL n M).length = (n + 1) * (n + 1) ∧ Closed n (mat n (closedL n M)) ∧ Leq n (mat n (closedL n M)) (mat n (clipL n M)) :=
  fw_closed (n + 1) 0 _ (by omega) (clip_len _ _) (fun i hi => clip_diag hi) (.inl rfl) (by intro i j m _ _ h; omega) h
theorem closedL_max {n : Nat} {M : List Int} {D : Nat → Nat → Int} (hD : Closed n D) (h : Leq n D (mat n (clipL n M))) : (closedL n M).length = (n + 1) * (n + 1) ∧ Leq n D (mat n (closedL n M)) :=
  fw_max hD (n + 1) 0 _ (by omega) (clip_len _ _) h
theorem closedL_ne {n : Nat} {M : List Int} (h : (closedL n M).length = (n + 1) * (n + 1)) : closedL n M ≠ [] := by
  intro e; rw [e] at h; have := size_pos n; simp at h
theorem close_both {n : Nat} (hn : n ≤ 8) (M : List Int) : closedL n M = refCloseL n M := by
  unfold refCloseL
  by_cases hb : belowL n (sq n (clipL n M) 4) = true
  · rw [if_pos hb]
    by_cases hc : closedL n M = []
    · exact hc
    · obtain ⟨h1, h2, h3⟩ := closedL_is hc
      obtain ⟨i, hi, hlt⟩ := (belowL_iff _ _).1 hb
      have := sq_max h2 h3 4 i i hi hi
      rw [h2.zero i hi] at this
      omega
  · rw [if_neg hb]
    rw [Bool.not_eq_true] at hb
    have hcl := sq_closed (m := clipL n M) hn (fun i hi => clip_diag hi) (fun i hi => belowL_not hb hi)
    have hle : Leq n (mat n (sq n (clipL n M) 4)) (mat n (clipL n M)) := by
      intro i j hi hj
      exact sq_wt_le 4 [] i j (by decide) (by simp) hi hj
    obtain ⟨h1, h2⟩ := closedL_max hcl hle
    obtain ⟨h3, h4, h5⟩ := closedL_is (closedL_ne h1)
    refine mat_ext h1 (sq_len (clip_len _ _) 4) (fun i j hi hj => ?_)
    have a := h2 i j hi hj
    have b := sq_max h4 h5 4 i j hi hj
    omega
end Go.Proofs.YtimgocfkogebmaaGreatDoor
namespace Go.Proofs.YtimgocfkogebmaaGreatDoor
set_option linter.unusedVariables false
set_option linter.unusedSimpArgs false
def lowF (k : Nat) (L : Int) (i j : Nat) : Int := if i = k ∧ j = k then 2 * L else if i = k ∨ j = k then 3 * L else 6 * L
theorem lowF_le (k : Nat) {L : Int} (hL : 0 ≤ L) (i j : Nat) : L ≤ lowF k L i j ∧ lowF k L i j ≤ 6 * L := by
  unfold lowF
  split
  · omega
  · split <;> omega
theorem thr_low {n k : Nat} (hk : k ≤ n) {d : List Int} (hl : d.length = (n + 1) * (n + 1)) {L : Int} (hL : 0 ≤ L) (h : ∀ i j, i ≤ n → j ≤ n → -L ≤ mat n d i j) : ∀ t, t ≤ (n + 1) * (n + 1) → ∀ i j, i ≤ n → j ≤ n →
    -(lowF k L i j) ≤ mat n (thr n k d t) i j ∧ (t ≤ i * (n + 1) + j → mat n (thr n k d t) i j = mat n d i j) := by
  intro t
  induction t with
  | zero =>
    intro _ i j hi hj
    have := h i j hi hj
    have := lowF_le k hL i j
    simp only [thr]
    exact ⟨by omega, fun _ => trivial⟩
  | succ t ih =>
    intro ht i j hi hj
    have h1 := ih (by omega)
    obtain ⟨q1, q2, q3⟩ := place_of (n := n) (t := t) (by omega)
    simp only [thr]
    rw [mat_set (by rw [thr_len]; exact hl) (by omega) _ hi hj]
    by_cases q : i = t / (n + 1) ∧ j = t % (n + 1)
    · rw [if_pos q]
      obtain ⟨rfl, rfl⟩ := q
      generalize hi' : t / (n + 1) = i at *
      generalize hj' : t % (n + 1) = j at *
      refine ⟨?_, by intro; omega⟩
      have e : (thr n k d t).getD t 0 = mat n (thr n k d t) i j := by unfold mat; rw [q3]
      rw [e, (h1 i j hi hj).2 (by omega)]
      have a1 := h i j hi hj
      have a2 := h1 i k hi hk
      have a3 := h1 k j hk hj
      have a4 := h i k hi hk
      have a5 := h k j hk hj
      by_cases hik : i = k
      · subst hik
        by_cases hjk : j = i
        · subst hjk
          rw [(h1 j j hi hj).2 (by omega)]
          unfold lowF
          rw [if_pos ⟨rfl, rfl⟩]
          omega
        · rw [(h1 i j hi hj).2 (by omega)]
          have a6 := a2.1
          unfold lowF at a6 ⊢
          rw [if_pos ⟨rfl, rfl⟩] at a6
          rw [if_neg (by rintro ⟨-, e⟩; exact hjk e), if_pos (.inl rfl)]
          omega
      · by_cases hjk : j = k
        · subst hjk
          rw [(h1 i j hi hj).2 (by omega)]
          have a6 := a3.1
          unfold lowF at a6 ⊢
          rw [if_pos ⟨rfl, rfl⟩] at a6
          rw [if_neg (by rintro ⟨e, -⟩; exact hik e), if_pos (.inr rfl)]
          omega
        · have a6 := a3.1
          have a7 := a2.1
          unfold lowF at a6 a7 ⊢
          rw [if_neg (by rintro ⟨-, e⟩; exact hjk e), if_pos (.inl rfl)] at a6
          rw [if_neg (by rintro ⟨e, -⟩; exact hik e), if_pos (.inr rfl)] at a7
          rw [if_neg (by rintro ⟨e, -⟩; exact hik e), if_neg (by rintro (e | e); exact hik e; exact hjk e)]
          omega
    · rw [if_neg q]
      refine ⟨(h1 i j hi hj).1, fun hle => (h1 i j hi hj).2 (by omega)⟩
structure FwI (n : Nat) (M : List Int) (k : Nat) (d : List Int) : Prop where
  len : d.length = (n + 1) * (n + 1)
  run : fwRun n (n + 1 - k) k d = closedL n M
  diag : ∀ i, i ≤ n → mat n d i i ≤ 0
  zero : k = 0 ∨ ∀ i, i ≤ n → mat n d i i = 0
  low : ∀ i j, i ≤ n → j ≤ n → -(if k = 0 then 2199023255553 else 13194139533318 * 2 ^ k) ≤ mat n d i j
  high : ∀ i j, i ≤ n → j ≤ n → mat n d i j ≤ 2199023255552
theorem widestF_le (i j : Nat) : 0 ≤ widestF i j ∧ widestF i j ≤ 2199023255552 := by
  unfold widestF
  split
  · omega
  · split <;> omega
theorem clipF_in (n : Nat) (M : List Int) (i j : Nat) : -2199023255553 ≤ clipF n M i j ∧ clipF n M i j ≤ 2199023255552 := by
  have := widestF_le i j
  unfold clipF
  omega
theorem FwI.start (n : Nat) (M : List Int) : FwI n M 0 (clipL n M) := by
  refine ⟨clip_len _ _, rfl, fun i hi => clip_diag hi, .inl rfl, fun i j hi hj => ?_, fun i j hi hj => ?_⟩
  · unfold clipL
    rw [mat_matL _ hi hj, if_pos rfl]
    have := clipF_in n M i j
    omega
  · unfold clipL
    rw [mat_matL _ hi hj]
    exact (clipF_in n M i j).2
theorem FwI.bounds {n k : Nat} {M d : List Int} (h : FwI n M k d) (hn : n ≤ 8) (hk : k ≤ n) : ∀ t, t ≤ (n + 1) * (n + 1) → ∀ p, -2305843009213693952 ≤ (thr n k d t).getD p 0 ∧ (thr n k d t).getD p 0 ≤ 2305843009213693951 := by
  intro t ht p
  by_cases hp : p < (n + 1) * (n + 1)
  · obtain ⟨q1, q2, q3⟩ := place_of hp
    have e : (thr n k d t).getD p 0 = mat n (thr n k d t) (p / (n + 1)) (p % (n + 1)) := by unfold mat; rw [q3]
    rw [e]
    have hp2 : (2 : Int) ^ k ≤ 256 := by
      have : ∀ k : Nat, k ≤ 8 → (2 : Int) ^ k ≤ 256 := by decide
      exact this k (by omega)
    have hp3 : (0 : Int) ≤ 2 ^ k := Int.le_of_lt (Int.pow_pos (by decide))
    have hL : (0 : Int) ≤ (if k = 0 then 2199023255553 else 13194139533318 * 2 ^ k) := by split <;> omega
    have h1 := (thr_low hk h.len hL h.low t ht _ _ q1 q2).1
    have h2 := (lowF_le k hL (p / (n + 1)) (p % (n + 1))).2
    have h3 := thr_leq h.len t ht _ _ q1 q2 (k := k)
    have h4 := h.high _ _ q1 q2
    refine ⟨?_, by omega⟩
    split at h1 <;> rename_i hk0
    · rw [if_pos hk0] at h2; omega
    · rw [if_neg hk0] at h2; omega
  · have e : (thr n k d t).getD p 0 = 0 := by
      simp only [List.getD]
      rw [List.getElem?_eq_none (by rw [thr_len, h.len]; omega)]
      rfl
    rw [e]; omega
theorem FwI.out {n k : Nat} {M d : List Int} (h : FwI n M k d) (hk : k ≤ n) (hb : belowL n (thrAll n k d) = true) : closedL n M = [] := by
  rw [← h.run, show n + 1 - k = (n - k) + 1 by omega]
  simp only [fwRun]
  rw [if_pos hb]
theorem FwI.next {n k : Nat} {M d : List Int} (h : FwI n M k d) (hk : k ≤ n) (hb : belowL n (thrAll n k d) = false) : FwI n M (k + 1) (thrAll n k d) := by
  have hle : Leq n (mat n (thrAll n k d)) (mat n d) := thr_leq h.len _ (Nat.le_refl _)
  have hz : ∀ i, i ≤ n → mat n (thrAll n k d) i i = 0 := fun i hi => by
    have a := belowL_not hb hi
    have b := hle i i hi hi
    have c := h.diag i hi
    omega
  refine ⟨by unfold thrAll; rw [thr_len]; exact h.len, ?_, fun i hi => by rw [hz i hi]; omega, .inr hz, ?_, fun i j hi hj => Int.le_trans (hle i j hi hj) (h.high i j hi hj)⟩
  · rw [← h.run, show n + 1 - k = (n + 1 - (k + 1)) + 1 by omega]
    conv => rhs; simp only [fwRun]
    rw [if_neg (by rw [hb]; decide)]
  · intro i j hi hj
    rw [if_neg (by omega)]
    by_cases hk0 : k = 0
    · subst hk0
      have hL : (0 : Int) ≤ 2199023255553 := by decide
      have h1 := (thr_low hk h.len hL (fun i j hi hj => by have := h.low i j hi hj; rw [if_pos rfl] at this; exact this) _ (Nat.le_refl _) i j hi hj).1
      have h2 := (lowF_le 0 hL i j).2
      unfold thrAll
      simp only [Nat.zero_add, Int.pow_one] at *
      omega
    · rcases h.zero with h0 | h0
      · exact absurd h0 hk0
      rw [thrAll_at hk h.len (h0 k hk) hi hj]
      have a1 := h.low i j hi hj
      have a2 := h.low i k hi hk
      have a3 := h.low k j hk hj
      rw [if_neg hk0] at a1 a2 a3
      have hp3 : (0 : Int) ≤ 2 ^ k := Int.le_of_lt (Int.pow_pos (by decide))
      rw [Int.pow_succ]
      omega
theorem FwI.end_ {n : Nat} {M d : List Int} (h : FwI n M (n + 1) d) : d = closedL n M := by
  rw [← h.run, Nat.sub_self]; rfl
/- The document's way: how low it becomes. -/
theorem sq_in {n : Nat} {m : List Int} (hlo : ∀ i j, i ≤ n → j ≤ n → -2199023255553 ≤ mat n m i j) (hhi : ∀ i j, i ≤ n → j ≤ n → mat n m i j ≤ 2199023255552) : ∀ t i j, i ≤ n → j ≤ n → -(2199023255553 * 2 ^ t) ≤ mat n (sq n m t) i j ∧ mat n (sq n m t) i j ≤ 2199023255552 := by
  intro t
  induction t with
  | zero => intro i j hi hj; have := hlo i j hi hj; have := hhi i j hi hj; simp only [sq, Int.pow_zero]; omega
  | succ t ih =>
    intro i j hi hj
    rw [sq_at t hi hj]
    have h0 := sqF_le n (mat n (sq n m t)) i j
    have h1 := ih i j hi hj
    have hp3 : (0 : Int) ≤ 2 ^ t := Int.le_of_lt (Int.pow_pos (by decide))
    refine ⟨?_, by omega⟩
    rw [Int.pow_succ]
    rcases sqF_is n (mat n (sq n m t)) i j with q | ⟨k, hk, q⟩
    · omega
    · have a1 := ih i k hi hk
      have a2 := ih k j hk hj
      omega
theorem sq_bound {n : Nat} {M : List Int} {t : Nat} (ht : t ≤ 4) (p : Nat) : -100000000000000 ≤ (sq n (clipL n M) t).getD p 0 ∧ (sq n (clipL n M) t).getD p 0 ≤ 100000000000000 := by
  have hlo : ∀ i j, i ≤ n → j ≤ n → -2199023255553 ≤ mat n (clipL n M) i j := fun i j hi hj => by unfold clipL; rw [mat_matL _ hi hj]; exact (clipF_in n M i j).1
  have hhi : ∀ i j, i ≤ n → j ≤ n → mat n (clipL n M) i j ≤ 2199023255552 := fun i j hi hj => by unfold clipL; rw [mat_matL _ hi hj]; exact (clipF_in n M i j).2
  by_cases hp : p < (n + 1) * (n + 1)
  · obtain ⟨q1, q2, q3⟩ := place_of hp
    have e : (sq n (clipL n M) t).getD p 0 = mat n (sq n (clipL n M) t) (p / (n + 1)) (p % (n + 1)) := by unfold mat; rw [q3]
    rw [e]
    have h1 := sq_in hlo hhi t _ _ q1 q2
    have hp2 : (2 : Int) ^ t ≤ 16 := by
      have : ∀ k : Nat, k ≤ 4 → (2 : Int) ^ k ≤ 16 := by decide
      exact this t ht
    omega
  · have e : (sq n (clipL n M) t).getD p 0 = 0 := by
      simp only [List.getD]
      rw [List.getElem?_eq_none (by rw [sq_len (clip_len _ _)]; omega)]
      rfl
    rw [e]; omega
end Go.Proofs.YtimgocfkogebmaaGreatDoor
namespace Go.Proofs.YtimgocfkogebmaaGreatDoor
open Go.RowKit
set_option linter.unusedVariables false
set_option linter.unusedSimpArgs false
def mayB (n : Int) : Bool := decide (0 ≤ n) && decide (n ≤ 8)
theorem may_any (n : Int) (w : World) : Calls Tryz.prog 130 #[.int .i64 n] w (Tells (.bool (mayB n)) w) := by
  unfold mayB
  by_cases h0 : 0 ≤ n
  · have d0 : decide (0 ≤ n) = true := decide_eq_true h0
    rw [d0, Bool.true_and]
    go_enter Tryz.func130, Tryz.ntmps130
    go_wp2
    go_ret
    exact ⟨rfl, rfl⟩
  · have d0 : decide (0 ≤ n) = false := decide_eq_false h0
    rw [d0, Bool.false_and]
    go_enter Tryz.func130, Tryz.ntmps130
    go_wp2
    go_ret
    exact ⟨rfl, rfl⟩
def sz (n : Nat) : Nat := (n + 1) * (n + 1)
theorem sz_le {n : Nat} (hn : n ≤ 8) : sz n ≤ 81 := by
  unfold sz
  exact Nat.le_trans (Nat.mul_le_mul (show n + 1 ≤ 9 by omega) (show n + 1 ≤ 9 by omega)) (by decide)
theorem sz_int (n : Nat) : ((n : Int) + 1) * ((n : Int) + 1) = (sz n : Nat) := by unfold sz; rw [Int.natCast_mul]; rfl
theorem zsize_any (n : Nat) (hn : n ≤ 8) (w : World) : Calls Tryz.prog 102 #[.int .i64 n] w (Tells (.int .i64 (sz n)) w) := by
  have h1 := sz_int n
  have h2 := sz_le hn
  generalize sz n = s at *
  have hni : (n : Int) ≤ 8 := by omega
  have hsi : (s : Int) ≤ 81 := by omega
  go_enter Tryz.func102, Tryz.ntmps102
  go_wp2
  go_ret
  exact ⟨rfl, rfl⟩
theorem widest_any (i j : Nat) (hi : i ≤ 100) (hj : j ≤ 100) (w : World) : Calls Tryz.prog 169 #[.int .i64 i, .int .i64 j] w (Tells (.int .i64 (widestF i j)) w) := by
  unfold widestF
  by_cases h : i = j
  · subst h
    rw [if_pos rfl]
    go_enter Tryz.func169, Tryz.ntmps169
    go_wp2
    go_ret
    exact ⟨rfl, rfl⟩
  rw [if_neg h]
  have hn : ((i : Int) == (j : Int)) = false := by simp; omega
  have hn2 : ¬ (i : Int) = (j : Int) := by omega
  by_cases h0 : i = 0
  · subst h0
    rw [if_pos (.inl rfl)]
    have hj1 : ¬ (0 : Int) = (j : Int) := by simpa using hn2
    go_enter Tryz.func169, Tryz.ntmps169
    go_wp2
    go_ret
    exact ⟨rfl, rfl⟩
  have hi1 : ((i : Int) == 0) = false := by simp; omega
  have hi2 : ¬ (i : Int) = 0 := by omega
  by_cases h1 : j = 0
  · subst h1
    rw [if_pos (.inr rfl)]
    go_enter Tryz.func169, Tryz.ntmps169
    go_wp2
    go_ret
    exact ⟨rfl, rfl⟩
  have hj1 : ((j : Int) == 0) = false := by simp; omega
  have hj2 : ¬ (j : Int) = 0 := by omega
  rw [if_neg (by omega)]
  go_enter Tryz.func169, Tryz.ntmps169
  go_wp2
  go_ret
  exact ⟨rfl, rfl⟩
theorem far_any (i j : Nat) (hi : i ≤ 100) (hj : j ≤ 100) (w : World) : Calls Tryz.prog 196 #[.int .i64 i, .int .i64 j] w (Tells (.int .i64 (widestF i j)) w) := by
  unfold widestF
  by_cases h : i = j
  · subst h
    rw [if_pos rfl]
    go_enter Tryz.func196, Tryz.ntmps196
    go_wp2
    go_ret
    exact ⟨rfl, rfl⟩
  rw [if_neg h]
  have hn : ((i : Int) == (j : Int)) = false := by simp; omega
  have hn2 : ¬ (i : Int) = (j : Int) := by omega
  by_cases h0 : i = 0
  · subst h0
    rw [if_pos (.inl rfl)]
    have hj1 : ¬ (0 : Int) = (j : Int) := by simpa using hn2
    go_enter Tryz.func196, Tryz.ntmps196
    go_wp2
    go_ret
    exact ⟨rfl, rfl⟩
  have hi1 : ((i : Int) == 0) = false := by simp; omega
  have hi2 : ¬ (i : Int) = 0 := by omega
  by_cases h1 : j = 0
  · subst h1
    rw [if_pos (.inr rfl)]
    go_enter Tryz.func196, Tryz.ntmps196
    go_wp2
    go_ret
    exact ⟨rfl, rfl⟩
  have hj1 : ((j : Int) == 0) = false := by simp; omega
  have hj2 : ¬ (j : Int) = 0 := by omega
  rw [if_neg (by omega)]
  go_enter Tryz.func196, Tryz.ntmps196
  go_wp2
  go_ret
  exact ⟨rfl, rfl⟩
theorem zsum_any (a b : Int) (h1 : -4611686018427387904 ≤ a) (h2 : a ≤ 4611686018427387903) (h3 : -4611686018427387904 ≤ b) (h4 : b ≤ 4611686018427387903) (w : World) : Calls Tryz.prog 171 #[.int .i64 a, .int .i64 b] w (Tells (.int .i64 (a + b)) w) := by
  go_enter Tryz.func171, Tryz.ntmps171
  go_wp2
  go_ret
  exact ⟨rfl, rfl⟩
theorem sees_at' {B : Nat} {w : World} {a : Option Addr} {l : List Int} (h : Sees .i64 B w a l) {i : Nat} (hi : i < l.length) : ∃ b off, a = some ⟨b, off, none⟩ ∧ b < B ∧ w.cell? ⟨b, off + i, none⟩ = some (.int .i64 (l.getD i 0)) := by
  rcases h with h | ⟨b, off, ha, hB, hc⟩
  · rw [h] at hi; simp at hi
  · exact ⟨b, off, ha, hB, hc i hi⟩
theorem ite_min (x y : Int) : (if y < x then y else x) = min x y := by split <;> omega
theorem ite_max (x y : Int) : (if x < y then y else x) = max x y := by split <;> omega
theorem wrap_small {x : Int} (h0 : -9223372036854775808 ≤ x) (h1 : x ≤ 9223372036854775807) : IntKind.i64.wrap x = x := by rw [IntKind.wrap_i64]; omega
theorem place_wraps {n i j : Nat} (hn : n ≤ 8) (hi : i ≤ n) (hj : j ≤ n) : ∃ p q : Nat, IntKind.i64.wrap ((n : Int) + 1) = (n : Int) + 1 ∧ IntKind.i64.wrap ((i : Int) * ((n : Int) + 1)) = (p : Int) ∧ IntKind.i64.wrap ((p : Int) + (j : Int)) = (q : Int) ∧ q = i * (n + 1) + j ∧ q < sz n ∧ q ≤ 80 ∧ (i : Int) * ((n : Int) + 1) = (p : Int) ∧ (p : Int) + (j : Int) = (q : Int) := by
  have hlt := place_lt hi hj
  have h2 := sz_le hn
  unfold sz at *
  have hpi : (i : Int) * ((n : Int) + 1) = ((i * (n + 1) : Nat) : Int) := by rw [Int.natCast_mul]; rfl
  generalize i * (n + 1) = p at *
  refine ⟨p, p + j, wrap_small (by omega) (by omega), ?_, wrap_small (by omega) (by omega), rfl, hlt, by omega, hpi, rfl⟩
  rw [hpi]
  exact wrap_small (by omega) (by omega)
theorem zclip_any (gm gn : Nat) (a : Option Addr) (M : List Int) (len c n : Nat) (hn : n ≤ 8) (hM : len = M.length) (hl : len = sz n) (i j : Nat) (hi : i ≤ n) (hj : j ≤ n) (B : Nat) (w : World) (h : Sees .i64 B w a M)
    (hgm : w.cell? ⟨gm, 0, none⟩ = some (.slice a len c)) (hgn : w.cell? ⟨gn, 0, none⟩ = some (.int .i64 n)) :
    Calls Tryz.prog 168 #[.int .i64 i, .int .i64 j, .pointer (some ⟨gm, 0, none⟩), .pointer (some ⟨gn, 0, none⟩)] w fun e w' => e = .returned (.int .i64 (clipF n M i j)) ∧ ∃ m, w' = w.drewN m := by
  have hw := Lib.hid (fun m => widest_any i j (by omega) (by omega) (w.drewN m))
  obtain ⟨p, q, w1, w2, w3, hq, hqs, -, -, -⟩ := place_wraps hn hi hj
  unfold clipF mat
  rw [← hq]
  have hqn : q < len := by omega
  obtain ⟨b, off, rfl, -, hc⟩ := sees_at' h (i := q) (by omega)
  have hin : (q : Int) < (len : Int) := by omega
  clear h hM hl hqs hq hi hj
  generalize M.getD q 0 = x at *
  generalize widestF i j = y at *
  go_enter Tryz.func168, Tryz.ntmps168
  go_wp2
  go_quiet ((go_at_call 169; exact quiet_mine (hw.out _)))
  first | simp only [ite_min, ite_max] | skip
  go_wp2
  go_ret
  exact ⟨rfl, nq, rfl⟩
end Go.Proofs.YtimgocfkogebmaaGreatDoor
namespace Go.Proofs.YtimgocfkogebmaaGreatDoor
open Go.RowKit
set_option linter.unusedVariables false
set_option linter.unusedSimpArgs false
def ReadsV (v : Value) (w : World) (e : Ending) (w' : World) : Prop := e = .returned v ∧ ∃ m, w' = w.drewN m
theorem zinfoInt : (Tryz.prog.info? 3).map (fun i => (i.zero, i.size, i.bytes)) = some (some (.int .i64 0), 1, 8) := by kernel_rfl
theorem own_drewN {w : World} {base : Nat} {e : TypeId} {size n : Nat} {v : Value} {xs : List Value} (h : w.ownsRow base e size v n xs) (m : Nat) : (w.drewN m).ownsRow base e size v n xs := h
theorem matL_step {n : Nat} (F : Nat → Nat → Int) {i j : Nat} (hi : i ≤ n) (hj : j ≤ n) : (matL n F).take (i * (n + 1) + j) ++ [F i j] = (matL n F).take (i * (n + 1) + (j + 1)) := by
  have h := place_lt hi hj
  have hl : i * (n + 1) + j < (matL n F).length := by rw [matL_len]; exact h
  have e : (matL n F)[i * (n + 1) + j] = F i j := by simp [matL, place_div hj, place_mod hj]
  rw [← Nat.add_assoc, ← List.take_append_getElem hl, e]
set_option maxRecDepth 100000 in
set_option maxHeartbeats 1000000 in
theorem each_clip (n : Nat) (hn : n ≤ 8) (gm gn : Nat) (F : Nat → Nat → Int) (w : World) (hf : ∀ i j, i ≤ n → j ≤ n → ∀ W, Below w.heap.size w W → Calls Tryz.prog 168 #[.int .i64 (i : Nat), .int .i64 (j : Nat), .pointer (some ⟨gm, 0, none⟩), .pointer (some ⟨gn, 0, none⟩)] W (ReadsV (.int .i64 (F i j)) W)) :
    Calls Tryz.prog 58 #[.int .i64 n, .func (.func 168) #[] #[.pointer (some ⟨gm, 0, none⟩), .pointer (some ⟨gn, 0, none⟩)]] w (Made 3 .i64 w (matL n F)) := by
  obtain ⟨i0, hi, hz0, hz1, hz2⟩ := info_parts zinfoInt
  have hsize := Lib.hid (fun W => zsize_any n hn W)
  have hs81 := sz_le hn
  have hf' := Lib.hid hf
  have hlen : (matL n F).length = sz n := matL_len n F
  have hsn : sz n = (n + 1) * (n + 1) := rfl
  have hstep := Lib.hid (fun i j (h1 : i ≤ n) (h2 : j ≤ n) => matL_step F h1 h2)
  obtain ⟨w5, hmk, own5, gr5⟩ := run_make_own (P := Tryz.prog) w w.heap.size 49 3 i0 (.int .i64 0) 1 Tryz.underlying49 hi hz0 hz1 .i64 .i64 (sz n) (by rw [hz2]; omega) (by unfold maxLen; omega) (Nat.le_refl _)
  have b5 : Below w.heap.size w w5 := (Below.refl _ _).grown gr5 (Nat.le_refl _) (by intro k hk; simp at hk)
  have own5' := Lib.hid own5
  have b5' := Lib.hid b5
  have hlen' := Lib.hid hlen
  have hsn' := Lib.hid hsn
  have hni : (n : Int) ≤ 8 := by omega
  have hsi : ((sz n : Nat) : Int) ≤ 81 := by omega
  clear hf own5 b5 gr5 hlen hsn
  generalize matL n F = R at *
  generalize sz n = s at *
  go_enter Tryz.func58, Tryz.ntmps58
  go_wp2_with fail
  refine (hsize.out _).mono ?_
  rintro e w' ⟨rfl, rfl⟩
  clear hsize
  go_wp2
  go_loopw [5, 13] (fun v x wr => ∃ (i : Nat) (pre : List Int), i ≤ n + 1 ∧ x = .int .i64 i ∧ Hid (pre = R.take (i * (n + 1))) ∧ Hid (wr.ownsRow w.heap.size 3 1 v pre.length (nums .i64 pre)) ∧ Hid (Below w.heap.size w wr)) (fun _ x _ => n + 1 - (intOf x).toNat)
  case atStart => exact ⟨0, [], by omega, rfl, Lib.hid (by simp), own5', b5'⟩
  case round =>
    obtain ⟨i, pre, hin, rfl, hpre, hown, hb⟩ := hrel
    by_cases hlt : i < n + 1
    · have hii : (i : Int) < (n : Int) + 1 := by omega
      go_wp2
      go_loopw [5, 18] (fun v x wr => ∃ (j : Nat) (pre : List Int), j ≤ n + 1 ∧ x = .int .i64 j ∧ Hid (pre = R.take (i * (n + 1) + j)) ∧ Hid (wr.ownsRow w.heap.size 3 1 v pre.length (nums .i64 pre)) ∧ Hid (Below w.heap.size w wr)) (fun _ x _ => n + 1 - (intOf x).toNat)
      case atStart => exact ⟨0, pre, by omega, rfl, hpre, hown, hb⟩
      case round =>
        clear hpre hown hb
        obtain ⟨j, pre, hjn, rfl, hpre, hown, hb⟩ := hrel
        by_cases hjt : j < n + 1
        · have hji : (j : Int) < (n : Int) + 1 := by omega
          have hcall := Lib.hid (hf'.out i j (by omega) (by omega) _ hb.out)
          have hpl : pre.length ≤ 81 := by
            rw [hpre.out, List.length_take, hlen'.out]; omega
          have hnext : Hid (pre ++ [F i j] = R.take (i * (n + 1) + (j + 1))) := Lib.hid (by rw [hpre.out]; exact hstep.out i j (by omega) (by omega))
          clear hpre
          generalize F i j = y at *
          go_wp2_with fail
          refine hcall.out.mono ?_
          rintro e w6 ⟨rfl, m, rfl⟩
          clear hcall
          go_wp2_with (at_builtin; refine wpList_append1 _ rfl _ _ 49 rfl w 3 i0 (.int .i64 0) 8 Tryz.underlying49 hi hz0 hz1 hz2 rfl .i64 y _ _ (own_drewN hown.out m) (Below.drewN hb.out m) rfl rfl (by omega) (by omega) ?_; intro v' w' hown2 hb2; have hown2' := Lib.hid hown2; have hb2' := Lib.hid hb2; clear hown2 hb2)
          go_roundw
          case rel => exact ⟨j + 1, pre ++ [y], by omega, by go_num, hnext, hown2', hb2'⟩
          case measure => simp [intOf]; omega
        · have hje : j = n + 1 := by omega
          have hnext : Hid (pre = R.take ((i + 1) * (n + 1))) := Lib.hid (by rw [hpre.out, hje, Nat.add_mul, Nat.one_mul])
          clear hpre
          go_wp2
          go_roundw
          case rel => exact ⟨i + 1, pre, by omega, by go_num, hnext, hown, hb⟩
          case measure => simp [intOf]; omega
    · have hie : i = n + 1 := by omega
      have hfin : Hid (pre = R) := Lib.hid (by rw [hpre.out, hie, ← hsn'.out, ← hlen'.out, List.take_length])
      clear hpre
      go_wp2
      go_ret
      rw [← hfin.out]
      exact ⟨_, rfl, hown.out, hb.out⟩
end Go.Proofs.YtimgocfkogebmaaGreatDoor
