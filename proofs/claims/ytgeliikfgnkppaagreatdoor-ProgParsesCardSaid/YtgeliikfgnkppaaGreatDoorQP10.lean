/-
  Words and walks under the law's proof.
-/
import Derived.Lib.Hide
import Derived.Test.YtgeliikfgnkppaaGreatDoorRows
import Derived.IntWalk
import Derived.Deep.QuietTactic
import Derived.BigQuiet
import Derived.Deep.WholeRow
import Derived.Laws.Tables
import Derived.Laws.Rows
import Derived.Laws.ResultCell
import Derived.Sort.OwnSorted
import Derived.Sort.Grow
import Derived.Lib.OwnBridge
import Derived.Laws.MakeOwn
import Derived.Test.YtgeliikfgnkppaaGreatDoorQP01
import Derived.Test.YtgeliikfgnkppaaGreatDoorQP04
import Derived.Test.YtgeliikfgnkppaaGreatDoorQP07
import Derived.Test.YtgeliikfgnkppaaGreatDoorQP09
namespace Go.Proofs.YtgeliikfgnkppaaGreatDoor
open Go.RowKit
set_option linter.unusedVariables false
set_option linter.unusedSimpArgs false
def progB (D : PD) : Bool := (decide (1 ≤ D.spots.length) && (decide (D.spots.length ≤ 128) && decide (D.edges.length ≤ 256))) && (nameB D.nm && (varsB D.vars && (D.spots.all spotB && D.edges.all (edgeB D.spots.length D.vars.length))))
def chkP (D : PD) : Int := if progB D = true then 0 else 110
theorem spots_at {w : World} {a : Option Addr} {n c : Nat} {l : List SpotD} (h : RO spotC w a n c l) {i : Nat} (hi : i < n) : ∃ b off, a = some ⟨b, off, none⟩ ∧ b < w.heap.size ∧ w.cell? ⟨b, off + i * 3, none⟩ = some (.string (l.getD i spot0).fn) ∧ w.cell? ⟨b, off + i * 3 + 1, none⟩ = some (.string (l.getD i spot0).file) ∧ w.cell? ⟨b, off + i * 3 + 2, none⟩ = some (.int .i64 (l.getD i spot0).line) := by
  obtain ⟨b, off, h1, h2, hc⟩ := h.at_ spotC_len (by decide) spot0 hi
  exact ⟨b, off, h1, h2, hc 0 (by decide), hc 1 (by decide), hc 2 (by decide)⟩
theorem edges_at {w : World} {a : Option Addr} {n c : Nat} {l : List EdgeD} (h : RO edgeC w a n c l) {i : Nat} (hi : i < n) : ∃ b off, a = some ⟨b, off, none⟩ ∧ b < w.heap.size ∧ w.cell? ⟨b, off + i * 7, none⟩ = some (.int .i64 (l.getD i edge0).frm) ∧ w.cell? ⟨b, off + i * 7 + 1, none⟩ = some (.int .i64 (l.getD i edge0).dst) ∧ w.cell? ⟨b, off + i * 7 + 2, none⟩ = some (.int .i64 (l.getD i edge0).k) ∧ w.cell? ⟨b, off + i * 7 + 3, none⟩ = some (.int .i64 (l.getD i edge0).x) ∧ w.cell? ⟨b, off + i * 7 + 4, none⟩ = some (.int .i64 (l.getD i edge0).y) ∧ w.cell? ⟨b, off + i * 7 + 5, none⟩ = some (.int .i64 (l.getD i edge0).c) ∧ w.cell? ⟨b, off + i * 7 + 6, none⟩ = some (.int .i64 (l.getD i edge0).d) := by
  obtain ⟨b, off, h1, h2, hc⟩ := h.at_ edgeC_len (by decide) edge0 hi
  exact ⟨b, off, h1, h2, hc 0 (by decide), hc 1 (by decide), hc 2 (by decide), hc 3 (by decide), hc 4 (by decide), hc 5 (by decide), hc 6 (by decide)⟩
theorem all_no {α : Type} {q : α → Bool} {l : List α} {d : α} {k : Nat} (hk : k < l.length) (h : q (l.getD k d) = false) : l.all q = false := by
  rw [List.all_eq_false]
  exact ⟨l.getD k d, by simp [List.getD, hk], by rw [h]; simp⟩
theorem all_yes {α : Type} {q : α → Bool} {l : List α} (d : α) (h : ∀ t, t < l.length → q (l.getD t d) = true) : l.all q = true := by
  rw [List.all_eq_true]
  intro x hx
  obtain ⟨t, ht, rfl⟩ := List.getElem_of_mem hx
  have := h t ht
  simpa [List.getD, ht] using this
def IdxE (b : Bool) (w : World) (e : Ending) (w' : World) : Prop := ∃ i : Int, decide (0 ≤ i) = b ∧ e = .returned (.int .i64 i) ∧ Below w.heap.size w w'
set_option maxRecDepth 100000 in
set_option maxHeartbeats 2000000 in
theorem spotsIdx_any (a : Option Addr) (n c : Nat) (l : List SpotD) (w : World) (h : RO spotC w a n c l) : Calls Tryz.prog 63 #[.slice a n c, .func (.func 28) #[] #[]] w (IdxE (!l.all spotB) w) := by
  have hn : n = l.length := h.len
  have hmax := h.max'
  have hmi : (n : Int) ≤ 9223372036854775807 := by omega
  have hlen := Lib.hid hn
  have T := Lib.hid h
  have hno := Lib.hid (fun k hk h => all_no (q := spotB) (l := l) (d := spot0) (k := k) hk h)
  have hyes := Lib.hid (fun h => all_yes (q := spotB) (l := l) spot0 h)
  clear h hn hmax
  generalize l.all spotB = R at *
  go_enter Tryz.func63, Tryz.ntmps63
  go_wp2
  go_loopw [8] (fun y wr => ∃ k : Nat, k ≤ n ∧ y = .int .i64 k ∧ Hid (∀ t, t < k → spotB (l.getD t spot0) = true) ∧ Hid (Below w.heap.size w wr)) (fun y _ => n - (intOf y).toNat)
  case atStart => exact ⟨0, Nat.zero_le _, rfl, Lib.hid (fun t ht => by omega), Lib.hid (Below.refl _ _)⟩
  case round =>
    obtain ⟨k, hk, rfl, hal, hB⟩ := hrel
    by_cases hlt : k < n
    · have hki : (k : Int) < (n : Int) := by omega
      obtain ⟨b, off, rfl, hbl, x0, x1, x2⟩ := spots_at (T.out.below hB.out) hlt
      have hno' := Lib.hid (hno.out k (by rw [← hlen.out]; exact hlt))
      have hyes' : Hid (spotB (l.getD k spot0) = true → ∀ t, t < k + 1 → spotB (l.getD t spot0) = true) := Lib.hid (fun h t ht => by
        by_cases e : t = k
        · rw [e]; exact h
        · exact hal.out t (by omega))
      obtain ⟨s, f, x, hs⟩ : ∃ s f x, l.getD k spot0 = (⟨s, f, x⟩ : SpotD) := ⟨_, _, _, rfl⟩
      rw [hs] at x0 x1 x2
      dsimp only at x0 x1 x2
      rw [hs] at hno' hyes'
      have q1 := Lib.hid (badSpot_any s f x wr)
      clear hal hno hs
      cases e1 : spotB (⟨s, f, x⟩ : SpotD)
      · have hf := Lib.hid (hno'.out e1)
        rw [e1] at q1
        clear hno' hyes' hyes e1
        go_wp2_with fail
        refine q1.out.mono ?_
        rintro e w1 ⟨rfl, b1⟩
        have hB2 := Lib.hid (hB.out.trans (b1.mono hB.out.size))
        go_wp2
        go_ret
        exact ⟨k, by rw [hf.out]; simp, rfl, hB2.out⟩
      · have hg := Lib.hid (hyes'.out e1)
        rw [e1] at q1
        clear hno' hyes' e1
        go_wp2_with fail
        refine q1.out.mono ?_
        rintro e w1 ⟨rfl, b1⟩
        have hB2 := Lib.hid (hB.out.trans (b1.mono hB.out.size))
        go_wp2
        go_roundw
        case rel => exact ⟨k + 1, by omega, by go_num, hg, hB2⟩
        case measure => simp [intOf]; omega
    · have hki : ¬ (k : Int) < (n : Int) := by omega
      have hf := Lib.hid (hyes.out (fun t ht => hal.out t (by rw [← hlen.out] at ht; omega)))
      clear hyes hno hal
      go_wp2
      go_ret
      exact ⟨-1, by rw [hf.out]; rfl, rfl, hB.out⟩
set_option maxRecDepth 100000 in
theorem spotsHas_any (a : Option Addr) (n c : Nat) (l : List SpotD) (w : World) (h : RO spotC w a n c l) : Calls Tryz.prog 34 #[.slice a n c, .func (.func 28) #[] #[]] w (Gives (.bool (!l.all spotB)) w) := by
  have q := Lib.hid (spotsIdx_any a n c l w h)
  generalize (!l.all spotB) = R at *
  clear h
  go_enter Tryz.func34, Tryz.ntmps34
  go_wp2_with fail
  refine q.out.mono ?_
  rintro e w1 ⟨i, hi, rfl, hb⟩
  have hi' := Lib.hid hi
  clear hi q
  go_wp2
  go_ret
  exact ⟨ret_bool hi'.out, hb⟩
set_option maxRecDepth 100000 in
set_option maxHeartbeats 2000000 in
theorem edgesIdx_any (p : PV) (g : Nat) (a : Option Addr) (n c : Nat) (l : List EdgeD) (w : World) (h : RO edgeC w a n c l) (hz : Holds w g 26 p.cells) : Calls Tryz.prog 64 #[.slice a n c, .func (.func 30) #[] #[.pointer (some ⟨g, 0, none⟩)]] w (IdxE (!l.all (edgeB p.n2 p.n1)) w) := by
  have hn : n = l.length := h.len
  have hmax := h.max'
  have hmi : (n : Int) ≤ 9223372036854775807 := by omega
  have hlen := Lib.hid hn
  have T := Lib.hid h
  have HZ := Lib.hid hz
  have hno := Lib.hid (fun k hk h => all_no (q := (edgeB p.n2 p.n1)) (l := l) (d := edge0) (k := k) hk h)
  have hyes := Lib.hid (fun h => all_yes (q := (edgeB p.n2 p.n1)) (l := l) edge0 h)
  clear h hn hmax hz
  generalize l.all (edgeB p.n2 p.n1) = R at *
  go_enter Tryz.func64, Tryz.ntmps64
  go_wp2
  go_loopw [8] (fun y wr => ∃ k : Nat, k ≤ n ∧ y = .int .i64 k ∧ Hid (∀ t, t < k → (edgeB p.n2 p.n1) (l.getD t edge0) = true) ∧ Hid (Below w.heap.size w wr)) (fun y _ => n - (intOf y).toNat)
  case atStart => exact ⟨0, Nat.zero_le _, rfl, Lib.hid (fun t ht => by omega), Lib.hid (Below.refl _ _)⟩
  case round =>
    obtain ⟨k, hk, rfl, hal, hB⟩ := hrel
    by_cases hlt : k < n
    · have hki : (k : Int) < (n : Int) := by omega
      obtain ⟨b, off, rfl, hbl, x0, x1, x2, x3, x4, x5, x6⟩ := edges_at (T.out.below hB.out) hlt
      have hno' := Lib.hid (hno.out k (by rw [← hlen.out]; exact hlt))
      have hyes' : Hid ((edgeB p.n2 p.n1) (l.getD k edge0) = true → ∀ t, t < k + 1 → (edgeB p.n2 p.n1) (l.getD t edge0) = true) := Lib.hid (fun h t ht => by
        by_cases e : t = k
        · rw [e]; exact h
        · exact hal.out t (by omega))
      obtain ⟨fr, ds, ek, ex, ey, ec, ed, hs⟩ : ∃ fr ds ek ex ey ec ed, l.getD k edge0 = (⟨fr, ds, ek, ex, ey, ec, ed⟩ : EdgeD) := ⟨_, _, _, _, _, _, _, rfl⟩
      rw [hs] at x0 x1 x2 x3 x4 x5 x6
      dsimp only at x0 x1 x2 x3 x4 x5 x6
      rw [hs] at hno' hyes'
      have q1 := Lib.hid (badEdge_any p g fr ds ek ex ey ec ed wr (HZ.out.below hB.out HZ.out.lt))
      clear hal hno hs
      cases e1 : (edgeB p.n2 p.n1) (⟨fr, ds, ek, ex, ey, ec, ed⟩ : EdgeD)
      · have hf := Lib.hid (hno'.out e1)
        rw [e1] at q1
        clear hno' hyes' hyes e1
        go_wp2_with fail
        refine q1.out.mono ?_
        rintro e w1 ⟨rfl, b1⟩
        have hB2 := Lib.hid (hB.out.trans (b1.mono hB.out.size))
        go_wp2
        go_ret
        exact ⟨k, by rw [hf.out]; simp, rfl, hB2.out⟩
      · have hg := Lib.hid (hyes'.out e1)
        rw [e1] at q1
        clear hno' hyes' e1
        go_wp2_with fail
        refine q1.out.mono ?_
        rintro e w1 ⟨rfl, b1⟩
        have hB2 := Lib.hid (hB.out.trans (b1.mono hB.out.size))
        go_wp2
        go_roundw
        case rel => exact ⟨k + 1, by omega, by go_num, hg, hB2⟩
        case measure => simp [intOf]; omega
    · have hki : ¬ (k : Int) < (n : Int) := by omega
      have hf := Lib.hid (hyes.out (fun t ht => hal.out t (by rw [← hlen.out] at ht; omega)))
      clear hyes hno hal
      go_wp2
      go_ret
      exact ⟨-1, by rw [hf.out]; rfl, rfl, hB.out⟩
set_option maxRecDepth 100000 in
theorem edgesHas_any (p : PV) (g : Nat) (a : Option Addr) (n c : Nat) (l : List EdgeD) (w : World) (h : RO edgeC w a n c l) (hz : Holds w g 26 p.cells) : Calls Tryz.prog 35 #[.slice a n c, .func (.func 30) #[] #[.pointer (some ⟨g, 0, none⟩)]] w (Gives (.bool (!l.all (edgeB p.n2 p.n1))) w) := by
  have q := Lib.hid (edgesIdx_any p g a n c l w h hz)
  generalize (!l.all (edgeB p.n2 p.n1)) = R at *
  clear h hz
  go_enter Tryz.func35, Tryz.ntmps35
  go_wp2_with fail
  refine q.out.mono ?_
  rintro e w1 ⟨i, hi, rfl, hb⟩
  have hi' := Lib.hid hi
  clear hi q
  go_wp2
  go_ret
  exact ⟨ret_bool hi'.out, hb⟩
set_option maxRecDepth 100000 in
set_option maxHeartbeats 4000000 in
theorem pcheck_any (p : PV) (D : PD) (w : World) (h : PrA w p D) : Calls Tryz.prog 9 #[.agg #[.string p.nm, .slice p.a1 p.n1 p.c1, .slice p.a2 p.n2 p.c2, .slice p.a3 p.n3 p.c3]] w (Gives (.int .i64 (chkP D)) w) := by
  have hmf : ∀ (fn : Fn) (first cap : Array Value) (w : World), (Instr.makeFunc fn first cap).run Tryz.prog w = .ok (.func fn first cap) w := fun _ _ _ _ => rfl
  have hR : Hid (progB D = ((decide (1 ≤ p.n2) && (decide (p.n2 ≤ 128) && decide (p.n3 ≤ 256))) && (nameB p.nm && (varsB D.vars && (D.spots.all spotB && D.edges.all (edgeB p.n2 p.n1)))))) := Lib.hid (by unfold progB; rw [h.nm, h.vars.len, h.spots.len, h.edges.len])
  have hC : Hid (chkP D = if progB D = true then 0 else 110) := Lib.hid rfl
  have q1 := Lib.hid (fun W => name_any p.nm W)
  have q2 := Lib.hid (fun W (hW : TT W p.a1 p.n1 p.c1 D.vars) => rightVars_any p.a1 p.n1 p.c1 D.vars W hW)
  have q3 := Lib.hid (fun W (hW : RO spotC W p.a2 p.n2 p.c2 D.spots) => spotsHas_any p.a2 p.n2 p.c2 D.spots W hW)
  have q4 := Lib.hid (fun W (hW : RO edgeC W p.a3 p.n3 p.c3 D.edges) (hz : Holds W w.heap.size 26 p.cells) => edgesHas_any p w.heap.size p.a3 p.n3 p.c3 D.edges W hW hz)
  generalize chkP D = R at *
  generalize progB D = Q at *
  generalize nameB p.nm = bn at *
  generalize varsB D.vars = bv at *
  generalize D.spots.all spotB = bs at *
  generalize D.edges.all (edgeB p.n2 p.n1) = be at *
  by_cases g1 : 1 ≤ p.n2
  rotate_left
  · have i1 : ¬ (1 : Int) ≤ (p.n2 : Int) := by omega
    have hF : Hid (R = 110) := Lib.hid (by rw [hC.out, hR.out, decide_eq_false g1]; rfl)
    clear hR hC
    obtain ⟨W1, hW1⟩ : ∃ W1, W1 = w.alloc (.cells #[.string p.nm, .slice p.a1 p.n1 p.c1, .slice p.a2 p.n2 p.c2, .slice p.a3 p.n3 p.c3] 26) := ⟨_, rfl⟩
    have Z : Hid (Holds W1 (w.heap.size) 26 #[.string p.nm, .slice p.a1 p.n1 p.c1, .slice p.a2 p.n2 p.c2, .slice p.a3 p.n3 p.c3]) := Lib.hid (by rw [hW1]; exact Holds.new w _ _)
    have BL := Lib.hid (show Below w.heap.size w W1 by rw [hW1]; exact box_below _ _ _)
    have V := Lib.hid (h.vars.below BL.out)
    have SP := Lib.hid (h.spots.below BL.out)
    have ED := Lib.hid (h.edges.below BL.out)
    have hW1' := Lib.hid hW1
    clear hW1
    clear h
    go_enter Tryz.func9, Tryz.ntmps9
    have k1 := Z.out.cell 0
    have k2 := Z.out.cell 1
    have k3 := Z.out.cell 2
    have k4 := Z.out.cell 3
    go_wp2
    go_ret
    rw [← hW1'.out]
    exact ⟨ret_int hF.out.symm, BL.out⟩
  have i1 : (1 : Int) ≤ (p.n2 : Int) := by omega
  by_cases g2 : p.n2 ≤ 128
  rotate_left
  · have i2 : ¬ (p.n2 : Int) ≤ 128 := by omega
    have hF : Hid (R = 110) := Lib.hid (by rw [hC.out, hR.out, decide_eq_true g1, decide_eq_false g2]; rfl)
    clear hR hC
    obtain ⟨W1, hW1⟩ : ∃ W1, W1 = w.alloc (.cells #[.string p.nm, .slice p.a1 p.n1 p.c1, .slice p.a2 p.n2 p.c2, .slice p.a3 p.n3 p.c3] 26) := ⟨_, rfl⟩
    have Z : Hid (Holds W1 (w.heap.size) 26 #[.string p.nm, .slice p.a1 p.n1 p.c1, .slice p.a2 p.n2 p.c2, .slice p.a3 p.n3 p.c3]) := Lib.hid (by rw [hW1]; exact Holds.new w _ _)
    have BL := Lib.hid (show Below w.heap.size w W1 by rw [hW1]; exact box_below _ _ _)
    have V := Lib.hid (h.vars.below BL.out)
    have SP := Lib.hid (h.spots.below BL.out)
    have ED := Lib.hid (h.edges.below BL.out)
    have hW1' := Lib.hid hW1
    clear hW1
    clear h
    go_enter Tryz.func9, Tryz.ntmps9
    have k1 := Z.out.cell 0
    have k2 := Z.out.cell 1
    have k3 := Z.out.cell 2
    have k4 := Z.out.cell 3
    go_wp2
    go_ret
    rw [← hW1'.out]
    exact ⟨ret_int hF.out.symm, BL.out⟩
  have i2 : (p.n2 : Int) ≤ 128 := by omega
  by_cases g3 : p.n3 ≤ 256
  rotate_left
  · have i3 : ¬ (p.n3 : Int) ≤ 256 := by omega
    have hF : Hid (R = 110) := Lib.hid (by rw [hC.out, hR.out, decide_eq_true g1, decide_eq_true g2, decide_eq_false g3]; rfl)
    clear hR hC
    obtain ⟨W1, hW1⟩ : ∃ W1, W1 = w.alloc (.cells #[.string p.nm, .slice p.a1 p.n1 p.c1, .slice p.a2 p.n2 p.c2, .slice p.a3 p.n3 p.c3] 26) := ⟨_, rfl⟩
    have Z : Hid (Holds W1 (w.heap.size) 26 #[.string p.nm, .slice p.a1 p.n1 p.c1, .slice p.a2 p.n2 p.c2, .slice p.a3 p.n3 p.c3]) := Lib.hid (by rw [hW1]; exact Holds.new w _ _)
    have BL := Lib.hid (show Below w.heap.size w W1 by rw [hW1]; exact box_below _ _ _)
    have V := Lib.hid (h.vars.below BL.out)
    have SP := Lib.hid (h.spots.below BL.out)
    have ED := Lib.hid (h.edges.below BL.out)
    have hW1' := Lib.hid hW1
    clear hW1
    clear h
    go_enter Tryz.func9, Tryz.ntmps9
    have k1 := Z.out.cell 0
    have k2 := Z.out.cell 1
    have k3 := Z.out.cell 2
    have k4 := Z.out.cell 3
    go_wp2
    go_ret
    rw [← hW1'.out]
    exact ⟨ret_int hF.out.symm, BL.out⟩
  have i3 : (p.n3 : Int) ≤ 256 := by omega
  cases bn
  · have hF : Hid (R = 110) := Lib.hid (by rw [hC.out, hR.out, decide_eq_true g1, decide_eq_true g2, decide_eq_true g3]; rfl)
    clear hR hC
    obtain ⟨W1, hW1⟩ : ∃ W1, W1 = w.alloc (.cells #[.string p.nm, .slice p.a1 p.n1 p.c1, .slice p.a2 p.n2 p.c2, .slice p.a3 p.n3 p.c3] 26) := ⟨_, rfl⟩
    have Z : Hid (Holds W1 (w.heap.size) 26 #[.string p.nm, .slice p.a1 p.n1 p.c1, .slice p.a2 p.n2 p.c2, .slice p.a3 p.n3 p.c3]) := Lib.hid (by rw [hW1]; exact Holds.new w _ _)
    have BL := Lib.hid (show Below w.heap.size w W1 by rw [hW1]; exact box_below _ _ _)
    have V := Lib.hid (h.vars.below BL.out)
    have SP := Lib.hid (h.spots.below BL.out)
    have ED := Lib.hid (h.edges.below BL.out)
    have hW1' := Lib.hid hW1
    clear hW1
    clear h
    go_enter Tryz.func9, Tryz.ntmps9
    have k1 := Z.out.cell 0
    have k2 := Z.out.cell 1
    have k3 := Z.out.cell 2
    have k4 := Z.out.cell 3
    have q := Lib.hid (q1.out W1)
    go_wp2_with fail
    rw [← hW1'.out]
    with_reducible refine q.out.mono ?_
    rintro e u1 ⟨rfl, b1⟩
    clear k1 k2 k3 k4
    clear hW1'
    clear q
    have k5 : u1.cell? ⟨w.heap.size, 0, none⟩ = some (.string p.nm) := (Z.out.below b1 Z.out.lt).cell 0
    have k6 : u1.cell? ⟨w.heap.size, 1, none⟩ = some (.slice p.a1 p.n1 p.c1) := (Z.out.below b1 Z.out.lt).cell 1
    have k7 : u1.cell? ⟨w.heap.size, 2, none⟩ = some (.slice p.a2 p.n2 p.c2) := (Z.out.below b1 Z.out.lt).cell 2
    have k8 : u1.cell? ⟨w.heap.size, 3, none⟩ = some (.slice p.a3 p.n3 p.c3) := (Z.out.below b1 Z.out.lt).cell 3
    replace Z := Lib.hid (Z.out.below b1 Z.out.lt)
    replace BL := Lib.hid (BL.out.trans (b1.mono BL.out.size))
    replace V := Lib.hid (V.out.below b1)
    replace SP := Lib.hid (SP.out.below b1)
    replace ED := Lib.hid (ED.out.below b1)
    clear b1
    go_wp2
    go_ret
    exact ⟨ret_int hF.out.symm, BL.out⟩
  cases bv
  · have hF : Hid (R = 110) := Lib.hid (by rw [hC.out, hR.out, decide_eq_true g1, decide_eq_true g2, decide_eq_true g3]; rfl)
    clear hR hC
    obtain ⟨W1, hW1⟩ : ∃ W1, W1 = w.alloc (.cells #[.string p.nm, .slice p.a1 p.n1 p.c1, .slice p.a2 p.n2 p.c2, .slice p.a3 p.n3 p.c3] 26) := ⟨_, rfl⟩
    have Z : Hid (Holds W1 (w.heap.size) 26 #[.string p.nm, .slice p.a1 p.n1 p.c1, .slice p.a2 p.n2 p.c2, .slice p.a3 p.n3 p.c3]) := Lib.hid (by rw [hW1]; exact Holds.new w _ _)
    have BL := Lib.hid (show Below w.heap.size w W1 by rw [hW1]; exact box_below _ _ _)
    have V := Lib.hid (h.vars.below BL.out)
    have SP := Lib.hid (h.spots.below BL.out)
    have ED := Lib.hid (h.edges.below BL.out)
    have hW1' := Lib.hid hW1
    clear hW1
    clear h
    go_enter Tryz.func9, Tryz.ntmps9
    have k1 := Z.out.cell 0
    have k2 := Z.out.cell 1
    have k3 := Z.out.cell 2
    have k4 := Z.out.cell 3
    have q := Lib.hid (q1.out W1)
    go_wp2_with fail
    rw [← hW1'.out]
    with_reducible refine q.out.mono ?_
    rintro e u1 ⟨rfl, b1⟩
    clear k1 k2 k3 k4
    clear hW1'
    clear q
    have k5 : u1.cell? ⟨w.heap.size, 0, none⟩ = some (.string p.nm) := (Z.out.below b1 Z.out.lt).cell 0
    have k6 : u1.cell? ⟨w.heap.size, 1, none⟩ = some (.slice p.a1 p.n1 p.c1) := (Z.out.below b1 Z.out.lt).cell 1
    have k7 : u1.cell? ⟨w.heap.size, 2, none⟩ = some (.slice p.a2 p.n2 p.c2) := (Z.out.below b1 Z.out.lt).cell 2
    have k8 : u1.cell? ⟨w.heap.size, 3, none⟩ = some (.slice p.a3 p.n3 p.c3) := (Z.out.below b1 Z.out.lt).cell 3
    replace Z := Lib.hid (Z.out.below b1 Z.out.lt)
    replace BL := Lib.hid (BL.out.trans (b1.mono BL.out.size))
    replace V := Lib.hid (V.out.below b1)
    replace SP := Lib.hid (SP.out.below b1)
    replace ED := Lib.hid (ED.out.below b1)
    clear b1
    have q := Lib.hid (q2.out u1 V.out)
    go_wp2_with fail
    with_reducible refine q.out.mono ?_
    rintro e u2 ⟨rfl, b2⟩
    clear k5 k6 k7 k8
    clear q
    have k9 : u2.cell? ⟨w.heap.size, 0, none⟩ = some (.string p.nm) := (Z.out.below b2 Z.out.lt).cell 0
    have k10 : u2.cell? ⟨w.heap.size, 1, none⟩ = some (.slice p.a1 p.n1 p.c1) := (Z.out.below b2 Z.out.lt).cell 1
    have k11 : u2.cell? ⟨w.heap.size, 2, none⟩ = some (.slice p.a2 p.n2 p.c2) := (Z.out.below b2 Z.out.lt).cell 2
    have k12 : u2.cell? ⟨w.heap.size, 3, none⟩ = some (.slice p.a3 p.n3 p.c3) := (Z.out.below b2 Z.out.lt).cell 3
    replace Z := Lib.hid (Z.out.below b2 Z.out.lt)
    replace BL := Lib.hid (BL.out.trans (b2.mono BL.out.size))
    replace V := Lib.hid (V.out.below b2)
    replace SP := Lib.hid (SP.out.below b2)
    replace ED := Lib.hid (ED.out.below b2)
    clear b2
    go_wp2
    go_ret
    exact ⟨ret_int hF.out.symm, BL.out⟩
  cases bs
  · have hF : Hid (R = 110) := Lib.hid (by rw [hC.out, hR.out, decide_eq_true g1, decide_eq_true g2, decide_eq_true g3]; rfl)
    clear hR hC
    obtain ⟨W1, hW1⟩ : ∃ W1, W1 = w.alloc (.cells #[.string p.nm, .slice p.a1 p.n1 p.c1, .slice p.a2 p.n2 p.c2, .slice p.a3 p.n3 p.c3] 26) := ⟨_, rfl⟩
    have Z : Hid (Holds W1 (w.heap.size) 26 #[.string p.nm, .slice p.a1 p.n1 p.c1, .slice p.a2 p.n2 p.c2, .slice p.a3 p.n3 p.c3]) := Lib.hid (by rw [hW1]; exact Holds.new w _ _)
    have BL := Lib.hid (show Below w.heap.size w W1 by rw [hW1]; exact box_below _ _ _)
    have V := Lib.hid (h.vars.below BL.out)
    have SP := Lib.hid (h.spots.below BL.out)
    have ED := Lib.hid (h.edges.below BL.out)
    have hW1' := Lib.hid hW1
    clear hW1
    clear h
    go_enter Tryz.func9, Tryz.ntmps9
    have k1 := Z.out.cell 0
    have k2 := Z.out.cell 1
    have k3 := Z.out.cell 2
    have k4 := Z.out.cell 3
    have q := Lib.hid (q1.out W1)
    go_wp2_with fail
    rw [← hW1'.out]
    with_reducible refine q.out.mono ?_
    rintro e u1 ⟨rfl, b1⟩
    clear k1 k2 k3 k4
    clear hW1'
    clear q
    have k5 : u1.cell? ⟨w.heap.size, 0, none⟩ = some (.string p.nm) := (Z.out.below b1 Z.out.lt).cell 0
    have k6 : u1.cell? ⟨w.heap.size, 1, none⟩ = some (.slice p.a1 p.n1 p.c1) := (Z.out.below b1 Z.out.lt).cell 1
    have k7 : u1.cell? ⟨w.heap.size, 2, none⟩ = some (.slice p.a2 p.n2 p.c2) := (Z.out.below b1 Z.out.lt).cell 2
    have k8 : u1.cell? ⟨w.heap.size, 3, none⟩ = some (.slice p.a3 p.n3 p.c3) := (Z.out.below b1 Z.out.lt).cell 3
    replace Z := Lib.hid (Z.out.below b1 Z.out.lt)
    replace BL := Lib.hid (BL.out.trans (b1.mono BL.out.size))
    replace V := Lib.hid (V.out.below b1)
    replace SP := Lib.hid (SP.out.below b1)
    replace ED := Lib.hid (ED.out.below b1)
    clear b1
    have q := Lib.hid (q2.out u1 V.out)
    go_wp2_with fail
    with_reducible refine q.out.mono ?_
    rintro e u2 ⟨rfl, b2⟩
    clear k5 k6 k7 k8
    clear q
    have k9 : u2.cell? ⟨w.heap.size, 0, none⟩ = some (.string p.nm) := (Z.out.below b2 Z.out.lt).cell 0
    have k10 : u2.cell? ⟨w.heap.size, 1, none⟩ = some (.slice p.a1 p.n1 p.c1) := (Z.out.below b2 Z.out.lt).cell 1
    have k11 : u2.cell? ⟨w.heap.size, 2, none⟩ = some (.slice p.a2 p.n2 p.c2) := (Z.out.below b2 Z.out.lt).cell 2
    have k12 : u2.cell? ⟨w.heap.size, 3, none⟩ = some (.slice p.a3 p.n3 p.c3) := (Z.out.below b2 Z.out.lt).cell 3
    replace Z := Lib.hid (Z.out.below b2 Z.out.lt)
    replace BL := Lib.hid (BL.out.trans (b2.mono BL.out.size))
    replace V := Lib.hid (V.out.below b2)
    replace SP := Lib.hid (SP.out.below b2)
    replace ED := Lib.hid (ED.out.below b2)
    clear b2
    have q := Lib.hid (q3.out u2 SP.out)
    go_wp2_with fail
    with_reducible refine q.out.mono ?_
    rintro e u3 ⟨rfl, b3⟩
    clear k9 k10 k11 k12
    clear q
    have k13 : u3.cell? ⟨w.heap.size, 0, none⟩ = some (.string p.nm) := (Z.out.below b3 Z.out.lt).cell 0
    have k14 : u3.cell? ⟨w.heap.size, 1, none⟩ = some (.slice p.a1 p.n1 p.c1) := (Z.out.below b3 Z.out.lt).cell 1
    have k15 : u3.cell? ⟨w.heap.size, 2, none⟩ = some (.slice p.a2 p.n2 p.c2) := (Z.out.below b3 Z.out.lt).cell 2
    have k16 : u3.cell? ⟨w.heap.size, 3, none⟩ = some (.slice p.a3 p.n3 p.c3) := (Z.out.below b3 Z.out.lt).cell 3
    replace Z := Lib.hid (Z.out.below b3 Z.out.lt)
    replace BL := Lib.hid (BL.out.trans (b3.mono BL.out.size))
    replace V := Lib.hid (V.out.below b3)
    replace SP := Lib.hid (SP.out.below b3)
    replace ED := Lib.hid (ED.out.below b3)
    clear b3
    go_wp2
    go_ret
    exact ⟨ret_int hF.out.symm, BL.out⟩
  cases be
  · have hF : Hid (R = 110) := Lib.hid (by rw [hC.out, hR.out, decide_eq_true g1, decide_eq_true g2, decide_eq_true g3]; rfl)
    clear hR hC
    obtain ⟨W1, hW1⟩ : ∃ W1, W1 = w.alloc (.cells #[.string p.nm, .slice p.a1 p.n1 p.c1, .slice p.a2 p.n2 p.c2, .slice p.a3 p.n3 p.c3] 26) := ⟨_, rfl⟩
    have Z : Hid (Holds W1 (w.heap.size) 26 #[.string p.nm, .slice p.a1 p.n1 p.c1, .slice p.a2 p.n2 p.c2, .slice p.a3 p.n3 p.c3]) := Lib.hid (by rw [hW1]; exact Holds.new w _ _)
    have BL := Lib.hid (show Below w.heap.size w W1 by rw [hW1]; exact box_below _ _ _)
    have V := Lib.hid (h.vars.below BL.out)
    have SP := Lib.hid (h.spots.below BL.out)
    have ED := Lib.hid (h.edges.below BL.out)
    have hW1' := Lib.hid hW1
    clear hW1
    clear h
    go_enter Tryz.func9, Tryz.ntmps9
    have k1 := Z.out.cell 0
    have k2 := Z.out.cell 1
    have k3 := Z.out.cell 2
    have k4 := Z.out.cell 3
    have q := Lib.hid (q1.out W1)
    go_wp2_with fail
    rw [← hW1'.out]
    with_reducible refine q.out.mono ?_
    rintro e u1 ⟨rfl, b1⟩
    clear k1 k2 k3 k4
    clear hW1'
    clear q
    have k5 : u1.cell? ⟨w.heap.size, 0, none⟩ = some (.string p.nm) := (Z.out.below b1 Z.out.lt).cell 0
    have k6 : u1.cell? ⟨w.heap.size, 1, none⟩ = some (.slice p.a1 p.n1 p.c1) := (Z.out.below b1 Z.out.lt).cell 1
    have k7 : u1.cell? ⟨w.heap.size, 2, none⟩ = some (.slice p.a2 p.n2 p.c2) := (Z.out.below b1 Z.out.lt).cell 2
    have k8 : u1.cell? ⟨w.heap.size, 3, none⟩ = some (.slice p.a3 p.n3 p.c3) := (Z.out.below b1 Z.out.lt).cell 3
    replace Z := Lib.hid (Z.out.below b1 Z.out.lt)
    replace BL := Lib.hid (BL.out.trans (b1.mono BL.out.size))
    replace V := Lib.hid (V.out.below b1)
    replace SP := Lib.hid (SP.out.below b1)
    replace ED := Lib.hid (ED.out.below b1)
    clear b1
    have q := Lib.hid (q2.out u1 V.out)
    go_wp2_with fail
    with_reducible refine q.out.mono ?_
    rintro e u2 ⟨rfl, b2⟩
    clear k5 k6 k7 k8
    clear q
    have k9 : u2.cell? ⟨w.heap.size, 0, none⟩ = some (.string p.nm) := (Z.out.below b2 Z.out.lt).cell 0
    have k10 : u2.cell? ⟨w.heap.size, 1, none⟩ = some (.slice p.a1 p.n1 p.c1) := (Z.out.below b2 Z.out.lt).cell 1
    have k11 : u2.cell? ⟨w.heap.size, 2, none⟩ = some (.slice p.a2 p.n2 p.c2) := (Z.out.below b2 Z.out.lt).cell 2
    have k12 : u2.cell? ⟨w.heap.size, 3, none⟩ = some (.slice p.a3 p.n3 p.c3) := (Z.out.below b2 Z.out.lt).cell 3
    replace Z := Lib.hid (Z.out.below b2 Z.out.lt)
    replace BL := Lib.hid (BL.out.trans (b2.mono BL.out.size))
    replace V := Lib.hid (V.out.below b2)
    replace SP := Lib.hid (SP.out.below b2)
    replace ED := Lib.hid (ED.out.below b2)
    clear b2
    have q := Lib.hid (q3.out u2 SP.out)
    go_wp2_with fail
    with_reducible refine q.out.mono ?_
    rintro e u3 ⟨rfl, b3⟩
    clear k9 k10 k11 k12
    clear q
    have k13 : u3.cell? ⟨w.heap.size, 0, none⟩ = some (.string p.nm) := (Z.out.below b3 Z.out.lt).cell 0
    have k14 : u3.cell? ⟨w.heap.size, 1, none⟩ = some (.slice p.a1 p.n1 p.c1) := (Z.out.below b3 Z.out.lt).cell 1
    have k15 : u3.cell? ⟨w.heap.size, 2, none⟩ = some (.slice p.a2 p.n2 p.c2) := (Z.out.below b3 Z.out.lt).cell 2
    have k16 : u3.cell? ⟨w.heap.size, 3, none⟩ = some (.slice p.a3 p.n3 p.c3) := (Z.out.below b3 Z.out.lt).cell 3
    replace Z := Lib.hid (Z.out.below b3 Z.out.lt)
    replace BL := Lib.hid (BL.out.trans (b3.mono BL.out.size))
    replace V := Lib.hid (V.out.below b3)
    replace SP := Lib.hid (SP.out.below b3)
    replace ED := Lib.hid (ED.out.below b3)
    clear b3
    have q := Lib.hid (q4.out u3 ED.out Z.out)
    go_wp2_with fail
    with_reducible refine q.out.mono ?_
    rintro e u4 ⟨rfl, b4⟩
    clear k13 k14 k15 k16
    clear q
    replace Z := Lib.hid (Z.out.below b4 Z.out.lt)
    replace BL := Lib.hid (BL.out.trans (b4.mono BL.out.size))
    replace V := Lib.hid (V.out.below b4)
    replace SP := Lib.hid (SP.out.below b4)
    replace ED := Lib.hid (ED.out.below b4)
    clear b4
    go_wp2
    go_ret
    exact ⟨ret_int hF.out.symm, BL.out⟩
  have hF : Hid (R = 0) := Lib.hid (by rw [hC.out, hR.out, decide_eq_true g1, decide_eq_true g2, decide_eq_true g3]; rfl)
  clear hR hC
  obtain ⟨W1, hW1⟩ : ∃ W1, W1 = w.alloc (.cells #[.string p.nm, .slice p.a1 p.n1 p.c1, .slice p.a2 p.n2 p.c2, .slice p.a3 p.n3 p.c3] 26) := ⟨_, rfl⟩
  have Z : Hid (Holds W1 (w.heap.size) 26 #[.string p.nm, .slice p.a1 p.n1 p.c1, .slice p.a2 p.n2 p.c2, .slice p.a3 p.n3 p.c3]) := Lib.hid (by rw [hW1]; exact Holds.new w _ _)
  have BL := Lib.hid (show Below w.heap.size w W1 by rw [hW1]; exact box_below _ _ _)
  have V := Lib.hid (h.vars.below BL.out)
  have SP := Lib.hid (h.spots.below BL.out)
  have ED := Lib.hid (h.edges.below BL.out)
  have hW1' := Lib.hid hW1
  clear hW1
  clear h
  go_enter Tryz.func9, Tryz.ntmps9
  have k1 := Z.out.cell 0
  have k2 := Z.out.cell 1
  have k3 := Z.out.cell 2
  have k4 := Z.out.cell 3
  have q := Lib.hid (q1.out W1)
  go_wp2_with fail
  rw [← hW1'.out]
  with_reducible refine q.out.mono ?_
  rintro e u1 ⟨rfl, b1⟩
  clear k1 k2 k3 k4
  clear hW1'
  clear q
  have k5 : u1.cell? ⟨w.heap.size, 0, none⟩ = some (.string p.nm) := (Z.out.below b1 Z.out.lt).cell 0
  have k6 : u1.cell? ⟨w.heap.size, 1, none⟩ = some (.slice p.a1 p.n1 p.c1) := (Z.out.below b1 Z.out.lt).cell 1
  have k7 : u1.cell? ⟨w.heap.size, 2, none⟩ = some (.slice p.a2 p.n2 p.c2) := (Z.out.below b1 Z.out.lt).cell 2
  have k8 : u1.cell? ⟨w.heap.size, 3, none⟩ = some (.slice p.a3 p.n3 p.c3) := (Z.out.below b1 Z.out.lt).cell 3
  replace Z := Lib.hid (Z.out.below b1 Z.out.lt)
  replace BL := Lib.hid (BL.out.trans (b1.mono BL.out.size))
  replace V := Lib.hid (V.out.below b1)
  replace SP := Lib.hid (SP.out.below b1)
  replace ED := Lib.hid (ED.out.below b1)
  clear b1
  have q := Lib.hid (q2.out u1 V.out)
  go_wp2_with fail
  with_reducible refine q.out.mono ?_
  rintro e u2 ⟨rfl, b2⟩
  clear k5 k6 k7 k8
  clear q
  have k9 : u2.cell? ⟨w.heap.size, 0, none⟩ = some (.string p.nm) := (Z.out.below b2 Z.out.lt).cell 0
  have k10 : u2.cell? ⟨w.heap.size, 1, none⟩ = some (.slice p.a1 p.n1 p.c1) := (Z.out.below b2 Z.out.lt).cell 1
  have k11 : u2.cell? ⟨w.heap.size, 2, none⟩ = some (.slice p.a2 p.n2 p.c2) := (Z.out.below b2 Z.out.lt).cell 2
  have k12 : u2.cell? ⟨w.heap.size, 3, none⟩ = some (.slice p.a3 p.n3 p.c3) := (Z.out.below b2 Z.out.lt).cell 3
  replace Z := Lib.hid (Z.out.below b2 Z.out.lt)
  replace BL := Lib.hid (BL.out.trans (b2.mono BL.out.size))
  replace V := Lib.hid (V.out.below b2)
  replace SP := Lib.hid (SP.out.below b2)
  replace ED := Lib.hid (ED.out.below b2)
  clear b2
  have q := Lib.hid (q3.out u2 SP.out)
  go_wp2_with fail
  with_reducible refine q.out.mono ?_
  rintro e u3 ⟨rfl, b3⟩
  clear k9 k10 k11 k12
  clear q
  have k13 : u3.cell? ⟨w.heap.size, 0, none⟩ = some (.string p.nm) := (Z.out.below b3 Z.out.lt).cell 0
  have k14 : u3.cell? ⟨w.heap.size, 1, none⟩ = some (.slice p.a1 p.n1 p.c1) := (Z.out.below b3 Z.out.lt).cell 1
  have k15 : u3.cell? ⟨w.heap.size, 2, none⟩ = some (.slice p.a2 p.n2 p.c2) := (Z.out.below b3 Z.out.lt).cell 2
  have k16 : u3.cell? ⟨w.heap.size, 3, none⟩ = some (.slice p.a3 p.n3 p.c3) := (Z.out.below b3 Z.out.lt).cell 3
  replace Z := Lib.hid (Z.out.below b3 Z.out.lt)
  replace BL := Lib.hid (BL.out.trans (b3.mono BL.out.size))
  replace V := Lib.hid (V.out.below b3)
  replace SP := Lib.hid (SP.out.below b3)
  replace ED := Lib.hid (ED.out.below b3)
  clear b3
  have q := Lib.hid (q4.out u3 ED.out Z.out)
  go_wp2_with fail
  with_reducible refine q.out.mono ?_
  rintro e u4 ⟨rfl, b4⟩
  clear k13 k14 k15 k16
  clear q
  replace Z := Lib.hid (Z.out.below b4 Z.out.lt)
  replace BL := Lib.hid (BL.out.trans (b4.mono BL.out.size))
  replace V := Lib.hid (V.out.below b4)
  replace SP := Lib.hid (SP.out.below b4)
  replace ED := Lib.hid (ED.out.below b4)
  clear b4
  go_wp2
  go_ret
  exact ⟨ret_int hF.out.symm, BL.out⟩
end Go.Proofs.YtgeliikfgnkppaaGreatDoor
namespace Go.Proofs.YtgeliikfgnkppaaGreatDoor
set_option linter.unusedVariables false
set_option linter.unusedSimpArgs false
def okA (S : List Int) (i : Nat) : Prop := 0 ≤ S.getD i 0 ∧ S.getD i 0 ≤ (S.length : Int) - i ∧ ∀ k, k < i → (i : Int) - k < S.getD k 0 → S.getD i 0 ≤ S.getD k 0 - ((i : Int) - k)
def preA (S : List Int) (i : Nat) : Prop := ∀ j, j < i → okA S j
instance (S : List Int) (i : Nat) : Decidable (okA S i) := by unfold okA; infer_instance
instance (S : List Int) (i : Nat) : Decidable (preA S i) := by unfold preA; infer_instance
def onceP (P : List Int) (m : Nat) : Prop := ∀ i, i < m → 0 ≤ P.getD i 0 ∧ P.getD i 0 ≤ 127 ∧ ∀ k, k < i → P.getD k 0 ≠ P.getD i 0
instance (P : List Int) (m : Nat) : Decidable (onceP P m) := by unfold onceP; infer_instance
end Go.Proofs.YtgeliikfgnkppaaGreatDoor
namespace Go.Proofs.YtgeliikfgnkppaaGreatDoor
open Go.RowKit
set_option linter.unusedVariables false
set_option linter.unusedSimpArgs false
theorem infoInt : (Tryz.prog.info? 3).map (fun i => (i.zero, i.size, i.bytes)) = some (some (.int .i64 0), 1, 8) := by kernel_rfl
structure WA (w : World) (a1 : Option Addr) (n1 c1 : Nat) (P : List Int) (a2 : Option Addr) (n2 c2 : Nat) (S : List Int) : Prop where
  p : SL w a1 n1 c1 P
  s : SL w a2 n2 c2 S
theorem WA.below {w w' : World} {a1 a2 : Option Addr} {n1 c1 n2 c2 : Nat} {P S : List Int} (h : WA w a1 n1 c1 P a2 n2 c2 S) (hb : Below w.heap.size w w') : WA w' a1 n1 c1 P a2 n2 c2 S := ⟨h.p.below hb, h.s.below hb⟩
def sameW (P S P2 S2 : List Int) : Bool := decide (P = P2) && decide (S = S2)
set_option maxRecDepth 100000 in
set_option maxHeartbeats 2000000 in
theorem wrsame_any (a1 a2 a3 a4 : Option Addr) (P S P2 S2 : List Int) (n1 n2 n3 n4 c1 c2 c3 c4 : Nat) (w : World) (h1 : WA w a1 n1 c1 P a2 n2 c2 S) (h2 : WA w a3 n3 c3 P2 a4 n4 c4 S2) :
    Calls Tryz.prog 45 #[.agg #[.slice a1 n1 c1, .slice a2 n2 c2], .agg #[.slice a3 n3 c3, .slice a4 n4 c4]] w (Gives (.bool (sameW P S P2 S2)) w) := by
  obtain ⟨W1, hW1⟩ : ∃ W1, W1 = (w.alloc (.cells #[.slice a1 n1 c1, .slice a2 n2 c2] 70)).alloc (.cells #[.slice a3 n3 c3, .slice a4 n4 c4] 70) := ⟨_, rfl⟩
  have hB : Below w.heap.size w W1 := by rw [hW1]; exact box2_below _ _ _ _ _
  have g1 := Lib.hid (h1.below hB)
  have g2 := Lib.hid (h2.below hB)
  have z1 : Holds W1 w.heap.size 70 #[.slice a1 n1 c1, .slice a2 n2 c2] := by rw [hW1]; exact (Holds.new w _ _).alloc _
  have z2 : Holds W1 (w.heap.size + 1) 70 #[.slice a3 n3 c3, .slice a4 n4 c4] := by
    rw [hW1]
    have := Holds.new (w.alloc (.cells #[.slice a1 n1 c1, .slice a2 n2 c2] 70)) 70 #[.slice a3 n3 c3, .slice a4 n4 c4]
    simpa using this
  have k1 := z1.cell 0
  have k2 := z1.cell 1
  have k3 := z2.cell 0
  have k4 := z2.cell 1
  have l1 := Lib.hid h1.p.len
  have l2 := Lib.hid h1.s.len
  have l3 := Lib.hid h2.p.len
  have l4 := Lib.hid h2.s.len
  have b1 : (n1 : Int) ≤ 9223372036854775807 := by have := h1.p.max; omega
  have b2 : (n2 : Int) ≤ 9223372036854775807 := by have := h1.s.max; omega
  have hW1' := Lib.hid hW1
  have hB' := Lib.hid hB
  clear h1 h2 hB z1 z2
  by_cases hn : n1 = n3
  case neg =>
    have hr : sameW P S P2 S2 = false := by unfold sameW; rw [decide_eq_false (fun e => hn (by rw [l1.out, l3.out, e])), Bool.false_and]
    rw [hr]
    have hi2 : ((n1 : Int) != (n3 : Int)) = true := by simp; omega
    clear hr hn hW1 k1 k2 k3 k4
    go_enter Tryz.func45, Tryz.ntmps45
    go_wp2
    go_ret
    rw [← hW1'.out]
    exact ⟨rfl, hB'.out⟩
  subst hn
  by_cases hm : n2 = n4
  case neg =>
    have hr : sameW P S P2 S2 = false := by unfold sameW; rw [decide_eq_false (fun e => hm (by rw [l2.out, l4.out, e]) : ¬ S = S2), Bool.and_false]
    rw [hr]
    have hi2 : ((n2 : Int) != (n4 : Int)) = true := by simp; omega
    clear hr hm hW1 k1 k2 k3 k4
    go_enter Tryz.func45, Tryz.ntmps45
    go_wp2
    go_ret
    rw [← hW1'.out]
    exact ⟨rfl, hB'.out⟩
  subst hm
  go_enter Tryz.func45, Tryz.ntmps45
  go_wp2
  rw [← hW1]
  clear hW1
  go_loopw [5] (fun x wr => ∃ k m : Nat, k ≤ n1 ∧ x = .int .i64 k ∧ Hid (∀ j, j < k → P.getD j 0 = P2.getD j 0) ∧ wr = W1.drewN m) (fun x _ => n1 - (intOf x).toNat)
  case atStart => exact ⟨0, 0, Nat.zero_le _, rfl, Lib.hid (by intro j hj; omega), rfl⟩
  case round =>
    obtain ⟨k, m, hk, rfl, he, rfl⟩ := hrel
    by_cases hlt : k < n1
    · obtain ⟨b1, o1, rfl, -, e1⟩ := sees_num g1.out.p.sees (i := k) (by rw [← l1.out]; exact hlt)
      obtain ⟨b2, o2, rfl, -, e2⟩ := sees_num g2.out.p.sees (i := k) (by rw [← l3.out]; exact hlt)
      have hki : (k : Int) < (n1 : Int) := by omega
      have hyes : Hid (P.getD k 0 = P2.getD k 0 → ∀ j, j < k + 1 → P.getD j 0 = P2.getD j 0) := Lib.hid (fun hx j hj => by
        by_cases e : j = k
        · subst e; exact hx
        · exact he.out j (by omega))
      have hno : Hid (P.getD k 0 ≠ P2.getD k 0 → sameW P S P2 S2 = false) := Lib.hid (fun hx => by unfold sameW; rw [decide_eq_false (fun e => hx (by rw [e])), Bool.false_and])
      clear he
      generalize P.getD k 0 = x at *
      generalize P2.getD k 0 = y at *
      by_cases hxy : x = y
      · subst hxy
        have hy2 := Lib.hid (hyes.out rfl)
        clear hyes hno
        go_wp2
        go_quiet (fail)
        go_wp2
        go_roundw
        case rel => exact ⟨k + 1, m + nq, by omega, by go_num, hy2, by simp [World.drewN, Nat.add_assoc]⟩
        case measure => simp [intOf]; omega
      · have hr := Lib.hid (hno.out hxy)
        have hxy2 : (x == y) = false := by simpa using hxy
        have hxy3 : (x != y) = true := by simpa using hxy
        clear hyes hno
        go_wp2
        go_quiet (fail)
        go_wp2
        go_ret
        exact ⟨by rw [hr.out]; rfl, Below.drewN (Below.drewN hB'.out m) nq⟩
    · have hP : Hid (P = P2) := Lib.hid (by
        have q1 := l1.out
        have q2 := l3.out
        apply List.ext_getElem (by omega)
        intro j g1 g2
        have := he.out j (by omega)
        simpa [List.getD, g1, g2] using this)
      clear he
      go_wp2
      obtain ⟨wo, hwo⟩ : ∃ wo, wo = W1.drewN m := ⟨_, rfl⟩
      rw [← hwo]
      have hwB : Hid (Below w.heap.size w wo) := Lib.hid (by rw [hwo]; exact Below.drewN hB'.out m)
      have k1 : wo.cell? ⟨w.heap.size, 0, none⟩ = some (.slice a1 n1 c1) := by rw [hwo]; exact k1
      have k2 : wo.cell? ⟨w.heap.size, 1, none⟩ = some (.slice a2 n2 c2) := by rw [hwo]; exact k2
      have k3 : wo.cell? ⟨w.heap.size + 1, 0, none⟩ = some (.slice a3 n1 c3) := by rw [hwo]; exact k3
      have k4 : wo.cell? ⟨w.heap.size + 1, 1, none⟩ = some (.slice a4 n2 c4) := by rw [hwo]; exact k4
      have s2 : Hid (Sees .i64 W1.heap.size wo a2 S) := Lib.hid (by rw [hwo]; exact g1.out.s.sees)
      have s4 : Hid (Sees .i64 W1.heap.size wo a4 S2) := Lib.hid (by rw [hwo]; exact g2.out.s.sees)
      clear hwo
      go_loopw [6] (fun x wr => ∃ k m : Nat, k ≤ n2 ∧ x = .int .i64 k ∧ Hid (∀ j, j < k → S.getD j 0 = S2.getD j 0) ∧ wr = wo.drewN m) (fun x _ => n2 - (intOf x).toNat)
      case atStart => exact ⟨0, 0, Nat.zero_le _, rfl, Lib.hid (by intro j hj; omega), rfl⟩
      case round =>
        obtain ⟨k, m, hk, rfl, he, rfl⟩ := hrel
        by_cases hlt : k < n2
        · obtain ⟨b1, o1, rfl, -, e1⟩ := sees_num s2.out (i := k) (by rw [← l2.out]; exact hlt)
          obtain ⟨b2, o2, rfl, -, e2⟩ := sees_num s4.out (i := k) (by rw [← l4.out]; exact hlt)
          have hki : (k : Int) < (n2 : Int) := by omega
          have hyes : Hid (S.getD k 0 = S2.getD k 0 → ∀ j, j < k + 1 → S.getD j 0 = S2.getD j 0) := Lib.hid (fun hx j hj => by
            by_cases e : j = k
            · subst e; exact hx
            · exact he.out j (by omega))
          have hno : Hid (S.getD k 0 ≠ S2.getD k 0 → sameW P S P2 S2 = false) := Lib.hid (fun hx => by unfold sameW; rw [decide_eq_false (fun e => hx (by rw [e]) : ¬ S = S2), Bool.and_false])
          clear he
          generalize S.getD k 0 = x at *
          generalize S2.getD k 0 = y at *
          by_cases hxy : x = y
          · subst hxy
            have hy2 := Lib.hid (hyes.out rfl)
            clear hyes hno
            go_wp2
            go_quiet (fail)
            go_wp2
            go_roundw
            case rel => exact ⟨k + 1, m + nq, by omega, by go_num, hy2, by simp [World.drewN, Nat.add_assoc]⟩
            case measure => simp [intOf]; omega
          · have hr := Lib.hid (hno.out hxy)
            have hxy2 : (x == y) = false := by simpa using hxy
            have hxy3 : (x != y) = true := by simpa using hxy
            clear hyes hno
            go_wp2
            go_quiet (fail)
            go_wp2
            go_ret
            exact ⟨by rw [hr.out]; rfl, Below.drewN (Below.drewN hwB.out m) nq⟩
        · have hS : Hid (sameW P S P2 S2 = true) := Lib.hid (by
            have q1 := l2.out
            have q2 := l4.out
            have : S = S2 := by
              apply List.ext_getElem (by omega)
              intro j g1 g2
              have := he.out j (by omega)
              simpa [List.getD, g1, g2] using this
            unfold sameW
            rw [decide_eq_true hP.out, decide_eq_true this, Bool.true_and])
          clear he
          go_wp2
          go_ret
          exact ⟨by rw [hS.out]; rfl, Below.drewN hwB.out m⟩
end Go.Proofs.YtgeliikfgnkppaaGreatDoor
namespace Go.Proofs.YtgeliikfgnkppaaGreatDoor
open Go.RowKit
set_option linter.unusedVariables false
set_option linter.unusedSimpArgs false
theorem infoIntP : ∃ i, Tryz.prog.info? 3 = some i ∧ i.zero = some (.int .i64 0) ∧ i.size = 1 ∧ i.bytes = 8 := by
  have h := infoInt
  cases hi : Tryz.prog.info? 3 with
  | none => rw [hi] at h; simp at h
  | some i => rw [hi] at h; simp at h; exact ⟨i, rfl, h.1, h.2.1, h.2.2⟩
def SlP (l : List Int) (w : World) (e : Ending) (w' : World) : Prop := ∃ a n c, e = .returned (.slice a n c) ∧ SL w' a n c l ∧ Below w.heap.size w w'
theorem slp_own {w w' : World} {v : Value} {l : List Int} (h : w'.ownsRow w.heap.size 3 1 v l.length (nums .i64 l)) (hl : l.length ≤ 1000) (hb : Below w.heap.size w w') : SlP l w (.returned v) w' := by
  obtain ⟨a, c, rfl, _, hs⟩ := sees_own h
  exact ⟨a, _, c, rfl, ⟨rfl, own_cap h, by omega, hs⟩, hb⟩
def outQ (pt : Int) (e : EdgeD) : Bool := decide (e.frm = pt)
def intoQ (pt : Int) (e : EdgeD) : Bool := decide (e.dst = pt)
def selL (q : EdgeD → Bool) (l : List EdgeD) (m : Nat) : List Int := ((List.range m).filter fun k => q (l.getD k edge0)).map fun k : Nat => (k : Int)
theorem sel_yes {q : EdgeD → Bool} {l : List EdgeD} {m : Nat} (h : q (l.getD m edge0) = true) : selL q l (m + 1) = selL q l m ++ [(m : Int)] := by
  unfold selL; rw [List.range_succ, List.filter_append, show [m].filter (fun k => q (l.getD k edge0)) = [m] from List.filter_cons_of_pos h, List.map_append]; rfl
theorem sel_no {q : EdgeD → Bool} {l : List EdgeD} {m : Nat} (h : q (l.getD m edge0) = false) : selL q l (m + 1) = selL q l m := by
  unfold selL; rw [List.range_succ, List.filter_append, show [m].filter (fun k => q (l.getD k edge0)) = [] from List.filter_cons_of_neg (by rw [h]; simp), List.append_nil]
theorem sel_len (q : EdgeD → Bool) (l : List EdgeD) (m : Nat) : (selL q l m).length ≤ m := by
  unfold selL; rw [List.length_map]; exact Nat.le_trans (List.length_filter_le _ _) (by simp)
def selP (q : EdgeD → Bool) (D : PD) : List Int := if progB D = true then selL q D.edges D.edges.length else []
theorem pchk_ok {D : PD} (h : progB D = true) : chkP D = 0 := by unfold chkP; rw [if_pos h]
theorem pchk_bad {D : PD} (h : progB D = false) : chkP D = 110 := by unfold chkP; rw [h]; rfl
theorem prog_sizes {D : PD} (h : progB D = true) : 1 ≤ D.spots.length ∧ D.spots.length ≤ 128 ∧ D.edges.length ≤ 256 := by
  unfold progB at h
  simp only [Bool.and_eq_true, decide_eq_true_eq] at h
  exact ⟨h.1.1, h.1.2.1, h.1.2.2⟩
theorem prog_edge {D : PD} (h : progB D = true) {i : Nat} (hi : i < D.edges.length) : edgeB D.spots.length D.vars.length (D.edges.getD i edge0) = true := by
  unfold progB at h
  simp only [Bool.and_eq_true] at h
  have h2 := List.all_eq_true.1 h.2.2.2.2 (D.edges.getD i edge0) (by simp [List.getD, hi])
  exact h2
theorem edge_ends {n m : Nat} {e : EdgeD} (h : edgeB n m e = true) : 0 ≤ e.frm ∧ e.frm < n ∧ 0 ≤ e.dst ∧ e.dst < n := by
  unfold edgeB pointB at h
  simp only [Bool.and_eq_true, decide_eq_true_eq] at h
  exact ⟨h.1.1, h.1.2, h.2.1.1, h.2.1.2⟩
set_option maxRecDepth 100000 in
theorem askOut_any (g : Nat) (pt fr ds ek ex ey ec ed : Int) (w : World) (h : Holds w g 3 #[.int .i64 pt]) : Calls Tryz.prog 42 #[.agg #[.int .i64 fr, .int .i64 ds, .int .i64 ek, .int .i64 ex, .int .i64 ey, .int .i64 ec, .int .i64 ed], .pointer (some ⟨g, 0, none⟩)] w (Gives (.bool (outQ pt (⟨fr, ds, ek, ex, ey, ec, ed⟩ : EdgeD))) w) := by
  have hR : Hid (((fr : Int) == pt) = outQ pt (⟨fr, ds, ek, ex, ey, ec, ed⟩ : EdgeD)) := Lib.hid (by unfold outQ; rw [Bool.eq_iff_iff]; simp)
  have hB := Lib.hid (box_below w #[.int .i64 fr, .int .i64 ds, .int .i64 ek, .int .i64 ex, .int .i64 ey, .int .i64 ec, .int .i64 ed] 52)
  have hg := h.lt
  have g0 := h.cell 0
  clear h
  generalize outQ pt (⟨fr, ds, ek, ex, ey, ec, ed⟩ : EdgeD) = R at *
  go_enter Tryz.func42, Tryz.ntmps42
  go_wp2
  go_ret
  exact ⟨ret_bool hR.out, hB.out⟩
set_option maxRecDepth 100000 in
set_option maxHeartbeats 4000000 in
theorem edgesOut_any (p : PV) (D : PD) (g : Nat) (pt : Int) (w : World) (h : PrA w p D) (hz : Holds w g 3 #[.int .i64 pt]) : Calls Tryz.prog 41 #[.agg #[.string p.nm, .slice p.a1 p.n1 p.c1, .slice p.a2 p.n2 p.c2, .slice p.a3 p.n3 p.c3], .func (.func 42) #[] #[.pointer (some ⟨g, 0, none⟩)]] w (SlP (selP (outQ pt) D) w) := by
  obtain ⟨i0, hi, hz0, hz1, hz2⟩ := infoIntP
  have qc := Lib.hid (fun W hW => pcheck_any p D W hW)
  obtain ⟨W1, hW1⟩ : ∃ W1, W1 = w.alloc (.cells #[.string p.nm, .slice p.a1 p.n1 p.c1, .slice p.a2 p.n2 p.c2, .slice p.a3 p.n3 p.c3] 26) := ⟨_, rfl⟩
  have Z : Hid (Holds W1 w.heap.size 26 #[.string p.nm, .slice p.a1 p.n1 p.c1, .slice p.a2 p.n2 p.c2, .slice p.a3 p.n3 p.c3]) := Lib.hid (by rw [hW1]; exact Holds.new w _ _)
  have BL := Lib.hid (show Below w.heap.size w W1 by rw [hW1]; exact box_below _ _ _)
  have A := Lib.hid (h.below BL.out)
  have G := Lib.hid (hz.below BL.out hz.lt)
  have hW1' := Lib.hid hW1
  have k0 := Z.out.cell 0
  have k1 := Z.out.cell 1
  have k2 := Z.out.cell 2
  have k3 := Z.out.cell 3
  have hz3 := Lib.hid h.edges.len
  clear h hz hW1
  cases hp : progB D
  · have hs : Hid (selP (outQ pt) D = []) := Lib.hid (by unfold selP; rw [hp]; rfl)
    rw [pchk_bad hp] at qc
    clear hp
    generalize selP (outQ pt) D = R at *
    go_enter Tryz.func41, Tryz.ntmps41
    go_wp2_with fail
    rw [← hW1'.out]
    with_reducible refine (qc.out W1 A.out).mono ?_
    rintro e u1 ⟨rfl, b1⟩
    clear k0 k1 k2 k3
    go_wp2
    go_ret
    exact ⟨none, 0, 0, rfl, by rw [hs.out]; exact SL.nil _, BL.out.trans (b1.mono BL.out.size)⟩
  · have hs : Hid (selP (outQ pt) D = selL (outQ pt) D.edges D.edges.length) := Lib.hid (by unfold selP; rw [hp]; rfl)
    rw [pchk_ok hp] at qc
    have hn3 : p.n3 ≤ 256 := by rw [hz3.out]; exact (prog_sizes hp).2.2
    have hy := Lib.hid (fun k h => sel_yes (q := outQ pt) (l := D.edges) (m := k) h)
    have hn := Lib.hid (fun k h => sel_no (q := outQ pt) (l := D.edges) (m := k) h)
    have hle := Lib.hid (fun k => sel_len (outQ pt) D.edges k)
    clear hp
    generalize selP (outQ pt) D = R at *
    go_enter Tryz.func41, Tryz.ntmps41
    go_wp2_with fail
    rw [← hW1'.out]
    with_reducible refine (qc.out W1 A.out).mono ?_
    rintro e u1 ⟨rfl, b1⟩
    clear k0 k1 k2 k3 qc hW1'
    replace Z := Lib.hid (Z.out.below b1 Z.out.lt)
    replace G := Lib.hid (G.out.below b1 G.out.lt)
    replace A := Lib.hid (A.out.below b1)
    replace BL := Lib.hid (BL.out.trans (b1.mono BL.out.size))
    clear b1
    have k3 := Z.out.cell 3
    go_wp2
    clear k3
    go_loopw [5, 14] (fun v x wr => ∃ k : Nat, k ≤ p.n3 ∧ x = .int .i64 k ∧ Hid (wr.ownsRow u1.heap.size 3 1 v (selL (outQ pt) D.edges k).length (nums .i64 (selL (outQ pt) D.edges k))) ∧ Hid (Below u1.heap.size u1 wr)) (fun _ x _ => p.n3 - (intOf x).toNat)
    case atStart => exact ⟨0, Nat.zero_le _, rfl, Lib.hid (World.ownsRow_nil _ _ _ _), Lib.hid (Below.refl _ _)⟩
    case round =>
      obtain ⟨k, hk, rfl, hown, hB⟩ := hrel
      by_cases hlt : k < p.n3
      · have hki : (k : Int) < (p.n3 : Int) := by omega
        obtain ⟨b, off, ha, hbl, x0, x1, x2, x3, x4, x5, x6⟩ := edges_at (A.out.edges.below hB.out) hlt
        have hy' := Lib.hid (hy.out k)
        have hn' := Lib.hid (hn.out k)
        have hl := hle.out k
        obtain ⟨fr, ds, ek, ex, ey, ec, ed, hs2⟩ : ∃ fr ds ek ex ey ec ed, D.edges.getD k edge0 = (⟨fr, ds, ek, ex, ey, ec, ed⟩ : EdgeD) := ⟨_, _, _, _, _, _, _, rfl⟩
        rw [hs2] at x0 x1 x2 x3 x4 x5 x6 hy' hn'
        dsimp only at x0 x1 x2 x3 x4 x5 x6
        have hBe := Lib.hid (box_below wr #[.int .i64 fr, .int .i64 ds, .int .i64 ek, .int .i64 ex, .int .i64 ey, .int .i64 ec, .int .i64 ed] 52)
        have q1 := Lib.hid (askOut_any g pt fr ds ek ex ey ec ed _ ((G.out.below hB.out G.out.lt).below hBe.out (by have := G.out.lt; have := hB.out.size; omega)))
        have hB0 := Lib.hid (BL.out.trans (hB.out.mono BL.out.size))
        have hown0 := Lib.hid (own_below hown.out hBe.out)
        have hB1 := Lib.hid (hB.out.trans (hBe.out.mono hB.out.size))
        clear hs2
        cases hq : outQ pt (⟨fr, ds, ek, ex, ey, ec, ed⟩ : EdgeD)
        · have hs3 := Lib.hid (hn'.out hq)
          rw [hq] at q1
          clear hq hy' hn'
          go_wp2_with fail
          refine q1.out.mono ?_
          rintro e w1 ⟨rfl, b1⟩
          have hB2 := Lib.hid (hB1.out.trans (b1.mono hB1.out.size))
          have hown2 := Lib.hid (own_below hown0.out b1)
          rw [← hs3.out] at hown2
          clear x0 x1 x2 x3 x4 x5 x6 ha b1
          go_wp2
          go_roundw
          case rel => exact ⟨k + 1, by omega, by go_num, hown2, hB2⟩
          case measure => simp [intOf]; omega
        · have hs3 := Lib.hid (hy'.out hq)
          rw [hq] at q1
          clear hq hy' hn'
          go_wp2_with fail
          refine q1.out.mono ?_
          rintro e w1 ⟨rfl, b1⟩
          have hB2 := Lib.hid (hB1.out.trans (b1.mono hB1.out.size))
          have hB3 := Lib.hid (BL.out.trans (hB2.out.mono BL.out.size))
          have hown2 := Lib.hid (own_below hown0.out b1)
          have hsz := hB2.out.size
          clear x0 x1 x2 x3 x4 x5 x6 ha b1
          go_wp2_with (at_builtin; refine wpList_append1 _ rfl _ _ 32 rfl u1 3 i0 (.int .i64 0) 8 Tryz.underlying32 hi hz0 hz1 hz2 rfl .i64 (k : Int) _ _ hown2.out hB2.out rfl rfl (by omega) (by omega) ?_; intro v' w' hown4 hb4; have hown4' := Lib.hid hown4; have hb4' := Lib.hid hb4; clear hown4 hb4)
          rw [← hs3.out] at hown4'
          go_roundw
          case rel => exact ⟨k + 1, by omega, by go_num, hown4', hb4'⟩
          case measure => simp [intOf]; omega
      · have hki : ¬ (k : Int) < (p.n3 : Int) := by omega
        have hke : k = D.edges.length := by have := hz3.out; omega
        rw [hke] at hown
        rw [← hs.out] at hown
        have hfin := Lib.hid (slp_own (own_from hown.out (fun b hb => by have := (hown.out.lt b hb).1; have := BL.out.size; omega)) (by rw [hs.out]; have := hle.out D.edges.length; omega) (BL.out.trans (hB.out.mono BL.out.size)))
        clear hke
        go_wp2
        go_ret
        exact hfin.out
set_option maxRecDepth 100000 in
set_option maxHeartbeats 1000000 in
theorem pOut_any (p : PV) (D : PD) (pt : Int) (w : World) (h : PrA w p D) : Calls Tryz.prog 13 #[.agg #[.string p.nm, .slice p.a1 p.n1 p.c1, .slice p.a2 p.n2 p.c2, .slice p.a3 p.n3 p.c3], .int .i64 pt] w (SlP (selP (outQ pt) D) w) := by
  have hmf : ∀ (fn : Fn) (first cap : Array Value) (w : World), (Instr.makeFunc fn first cap).run Tryz.prog w = .ok (.func fn first cap) w := fun _ _ _ _ => rfl
  obtain ⟨W1, hW1⟩ : ∃ W1, W1 = (w.alloc (.cells #[.string p.nm, .slice p.a1 p.n1 p.c1, .slice p.a2 p.n2 p.c2, .slice p.a3 p.n3 p.c3] 26)).alloc (.cells #[.int .i64 pt] 3) := ⟨_, rfl⟩
  have Z : Holds W1 w.heap.size 26 #[.string p.nm, .slice p.a1 p.n1 p.c1, .slice p.a2 p.n2 p.c2, .slice p.a3 p.n3 p.c3] := by rw [hW1]; exact (Holds.new w _ _).alloc _
  have G : Holds W1 (w.heap.size + 1) 3 #[.int .i64 pt] := by
    rw [hW1]
    have := Holds.new (w.alloc (.cells #[.string p.nm, .slice p.a1 p.n1 p.c1, .slice p.a2 p.n2 p.c2, .slice p.a3 p.n3 p.c3] 26)) 3 #[.int .i64 pt]
    simpa using this
  have BL := Lib.hid (show Below w.heap.size w W1 by rw [hW1]; exact box2_below _ _ _ _ _)
  have q := Lib.hid (edgesOut_any p D (w.heap.size + 1) pt W1 (h.below BL.out) G)
  have hW1' := Lib.hid hW1
  have k0 := Z.cell 0
  have k1 := Z.cell 1
  have k2 := Z.cell 2
  have k3 := Z.cell 3
  clear h hW1 Z G
  generalize selP (outQ pt) D = R at *
  go_enter Tryz.func13, Tryz.ntmps13
  go_wp2_with fail
  rw [← hW1'.out]
  refine q.out.mono ?_
  rintro e u1 ⟨a, n, c, rfl, hs, b1⟩
  have hs' := Lib.hid hs
  have hb := Lib.hid (BL.out.trans (b1.mono BL.out.size))
  clear hs b1
  go_wp2
  go_ret
  exact ⟨a, n, c, rfl, hs'.out, hb.out⟩
set_option maxRecDepth 100000 in
theorem askInto_any (g : Nat) (pt fr ds ek ex ey ec ed : Int) (w : World) (h : Holds w g 3 #[.int .i64 pt]) : Calls Tryz.prog 43 #[.agg #[.int .i64 fr, .int .i64 ds, .int .i64 ek, .int .i64 ex, .int .i64 ey, .int .i64 ec, .int .i64 ed], .pointer (some ⟨g, 0, none⟩)] w (Gives (.bool (intoQ pt (⟨fr, ds, ek, ex, ey, ec, ed⟩ : EdgeD))) w) := by
  have hR : Hid (((ds : Int) == pt) = intoQ pt (⟨fr, ds, ek, ex, ey, ec, ed⟩ : EdgeD)) := Lib.hid (by unfold intoQ; rw [Bool.eq_iff_iff]; simp)
  have hB := Lib.hid (box_below w #[.int .i64 fr, .int .i64 ds, .int .i64 ek, .int .i64 ex, .int .i64 ey, .int .i64 ec, .int .i64 ed] 52)
  have hg := h.lt
  have g0 := h.cell 0
  clear h
  generalize intoQ pt (⟨fr, ds, ek, ex, ey, ec, ed⟩ : EdgeD) = R at *
  go_enter Tryz.func43, Tryz.ntmps43
  go_wp2
  go_ret
  exact ⟨ret_bool hR.out, hB.out⟩
set_option maxRecDepth 100000 in
set_option maxHeartbeats 4000000 in
theorem edgesInto_any (p : PV) (D : PD) (g : Nat) (pt : Int) (w : World) (h : PrA w p D) (hz : Holds w g 3 #[.int .i64 pt]) : Calls Tryz.prog 41 #[.agg #[.string p.nm, .slice p.a1 p.n1 p.c1, .slice p.a2 p.n2 p.c2, .slice p.a3 p.n3 p.c3], .func (.func 43) #[] #[.pointer (some ⟨g, 0, none⟩)]] w (SlP (selP (intoQ pt) D) w) := by
  obtain ⟨i0, hi, hz0, hz1, hz2⟩ := infoIntP
  have qc := Lib.hid (fun W hW => pcheck_any p D W hW)
  obtain ⟨W1, hW1⟩ : ∃ W1, W1 = w.alloc (.cells #[.string p.nm, .slice p.a1 p.n1 p.c1, .slice p.a2 p.n2 p.c2, .slice p.a3 p.n3 p.c3] 26) := ⟨_, rfl⟩
  have Z : Hid (Holds W1 w.heap.size 26 #[.string p.nm, .slice p.a1 p.n1 p.c1, .slice p.a2 p.n2 p.c2, .slice p.a3 p.n3 p.c3]) := Lib.hid (by rw [hW1]; exact Holds.new w _ _)
  have BL := Lib.hid (show Below w.heap.size w W1 by rw [hW1]; exact box_below _ _ _)
  have A := Lib.hid (h.below BL.out)
  have G := Lib.hid (hz.below BL.out hz.lt)
  have hW1' := Lib.hid hW1
  have k0 := Z.out.cell 0
  have k1 := Z.out.cell 1
  have k2 := Z.out.cell 2
  have k3 := Z.out.cell 3
  have hz3 := Lib.hid h.edges.len
  clear h hz hW1
  cases hp : progB D
  · have hs : Hid (selP (intoQ pt) D = []) := Lib.hid (by unfold selP; rw [hp]; rfl)
    rw [pchk_bad hp] at qc
    clear hp
    generalize selP (intoQ pt) D = R at *
    go_enter Tryz.func41, Tryz.ntmps41
    go_wp2_with fail
    rw [← hW1'.out]
    with_reducible refine (qc.out W1 A.out).mono ?_
    rintro e u1 ⟨rfl, b1⟩
    clear k0 k1 k2 k3
    go_wp2
    go_ret
    exact ⟨none, 0, 0, rfl, by rw [hs.out]; exact SL.nil _, BL.out.trans (b1.mono BL.out.size)⟩
  · have hs : Hid (selP (intoQ pt) D = selL (intoQ pt) D.edges D.edges.length) := Lib.hid (by unfold selP; rw [hp]; rfl)
    rw [pchk_ok hp] at qc
    have hn3 : p.n3 ≤ 256 := by rw [hz3.out]; exact (prog_sizes hp).2.2
    have hy := Lib.hid (fun k h => sel_yes (q := intoQ pt) (l := D.edges) (m := k) h)
    have hn := Lib.hid (fun k h => sel_no (q := intoQ pt) (l := D.edges) (m := k) h)
    have hle := Lib.hid (fun k => sel_len (intoQ pt) D.edges k)
    clear hp
    generalize selP (intoQ pt) D = R at *
    go_enter Tryz.func41, Tryz.ntmps41
    go_wp2_with fail
    rw [← hW1'.out]
    with_reducible refine (qc.out W1 A.out).mono ?_
    rintro e u1 ⟨rfl, b1⟩
    clear k0 k1 k2 k3 qc hW1'
    replace Z := Lib.hid (Z.out.below b1 Z.out.lt)
    replace G := Lib.hid (G.out.below b1 G.out.lt)
    replace A := Lib.hid (A.out.below b1)
    replace BL := Lib.hid (BL.out.trans (b1.mono BL.out.size))
    clear b1
    have k3 := Z.out.cell 3
    go_wp2
    clear k3
    go_loopw [5, 14] (fun v x wr => ∃ k : Nat, k ≤ p.n3 ∧ x = .int .i64 k ∧ Hid (wr.ownsRow u1.heap.size 3 1 v (selL (intoQ pt) D.edges k).length (nums .i64 (selL (intoQ pt) D.edges k))) ∧ Hid (Below u1.heap.size u1 wr)) (fun _ x _ => p.n3 - (intOf x).toNat)
    case atStart => exact ⟨0, Nat.zero_le _, rfl, Lib.hid (World.ownsRow_nil _ _ _ _), Lib.hid (Below.refl _ _)⟩
    case round =>
      obtain ⟨k, hk, rfl, hown, hB⟩ := hrel
      by_cases hlt : k < p.n3
      · have hki : (k : Int) < (p.n3 : Int) := by omega
        obtain ⟨b, off, ha, hbl, x0, x1, x2, x3, x4, x5, x6⟩ := edges_at (A.out.edges.below hB.out) hlt
        have hy' := Lib.hid (hy.out k)
        have hn' := Lib.hid (hn.out k)
        have hl := hle.out k
        obtain ⟨fr, ds, ek, ex, ey, ec, ed, hs2⟩ : ∃ fr ds ek ex ey ec ed, D.edges.getD k edge0 = (⟨fr, ds, ek, ex, ey, ec, ed⟩ : EdgeD) := ⟨_, _, _, _, _, _, _, rfl⟩
        rw [hs2] at x0 x1 x2 x3 x4 x5 x6 hy' hn'
        dsimp only at x0 x1 x2 x3 x4 x5 x6
        have hBe := Lib.hid (box_below wr #[.int .i64 fr, .int .i64 ds, .int .i64 ek, .int .i64 ex, .int .i64 ey, .int .i64 ec, .int .i64 ed] 52)
        have q1 := Lib.hid (askInto_any g pt fr ds ek ex ey ec ed _ ((G.out.below hB.out G.out.lt).below hBe.out (by have := G.out.lt; have := hB.out.size; omega)))
        have hB0 := Lib.hid (BL.out.trans (hB.out.mono BL.out.size))
        have hown0 := Lib.hid (own_below hown.out hBe.out)
        have hB1 := Lib.hid (hB.out.trans (hBe.out.mono hB.out.size))
        clear hs2
        cases hq : intoQ pt (⟨fr, ds, ek, ex, ey, ec, ed⟩ : EdgeD)
        · have hs3 := Lib.hid (hn'.out hq)
          rw [hq] at q1
          clear hq hy' hn'
          go_wp2_with fail
          refine q1.out.mono ?_
          rintro e w1 ⟨rfl, b1⟩
          have hB2 := Lib.hid (hB1.out.trans (b1.mono hB1.out.size))
          have hown2 := Lib.hid (own_below hown0.out b1)
          rw [← hs3.out] at hown2
          clear x0 x1 x2 x3 x4 x5 x6 ha b1
          go_wp2
          go_roundw
          case rel => exact ⟨k + 1, by omega, by go_num, hown2, hB2⟩
          case measure => simp [intOf]; omega
        · have hs3 := Lib.hid (hy'.out hq)
          rw [hq] at q1
          clear hq hy' hn'
          go_wp2_with fail
          refine q1.out.mono ?_
          rintro e w1 ⟨rfl, b1⟩
          have hB2 := Lib.hid (hB1.out.trans (b1.mono hB1.out.size))
          have hB3 := Lib.hid (BL.out.trans (hB2.out.mono BL.out.size))
          have hown2 := Lib.hid (own_below hown0.out b1)
          have hsz := hB2.out.size
          clear x0 x1 x2 x3 x4 x5 x6 ha b1
          go_wp2_with (at_builtin; refine wpList_append1 _ rfl _ _ 32 rfl u1 3 i0 (.int .i64 0) 8 Tryz.underlying32 hi hz0 hz1 hz2 rfl .i64 (k : Int) _ _ hown2.out hB2.out rfl rfl (by omega) (by omega) ?_; intro v' w' hown4 hb4; have hown4' := Lib.hid hown4; have hb4' := Lib.hid hb4; clear hown4 hb4)
          rw [← hs3.out] at hown4'
          go_roundw
          case rel => exact ⟨k + 1, by omega, by go_num, hown4', hb4'⟩
          case measure => simp [intOf]; omega
      · have hki : ¬ (k : Int) < (p.n3 : Int) := by omega
        have hke : k = D.edges.length := by have := hz3.out; omega
        rw [hke] at hown
        rw [← hs.out] at hown
        have hfin := Lib.hid (slp_own (own_from hown.out (fun b hb => by have := (hown.out.lt b hb).1; have := BL.out.size; omega)) (by rw [hs.out]; have := hle.out D.edges.length; omega) (BL.out.trans (hB.out.mono BL.out.size)))
        clear hke
        go_wp2
        go_ret
        exact hfin.out
set_option maxRecDepth 100000 in
set_option maxHeartbeats 1000000 in
theorem pInto_any (p : PV) (D : PD) (pt : Int) (w : World) (h : PrA w p D) : Calls Tryz.prog 14 #[.agg #[.string p.nm, .slice p.a1 p.n1 p.c1, .slice p.a2 p.n2 p.c2, .slice p.a3 p.n3 p.c3], .int .i64 pt] w (SlP (selP (intoQ pt) D) w) := by
  have hmf : ∀ (fn : Fn) (first cap : Array Value) (w : World), (Instr.makeFunc fn first cap).run Tryz.prog w = .ok (.func fn first cap) w := fun _ _ _ _ => rfl
  obtain ⟨W1, hW1⟩ : ∃ W1, W1 = (w.alloc (.cells #[.string p.nm, .slice p.a1 p.n1 p.c1, .slice p.a2 p.n2 p.c2, .slice p.a3 p.n3 p.c3] 26)).alloc (.cells #[.int .i64 pt] 3) := ⟨_, rfl⟩
  have Z : Holds W1 w.heap.size 26 #[.string p.nm, .slice p.a1 p.n1 p.c1, .slice p.a2 p.n2 p.c2, .slice p.a3 p.n3 p.c3] := by rw [hW1]; exact (Holds.new w _ _).alloc _
  have G : Holds W1 (w.heap.size + 1) 3 #[.int .i64 pt] := by
    rw [hW1]
    have := Holds.new (w.alloc (.cells #[.string p.nm, .slice p.a1 p.n1 p.c1, .slice p.a2 p.n2 p.c2, .slice p.a3 p.n3 p.c3] 26)) 3 #[.int .i64 pt]
    simpa using this
  have BL := Lib.hid (show Below w.heap.size w W1 by rw [hW1]; exact box2_below _ _ _ _ _)
  have q := Lib.hid (edgesInto_any p D (w.heap.size + 1) pt W1 (h.below BL.out) G)
  have hW1' := Lib.hid hW1
  have k0 := Z.cell 0
  have k1 := Z.cell 1
  have k2 := Z.cell 2
  have k3 := Z.cell 3
  clear h hW1 Z G
  generalize selP (intoQ pt) D = R at *
  go_enter Tryz.func14, Tryz.ntmps14
  go_wp2_with fail
  rw [← hW1'.out]
  refine q.out.mono ?_
  rintro e u1 ⟨a, n, c, rfl, hs, b1⟩
  have hs' := Lib.hid hs
  have hb := Lib.hid (BL.out.trans (b1.mono BL.out.size))
  clear hs b1
  go_wp2
  go_ret
  exact ⟨a, n, c, rfl, hs'.out, hb.out⟩
set_option maxRecDepth 100000 in
theorem pints_any (a1 a3 : Option Addr) (P P2 : List Int) (n1 n3 c1 c3 : Nat) (w : World) (h1 : SL w a1 n1 c1 P) (h2 : SL w a3 n3 c3 P2) :
    Calls Tryz.prog 16 #[.slice a1 n1 c1, .slice a3 n3 c3] w (Gives (.bool (decide (P = P2))) w) := by
  have q := Lib.hid (wrsame_any a1 none a3 none P [] P2 [] n1 0 n3 0 c1 0 c3 0 w ⟨h1, SL.nil w⟩ ⟨h2, SL.nil w⟩)
  rw [show sameW P [] P2 [] = decide (P = P2) by simp [sameW]] at q
  clear h1 h2
  generalize decide (P = P2) = R at *
  go_enter Tryz.func16, Tryz.ntmps16
  go_wp2_with fail
  refine q.out.mono ?_
  rintro e w1 ⟨rfl, hb⟩
  go_wp2
  go_ret
  exact ⟨rfl, hb⟩
end Go.Proofs.YtgeliikfgnkppaaGreatDoor
namespace Go.Proofs.YtgeliikfgnkppaaGreatDoor
open Go.RowKit
set_option linter.unusedVariables false
set_option linter.unusedSimpArgs false
def spotX : SpotD := ⟨⟨#[109, 97, 105, 110]⟩, ⟨#[97, 46, 103, 111]⟩, 3⟩
def smallD : PD := ⟨⟨#[112]⟩, [⟨#[105]⟩, ⟨#[110]⟩], [spotX, spotX, spotX, spotX, spotX], [⟨0, 1, 2, 1, 0, 0, 0⟩, ⟨1, 2, 4, 1, 2, -1, 0⟩, ⟨2, 1, 2, 1, 1, 1, 0⟩, ⟨1, 3, 5, 0, 1, 0, 0⟩]⟩
def PrE (D : PD) (w : World) (e : Ending) (w' : World) : Prop := ∃ p : PV, e = .returned (.agg p.cells) ∧ PrA w' p D ∧ Below w.heap.size w w'
theorem info_prog : (Tryz.prog.info? 26).map (·.size) = some 4 := by kernel_rfl
theorem seesT_cells {B : Nat} {w : World} {a : Option Addr} {l : List ByteArray} (h : SeesC B w a (txts l)) : SeesT B w a l := by
  rcases h with h | ⟨b, off, rfl, hB, hc⟩
  · left
    cases l with
    | nil => rfl
    | cons x l => cases h
  · exact .inr ⟨b, off, rfl, hB, fun i hi => hc i _ (by simp [txts, List.getD, hi])⟩
set_option maxRecDepth 100000 in
theorem small_mem (w : World) (C0 C1 : Array Value) (t1 : TypeId) (W2 W3 W4 W5 : World) (h2 : W2 = (w.alloc (.cells C0 26)).alloc (.cells C1 t1)) (h3 : W3 = W2.alloc (.cells #[.string ⟨#[105]⟩, .string ⟨#[110]⟩] 9)) (h4 : W4 = W3.alloc (.cells #[.string ⟨#[109, 97, 105, 110]⟩, .string ⟨#[97, 46, 103, 111]⟩, .int .i64 3, .string ⟨#[109, 97, 105, 110]⟩, .string ⟨#[97, 46, 103, 111]⟩, .int .i64 3, .string ⟨#[109, 97, 105, 110]⟩, .string ⟨#[97, 46, 103, 111]⟩, .int .i64 3, .string ⟨#[109, 97, 105, 110]⟩, .string ⟨#[97, 46, 103, 111]⟩, .int .i64 3, .string ⟨#[109, 97, 105, 110]⟩, .string ⟨#[97, 46, 103, 111]⟩, .int .i64 3] 54)) (h5 : W5 = W4.alloc (.cells #[.int .i64 0, .int .i64 1, .int .i64 2, .int .i64 1, .int .i64 0, .int .i64 0, .int .i64 0, .int .i64 1, .int .i64 2, .int .i64 4, .int .i64 1, .int .i64 2, .int .i64 (-1), .int .i64 0, .int .i64 2, .int .i64 1, .int .i64 2, .int .i64 1, .int .i64 1, .int .i64 1, .int .i64 0, .int .i64 1, .int .i64 3, .int .i64 5, .int .i64 0, .int .i64 1, .int .i64 0, .int .i64 0] 52)) :
    Holds W5 w.heap.size 26 C0 ∧ PrA W5 ⟨⟨#[112]⟩, some ⟨w.heap.size + 1 + 1, 0, none⟩, 2, 2, some ⟨w.heap.size + 1 + 1 + 1, 0, none⟩, 5, 5, some ⟨w.heap.size + 1 + 1 + 1 + 1, 0, none⟩, 4, 4⟩ smallD ∧ Below w.heap.size w W5 := by
  have z2 : W2.heap.size = w.heap.size + 1 + 1 := by rw [h2]; simp
  have z3 : W3.heap.size = w.heap.size + 1 + 1 + 1 := by rw [h3]; simp [z2]
  have z4 : W4.heap.size = w.heap.size + 1 + 1 + 1 + 1 := by rw [h4]; simp [z3]
  have b2 : Below w.heap.size w W2 := by rw [h2]; exact box2_below _ _ _ _ _
  have b3 : Below W2.heap.size W2 W3 := by rw [h3]; exact box_below _ _ _
  have b4 : Below W3.heap.size W3 W4 := by rw [h4]; exact box_below _ _ _
  have b5 : Below W4.heap.size W4 W5 := by rw [h5]; exact box_below _ _ _
  have H0 : Holds W2 w.heap.size 26 C0 := by rw [h2]; exact (Holds.new w _ _).alloc _
  have s3 : SeesC W3.heap.size W3 (some ⟨w.heap.size + 1 + 1, 0, none⟩) (txts [⟨#[105]⟩, ⟨#[110]⟩]) := by
    have q := seesC_lit W2 9 #[.string ⟨#[105]⟩, .string ⟨#[110]⟩]
    rw [← h3, z2] at q
    exact q
  have s4 : SeesC W4.heap.size W4 (some ⟨w.heap.size + 1 + 1 + 1, 0, none⟩) (smallD.spots.flatMap spotC) := by
    have q := seesC_lit W3 54 #[.string ⟨#[109, 97, 105, 110]⟩, .string ⟨#[97, 46, 103, 111]⟩, .int .i64 3, .string ⟨#[109, 97, 105, 110]⟩, .string ⟨#[97, 46, 103, 111]⟩, .int .i64 3, .string ⟨#[109, 97, 105, 110]⟩, .string ⟨#[97, 46, 103, 111]⟩, .int .i64 3, .string ⟨#[109, 97, 105, 110]⟩, .string ⟨#[97, 46, 103, 111]⟩, .int .i64 3, .string ⟨#[109, 97, 105, 110]⟩, .string ⟨#[97, 46, 103, 111]⟩, .int .i64 3]
    rw [← h4, z3] at q
    exact q
  have s5 : SeesC W5.heap.size W5 (some ⟨w.heap.size + 1 + 1 + 1 + 1, 0, none⟩) (smallD.edges.flatMap edgeC) := by
    have q := seesC_lit W4 52 #[.int .i64 0, .int .i64 1, .int .i64 2, .int .i64 1, .int .i64 0, .int .i64 0, .int .i64 0, .int .i64 1, .int .i64 2, .int .i64 4, .int .i64 1, .int .i64 2, .int .i64 (-1), .int .i64 0, .int .i64 2, .int .i64 1, .int .i64 2, .int .i64 1, .int .i64 1, .int .i64 1, .int .i64 0, .int .i64 1, .int .i64 3, .int .i64 5, .int .i64 0, .int .i64 1, .int .i64 0, .int .i64 0]
    rw [← h5, z4] at q
    exact q
  have c3 := (b4.mono (Nat.le_refl _)).trans (b5.mono b4.size)
  refine ⟨((H0.below b3 H0.lt).below b4 (H0.below b3 H0.lt).lt).below b5 ((H0.below b3 H0.lt).below b4 (H0.below b3 H0.lt).lt).lt, ⟨rfl, ⟨rfl, Nat.le_refl _, by show (2 : Nat) ≤ maxLen; unfold maxLen; omega, seesT_cells ((s3.below c3).mono c3.size)⟩, ⟨rfl, Nat.le_refl _, by show (5 : Nat) ≤ maxLen; unfold maxLen; omega, (s4.below b5).mono b5.size⟩, ⟨rfl, Nat.le_refl _, by show (4 : Nat) ≤ maxLen; unfold maxLen; omega, s5⟩⟩, ?_⟩
  exact ((b2.trans (b3.mono b2.size)).trans ((b4.mono (Nat.le_trans b2.size b3.size)))).trans (b5.mono (Nat.le_trans b2.size (Nat.le_trans b3.size b4.size)))
set_option maxRecDepth 100000 in
set_option maxHeartbeats 4000000 in
theorem small_any (w : World) : Calls Tryz.prog 27 #[] w (PrE smallD w) := by
  go_enter Tryz.func27, Tryz.ntmps27
  go_wp2
  obtain ⟨m1, m2, m3⟩ := small_mem w _ _ _ _ _ _ _ rfl rfl rfl rfl
  exact bodyPost_ret (results_cell_row rfl _ _ w.heap.size 26 _ (0, 0) _ rfl m1 Tryz.underlying26 rfl info_prog) rfl ⟨_, rfl, m2, m3⟩
end Go.Proofs.YtgeliikfgnkppaaGreatDoor
namespace Go.Proofs.YtgeliikfgnkppaaGreatDoor
set_option linter.unusedVariables false
set_option linter.unusedSimpArgs false
inductive ComesTo (E : List (Nat × Nat)) : Nat → Prop
  | start : ComesTo E 0
  | step {a b : Nat} : ComesTo E a → (a, b) ∈ E → ComesTo E b
def markE (l : List Bool) (e : Nat × Nat) : List Bool := if l.getD e.1 false then l.set e.2 true else l
def passE (E : List (Nat × Nat)) (l : List Bool) : List Bool := E.foldl markE l
def passes (E : List (Nat × Nat)) : Nat → List Bool → List Bool
  | 0, l => l
  | n + 1, l => passes E n (passE E l)
def startB (n : Nat) : List Bool := (List.replicate n false).set 0 true
def OnlyC (E : List (Nat × Nat)) (l : List Bool) : Prop := ∀ v, l.getD v false = true → ComesTo E v
def ClosedE (E : List (Nat × Nat)) (l : List Bool) : Prop := ∀ a b, (a, b) ∈ E → l.getD a false = true → l.getD b false = true
theorem mark_len (l : List Bool) (e : Nat × Nat) : (markE l e).length = l.length := by unfold markE; split <;> simp
theorem pass_len : ∀ (E : List (Nat × Nat)) (l : List Bool), (passE E l).length = l.length
  | [], l => rfl
  | e :: E, l => (pass_len E (markE l e)).trans (mark_len l e)
theorem passes_len (E : List (Nat × Nat)) : ∀ (n : Nat) (l : List Bool), (passes E n l).length = l.length
  | 0, l => rfl
  | n + 1, l => (passes_len E n _).trans (pass_len E l)
theorem getD_set_true (l : List Bool) (i v : Nat) : (l.set i true).getD v false = true ↔ (v = i ∧ i < l.length) ∨ l.getD v false = true := by
  simp only [List.getD, List.getElem?_set]
  by_cases h : i = v
  · subst h
    by_cases h2 : i < l.length
    · simp [h2]
    · simp [h2]
  · simp [h]; omega
theorem only_mark {E : List (Nat × Nat)} {l : List Bool} {e : Nat × Nat} (h : OnlyC E l) (he : e ∈ E) : OnlyC E (markE l e) := by
  unfold markE
  split
  · next hs =>
    intro v hv
    rcases (getD_set_true l e.2 v).1 hv with ⟨rfl, _⟩ | hv
    · exact .step (h e.1 hs) he
    · exact h v hv
  · exact h
theorem only_pass {F : List (Nat × Nat)} : ∀ {E : List (Nat × Nat)} {l : List Bool}, OnlyC F l → (∀ e ∈ E, e ∈ F) → OnlyC F (passE E l)
  | [], l, h, _ => h
  | e :: E, l, h, hs => only_pass (E := E) (only_mark h (hs e (by simp))) (fun x hx => hs x (by simp [hx]))
theorem only_passes {E : List (Nat × Nat)} : ∀ {n : Nat} {l : List Bool}, OnlyC E l → OnlyC E (passes E n l)
  | 0, _, h => h
  | n + 1, _, h => only_passes (n := n) (only_pass h (fun _ hx => hx))
theorem mark_mono {l : List Bool} {e : Nat × Nat} {v : Nat} (h : l.getD v false = true) : (markE l e).getD v false = true := by
  unfold markE
  split
  · exact (getD_set_true l e.2 v).2 (.inr h)
  · exact h
theorem pass_mono : ∀ {E : List (Nat × Nat)} {l : List Bool} {v : Nat}, l.getD v false = true → (passE E l).getD v false = true
  | [], _, _, h => h
  | e :: E, _, _, h => pass_mono (E := E) (mark_mono h)
theorem passes_mono {E : List (Nat × Nat)} : ∀ {n : Nat} {l : List Bool} {v : Nat}, l.getD v false = true → (passes E n l).getD v false = true
  | 0, _, _, h => h
  | n + 1, _, _, h => passes_mono (n := n) (pass_mono h)
theorem mark_more (l : List Bool) (e : Nat × Nat) (he : e.2 < l.length) : (markE l e = l ∧ (l.getD e.1 false = true → l.getD e.2 false = true)) ∨ l.count true < (markE l e).count true := by
  unfold markE
  by_cases h : l.getD e.1 false = true
  · rw [if_pos h]
    by_cases h2 : l.getD e.2 false = true
    · left
      refine ⟨?_, fun _ => h2⟩
      have e2 : l[e.2] = true := by simpa [List.getD, he] using h2
      exact List.ext_getElem (by simp) (fun i h3 h4 => by
        rw [List.getElem_set]
        split
        · next hi => subst hi; exact e2.symm
        · rfl)
    · right
      have e2 : l[e.2] = false := by simpa [List.getD, he] using h2
      rw [List.count_set he, e2]
      simp
  · left; rw [if_neg h]; exact ⟨rfl, fun h2 => absurd h2 h⟩
theorem pass_more : ∀ (E : List (Nat × Nat)) (l : List Bool), (∀ e ∈ E, e.2 < l.length) → (passE E l = l ∧ ClosedE E l) ∨ l.count true < (passE E l).count true
  | [], l, _ => .inl ⟨rfl, fun a b h => by cases h⟩
  | e :: E, l, hE => by
    have hl := mark_len l e
    rcases mark_more l e (hE e (by simp)) with ⟨h1, h2⟩ | h1
    · have hp : passE (e :: E) l = passE E l := by show passE E (markE l e) = _; rw [h1]
      rw [hp]
      rcases pass_more E l (fun x hx => hE x (by simp [hx])) with ⟨h3, h4⟩ | h3
      · left
        refine ⟨h3, fun a b hab ha => ?_⟩
        rcases List.mem_cons.1 hab with rfl | hab
        · exact h2 ha
        · exact h4 a b hab ha
      · exact .inr h3
    · right
      show _ < (passE E (markE l e)).count true
      rcases pass_more E (markE l e) (fun x hx => by rw [hl]; exact hE x (by simp [hx])) with ⟨h3, _⟩ | h3
      · rw [h3]; exact h1
      · omega
theorem passes_closed {E : List (Nat × Nat)} : ∀ (n : Nat) (l : List Bool), (∀ e ∈ E, e.2 < l.length) → (∀ m, (passes E n l).count true ≤ m → l.count true + n ≤ m) ∨ ClosedE E (passes E n l)
  | 0, l, _ => .inl fun m h => h
  | n + 1, l, hE => by
    have hl := pass_len E l
    rcases pass_more E l hE with ⟨h1, h2⟩ | h1
    · right
      have : ∀ k, passes E k l = l := fun k => by
        induction k with
        | zero => rfl
        | succ k ih => show passes E k (passE E l) = l; rw [h1, ih]
      rw [this (n + 1)]
      exact h2
    · rcases passes_closed n (passE E l) (fun e he => by rw [hl]; exact hE e he) with h2 | h2
      · left
        intro m hm
        have := h2 m hm
        omega
      · exact .inr h2
theorem passes_all {E : List (Nat × Nat)} {n : Nat} (h0 : 0 < n) (hE : ∀ e ∈ E, e.2 < n) (v : Nat) : (passes E n (startB n)).getD v false = true ↔ ComesTo E v := by
  have hl : (startB n).length = n := by simp [startB]
  have h00 : (startB n).getD 0 false = true := (getD_set_true _ 0 0).2 (.inl ⟨rfl, by simpa using h0⟩)
  constructor
  · refine only_passes (fun x hx => ?_) v
    rcases (getD_set_true _ 0 x).1 hx with ⟨rfl, _⟩ | hx
    · exact .start
    · simp [List.getD, List.getElem?_replicate] at hx
      split at hx <;> simp at hx
  · have hc : ClosedE E (passes E n (startB n)) := by
      rcases passes_closed (E := E) n (startB n) (fun e he => by rw [hl]; exact hE e he) with h | h
      · have h1 := h n (by have := List.count_le_length (a := true) (l := passes E n (startB n)); rw [passes_len, hl] at this; exact this)
        have h2 : 0 < (startB n).count true := List.count_pos_iff.2 (by
          have : (startB n)[0]'(by rw [hl]; exact h0) = true := by simp [startB]
          exact this ▸ List.getElem_mem _)
        omega
      · exact h
    intro hv
    induction hv with
    | start => exact passes_mono h00
    | step _ hab ih => exact hc _ _ hab ih
end Go.Proofs.YtgeliikfgnkppaaGreatDoor
namespace Go.Proofs.YtgeliikfgnkppaaGreatDoor
set_option linter.unusedVariables false
set_option linter.unusedSimpArgs false
def findE (a : Nat) (l : List Nat) (e : Nat × Nat) : List Nat := if e.1 = a ∧ e.2 ∉ l then l ++ [e.2] else l
structure FindI (E : List (Nat × Nat)) (n k m : Nat) (l : List Nat) : Prop where
  nodup : l.Nodup
  lt : ∀ v ∈ l, v < n
  come : ∀ v ∈ l, ComesTo E v
  zero : 0 ∈ l
  before : ∀ j, j < k → j < l.length → ∀ b, (l.getD j 0, b) ∈ E → b ∈ l
  now : ∀ e ∈ E.take m, e.1 = l.getD k 0 → e.2 ∈ l
theorem find_start {E : List (Nat × Nat)} {n : Nat} (h : 0 < n) : FindI E n 0 0 [0] :=
  ⟨by simp, by simpa using h, by simpa using ComesTo.start, by simp, fun j hj => absurd hj (by omega), by simp⟩
theorem short_nodup : ∀ (n : Nat) (l : List Nat), l.Nodup → (∀ v ∈ l, v < n) → l.length ≤ n
  | 0, [], _, _ => Nat.le_refl _
  | 0, x :: l, _, h => absurd (h x (by simp)) (by omega)
  | n + 1, l, nd, h => by
    by_cases c : n ∈ l
    · have h2 := short_nodup n (l.erase n) (nd.erase n) (fun v hv => by
        have h1 := h v (List.mem_of_mem_erase hv)
        have h3 : v ≠ n := fun e => by subst e; exact List.Nodup.not_mem_erase nd hv
        omega)
      rw [List.length_erase_of_mem c] at h2
      omega
    · have h2 := short_nodup n l nd (fun v hv => by
        have h1 := h v hv
        have h3 : v ≠ n := fun e => c (e ▸ hv)
        omega)
      omega
theorem find_len {E : List (Nat × Nat)} {n k m : Nat} {l : List Nat} (h : FindI E n k m l) : l.length ≤ n := short_nodup n l h.nodup h.lt
theorem find_step {E : List (Nat × Nat)} {n k m : Nat} {l : List Nat} {e : Nat × Nat} (h : FindI E n k m l) (hk : k < l.length) (hm : E[m]? = some e) (hn : e.2 < n) : FindI E n k (m + 1) (findE (l.getD k 0) l e) := by
  have heE : e ∈ E := List.mem_of_getElem? hm
  have ht : E.take (m + 1) = E.take m ++ [e] := by rw [List.take_add_one, hm]; rfl
  unfold findE
  by_cases c : e.1 = l.getD k 0 ∧ e.2 ∉ l
  · rw [if_pos c]
    have hat : ∀ j, j < l.length → (l ++ [e.2]).getD j 0 = l.getD j 0 := fun j hj => by simp [List.getD, List.getElem?_append_left hj]
    refine ⟨?_, ?_, ?_, by simp [h.zero], ?_, ?_⟩
    · rw [List.nodup_append]
      exact ⟨h.nodup, by simp, fun a ha b hb => by simp at hb; subst hb; intro hab; exact c.2 (hab ▸ ha)⟩
    · intro v hv
      rcases List.mem_append.1 hv with hv | hv
      · exact h.lt v hv
      · simp at hv; omega
    · intro v hv
      rcases List.mem_append.1 hv with hv | hv
      · exact h.come v hv
      · obtain rfl : v = e.2 := by simpa using hv
        have hc : ComesTo E e.1 := by rw [c.1]; exact h.come _ (by simp [List.getD, hk])
        exact hc.step heE
    · intro j hj hjl b hb
      rw [hat j (by omega)] at hb
      simp [h.before j hj (by omega) b hb]
    · intro x hx hxa
      rw [hat k hk] at hxa
      rw [ht] at hx
      rcases List.mem_append.1 hx with hx | hx
      · simp [h.now x hx hxa]
      · obtain rfl : x = e := by simpa using hx
        simp
  · rw [if_neg c]
    refine ⟨h.nodup, h.lt, h.come, h.zero, h.before, ?_⟩
    intro x hx hxa
    rw [ht] at hx
    rcases List.mem_append.1 hx with hx | hx
    · exact h.now x hx hxa
    · obtain rfl : x = e := by simpa using hx
      exact Classical.byContradiction fun hb => c ⟨hxa, hb⟩
theorem find_next {E : List (Nat × Nat)} {n k : Nat} {l : List Nat} (h : FindI E n k E.length l) : FindI E n (k + 1) 0 l :=
  ⟨h.nodup, h.lt, h.come, h.zero, fun j hj hjl b hb => by
    by_cases c : j = k
    · subst c; exact h.now (l.getD j 0, b) (by rwa [List.take_length]) rfl
    · exact h.before j (by omega) hjl b hb, by simp⟩
theorem find_end {E : List (Nat × Nat)} {n k : Nat} {l : List Nat} (h : FindI E n k 0 l) (hk : l.length ≤ k) (v : Nat) : v ∈ l ↔ ComesTo E v := by
  constructor
  · exact h.come v
  · intro hv
    induction hv with
    | start => exact h.zero
    | step _ hab ih =>
      obtain ⟨j, hj, e⟩ := List.getElem_of_mem ih
      exact h.before j (by omega) hj _ (by simpa [List.getD, hj, e] using hab)
theorem sorted_filter {n : Nat} {l : List Nat} {p : Nat → Bool} (hs : l.Pairwise (· < ·)) (hp : ∀ v, v ∈ l ↔ v < n ∧ p v = true) : l = (List.range n).filter p := by
  have h2 : ((List.range n).filter p).Pairwise (· < ·) := List.Pairwise.filter _ List.pairwise_lt_range
  have hm : ∀ v, v ∈ l ↔ v ∈ (List.range n).filter p := fun v => by rw [hp, List.mem_filter, List.mem_range]
  generalize (List.range n).filter p = r at h2 hm
  clear hp
  induction l generalizing r with
  | nil =>
    cases r with
    | nil => rfl
    | cons x r => exact absurd ((hm x).2 (by simp)) (by simp)
  | cons x l ih =>
    cases r with
    | nil => exact absurd ((hm x).1 (by simp)) (by simp)
    | cons y r =>
      obtain ⟨a1, a2⟩ := List.pairwise_cons.1 hs
      obtain ⟨b1, b2⟩ := List.pairwise_cons.1 h2
      have hxy : x = y := by
        rcases List.mem_cons.1 ((hm x).1 (by simp)) with h | h
        · exact h
        · rcases List.mem_cons.1 ((hm y).2 (by simp)) with h' | h'
          · exact h'.symm
          · have := b1 x h; have := a1 y h'; omega
      subst hxy
      congr 1
      refine ih a2 r b2 fun v => ?_
      constructor
      · intro hv
        rcases List.mem_cons.1 ((hm v).1 (by simp [hv])) with h | h
        · have := a1 v hv; omega
        · exact h
      · intro hv
        rcases List.mem_cons.1 ((hm v).2 (by simp [hv])) with h | h
        · have := b1 v hv; omega
        · exact h
end Go.Proofs.YtgeliikfgnkppaaGreatDoor
namespace Go.Proofs.YtgeliikfgnkppaaGreatDoor
open Go.RowKit Go.Sort
set_option linter.unusedVariables false
set_option linter.unusedSimpArgs false
def intsP (l : List Nat) : List Int := l.map fun k : Nat => (k : Int)
theorem intsP_len (l : List Nat) : (intsP l).length = l.length := by simp [intsP]
theorem intsP_at (l : List Nat) {i : Nat} (hi : i < l.length) : (intsP l).getD i 0 = ((l.getD i 0 : Nat) : Int) := by simp [intsP, List.getD, hi]
theorem intsP_snoc (l : List Nat) (d : Nat) : intsP (l ++ [d]) = intsP l ++ [(d : Int)] := by simp [intsP]
def pairsE (D : PD) : List (Nat × Nat) := D.edges.map fun e => (e.frm.toNat, e.dst.toNat)
theorem pairs_len (D : PD) : (pairsE D).length = D.edges.length := by simp [pairsE]
theorem pairs_at (D : PD) {i : Nat} (hi : i < D.edges.length) : (pairsE D)[i]? = some ((D.edges.getD i edge0).frm.toNat, (D.edges.getD i edge0).dst.toNat) := by simp [pairsE, List.getD, hi]
theorem pairs_lt {D : PD} (h : progB D = true) : ∀ e ∈ pairsE D, e.1 < D.spots.length ∧ e.2 < D.spots.length := by
  intro e he
  obtain ⟨x, hx, rfl⟩ := List.mem_map.1 he
  obtain ⟨i, hi, rfl⟩ := List.getElem_of_mem hx
  have h1 := edge_ends (prog_edge h hi)
  have e1 : D.edges.getD i edge0 = D.edges[i] := by simp [List.getD, hi]
  rw [e1] at h1
  exact ⟨by show (D.edges[i]).frm.toNat < _; omega, by show (D.edges[i]).dst.toNat < _; omega⟩
def reachN (D : PD) : List Nat := (List.range D.spots.length).filter fun v => (passes (pairsE D) D.spots.length (startB D.spots.length)).getD v false
def reachP (D : PD) : List Int := if progB D = true then intsP (reachN D) else []
theorem comes_lt {D : PD} (h : progB D = true) {v : Nat} (hv : ComesTo (pairsE D) v) : v < D.spots.length := by
  cases hv with
  | start => exact (prog_sizes h).1
  | step _ hab => exact (pairs_lt h _ hab).2
theorem sorted_reach {D : PD} (h : progB D = true) {l : List Nat} (nd : l.Nodup) (hm : ∀ v, v ∈ l ↔ ComesTo (pairsE D) v) : (intsP l).mergeSort (fun x y => decide (x ≤ y)) = intsP (reachN D) := by
  have hperm : ((intsP l).mergeSort (fun x y => decide (x ≤ y))).Perm (intsP l) := List.mergeSort_perm _ _
  have hpw := List.pairwise_mergeSort (le := fun x y : Int => decide (x ≤ y)) (by intro a b c h1 h2; simp at h1 h2 ⊢; omega) (by intro a b; simp; omega) (intsP l)
  generalize (intsP l).mergeSort (fun x y => decide (x ≤ y)) = M at *
  have hmap : M = intsP (M.map Int.toNat) := by
    unfold intsP
    rw [List.map_map]
    conv => lhs; rw [← List.map_id M]
    apply List.map_congr_left
    intro x hx
    have hx2 := hperm.mem_iff.1 hx
    obtain ⟨k, _, rfl⟩ := List.mem_map.1 hx2
    simp
  have hndM : M.Nodup := by
    refine hperm.nodup_iff.2 ?_
    unfold intsP
    exact List.Pairwise.map _ (fun a b hab => by omega) nd
  have hlt : (M.map Int.toNat).Pairwise (· < ·) := by
    rw [List.pairwise_map]
    have h2 : M.Pairwise (fun a b => decide (a ≤ b) = true ∧ a ≠ b) := hpw.and hndM
    refine h2.imp_of_mem ?_
    intro a b ha hb hab
    have ha2 := hperm.mem_iff.1 ha
    have hb2 := hperm.mem_iff.1 hb
    obtain ⟨ka, _, rfl⟩ := List.mem_map.1 ha2
    obtain ⟨kb, _, rfl⟩ := List.mem_map.1 hb2
    simp at hab ⊢
    omega
  rw [hmap]
  congr 1
  unfold reachN
  refine sorted_filter hlt fun v => ?_
  rw [passes_all (prog_sizes h).1 (fun e he => (pairs_lt h e he).2)]
  have : v ∈ M.map Int.toNat ↔ v ∈ l := by
    rw [List.mem_map]
    constructor
    · rintro ⟨x, hx, rfl⟩
      obtain ⟨k, hk, rfl⟩ := List.mem_map.1 (hperm.mem_iff.1 hx)
      simpa using hk
    · intro hv
      exact ⟨(v : Int), hperm.mem_iff.2 (List.mem_map.2 ⟨v, hv, rfl⟩), by simp⟩
  rw [this, hm]
  exact ⟨fun hv => ⟨comes_lt h hv, hv⟩, fun h => h.2⟩
def marksP (l : List Nat) : Array Value := ((List.range 128).map fun x => Value.bool (l.contains x)).toArray
theorem marks_size (l : List Nat) : (marksP l).size = 128 := by simp [marksP]
theorem marks_at (l : List Nat) {x : Nat} (hx : x < 128) : (marksP l)[x]? = some (.bool (l.contains x)) := by unfold marksP; simp [hx]
theorem marks_set (l : List Nat) {d : Nat} (hd : d < 128) : (marksP l).setIfInBounds d (.bool true) = marksP (l ++ [d]) := by
  apply Array.ext_getElem?
  intro i
  by_cases hi : i < 128
  · rw [marks_at _ hi, Array.getElem?_setIfInBounds, marks_size]
    by_cases hdi : d = i
    · subst hdi; simp [hd]
    · rw [if_neg hdi, marks_at l hi]
      congr 2
      rw [Bool.eq_iff_iff]
      simp
      intro h; exact absurd h.symm hdi
  · rw [Array.getElem?_eq_none (by simp [marks_size]; omega), Array.getElem?_eq_none (by rw [marks_size]; omega)]
set_option maxRecDepth 100000 in
theorem marks_lit : (Tryz.zeroCells66).setIfInBounds 0 (.bool true) = marksP [0] := by kernel_rfl
structure RchI (u : World) (gs : Nat) (l : List Nat) (v : Value) (w : World) : Prop where
  low : u.heap.size ≤ gs
  bel : Below u.heap.size u w
  seen : Holds w gs 66 (marksP l)
  row : w.ownsRow u.heap.size 3 1 v l.length (nums .i64 (intsP l))
  apart : ∀ b, v.ownBlock = some b → b ≠ gs
theorem RchI.made {u : World} {gs : Nat} {l : List Nat} {v : Value} {w w' : World} (h : RchI u gs l v w) (hb : Below w.heap.size w w') : RchI u gs l v w' :=
  ⟨h.low, h.bel.trans (hb.mono h.bel.size), h.seen.below hb h.seen.lt, own_below h.row hb, h.apart⟩
theorem RchI.marked {u : World} {gs : Nat} {l : List Nat} {v : Value} {w : World} (h : RchI u gs l v w) {d : Nat} (hd : d < 128) : Below u.heap.size u (w.setCell ⟨gs, d, none⟩ (.bool true)) ∧ Holds (w.setCell ⟨gs, d, none⟩ (.bool true)) gs 66 (marksP (l ++ [d])) ∧ (w.setCell ⟨gs, d, none⟩ (.bool true)).ownsRow u.heap.size 3 1 v l.length (nums .i64 (intsP l)) := by
  have hb : BelowE [gs] w.heap.size w (w.setCell ⟨gs, d, none⟩ (.bool true)) := (BelowE.refl _ _ _).setIn (p := ⟨gs, d, none⟩) (by simp) _
  refine ⟨h.bel.setCell (p := ⟨gs, d, none⟩) h.low _, ?_, own_belowE h.row hb (fun k hk hx => h.apart k hk (by simpa using hx))⟩
  have := h.seen.set d (.bool true)
  rwa [marks_set l hd] at this
theorem RchI.grow {u : World} {gs : Nat} {l : List Nat} {v v' : Value} {w X w' : World} (h : RchI u gs l v w) {d : Nat} (hd : d < 128) (hX : X = (w.setCell ⟨gs, d, none⟩ (.bool true)).alloc (.cells #[.int .i64 (d : Int)] 3))
    (own : w'.ownsRow 0 3 1 v' (intsP l ++ [(d : Int)]).length (nums .i64 (intsP l ++ [(d : Int)]))) (gr : X.grownBy w' v.ownBlock) (blk : v'.ownBlock = v.ownBlock ∨ v'.ownBlock = some X.heap.size) : RchI u gs (l ++ [d]) v' w' := by
  obtain ⟨m1, m2, m3⟩ := h.marked hd
  have hb1 : Below (w.setCell ⟨gs, d, none⟩ (.bool true)).heap.size (w.setCell ⟨gs, d, none⟩ (.bool true)) X := by rw [hX]; exact box_below _ _ _
  have g1 := m2.below hb1 m2.lt
  have o1 := own_below m3 hb1
  have bX := m1.trans (hb1.mono m1.size)
  have hlt := o1.lt
  have hv : ∀ b, v'.ownBlock = some b → u.heap.size ≤ b ∧ b ≠ gs := fun b hb => by
    rcases blk with e | e
    · rw [e] at hb; exact ⟨(hlt b hb).1, h.apart b hb⟩
    · rw [e] at hb
      obtain rfl := Option.some.inj hb
      have := g1.lt
      exact ⟨bX.size, by omega⟩
  refine ⟨h.low, bX.grown gr bX.size (fun j hj => (hlt j hj).1), (gr.block gs g1.lt (fun e => h.apart gs e.symm rfl)).trans g1, ?_, fun b hb => (hv b hb).2⟩
  rw [intsP_snoc]
  have := own_from own (fun b hb => (hv b hb).1)
  rw [List.length_append, intsP_len] at this
  rw [List.length_append]
  exact this
theorem grow_below (w : World) (os : Array Obj) : Below w.heap.size w (grow w os) :=
  ⟨rfl, rfl, rfl, by show w.heap.size ≤ (w.heap ++ os).size; rw [Array.size_append]; omega, fun _ hj => Sort.heap_grow_old w os hj⟩
theorem ints_sorted {w : World} {base g cap n q : Nat} {os : Array Obj} {zs : List Int} (h : w.ownsRow base 3 1 (.slice (some ⟨g, 0, none⟩) n cap) n (nums .i64 zs)) :
    (grow (putRow (Value.int .i64) (Sort.ahead w q) g 0 (zs.mergeSort fun x y => decide (x ≤ y)).toArray) os).ownsRow base 3 1 (.slice (some ⟨g, 0, none⟩) n cap) n (nums .i64 (zs.mergeSort fun x y => decide (x ≤ y))) := by
  have hl : zs.length = n := by have := h.1; simpa [nums] using this
  have hc := Lib.ownsRow_putRow (enc := Value.int .i64) (q := q) (k := n) (ys := zs.mergeSort fun x y => decide (x ≤ y)) h (by rw [List.length_mergeSort]; exact hl) (Nat.le_refl _)
  rw [List.take_of_length_le (by rw [List.length_mergeSort]; omega)] at hc
  exact own_below hc (grow_below _ _)
end Go.Proofs.YtgeliikfgnkppaaGreatDoor
namespace Go.Proofs.YtgeliikfgnkppaaGreatDoor
open Go.RowKit
set_option linter.unusedVariables false
set_option linter.unusedSimpArgs false
theorem info_marks : (Tryz.prog.info? 66).map (·.size) = some 128 := by kernel_rfl
theorem marks_one (l : List Nat) : (marksP l).all (·.oneCell') = true := by
  rw [Array.all_eq_true']
  intro x hx
  unfold marksP at hx
  simp at hx
  obtain ⟨y, _, rfl⟩ := hx
  rfl
theorem own_some' {w : World} {base : Nat} {e : TypeId} {n : Nat} {v : Value} {xs : List Value} (h : w.ownsRow base e 1 v n xs) (hn : n ≠ 0) : ∃ g cap, v = .slice (some ⟨g, 0, none⟩) n cap ∧ base ≤ g ∧ g < w.heap.size ∧ n ≤ cap ∧ cap ≤ maxLen := by
  rcases h.2 with ⟨_, h0⟩ | ⟨g, cap, cur, h1, h2, h3, h4, h5, _⟩
  · exact absurd h0 hn
  · exact ⟨g, cap, h1, h2, (Array.getElem?_eq_some_iff.1 h3).1, h4, h5⟩
theorem own_num' {w : World} {base : Nat} {e : TypeId} {n m c g : Nat} {l : List Int} (h : w.ownsRow base e 1 (.slice (some ⟨g, 0, none⟩) m c) n (nums .i64 l)) {i : Nat} (hi : i < l.length) : w.cell? ⟨g, i, none⟩ = some (.int .i64 (l.getD i 0)) := by
  have := h.cells (g := g) rfl i (.int .i64 (l.getD i 0)) (by simp [nums, List.getD, hi])
  rw [add_at, Nat.zero_add] at this
  exact this
def SlQ (l : List Int) (w : World) (e : Ending) (w' : World) : Prop := ∃ a n c, e = .returned (.slice a n c) ∧ SL w' a n c l ∧ (∀ b off s, a = some ⟨b, off, s⟩ → w.heap.size ≤ b) ∧ Below w.heap.size w w'
theorem slq_own {w w' : World} {v : Value} {l : List Int} (h : w'.ownsRow w.heap.size 3 1 v l.length (nums .i64 l)) (hl : l.length ≤ 1000) (hb : Below w.heap.size w w') : SlQ l w (.returned v) w' := by
  have hlt := h.lt
  obtain ⟨a, c, rfl, _, hs⟩ := sees_own h
  exact ⟨a, _, c, rfl, ⟨rfl, own_cap h, by omega, hs⟩, (fun b off s e => by subst e; exact (hlt b rfl).1), hb⟩
theorem SlQ.p {l : List Int} {w w' : World} {e : Ending} (h : SlQ l w e w') : SlP l w e w' := by
  obtain ⟨a, n, c, h1, h2, _, h3⟩ := h
  exact ⟨a, n, c, h1, h2, h3⟩
set_option maxRecDepth 100000 in
set_option maxHeartbeats 8000000 in
theorem preach_new (p : PV) (D : PD) (w : World) (h : PrA w p D) : Calls Tryz.prog 15 #[.agg p.cells] w (SlQ (reachP D) w) := by
  obtain ⟨i0, hi, hz0, hz1, hz2⟩ := infoIntP
  have qc := Lib.hid (fun W hW => pcheck_any p D W hW)
  obtain ⟨pnm, pa1, pn1, pc1, pa2, pn2, pc2, pa3, pn3, pc3⟩ := p
  have hed := h.edges
  dsimp only [PV.cells] at hed qc
  show Calls Tryz.prog 15 #[.agg #[.string pnm, .slice pa1 pn1 pc1, .slice pa2 pn2 pc2, .slice pa3 pn3 pc3]] w (SlQ (reachP D) w)
  obtain ⟨W1, hW1⟩ : ∃ W1, W1 = w.alloc (.cells #[.string pnm, .slice pa1 pn1 pc1, .slice pa2 pn2 pc2, .slice pa3 pn3 pc3] 26) := ⟨_, rfl⟩
  have Z : Hid (Holds W1 w.heap.size 26 #[.string pnm, .slice pa1 pn1 pc1, .slice pa2 pn2 pc2, .slice pa3 pn3 pc3]) := Lib.hid (by rw [hW1]; exact Holds.new w _ _)
  have BL := Lib.hid (show Below w.heap.size w W1 by rw [hW1]; exact box_below _ _ _)
  have A0 := Lib.hid (h.below BL.out)
  have A := Lib.hid (hed.below BL.out)
  have hW1' := Lib.hid hW1
  have k0 := Z.out.cell 0
  have k1 := Z.out.cell 1
  have k2 := Z.out.cell 2
  have k3 := Z.out.cell 3
  have hz3 := Lib.hid hed.len
  clear h hed hW1
  cases hp : progB D
  · have hs : Hid (reachP D = []) := Lib.hid (by unfold reachP; rw [hp]; rfl)
    rw [pchk_bad hp] at qc
    clear hp
    generalize reachP D = R at *
    go_enter Tryz.func15, Tryz.ntmps15
    go_wp2_with fail
    rw [← hW1'.out]
    with_reducible refine (qc.out W1 A0.out).mono ?_
    rintro e u1 ⟨rfl, b1⟩
    clear k0 k1 k2 k3
    go_wp2
    go_ret
    exact ⟨none, 0, 0, rfl, by rw [hs.out]; exact SL.nil _, (fun _ _ _ e => by cases e), BL.out.trans (b1.mono BL.out.size)⟩
  · have hs : Hid (reachP D = intsP (reachN D)) := Lib.hid (by unfold reachP; rw [hp]; rfl)
    rw [pchk_ok hp] at qc
    have hP := Lib.hid hp
    have hn3 : pn3 ≤ 256 := by rw [hz3.out]; exact (prog_sizes hp).2.2
    have hnS := Lib.hid (prog_sizes hp)
    have hed := Lib.hid (fun i hi => edge_ends (prog_edge hp (i := i) hi))
    have hml := Lib.hid marks_lit
    clear hp
    generalize reachP D = R at *
    go_enter Tryz.func15, Tryz.ntmps15
    go_wp2_with fail
    rw [← hW1'.out]
    with_reducible refine (qc.out W1 A0.out).mono ?_
    rintro e u1 ⟨rfl, b1⟩
    clear k0 k1 k2 k3 qc hW1' A0
    replace Z := Lib.hid (Z.out.below b1 Z.out.lt)
    replace A := Lib.hid (A.out.below b1)
    replace BL := Lib.hid (BL.out.trans (b1.mono BL.out.size))
    clear b1
    go_wp2_with (refine wpList_store_row rfl 66 (.tmp 3) (.tmp 11) rfl _ (marksP [0]) rfl ?h1 66 _ (heap_alloc_new _ _) ?h2 ?h3 (marks_one _) ?h4)
    case h1 => exact congrArg Value.agg hml.out
    case h2 => rw [info_marks, marks_size]
    case h3 => (rw [marks_size]; kernel_rfl)
    rw [World.setRow_alloc_new]
    have hI0 : Hid (RchI u1 u1.heap.size [0] (.slice (some ⟨u1.heap.size + 1, 0, none⟩) 1 1) ((u1.alloc (.cells (marksP [0]) 66)).alloc (.cells #[.int .i64 0] 3))) := Lib.hid (by
      have q := own_cells (u1.alloc (.cells (marksP [0]) 66)) 3 1 1 #[.int .i64 0] rfl (by unfold maxLen; omega)
      have q2 := own_from q (B := u1.heap.size) (fun b hb => by have := (q.lt b hb).1; simp at this; omega)
      refine ⟨Nat.le_refl _, box2_below _ _ _ _ _, (Holds.new u1 _ _).alloc _, ?_, fun b hb => ?_⟩
      · simpa [intsP, nums] using q2
      · have : b = u1.heap.size + 1 := by simpa [Value.ownBlock] using hb.symm
        omega)
    have hF0 : Hid (FindI (pairsE D) D.spots.length 0 0 [0]) := Lib.hid (find_start (by have := hnS.out; omega))
    go_loopw [4, 5] (fun v x wr => ∃ (k : Nat) (l : List Nat) (g cap : Nat), v = .slice (some ⟨g, 0, none⟩) l.length cap ∧ x = .int .i64 k ∧ k ≤ l.length ∧ Hid (RchI u1 u1.heap.size l v wr) ∧ Hid (FindI (pairsE D) D.spots.length k 0 l)) (fun _ x _ => 129 - (intOf x).toNat)
    case atStart => exact ⟨0, [0], u1.heap.size + 1, 1, rfl, rfl, by simp, hI0, hF0⟩
    case round =>
      clear hI0 hF0
      obtain ⟨k, l, g, cap, rfl, rfl, hk, hI, hF⟩ := hrel
      have hN : l.length ≤ 128 := by have := find_len hF.out; have := hnS.out; omega
      have k3 := (Z.out.below hI.out.bel Z.out.lt).cell 3
      by_cases hlt : k < l.length
      · have hki : (k : Int) < (l.length : Int) := by omega
        go_wp2
        clear k3
        go_loopw [4, 22] (fun v x wr => ∃ (m : Nat) (l : List Nat) (g cap : Nat), v = .slice (some ⟨g, 0, none⟩) l.length cap ∧ x = .int .i64 m ∧ m ≤ pn3 ∧ k < l.length ∧ Hid (RchI u1 u1.heap.size l v wr) ∧ Hid (FindI (pairsE D) D.spots.length k m l)) (fun _ x _ => pn3 - (intOf x).toNat)
        case atStart => exact ⟨0, l, g, cap, rfl, rfl, by omega, hlt, hI, hF⟩
        case round =>
          clear hI hF hlt hki hN hk
          obtain ⟨m, l, g, cap, rfl, rfl, hm, hkl, hI, hF⟩ := hrel
          have hN : l.length ≤ 128 := by have := find_len hF.out; have := hnS.out; omega
          by_cases hlt : m < pn3
          · have hmi : (m : Int) < (pn3 : Int) := by omega
            have hml2 : m < D.edges.length := by rw [← hz3.out]; exact hlt
            obtain ⟨b, off, rfl, hbl, x0, x1, x2, x3, x4, x5, x6⟩ := edges_at (A.out.below hI.out.bel) hlt
            have he := hed.out m hml2
            have hpe := pairs_at D hml2
            obtain ⟨f, hf⟩ := Int.eq_ofNat_of_zero_le he.1
            obtain ⟨s, hs'⟩ := Int.eq_ofNat_of_zero_le he.2.2.1
            have hsn : s < D.spots.length := by omega
            have hs128 : s < 128 := by have := hnS.out; omega
            rw [hf, hs'] at hpe
            have hstep := Lib.hid (find_step hF.out hkl hpe hsn)
            rw [hf] at x0
            rw [hs'] at x1
            generalize (D.edges.getD m edge0).k = ek at *
            generalize (D.edges.getD m edge0).x = ex at *
            generalize (D.edges.getD m edge0).y = ey at *
            generalize (D.edges.getD m edge0).c = ec at *
            generalize (D.edges.getD m edge0).d = ed at *
            obtain ⟨V, hV⟩ : ∃ V, V = wr.alloc (.cells #[.int .i64 (f : Int), .int .i64 (s : Int), .int .i64 ek, .int .i64 ex, .int .i64 ey, .int .i64 ec, .int .i64 ed] 52) := ⟨_, rfl⟩
            have hVb : Below wr.heap.size wr V := by rw [hV]; exact box_below _ _ _
            have hI2 := Lib.hid (hI.out.made hVb)
            have hwr := Lib.hid (show wr.heap.size < V.heap.size by rw [hV]; simp)
            have hgl := Lib.hid hI.out.seen.lt
            have B7 : Holds V wr.heap.size 52 #[.int .i64 (f : Int), .int .i64 (s : Int), .int .i64 ek, .int .i64 ex, .int .i64 ey, .int .i64 ec, .int .i64 ed] := by rw [hV]; exact Holds.new _ _ _
            have HB := Lib.hid B7
            have y0 := B7.cell 0
            have y1 := B7.cell 1
            have yl := own_num' hI2.out.row (i := k) (by rw [intsP_len]; exact hkl)
            rw [intsP_at l hkl] at yl
            have ys := (hI2.out.seen.cell s).trans (marks_at l hs128)
            have hV' := Lib.hid hV
            clear hV hVb he hpe hf hs' B7 hI
            simp only [Int.toNat_natCast] at hstep
            have hsi : (s : Int) < 128 := by omega
            have hki : (k : Int) < (l.length : Int) := by omega
            have hfe : Hid (findE (l.getD k 0) l (f, s) = if f = l.getD k 0 ∧ s ∉ l then l ++ [s] else l) := Lib.hid rfl
            rw [hfe.out] at hstep
            clear hfe
            generalize l.getD k 0 = a0 at *
            by_cases hfa : f = a0
            · subst hfa
              cases hc : l.contains s
              · have hnot : s ∉ l := by simpa using hc
                rw [if_pos ⟨rfl, hnot⟩] at hstep
                rw [hc] at ys
                clear hc hnot
                go_wp2
                rw [← hV'.out]
                clear hV'
                go_quiet (fail)
                obtain ⟨V2, hV2⟩ : ∃ V2, V2 = V.drewN nq := ⟨_, rfl⟩
                rw [← hV2]
                have hb2 : Below V.heap.size V V2 := by rw [hV2]; exact Below.drewN (Below.refl _ _) nq
                have hI3 := Lib.hid (hI2.out.made hb2)
                have y0 : V2.cell? ⟨wr.heap.size, 0, none⟩ = some (.int .i64 (f : Int)) := by rw [hV2]; exact y0
                have y1 : V2.cell? ⟨wr.heap.size, 1, none⟩ = some (.int .i64 (s : Int)) := by rw [hV2]; exact y1
                have y2 : (V2.setCell ⟨u1.heap.size, s, none⟩ (.bool true)).cell? ⟨wr.heap.size, 1, none⟩ = some (.int .i64 (s : Int)) := ((HB.out.below hb2 HB.out.lt).far (p := ⟨u1.heap.size, s, none⟩) (by have := hgl.out; show ¬ wr.heap.size = u1.heap.size; omega) _).cell 1
                have hsz2 := Lib.hid (show wr.heap.size < V2.heap.size by rw [hV2]; exact hwr.out)
                have hne1 : ¬ u1.heap.size = wr.heap.size := by have := hgl.out; omega
                have hne2 : ¬ wr.heap.size = u1.heap.size := by have := hgl.out; omega
                clear hb2 hV2 hI2 yl ys x0 x1 x2 x3 x4 x5 x6
                obtain ⟨X, hX⟩ : ∃ X, X = (V2.setCell ⟨u1.heap.size, s, none⟩ (.bool true)).alloc (.cells #[.int .i64 (s : Int)] 3) := ⟨_, rfl⟩
                have hmk := hI3.out.marked hs128
                have hbX : Below (V2.setCell ⟨u1.heap.size, s, none⟩ (.bool true)).heap.size (V2.setCell ⟨u1.heap.size, s, none⟩ (.bool true)) X := by rw [hX]; exact box_below _ _ _
                have ho0 : Hid (X.ownsRow 0 3 1 (.slice (some ⟨g, 0, none⟩) l.length cap) (intsP l).length (nums .i64 (intsP l))) := Lib.hid (by rw [intsP_len]; exact own_from (own_below hmk.2.2 hbX) (fun _ _ => Nat.zero_le _))
                have hse : Hid (Sees .i64 X.heap.size X (some ⟨V2.heap.size, 0, none⟩) [(s : Int)]) := Lib.hid (by
                  rw [hX]
                  have q := sees_new .i64 (V2.setCell ⟨u1.heap.size, s, none⟩ (.bool true)) 3 [(s : Int)] #[.int .i64 (s : Int)] rfl
                  simpa using q)
                have ff := hI3.out.seen.free s
                have fc := (hI3.out.seen.cell s).trans (marks_at l hs128)
                have hX' := Lib.hid hX
                clear hX hmk hbX
                go_wp2_with (at_builtin; rw [← hX'.out]; refine wpList_append_foot X rfl _ _ 32 rfl 3 i0 (.int .i64 0) 8 Tryz.underlying32 hi hz0 hz1 hz2 rfl .i64 (.slice (some ⟨g, 0, none⟩) l.length cap) (intsP l) ho0.out X.heap.size (some ⟨V2.heap.size, 0, none⟩) [(s : Int)] hse.out 1 1 rfl rfl rfl (by rw [intsP_len]; simp; unfold maxLen; omega) (by rw [intsP_len]; simp; omega) ?_; intro v' w' o1 g1 k1; have h4 := hI3.out.grow hs128 hX'.out o1 g1 k1; obtain ⟨g', cap', rfl, -⟩ := own_some' h4.row (by simp); have h4' := Lib.hid h4; clear h4 o1 g1 k1)
                go_roundw
                case rel => exact ⟨m + 1, l ++ [s], g', cap', by simp, by go_num, by omega, by simp; omega, (by rw [show (l ++ [s]).length = l.length + 1 by simp] at h4'; exact h4'), hstep⟩
                case measure => simp [intOf]; omega
              · have hin : s ∈ l := by simpa using hc
                rw [if_neg (fun h => h.2 hin)] at hstep
                rw [hc] at ys
                clear hc hin
                go_wp2
                rw [← hV'.out]
                clear hV'
                go_quiet (fail)
                have hI3 := Lib.hid (hI2.out.made (Below.drewN (Below.refl _ _) nq))
                go_wp2
                go_roundw
                case rel => exact ⟨m + 1, l, g, cap, rfl, by go_num, by omega, hkl, hI3, hstep⟩
                case measure => simp [intOf]; omega
            · rw [if_neg (fun h => hfa h.1)] at hstep
              have hfa2 : ((f : Int) == (a0 : Int)) = false := by simp; omega
              clear hfa ys
              go_wp2
              rw [← hV'.out]
              clear hV'
              go_quiet (fail)
              have hI3 := Lib.hid (hI2.out.made (Below.drewN (Below.refl _ _) nq))
              go_wp2
              go_roundw
              case rel => exact ⟨m + 1, l, g, cap, rfl, by go_num, by omega, hkl, hI3, hstep⟩
              case measure => simp [intOf]; omega
          · have hmi : ¬ (m : Int) < (pn3 : Int) := by omega
            have hme : m = (pairsE D).length := by rw [pairs_len, ← hz3.out]; omega
            have hF2 := Lib.hid (find_next (by rw [← hme]; exact hF.out))
            clear hF hme
            go_wp2
            go_roundw
            case rel => exact ⟨k + 1, l, g, cap, rfl, by go_num, by omega, hI, hF2⟩
            case measure => simp [intOf]; omega
      · have hki : ¬ (k : Int) < (l.length : Int) := by omega
        have hend := find_end hF.out (by omega : l.length ≤ k)
        have hsr := Lib.hid (sorted_reach hP.out hF.out.nodup hend)
        obtain ⟨g2, cap2, e2, hg2, hg3, hHo⟩ : ∃ g2 cap2, (Value.slice (some ⟨g, 0, none⟩) l.length cap : Value) = .slice (some ⟨g2, 0, none⟩) l.length cap2 ∧ u1.heap.size ≤ g2 ∧ g2 < wr.heap.size ∧ Sort.Holds (Value.int .i64) wr g2 0 (intsP l).toArray := by
          obtain ⟨g2, cap2, e, h1, h2, _, _, _, h3⟩ := Lib.holds_of_ownsRow (enc := Value.int .i64) hI.out.row (by intro e; cases e)
          exact ⟨g2, cap2, e, h1, h2, h3⟩
        injection e2 with e3 e4 e5
        injection e3 with e3
        injection e3 with e3
        subst e3 e5
        have hsort := Tryz.slices_Sort_int g 0 cap (intsP l) wr hHo hg3 (by rw [intsP_len]; omega)
        rw [intsP_len] at hsort
        have hS := Lib.hid hsort
        have hrow := Lib.hid (fun q os => ints_sorted (q := q) (os := os) hI.out.row)
        have hbl := Lib.hid (fun q os => BL.out.trans (((Lib.below_putRow (enc := Value.int .i64) (q := q) (d := ((intsP l).mergeSort fun x y => decide (x ≤ y)).toArray) hI.out.bel hg2).trans ((grow_below _ os).mono (by have := (Lib.below_putRow (enc := Value.int .i64) (q := q) (d := ((intsP l).mergeSort fun x y => decide (x ≤ y)).toArray) hI.out.bel hg2).size; exact this))).mono BL.out.size))
        have hlen : Hid (l.length = (intsP (reachN D)).length) := Lib.hid (by rw [← hsr.out, List.length_mergeSort, intsP_len])
        have hle : Hid ((intsP (reachN D)).length ≤ 1000) := Lib.hid (by rw [← hlen.out]; omega)
        have hus := Lib.hid BL.out.size
        clear hsort hHo hend hF hg3 e4
        go_wp2_with fail
        refine hS.out.mono ?_
        rintro e w7 ⟨rfl, q, os, rfl⟩
        have hr := hrow.out q os
        have hb := hbl.out q os
        clear hS hrow hbl
        generalize Sort.grow _ os = w8 at hr hb ⊢
        rw [hsr.out, ← hs.out] at hr
        have hfin := Lib.hid (slq_own (v := .slice (some ⟨g, 0, none⟩) l.length cap) (l := R) (own_from (by rw [← show l.length = R.length by rw [hs.out, ← hlen.out]]; exact hr) (fun b hb => by have := (hr.lt b hb).1; have := hus.out; omega)) (by rw [hs.out]; exact hle.out) hb)
        clear hr hb
        go_wp2
        go_ret
        exact hfin.out
theorem preach_any (p : PV) (D : PD) (w : World) (h : PrA w p D) : Calls Tryz.prog 15 #[.agg p.cells] w (SlP (reachP D) w) := (preach_new p D w h).mono fun _ _ h => h.p
end Go.Proofs.YtgeliikfgnkppaaGreatDoor
namespace Go.Proofs.YtgeliikfgnkppaaGreatDoor
open Go.RowKit
set_option linter.unusedVariables false
set_option linter.unusedSimpArgs false
def bolsP (l : List Bool) : List Value := l.map .bool
structure BolI (u : World) (g : Nat) (l : List Bool) (w : World) : Prop where
  low : u.heap.size ≤ g
  bel : Below u.heap.size u w
  row : w.ownsRow u.heap.size 4 1 (.slice (some ⟨g, 0, none⟩) l.length l.length) l.length (bolsP l)
theorem BolI.at_ {u : World} {g : Nat} {l : List Bool} {w : World} (h : BolI u g l w) {i : Nat} (hi : i < l.length) : w.cell? ⟨g, i, none⟩ = some (.bool (l.getD i false)) := by
  have := h.row.cells (g := g) rfl i (.bool (l.getD i false)) (by simp [bolsP, List.getD, hi])
  rw [add_at, Nat.zero_add] at this
  exact this
theorem BolI.set {u : World} {g : Nat} {l : List Bool} {w : World} (h : BolI u g l w) {i : Nat} (hi : i < l.length) : BolI u g (l.set i true) (w.setCell ⟨g, i, none⟩ (.bool true)) := by
  refine ⟨h.low, h.bel.setCell (p := ⟨g, i, none⟩) h.low _, ?_⟩
  have q := own_set h.row i hi (.bool true)
  rw [List.length_set]
  have e : bolsP (l.set i true) = (bolsP l).set i (.bool true) := by simp [bolsP, List.map_set]
  rw [e]
  exact q
theorem BolI.free {u : World} {g : Nat} {l : List Bool} {w : World} (h : BolI u g l w) (i : Nat) : w.frozen? ⟨g, i, none⟩ = false := own_free h.row i
end Go.Proofs.YtgeliikfgnkppaaGreatDoor
namespace Go.Proofs.YtgeliikfgnkppaaGreatDoor
set_option maxRecDepth 100000
def chkText : ByteArray := ⟨#[99, 104, 101, 99, 107, 32, 105, 32, 45, 32, 110, 32, 60, 61, 32, 45, 49]⟩
def addText : ByteArray := ⟨#[105, 32, 58, 61, 32, 105, 32, 43, 32, 48]⟩
def incText : ByteArray := ⟨#[105, 32, 58, 61, 32, 105, 32, 43, 32, 49]⟩
def anyV : List ByteArray := [⟨#[97, 110, 121]⟩]
theorem small_chk : chkP smallD = 0 := by kernel_rfl
theorem small_out : selP (outQ 1) smallD = [1, 3] := by kernel_rfl
theorem small_into : selP (intoQ 1) smallD = [0, 2] := by kernel_rfl
theorem small_reach : reachP smallD = [0, 1, 2, 3] := by kernel_rfl
def emptyD : PD := ⟨⟨#[]⟩, [], [], []⟩
theorem empty_chk : chkP emptyD = 110 := by kernel_rfl
theorem small_showE : showE smallD.vars 2 1 1 1 0 = 0 := by kernel_rfl
theorem small_showP : showP smallD.vars 2 1 1 1 0 = incText := by kernel_rfl
theorem any_showE : showE anyV 2 1 0 0 0 = 110 := by kernel_rfl
theorem small_right : rightB 1 0 0 0 0 0 = true := by kernel_rfl
theorem small_parse : parsedP smallD.vars chkText = ((5, 1, 2, -1, 0), 0) := by kernel_rfl
theorem small_noparse : (parsedP smallD.vars addText).2 = 111 := by kernel_rfl
end Go.Proofs.YtgeliikfgnkppaaGreatDoor
