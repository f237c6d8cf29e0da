/-
  Words and walks under the law's proof.
-/
import Derived.Lib.Hide
import Derived.Test.YtimgocfkogebmaaGreatDoorRows
import Derived.IntWalk
import Derived.Deep.QuietTactic
import Derived.BigQuiet
import Derived.Deep.WholeRow
import Derived.Laws.Tables
import Derived.Laws.Rows
import Derived.Laws.ResultCell
import Derived.Test.YtimgocfkogebmaaGreatDoorQR01
import Derived.Test.YtimgocfkogebmaaGreatDoorQR03
import Derived.Test.YtimgocfkogebmaaGreatDoorQR05
import Derived.Test.YtimgocfkogebmaaGreatDoorQR06
namespace Go.Proofs.YtimgocfkogebmaaGreatDoor
open Go.RowKit
set_option linter.unusedVariables false
set_option linter.unusedSimpArgs false
def progB (D : PD) : Bool := (decide (1 ≤ D.spots.length) && (decide (D.spots.length ≤ 128) && decide (D.edges.length ≤ 256))) && (nameB D.nm && (varsB D.vars && (D.spots.all spotB && D.edges.all (edgeB D.spots.length D.vars.length))))
def chkP (D : PD) : Int := if progB D = true then 0 else 110
theorem spots_at {w : World} {a : Option Addr} {n c : Nat} {l : List SpotD} (h : RO spotC w a n c l) {i : Nat} (hi : i < n) : ∃ b off, a = some ⟨b, off, none⟩ ∧ b < w.heap.size ∧ w.cell? ⟨b, off + i * 3, none⟩ = some (.string (l.getD i spot0).fn) ∧ w.cell? ⟨b, off + i * 3 + 1, none⟩ = some (.string (l.getD i spot0).file) ∧ w.cell? ⟨b, off + i * 3 + 2, none⟩ = some (.int .i64 (l.getD i spot0).line) := by
  obtain ⟨b, off, h1, h2, hc⟩ := h.at_ spotC_len (by decide) spot0 hi
  exact ⟨b, off, h1, h2, hc 0 (by decide), hc 1 (by decide), hc 2 (by decide)⟩
theorem edges_at {w : World} {a : Option Addr} {n c : Nat} {l : List EdgeD} (h : RO edgeC w a n c l) {i : Nat} (hi : i < n) : ∃ b off, a = some ⟨b, off, none⟩ ∧ b < w.heap.size ∧ w.cell? ⟨b, off + i * 7, none⟩ = some (.int .i64 (l.getD i edge0).frm) ∧ w.cell? ⟨b, off + i * 7 + 1, none⟩ = some (.int .i64 (l.getD i edge0).dst) ∧ w.cell? ⟨b, off + i * 7 + 2, none⟩ = some (.int .i64 (l.getD i edge0).k) ∧ w.cell? ⟨b, off + i * 7 + 3, none⟩ = some (.int .i64 (l.getD i edge0).x) ∧ w.cell? ⟨b, off + i * 7 + 4, none⟩ = some (.int .i64 (l.getD i edge0).y) ∧ w.cell? ⟨b, off + i * 7 + 5, none⟩ = some (.int .i64 (l.getD i edge0).c) ∧ w.cell? ⟨b, off + i * 7 + 6, none⟩ = some (.int .i64 (l.getD i edge0).d) := by
  obtain ⟨b, off, h1, h2, hc⟩ := h.at_ edgeC_len (by decide) edge0 hi
  exact ⟨b, off, h1, h2, hc 0 (by decide), hc 1 (by decide), hc 2 (by decide), hc 3 (by decide), hc 4 (by decide), hc 5 (by decide), hc 6 (by decide)⟩
theorem all_no {α : Type} {q : α → Bool} {l : List α} {d : α} {k : Nat} (hk : k < l.length) (h : q (l.getD k d) = false) : l.all q = false := by
  rw [List.all_eq_false]
  exact ⟨l.getD k d, by simp [List.getD, hk], by rw [h]; simp⟩
theorem all_yes {α : Type} {q : α → Bool} {l : List α} (d : α) (h : ∀ t, t < l.length → q (l.getD t d) = true) : l.all q = true := by
  rw [List.all_eq_true]
  intro x hx
  obtain ⟨t, ht, rfl⟩ := List.getElem_of_mem hx
  have := h t ht
  simpa [List.getD, ht] using this
def IdxE (b : Bool) (w : World) (e : Ending) (w' : World) : Prop := ∃ i : Int, decide (0 ≤ i) = b ∧ e = .returned (.int .i64 i) ∧ Below w.heap.size w w'
set_option maxRecDepth 100000 in
set_option maxHeartbeats 2000000 in
theorem spotsIdx_any (a : Option Addr) (n c : Nat) (l : List SpotD) (w : World) (h : RO spotC w a n c l) : Calls Tryz.prog 152 #[.slice a n c, .func (.func 103) #[] #[]] w (IdxE (!l.all spotB) w) := by
  have hn : n = l.length := h.len
  have hmax := h.max'
  have hmi : (n : Int) ≤ 9223372036854775807 := by omega
  have hlen := Lib.hid hn
  have T := Lib.hid h
  have hno := Lib.hid (fun k hk h => all_no (q := spotB) (l := l) (d := spot0) (k := k) hk h)
  have hyes := Lib.hid (fun h => all_yes (q := spotB) (l := l) spot0 h)
  clear h hn hmax
  generalize l.all spotB = R at *
  go_enter Tryz.func152, Tryz.ntmps152
  go_wp2
  go_loopw [8] (fun y wr => ∃ k : Nat, k ≤ n ∧ y = .int .i64 k ∧ Hid (∀ t, t < k → spotB (l.getD t spot0) = true) ∧ Hid (Below w.heap.size w wr)) (fun y _ => n - (intOf y).toNat)
  case atStart => exact ⟨0, Nat.zero_le _, rfl, Lib.hid (fun t ht => by omega), Lib.hid (Below.refl _ _)⟩
  case round =>
    obtain ⟨k, hk, rfl, hal, hB⟩ := hrel
    by_cases hlt : k < n
    · have hki : (k : Int) < (n : Int) := by omega
      obtain ⟨b, off, rfl, hbl, x0, x1, x2⟩ := spots_at (T.out.below hB.out) hlt
      have hno' := Lib.hid (hno.out k (by rw [← hlen.out]; exact hlt))
      have hyes' : Hid (spotB (l.getD k spot0) = true → ∀ t, t < k + 1 → spotB (l.getD t spot0) = true) := Lib.hid (fun h t ht => by
        by_cases e : t = k
        · rw [e]; exact h
        · exact hal.out t (by omega))
      obtain ⟨s, f, x, hs⟩ : ∃ s f x, l.getD k spot0 = (⟨s, f, x⟩ : SpotD) := ⟨_, _, _, rfl⟩
      rw [hs] at x0 x1 x2
      dsimp only at x0 x1 x2
      rw [hs] at hno' hyes'
      have q1 := Lib.hid (badSpot_any s f x wr)
      clear hal hno hs
      cases e1 : spotB (⟨s, f, x⟩ : SpotD)
      · have hf := Lib.hid (hno'.out e1)
        rw [e1] at q1
        clear hno' hyes' hyes e1
        go_wp2_with fail
        refine q1.out.mono ?_
        rintro e w1 ⟨rfl, b1⟩
        have hB2 := Lib.hid (hB.out.trans (b1.mono hB.out.size))
        go_wp2
        go_ret
        exact ⟨k, by rw [hf.out]; simp, rfl, hB2.out⟩
      · have hg := Lib.hid (hyes'.out e1)
        rw [e1] at q1
        clear hno' hyes' e1
        go_wp2_with fail
        refine q1.out.mono ?_
        rintro e w1 ⟨rfl, b1⟩
        have hB2 := Lib.hid (hB.out.trans (b1.mono hB.out.size))
        go_wp2
        go_roundw
        case rel => exact ⟨k + 1, by omega, by go_num, hg, hB2⟩
        case measure => simp [intOf]; omega
    · have hki : ¬ (k : Int) < (n : Int) := by omega
      have hf := Lib.hid (hyes.out (fun t ht => hal.out t (by rw [← hlen.out] at ht; omega)))
      clear hyes hno hal
      go_wp2
      go_ret
      exact ⟨-1, by rw [hf.out]; rfl, rfl, hB.out⟩
set_option maxRecDepth 100000 in
theorem spotsHas_any (a : Option Addr) (n c : Nat) (l : List SpotD) (w : World) (h : RO spotC w a n c l) : Calls Tryz.prog 109 #[.slice a n c, .func (.func 103) #[] #[]] w (Gives (.bool (!l.all spotB)) w) := by
  have q := Lib.hid (spotsIdx_any a n c l w h)
  generalize (!l.all spotB) = R at *
  clear h
  go_enter Tryz.func109, Tryz.ntmps109
  go_wp2_with fail
  refine q.out.mono ?_
  rintro e w1 ⟨i, hi, rfl, hb⟩
  have hi' := Lib.hid hi
  clear hi q
  go_wp2
  go_ret
  exact ⟨ret_bool hi'.out, hb⟩
set_option maxRecDepth 100000 in
set_option maxHeartbeats 2000000 in
theorem edgesIdx_any (p : PV) (g : Nat) (a : Option Addr) (n c : Nat) (l : List EdgeD) (w : World) (h : RO edgeC w a n c l) (hz : Holds w g 38 p.cells) : Calls Tryz.prog 153 #[.slice a n c, .func (.func 105) #[] #[.pointer (some ⟨g, 0, none⟩)]] w (IdxE (!l.all (edgeB p.n2 p.n1)) w) := by
  have hn : n = l.length := h.len
  have hmax := h.max'
  have hmi : (n : Int) ≤ 9223372036854775807 := by omega
  have hlen := Lib.hid hn
  have T := Lib.hid h
  have HZ := Lib.hid hz
  have hno := Lib.hid (fun k hk h => all_no (q := (edgeB p.n2 p.n1)) (l := l) (d := edge0) (k := k) hk h)
  have hyes := Lib.hid (fun h => all_yes (q := (edgeB p.n2 p.n1)) (l := l) edge0 h)
  clear h hn hmax hz
  generalize l.all (edgeB p.n2 p.n1) = R at *
  go_enter Tryz.func153, Tryz.ntmps153
  go_wp2
  go_loopw [8] (fun y wr => ∃ k : Nat, k ≤ n ∧ y = .int .i64 k ∧ Hid (∀ t, t < k → (edgeB p.n2 p.n1) (l.getD t edge0) = true) ∧ Hid (Below w.heap.size w wr)) (fun y _ => n - (intOf y).toNat)
  case atStart => exact ⟨0, Nat.zero_le _, rfl, Lib.hid (fun t ht => by omega), Lib.hid (Below.refl _ _)⟩
  case round =>
    obtain ⟨k, hk, rfl, hal, hB⟩ := hrel
    by_cases hlt : k < n
    · have hki : (k : Int) < (n : Int) := by omega
      obtain ⟨b, off, rfl, hbl, x0, x1, x2, x3, x4, x5, x6⟩ := edges_at (T.out.below hB.out) hlt
      have hno' := Lib.hid (hno.out k (by rw [← hlen.out]; exact hlt))
      have hyes' : Hid ((edgeB p.n2 p.n1) (l.getD k edge0) = true → ∀ t, t < k + 1 → (edgeB p.n2 p.n1) (l.getD t edge0) = true) := Lib.hid (fun h t ht => by
        by_cases e : t = k
        · rw [e]; exact h
        · exact hal.out t (by omega))
      obtain ⟨fr, ds, ek, ex, ey, ec, ed, hs⟩ : ∃ fr ds ek ex ey ec ed, l.getD k edge0 = (⟨fr, ds, ek, ex, ey, ec, ed⟩ : EdgeD) := ⟨_, _, _, _, _, _, _, rfl⟩
      rw [hs] at x0 x1 x2 x3 x4 x5 x6
      dsimp only at x0 x1 x2 x3 x4 x5 x6
      rw [hs] at hno' hyes'
      have q1 := Lib.hid (badEdge_any p g fr ds ek ex ey ec ed wr (HZ.out.below hB.out HZ.out.lt))
      clear hal hno hs
      cases e1 : (edgeB p.n2 p.n1) (⟨fr, ds, ek, ex, ey, ec, ed⟩ : EdgeD)
      · have hf := Lib.hid (hno'.out e1)
        rw [e1] at q1
        clear hno' hyes' hyes e1
        go_wp2_with fail
        refine q1.out.mono ?_
        rintro e w1 ⟨rfl, b1⟩
        have hB2 := Lib.hid (hB.out.trans (b1.mono hB.out.size))
        go_wp2
        go_ret
        exact ⟨k, by rw [hf.out]; simp, rfl, hB2.out⟩
      · have hg := Lib.hid (hyes'.out e1)
        rw [e1] at q1
        clear hno' hyes' e1
        go_wp2_with fail
        refine q1.out.mono ?_
        rintro e w1 ⟨rfl, b1⟩
        have hB2 := Lib.hid (hB.out.trans (b1.mono hB.out.size))
        go_wp2
        go_roundw
        case rel => exact ⟨k + 1, by omega, by go_num, hg, hB2⟩
        case measure => simp [intOf]; omega
    · have hki : ¬ (k : Int) < (n : Int) := by omega
      have hf := Lib.hid (hyes.out (fun t ht => hal.out t (by rw [← hlen.out] at ht; omega)))
      clear hyes hno hal
      go_wp2
      go_ret
      exact ⟨-1, by rw [hf.out]; rfl, rfl, hB.out⟩
set_option maxRecDepth 100000 in
theorem edgesHas_any (p : PV) (g : Nat) (a : Option Addr) (n c : Nat) (l : List EdgeD) (w : World) (h : RO edgeC w a n c l) (hz : Holds w g 38 p.cells) : Calls Tryz.prog 110 #[.slice a n c, .func (.func 105) #[] #[.pointer (some ⟨g, 0, none⟩)]] w (Gives (.bool (!l.all (edgeB p.n2 p.n1))) w) := by
  have q := Lib.hid (edgesIdx_any p g a n c l w h hz)
  generalize (!l.all (edgeB p.n2 p.n1)) = R at *
  clear h hz
  go_enter Tryz.func110, Tryz.ntmps110
  go_wp2_with fail
  refine q.out.mono ?_
  rintro e w1 ⟨i, hi, rfl, hb⟩
  have hi' := Lib.hid hi
  clear hi q
  go_wp2
  go_ret
  exact ⟨ret_bool hi'.out, hb⟩
set_option maxRecDepth 100000 in
set_option maxHeartbeats 4000000 in
theorem pcheck_any (p : PV) (D : PD) (w : World) (h : PrA w p D) : Calls Tryz.prog 61 #[.agg #[.string p.nm, .slice p.a1 p.n1 p.c1, .slice p.a2 p.n2 p.c2, .slice p.a3 p.n3 p.c3]] w (Gives (.int .i64 (chkP D)) w) := by
  have hmf : ∀ (fn : Fn) (first cap : Array Value) (w : World), (Instr.makeFunc fn first cap).run Tryz.prog w = .ok (.func fn first cap) w := fun _ _ _ _ => rfl
  have hR : Hid (progB D = ((decide (1 ≤ p.n2) && (decide (p.n2 ≤ 128) && decide (p.n3 ≤ 256))) && (nameB p.nm && (varsB D.vars && (D.spots.all spotB && D.edges.all (edgeB p.n2 p.n1)))))) := Lib.hid (by unfold progB; rw [h.nm, h.vars.len, h.spots.len, h.edges.len])
  have hC : Hid (chkP D = if progB D = true then 0 else 110) := Lib.hid rfl
  have q1 := Lib.hid (fun W => name_any p.nm W)
  have q2 := Lib.hid (fun W (hW : TT W p.a1 p.n1 p.c1 D.vars) => rightVars_any p.a1 p.n1 p.c1 D.vars W hW)
  have q3 := Lib.hid (fun W (hW : RO spotC W p.a2 p.n2 p.c2 D.spots) => spotsHas_any p.a2 p.n2 p.c2 D.spots W hW)
  have q4 := Lib.hid (fun W (hW : RO edgeC W p.a3 p.n3 p.c3 D.edges) (hz : Holds W w.heap.size 38 p.cells) => edgesHas_any p w.heap.size p.a3 p.n3 p.c3 D.edges W hW hz)
  generalize chkP D = R at *
  generalize progB D = Q at *
  generalize nameB p.nm = bn at *
  generalize varsB D.vars = bv at *
  generalize D.spots.all spotB = bs at *
  generalize D.edges.all (edgeB p.n2 p.n1) = be at *
  by_cases g1 : 1 ≤ p.n2
  rotate_left
  · have i1 : ¬ (1 : Int) ≤ (p.n2 : Int) := by omega
    have hF : Hid (R = 110) := Lib.hid (by rw [hC.out, hR.out, decide_eq_false g1]; rfl)
    clear hR hC
    obtain ⟨W1, hW1⟩ : ∃ W1, W1 = w.alloc (.cells #[.string p.nm, .slice p.a1 p.n1 p.c1, .slice p.a2 p.n2 p.c2, .slice p.a3 p.n3 p.c3] 38) := ⟨_, rfl⟩
    have Z : Hid (Holds W1 (w.heap.size) 38 #[.string p.nm, .slice p.a1 p.n1 p.c1, .slice p.a2 p.n2 p.c2, .slice p.a3 p.n3 p.c3]) := Lib.hid (by rw [hW1]; exact Holds.new w _ _)
    have BL := Lib.hid (show Below w.heap.size w W1 by rw [hW1]; exact box_below _ _ _)
    have V := Lib.hid (h.vars.below BL.out)
    have SP := Lib.hid (h.spots.below BL.out)
    have ED := Lib.hid (h.edges.below BL.out)
    have hW1' := Lib.hid hW1
    clear hW1
    clear h
    go_enter Tryz.func61, Tryz.ntmps61
    have k1 := Z.out.cell 0
    have k2 := Z.out.cell 1
    have k3 := Z.out.cell 2
    have k4 := Z.out.cell 3
    go_wp2
    go_ret
    rw [← hW1'.out]
    exact ⟨ret_int hF.out.symm, BL.out⟩
  have i1 : (1 : Int) ≤ (p.n2 : Int) := by omega
  by_cases g2 : p.n2 ≤ 128
  rotate_left
  · have i2 : ¬ (p.n2 : Int) ≤ 128 := by omega
    have hF : Hid (R = 110) := Lib.hid (by rw [hC.out, hR.out, decide_eq_true g1, decide_eq_false g2]; rfl)
    clear hR hC
    obtain ⟨W1, hW1⟩ : ∃ W1, W1 = w.alloc (.cells #[.string p.nm, .slice p.a1 p.n1 p.c1, .slice p.a2 p.n2 p.c2, .slice p.a3 p.n3 p.c3] 38) := ⟨_, rfl⟩
    have Z : Hid (Holds W1 (w.heap.size) 38 #[.string p.nm, .slice p.a1 p.n1 p.c1, .slice p.a2 p.n2 p.c2, .slice p.a3 p.n3 p.c3]) := Lib.hid (by rw [hW1]; exact Holds.new w _ _)
    have BL := Lib.hid (show Below w.heap.size w W1 by rw [hW1]; exact box_below _ _ _)
    have V := Lib.hid (h.vars.below BL.out)
    have SP := Lib.hid (h.spots.below BL.out)
    have ED := Lib.hid (h.edges.below BL.out)
    have hW1' := Lib.hid hW1
    clear hW1
    clear h
    go_enter Tryz.func61, Tryz.ntmps61
    have k1 := Z.out.cell 0
    have k2 := Z.out.cell 1
    have k3 := Z.out.cell 2
    have k4 := Z.out.cell 3
    go_wp2
    go_ret
    rw [← hW1'.out]
    exact ⟨ret_int hF.out.symm, BL.out⟩
  have i2 : (p.n2 : Int) ≤ 128 := by omega
  by_cases g3 : p.n3 ≤ 256
  rotate_left
  · have i3 : ¬ (p.n3 : Int) ≤ 256 := by omega
    have hF : Hid (R = 110) := Lib.hid (by rw [hC.out, hR.out, decide_eq_true g1, decide_eq_true g2, decide_eq_false g3]; rfl)
    clear hR hC
    obtain ⟨W1, hW1⟩ : ∃ W1, W1 = w.alloc (.cells #[.string p.nm, .slice p.a1 p.n1 p.c1, .slice p.a2 p.n2 p.c2, .slice p.a3 p.n3 p.c3] 38) := ⟨_, rfl⟩
    have Z : Hid (Holds W1 (w.heap.size) 38 #[.string p.nm, .slice p.a1 p.n1 p.c1, .slice p.a2 p.n2 p.c2, .slice p.a3 p.n3 p.c3]) := Lib.hid (by rw [hW1]; exact Holds.new w _ _)
    have BL := Lib.hid (show Below w.heap.size w W1 by rw [hW1]; exact box_below _ _ _)
    have V := Lib.hid (h.vars.below BL.out)
    have SP := Lib.hid (h.spots.below BL.out)
    have ED := Lib.hid (h.edges.below BL.out)
    have hW1' := Lib.hid hW1
    clear hW1
    clear h
    go_enter Tryz.func61, Tryz.ntmps61
    have k1 := Z.out.cell 0
    have k2 := Z.out.cell 1
    have k3 := Z.out.cell 2
    have k4 := Z.out.cell 3
    go_wp2
    go_ret
    rw [← hW1'.out]
    exact ⟨ret_int hF.out.symm, BL.out⟩
  have i3 : (p.n3 : Int) ≤ 256 := by omega
  cases bn
  · have hF : Hid (R = 110) := Lib.hid (by rw [hC.out, hR.out, decide_eq_true g1, decide_eq_true g2, decide_eq_true g3]; rfl)
    clear hR hC
    obtain ⟨W1, hW1⟩ : ∃ W1, W1 = w.alloc (.cells #[.string p.nm, .slice p.a1 p.n1 p.c1, .slice p.a2 p.n2 p.c2, .slice p.a3 p.n3 p.c3] 38) := ⟨_, rfl⟩
    have Z : Hid (Holds W1 (w.heap.size) 38 #[.string p.nm, .slice p.a1 p.n1 p.c1, .slice p.a2 p.n2 p.c2, .slice p.a3 p.n3 p.c3]) := Lib.hid (by rw [hW1]; exact Holds.new w _ _)
    have BL := Lib.hid (show Below w.heap.size w W1 by rw [hW1]; exact box_below _ _ _)
    have V := Lib.hid (h.vars.below BL.out)
    have SP := Lib.hid (h.spots.below BL.out)
    have ED := Lib.hid (h.edges.below BL.out)
    have hW1' := Lib.hid hW1
    clear hW1
    clear h
    go_enter Tryz.func61, Tryz.ntmps61
    have k1 := Z.out.cell 0
    have k2 := Z.out.cell 1
    have k3 := Z.out.cell 2
    have k4 := Z.out.cell 3
    have q := Lib.hid (q1.out W1)
    go_wp2_with fail
    rw [← hW1'.out]
    with_reducible refine q.out.mono ?_
    rintro e u1 ⟨rfl, b1⟩
    clear k1 k2 k3 k4
    clear hW1'
    clear q
    have k5 : u1.cell? ⟨w.heap.size, 0, none⟩ = some (.string p.nm) := (Z.out.below b1 Z.out.lt).cell 0
    have k6 : u1.cell? ⟨w.heap.size, 1, none⟩ = some (.slice p.a1 p.n1 p.c1) := (Z.out.below b1 Z.out.lt).cell 1
    have k7 : u1.cell? ⟨w.heap.size, 2, none⟩ = some (.slice p.a2 p.n2 p.c2) := (Z.out.below b1 Z.out.lt).cell 2
    have k8 : u1.cell? ⟨w.heap.size, 3, none⟩ = some (.slice p.a3 p.n3 p.c3) := (Z.out.below b1 Z.out.lt).cell 3
    replace Z := Lib.hid (Z.out.below b1 Z.out.lt)
    replace BL := Lib.hid (BL.out.trans (b1.mono BL.out.size))
    replace V := Lib.hid (V.out.below b1)
    replace SP := Lib.hid (SP.out.below b1)
    replace ED := Lib.hid (ED.out.below b1)
    clear b1
    go_wp2
    go_ret
    exact ⟨ret_int hF.out.symm, BL.out⟩
  cases bv
  · have hF : Hid (R = 110) := Lib.hid (by rw [hC.out, hR.out, decide_eq_true g1, decide_eq_true g2, decide_eq_true g3]; rfl)
    clear hR hC
    obtain ⟨W1, hW1⟩ : ∃ W1, W1 = w.alloc (.cells #[.string p.nm, .slice p.a1 p.n1 p.c1, .slice p.a2 p.n2 p.c2, .slice p.a3 p.n3 p.c3] 38) := ⟨_, rfl⟩
    have Z : Hid (Holds W1 (w.heap.size) 38 #[.string p.nm, .slice p.a1 p.n1 p.c1, .slice p.a2 p.n2 p.c2, .slice p.a3 p.n3 p.c3]) := Lib.hid (by rw [hW1]; exact Holds.new w _ _)
    have BL := Lib.hid (show Below w.heap.size w W1 by rw [hW1]; exact box_below _ _ _)
    have V := Lib.hid (h.vars.below BL.out)
    have SP := Lib.hid (h.spots.below BL.out)
    have ED := Lib.hid (h.edges.below BL.out)
    have hW1' := Lib.hid hW1
    clear hW1
    clear h
    go_enter Tryz.func61, Tryz.ntmps61
    have k1 := Z.out.cell 0
    have k2 := Z.out.cell 1
    have k3 := Z.out.cell 2
    have k4 := Z.out.cell 3
    have q := Lib.hid (q1.out W1)
    go_wp2_with fail
    rw [← hW1'.out]
    with_reducible refine q.out.mono ?_
    rintro e u1 ⟨rfl, b1⟩
    clear k1 k2 k3 k4
    clear hW1'
    clear q
    have k5 : u1.cell? ⟨w.heap.size, 0, none⟩ = some (.string p.nm) := (Z.out.below b1 Z.out.lt).cell 0
    have k6 : u1.cell? ⟨w.heap.size, 1, none⟩ = some (.slice p.a1 p.n1 p.c1) := (Z.out.below b1 Z.out.lt).cell 1
    have k7 : u1.cell? ⟨w.heap.size, 2, none⟩ = some (.slice p.a2 p.n2 p.c2) := (Z.out.below b1 Z.out.lt).cell 2
    have k8 : u1.cell? ⟨w.heap.size, 3, none⟩ = some (.slice p.a3 p.n3 p.c3) := (Z.out.below b1 Z.out.lt).cell 3
    replace Z := Lib.hid (Z.out.below b1 Z.out.lt)
    replace BL := Lib.hid (BL.out.trans (b1.mono BL.out.size))
    replace V := Lib.hid (V.out.below b1)
    replace SP := Lib.hid (SP.out.below b1)
    replace ED := Lib.hid (ED.out.below b1)
    clear b1
    have q := Lib.hid (q2.out u1 V.out)
    go_wp2_with fail
    with_reducible refine q.out.mono ?_
    rintro e u2 ⟨rfl, b2⟩
    clear k5 k6 k7 k8
    clear q
    have k9 : u2.cell? ⟨w.heap.size, 0, none⟩ = some (.string p.nm) := (Z.out.below b2 Z.out.lt).cell 0
    have k10 : u2.cell? ⟨w.heap.size, 1, none⟩ = some (.slice p.a1 p.n1 p.c1) := (Z.out.below b2 Z.out.lt).cell 1
    have k11 : u2.cell? ⟨w.heap.size, 2, none⟩ = some (.slice p.a2 p.n2 p.c2) := (Z.out.below b2 Z.out.lt).cell 2
    have k12 : u2.cell? ⟨w.heap.size, 3, none⟩ = some (.slice p.a3 p.n3 p.c3) := (Z.out.below b2 Z.out.lt).cell 3
    replace Z := Lib.hid (Z.out.below b2 Z.out.lt)
    replace BL := Lib.hid (BL.out.trans (b2.mono BL.out.size))
    replace V := Lib.hid (V.out.below b2)
    replace SP := Lib.hid (SP.out.below b2)
    replace ED := Lib.hid (ED.out.below b2)
    clear b2
    go_wp2
    go_ret
    exact ⟨ret_int hF.out.symm, BL.out⟩
  cases bs
  · have hF : Hid (R = 110) := Lib.hid (by rw [hC.out, hR.out, decide_eq_true g1, decide_eq_true g2, decide_eq_true g3]; rfl)
    clear hR hC
    obtain ⟨W1, hW1⟩ : ∃ W1, W1 = w.alloc (.cells #[.string p.nm, .slice p.a1 p.n1 p.c1, .slice p.a2 p.n2 p.c2, .slice p.a3 p.n3 p.c3] 38) := ⟨_, rfl⟩
    have Z : Hid (Holds W1 (w.heap.size) 38 #[.string p.nm, .slice p.a1 p.n1 p.c1, .slice p.a2 p.n2 p.c2, .slice p.a3 p.n3 p.c3]) := Lib.hid (by rw [hW1]; exact Holds.new w _ _)
    have BL := Lib.hid (show Below w.heap.size w W1 by rw [hW1]; exact box_below _ _ _)
    have V := Lib.hid (h.vars.below BL.out)
    have SP := Lib.hid (h.spots.below BL.out)
    have ED := Lib.hid (h.edges.below BL.out)
    have hW1' := Lib.hid hW1
    clear hW1
    clear h
    go_enter Tryz.func61, Tryz.ntmps61
    have k1 := Z.out.cell 0
    have k2 := Z.out.cell 1
    have k3 := Z.out.cell 2
    have k4 := Z.out.cell 3
    have q := Lib.hid (q1.out W1)
    go_wp2_with fail
    rw [← hW1'.out]
    with_reducible refine q.out.mono ?_
    rintro e u1 ⟨rfl, b1⟩
    clear k1 k2 k3 k4
    clear hW1'
    clear q
    have k5 : u1.cell? ⟨w.heap.size, 0, none⟩ = some (.string p.nm) := (Z.out.below b1 Z.out.lt).cell 0
    have k6 : u1.cell? ⟨w.heap.size, 1, none⟩ = some (.slice p.a1 p.n1 p.c1) := (Z.out.below b1 Z.out.lt).cell 1
    have k7 : u1.cell? ⟨w.heap.size, 2, none⟩ = some (.slice p.a2 p.n2 p.c2) := (Z.out.below b1 Z.out.lt).cell 2
    have k8 : u1.cell? ⟨w.heap.size, 3, none⟩ = some (.slice p.a3 p.n3 p.c3) := (Z.out.below b1 Z.out.lt).cell 3
    replace Z := Lib.hid (Z.out.below b1 Z.out.lt)
    replace BL := Lib.hid (BL.out.trans (b1.mono BL.out.size))
    replace V := Lib.hid (V.out.below b1)
    replace SP := Lib.hid (SP.out.below b1)
    replace ED := Lib.hid (ED.out.below b1)
    clear b1
    have q := Lib.hid (q2.out u1 V.out)
    go_wp2_with fail
    with_reducible refine q.out.mono ?_
    rintro e u2 ⟨rfl, b2⟩
    clear k5 k6 k7 k8
    clear q
    have k9 : u2.cell? ⟨w.heap.size, 0, none⟩ = some (.string p.nm) := (Z.out.below b2 Z.out.lt).cell 0
    have k10 : u2.cell? ⟨w.heap.size, 1, none⟩ = some (.slice p.a1 p.n1 p.c1) := (Z.out.below b2 Z.out.lt).cell 1
    have k11 : u2.cell? ⟨w.heap.size, 2, none⟩ = some (.slice p.a2 p.n2 p.c2) := (Z.out.below b2 Z.out.lt).cell 2
    have k12 : u2.cell? ⟨w.heap.size, 3, none⟩ = some (.slice p.a3 p.n3 p.c3) := (Z.out.below b2 Z.out.lt).cell 3
    replace Z := Lib.hid (Z.out.below b2 Z.out.lt)
    replace BL := Lib.hid (BL.out.trans (b2.mono BL.out.size))
    replace V := Lib.hid (V.out.below b2)
    replace SP := Lib.hid (SP.out.below b2)
    replace ED := Lib.hid (ED.out.below b2)
    clear b2
    have q := Lib.hid (q3.out u2 SP.out)
    go_wp2_with fail
    with_reducible refine q.out.mono ?_
    rintro e u3 ⟨rfl, b3⟩
    clear k9 k10 k11 k12
    clear q
    have k13 : u3.cell? ⟨w.heap.size, 0, none⟩ = some (.string p.nm) := (Z.out.below b3 Z.out.lt).cell 0
    have k14 : u3.cell? ⟨w.heap.size, 1, none⟩ = some (.slice p.a1 p.n1 p.c1) := (Z.out.below b3 Z.out.lt).cell 1
    have k15 : u3.cell? ⟨w.heap.size, 2, none⟩ = some (.slice p.a2 p.n2 p.c2) := (Z.out.below b3 Z.out.lt).cell 2
    have k16 : u3.cell? ⟨w.heap.size, 3, none⟩ = some (.slice p.a3 p.n3 p.c3) := (Z.out.below b3 Z.out.lt).cell 3
    replace Z := Lib.hid (Z.out.below b3 Z.out.lt)
    replace BL := Lib.hid (BL.out.trans (b3.mono BL.out.size))
    replace V := Lib.hid (V.out.below b3)
    replace SP := Lib.hid (SP.out.below b3)
    replace ED := Lib.hid (ED.out.below b3)
    clear b3
    go_wp2
    go_ret
    exact ⟨ret_int hF.out.symm, BL.out⟩
  cases be
  · have hF : Hid (R = 110) := Lib.hid (by rw [hC.out, hR.out, decide_eq_true g1, decide_eq_true g2, decide_eq_true g3]; rfl)
    clear hR hC
    obtain ⟨W1, hW1⟩ : ∃ W1, W1 = w.alloc (.cells #[.string p.nm, .slice p.a1 p.n1 p.c1, .slice p.a2 p.n2 p.c2, .slice p.a3 p.n3 p.c3] 38) := ⟨_, rfl⟩
    have Z : Hid (Holds W1 (w.heap.size) 38 #[.string p.nm, .slice p.a1 p.n1 p.c1, .slice p.a2 p.n2 p.c2, .slice p.a3 p.n3 p.c3]) := Lib.hid (by rw [hW1]; exact Holds.new w _ _)
    have BL := Lib.hid (show Below w.heap.size w W1 by rw [hW1]; exact box_below _ _ _)
    have V := Lib.hid (h.vars.below BL.out)
    have SP := Lib.hid (h.spots.below BL.out)
    have ED := Lib.hid (h.edges.below BL.out)
    have hW1' := Lib.hid hW1
    clear hW1
    clear h
    go_enter Tryz.func61, Tryz.ntmps61
    have k1 := Z.out.cell 0
    have k2 := Z.out.cell 1
    have k3 := Z.out.cell 2
    have k4 := Z.out.cell 3
    have q := Lib.hid (q1.out W1)
    go_wp2_with fail
    rw [← hW1'.out]
    with_reducible refine q.out.mono ?_
    rintro e u1 ⟨rfl, b1⟩
    clear k1 k2 k3 k4
    clear hW1'
    clear q
    have k5 : u1.cell? ⟨w.heap.size, 0, none⟩ = some (.string p.nm) := (Z.out.below b1 Z.out.lt).cell 0
    have k6 : u1.cell? ⟨w.heap.size, 1, none⟩ = some (.slice p.a1 p.n1 p.c1) := (Z.out.below b1 Z.out.lt).cell 1
    have k7 : u1.cell? ⟨w.heap.size, 2, none⟩ = some (.slice p.a2 p.n2 p.c2) := (Z.out.below b1 Z.out.lt).cell 2
    have k8 : u1.cell? ⟨w.heap.size, 3, none⟩ = some (.slice p.a3 p.n3 p.c3) := (Z.out.below b1 Z.out.lt).cell 3
    replace Z := Lib.hid (Z.out.below b1 Z.out.lt)
    replace BL := Lib.hid (BL.out.trans (b1.mono BL.out.size))
    replace V := Lib.hid (V.out.below b1)
    replace SP := Lib.hid (SP.out.below b1)
    replace ED := Lib.hid (ED.out.below b1)
    clear b1
    have q := Lib.hid (q2.out u1 V.out)
    go_wp2_with fail
    with_reducible refine q.out.mono ?_
    rintro e u2 ⟨rfl, b2⟩
    clear k5 k6 k7 k8
    clear q
    have k9 : u2.cell? ⟨w.heap.size, 0, none⟩ = some (.string p.nm) := (Z.out.below b2 Z.out.lt).cell 0
    have k10 : u2.cell? ⟨w.heap.size, 1, none⟩ = some (.slice p.a1 p.n1 p.c1) := (Z.out.below b2 Z.out.lt).cell 1
    have k11 : u2.cell? ⟨w.heap.size, 2, none⟩ = some (.slice p.a2 p.n2 p.c2) := (Z.out.below b2 Z.out.lt).cell 2
    have k12 : u2.cell? ⟨w.heap.size, 3, none⟩ = some (.slice p.a3 p.n3 p.c3) := (Z.out.below b2 Z.out.lt).cell 3
    replace Z := Lib.hid (Z.out.below b2 Z.out.lt)
    replace BL := Lib.hid (BL.out.trans (b2.mono BL.out.size))
    replace V := Lib.hid (V.out.below b2)
    replace SP := Lib.hid (SP.out.below b2)
    replace ED := Lib.hid (ED.out.below b2)
    clear b2
    have q := Lib.hid (q3.out u2 SP.out)
    go_wp2_with fail
    with_reducible refine q.out.mono ?_
    rintro e u3 ⟨rfl, b3⟩
    clear k9 k10 k11 k12
    clear q
    have k13 : u3.cell? ⟨w.heap.size, 0, none⟩ = some (.string p.nm) := (Z.out.below b3 Z.out.lt).cell 0
    have k14 : u3.cell? ⟨w.heap.size, 1, none⟩ = some (.slice p.a1 p.n1 p.c1) := (Z.out.below b3 Z.out.lt).cell 1
    have k15 : u3.cell? ⟨w.heap.size, 2, none⟩ = some (.slice p.a2 p.n2 p.c2) := (Z.out.below b3 Z.out.lt).cell 2
    have k16 : u3.cell? ⟨w.heap.size, 3, none⟩ = some (.slice p.a3 p.n3 p.c3) := (Z.out.below b3 Z.out.lt).cell 3
    replace Z := Lib.hid (Z.out.below b3 Z.out.lt)
    replace BL := Lib.hid (BL.out.trans (b3.mono BL.out.size))
    replace V := Lib.hid (V.out.below b3)
    replace SP := Lib.hid (SP.out.below b3)
    replace ED := Lib.hid (ED.out.below b3)
    clear b3
    have q := Lib.hid (q4.out u3 ED.out Z.out)
    go_wp2_with fail
    with_reducible refine q.out.mono ?_
    rintro e u4 ⟨rfl, b4⟩
    clear k13 k14 k15 k16
    clear q
    replace Z := Lib.hid (Z.out.below b4 Z.out.lt)
    replace BL := Lib.hid (BL.out.trans (b4.mono BL.out.size))
    replace V := Lib.hid (V.out.below b4)
    replace SP := Lib.hid (SP.out.below b4)
    replace ED := Lib.hid (ED.out.below b4)
    clear b4
    go_wp2
    go_ret
    exact ⟨ret_int hF.out.symm, BL.out⟩
  have hF : Hid (R = 0) := Lib.hid (by rw [hC.out, hR.out, decide_eq_true g1, decide_eq_true g2, decide_eq_true g3]; rfl)
  clear hR hC
  obtain ⟨W1, hW1⟩ : ∃ W1, W1 = w.alloc (.cells #[.string p.nm, .slice p.a1 p.n1 p.c1, .slice p.a2 p.n2 p.c2, .slice p.a3 p.n3 p.c3] 38) := ⟨_, rfl⟩
  have Z : Hid (Holds W1 (w.heap.size) 38 #[.string p.nm, .slice p.a1 p.n1 p.c1, .slice p.a2 p.n2 p.c2, .slice p.a3 p.n3 p.c3]) := Lib.hid (by rw [hW1]; exact Holds.new w _ _)
  have BL := Lib.hid (show Below w.heap.size w W1 by rw [hW1]; exact box_below _ _ _)
  have V := Lib.hid (h.vars.below BL.out)
  have SP := Lib.hid (h.spots.below BL.out)
  have ED := Lib.hid (h.edges.below BL.out)
  have hW1' := Lib.hid hW1
  clear hW1
  clear h
  go_enter Tryz.func61, Tryz.ntmps61
  have k1 := Z.out.cell 0
  have k2 := Z.out.cell 1
  have k3 := Z.out.cell 2
  have k4 := Z.out.cell 3
  have q := Lib.hid (q1.out W1)
  go_wp2_with fail
  rw [← hW1'.out]
  with_reducible refine q.out.mono ?_
  rintro e u1 ⟨rfl, b1⟩
  clear k1 k2 k3 k4
  clear hW1'
  clear q
  have k5 : u1.cell? ⟨w.heap.size, 0, none⟩ = some (.string p.nm) := (Z.out.below b1 Z.out.lt).cell 0
  have k6 : u1.cell? ⟨w.heap.size, 1, none⟩ = some (.slice p.a1 p.n1 p.c1) := (Z.out.below b1 Z.out.lt).cell 1
  have k7 : u1.cell? ⟨w.heap.size, 2, none⟩ = some (.slice p.a2 p.n2 p.c2) := (Z.out.below b1 Z.out.lt).cell 2
  have k8 : u1.cell? ⟨w.heap.size, 3, none⟩ = some (.slice p.a3 p.n3 p.c3) := (Z.out.below b1 Z.out.lt).cell 3
  replace Z := Lib.hid (Z.out.below b1 Z.out.lt)
  replace BL := Lib.hid (BL.out.trans (b1.mono BL.out.size))
  replace V := Lib.hid (V.out.below b1)
  replace SP := Lib.hid (SP.out.below b1)
  replace ED := Lib.hid (ED.out.below b1)
  clear b1
  have q := Lib.hid (q2.out u1 V.out)
  go_wp2_with fail
  with_reducible refine q.out.mono ?_
  rintro e u2 ⟨rfl, b2⟩
  clear k5 k6 k7 k8
  clear q
  have k9 : u2.cell? ⟨w.heap.size, 0, none⟩ = some (.string p.nm) := (Z.out.below b2 Z.out.lt).cell 0
  have k10 : u2.cell? ⟨w.heap.size, 1, none⟩ = some (.slice p.a1 p.n1 p.c1) := (Z.out.below b2 Z.out.lt).cell 1
  have k11 : u2.cell? ⟨w.heap.size, 2, none⟩ = some (.slice p.a2 p.n2 p.c2) := (Z.out.below b2 Z.out.lt).cell 2
  have k12 : u2.cell? ⟨w.heap.size, 3, none⟩ = some (.slice p.a3 p.n3 p.c3) := (Z.out.below b2 Z.out.lt).cell 3
  replace Z := Lib.hid (Z.out.below b2 Z.out.lt)
  replace BL := Lib.hid (BL.out.trans (b2.mono BL.out.size))
  replace V := Lib.hid (V.out.below b2)
  replace SP := Lib.hid (SP.out.below b2)
  replace ED := Lib.hid (ED.out.below b2)
  clear b2
  have q := Lib.hid (q3.out u2 SP.out)
  go_wp2_with fail
  with_reducible refine q.out.mono ?_
  rintro e u3 ⟨rfl, b3⟩
  clear k9 k10 k11 k12
  clear q
  have k13 : u3.cell? ⟨w.heap.size, 0, none⟩ = some (.string p.nm) := (Z.out.below b3 Z.out.lt).cell 0
  have k14 : u3.cell? ⟨w.heap.size, 1, none⟩ = some (.slice p.a1 p.n1 p.c1) := (Z.out.below b3 Z.out.lt).cell 1
  have k15 : u3.cell? ⟨w.heap.size, 2, none⟩ = some (.slice p.a2 p.n2 p.c2) := (Z.out.below b3 Z.out.lt).cell 2
  have k16 : u3.cell? ⟨w.heap.size, 3, none⟩ = some (.slice p.a3 p.n3 p.c3) := (Z.out.below b3 Z.out.lt).cell 3
  replace Z := Lib.hid (Z.out.below b3 Z.out.lt)
  replace BL := Lib.hid (BL.out.trans (b3.mono BL.out.size))
  replace V := Lib.hid (V.out.below b3)
  replace SP := Lib.hid (SP.out.below b3)
  replace ED := Lib.hid (ED.out.below b3)
  clear b3
  have q := Lib.hid (q4.out u3 ED.out Z.out)
  go_wp2_with fail
  with_reducible refine q.out.mono ?_
  rintro e u4 ⟨rfl, b4⟩
  clear k13 k14 k15 k16
  clear q
  replace Z := Lib.hid (Z.out.below b4 Z.out.lt)
  replace BL := Lib.hid (BL.out.trans (b4.mono BL.out.size))
  replace V := Lib.hid (V.out.below b4)
  replace SP := Lib.hid (SP.out.below b4)
  replace ED := Lib.hid (ED.out.below b4)
  clear b4
  go_wp2
  go_ret
  exact ⟨ret_int hF.out.symm, BL.out⟩
end Go.Proofs.YtimgocfkogebmaaGreatDoor
namespace Go.Proofs.YtimgocfkogebmaaGreatDoor
open Go.RowKit
set_option linter.unusedVariables false
set_option linter.unusedSimpArgs false
def zd0 : Int × List Int := (0, [])
structure ZRow (w : World) (a : Option Addr) (n c : Nat) (L : List (Int × List Int)) : Prop where
  len : n = L.length
  cap : n ≤ c
  max : c ≤ maxLen
  sees : n = 0 ∨ ∃ b off, a = some ⟨b, off, none⟩ ∧ b < w.heap.size ∧ ∀ i, i < n → w.cell? ⟨b, off + i * 2, none⟩ = some (.int .i64 (L.getD i zd0).1) ∧ ∃ a' m' c', w.cell? ⟨b, off + i * 2 + 1, none⟩ = some (.slice a' m' c') ∧ SL w a' m' c' (L.getD i zd0).2
theorem ZRow.below {w w' : World} {a : Option Addr} {n c : Nat} {L : List (Int × List Int)} (h : ZRow w a n c L) (hb : Below w.heap.size w w') : ZRow w' a n c L := by
  refine ⟨h.len, h.cap, h.max, ?_⟩
  rcases h.sees with h0 | ⟨b, off, rfl, hB, hc⟩
  · exact .inl h0
  · refine .inr ⟨b, off, rfl, Nat.lt_of_lt_of_le hB hb.size, fun i hi => ?_⟩
    obtain ⟨h1, a', m', c', h2, h3⟩ := hc i hi
    exact ⟨(hb.cell (p := ⟨b, off + i * 2, none⟩) hB).trans h1, a', m', c', (hb.cell (p := ⟨b, off + i * 2 + 1, none⟩) hB).trans h2, h3.below hb⟩
theorem ZRow.nil (w : World) : ZRow w none 0 0 [] := ⟨rfl, Nat.le_refl _, by simp [maxLen], .inl rfl⟩
theorem ZRow.at_ {w : World} {a : Option Addr} {n c : Nat} {L : List (Int × List Int)} (h : ZRow w a n c L) {i : Nat} (hi : i < n) :
    ∃ b off a' m' c', a = some ⟨b, off, none⟩ ∧ b < w.heap.size ∧ w.cell? ⟨b, off + i * 2, none⟩ = some (.int .i64 (L.getD i zd0).1) ∧ w.cell? ⟨b, off + i * 2 + 1, none⟩ = some (.slice a' m' c') ∧ SL w a' m' c' (L.getD i zd0).2 := by
  rcases h.sees with h0 | ⟨b, off, rfl, hB, hc⟩
  · omega
  · obtain ⟨h1, a', m', c', h2, h3⟩ := hc i hi
    exact ⟨b, off, a', m', c', rfl, hB, h1, h2, h3⟩
theorem ZRow.max' {w : World} {a : Option Addr} {n c : Nat} {L : List (Int × List Int)} (h : ZRow w a n c L) : n ≤ 9223372036854775807 := by
  have h1 := h.cap
  have h2 := h.max
  unfold maxLen at h2
  omega
def zoneB (nv : Nat) (z : Int × List Int) : Bool := decide (z.1 = nv) && checkB z.1 z.2
def chkZ (D : PD) (L : List (Int × List Int)) : Int := if progB D = true then (if decide (L.length = D.spots.length) && L.all (zoneB D.vars.length) then 0 else 80) else 110
set_option maxRecDepth 100000 in
set_option maxHeartbeats 1000000 in
theorem badZone_any (p : PV) (g : Nat) (zn : Int) (za : Option Addr) (zm zc : Nat) (l : List Int) (w : World) (hs : SL w za zm zc l) (hz : Holds w g 38 p.cells) : Calls Tryz.prog 81 #[.agg #[.int .i64 zn, .slice za zm zc], .pointer (some ⟨g, 0, none⟩)] w (Gives (.bool (!zoneB p.n1 (zn, l))) w) := by
  have hR : Hid (zoneB p.n1 (zn, l) = (decide (zn = (p.n1 : Int)) && checkB zn l)) := Lib.hid rfl
  have hch := Lib.hid (chk_or zn l)
  have b0 := box_below w #[.int .i64 zn, .slice za zm zc] 51
  have q := Lib.hid (dcheck_any zn za zm zc l _ (hs.below b0))
  have y1 := (hz.below b0 hz.lt).cell 1
  simp at y1
  have b0' := Lib.hid b0
  clear b0 hs hz
  generalize zoneB p.n1 (zn, l) = R at *
  generalize chk zn l = E at *
  generalize checkB zn l = cb at *
  by_cases h1 : zn = (p.n1 : Int)
  · have e1 : (zn != (p.n1 : Int)) = false := by simpa using h1
    have hF : Hid (R = cb) := Lib.hid (by rw [hR.out, decide_eq_true h1, Bool.true_and])
    clear hR h1
    go_enter Tryz.func81, Tryz.ntmps81
    go_wp2_with fail
    with_reducible refine q.out.mono ?_
    rintro e w1 ⟨rfl, b1⟩
    have B := Lib.hid (b0'.out.trans (b1.mono b0'.out.size))
    clear b1 q y1
    rcases hch.out with ⟨rfl, rfl⟩ | ⟨rfl, rfl⟩
    · clear hch
      go_wp2
      go_ret
      exact ⟨ret_bool (by rw [hF.out]; rfl), B.out⟩
    · clear hch
      go_wp2
      go_ret
      exact ⟨ret_bool (by rw [hF.out]; rfl), B.out⟩
  · have e1 : (zn != (p.n1 : Int)) = true := by simpa using h1
    have hF : Hid (R = false) := Lib.hid (by rw [hR.out, decide_eq_false h1, Bool.false_and])
    clear hR h1 hch
    go_enter Tryz.func81, Tryz.ntmps81
    go_wp2
    go_ret
    exact ⟨ret_bool (by rw [hF.out]; rfl), b0'.out⟩
set_option maxRecDepth 100000 in
set_option maxHeartbeats 2000000 in
theorem zonesIdx_any (p : PV) (g : Nat) (a : Option Addr) (n c : Nat) (L : List (Int × List Int)) (w : World) (h : ZRow w a n c L) (hz : Holds w g 38 p.cells) : Calls Tryz.prog 133 #[.slice a n c, .func (.func 81) #[] #[.pointer (some ⟨g, 0, none⟩)]] w (IdxE (!L.all (zoneB p.n1)) w) := by
  have hn : n = L.length := h.len
  have hmax := h.max'
  have hmi : (n : Int) ≤ 9223372036854775807 := by omega
  have hlen := Lib.hid hn
  have T := Lib.hid h
  have HZ := Lib.hid hz
  have hno := Lib.hid (fun k hk h => all_no (q := zoneB p.n1) (l := L) (d := zd0) (k := k) hk h)
  have hyes := Lib.hid (fun h => all_yes (q := zoneB p.n1) (l := L) zd0 h)
  clear h hn hmax hz
  generalize L.all (zoneB p.n1) = R at *
  go_enter Tryz.func133, Tryz.ntmps133
  go_wp2
  go_loopw [8] (fun y wr => ∃ k : Nat, k ≤ n ∧ y = .int .i64 k ∧ Hid (∀ t, t < k → zoneB p.n1 (L.getD t zd0) = true) ∧ Hid (Below w.heap.size w wr)) (fun y _ => n - (intOf y).toNat)
  case atStart => exact ⟨0, Nat.zero_le _, rfl, Lib.hid (fun t ht => by omega), Lib.hid (Below.refl _ _)⟩
  case round =>
    obtain ⟨k, hk, rfl, hal, hB⟩ := hrel
    by_cases hlt : k < n
    · have hki : (k : Int) < (n : Int) := by omega
      obtain ⟨b, off, za, zm, zc, rfl, hbl, x0, x1, hs⟩ := (T.out.below hB.out).at_ hlt
      have hno' := Lib.hid (hno.out k (by rw [← hlen.out]; exact hlt))
      have hyes' : Hid (zoneB p.n1 (L.getD k zd0) = true → ∀ t, t < k + 1 → zoneB p.n1 (L.getD t zd0) = true) := Lib.hid (fun h t ht => by
        by_cases e : t = k
        · rw [e]; exact h
        · exact hal.out t (by omega))
      obtain ⟨zn, zl, he⟩ : ∃ zn zl, L.getD k zd0 = (zn, zl) := ⟨_, _, rfl⟩
      rw [he] at x0 hs hno' hyes'
      dsimp only at x0 hs
      have q1 := Lib.hid (badZone_any p g zn za zm zc zl wr hs (HZ.out.below hB.out HZ.out.lt))
      clear hal hno hs he
      cases e1 : zoneB p.n1 (zn, zl)
      · have hf := Lib.hid (hno'.out e1)
        rw [e1] at q1
        clear hno' hyes' hyes e1
        go_wp2_with fail
        refine q1.out.mono ?_
        rintro e w1 ⟨rfl, b1⟩
        have hB2 := Lib.hid (hB.out.trans (b1.mono hB.out.size))
        go_wp2
        go_ret
        exact ⟨k, by rw [hf.out]; simp, rfl, hB2.out⟩
      · have hg := Lib.hid (hyes'.out e1)
        rw [e1] at q1
        clear hno' hyes' e1
        go_wp2_with fail
        refine q1.out.mono ?_
        rintro e w1 ⟨rfl, b1⟩
        have hB2 := Lib.hid (hB.out.trans (b1.mono hB.out.size))
        go_wp2
        go_roundw
        case rel => exact ⟨k + 1, by omega, by go_num, hg, hB2⟩
        case measure => simp [intOf]; omega
    · have hki : ¬ (k : Int) < (n : Int) := by omega
      have hf := Lib.hid (hyes.out (fun t ht => hal.out t (by rw [← hlen.out] at ht; omega)))
      clear hyes hno hal
      go_wp2
      go_ret
      exact ⟨-1, by rw [hf.out]; rfl, rfl, hB.out⟩
set_option maxRecDepth 100000 in
theorem zonesHas_any (p : PV) (g : Nat) (a : Option Addr) (n c : Nat) (L : List (Int × List Int)) (w : World) (h : ZRow w a n c L) (hz : Holds w g 38 p.cells) : Calls Tryz.prog 83 #[.slice a n c, .func (.func 81) #[] #[.pointer (some ⟨g, 0, none⟩)]] w (Gives (.bool (!L.all (zoneB p.n1))) w) := by
  have q := Lib.hid (zonesIdx_any p g a n c L w h hz)
  generalize (!L.all (zoneB p.n1)) = R at *
  clear h hz
  go_enter Tryz.func83, Tryz.ntmps83
  go_wp2_with fail
  refine q.out.mono ?_
  rintro e w1 ⟨i, hi, rfl, hb⟩
  have hi' := Lib.hid hi
  clear hi q
  go_wp2
  go_ret
  exact ⟨ret_bool hi'.out, hb⟩
set_option maxRecDepth 100000 in
set_option maxHeartbeats 2000000 in
theorem amay_any (p : PV) (D : PD) (a : Option Addr) (n c : Nat) (L : List (Int × List Int)) (w : World) (h : PrA w p D) (hl : ZRow w a n c L) : Calls Tryz.prog 44 #[.agg #[.string p.nm, .slice p.a1 p.n1 p.c1, .slice p.a2 p.n2 p.c2, .slice p.a3 p.n3 p.c3], .slice a n c] w (Gives (.int .i64 (chkZ D L)) w) := by
  have hmf : ∀ (fn : Fn) (first cap : Array Value) (w : World), (Instr.makeFunc fn first cap).run Tryz.prog w = .ok (.func fn first cap) w := fun _ _ _ _ => rfl
  have hC : Hid (chkZ D L = if progB D = true then (if decide (n = p.n2) && L.all (zoneB p.n1) then 0 else 80) else 110) := Lib.hid (by unfold chkZ; rw [hl.len, h.spots.len, h.vars.len])
  have hP : Hid (chkP D = if progB D = true then 0 else 110) := Lib.hid rfl
  have q1 := Lib.hid (fun W (hW : PrA W p D) => pcheck_any p D W hW)
  have q2 := Lib.hid (fun g W (hW : ZRow W a n c L) (hz : Holds W g 38 p.cells) => zonesHas_any p g a n c L W hW hz)
  obtain ⟨pnm, pa1, pn1, pc1, pa2, pn2, pc2, pa3, pn3, pc3⟩ := p
  dsimp only at hC q1 q2 ⊢
  obtain ⟨W1, hW1⟩ : ∃ W1, W1 = w.alloc (.cells #[.string pnm, .slice pa1 pn1 pc1, .slice pa2 pn2 pc2, .slice pa3 pn3 pc3] 38) := ⟨_, rfl⟩
  have Z0 : Holds W1 w.heap.size 38 #[.string pnm, .slice pa1 pn1 pc1, .slice pa2 pn2 pc2, .slice pa3 pn3 pc3] := by rw [hW1]; exact Holds.new w _ _
  have BL := Lib.hid (show Below w.heap.size w W1 by rw [hW1]; exact box_below _ _ _)
  have P := Lib.hid (h.below BL.out)
  have ZL := Lib.hid (hl.below BL.out)
  have hm2 : (pn2 : Int) ≤ 9223372036854775807 := by have := h.spots.max'; dsimp only at this; omega
  have hmn : (n : Int) ≤ 9223372036854775807 := by have := hl.max'; omega
  have hW1' := Lib.hid hW1
  have k0 := Z0.cell 0
  have k1 := Z0.cell 1
  have k2 := Z0.cell 2
  have k3 := Z0.cell 3
  simp at k0 k1 k2 k3
  have Z := Lib.hid Z0
  clear hW1 Z0 h hl
  generalize chkZ D L = R at *
  generalize chkP D = E at *
  generalize progB D = pb at *
  generalize L.all (zoneB pn1) = zb at *
  go_enter Tryz.func44, Tryz.ntmps44
  go_wp2_with fail
  rw [← hW1'.out]
  with_reducible refine (q1.out _ P.out).mono ?_
  rintro e w1 ⟨rfl, b1⟩
  replace Z := Lib.hid (Z.out.below b1 Z.out.lt)
  replace ZL := Lib.hid (ZL.out.below b1)
  replace BL := Lib.hid (BL.out.trans (b1.mono BL.out.size))
  clear b1 q1 P k0 k1 k2 k3 hW1'
  have k2 := Z.out.cell 2
  simp at k2
  cases pb
  · have hE : E = 110 := by rw [hP.out]; rfl
    have hr : R = 110 := by rw [hC.out]; rfl
    clear hC hP
    subst hE hr
    go_wp2
    go_ret
    exact ⟨rfl, BL.out⟩
  have hE : E = 0 := by rw [hP.out]; rfl
  clear hP
  subst hE
  by_cases hnn : n = pn2
  · have e1 : ((n : Int) != (pn2 : Int)) = false := by simp; omega
    have e2 : (n != pn2) = false := by simpa using hnn
    have hC2 : Hid (R = if zb = true then 0 else 80) := Lib.hid (by rw [hC.out, decide_eq_true hnn]; simp)
    clear hC hnn
    go_wp2_with fail
    with_reducible refine (q2.out _ _ ZL.out Z.out).mono ?_
    rintro e w2 ⟨rfl, b2⟩
    replace BL := Lib.hid (BL.out.trans (b2.mono BL.out.size))
    clear b2 q2 k2 Z ZL
    cases zb
    · have hr : R = 80 := by rw [hC2.out]; rfl
      clear hC2
      subst hr
      go_wp2
      go_ret
      exact ⟨rfl, BL.out⟩
    · have hr : R = 0 := by rw [hC2.out]; rfl
      clear hC2
      subst hr
      go_wp2
      go_ret
      exact ⟨rfl, BL.out⟩
  · have e1 : ((n : Int) != (pn2 : Int)) = true := by simp; omega
    have e2 : (n != pn2) = true := by simpa using hnn
    have hr : R = 80 := by rw [hC.out, decide_eq_false hnn]; rfl
    clear hC hnn
    subst hr
    go_wp2
    go_ret
    exact ⟨rfl, BL.out⟩
end Go.Proofs.YtimgocfkogebmaaGreatDoor
namespace Go.Proofs.YtimgocfkogebmaaGreatDoor
open Go.RowKit
set_option linter.unusedVariables false
set_option linter.unusedSimpArgs false
theorem rclipV_any (n : Int) (w : World) : Calls Tryz.prog 195 #[.int .i64 n] w (Tells (.int .i64 (clipV n)) w) := by
  unfold clipV
  go_enter Tryz.func195, Tryz.ntmps195
  by_cases h1 : 1099511627776 < n
  · rw [if_pos h1]
    go_wp2
    go_ret
    exact ⟨rfl, rfl⟩
  · rw [if_neg h1]
    by_cases h2 : n < -1099511627776
    · rw [if_pos h2]
      go_wp2
      go_ret
      exact ⟨rfl, rfl⟩
    · rw [if_neg h2]
      go_wp2
      go_ret
      exact ⟨rfl, rfl⟩
theorem new_far {w : World} {a : Option Addr} {l : List Int} {g : Nat} (h : New w a) (hg : g < w.heap.size) : l = [] ∨ ∀ p, a = some p → g ≠ p.block := by
  right
  intro p hp
  have := h p hp
  omega
end Go.Proofs.YtimgocfkogebmaaGreatDoor
namespace Go.Proofs.YtimgocfkogebmaaGreatDoor
open Go.RowKit
set_option linter.unusedVariables false
set_option linter.unusedSimpArgs false
theorem ofP_in (a b : Int) : (-1099511627776 ≤ (ofP a b).1 ∧ (ofP a b).1 ≤ 1099511627776) ∧ (-1099511627776 ≤ (ofP a b).2 ∧ (ofP a b).2 ≤ 1099511627776) := by
  unfold ofP
  split
  · exact ⟨⟨by decide, by decide⟩, by decide, by decide⟩
  · exact ⟨clipV_in a, clipV_in b⟩
theorem boxP_in (xs : List (Int × Int)) (k : Nat) : (-1099511627776 ≤ (boxP xs k).1 ∧ (boxP xs k).1 ≤ 1099511627776) ∧ (-1099511627776 ≤ (boxP xs k).2 ∧ (boxP xs k).2 ≤ 1099511627776) := ofP_in _ _
theorem boxK_leq {n : Nat} {D : Nat → Nat → Int} (xs : List (Int × Int)) : ∀ k, k ≤ n → (Leq n D (mat n (boxK n xs k)) ↔ Leq n D (mat n (allL n)) ∧ ∀ t, t < k → D (t + 1) 0 ≤ (boxP xs t).2 ∧ D 0 (t + 1) ≤ -(boxP xs t).1) := by
  intro k
  induction k with
  | zero =>
    intro _
    constructor
    · intro h; exact ⟨h, fun t ht => by omega⟩
    · intro h; exact h.1
  | succ k ih =>
    intro hk
    have h := ih (by omega)
    have hl := boxK_len n xs k
    have e : boxK n xs (k + 1) = limL n (limL n (boxK n xs k) (k + 1) 0 (boxP xs k).2) 0 (k + 1) (-(clipV (boxP xs k).1)) := rfl
    rw [e, lim_leqF (by rw [limL_len, hl]) (Nat.zero_le _) hk, lim_leqF hl hk (Nat.zero_le _), h, clipV_id (boxP_in xs k).1.1 (boxP_in xs k).1.2]
    constructor
    · rintro ⟨⟨⟨q1, q2⟩, q3⟩, q4⟩
      refine ⟨q1, fun t ht => ?_⟩
      by_cases e2 : t = k
      · subst e2; exact ⟨q3, q4⟩
      · exact q2 t (by omega)
    · rintro ⟨q1, q2⟩
      exact ⟨⟨⟨q1, fun t ht => q2 t (by omega)⟩, (q2 k (by omega)).1⟩, (q2 k (by omega)).2⟩
theorem allL_full {n : Nat} (hn : n ≤ 8) : Full n (allL n) := by
  have e : closedL n (allL n) = allL n := by
    refine closedL_fix (matL_len _ _) ⟨fun i hi => ?_, fun i j k hi hj hk => ?_⟩ (fun i j hi hj => ?_)
    · unfold allL; rw [mat_matL _ hi hi]; unfold widestF; rw [if_pos rfl]
    · unfold allL
      rw [mat_matL _ hi hj, mat_matL _ hi hk, mat_matL _ hk hj]
      unfold widestF
      (repeat' split) <;> omega
    · unfold allL; rw [mat_matL _ hi hj]; exact Int.le_refl _
  have hl : (allL n).length = sz n := matL_len _ _
  exact ⟨hn, hl, by intro q; rw [q] at hl; exact sz_pos n hl.symm, e.symm⟩
def rbxK (n : Nat) (xs : List (Int × Int)) : Nat → List Int
  | 0 => allL n
  | k + 1 => limitL n (limitL n (rbxK n xs k) (k + 1) 0 (boxP xs k).2) 0 (k + 1) (-(boxP xs k).1)
theorem rbxK_isz {n : Nat} (hn : n ≤ 8) (xs : List (Int × Int)) (k : Nat) : IsZ n (rbxK n xs k) := by
  cases k with
  | zero => exact ⟨hn, .inr (allL_full hn)⟩
  | succ k => exact limitL_isz hn _ _ _ _
theorem lies_rbx {n : Nat} (hn : n ≤ 8) (xs : List (Int × Int)) {D : List Int} (hD : Full n D) : ∀ k, k ≤ n → (Lies n D (rbxK n xs k) ↔ Lies n D (allL n) ∧ ∀ t, t < k → mat n D (t + 1) 0 ≤ (boxP xs t).2 ∧ mat n D 0 (t + 1) ≤ -(boxP xs t).1) := by
  intro k
  induction k with
  | zero =>
    intro _
    constructor
    · intro h; exact ⟨h, fun t ht => by omega⟩
    · intro h; exact h.1
  | succ k ih =>
    intro hk
    have h := ih (by omega)
    have e : rbxK n xs (k + 1) = limitL n (limitL n (rbxK n xs k) (k + 1) 0 (boxP xs k).2) 0 (k + 1) (-(boxP xs k).1) := rfl
    rw [e, lies_limit hD (limitL_isz hn _ _ _ _) (Nat.zero_le _) hk, lies_limit hD (rbxK_isz hn xs k) hk (Nat.zero_le _), h]
    constructor
    · rintro ⟨⟨⟨q1, q2⟩, q3⟩, q4⟩
      refine ⟨q1, fun t ht => ?_⟩
      by_cases e2 : t = k
      · subst e2; exact ⟨q3, q4⟩
      · exact q2 t (by omega)
    · rintro ⟨q1, q2⟩
      exact ⟨⟨⟨q1, fun t ht => q2 t (by omega)⟩, (q2 k (by omega)).1⟩, (q2 k (by omega)).2⟩
def boxL (n : Nat) (xs : List (Int × Int)) : List Int := closedL n (boxK n xs n)
theorem boxL_isz {n : Nat} (hn : n ≤ 8) (xs : List (Int × Int)) : IsZ n (boxL n xs) := by
  unfold boxL
  by_cases h : closedL n (boxK n xs n) = []
  · rw [h]; exact ⟨hn, .inl rfl⟩
  · exact ⟨hn, .inr (closed_full hn h)⟩
theorem box_both {n : Nat} (hn : n ≤ 8) (xs : List (Int × Int)) : boxL n xs = rbxK n xs n := by
  have hA := allL_full hn
  refine lies_ext (boxL_isz hn xs) (rbxK_isz hn xs n) (fun D hD => ?_)
  rw [lies_rbx hn xs hD n (Nat.le_refl _)]
  have e : boxL n xs = stepL n (fun _ => boxK n xs n) (allL n) := by unfold boxL stepL; rw [if_neg hA.ne]
  rw [e]
  exact lies_step hD ⟨hn, .inr hA⟩ _ _ (fun _ => boxK_leq xs n (Nat.le_refl _))
end Go.Proofs.YtimgocfkogebmaaGreatDoor
namespace Go.Proofs.YtimgocfkogebmaaGreatDoor
open Go.RowKit
set_option linter.unusedVariables false
set_option linter.unusedSimpArgs false
theorem rofZ_any (a b : Int) (w : World) : Calls Tryz.prog 159 #[.int .i64 a, .int .i64 b] w (Gives (.agg #[.int .i64 (ofP a b).1, .int .i64 (ofP a b).2]) w) := by
  have hn := Lib.hid (fun w => rnone_any w)
  have c1 := Lib.hid (fun w => rclipV_any a w)
  have c2 := Lib.hid (fun w => rclipV_any b w)
  have hB := Lib.hid (box_below w #[.int .i64 0, .int .i64 0] 101)
  have hr := Lib.hid (show HI _ w.heap.size 0 0 from Holds.new w 101 #[.int .i64 0, .int .i64 0])
  unfold ofP
  by_cases h : b < a ∨ 1099511627776 < a ∨ b < -1099511627776
  · rw [if_pos h]
    have hd : (decide (b < a) || decide (1099511627776 < a) || decide (b < -1099511627776)) = true := by simp; omega
    clear h
    go_enter Tryz.func159, Tryz.ntmps159
    go_wp2_with fail
    all_goals (
      refine (hn.out _).mono ?_
      rintro e w1 ⟨rfl, h1⟩
      have k := hr.out.below h1 hr.out.lt
      have c0 := k.cell 0
      have c1 := k.cell 1
      have f0 := k.free 0
      have f1 := k.free 1
      have hfin := Lib.hid (hi_set k 1 0)
      have kb := Lib.hid (((hB.out.trans (h1.mono hB.out.size)).setCell (p := ⟨w.heap.size, 0, none⟩) (Nat.le_refl _) (.int .i64 1)).setCell (p := ⟨w.heap.size, 1, none⟩) (Nat.le_refl _) (.int .i64 0))
      clear k h1
      go_wp2
      exact itv_ret hfin.out ⟨rfl, kb.out⟩ _ _ 4 rfl rfl rfl)
  · rw [if_neg h]
    have d1 : decide (b < a) = false := by simp; omega
    have d2 : decide (1099511627776 < a) = false := by simp; omega
    have d3 : decide (b < -1099511627776) = false := by simp; omega
    generalize clipV a = x at *
    generalize clipV b = y at *
    clear h
    go_enter Tryz.func159, Tryz.ntmps159
    go_wp2_with fail
    refine (c1.out _).mono ?_
    rintro e w' ⟨rfl, rfl⟩
    go_wp2_with fail
    refine (c2.out _).mono ?_
    rintro e w' ⟨rfl, rfl⟩
    go_wp2
    exact itv_ret (Holds.new w _ _) ⟨rfl, box_below _ _ _⟩ _ _ 4 rfl rfl rfl
theorem rplainZ_any (a b : Int) (w : World) : Calls Tryz.prog 115 #[.agg #[.int .i64 a, .int .i64 b]] w (Gives (.agg #[.int .i64 (ofP a b).1, .int .i64 (ofP a b).2]) w) := by
  have c1 := Lib.hid (fun w => rofZ_any a b w)
  generalize ofP a b = P at *
  obtain ⟨W1, hW1⟩ : ∃ W1, W1 = (w.alloc (.cells #[.int .i64 a, .int .i64 b] 101)).alloc (.cells #[.int .i64 0, .int .i64 0] 101) := ⟨_, rfl⟩
  have hB : Below w.heap.size w W1 := by rw [hW1]; exact box2_below _ _ _ _ _
  have Z2 : HI W1 (w.heap.size + 1) 0 0 := by
    rw [hW1]
    have := Holds.new (w.alloc (.cells #[.int .i64 a, .int .i64 b] 101)) 101 #[.int .i64 0, .int .i64 0]
    simpa using this
  have hW1' := Lib.hid hW1
  have hB' := Lib.hid hB
  have Z2' := Lib.hid Z2
  clear hW1 hB Z2
  go_enter Tryz.func115, Tryz.ntmps115
  go_wp2_with fail
  rw [← hW1'.out]
  refine (c1.out _).mono ?_
  rintro e w1 ⟨rfl, b1⟩
  have k := Z2'.out.below b1 Z2'.out.lt
  have c0 := k.cell 0
  have c1 := k.cell 1
  have f0 := k.free 0
  have f1 := k.free 1
  have hfin := Lib.hid (hi_set k P.1 P.2)
  have kb := Lib.hid (((hB'.out.trans (b1.mono hB'.out.size)).setCell (p := ⟨w.heap.size + 1, 0, none⟩) (by show _ ≤ _ + 1; omega) (.int .i64 P.1)).setCell (p := ⟨w.heap.size + 1, 1, none⟩) (by show _ ≤ _ + 1; omega) (.int .i64 P.2))
  clear k b1
  go_wp2
  exact itv_ret hfin.out ⟨rfl, kb.out⟩ _ _ 2 rfl rfl rfl
theorem new_far2 {w : World} {a : Option Addr} {l : List Int} {g : Nat} (h : l = [] ∨ New w a) (hg : g < w.heap.size) : l = [] ∨ ∀ p, a = some p → g ≠ p.block := by
  rcases h with e | h
  · exact .inl e
  · exact new_far h hg
end Go.Proofs.YtimgocfkogebmaaGreatDoor
namespace Go.Proofs.YtimgocfkogebmaaGreatDoor
open Go.RowKit
set_option linter.unusedVariables false
set_option linter.unusedSimpArgs false
structure Rb (w W : World) (gz n : Nat) (a : Option Addr) (m c : Nat) : Prop where
  bl : Below w.heap.size w W
  rb : ZH W w.heap.size (.int .i64 0) (.slice none 0 0)
  zb : ZH W gz (.int .i64 n) (.slice a m c)
theorem Rb.on {w W W' : World} {gz n : Nat} {a : Option Addr} {m c : Nat} (h : Rb w W gz n a m c) (hb : Below W.heap.size W W') : Rb w W' gz n a m c := ⟨h.bl.trans (hb.mono h.bl.size), h.rb.below hb h.rb.lt, h.zb.below hb h.zb.lt⟩
theorem rb_set {w W : World} {gz n : Nat} {a : Option Addr} {m c : Nat} (h : Rb w W gz n a m c) (hg : w.heap.size < gz) (m2 : Nat) (a2 : Option Addr) (c2 : Nat) : Rb w ((W.setCell ⟨gz, 0, none⟩ (.int .i64 n)).setCell ⟨gz, 1, none⟩ (.slice a2 m2 c2)) gz n a2 m2 c2 :=
  ⟨(h.bl.setCell (p := ⟨gz, 0, none⟩) (by show _ ≤ gz; omega) _).setCell (p := ⟨gz, 1, none⟩) (by show _ ≤ gz; omega) _, (h.rb.far (p := ⟨gz, 0, none⟩) (by show _ ≠ gz; omega) _).far (p := ⟨gz, 1, none⟩) (by show _ ≠ gz; omega) _, zh_set h.zb _ _⟩
set_option maxRecDepth 100000 in
set_option maxHeartbeats 2000000 in
theorem rbox_any (n : Nat) (hn : n ≤ 8) (xs : List (Int × Int)) (hx : xs.length = n) (a : Option Addr) (c : Nat) (w : World) (h : ItS w.heap.size w a xs) : Calls Tryz.prog 65 #[.slice a n c] w (ZoneR n (boxL n xs) w) := by
  rw [box_both hn xs]
  obtain ⟨W1, hW1⟩ : ∃ W1, W1 = w.alloc (.cells #[.int .i64 0, .slice none 0 0] 51) := ⟨_, rfl⟩
  obtain ⟨hB, hz⟩ : Below w.heap.size w W1 ∧ ZH W1 w.heap.size (.int .i64 0) (.slice none 0 0) := by rw [hW1]; exact zone_new
  have q1 := Lib.hid (rall_any n hn W1)
  have hal : Hid ((allL n).length ≤ 81) := Lib.hid (rbxK_isz hn xs 0).small
  have hst : Hid (∀ k, rbxK n xs (k + 1) = limitL n (limitL n (rbxK n xs k) (k + 1) 0 (boxP xs k).2) 0 (k + 1) (-(boxP xs k).1)) := Lib.hid (fun k => rfl)
  have hlk := Lib.hid (fun k => rbxK_isz hn xs k)
  have l1 := Lib.hid (fun L (hL : IsZ n L) k (hk : k + 1 ≤ n) cc a m ca W hS => (rlim_any n L hL (k + 1) 0 hk (Nat.zero_le _) cc a m ca W hS).mono (fun e w' h => h.r))
  have l2 := Lib.hid (fun L (hL : IsZ n L) k (hk : k + 1 ≤ n) cc a m ca W hS => rlim_any n L hL 0 (k + 1) (Nat.zero_le _) hk cc a m ca W hS)
  have h12 := Lib.hid (fun L i j cc => limitL_isz hn L i j cc)
  have hpi := Lib.hid (boxP_in xs)
  have hW1' := Lib.hid hW1
  have hB' := Lib.hid hB
  have hz' := Lib.hid hz
  have hx' := Lib.hid hx
  have hI := Lib.hid h
  have hni : (n : Int) ≤ 8 := by omega
  clear hW1 hB hz h hx hn
  go_enter Tryz.func65, Tryz.ntmps65
  go_wp2_with fail
  rw [← hW1'.out]
  refine q1.out.mono ?_
  rintro e w2 ⟨a2, c2, rfl, hc2, s2, b2, n2⟩
  obtain ⟨m2, hm2⟩ : ∃ m, m = (allL n).length := ⟨_, rfl⟩
  rw [← hm2] at hc2 ⊢
  have S2 : SL w2 a2 m2 c2 (rbxK n xs 0) := ⟨hm2, hc2, by have := hal.out; omega, s2⟩
  obtain ⟨W3, hW3⟩ : ∃ W3, W3 = w2.alloc (.cells #[.int .i64 n, .slice a2 m2 c2] 51) := ⟨_, rfl⟩
  have b3 : Below w2.heap.size w2 W3 := by rw [hW3]; exact box_below _ _ _
  have R3 : Rb w W3 w2.heap.size n a2 m2 c2 := ⟨(hB'.out.trans (b2.mono hB'.out.size)).trans (b3.mono (Nat.le_trans hB'.out.size b2.size)), (hz'.out.below b2 hz'.out.lt).below b3 (hz'.out.below b2 hz'.out.lt).lt, by rw [hW3]; exact Holds.new _ _ _⟩
  have hgz : w.heap.size < w2.heap.size := (hz'.out.below b2 hz'.out.lt).lt
  have S3 := Lib.hid (S2.below b3)
  have N3 := Lib.hid (new_far (l := rbxK n xs 0) (g := w.heap.size) n2 hz'.out.lt)
  have R3' := Lib.hid R3
  have hW3' := Lib.hid hW3
  clear hW3 R3 S2 s2 n2 b2 b3 hc2 hm2 q1 hal hB' hz'
  generalize hgzz : w2.heap.size = gz at *
  have hgz2 := Lib.hid hgzz
  clear hgzz
  go_wp2
  rw [hgz2.out]
  rw [← hW3'.out]
  go_loopw [4] (fun x wr => ∃ (k : Nat) (a : Option Addr) (m c : Nat), k ≤ n ∧ x = .int .i64 k ∧ Hid (Rb w wr gz n a m c) ∧ Hid (SL wr a m c (rbxK n xs k)) ∧ Hid (rbxK n xs k = [] ∨ ∀ p, a = some p → w.heap.size ≠ p.block)) (fun x _ => n - (intOf x).toNat)
  case atStart => exact ⟨0, a2, m2, c2, by omega, rfl, R3', S3, N3⟩
  case round =>
    clear S3 R3' N3 hW3' hgz2
    obtain ⟨k, az, mz, cz, hk, rfl, hR, hS, hN⟩ := hrel
    by_cases hlt : k < n
    · have hki : (k : Int) < (n : Int) := by omega
      have ku : IntKind.i64.wrap ((k : Int) + 1) = (k : Int) + 1 := wrap_small (by omega) (by omega)
      obtain ⟨b, off, rfl, -, i0, i1⟩ := (hI.out.below hR.out.bl).at_ (k := k) (by have := hx'.out; omega)
      have hpl := Lib.hid (fun W => rplainZ_any (xs.getD k (0, 0)).1 (xs.getD k (0, 0)).2 W)
      have hP : Hid (ofP (xs.getD k (0, 0)).1 (xs.getD k (0, 0)).2 = boxP xs k) := Lib.hid rfl
      rw [hP.out] at hpl
      have p1 := Lib.hid (l1.out (rbxK n xs k) (hlk.out k) k (by omega) (boxP xs k).2)
      have p2 := Lib.hid (l2.out (limitL n (rbxK n xs k) (k + 1) 0 (boxP xs k).2) (h12.out _ _ _ _) k (by omega) (-(boxP xs k).1))
      rw [← hst.out k] at p2
      have hkn : ((k + 1 : Nat) : Int) = (k : Int) + 1 := by omega
      rw [hkn] at p1 p2
      rw [show ((0 : Nat) : Int) = 0 from rfl] at p1 p2
      have pin := (hpi.out k).1
      have hw1 : IntKind.i64.wrap (-(boxP xs k).1) = -(boxP xs k).1 := IntWalk.i64_in _ (by omega)
      obtain ⟨L2, hL2⟩ : ∃ L, rbxK n xs (k + 1) = L := ⟨_, rfl⟩
      rw [hL2] at p2
      have hL := Lib.hid hL2
      clear hL2
      generalize limitL n (rbxK n xs k) (k + 1) 0 (boxP xs k).2 = L1 at *
      generalize rbxK n xs k = L0 at *
      generalize boxP xs k = P at *
      generalize (xs.getD k (0, 0)).1 = x at *
      generalize (xs.getD k (0, 0)).2 = y at *
      clear hP hkn
      go_wp2_with fail
      refine (hpl.out _).mono ?_
      rintro e v1 ⟨rfl, b1⟩
      have b2 := box_below v1 #[.int .i64 P.1, .int .i64 P.2] 101
      have R5 := Lib.hid ((hR.out.on b1).on b2)
      have S5 := Lib.hid ((hS.out.below b1).below b2)
      have Z5 := Lib.hid (Holds.new v1 101 #[.int .i64 P.1, .int .i64 P.2])
      have hlt5 : gz < v1.heap.size := (hR.out.on b1).zb.lt
      clear b1 b2 hR hS hN
      generalize P.1 = P1 at *
      generalize P.2 = P2 at *
      go_wp2
      generalize v1.alloc (.cells #[.int .i64 P1, .int .i64 P2] 101) = V at *
      generalize v1.heap.size = g5 at *
      have k0 := R5.out.zb.cell 0
      have k1 := R5.out.zb.cell 1
      have hx5 : g5 ∉ [gz] := by simp; omega
      have f0 : ∀ W, BelowE [gz] V.heap.size V W → W.cell? ⟨g5, 0, none⟩ = some (.int .i64 P1) := fun W hW => (Z5.out.belowE hW Z5.out.lt hx5).cell 0
      have f1 : ∀ W, BelowE [gz] V.heap.size V W → W.cell? ⟨g5, 1, none⟩ = some (.int .i64 P2) := fun W hW => (Z5.out.belowE hW Z5.out.lt hx5).cell 1
      refine wp_drawn_on (fun W => BelowE [gz] V.heap.size V W) (by kernel_rfl) ((BelowE.refl _ _ _).drew) (fun hHeld => ?_)
      refine wpAnyH_take (i := 1) (oi := { dst := some 21, op := Go.Op.move (Go.Operand.tmp 4), type := 3, pos := "ref.go:162", after := #[], guard := none }) (v := ?v1) rfl (by kernel_rfl) (by kernel_rfl) (by kernel_rfl) (fun _ _ _ h => h) (Or.inl ⟨by kernel_rfl, ?h1⟩) (by assumption) ?r1
      case h1 => (intro w hSw; (try dsimp only at hSw); go_simp; try with_reducible rfl)
      try simp only [Act.put, List.setIfInBounds_toArray, List.set_cons_zero, List.set_cons_succ]
      refine wpAnyH_take (i := 2) (oi := { dst := some 22, op := Go.Op.binOp Go.BinOp.add 3 (Go.Operand.tmp 21) (Go.Operand.const (Go.Value.int Go.IntKind.i64 1)) 3, type := 3, pos := "ref.go:162", after := #[{ on := 1, ground := Go.Ground.data }], guard := none }) (v := ?v2) rfl (by kernel_rfl) (by kernel_rfl) (by kernel_rfl) (fun _ _ _ h => h) (Or.inl ⟨by kernel_rfl, ?h2⟩) (by assumption) ?r2
      case h2 => (intro w hSw; (try dsimp only at hSw); go_simp; try with_reducible rfl)
      try simp only [Act.put, List.setIfInBounds_toArray, List.set_cons_zero, List.set_cons_succ]
      refine wpAnyH_take (i := 3) (oi := { dst := some 23, op := Go.Op.fieldAddr 101 (Go.Operand.tmp 5) 1, type := 0, pos := "ref.go:162", after := #[], guard := none }) (v := ?v3) rfl (by kernel_rfl) (by kernel_rfl) (by kernel_rfl) (fun _ _ _ h => h) (Or.inl ⟨by kernel_rfl, ?h3⟩) (by assumption) ?r3
      case h3 => (intro w hSw; (try dsimp only at hSw); go_simp; try with_reducible rfl)
      try simp only [Act.put, List.setIfInBounds_toArray, List.set_cons_zero, List.set_cons_succ]
      refine wpAnyH_take (i := 4) (oi := { dst := some 24, op := Go.Op.load 3 (Go.Operand.tmp 23), type := 3, pos := "ref.go:162", after := #[{ on := 3, ground := Go.Ground.data }], guard := none }) (v := ?v4) rfl (by kernel_rfl) (by kernel_rfl) (by kernel_rfl) (fun _ _ _ h => h) (Or.inl ⟨by kernel_rfl, ?h4⟩) (by assumption) ?r4
      case h4 => (intro w hSw; (try dsimp only at hSw); go_simp; try with_reducible rfl)
      try simp only [Act.put, List.setIfInBounds_toArray, List.set_cons_zero, List.set_cons_succ]
      refine wpAnyH_take (i := 6) (oi := { dst := some 26, op := Go.Op.move (Go.Operand.tmp 4), type := 3, pos := "ref.go:162", after := #[], guard := none }) (v := ?v5) rfl (by kernel_rfl) (by kernel_rfl) (by kernel_rfl) (fun _ _ _ h => h) (Or.inl ⟨by kernel_rfl, ?h5⟩) (by assumption) ?r5
      case h5 => (intro w hSw; (try dsimp only at hSw); go_simp; try with_reducible rfl)
      try simp only [Act.put, List.setIfInBounds_toArray, List.set_cons_zero, List.set_cons_succ]
      refine wpAnyH_take (i := 7) (oi := { dst := some 27, op := Go.Op.binOp Go.BinOp.add 3 (Go.Operand.tmp 26) (Go.Operand.const (Go.Value.int Go.IntKind.i64 1)) 3, type := 3, pos := "ref.go:162", after := #[{ on := 6, ground := Go.Ground.data }], guard := none }) (v := ?v6) rfl (by kernel_rfl) (by kernel_rfl) (by kernel_rfl) (fun _ _ _ h => h) (Or.inl ⟨by kernel_rfl, ?h6⟩) (by assumption) ?r6
      case h6 => (intro w hSw; (try dsimp only at hSw); go_simp; try with_reducible rfl)
      try simp only [Act.put, List.setIfInBounds_toArray, List.set_cons_zero, List.set_cons_succ]
      refine wpAnyH_take (i := 8) (oi := { dst := some 28, op := Go.Op.fieldAddr 101 (Go.Operand.tmp 5) 0, type := 0, pos := "ref.go:162", after := #[], guard := none }) (v := ?v7) rfl (by kernel_rfl) (by kernel_rfl) (by kernel_rfl) (fun _ _ _ h => h) (Or.inl ⟨by kernel_rfl, ?h7⟩) (by assumption) ?r7
      case h7 => (intro w hSw; (try dsimp only at hSw); go_simp; try with_reducible rfl)
      try simp only [Act.put, List.setIfInBounds_toArray, List.set_cons_zero, List.set_cons_succ]
      refine wpAnyH_take (i := 9) (oi := { dst := some 29, op := Go.Op.load 3 (Go.Operand.tmp 28), type := 3, pos := "ref.go:162", after := #[{ on := 8, ground := Go.Ground.data }], guard := none }) (v := ?v8) rfl (by kernel_rfl) (by kernel_rfl) (by kernel_rfl) (fun _ _ _ h => h) (Or.inl ⟨by kernel_rfl, ?h8⟩) (by assumption) ?r8
      case h8 => (intro w hSw; (try dsimp only at hSw); go_simp; try with_reducible rfl)
      try simp only [Act.put, List.setIfInBounds_toArray, List.set_cons_zero, List.set_cons_succ]
      refine wpAnyH_take (i := 10) (oi := { dst := some 30, op := Go.Op.unOp Go.UnOp.neg 3 (Go.Operand.tmp 29), type := 3, pos := "ref.go:162", after := #[{ on := 9, ground := Go.Ground.data }], guard := none }) (v := ?v9) rfl (by kernel_rfl) (by kernel_rfl) (by kernel_rfl) (fun _ _ _ h => h) (Or.inl ⟨by kernel_rfl, ?h9⟩) (by assumption) ?r9
      case h9 => (intro w hSw; (try dsimp only at hSw); go_simp; try with_reducible rfl)
      try simp only [Act.put, List.setIfInBounds_toArray, List.set_cons_zero, List.set_cons_succ]
      refine wpAnyH_ready (rs := [0]) (by kernel_rfl) (by simp) ?_
      refine AllReadyH.cons (o := { dst := some 20, op := Go.Op.load 51 (Go.Operand.tmp 3), type := 51, pos := "ref.go:162", after := #[], guard := none }) rfl (fun K hK => ?_) AllReadyH.nil
      go_simp
      refine hK.out _ _ (hHeld) (fun hHeld => ?_)
      clear hK K
      try simp only [Act.put, List.setIfInBounds_toArray, List.set_cons_zero, List.set_cons_succ]
      refine wpAnyH_ready (rs := [5]) (by kernel_rfl) (by simp) ?_
      refine AllReadyH.cons (o := { dst := some 25, op := Go.Op.call { callee := Go.Callee.value (Go.Operand.func 92), args := #[Go.Operand.tmp 20, Go.Operand.tmp 22, Go.Operand.const (Go.Value.int Go.IntKind.i64 0), Go.Operand.tmp 24], argTypes := #[51, 3, 3, 3] }, type := 51, pos := "ref.go:162", after := #[{ on := 0, ground := Go.Ground.data }, { on := 2, ground := Go.Ground.data }, { on := 4, ground := Go.Ground.data }], guard := none }) rfl (fun K hK => ?_) AllReadyH.nil
      go_simp
      have S6 : SL V.drew az mz cz L0 := S5.out.drewN 1
      with_reducible refine (p1.out az mz cz V.drew S6).mono ?_
      clear S6
      rintro e u5 ⟨aa, ma, ca, rfl, sa, ba⟩
      have hx6 := hHeld.trans (.of ba)
      have R6 := Lib.hid (R5.out.on (Below.fromDrew ba))
      clear ba
      go_simp
      refine hK.out _ _ (hx6) (fun hHeld => ?_)
      clear hK K
      try simp only [Act.put, List.setIfInBounds_toArray, List.set_cons_zero, List.set_cons_succ]
      refine wpAnyH_ready (rs := [11]) (by kernel_rfl) (by simp) ?_
      refine AllReadyH.cons (o := { dst := some 31, op := Go.Op.call { callee := Go.Callee.value (Go.Operand.func 92), args := #[Go.Operand.tmp 25, Go.Operand.const (Go.Value.int Go.IntKind.i64 0), Go.Operand.tmp 27, Go.Operand.tmp 30], argTypes := #[51, 3, 3, 3] }, type := 51, pos := "ref.go:162", after := #[{ on := 5, ground := Go.Ground.data }, { on := 7, ground := Go.Ground.data }, { on := 10, ground := Go.Ground.data }, { on := 5, ground := Go.Ground.chain }], guard := none }) rfl (fun K hK => ?_) AllReadyH.nil
      go_simp
      with_reducible refine (p2.out aa ma ca _ sa).mono ?_
      rintro e u11 ⟨ab, mb, cb, rfl, sb, bb, nb⟩
      have hx7 := hHeld.trans (.of (bb.mono hHeld.size))
      have R7 := Lib.hid (R6.out.on bb)
      have nb' := new_far2 nb R6.out.zb.lt
      have nr := Lib.hid (new_far2 nb R6.out.rb.lt)
      have z0 := R7.out.zb.cell 0
      have z1 := R7.out.zb.cell 1
      have zf0 := R7.out.zb.free 0
      have zf1 := R7.out.zb.free 1
      clear bb nb sa R6
      go_simp
      refine hK.out _ _ (hx7) (fun hHeld => ?_)
      clear hK K
      try simp only [Act.put, List.setIfInBounds_toArray, List.set_cons_zero, List.set_cons_succ]
      refine wpAnyH_ready (rs := [12]) (by kernel_rfl) (by simp) ?_
      refine AllReadyH.cons (o := { dst := none, op := Go.Op.store 51 (Go.Operand.tmp 3) (Go.Operand.tmp 31), type := 0, pos := "ref.go:162", after := #[{ on := 11, ground := Go.Ground.data }, { on := 11, ground := Go.Ground.chain }, { on := 0, ground := Go.Ground.phase }, { on := 1, ground := Go.Ground.phase }, { on := 2, ground := Go.Ground.phase }, { on := 3, ground := Go.Ground.phase }, { on := 4, ground := Go.Ground.phase }, { on := 5, ground := Go.Ground.phase }, { on := 6, ground := Go.Ground.phase }, { on := 7, ground := Go.Ground.phase }, { on := 8, ground := Go.Ground.phase }, { on := 9, ground := Go.Ground.phase }, { on := 10, ground := Go.Ground.phase }, { on := 11, ground := Go.Ground.phase }], guard := none }) rfl (fun K hK => ?_) AllReadyH.nil
      go_simp
      have R8 := rb_set R7.out hgz mb ab cb
      have S8 := sl_set sb gz nb' (.int .i64 n) (.slice ab mb cb)
      have hx8 := (hHeld.setIn (p := ⟨gz, 0, none⟩) (by simp) (.int .i64 n)).setIn (p := ⟨gz, 1, none⟩) (by simp) (.slice ab mb cb)
      clear z0 z1 zf0 zf1 R7
      refine hK.out _ _ (hx8) (fun hHeld => ?_)
      clear hK K
      try simp only [Act.put, List.setIfInBounds_toArray, List.set_cons_zero, List.set_cons_succ]
      refine wpAnyH_done (by kernel_rfl) ?_ _
      clear k0 k1 f0 f1
      have R9 := Lib.hid R8
      have S9 := Lib.hid S8
      clear R8 S8 hHeld
      go_wp2
      go_roundw
      case rel => exact ⟨k + 1, ab, mb, cb, by omega, by go_num, R9, by rw [hL.out]; exact S9, by rw [hL.out]; exact nr⟩
      case measure => simp [intOf]; omega
    · have hke : k = n := by omega
      subst hke
      have k0 := hR.out.zb.cell 0
      have k1 := hR.out.zb.cell 1
      have r0 := hR.out.rb.cell 0
      have r1 := hR.out.rb.cell 1
      have f0 := hR.out.rb.free 0
      have f1 := hR.out.rb.free 1
      generalize rbxK k xs k = L at *
      have hfin := Lib.hid (zh_set hR.out.rb (.int .i64 k) (.slice az mz cz))
      have hsl := Lib.hid (sl_set hS.out w.heap.size hN.out (.int .i64 k) (.slice az mz cz))
      have kb := Lib.hid ((hR.out.bl.setCell (p := ⟨w.heap.size, 0, none⟩) (Nat.le_refl _) (.int .i64 k)).setCell (p := ⟨w.heap.size, 1, none⟩) (Nat.le_refl _) (.slice az mz cz))
      go_wp2
      exact zone_ret hfin.out (show ZoneR k L w _ _ from ⟨az, mz, cz, rfl, hsl.out, kb.out⟩) _ _ 2 rfl rfl rfl
end Go.Proofs.YtimgocfkogebmaaGreatDoor
namespace Go.Proofs.YtimgocfkogebmaaGreatDoor
set_option linter.unusedVariables false
set_option linter.unusedSimpArgs false
def okA (S : List Int) (i : Nat) : Prop := 0 ≤ S.getD i 0 ∧ S.getD i 0 ≤ (S.length : Int) - i ∧ ∀ k, k < i → (i : Int) - k < S.getD k 0 → S.getD i 0 ≤ S.getD k 0 - ((i : Int) - k)
def preA (S : List Int) (i : Nat) : Prop := ∀ j, j < i → okA S j
instance (S : List Int) (i : Nat) : Decidable (okA S i) := by unfold okA; infer_instance
instance (S : List Int) (i : Nat) : Decidable (preA S i) := by unfold preA; infer_instance
def onceP (P : List Int) (m : Nat) : Prop := ∀ i, i < m → 0 ≤ P.getD i 0 ∧ P.getD i 0 ≤ 127 ∧ ∀ k, k < i → P.getD k 0 ≠ P.getD i 0
instance (P : List Int) (m : Nat) : Decidable (onceP P m) := by unfold onceP; infer_instance
end Go.Proofs.YtimgocfkogebmaaGreatDoor
namespace Go.Proofs.YtimgocfkogebmaaGreatDoor
open Go.RowKit
set_option linter.unusedVariables false
set_option linter.unusedSimpArgs false
structure WA (w : World) (a1 : Option Addr) (n1 c1 : Nat) (P : List Int) (a2 : Option Addr) (n2 c2 : Nat) (S : List Int) : Prop where
  p : SL w a1 n1 c1 P
  s : SL w a2 n2 c2 S
theorem WA.below {w w' : World} {a1 a2 : Option Addr} {n1 c1 n2 c2 : Nat} {P S : List Int} (h : WA w a1 n1 c1 P a2 n2 c2 S) (hb : Below w.heap.size w w') : WA w' a1 n1 c1 P a2 n2 c2 S := ⟨h.p.below hb, h.s.below hb⟩
end Go.Proofs.YtimgocfkogebmaaGreatDoor
namespace Go.Proofs.YtimgocfkogebmaaGreatDoor
open Go.RowKit
set_option linter.unusedVariables false
set_option linter.unusedSimpArgs false
theorem seesT_cells {B : Nat} {w : World} {a : Option Addr} {l : List ByteArray} (h : SeesC B w a (txts l)) : SeesT B w a l := by
  rcases h with h | ⟨b, off, rfl, hB, hc⟩
  · left
    cases l with
    | nil => rfl
    | cons x l => cases h
  · exact .inr ⟨b, off, rfl, hB, fun i hi => hc i _ (by simp [txts, List.getD, hi])⟩
end Go.Proofs.YtimgocfkogebmaaGreatDoor
namespace Go.Proofs.YtimgocfkogebmaaGreatDoor
open Go.RowKit
set_option linter.unusedVariables false
set_option linter.unusedSimpArgs false
def guardV : List ByteArray := [⟨#[105]⟩, ⟨#[110]⟩]
def guardS : SpotD := ⟨⟨#[109, 97, 105, 110]⟩, ⟨#[97, 46, 103, 111]⟩, 3⟩
def guardE : EdgeD := ⟨0, 1, 5, 1, 2, 0, 0⟩
def guardD : PD := ⟨⟨#[112]⟩, guardV, [guardS, guardS], [guardE]⟩
def guardL : List (Int × List Int) := [(2, boxL 2 [(0, 3), (2, 2)]), (2, allL 2)]
theorem guardL_all : (allL 2).length = 9 := by decide +kernel
theorem sees_belowE {B : Nat} {w w' : World} {b off g : Nat} {cs : List Value} (h : SeesC B w (some ⟨b, off, none⟩) cs) (hB : B ≤ w.heap.size) (hb : BelowE [g] w.heap.size w w') (hne : b ≠ g) : SeesC B w' (some ⟨b, off, none⟩) cs := by
  rcases h with e | ⟨b', off', he, hlt, hc⟩
  · exact .inl e
  · injection he with he
    injection he with h1 h2
    subst h1 h2
    exact .inr ⟨b, off, rfl, hlt, fun i v hv => (hb.cell (p := ⟨b, off + i, none⟩) (by show b < _; omega) (by simpa using hne)).trans (hc i v hv)⟩
theorem seesN_belowE {B : Nat} {w w' : World} {a : Option Addr} {g : Nat} {l : List Int} (h : Sees .i64 B w a l) (hB : B ≤ w.heap.size) (hb : BelowE [g] w.heap.size w w') (hne : ∀ b off, a = some ⟨b, off, none⟩ → l ≠ [] → b ≠ g) : Sees .i64 B w' a l := by
  by_cases h0 : l = []
  · exact .inl h0
  rcases h with e | ⟨b, off, rfl, hlt, hc⟩
  · exact .inl e
  · exact .inr ⟨b, off, rfl, hlt, fun i hi => (hb.cell (p := ⟨b, off + i, none⟩) (by show b < _; omega) (by simpa using hne b off rfl h0)).trans (hc i hi)⟩
structure GS (W : World) (g0 : Nat) (cs : Array Value) (a1 : Option Addr) (m1 c1 : Nat) (l1 : List Int) (a2 : Option Addr) (m2 c2 : Nat) (l2 : List Int) : Prop where
  p : Holds W g0 38 cs
  s1 : SL W a1 m1 c1 l1
  s2 : SL W a2 m2 c2 l2
theorem GS.below {W W' : World} {g0 : Nat} {cs : Array Value} {a1 a2 : Option Addr} {m1 c1 m2 c2 : Nat} {l1 l2 : List Int} (h : GS W g0 cs a1 m1 c1 l1 a2 m2 c2 l2) (hb : Below W.heap.size W W') : GS W' g0 cs a1 m1 c1 l1 a2 m2 c2 l2 := ⟨h.p.below hb h.p.lt, h.s1.below hb, h.s2.below hb⟩
theorem gs_apart {W : World} {g0 : Nat} {n1 n2 n3 : Nat} {k1 k2 k3 : Nat} {b1 b2 b3 : Option Addr} {s : ByteArray} (h : Holds W g0 38 #[.string s, .slice b1 n1 k1, .slice b2 n2 k2, .slice b3 n3 k3]) {a : Option Addr} {m c : Nat} {l : List Int} (hs : SL W a m c l) (b off : Nat) (ha : a = some ⟨b, off, none⟩) (hl : l ≠ []) : b ≠ g0 := by
  rintro rfl
  obtain ⟨b', off', ha', -, hc⟩ := sees_num hs.sees (i := 0) (List.length_pos_iff.2 hl)
  rw [ha] at ha'
  injection ha' with ha'
  injection ha' with h1 h2
  subst h1 h2
  have q := h.cell (off + 0)
  rw [hc] at q
  have h4 : off + 0 < 4 := by
    rcases Nat.lt_or_ge (off + 0) 4 with h4 | h4
    · exact h4
    · rw [Array.getElem?_eq_none (by simpa using h4)] at q
      cases q
  rcases (show off = 0 ∨ off = 1 ∨ off = 2 ∨ off = 3 by omega) with rfl | rfl | rfl | rfl <;> simp at q
theorem gs_store {W : World} {g0 : Nat} {n1 n2 n3 : Nat} {k1 k2 k3 : Nat} {b1 b2 b3 : Option Addr} {s : ByteArray} {a1 a2 : Option Addr} {m1 c1 m2 c2 : Nat} {l1 l2 : List Int} (h : GS W g0 #[.string s, .slice b1 n1 k1, .slice b2 n2 k2, .slice b3 n3 k3] a1 m1 c1 l1 a2 m2 c2 l2) (u0 u1 u2 u3 : Value) :
    GS ((((W.setCell ⟨g0, 0, none⟩ u0).setCell ⟨g0, 1, none⟩ u1).setCell ⟨g0, 2, none⟩ u2).setCell ⟨g0, 3, none⟩ u3) g0 #[u0, u1, u2, u3] a1 m1 c1 l1 a2 m2 c2 l2 ∧
    BelowE [g0] W.heap.size W ((((W.setCell ⟨g0, 0, none⟩ u0).setCell ⟨g0, 1, none⟩ u1).setCell ⟨g0, 2, none⟩ u2).setCell ⟨g0, 3, none⟩ u3) := by
  have hE : BelowE [g0] W.heap.size W ((((W.setCell ⟨g0, 0, none⟩ u0).setCell ⟨g0, 1, none⟩ u1).setCell ⟨g0, 2, none⟩ u2).setCell ⟨g0, 3, none⟩ u3) := ((((BelowE.refl _ _ _).setIn (p := ⟨g0, 0, none⟩) (by simp) _).setIn (p := ⟨g0, 1, none⟩) (by simp) _).setIn (p := ⟨g0, 2, none⟩) (by simp) _).setIn (p := ⟨g0, 3, none⟩) (by simp) _
  refine ⟨⟨?_, ?_, ?_⟩, hE⟩
  · have := (((h.p.set 0 u0).set 1 u1).set 2 u2).set 3 u3
    simp only [List.setIfInBounds_toArray, List.set_cons_zero, List.set_cons_succ] at this
    exact this
  · exact ⟨h.s1.len, h.s1.cap, h.s1.max, by
      have q := seesN_belowE h.s1.sees (Nat.le_refl _) hE (gs_apart h.p h.s1)
      simpa using q⟩
  · exact ⟨h.s2.len, h.s2.cap, h.s2.max, by
      have q := seesN_belowE h.s2.sees (Nat.le_refl _) hE (gs_apart h.p h.s2)
      simpa using q⟩
theorem info_pr : (Tryz.prog.info? 38).map (·.size) = some 4 := by kernel_rfl
theorem pr_res2 {fn : Func} {p q : Tmp} (h : fn.results = #[.cell p 38, .tmp q]) (tmps : Array Value) (w : World) (g : Nat) (a1 a2 a3 a4 u : Value)
    (hp : tmps.getD p undef = .pointer (some ⟨g, 0, none⟩)) (hq : tmps.getD q undef = u) (hg : Holds w g 38 #[a1, a2, a3, a4]) : (results fn tmps).run Tryz.prog w = .ok (.tuple #[.agg #[a1, a2, a3, a4], u]) w := by
  rw [results_cell_tmp h, hp, hq]
  simp [asAddr, run_loadVar_row w g 38 38 #[a1, a2, a3, a4] (0, 0) _ hg Tryz.underlying38 rfl (by rw [info_pr]; rfl), Result.andThen]
theorem pr_ret2 {Q : Ending → World → Prop} {w : World} {g : Nat} {a1 a2 a3 a4 u : Value} (hg : Holds w g 38 #[a1, a2, a3, a4]) (hQ : Q (.returned (.tuple #[.agg #[a1, a2, a3, a4], u])) w) (act : Act) (f : Func) (n m : Nat) (hf : f.results = #[.cell n 38, .tmp m]) (ha : act.tmps.getD n undef = .pointer (some ⟨g, 0, none⟩)) (hm : act.tmps.getD m undef = u) (hd : act.defers = []) :
    bodyPost Tryz.prog f Q Exit.ret act w :=
  bodyPost_ret (pr_res2 hf _ _ g a1 a2 a3 a4 u ha hm hg) hd hQ
theorem zrow_two {W : World} {g : Nat} {n1 n2 : Int} {a1 a2 : Option Addr} {m1 c1 m2 c2 : Nat} {l1 l2 : List Int} (h : Holds W g 51 #[.int .i64 n1, .slice a1 m1 c1, .int .i64 n2, .slice a2 m2 c2]) (s1 : SL W a1 m1 c1 l1) (s2 : SL W a2 m2 c2 l2) : ZRow W (some ⟨g, 0, none⟩) 2 2 [(n1, l1), (n2, l2)] := by
  refine ⟨rfl, Nat.le_refl _, by simp [maxLen], .inr ⟨g, 0, rfl, h.lt, fun i hi => ?_⟩⟩
  match i, hi with
  | 0, _ => exact ⟨h.cell 0, a1, m1, c1, h.cell 1, s1⟩
  | 1, _ => exact ⟨h.cell 2, a2, m2, c2, h.cell 3, s2⟩
def GuardE (w : World) (e : Ending) (w' : World) : Prop := ∃ (p : PV) (a : Option Addr), e = .returned (.tuple #[.agg #[.string p.nm, .slice p.a1 p.n1 p.c1, .slice p.a2 p.n2 p.c2, .slice p.a3 p.n3 p.c3], .slice a 2 2]) ∧ PrA w' p guardD ∧ ZRow w' a 2 2 guardL ∧ Below w.heap.size w w'
set_option maxRecDepth 100000 in
set_option maxHeartbeats 8000000 in
theorem guard_any (w : World) : Calls Tryz.prog 30 #[] w (GuardE w) := by
  obtain ⟨X1, h1⟩ : ∃ X1, X1 = w.alloc (.cells #[.string ⟨#[]⟩, .slice none 0 0, .slice none 0 0, .slice none 0 0] 38) := ⟨_, rfl⟩
  obtain ⟨X2, h2⟩ : ∃ X2, X2 = X1.alloc (.cells #[.string ⟨#[109, 97, 105, 110]⟩, .string ⟨#[97, 46, 103, 111]⟩, .int .i64 3] 80) := ⟨_, rfl⟩
  obtain ⟨X3, h3⟩ : ∃ X3, X3 = X2.alloc (.cells #[.string ⟨#[105]⟩, .string ⟨#[110]⟩] 9) := ⟨_, rfl⟩
  obtain ⟨X4, h4⟩ : ∃ X4, X4 = X3.alloc (.cells #[.string ⟨#[109, 97, 105, 110]⟩, .string ⟨#[97, 46, 103, 111]⟩, .int .i64 3, .string ⟨#[109, 97, 105, 110]⟩, .string ⟨#[97, 46, 103, 111]⟩, .int .i64 3] 80) := ⟨_, rfl⟩
  obtain ⟨X5, h5⟩ : ∃ X5, X5 = X4.alloc (.cells #[.int .i64 0, .int .i64 1, .int .i64 5, .int .i64 1, .int .i64 2, .int .i64 0, .int .i64 0] 75) := ⟨_, rfl⟩
  obtain ⟨X, h6⟩ : ∃ X, X = X5.alloc (.cells #[.string ⟨#[112]⟩, .slice (some ⟨w.heap.size + 1 + 1, 0, none⟩) 2 2, .slice (some ⟨w.heap.size + 1 + 1 + 1, 0, none⟩) 2 2, .slice (some ⟨w.heap.size + 1 + 1 + 1 + 1, 0, none⟩) 1 1] 38) := ⟨_, rfl⟩
  have z1 : X1.heap.size = w.heap.size + 1 := by rw [h1]; simp
  have z2 : X2.heap.size = w.heap.size + 1 + 1 := by rw [h2]; simp [z1]
  have z3 : X3.heap.size = w.heap.size + 1 + 1 + 1 := by rw [h3]; simp [z2]
  have z4 : X4.heap.size = w.heap.size + 1 + 1 + 1 + 1 := by rw [h4]; simp [z3]
  have z5 : X5.heap.size = w.heap.size + 1 + 1 + 1 + 1 + 1 := by rw [h5]; simp [z4]
  have b1 : Below w.heap.size w X1 := by rw [h1]; exact box_below _ _ _
  have b2 : Below X1.heap.size X1 X2 := by rw [h2]; exact box_below _ _ _
  have b3 : Below X2.heap.size X2 X3 := by rw [h3]; exact box_below _ _ _
  have b4 : Below X3.heap.size X3 X4 := by rw [h4]; exact box_below _ _ _
  have b5 : Below X4.heap.size X4 X5 := by rw [h5]; exact box_below _ _ _
  have b6 : Below X5.heap.size X5 X := by rw [h6]; exact box_below _ _ _
  have b46 := b5.trans (b6.mono b5.size)
  have b36 := b4.trans (b46.mono b4.size)
  have b26 := b3.trans (b36.mono b3.size)
  have b16 := b2.trans (b26.mono b2.size)
  have BX := Lib.hid (b1.trans (b16.mono b1.size))
  have HP0 : Holds X w.heap.size 38 #[.string ⟨#[]⟩, .slice none 0 0, .slice none 0 0, .slice none 0 0] := Holds.below (w := X1) (by rw [h1]; exact Holds.new _ _ _) b16 (by omega)
  have HQ : Holds X (w.heap.size + 1 + 1 + 1 + 1 + 1) 38 #[.string ⟨#[112]⟩, .slice (some ⟨w.heap.size + 1 + 1, 0, none⟩) 2 2, .slice (some ⟨w.heap.size + 1 + 1 + 1, 0, none⟩) 2 2, .slice (some ⟨w.heap.size + 1 + 1 + 1 + 1, 0, none⟩) 1 1] := by rw [← z5, h6]; exact Holds.new _ _ _
  have sv : SeesC X3.heap.size X (some ⟨w.heap.size + 1 + 1, 0, none⟩) [.string ⟨#[105]⟩, .string ⟨#[110]⟩] := SeesC.below (w := X3) (by rw [← z2, h3]; exact seesC_lit _ _ _) b36
  have ss : SeesC X4.heap.size X (some ⟨w.heap.size + 1 + 1 + 1, 0, none⟩) [.string ⟨#[109, 97, 105, 110]⟩, .string ⟨#[97, 46, 103, 111]⟩, .int .i64 3, .string ⟨#[109, 97, 105, 110]⟩, .string ⟨#[97, 46, 103, 111]⟩, .int .i64 3] := SeesC.below (w := X4) (by rw [← z3, h4]; exact seesC_lit _ _ _) b46
  have se : SeesC X5.heap.size X (some ⟨w.heap.size + 1 + 1 + 1 + 1, 0, none⟩) [.int .i64 0, .int .i64 1, .int .i64 5, .int .i64 1, .int .i64 2, .int .i64 0, .int .i64 0] := SeesC.below (w := X5) (by rw [← z4, h5]; exact seesC_lit _ _ _) b6
  have zX : X.heap.size = w.heap.size + 1 + 1 + 1 + 1 + 1 + 1 := by rw [h6]; simp [z5]
  have fin : Hid (∀ W, BelowE [w.heap.size] X.heap.size X W → PrA W ⟨⟨#[112]⟩, some ⟨w.heap.size + 1 + 1, 0, none⟩, 2, 2, some ⟨w.heap.size + 1 + 1 + 1, 0, none⟩, 2, 2, some ⟨w.heap.size + 1 + 1 + 1 + 1, 0, none⟩, 1, 1⟩ guardD ∧ Below w.heap.size w W) := Lib.hid (fun W hW => by
    have v1 := sees_belowE sv (by omega) hW (by omega)
    have v2 := sees_belowE ss (by omega) hW (by omega)
    have v3 := sees_belowE se (by omega) hW (by omega)
    have hsz := hW.size
    refine ⟨⟨rfl, ⟨rfl, Nat.le_refl _, by simp [maxLen], seesT_cells (l := guardV) (v1.mono (by omega))⟩, ⟨rfl, Nat.le_refl _, by simp [maxLen], v2.mono (by omega)⟩, ⟨rfl, Nat.le_refl _, by simp [maxLen], v3.mono (by omega)⟩⟩, ?_⟩
    exact BX.out.trans ⟨hW.os, hW.tape, hW.output, by omega, fun k hk => hW.block k (by omega) (by simp; omega)⟩)
  have HP0' := Lib.hid HP0
  have p0 : ∀ W, BelowE [w.heap.size] X.heap.size X W → W.cell? ⟨w.heap.size + 1 + 1 + 1 + 1 + 1, 0, none⟩ = some (.string ⟨#[112]⟩) := fun W hW => (hW.cell (p := ⟨w.heap.size + 1 + 1 + 1 + 1 + 1, 0, none⟩) HQ.lt (by simp; omega)).trans (HQ.cell 0)
  have p1 : ∀ W, BelowE [w.heap.size] X.heap.size X W → W.cell? ⟨w.heap.size + 1 + 1 + 1 + 1 + 1, 1, none⟩ = some (.slice (some ⟨w.heap.size + 1 + 1, 0, none⟩) 2 2) := fun W hW => (hW.cell (p := ⟨w.heap.size + 1 + 1 + 1 + 1 + 1, 1, none⟩) HQ.lt (by simp; omega)).trans (HQ.cell 1)
  have p2 : ∀ W, BelowE [w.heap.size] X.heap.size X W → W.cell? ⟨w.heap.size + 1 + 1 + 1 + 1 + 1, 2, none⟩ = some (.slice (some ⟨w.heap.size + 1 + 1 + 1, 0, none⟩) 2 2) := fun W hW => (hW.cell (p := ⟨w.heap.size + 1 + 1 + 1 + 1 + 1, 2, none⟩) HQ.lt (by simp; omega)).trans (HQ.cell 2)
  have p3 : ∀ W, BelowE [w.heap.size] X.heap.size X W → W.cell? ⟨w.heap.size + 1 + 1 + 1 + 1 + 1, 3, none⟩ = some (.slice (some ⟨w.heap.size + 1 + 1 + 1 + 1, 0, none⟩) 1 1) := fun W hW => (hW.cell (p := ⟨w.heap.size + 1 + 1 + 1 + 1 + 1, 3, none⟩) HQ.lt (by simp; omega)).trans (HQ.cell 3)
  have q1 := Lib.hid (fun a W hs => rbox_any 2 (by omega) [(0, 3), (2, 2)] rfl a 2 W hs)
  have q2 := Lib.hid (fun W => rall_any 2 (by omega) W)
  simp only [show ((2 : Nat) : Int) = 2 from rfl] at q1 q2
  have hh := Lib.hid (And.intro h1 (And.intro h2 (And.intro h3 (And.intro h4 (And.intro h5 h6)))))
  have hll := Lib.hid guardL_all
  have hgl : Hid (guardL = [(2, boxL 2 [(0, 3), (2, 2)]), (2, allL 2)]) := Lib.hid rfl
  clear z1 z2 z3 z4 z5 zX b1 b2 b3 b4 b5 b6 b46 b36 b26 b16 BX HP0 HQ sv ss se h1 h2 h3 h4 h5 h6
  generalize boxL 2 [(0, 3), (2, 2)] = LB at *
  generalize allL 2 = LA at *
  go_enter Tryz.func30, Tryz.ntmps30
  go_wp2
  rw [← hh.out.1, ← hh.out.2.1, ← hh.out.2.2.1, ← hh.out.2.2.2.1, ← hh.out.2.2.2.2.1, ← hh.out.2.2.2.2.2]
  clear hh
  refine wp_drawn_on (fun W => BelowE [w.heap.size] X.heap.size X W) (by kernel_rfl) ((BelowE.refl _ _ _).drew) (fun hHeld => ?_)
  refine wpAnyH_take (i := 0) (oi := { dst := some 13, op := Go.Op.load 38 (Go.Operand.tmp 3), type := 38, pos := "law.go:22", after := #[], guard := none }) (v := ?v1) rfl (by kernel_rfl) (by kernel_rfl) (by kernel_rfl) (fun _ _ _ h => h) (Or.inl ⟨by kernel_rfl, ?h1⟩) (by assumption) ?r1
  case h1 => (intro w hSw; (try dsimp only at hSw); go_simp; try with_reducible rfl)
  try simp only [Act.put, List.setIfInBounds_toArray, List.set_cons_zero, List.set_cons_succ]
  refine wpAnyH_take (i := 1) (oi := { dst := some 14, op := Go.Op.build 101 #[(1, Go.Operand.const (Go.Value.int Go.IntKind.i64 3))], type := 101, pos := "law.go:22", after := #[], guard := none }) (v := ?v2) rfl (by kernel_rfl) (by kernel_rfl) (by kernel_rfl) (fun _ _ _ h => h) (Or.inl ⟨by kernel_rfl, ?h2⟩) (by assumption) ?r2
  case h2 => (intro w hSw; (try dsimp only at hSw); go_simp; try with_reducible rfl)
  try simp only [Act.put, List.setIfInBounds_toArray, List.set_cons_zero, List.set_cons_succ]
  refine wpAnyH_take (i := 2) (oi := { dst := some 15, op := Go.Op.build 101 #[(0, Go.Operand.const (Go.Value.int Go.IntKind.i64 2)), (1, Go.Operand.const (Go.Value.int Go.IntKind.i64 2))], type := 101, pos := "law.go:22", after := #[], guard := none }) (v := ?v3) rfl (by kernel_rfl) (by kernel_rfl) (by kernel_rfl) (fun _ _ _ h => h) (Or.inl ⟨by kernel_rfl, ?h3⟩) (by assumption) ?r3
  case h3 => (intro w hSw; (try dsimp only at hSw); go_simp; try with_reducible rfl)
  try simp only [Act.put, List.setIfInBounds_toArray, List.set_cons_zero, List.set_cons_succ]
  refine wpAnyH_ready (rs := [3]) (by kernel_rfl) (by simp) ?_
  refine AllReadyH.cons (o := { dst := some 16, op := Go.Op.buildSlice 102 2 #[(0, Go.Operand.tmp 14), (1, Go.Operand.tmp 15)], type := 102, pos := "law.go:22", after := #[{ on := 1, ground := Go.Ground.data }, { on := 2, ground := Go.Ground.data }], guard := none }) rfl (fun K hK => ?_) AllReadyH.nil
  go_simp
  obtain ⟨v3, hv3⟩ : ∃ v3, v3 = (X.alloc (.cells #[.int .i64 0, .int .i64 3, .int .i64 2, .int .i64 2] 101)).drew := ⟨_, rfl⟩
  have hx3 : BelowE [w.heap.size] X.heap.size X v3 := (by rw [hv3]; exact ((BelowE.refl _ _ _).alloc (Nat.le_refl _) _).drew)
  have hI3 := Holds.drew (Holds.new X 101 #[.int .i64 0, .int .i64 3, .int .i64 2, .int .i64 2])
  have hP3 := Holds.drew (HP0'.out.alloc (.cells #[.int .i64 0, .int .i64 3, .int .i64 2, .int .i64 2] 101))
  rw [← hv3] at hI3 hP3
  have hit : ItS v3.heap.size v3 (some ⟨X.heap.size, 0, none⟩) [(0, 3), (2, 2)] := .inr ⟨X.heap.size, 0, rfl, hI3.lt, fun k hk => (match k, hk with | 0, _ => ⟨hI3.cell 0, hI3.cell 1⟩ | 1, _ => ⟨hI3.cell 2, hI3.cell 3⟩)⟩
  rw [← hv3]
  clear hv3
  refine hK.out _ _ (hx3) (fun hHeld => ?_)
  clear hK K
  try simp only [Act.put, List.setIfInBounds_toArray, List.set_cons_zero, List.set_cons_succ]
  refine wpAnyH_ready (rs := [4]) (by kernel_rfl) (by simp) ?_
  refine AllReadyH.cons (o := { dst := some 17, op := Go.Op.call { callee := Go.Callee.value (Go.Operand.func 65), args := #[Go.Operand.tmp 16], argTypes := #[102] }, type := 51, pos := "law.go:22", after := #[{ on := 3, ground := Go.Ground.data }], guard := none }) rfl (fun K hK => ?_) AllReadyH.nil
  go_simp
  with_reducible refine (q1.out _ _ hit).mono ?_
  rintro e v4 ⟨a1, m1, c1, rfl, s4, b4⟩
  have hP4 := hP3.below b4 hP3.lt
  go_simp
  refine hK.out _ _ (hHeld.trans (BelowE.of (b4.mono hHeld.size))) (fun hHeld => ?_)
  clear hK K
  try simp only [Act.put, List.setIfInBounds_toArray, List.set_cons_zero, List.set_cons_succ]
  refine wpAnyH_ready (rs := [5]) (by kernel_rfl) (by simp) ?_
  refine AllReadyH.cons (o := { dst := some 18, op := Go.Op.call { callee := Go.Callee.value (Go.Operand.func 66), args := #[Go.Operand.const (Go.Value.int Go.IntKind.i64 2)], argTypes := #[3] }, type := 51, pos := "law.go:22", after := #[{ on := 4, ground := Go.Ground.chain }], guard := none }) rfl (fun K hK => ?_) AllReadyH.nil
  go_simp
  with_reducible refine (q2.out _).mono ?_
  rintro e v5 ⟨a2, c2, rfl, hc5, t5, b5, -⟩
  have hS5 : GS v5 w.heap.size #[.string ⟨#[]⟩, .slice none 0 0, .slice none 0 0, .slice none 0 0] a1 m1 c1 LB a2 LA.length c2 LA := ⟨hP4.below b5 hP4.lt, s4.below b5, ⟨rfl, hc5, (by rw [hll.out]; omega), t5⟩⟩
  go_simp
  refine hK.out _ _ (hHeld.trans (BelowE.of (b5.mono hHeld.size))) (fun hHeld => ?_)
  clear hK K
  try simp only [Act.put, List.setIfInBounds_toArray, List.set_cons_zero, List.set_cons_succ]
  refine wpAnyH_ready (rs := [6, 7]) (by kernel_rfl) (by simp) ?_
  refine AllReadyH.cons (o := { dst := some 19, op := Go.Op.buildSlice 39 2 #[(0, Go.Operand.tmp 17), (1, Go.Operand.tmp 18)], type := 39, pos := "law.go:22", after := #[{ on := 4, ground := Go.Ground.data }, { on := 5, ground := Go.Ground.data }, { on := 7, ground := Go.Ground.gcOnly Go.Departure.lateStores }], guard := none }) rfl (fun K hK => ?_) (AllReadyH.cons (o := { dst := none, op := Go.Op.store 38 (Go.Operand.tmp 0) (Go.Operand.tmp 13), type := 0, pos := "law.go:22", after := #[{ on := 0, ground := Go.Ground.data }, { on := 5, ground := Go.Ground.chain }, { on := 0, ground := Go.Ground.phase }, { on := 1, ground := Go.Ground.textOnly Go.Departure.lateStores }, { on := 2, ground := Go.Ground.textOnly Go.Departure.lateStores }, { on := 3, ground := Go.Ground.textOnly Go.Departure.lateStores }, { on := 4, ground := Go.Ground.textOnly Go.Departure.lateStoresUnsure }, { on := 5, ground := Go.Ground.textOnly Go.Departure.lateStoresUnsure }, { on := 6, ground := Go.Ground.textOnly Go.Departure.lateStores }], guard := none }) rfl (fun K hK => ?_) AllReadyH.nil)
  · first | (have hSf := hS7.below (box_below v7 #[.int .i64 2, .slice a1 m1 c1, .int .i64 2, .slice a2 LA.length c2] 51); have hRf := Holds.new v7 51 #[.int .i64 2, .slice a1 m1 c1, .int .i64 2, .slice a2 LA.length c2]; have hx6 := hHeld.alloc hHeld.size (.cells #[.int .i64 2, .slice a1 m1 c1, .int .i64 2, .slice a2 LA.length c2] 51); go_simp; generalize v7.alloc (.cells #[.int .i64 2, .slice a1 m1 c1, .int .i64 2, .slice a2 LA.length c2] 51) = v6 at hSf hRf hx6 ⊢) | (have hS6 := hS5.below (box_below v5 #[.int .i64 2, .slice a1 m1 c1, .int .i64 2, .slice a2 LA.length c2] 51); have hR6 := Holds.new v5 51 #[.int .i64 2, .slice a1 m1 c1, .int .i64 2, .slice a2 LA.length c2]; have hx6 := hHeld.alloc hHeld.size (.cells #[.int .i64 2, .slice a1 m1 c1, .int .i64 2, .slice a2 LA.length c2] 51); go_simp; generalize v5.alloc (.cells #[.int .i64 2, .slice a1 m1 c1, .int .i64 2, .slice a2 LA.length c2] 51) = v6 at hS6 hR6 hx6 ⊢)
    refine hK.out _ _ (hx6) (fun hHeld => ?_)
    clear hK K
    try simp only [Act.put, List.setIfInBounds_toArray, List.set_cons_zero, List.set_cons_succ]
    refine wpAnyH_ready (rs := [7]) (by kernel_rfl) (by simp) ?_
    refine AllReadyH.cons (o := { dst := none, op := Go.Op.store 38 (Go.Operand.tmp 0) (Go.Operand.tmp 13), type := 0, pos := "law.go:22", after := #[{ on := 0, ground := Go.Ground.data }, { on := 5, ground := Go.Ground.chain }, { on := 0, ground := Go.Ground.phase }, { on := 1, ground := Go.Ground.textOnly Go.Departure.lateStores }, { on := 2, ground := Go.Ground.textOnly Go.Departure.lateStores }, { on := 3, ground := Go.Ground.textOnly Go.Departure.lateStores }, { on := 4, ground := Go.Ground.textOnly Go.Departure.lateStoresUnsure }, { on := 5, ground := Go.Ground.textOnly Go.Departure.lateStoresUnsure }, { on := 6, ground := Go.Ground.textOnly Go.Departure.lateStores }], guard := none }) rfl (fun K hK => ?_) AllReadyH.nil
    first | (have q7 := gs_store hS6 (.string ⟨#[112]⟩) (.slice (some ⟨w.heap.size + 1 + 1, 0, none⟩) 2 2) (.slice (some ⟨w.heap.size + 1 + 1 + 1, 0, none⟩) 2 2) (.slice (some ⟨w.heap.size + 1 + 1 + 1 + 1, 0, none⟩) 1 1); have c0 := hS6.p.cell 0; have c1' := hS6.p.cell 1; have c2' := hS6.p.cell 2; have c3 := hS6.p.cell 3; have f0 := hS6.p.free 0; have f1 := hS6.p.free 1; have f2 := hS6.p.free 2; have f3 := hS6.p.free 3; simp at c0 c1' c2' c3; have hSf := q7.1; have hRf := hR6.belowE q7.2 hR6.lt (by simp; have := hS5.p.lt; omega); have hx7 := hHeld.trans (q7.2.mono hHeld.size); clear q7; go_simp; generalize ((((v6.setCell ⟨w.heap.size, 0, none⟩ (.string ⟨#[112]⟩)).setCell ⟨w.heap.size, 1, none⟩ (.slice (some ⟨w.heap.size + 1 + 1, 0, none⟩) 2 2)).setCell ⟨w.heap.size, 2, none⟩ (.slice (some ⟨w.heap.size + 1 + 1 + 1, 0, none⟩) 2 2)).setCell ⟨w.heap.size, 3, none⟩ (.slice (some ⟨w.heap.size + 1 + 1 + 1 + 1, 0, none⟩) 1 1)) = v7 at hSf hRf hx7 ⊢) | (have q7 := gs_store hS5 (.string ⟨#[112]⟩) (.slice (some ⟨w.heap.size + 1 + 1, 0, none⟩) 2 2) (.slice (some ⟨w.heap.size + 1 + 1 + 1, 0, none⟩) 2 2) (.slice (some ⟨w.heap.size + 1 + 1 + 1 + 1, 0, none⟩) 1 1); have c0 := hS5.p.cell 0; have c1' := hS5.p.cell 1; have c2' := hS5.p.cell 2; have c3 := hS5.p.cell 3; have f0 := hS5.p.free 0; have f1 := hS5.p.free 1; have f2 := hS5.p.free 2; have f3 := hS5.p.free 3; simp at c0 c1' c2' c3; have hS7 := q7.1; have hx7 := hHeld.trans (q7.2.mono hHeld.size); clear q7; go_simp; generalize ((((v5.setCell ⟨w.heap.size, 0, none⟩ (.string ⟨#[112]⟩)).setCell ⟨w.heap.size, 1, none⟩ (.slice (some ⟨w.heap.size + 1 + 1, 0, none⟩) 2 2)).setCell ⟨w.heap.size, 2, none⟩ (.slice (some ⟨w.heap.size + 1 + 1 + 1, 0, none⟩) 2 2)).setCell ⟨w.heap.size, 3, none⟩ (.slice (some ⟨w.heap.size + 1 + 1 + 1 + 1, 0, none⟩) 1 1)) = v7 at hS7 hx7 ⊢)
    refine hK.out _ _ (hx7) (fun hHeld => ?_)
    clear hK K
    try simp only [Act.put, List.setIfInBounds_toArray, List.set_cons_zero, List.set_cons_succ]
    refine wpAnyH_take (i := 8) (oi := { dst := some 1, op := Go.Op.assign (Go.Operand.tmp 19), type := 39, pos := "law.go:22", after := #[{ on := 6, ground := Go.Ground.data }, { on := 7, ground := Go.Ground.chain }, { on := 0, ground := Go.Ground.phase }, { on := 1, ground := Go.Ground.phase }, { on := 2, ground := Go.Ground.phase }, { on := 3, ground := Go.Ground.phase }, { on := 4, ground := Go.Ground.phase }, { on := 5, ground := Go.Ground.phase }, { on := 6, ground := Go.Ground.phase }, { on := 7, ground := Go.Ground.phase }], guard := none }) (v := ?v4) rfl (by kernel_rfl) (by kernel_rfl) (by kernel_rfl) (fun _ _ _ h => h) (Or.inl ⟨by kernel_rfl, ?h4⟩) (by assumption) ?r4
    case h4 => (intro w hSw; (try dsimp only at hSw); go_simp; try with_reducible rfl)
    try simp only [Act.put, List.setIfInBounds_toArray, List.set_cons_zero, List.set_cons_succ]
    refine wpAnyH_done (by kernel_rfl) ?_ _
    have hend := Lib.hid (fin.out _ hHeld)
    have hz := Lib.hid (zrow_two hRf hSf.s1 hSf.s2)
    have hSf' := Lib.hid hSf.p
    clear hHeld hRf hSf p0 p1 p2 p3
    go_wp2
    exact pr_ret2 hSf'.out ⟨⟨⟨#[112]⟩, some ⟨w.heap.size + 1 + 1, 0, none⟩, 2, 2, some ⟨w.heap.size + 1 + 1 + 1, 0, none⟩, 2, 2, some ⟨w.heap.size + 1 + 1 + 1 + 1, 0, none⟩, 1, 1⟩, _, rfl, hend.out.1, by rw [hgl.out]; exact hz.out, hend.out.2⟩ _ _ 0 1 rfl rfl rfl rfl
  · first | (have q7 := gs_store hS6 (.string ⟨#[112]⟩) (.slice (some ⟨w.heap.size + 1 + 1, 0, none⟩) 2 2) (.slice (some ⟨w.heap.size + 1 + 1 + 1, 0, none⟩) 2 2) (.slice (some ⟨w.heap.size + 1 + 1 + 1 + 1, 0, none⟩) 1 1); have c0 := hS6.p.cell 0; have c1' := hS6.p.cell 1; have c2' := hS6.p.cell 2; have c3 := hS6.p.cell 3; have f0 := hS6.p.free 0; have f1 := hS6.p.free 1; have f2 := hS6.p.free 2; have f3 := hS6.p.free 3; simp at c0 c1' c2' c3; have hSf := q7.1; have hRf := hR6.belowE q7.2 hR6.lt (by simp; have := hS5.p.lt; omega); have hx7 := hHeld.trans (q7.2.mono hHeld.size); clear q7; go_simp; generalize ((((v6.setCell ⟨w.heap.size, 0, none⟩ (.string ⟨#[112]⟩)).setCell ⟨w.heap.size, 1, none⟩ (.slice (some ⟨w.heap.size + 1 + 1, 0, none⟩) 2 2)).setCell ⟨w.heap.size, 2, none⟩ (.slice (some ⟨w.heap.size + 1 + 1 + 1, 0, none⟩) 2 2)).setCell ⟨w.heap.size, 3, none⟩ (.slice (some ⟨w.heap.size + 1 + 1 + 1 + 1, 0, none⟩) 1 1)) = v7 at hSf hRf hx7 ⊢) | (have q7 := gs_store hS5 (.string ⟨#[112]⟩) (.slice (some ⟨w.heap.size + 1 + 1, 0, none⟩) 2 2) (.slice (some ⟨w.heap.size + 1 + 1 + 1, 0, none⟩) 2 2) (.slice (some ⟨w.heap.size + 1 + 1 + 1 + 1, 0, none⟩) 1 1); have c0 := hS5.p.cell 0; have c1' := hS5.p.cell 1; have c2' := hS5.p.cell 2; have c3 := hS5.p.cell 3; have f0 := hS5.p.free 0; have f1 := hS5.p.free 1; have f2 := hS5.p.free 2; have f3 := hS5.p.free 3; simp at c0 c1' c2' c3; have hS7 := q7.1; have hx7 := hHeld.trans (q7.2.mono hHeld.size); clear q7; go_simp; generalize ((((v5.setCell ⟨w.heap.size, 0, none⟩ (.string ⟨#[112]⟩)).setCell ⟨w.heap.size, 1, none⟩ (.slice (some ⟨w.heap.size + 1 + 1, 0, none⟩) 2 2)).setCell ⟨w.heap.size, 2, none⟩ (.slice (some ⟨w.heap.size + 1 + 1 + 1, 0, none⟩) 2 2)).setCell ⟨w.heap.size, 3, none⟩ (.slice (some ⟨w.heap.size + 1 + 1 + 1 + 1, 0, none⟩) 1 1)) = v7 at hS7 hx7 ⊢)
    refine hK.out _ _ (hx7) (fun hHeld => ?_)
    clear hK K
    try simp only [Act.put, List.setIfInBounds_toArray, List.set_cons_zero, List.set_cons_succ]
    refine wpAnyH_ready (rs := [6]) (by kernel_rfl) (by simp) ?_
    refine AllReadyH.cons (o := { dst := some 19, op := Go.Op.buildSlice 39 2 #[(0, Go.Operand.tmp 17), (1, Go.Operand.tmp 18)], type := 39, pos := "law.go:22", after := #[{ on := 4, ground := Go.Ground.data }, { on := 5, ground := Go.Ground.data }, { on := 7, ground := Go.Ground.gcOnly Go.Departure.lateStores }], guard := none }) rfl (fun K hK => ?_) AllReadyH.nil
    first | (have hSf := hS7.below (box_below v7 #[.int .i64 2, .slice a1 m1 c1, .int .i64 2, .slice a2 LA.length c2] 51); have hRf := Holds.new v7 51 #[.int .i64 2, .slice a1 m1 c1, .int .i64 2, .slice a2 LA.length c2]; have hx6 := hHeld.alloc hHeld.size (.cells #[.int .i64 2, .slice a1 m1 c1, .int .i64 2, .slice a2 LA.length c2] 51); go_simp; generalize v7.alloc (.cells #[.int .i64 2, .slice a1 m1 c1, .int .i64 2, .slice a2 LA.length c2] 51) = v6 at hSf hRf hx6 ⊢) | (have hS6 := hS5.below (box_below v5 #[.int .i64 2, .slice a1 m1 c1, .int .i64 2, .slice a2 LA.length c2] 51); have hR6 := Holds.new v5 51 #[.int .i64 2, .slice a1 m1 c1, .int .i64 2, .slice a2 LA.length c2]; have hx6 := hHeld.alloc hHeld.size (.cells #[.int .i64 2, .slice a1 m1 c1, .int .i64 2, .slice a2 LA.length c2] 51); go_simp; generalize v5.alloc (.cells #[.int .i64 2, .slice a1 m1 c1, .int .i64 2, .slice a2 LA.length c2] 51) = v6 at hS6 hR6 hx6 ⊢)
    refine hK.out _ _ (hx6) (fun hHeld => ?_)
    clear hK K
    try simp only [Act.put, List.setIfInBounds_toArray, List.set_cons_zero, List.set_cons_succ]
    refine wpAnyH_take (i := 8) (oi := { dst := some 1, op := Go.Op.assign (Go.Operand.tmp 19), type := 39, pos := "law.go:22", after := #[{ on := 6, ground := Go.Ground.data }, { on := 7, ground := Go.Ground.chain }, { on := 0, ground := Go.Ground.phase }, { on := 1, ground := Go.Ground.phase }, { on := 2, ground := Go.Ground.phase }, { on := 3, ground := Go.Ground.phase }, { on := 4, ground := Go.Ground.phase }, { on := 5, ground := Go.Ground.phase }, { on := 6, ground := Go.Ground.phase }, { on := 7, ground := Go.Ground.phase }], guard := none }) (v := ?v5) rfl (by kernel_rfl) (by kernel_rfl) (by kernel_rfl) (fun _ _ _ h => h) (Or.inl ⟨by kernel_rfl, ?h5⟩) (by assumption) ?r5
    case h5 => (intro w hSw; (try dsimp only at hSw); go_simp; try with_reducible rfl)
    try simp only [Act.put, List.setIfInBounds_toArray, List.set_cons_zero, List.set_cons_succ]
    refine wpAnyH_done (by kernel_rfl) ?_ _
    have hend := Lib.hid (fin.out _ hHeld)
    have hz := Lib.hid (zrow_two hRf hSf.s1 hSf.s2)
    have hSf' := Lib.hid hSf.p
    clear hHeld hRf hSf p0 p1 p2 p3
    go_wp2
    exact pr_ret2 hSf'.out ⟨⟨⟨#[112]⟩, some ⟨w.heap.size + 1 + 1, 0, none⟩, 2, 2, some ⟨w.heap.size + 1 + 1 + 1, 0, none⟩, 2, 2, some ⟨w.heap.size + 1 + 1 + 1 + 1, 0, none⟩, 1, 1⟩, _, rfl, hend.out.1, by rw [hgl.out]; exact hz.out, hend.out.2⟩ _ _ 0 1 rfl rfl rfl rfl
end Go.Proofs.YtimgocfkogebmaaGreatDoor
namespace Go.Proofs.YtimgocfkogebmaaGreatDoor
set_option linter.unusedVariables false
set_option linter.unusedSimpArgs false
structure Cm {α : Type} (c : α → α → Int) (E : α → α → Prop) : Prop where
  range : ∀ a b, c a b = -1 ∨ c a b = 0 ∨ c a b = 1
  zero : ∀ a b, c a b = 0 ↔ E a b
  anti : ∀ a b, c b a = -c a b
  trans : ∀ a b d, c a b ≤ 0 → c b d ≤ 0 → c a d ≤ 0
def thenC (x y : Int) : Int := if x = 0 then y else x
theorem Cm.lex {α : Type} {c d : α → α → Int} {E F : α → α → Prop} (hc : Cm c E) (hd : Cm d F) : Cm (fun a b => thenC (c a b) (d a b)) (fun a b => E a b ∧ F a b) := by
  refine ⟨fun a b => ?_, fun a b => ?_, fun a b => ?_, fun a b e h1 h2 => ?_⟩
  · simp only [thenC]
    split
    · exact hd.range a b
    · exact hc.range a b
  · simp only [thenC]
    split
    · next h => rw [hd.zero]; exact ⟨fun x => ⟨(hc.zero a b).1 h, x⟩, fun x => x.2⟩
    · next h => exact ⟨fun x => absurd x h, fun x => absurd ((hc.zero a b).2 x.1) h⟩
  · simp only [thenC]
    rw [hc.anti a b, hd.anti a b]
    by_cases h : c a b = 0
    · rw [if_pos h, if_pos (by omega)]
    · rw [if_neg h, if_neg (by omega)]
  · simp only [thenC] at h1 h2 ⊢
    have k1 : c a b ≤ 0 := by split at h1 <;> omega
    have k2 : c b e ≤ 0 := by split at h2 <;> omega
    have k3 := hc.trans a b e k1 k2
    by_cases h : c a e = 0
    · rw [if_pos h]
      have q1 := hc.anti a e
      have q2 := hc.trans b e a k2 (by omega)
      have q3 := hc.anti a b
      have q4 := hc.trans e a b (by omega) k1
      have q5 := hc.anti b e
      rw [if_pos (by omega)] at h1 h2
      exact hd.trans a b e h1 h2
    · rw [if_neg h]; exact k3
def cmpZ (a b : Int) : Int := if a < b then -1 else if b < a then 1 else 0
def cmpT (a b : ByteArray) : Int := if lt8 (byt a) (byt b) = true then -1 else if lt8 (byt b) (byt a) = true then 1 else 0
theorem cmZ {α : Type} (k : α → Int) : Cm (fun a b => cmpZ (k a) (k b)) (fun a b => k a = k b) := by
  refine ⟨fun a b => ?_, fun a b => ?_, fun a b => ?_, fun a b d h1 h2 => ?_⟩
  all_goals simp only [cmpZ] at *
  all_goals (repeat' split) <;> (try (repeat' split at h1)) <;> (try (repeat' split at h2)) <;> first | omega | (constructor <;> intro <;> omega)
theorem cmT {α : Type} (k : α → ByteArray) : Cm (fun a b => cmpT (k a) (k b)) (fun a b => k a = k b) := by
  refine ⟨fun a b => ?_, fun a b => ?_, fun a b => ?_, fun a b d h1 h2 => ?_⟩
  · simp only [cmpT]
    split
    · exact .inl rfl
    · split
      · exact .inr (.inr rfl)
      · exact .inr (.inl rfl)
  · simp only [cmpT]
    split
    · next h => exact ⟨fun x => by omega, fun x => by rw [x, lt8_irrefl] at h; cases h⟩
    · next h =>
      split
      · next h2 => exact ⟨fun x => by omega, fun x => by rw [x, lt8_irrefl] at h2; cases h2⟩
      · next h2 => exact ⟨fun _ => byt_inj (lt8_tri (by simpa using h) (by simpa using h2)), fun _ => rfl⟩
  · simp only [cmpT]
    by_cases h : lt8 (byt (k a)) (byt (k b)) = true
    · rw [if_pos h, if_neg (by rw [lt8_asymm h]; simp), if_pos h]; rfl
    · rw [if_neg h, if_neg h]
      by_cases h2 : lt8 (byt (k b)) (byt (k a)) = true
      · rw [if_pos h2, if_pos h2]
      · rw [if_neg h2, if_neg h2]; rfl
  · simp only [cmpT] at h1 h2 ⊢
    have g1 : lt8 (byt (k b)) (byt (k a)) = false := by
      cases h : lt8 (byt (k b)) (byt (k a))
      · rfl
      · rw [if_neg (by rw [lt8_asymm h]; simp), if_pos h] at h1; omega
    have g2 : lt8 (byt (k d)) (byt (k b)) = false := by
      cases h : lt8 (byt (k d)) (byt (k b))
      · rfl
      · rw [if_neg (by rw [lt8_asymm h]; simp), if_pos h] at h2; omega
    have g3 : lt8 (byt (k d)) (byt (k a)) = false := by
      rw [lt8_is, decide_eq_false_iff_not] at *
      intro h
      rcases Decidable.em (byt (k a) < byt (k b)) with h5 | h5
      · exact g2 (List.lt_trans h h5)
      · have e := List.le_antisymm (List.not_lt.1 h5) (List.not_lt.1 g1)
        rw [← e] at h
        exact g2 h
    split
    · omega
    · rw [if_neg (by rw [g3]; simp)]; omega
structure AlD where
  kind : Int
  sev : Int
  fn : ByteArray
  file : ByteArray
  line : Int
  expr : ByteArray
def cmpA (a b : AlD) : Int := thenC (cmpT a.file b.file) (thenC (cmpZ a.line b.line) (thenC (cmpT a.fn b.fn) (thenC (cmpZ a.kind b.kind) (thenC (cmpT a.expr b.expr) (cmpZ a.sev b.sev)))))
theorem cmA : Cm cmpA (fun a b => a = b) := by
  have h := (cmT AlD.file).lex ((cmZ AlD.line).lex ((cmT AlD.fn).lex ((cmZ AlD.kind).lex ((cmT AlD.expr).lex (cmZ AlD.sev)))))
  refine ⟨h.range, fun a b => (h.zero a b).trans ⟨fun ⟨h1, h2, h3, h4, h5, h6⟩ => ?_, fun e => by subst e; exact ⟨rfl, rfl, rfl, rfl, rfl, rfl⟩⟩, h.anti, h.trans⟩
  cases a
  cases b
  simp_all
def SortedC {α : Type} (c : α → α → Int) (l : List α) : Prop := l.Pairwise fun a b => c a b ≤ 0
theorem sorted_one {α : Type} {c : α → α → Int} (hc : Cm c (fun a b => a = b)) : ∀ {l m : List α}, SortedC c l → SortedC c m → l.Perm m → l = m
  | [], m, _, _, h => (List.nil_perm.1 h).symm
  | x :: l, [], _, _, h => by have := h.length_eq; simp at this
  | x :: l, y :: m, hl, hm, h => by
    unfold SortedC at hl hm
    rw [List.pairwise_cons] at hl hm
    have hxy : x = y := by
      have hx := h.mem_iff.1 (List.mem_cons_self (a := x) (l := l))
      have hy := h.mem_iff.2 (List.mem_cons_self (a := y) (l := m))
      rcases List.mem_cons.1 hx with e | hx
      · exact e
      · rcases List.mem_cons.1 hy with e | hy
        · exact e.symm
        · have h1 := hm.1 x hx
          have h2 := hl.1 y hy
          have h3 := hc.anti x y
          exact (hc.zero x y).1 (by omega)
    subst hxy
    rw [sorted_one hc hl.2 hm.2 (List.Perm.cons_inv h)]
def insF {α : Type} (c : α → α → Int) (x : α) : List α → List α
  | [] => [x]
  | y :: r => if 0 < c y x then y :: insF c x r else x :: y :: r
theorem insF_perm {α : Type} (c : α → α → Int) (x : α) : ∀ r : List α, (insF c x r).Perm (x :: r)
  | [] => .refl _
  | y :: r => by
    unfold insF
    split
    · exact ((insF_perm c x r).cons y).trans (List.Perm.swap x y r)
    · exact .refl _
theorem insF_sorted {α : Type} {c : α → α → Int} {E : α → α → Prop} (hc : Cm c E) (x : α) : ∀ {r : List α}, r.Pairwise (fun a b => c b a ≤ 0) → (insF c x r).Pairwise (fun a b => c b a ≤ 0)
  | [], _ => by simp [insF]
  | y :: r, h => by
    rw [List.pairwise_cons] at h
    unfold insF
    split
    · next h0 =>
      rw [List.pairwise_cons]
      refine ⟨fun z hz => ?_, insF_sorted hc x h.2⟩
      rcases List.mem_cons.1 ((insF_perm c x r).mem_iff.1 hz) with e | e
      · subst e
        have := hc.anti y z
        omega
      · exact h.1 z e
    · next h0 =>
      rw [List.pairwise_cons]
      refine ⟨fun z hz => ?_, List.pairwise_cons.2 h⟩
      rcases List.mem_cons.1 hz with e | e
      · subst e; omega
      · exact hc.trans z y x (h.1 z e) (by omega)
def backF {α : Type} (c : α → α → Int) (l : List α) : List α := l.foldl (fun r x => insF c x r) []
theorem backF_perm {α : Type} (c : α → α → Int) (l : List α) : (backF c l).Perm l := by
  have h : ∀ (l r : List α), (l.foldl (fun r x => insF c x r) r).Perm (l ++ r) := by
    intro l
    induction l with
    | nil => exact fun r => .refl _
    | cons x l ih => exact fun r => (ih _).trans (((insF_perm c x r).append_left l).trans (List.perm_middle))
  have := h l []
  rw [List.append_nil] at this
  exact this
theorem backF_sorted {α : Type} {c : α → α → Int} {E : α → α → Prop} (hc : Cm c E) (l : List α) : (backF c l).Pairwise (fun a b => c b a ≤ 0) := by
  have h : ∀ (l r : List α), r.Pairwise (fun a b => c b a ≤ 0) → (l.foldl (fun r x => insF c x r) r).Pairwise (fun a b => c b a ≤ 0) := by
    intro l
    induction l with
    | nil => exact fun r hr => hr
    | cons x l ih => exact fun r hr => ih _ (insF_sorted hc x hr)
  exact h l [] .nil
def sortC {α : Type} (c : α → α → Int) (l : List α) : List α := (backF c l).reverse
theorem sortC_perm {α : Type} (c : α → α → Int) (l : List α) : (sortC c l).Perm l := (List.reverse_perm _).trans (backF_perm c l)
theorem sortC_sorted {α : Type} {c : α → α → Int} {E : α → α → Prop} (hc : Cm c E) (l : List α) : SortedC c (sortC c l) := by
  unfold SortedC sortC
  rw [List.pairwise_reverse]
  exact backF_sorted hc l
theorem sortC_is {α : Type} {c : α → α → Int} (hc : Cm c (fun a b => a = b)) {l s : List α} (hp : s.Perm l) (hs : SortedC c s) : s = sortC c l :=
  sorted_one hc hs (sortC_sorted hc l) (hp.trans (sortC_perm c l).symm)
end Go.Proofs.YtimgocfkogebmaaGreatDoor
