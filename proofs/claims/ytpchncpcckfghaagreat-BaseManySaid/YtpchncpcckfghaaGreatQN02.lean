/-
  Words and walks under the law's proof.
-/
import Derived.Shelf.SlSortCmp.Kit1
import Derived.Sort.WalkA
import Derived.Sort.WalkB3
import Derived.Deep.LoopGhost
import Derived.RangeFuncNested
import Derived.RangeFuncBound
import Derived.RangeFuncCalls
import Derived.RangeFuncLeaves
import Derived.RangeFuncBox
import Derived.Shelf.Abstract
import Derived.WalkKit
import Derived.OwnWalkIn
import Derived.TacticsInMore
import Derived.LoopNIn
import Derived.LoopIn
import Derived.Maps.AppendAt
import Derived.Laws.ResultCell
import Derived.Laws.Tables
import Derived.Laws.CopyRow
import Derived.ArgAppend
import Derived.Test.YtpchncpcckfghaaGreatRows
import Derived.IntWalk
import Derived.Deep.QuietTactic
import Derived.BigQuiet
import Derived.Laws.Cover1
import Derived.WalkMore
import Derived.Test.YtpchncpcckfghaaGreatQN01
namespace Go.Proofs.YtpchncpcckfghaaGreat
open Go.RowKit
set_option linter.unusedVariables false
set_option linter.unusedSimpArgs false
def bchk (l : List MkD) : Int := if baseB l = true then 0 else 210
theorem bchk_no {l : List MkD} (h : baseB l = false) : bchk l = 210 := by unfold bchk; rw [h]; rfl
theorem bchk_yes {l : List MkD} (h : baseB l = true) : bchk l = 0 := by unfold bchk; rw [if_pos h]
theorem okAt_note {l : List MkD} {k : Nat} (h : noteB (l.getD k mk0).note = false) : okAt l k = false := by unfold okAt; rw [h]; rfl
theorem okAt_zero {l : List MkD} {k : Nat} (hk : k = 0) (h : noteB (l.getD k mk0).note = true) : okAt l k = true := by unfold okAt; rw [h, decide_eq_true hk]; rfl
theorem okAt_pos {l : List MkD} {k p : Nat} (hk : k = p + 1) (h : noteB (l.getD k mk0).note = true) : okAt l k = decide ((l.getD p mk0).f < (l.getD k mk0).f) := by
  unfold okAt
  rw [h, decide_eq_false (by omega), show k - 1 = p by omega]
  rfl
theorem ok_next {l : List MkD} {k : Nat} (h : okAt l k = true) (hal : ∀ t, t < k → okAt l t = true) : ∀ t, t < k + 1 → okAt l t = true := fun t ht => by
  by_cases e : t = k
  · rw [e]; exact h
  · exact hal t (by omega)
set_option maxRecDepth 100000 in
set_option maxHeartbeats 8000000 in
theorem bbase_any (w : World) (a : Option Addr) (n c : Nat) (l : List MkD) (hr : RO mkC w a n c l) : Calls Tryz.prog 29 #[.slice a n c] w (Gives (.int .i64 (bchk l)) w) := by
  have hlen := Lib.hid hr.len
  by_cases h1 : 1024 < n
  · have hF : Hid (bchk l = 210) := Lib.hid (bchk_no (baseB_big (by have := hlen.out; omega)))
    have h1i : (1024 : Int) < (n : Int) := by omega
    generalize bchk l = E at *
    clear hr
    go_enter Tryz.func29, Tryz.ntmps29
    go_wp2
    go_ret
    exact ⟨(by rw [hF.out]; rfl), Below.refl _ _⟩
  have h1i : ¬ (1024 : Int) < (n : Int) := by omega
  have RW := Lib.hid hr
  have hno := Lib.hid (fun k (hk : k < n) (h : okAt l k = false) => bchk_no (baseB_at (l := l) (by rw [← hlen.out]; exact hk) h))
  have hyes := Lib.hid (fun (h : ∀ t, t < n → okAt l t = true) => bchk_yes (baseB_yes (l := l) (by have := hlen.out; omega) (by rw [← hlen.out]; exact h)))
  have qn := Lib.hid (fun s W => note_any s W)
  generalize bchk l = E at *
  clear hr
  go_enter Tryz.func29, Tryz.ntmps29
  go_wp2
  go_loopw [10] (fun x wr => ∃ k : Nat, k ≤ n ∧ x = .int .i64 k ∧ Hid (∀ t, t < k → okAt l t = true) ∧ Hid (Below w.heap.size w wr)) (fun x _ => n - (intOf x).toNat)
  case atStart => exact ⟨0, Nat.zero_le _, rfl, Lib.hid (fun t ht => by omega), Lib.hid (Below.refl _ _)⟩
  case round =>
    obtain ⟨k, hk, rfl, hal, hB⟩ := hrel
    generalize wr = g0 at *
    by_cases hlt : k < n
    · have hki : (k : Int) < (n : Int) := by omega
      obtain ⟨b, off, rfl, hbl, x0, x1⟩ := mk_at (RW.out.below hB.out) hlt
      have hno' := Lib.hid (hno.out k hlt)
      have hn0 := Lib.hid (fun h => okAt_note (l := l) (k := k) h)
      have hz0 := Lib.hid (fun hk h => okAt_zero (l := l) (k := k) hk h)
      have hp0 := Lib.hid (fun p hk h => okAt_pos (l := l) (k := k) (p := p) hk h)
      have hnx := Lib.hid (fun h => ok_next (l := l) (k := k) h hal.out)
      have qs := Lib.hid (fun W => qn.out (l.getD k mk0).note W)
      obtain ⟨V0, hV0⟩ : ∃ V0, V0 = g0.alloc (.cells #[.int .u64 (l.getD k mk0).f, .string (l.getD k mk0).note] 40) := ⟨_, rfl⟩
      have bV : Below g0.heap.size g0 V0 := by rw [hV0]; exact box_below _ _ _
      have HC : Holds V0 g0.heap.size 40 #[.int .u64 (l.getD k mk0).f, .string (l.getD k mk0).note] := by rw [hV0]; exact Holds.new _ _ _
      have y0 : ∀ W, Below V0.heap.size V0 W → W.cell? ⟨g0.heap.size, 0, none⟩ = some (.int .u64 (l.getD k mk0).f) := fun W hW => (HC.below hW HC.lt).cell 0
      have y1 : ∀ W, Below V0.heap.size V0 W → W.cell? ⟨g0.heap.size, 1, none⟩ = some (.string (l.getD k mk0).note) := fun W hW => (HC.below hW HC.lt).cell 1
      have hBV := Lib.hid (hB.out.trans (bV.mono hB.out.size))
      have RV := Lib.hid (RW.out.below hBV.out)
      have hV0' := Lib.hid hV0
      clear hal hno bV HC hV0 hB
      generalize (l.getD k mk0).note = s at *
      have hbV : b < V0.heap.size := by rw [hV0'.out]; simp; omega
      cases hnb : noteB s
      · (have hf := Lib.hid (hno'.out (hn0.out hnb)))
        rw [hnb] at qs
        generalize (l.getD k mk0).f = f at *
        clear hno' hn0 hz0 hp0 hnx hnb hyes qn
        go_wp2
        rw [← hV0'.out]
        refine wp_drawn_on (fun W => Below V0.heap.size V0 W) (by kernel_rfl) ((Below.refl _ _).drew) (fun hHeld => ?_)
        refine wT 0 (v := ?v1) rfl (by kernel_rfl) (fun _ _ _ h => h) ?h1 (by assumption) ?r1
        case h1 => (intro w hSw; (try dsimp only at hSw); go_simp; try with_reducible rfl)
        refine wT 1 (v := ?v2) rfl (by kernel_rfl) (fun _ _ _ h => h) ?h2 (by assumption) ?r2
        case h2 => (intro w hSw; (try dsimp only at hSw); go_simp; try with_reducible rfl)
        try simp only [Act.put, List.setIfInBounds_toArray, List.set_cons_zero, List.set_cons_succ]
        refine wpAnyH_ready (rs := [2]) (by kernel_rfl) (by simp) ?_
        refine AllReadyH.cons (o := ⟨_, _, _, _, _, _⟩) rfl (fun K hK => ?_) AllReadyH.nil
        go_simp
        with_reducible refine (qs.out _).mono ?_
        rintro e w3 ⟨rfl, b3⟩
        go_simp
        refine hK.out _ _ (hHeld.trans (b3.mono hHeld.size)) (fun hHeld => ?_)
        clear hK K
        refine wT 3 (v := ?v3) rfl (by kernel_rfl) (fun _ _ _ h => h) ?h3 (by assumption) ?r3
        case h3 => (intro w hSw; (try dsimp only at hSw); go_simp; try with_reducible rfl)
        refine wT 4 (v := ?v4) rfl (by kernel_rfl) (fun _ _ _ h => h) ?h4 (by assumption) ?r4
        case h4 => (intro w hSw; (try dsimp only at hSw); go_simp; try with_reducible rfl)
        refine wS 5 rfl (by kernel_rfl) (fun _ _ _ h => h) (by assumption) ?_
        refine wS 6 rfl (by kernel_rfl) (fun _ _ _ h => h) (by assumption) ?_
        refine wS 7 rfl (by kernel_rfl) (fun _ _ _ h => h) (by assumption) ?_
        refine wS 8 rfl (by kernel_rfl) (fun _ _ _ h => h) (by assumption) ?_
        refine wS 9 rfl (by kernel_rfl) (fun _ _ _ h => h) (by assumption) ?_
        refine wS 10 rfl (by kernel_rfl) (fun _ _ _ h => h) (by assumption) ?_
        refine wS 11 rfl (by kernel_rfl) (fun _ _ _ h => h) (by assumption) ?_
        refine wS 12 rfl (by kernel_rfl) (fun _ _ _ h => h) (by assumption) ?_
        refine wS 13 rfl (by kernel_rfl) (fun _ _ _ h => h) (by assumption) ?_
        refine wS 14 rfl (by kernel_rfl) (fun _ _ _ h => h) (by assumption) ?_
        refine wS 15 rfl (by kernel_rfl) (fun _ _ _ h => h) (by assumption) ?_
        refine wS 16 rfl (by kernel_rfl) (fun _ _ _ h => h) (by assumption) ?_
        refine wS 17 rfl (by kernel_rfl) (fun _ _ _ h => h) (by assumption) ?_
        refine wT 18 (v := ?v18) rfl (by kernel_rfl) (fun _ _ _ h => h) ?h18 (by assumption) ?r18
        case h18 => (intro w hSw; (try dsimp only at hSw); go_simp; try with_reducible rfl)
        try simp only [Act.put, List.setIfInBounds_toArray, List.set_cons_zero, List.set_cons_succ]
        refine wpAnyH_done (by kernel_rfl) ?_ _
        clear y0 y1
        go_wp2
        go_ret
        exact ⟨(by rw [hf.out]; rfl), hBV.out.trans (hHeld.mono hBV.out.size)⟩
      · by_cases hk0 : k = 0
        · have hg := Lib.hid (hnx.out (hz0.out hk0 hnb))
          have hk0i : decide ((0 : Int) < (k : Int)) = false := decide_eq_false (by omega)
          have hk0n : decide (0 < k) = false := decide_eq_false (by omega)
          clear hk0
          generalize (l.getD k mk0).f = f at *
          rw [hnb] at qs
          clear hno' hn0 hz0 hp0 hnx hnb hyes qn
          go_wp2
          rw [← hV0'.out]
          refine wp_drawn_on (fun W => Below V0.heap.size V0 W) (by kernel_rfl) ((Below.refl _ _).drew) (fun hHeld => ?_)
          refine wT 0 (v := ?v19) rfl (by kernel_rfl) (fun _ _ _ h => h) ?h19 (by assumption) ?r19
          case h19 => (intro w hSw; (try dsimp only at hSw); go_simp; try with_reducible rfl)
          refine wT 1 (v := ?v20) rfl (by kernel_rfl) (fun _ _ _ h => h) ?h20 (by assumption) ?r20
          case h20 => (intro w hSw; (try dsimp only at hSw); go_simp; try with_reducible rfl)
          try simp only [Act.put, List.setIfInBounds_toArray, List.set_cons_zero, List.set_cons_succ]
          refine wpAnyH_ready (rs := [2]) (by kernel_rfl) (by simp) ?_
          refine AllReadyH.cons (o := ⟨_, _, _, _, _, _⟩) rfl (fun K hK => ?_) AllReadyH.nil
          go_simp
          with_reducible refine (qs.out _).mono ?_
          rintro e w3 ⟨rfl, b3⟩
          go_simp
          refine hK.out _ _ (hHeld.trans (b3.mono hHeld.size)) (fun hHeld => ?_)
          clear hK K
          refine wT 3 (v := ?v21) rfl (by kernel_rfl) (fun _ _ _ h => h) ?h21 (by assumption) ?r21
          case h21 => (intro w hSw; (try dsimp only at hSw); go_simp; try with_reducible rfl)
          refine wT 4 (v := ?v22) rfl (by kernel_rfl) (fun _ _ _ h => h) ?h22 (by assumption) ?r22
          case h22 => (intro w hSw; (try dsimp only at hSw); go_simp; try with_reducible rfl)
          refine wT 5 (v := ?v23) rfl (by kernel_rfl) (fun _ _ _ h => h) ?h23 (by assumption) ?r23
          case h23 => (intro w hSw; (try dsimp only at hSw); go_simp; try with_reducible rfl)
          refine wT 6 (v := ?v24) rfl (by kernel_rfl) (fun _ _ _ h => h) ?h24 (by assumption) ?r24
          case h24 => (intro w hSw; (try dsimp only at hSw); go_simp; try with_reducible rfl)
          refine wT 7 (v := ?v25) rfl (by kernel_rfl) (fun _ _ _ h => h) ?h25 (by assumption) ?r25
          case h25 => (intro w hSw; (try dsimp only at hSw); go_simp; try with_reducible rfl)
          refine wS 8 rfl (by kernel_rfl) (fun _ _ _ h => h) (by assumption) ?_
          refine wS 9 rfl (by kernel_rfl) (fun _ _ _ h => h) (by assumption) ?_
          refine wS 10 rfl (by kernel_rfl) (fun _ _ _ h => h) (by assumption) ?_
          refine wS 11 rfl (by kernel_rfl) (fun _ _ _ h => h) (by assumption) ?_
          refine wS 12 rfl (by kernel_rfl) (fun _ _ _ h => h) (by assumption) ?_
          refine wS 13 rfl (by kernel_rfl) (fun _ _ _ h => h) (by assumption) ?_
          refine wS 14 rfl (by kernel_rfl) (fun _ _ _ h => h) (by assumption) ?_
          refine wS 15 rfl (by kernel_rfl) (fun _ _ _ h => h) (by assumption) ?_
          refine wS 16 rfl (by kernel_rfl) (fun _ _ _ h => h) (by assumption) ?_
          refine wT 17 (v := ?v35) rfl (by kernel_rfl) (fun _ _ _ h => h) ?h35 (by assumption) ?r35
          case h35 => (intro w hSw; (try dsimp only at hSw); go_simp; try with_reducible rfl)
          refine wT 18 (v := ?v36) rfl (by kernel_rfl) (fun _ _ _ h => h) ?h36 (by assumption) ?r36
          case h36 => (intro w hSw; (try dsimp only at hSw); go_simp; try with_reducible rfl)
          try simp only [Act.put, List.setIfInBounds_toArray, List.set_cons_zero, List.set_cons_succ]
          refine wpAnyH_done (by kernel_rfl) ?_ _
          clear y0 y1
          go_wp2
          go_roundw
          case rel => exact ⟨k + 1, by omega, by go_num, hg, Lib.hid (hBV.out.trans (hHeld.mono hBV.out.size))⟩
          case measure => simp [intOf]; omega
        · obtain ⟨p, hp⟩ : ∃ p, k = p + 1 := ⟨k - 1, by omega⟩
          have hk0i : decide ((0 : Int) < (k : Int)) = true := decide_eq_true (by omega)
          have hk0n : decide (0 < k) = true := decide_eq_true (by omega)
          have hpn : p < n := by omega
          have hpi : (p : Int) < (n : Int) := by omega
          have hw1 : IntKind.i64.wrap ((k : Int) - 1) = (p : Int) := by rw [IntKind.wrap_i64]; omega
          have hq := hp0.out p hp hnb
          obtain ⟨b', off', hb1, -, z0, -⟩ := mk_at RV.out hpn
          injection hb1 with hb1
          injection hb1 with hb1 hb2
          subst hb1 hb2
          have z0' : ∀ W, Below V0.heap.size V0 W → W.cell? ⟨b, off + p * 2, none⟩ = some (.int .u64 (l.getD p mk0).f) := fun W hW => (hW.cell (p := ⟨b, off + p * 2, none⟩) hbV).trans z0
          clear z0
          generalize (l.getD k mk0).f = f at *
          generalize (l.getD p mk0).f = f' at *
          clear hp hk0
          by_cases hff : f' < f
          · have hg := Lib.hid (hnx.out (by rw [hq]; exact decide_eq_true hff))
            have hle : ¬ f ≤ f' := by omega
            clear hq
            rw [hnb] at qs
            clear hno' hn0 hz0 hp0 hnx hnb hyes qn
            go_wp2
            rw [← hV0'.out]
            refine wp_drawn_on (fun W => Below V0.heap.size V0 W) (by kernel_rfl) ((Below.refl _ _).drew) (fun hHeld => ?_)
            refine wT 0 (v := ?v37) rfl (by kernel_rfl) (fun _ _ _ h => h) ?h37 (by assumption) ?r37
            case h37 => (intro w hSw; (try dsimp only at hSw); go_simp; try with_reducible rfl)
            refine wT 1 (v := ?v38) rfl (by kernel_rfl) (fun _ _ _ h => h) ?h38 (by assumption) ?r38
            case h38 => (intro w hSw; (try dsimp only at hSw); go_simp; try with_reducible rfl)
            try simp only [Act.put, List.setIfInBounds_toArray, List.set_cons_zero, List.set_cons_succ]
            refine wpAnyH_ready (rs := [2]) (by kernel_rfl) (by simp) ?_
            refine AllReadyH.cons (o := ⟨_, _, _, _, _, _⟩) rfl (fun K hK => ?_) AllReadyH.nil
            go_simp
            with_reducible refine (qs.out _).mono ?_
            rintro e w3 ⟨rfl, b3⟩
            go_simp
            refine hK.out _ _ (hHeld.trans (b3.mono hHeld.size)) (fun hHeld => ?_)
            clear hK K
            refine wT 3 (v := ?v39) rfl (by kernel_rfl) (fun _ _ _ h => h) ?h39 (by assumption) ?r39
            case h39 => (intro w hSw; (try dsimp only at hSw); go_simp; try with_reducible rfl)
            refine wT 4 (v := ?v40) rfl (by kernel_rfl) (fun _ _ _ h => h) ?h40 (by assumption) ?r40
            case h40 => (intro w hSw; (try dsimp only at hSw); go_simp; try with_reducible rfl)
            refine wT 5 (v := ?v41) rfl (by kernel_rfl) (fun _ _ _ h => h) ?h41 (by assumption) ?r41
            case h41 => (intro w hSw; (try dsimp only at hSw); go_simp; try with_reducible rfl)
            refine wT 6 (v := ?v42) rfl (by kernel_rfl) (fun _ _ _ h => h) ?h42 (by assumption) ?r42
            case h42 => (intro w hSw; (try dsimp only at hSw); go_simp; try with_reducible rfl)
            refine wT 7 (v := ?v43) rfl (by kernel_rfl) (fun _ _ _ h => h) ?h43 (by assumption) ?r43
            case h43 => (intro w hSw; (try dsimp only at hSw); go_simp; try with_reducible rfl)
            refine wT 8 (v := ?v44) rfl (by kernel_rfl) (fun _ _ _ h => h) ?h44 (by assumption) ?r44
            case h44 => (intro w hSw; (try dsimp only at hSw); go_simp; try with_reducible rfl)
            refine wT 9 (v := ?v45) rfl (by kernel_rfl) (fun _ _ _ h => h) ?h45 (by assumption) ?r45
            case h45 => (intro w hSw; (try dsimp only at hSw); go_simp; try with_reducible rfl)
            refine wT 10 (v := ?v46) rfl (by kernel_rfl) (fun _ _ _ h => h) ?h46 (by assumption) ?r46
            case h46 => (intro w hSw; (try dsimp only at hSw); go_simp; try with_reducible rfl)
            refine wT 11 (v := ?v47) rfl (by kernel_rfl) (fun _ _ _ h => h) ?h47 (by assumption) ?r47
            case h47 => (intro w hSw; (try dsimp only at hSw); go_simp; try with_reducible rfl)
            refine wT 12 (v := ?v48) rfl (by kernel_rfl) (fun _ _ _ h => h) ?h48 (by assumption) ?r48
            case h48 => (intro w hSw; (try dsimp only at hSw); go_simp; try with_reducible rfl)
            refine wT 13 (v := ?v49) rfl (by kernel_rfl) (fun _ _ _ h => h) ?h49 (by assumption) ?r49
            case h49 => (intro w hSw; (try dsimp only at hSw); go_simp; try with_reducible rfl)
            refine wT 14 (v := ?v50) rfl (by kernel_rfl) (fun _ _ _ h => h) ?h50 (by assumption) ?r50
            case h50 => (intro w hSw; (try dsimp only at hSw); go_simp; try with_reducible rfl)
            refine wT 15 (v := ?v51) rfl (by kernel_rfl) (fun _ _ _ h => h) ?h51 (by assumption) ?r51
            case h51 => (intro w hSw; (try dsimp only at hSw); go_simp; try with_reducible rfl)
            refine wT 16 (v := ?v52) rfl (by kernel_rfl) (fun _ _ _ h => h) ?h52 (by assumption) ?r52
            case h52 => (intro w hSw; (try dsimp only at hSw); go_simp; try with_reducible rfl)
            refine wT 17 (v := ?v53) rfl (by kernel_rfl) (fun _ _ _ h => h) ?h53 (by assumption) ?r53
            case h53 => (intro w hSw; (try dsimp only at hSw); go_simp; try with_reducible rfl)
            refine wT 18 (v := ?v54) rfl (by kernel_rfl) (fun _ _ _ h => h) ?h54 (by assumption) ?r54
            case h54 => (intro w hSw; (try dsimp only at hSw); go_simp; try with_reducible rfl)
            try simp only [Act.put, List.setIfInBounds_toArray, List.set_cons_zero, List.set_cons_succ]
            refine wpAnyH_done (by kernel_rfl) ?_ _
            clear y0 y1 z0'
            go_wp2
            go_roundw
            case rel => exact ⟨k + 1, by omega, by go_num, hg, Lib.hid (hBV.out.trans (hHeld.mono hBV.out.size))⟩
            case measure => simp [intOf]; omega
          · have hf := Lib.hid (hno'.out (by rw [hq]; exact decide_eq_false hff))
            have hle : f ≤ f' := by omega
            clear hq
            rw [hnb] at qs
            clear hno' hn0 hz0 hp0 hnx hnb hyes qn
            go_wp2
            rw [← hV0'.out]
            refine wp_drawn_on (fun W => Below V0.heap.size V0 W) (by kernel_rfl) ((Below.refl _ _).drew) (fun hHeld => ?_)
            refine wT 0 (v := ?v55) rfl (by kernel_rfl) (fun _ _ _ h => h) ?h55 (by assumption) ?r55
            case h55 => (intro w hSw; (try dsimp only at hSw); go_simp; try with_reducible rfl)
            refine wT 1 (v := ?v56) rfl (by kernel_rfl) (fun _ _ _ h => h) ?h56 (by assumption) ?r56
            case h56 => (intro w hSw; (try dsimp only at hSw); go_simp; try with_reducible rfl)
            try simp only [Act.put, List.setIfInBounds_toArray, List.set_cons_zero, List.set_cons_succ]
            refine wpAnyH_ready (rs := [2]) (by kernel_rfl) (by simp) ?_
            refine AllReadyH.cons (o := ⟨_, _, _, _, _, _⟩) rfl (fun K hK => ?_) AllReadyH.nil
            go_simp
            with_reducible refine (qs.out _).mono ?_
            rintro e w3 ⟨rfl, b3⟩
            go_simp
            refine hK.out _ _ (hHeld.trans (b3.mono hHeld.size)) (fun hHeld => ?_)
            clear hK K
            refine wT 3 (v := ?v57) rfl (by kernel_rfl) (fun _ _ _ h => h) ?h57 (by assumption) ?r57
            case h57 => (intro w hSw; (try dsimp only at hSw); go_simp; try with_reducible rfl)
            refine wT 4 (v := ?v58) rfl (by kernel_rfl) (fun _ _ _ h => h) ?h58 (by assumption) ?r58
            case h58 => (intro w hSw; (try dsimp only at hSw); go_simp; try with_reducible rfl)
            refine wT 5 (v := ?v59) rfl (by kernel_rfl) (fun _ _ _ h => h) ?h59 (by assumption) ?r59
            case h59 => (intro w hSw; (try dsimp only at hSw); go_simp; try with_reducible rfl)
            refine wT 6 (v := ?v60) rfl (by kernel_rfl) (fun _ _ _ h => h) ?h60 (by assumption) ?r60
            case h60 => (intro w hSw; (try dsimp only at hSw); go_simp; try with_reducible rfl)
            refine wT 7 (v := ?v61) rfl (by kernel_rfl) (fun _ _ _ h => h) ?h61 (by assumption) ?r61
            case h61 => (intro w hSw; (try dsimp only at hSw); go_simp; try with_reducible rfl)
            refine wT 8 (v := ?v62) rfl (by kernel_rfl) (fun _ _ _ h => h) ?h62 (by assumption) ?r62
            case h62 => (intro w hSw; (try dsimp only at hSw); go_simp; try with_reducible rfl)
            refine wT 9 (v := ?v63) rfl (by kernel_rfl) (fun _ _ _ h => h) ?h63 (by assumption) ?r63
            case h63 => (intro w hSw; (try dsimp only at hSw); go_simp; try with_reducible rfl)
            refine wT 10 (v := ?v64) rfl (by kernel_rfl) (fun _ _ _ h => h) ?h64 (by assumption) ?r64
            case h64 => (intro w hSw; (try dsimp only at hSw); go_simp; try with_reducible rfl)
            refine wT 11 (v := ?v65) rfl (by kernel_rfl) (fun _ _ _ h => h) ?h65 (by assumption) ?r65
            case h65 => (intro w hSw; (try dsimp only at hSw); go_simp; try with_reducible rfl)
            refine wT 12 (v := ?v66) rfl (by kernel_rfl) (fun _ _ _ h => h) ?h66 (by assumption) ?r66
            case h66 => (intro w hSw; (try dsimp only at hSw); go_simp; try with_reducible rfl)
            refine wT 13 (v := ?v67) rfl (by kernel_rfl) (fun _ _ _ h => h) ?h67 (by assumption) ?r67
            case h67 => (intro w hSw; (try dsimp only at hSw); go_simp; try with_reducible rfl)
            refine wT 14 (v := ?v68) rfl (by kernel_rfl) (fun _ _ _ h => h) ?h68 (by assumption) ?r68
            case h68 => (intro w hSw; (try dsimp only at hSw); go_simp; try with_reducible rfl)
            refine wT 15 (v := ?v69) rfl (by kernel_rfl) (fun _ _ _ h => h) ?h69 (by assumption) ?r69
            case h69 => (intro w hSw; (try dsimp only at hSw); go_simp; try with_reducible rfl)
            refine wT 16 (v := ?v70) rfl (by kernel_rfl) (fun _ _ _ h => h) ?h70 (by assumption) ?r70
            case h70 => (intro w hSw; (try dsimp only at hSw); go_simp; try with_reducible rfl)
            refine wT 17 (v := ?v71) rfl (by kernel_rfl) (fun _ _ _ h => h) ?h71 (by assumption) ?r71
            case h71 => (intro w hSw; (try dsimp only at hSw); go_simp; try with_reducible rfl)
            refine wT 18 (v := ?v72) rfl (by kernel_rfl) (fun _ _ _ h => h) ?h72 (by assumption) ?r72
            case h72 => (intro w hSw; (try dsimp only at hSw); go_simp; try with_reducible rfl)
            try simp only [Act.put, List.setIfInBounds_toArray, List.set_cons_zero, List.set_cons_succ]
            refine wpAnyH_done (by kernel_rfl) ?_ _
            clear y0 y1 z0'
            go_wp2
            go_ret
            exact ⟨(by rw [hf.out]; rfl), hBV.out.trans (hHeld.mono hBV.out.size)⟩
    · have hki : ¬ (k : Int) < (n : Int) := by omega
      have hf := Lib.hid (hyes.out (fun t ht => hal.out t (by omega)))
      clear hal hno hyes
      go_wp2
      go_ret
      exact ⟨(by rw [hf.out]; rfl), hB.out⟩
end Go.Proofs.YtpchncpcckfghaaGreat
namespace Go.Proofs.YtpchncpcckfghaaGreat
open Go.RowKit
set_option linter.unusedVariables false
set_option linter.unusedSimpArgs false
def cmpF (a b : Int) : Int := if a < b then -1 else if b < a then 1 else 0
theorem unan_any (x : Int) (w : World) : Calls Tryz.prog 80 #[.int .u64 x] w (Tells (.bool false) w) := by
  go_enter Tryz.func80, Tryz.ntmps80
  go_wp2
  go_ret
  exact ⟨rfl, rfl⟩
theorem ucompare_any (a b : Int) (w : World) : Calls Tryz.prog 59 #[.int .u64 a, .int .u64 b] w (Tells (.int .i64 (cmpF a b)) w) := by
  have q := Lib.hid (fun x W => unan_any x W)
  unfold cmpF
  by_cases h1 : a < b
  · rw [if_pos h1]
    go_enter Tryz.func59, Tryz.ntmps59
    go_wp2_with fail
    with_reducible refine (q.out _ _).mono ?_
    rintro e w1 ⟨rfl, rfl⟩
    go_wp2_with fail
    with_reducible refine (q.out _ _).mono ?_
    rintro e w2 ⟨rfl, rfl⟩
    go_wp2
    go_ret
    exact ⟨rfl, rfl⟩
  · rw [if_neg h1]
    by_cases h2 : b < a
    · rw [if_pos h2]
      go_enter Tryz.func59, Tryz.ntmps59
      go_wp2_with fail
      with_reducible refine (q.out _ _).mono ?_
      rintro e w1 ⟨rfl, rfl⟩
      go_wp2_with fail
      with_reducible refine (q.out _ _).mono ?_
      rintro e w2 ⟨rfl, rfl⟩
      go_wp2
      go_ret
      exact ⟨rfl, rfl⟩
    · rw [if_neg h2]
      go_enter Tryz.func59, Tryz.ntmps59
      go_wp2_with fail
      with_reducible refine (q.out _ _).mono ?_
      rintro e w1 ⟨rfl, rfl⟩
      go_wp2_with fail
      with_reducible refine (q.out _ _).mono ?_
      rintro e w2 ⟨rfl, rfl⟩
      go_wp2
      go_ret
      exact ⟨rfl, rfl⟩
set_option maxRecDepth 100000 in
theorem bfcmp_any (f : Int) (s : ByteArray) (g : Int) (w : World) : Calls Tryz.prog 58 #[.agg #[.int .u64 f, .string s], .int .u64 g] w (Gives (.int .i64 (cmpF f g)) w) := by
  have q := Lib.hid (fun W => ucompare_any f g W)
  generalize cmpF f g = cv at *
  go_enter Tryz.func58, Tryz.ntmps58
  go_wp2_with fail
  refine (q.out _).mono ?_
  rintro e w1 ⟨rfl, rfl⟩
  go_wp2
  go_ret
  exact ⟨rfl, box_below _ _ _⟩
def FindI (l : List MkD) (n : Nat) (g : Int) (i : Nat) : Prop := i ≤ n ∧ (∀ t, t < i → (l.getD t mk0).f < g) ∧ ∀ t, i ≤ t → t < n → g ≤ (l.getD t mk0).f
theorem rise_lt {l : List MkD} (hr : riseM l) {t j : Nat} (htj : t < j) (hj : j < l.length) : (l.getD t mk0).f < (l.getD j mk0).f := by
  unfold riseM at hr
  rw [List.pairwise_iff_getElem] at hr
  have := hr t j (by omega) hj htj
  simpa [List.getD, hj, show t < l.length by omega] using this
set_option maxRecDepth 100000 in
set_option maxHeartbeats 4000000 in
theorem bsearch_any (a : Option Addr) (n c : Nat) (l : List MkD) (g : Int) (hn : n ≤ 4096) (hr : riseM l) (w : World) (h : RO mkC w a n c l) :
    Calls Tryz.prog 57 #[.slice a n c, .int .u64 g, .func (.func 58) #[] #[]] w fun e w' => (∃ i : Nat, FindI l n g i ∧ e = .returned (.tuple #[.int .i64 i, .bool (decide (i < n) && decide ((l.getD i mk0).f = g))])) ∧ Below w.heap.size w w' := by
  have hlen := Lib.hid h.len
  have RW := Lib.hid h
  have hq := Lib.hid (fun f s W => bfcmp_any f s g W)
  have hlt := Lib.hid (fun t j h1 h2 => rise_lt hr (t := t) (j := j) h1 h2)
  clear h hr
  go_enter Tryz.func57, Tryz.ntmps57
  go_wp2
  go_loopw [9, 10] (fun x y wr => ∃ i j : Nat, i ≤ j ∧ j ≤ n ∧ x = .int .i64 i ∧ y = .int .i64 j ∧ Hid (∀ t, t < i → (l.getD t mk0).f < g) ∧ Hid (∀ t, j ≤ t → t < n → g ≤ (l.getD t mk0).f) ∧ Hid (Below w.heap.size w wr)) (fun x y _ => (intOf y).toNat - (intOf x).toNat)
  case atStart => exact ⟨0, n, by omega, by omega, rfl, rfl, Lib.hid (by intro t ht; omega), Lib.hid (by intro t h1 h2; omega), Lib.hid (Below.refl _ _)⟩
  case round =>
    obtain ⟨i, j, hij, hj, rfl, rfl, hlo, hhi, hB⟩ := hrel
    generalize wr = g0 at *
    by_cases hne : i < j
    · have hii : (i : Int) < (j : Int) := by omega
      obtain ⟨h, hh⟩ : ∃ h : Nat, h = (i + j) / 2 := ⟨_, rfl⟩
      have h1 : i ≤ h := by omega
      have h2 : h < j := by omega
      have hhi2 : ((i : Int) + (j : Int)) / 2 = (h : Int) := by omega
      have hkl : h < l.length := by rw [← hlen.out]; omega
      obtain ⟨b, off, rfl, hbl, x0, x1⟩ := mk_at (RW.out.below hB.out) (show h < n by omega)
      have hjn : (j : Int) ≤ 4096 := by omega
      have hin : (i : Int) ≤ 4096 := by omega
      have hhn : (h : Int) < (n : Int) := by omega
      have hhn2 : h < n := by omega
      clear hh
      have hq' := Lib.hid (fun W => hq.out (l.getD h mk0).f (l.getD h mk0).note W)
      have hup : Hid ((l.getD h mk0).f < g → ∀ t, t < h + 1 → (l.getD t mk0).f < g) := Lib.hid (fun hh t ht => by
        by_cases e : t = h
        · rw [e]; exact hh
        · exact Int.lt_trans (hlt.out t h (by omega) hkl) hh)
      have hdn : Hid (g ≤ (l.getD h mk0).f → ∀ t, h ≤ t → t < n → g ≤ (l.getD t mk0).f) := Lib.hid (fun hh t h0 ht => by
        by_cases e : t = h
        · rw [e]; exact hh
        · exact Int.le_of_lt (Int.lt_of_le_of_lt hh (hlt.out h t (by omega) (by rw [← hlen.out]; exact ht))))
      clear hkl hq hlt
      generalize (l.getD h mk0).f = f at *
      generalize (l.getD h mk0).note = s at *
      by_cases hneg : f < g
      · have hS := Lib.hid (hup.out hneg)
        have hcv : Hid (cmpF f g = -1) := Lib.hid (by unfold cmpF; rw [if_pos hneg])
        rw [hcv.out] at hq'
        clear hup hdn hneg hcv
        go_wp2_with fail
        refine (hq'.out _).mono ?_
        rintro e w1 ⟨rfl, b1⟩
        have hB1 := Lib.hid (hB.out.trans (b1.mono hB.out.size))
        clear b1 hB
        go_wp2
        go_roundw
        case rel => exact ⟨h + 1, j, by omega, by omega, by go_num, rfl, hS, hhi, hB1⟩
        case measure => simp [intOf]; omega
      · have hS := Lib.hid (hdn.out (by omega))
        have hcv : Hid (0 ≤ cmpF f g) := Lib.hid (by unfold cmpF; rw [if_neg hneg]; split <;> omega)
        generalize cmpF f g = cv at *
        have hcn : ¬ cv < 0 := by have := hcv.out; omega
        clear hup hdn hneg hcv
        go_wp2_with fail
        refine (hq'.out _).mono ?_
        rintro e w1 ⟨rfl, b1⟩
        have hB1 := Lib.hid (hB.out.trans (b1.mono hB.out.size))
        clear b1 hB
        go_wp2
        go_roundw
        case rel => exact ⟨i, h, by omega, by omega, by first | trivial | rfl, rfl, hlo, hS, hB1⟩
        case measure => simp [intOf]; omega
    · have hji : i = j := by omega
      subst hji
      have hii : ¬ (i : Int) < (i : Int) := by omega
      have hfin := Lib.hid (show FindI l n g i from ⟨hj, hlo.out, hhi.out⟩)
      clear hlo hhi hlt hij
      by_cases hin : i < n
      · obtain ⟨b, off, rfl, hbl, x0, x1⟩ := mk_at (RW.out.below hB.out) hin
        have hini : (i : Int) < (n : Int) := by omega
        have hq' := Lib.hid (fun W => hq.out (l.getD i mk0).f (l.getD i mk0).note W)
        have hF : Hid (∀ y, y = decide ((l.getD i mk0).f = g) → ∃ i' : Nat, FindI l n g i' ∧ Ending.returned (.tuple #[.int .i64 (i : Int), .bool y]) = .returned (.tuple #[.int .i64 i', .bool (decide (i' < n) && decide ((l.getD i' mk0).f = g))])) := Lib.hid (fun y hy => ⟨i, hfin.out, by rw [hy, decide_eq_true hin, Bool.true_and]⟩)
        clear hfin hq
        generalize (l.getD i mk0).f = f at *
        generalize (l.getD i mk0).note = s at *
        have heq : (cmpF f g == 0) = decide (f = g) := by
          unfold cmpF
          by_cases e : f = g
          · subst e; simp
          · rw [decide_eq_false e]
            split
            · rfl
            · rw [if_pos (by omega)]; rfl
        have hG := Lib.hid (hF.out _ heq)
        clear hF heq
        generalize cmpF f g = cv at *
        cases hy : (cv == 0)
        all_goals
          rw [hy] at hG
          go_wp2_with fail
          refine (hq'.out _).mono ?_
          rintro e w1 ⟨rfl, b1⟩
          have hB1 := Lib.hid (hB.out.trans (b1.mono hB.out.size))
          clear b1 hB
          go_wp2
          go_ret2
          exact ⟨hG.out, hB1.out⟩
      · have hini : ¬ (i : Int) < (n : Int) := by omega
        have hG : Hid (∃ i' : Nat, FindI l n g i' ∧ Ending.returned (.tuple #[.int .i64 (i : Int), .bool false]) = .returned (.tuple #[.int .i64 i', .bool (decide (i' < n) && decide ((l.getD i' mk0).f = g))])) := Lib.hid ⟨i, hfin.out, by rw [decide_eq_false hin, Bool.false_and]⟩
        clear hin hfin hq
        go_wp2
        go_ret2
        exact ⟨hG.out, hB.out⟩
end Go.Proofs.YtpchncpcckfghaaGreat
namespace Go.Proofs.YtpchncpcckfghaaGreat
open Go.RowKit
set_option linter.unusedVariables false
set_option linter.unusedSimpArgs false
theorem snan64_any (x : Int) (w : World) : Calls Tryz.prog 61 #[.int .u64 x] w (Tells (.bool false) w) := by
  go_enter Tryz.func61, Tryz.ntmps61
  go_wp2
  go_ret
  exact ⟨rfl, rfl⟩
theorem uless_any (a b : Int) (w : World) : Calls Tryz.prog 60 #[.int .u64 a, .int .u64 b] w (Tells (.bool (decide (a < b))) w) := by
  have q := Lib.hid (fun x W => unan_any x W)
  go_enter Tryz.func60, Tryz.ntmps60
  go_wp2_with fail
  with_reducible refine (q.out _ _).mono ?_
  rintro e w1 ⟨rfl, rfl⟩
  go_wp2
  go_ret
  exact ⟨rfl, rfl⟩
end Go.Proofs.YtpchncpcckfghaaGreat
namespace Go.Proofs.YtpchncpcckfghaaGreat
open Go.RowKit Go.Sort
set_option linter.unusedVariables false
set_option linter.unusedSimpArgs false
def encU : Int → Value := Value.int .u64
abbrev SU (w0 : World) (blk off : Nat) (dk : Array Int) (W : World) : Prop := SW encU w0 blk off dk W
abbrev RU (w0 : World) (blk off : Nat) (d0 : Array Int) : Prop := Row1 encU w0 blk off d0
theorem SU.cells {w0 W : World} {blk off : Nat} {d0 dk : Array Int} (h : SU w0 blk off dk W) (R : RU w0 blk off d0) (hs : dk.size = d0.size) (G : Nat → Int) (hG : ∀ t, G t = dk[t]!) {n : Nat} (hn : dk.size = n) :
    (∀ t, t < n → W.cell? ⟨blk, off + t, none⟩ = some (.int .u64 (G t))) ∧ ∀ t, t < n → W.frozen? ⟨blk, off + t, none⟩ = false :=
  ⟨fun t ht => by rw [hG]; exact h.c1 R hs t (by omega), fun t ht => h.f1 R hs t (by omega)⟩
theorem SU.swp {w0 W : World} {blk off : Nat} {d0 dk : Array Int} (h : SU w0 blk off dk W) (R : RU w0 blk off d0) (q : Nat) {G : Nat → Int} (hG : ∀ t, G t = dk[t]!) {i j : Nat} (hi : i < dk.size) (hj : j < dk.size) :
    SU w0 blk off (swp dk i j) (((W.drewN q).setCell ⟨blk, off + i, none⟩ (.int .u64 (G j))).setCell ⟨blk, off + j, none⟩ (.int .u64 (G i))) := by
  rw [hG, hG]
  exact (h.drewN q).swap R.hblk i j hi hj
set_option maxRecDepth 1000000 in
set_option maxHeartbeats 16000000 in
theorem uins_any (blk off cap a b : Nat) (d0 d : Array Int) (w0 w : World) (R : RU w0 blk off d0) (hs : d.size = d0.size) (S : SU w0 blk off d w) (hab : a ≤ b) (hb : b ≤ d.size) (hsz : d.size ≤ 1000000) :
    Calls Tryz.prog 81 #[.slice (some ⟨blk, off, none⟩) d.size cap, .int .i64 a, .int .i64 b] w fun e w' => e = .returned (.tuple #[]) ∧ SU w0 blk off (Sort.insertionSort ltInt d a b) w' := by
  have S0 := Lib.hid S
  have RR := Lib.hid R
  clear S R
  go_enter Tryz.func81, Tryz.ntmps81
  go_wp2
  go_loopw [6] (fun vi wr => ∃ (i : Nat) (dk : Array Int), vi = .int .i64 i ∧ a < i ∧ i ≤ b + 1 ∧ dk.size = d.size ∧ Hid (SU w0 blk off dk wr) ∧ Hid (insOuter ltInt a b i dk = insOuter ltInt a b (a + 1) d)) (fun vi _ => b + 1 - (intOf vi).toNat)
  case atStart => exact ⟨a + 1, d, by go_num, by omega, by omega, rfl, S0, Lib.hid rfl⟩
  case round =>
    clear S0
    obtain ⟨i, dk, rfl, hai, hib, hsk, SK, HO⟩ := hrel
    by_cases hlt : i < b
    · have hltz : (i : Int) < (b : Int) := by omega
      go_wp2
      go_loopw [7] (fun vj wr2 => ∃ (j : Nat) (dj : Array Int), vj = .int .i64 j ∧ a ≤ j ∧ j ≤ i ∧ dj.size = d.size ∧ Hid (SU w0 blk off dj wr2) ∧ Hid (insInner ltInt a j dj = insInner ltInt a i dk)) (fun vj _ => (intOf vj).toNat)
      case atStart => exact ⟨i, dk, rfl, by omega, Nat.le_refl _, hsk, SK, Lib.hid rfl⟩
      case round =>
        clear SK
        obtain ⟨j, dj, rfl, haj, hji, hsj, SJ, HI⟩ := hrel
        obtain ⟨G, hG⟩ : ∃ G : Nat → Int, ∀ t, G t = dj[t]! := ⟨fun t => dj[t]!, fun _ => rfl⟩
        obtain ⟨hcw, hfw⟩ := SJ.out.cells RR.out (by omega) G hG hsj
        have HG := Lib.hid hG
        clear hG
        have OUT : Hid ((j ≤ a ∨ ltInt dj[j]! dj[j - 1]! = false) → ∀ q W, W = wr.drewN q → ∃ i' dk', Value.int .i64 ((i : Int) + 1) = .int .i64 (i' : Nat) ∧ a < i' ∧ i' ≤ b + 1 ∧ dk'.size = d.size ∧ Hid (SU w0 blk off dk' W) ∧ Hid (insOuter ltInt a b i' dk' = insOuter ltInt a b (a + 1) d)) :=
          Lib.hid (fun hs q W hW => ⟨i + 1, dj, by go_num, by omega, by omega, hsj, Lib.hid (by rw [hW]; exact SJ.out.drewN q), Lib.hid (by rw [← HO.out, insOuter_go _ _ _ _ _ hlt, ← HI.out, insInner_stop _ _ _ _ hs])⟩)
        by_cases hja : a < j
        · go_wp2
          go_quiet (first | (go_at_call 60; exact quiet_mine (uless_any _ _ _)))
          go_wp2
          · have hl : G j < G (j - 1) := by assumption
            go_region
            all_goals go_wp2
            go_roundw
            case rel => exact ⟨j - 1, swp dj j (j - 1), by congr 1; omega, by omega, by omega, by rw [size_swp]; exact hsj, Lib.hid (SJ.out.swp RR.out (nq + 1) HG.out (by omega) (by omega)), Lib.hid (by rw [← HI.out, insInner_go ltInt a j dj hja (by rw [← HG.out, ← HG.out]; exact decide_eq_true hl)])⟩
            case measure => simp [intOf]; omega
          · have hl : G (j - 1) ≤ G j := by assumption
            go_roundw
            case rel => exact OUT.out (Or.inr (by rw [← HG.out, ← HG.out]; exact decide_eq_false (by omega))) nq _ rfl
            case measure => simp [intOf]; omega
        · go_wp2
          go_quiet (fail)
          go_wp2
          go_roundw
          case rel => exact OUT.out (Or.inl (by omega)) nq _ rfl
          case measure => simp [intOf]; omega
    · have hltz : ¬ (i : Int) < (b : Int) := by omega
      go_wp2
      go_end0
      exact ⟨rfl, by unfold Sort.insertionSort; rw [← HO.out, insOuter_stop _ _ _ _ _ hlt]; exact SK.out⟩
end Go.Proofs.YtpchncpcckfghaaGreat
namespace Go.Proofs.YtpchncpcckfghaaGreat
open Go.RowKit Go.Sort
set_option linter.unusedVariables false
set_option linter.unusedSimpArgs false
set_option maxRecDepth 1000000 in
set_option maxHeartbeats 4000000 in
theorem updq_small (blk off cap a b : Nat) (lim : Int) (d0 d : Array Int) (w0 w : World) (R : RU w0 blk off d0) (hs : d.size = d0.size) (S : SU w0 blk off d w) (hab : a ≤ b) (hb : b ≤ d.size) (hsz : d.size ≤ 1000000) (h12 : b - a ≤ 12) :
    Calls Tryz.prog 62 #[.slice (some ⟨blk, off, none⟩) d.size cap, .int .i64 a, .int .i64 b, .int .i64 lim] w fun e w' => e = .returned (.tuple #[]) ∧ ∃ d', PermIn a b d d' ∧ SortedIn ltInt a b d' ∧ SU w0 blk off d' w' := by
  have hP := Lib.hid (insertionSort_holds (lt := ltInt) swo_ltInt d a b hab hb)
  have q := Lib.hid (uins_any blk off cap a b d0 d w0 w R hs S hab hb hsz)
  have h12z : (b : Int) - (a : Int) ≤ 12 := by omega
  clear S R hs
  go_enter Tryz.func62, Tryz.ntmps62
  go_wp2
  go_loopw [1, 2, 3, 8, 9] (fun v1 v2 v3 v8 v9 wr => v1 = .int .i64 a ∧ v2 = .int .i64 b ∧ v3 = .int .i64 lim ∧ v8 = .bool true ∧ v9 = .bool true ∧ wr = w) (fun _ _ _ _ _ _ => 0)
  case atStart => exact ⟨rfl, rfl, rfl, rfl, rfl, rfl⟩
  case round =>
  obtain ⟨rfl, rfl, rfl, rfl, rfl, hw⟩ := hrel
  subst hw
  go_wp2_with fail
  refine q.out.mono ?_
  rintro e w1 ⟨rfl, s1⟩
  have S1 := Lib.hid s1
  clear s1 q
  go_wp2
  exact bodyPost_ret (results_none rfl _ _ _) rfl ⟨rfl, _, hP.out.1, hP.out.2, S1.out⟩
end Go.Proofs.YtpchncpcckfghaaGreat
namespace Go.Proofs.YtpchncpcckfghaaGreat
open Go.RowKit
set_option linter.unusedVariables false
set_option linter.unusedSimpArgs false
def FindU (l : List Int) (n : Nat) (g : Int) (i : Nat) : Prop := i ≤ n ∧ (∀ t, t < i → l.getD t 0 < g) ∧ ∀ t, i ≤ t → t < n → g ≤ l.getD t 0
theorem findU_mem {l : List Int} {n i : Nat} {g : Int} (hn : n = l.length) (hs : ∀ t j, t ≤ j → j < n → l.getD t 0 ≤ l.getD j 0) (h : FindU l n g i) : (decide (i < n) && decide (l.getD i 0 = g)) = decide (g ∈ l) := by
  obtain ⟨h1, h2, h3⟩ := h
  by_cases hm : g ∈ l
  · rw [decide_eq_true hm]
    obtain ⟨j, hj, e⟩ := List.getElem_of_mem hm
    have ej : l.getD j 0 = g := by simpa [List.getD, hj] using e
    have hij : i ≤ j := by
      by_cases c : j < i
      · have := h2 j c; omega
      · omega
    have hi : i < n := by omega
    rw [decide_eq_true hi, Bool.true_and, decide_eq_true_iff]
    have a1 := h3 i (Nat.le_refl _) hi
    have a2 := hs i j hij (by omega)
    omega
  · rw [decide_eq_false hm]
    by_cases hi : i < n
    · rw [decide_eq_true hi, Bool.true_and, decide_eq_false_iff_not]
      intro e
      exact hm (by rw [← e]; simp [List.getD, show i < l.length by omega])
    · rw [decide_eq_false hi]; rfl
set_option maxRecDepth 100000 in
set_option maxHeartbeats 4000000 in
theorem bs64_any (a : Option Addr) (n c : Nat) (l : List Int) (g : Int) (hn : n ≤ 4096) (hl : n = l.length) (hs : ∀ t j, t ≤ j → j < n → l.getD t 0 ≤ l.getD j 0) (w : World) (h : Sees .u64 w.heap.size w a l) :
    Calls Tryz.prog 38 #[.slice a n c, .int .u64 g] w fun e w' => (∃ i : Nat, e = .returned (.tuple #[.int .i64 i, .bool (decide (g ∈ l))])) ∧ w = w' := by
  have hlen := Lib.hid hl
  have RW := Lib.hid h
  have hq := Lib.hid (fun f W => uless_any f g W)
  have hz := Lib.hid (fun f W => snan64_any f W)
  have hso := Lib.hid (fun t j h1 h2 => hs t j h1 h2)
  have hfm := Lib.hid (fun i h => findU_mem (l := l) (i := i) (g := g) hl hs h)
  obtain ⟨E, hE⟩ : ∃ E, decide (g ∈ l) = E := ⟨_, rfl⟩
  rw [hE] at hfm ⊢
  clear h hs hl hE
  go_enter Tryz.func38, Tryz.ntmps38
  go_wp2
  go_loop [7, 8] (fun x y => ∃ i j : Nat, i ≤ j ∧ j ≤ n ∧ x = .int .i64 i ∧ y = .int .i64 j ∧ Hid (∀ t, t < i → l.getD t 0 < g) ∧ Hid (∀ t, j ≤ t → t < n → g ≤ l.getD t 0)) (fun x y => (intOf y).toNat - (intOf x).toNat)
  case atStart => exact ⟨0, n, by omega, by omega, rfl, rfl, Lib.hid (by intro t ht; omega), Lib.hid (by intro t h1 h2; omega)⟩
  case round =>
    obtain ⟨i, j, hij, hj, rfl, rfl, hlo, hhi⟩ := hrel
    by_cases hne : i < j
    · have hii : (i : Int) < (j : Int) := by omega
      obtain ⟨h, hh⟩ : ∃ h : Nat, h = (i + j) / 2 := ⟨_, rfl⟩
      have h1 : i ≤ h := by omega
      have h2 : h < j := by omega
      have hhi2 : ((i : Int) + (j : Int)) / 2 = (h : Int) := by omega
      have hkl : h < l.length := by rw [← hlen.out]; omega
      obtain ⟨b, off, rfl, hbl, x0⟩ : ∃ b off, a = some ⟨b, off, none⟩ ∧ b < w.heap.size ∧ w.cell? ⟨b, off + h, none⟩ = some (.int .u64 (l.getD h 0)) := by
        rcases RW.out with e | ⟨b, off, e, hb, hc⟩
        · rw [e] at hkl; simp at hkl
        · exact ⟨b, off, e, hb, hc h hkl⟩
      have hjn : (j : Int) ≤ 4096 := by omega
      have hin : (i : Int) ≤ 4096 := by omega
      have hhn : (h : Int) < (n : Int) := by omega
      have hhn2 : h < n := by omega
      clear hh
      have hq' := Lib.hid (fun W => hq.out (l.getD h 0) W)
      have hup : Hid (l.getD h 0 < g → ∀ t, t < h + 1 → l.getD t 0 < g) := Lib.hid (fun hh t ht => Int.lt_of_le_of_lt (hso.out t h (by omega) hhn2) hh)
      have hdn : Hid (¬ l.getD h 0 < g → ∀ t, h ≤ t → t < n → g ≤ l.getD t 0) := Lib.hid (fun hh t h0 ht => by
        have := hso.out h t h0 ht
        omega)
      clear hkl hq hso hfm
      generalize l.getD h 0 = f at *
      by_cases hneg : f < g
      · have hS := Lib.hid (hup.out hneg)
        rw [decide_eq_true hneg] at hq'
        clear hup hdn hneg
        go_wp2_with fail
        refine (hq'.out _).mono ?_
        rintro e w1 ⟨rfl, rfl⟩
        go_wp2
        go_round
        case rel => exact ⟨h + 1, j, by omega, by omega, by go_num, rfl, hS, hhi⟩
        case measure => simp [intOf]; omega
      · have hS := Lib.hid (hdn.out hneg)
        rw [decide_eq_false hneg] at hq'
        clear hup hdn hneg
        go_wp2_with fail
        refine (hq'.out _).mono ?_
        rintro e w1 ⟨rfl, rfl⟩
        go_wp2
        go_round
        case rel => exact ⟨i, h, by omega, by omega, by first | trivial | rfl, rfl, hlo, hS⟩
        case measure => simp [intOf]; omega
    · have hji : i = j := by omega
      subst hji
      have hii : ¬ (i : Int) < (i : Int) := by omega
      have hfin := Lib.hid (hfm.out i ⟨hj, hlo.out, hhi.out⟩)
      clear hlo hhi hso hfm hij hq
      by_cases hin : i < n
      · have hini : (i : Int) < (n : Int) := by omega
        have hkl : i < l.length := by rw [← hlen.out]; exact hin
        obtain ⟨b, off, rfl, hbl, x0⟩ : ∃ b off, a = some ⟨b, off, none⟩ ∧ b < w.heap.size ∧ w.cell? ⟨b, off + i, none⟩ = some (.int .u64 (l.getD i 0)) := by
          rcases RW.out with e | ⟨b, off, e, hb, hc⟩
          · rw [e] at hkl; simp at hkl
          · exact ⟨b, off, e, hb, hc i hkl⟩
        have hE := hfin.out
        rw [decide_eq_true hin, Bool.true_and] at hE
        clear hfin hkl
        generalize l.getD i 0 = f at *
        by_cases hy : f = g
        · have hyb : (f == g) = true := by simpa using hy
          rw [decide_eq_true hy] at hE
          subst hE
          clear hy
          go_wp2
          exact bodyPost_ret (results_tmp2 rfl _ _ _) rfl ⟨⟨i, rfl⟩, rfl⟩
        · have hyb : (f == g) = false := by simpa using hy
          rw [decide_eq_false hy] at hE
          subst hE
          clear hy
          go_wp2_with fail
          refine (hz.out _ _).mono ?_
          rintro e w1 ⟨rfl, rfl⟩
          go_wp2
          exact bodyPost_ret (results_tmp2 rfl _ _ _) rfl ⟨⟨i, rfl⟩, rfl⟩
      · have hini : ¬ (i : Int) < (n : Int) := by omega
        have hE := hfin.out
        rw [decide_eq_false hin, Bool.false_and] at hE
        subst hE
        go_wp2
        exact bodyPost_ret (results_tmp2 rfl _ _ _) rfl ⟨⟨i, rfl⟩, rfl⟩
end Go.Proofs.YtpchncpcckfghaaGreat
namespace Go.Proofs.YtpchncpcckfghaaGreat
open Go.RowKit Go.Shelf
set_option linter.unusedVariables false
set_option linter.unusedSimpArgs false
attribute [local go_sem] Oper.semAt_some
theorem take_next {zs : List Int} {k : Nat} (hk : k < zs.length) : zs.take (k + 1) = zs.take k ++ [zs[k]?.getD 0] := by
  rw [List.take_add_one, List.getElem?_eq_getElem hk]
  rfl
set_option maxRecDepth 100000 in
set_option maxHeartbeats 4000000 in
theorem vals1_any (F : Fence) (n : Nat) (hf : F.fn 56) (hro : F.round = none) (hn : 1 ≤ n) (l Bs n₀ len cap : Nat) (a : Option Addr) (zs : List Int) (hlen : len = zs.length) (hm : len ≤ 1000000) (J Jx : List Int → World → Prop)
    (hY : ∀ pre x W, J pre W → pre.length < len → YieldAt F (n - 1) Tryz.prog l #[.int .u64 x] W fun e W' =>
      (e = .returned (.bool true) ∧ J (pre ++ [x]) W' ∧ Below n₀ W W') ∨ (e = .returned (.bool false) ∧ Jx (pre ++ [x]) W'))
    (W : World) (hBs : W.cell? ⟨Bs, 0, none⟩ = some (.slice a len cap)) (hz : Sees .u64 n₀ W a zs) (h0 : J [] W) :
    CallsIn F n Tryz.prog 56 #[.func (.yield l) #[] #[], .pointer (some ⟨Bs, 0, none⟩)] W fun e W' => (∃ v, e = .returned v) ∧ ((∃ ys, ys = zs ∧ J ys W') ∨ (∃ pre, pre <+: zs ∧ Jx pre W')) := by
  refine callsIn_of_wp Tryz.func56 rfl hf ?_ hro
  simp only [Tryz.ntmps56, List.size_toArray, List.length_cons, List.length_nil, Nat.reduceAdd, Nat.reduceSub, Array.replicate_succ, Array.replicate_zero, List.push_toArray, List.append_toArray, List.nil_append, List.cons_append]
  gi_wp2
  gi_loopw [7] (fun i wr => ∃ k : Nat, k ≤ len ∧ i = .int .i64 k ∧ J (zs.take k) wr ∧ Below n₀ W wr) (fun i _ => len - (intOf i).toNat)
  case atStart => exact ⟨0, Nat.zero_le _, rfl, by simpa using h0, Below.refl _ _⟩
  case round =>
    obtain ⟨k, hk, rfl, hJs, hnx⟩ := hrel
    by_cases hlt : k < len
    · have hkz : k < zs.length := by omega
      obtain ⟨b, off, rfl, hb, x0⟩ : ∃ b off, a = some ⟨b, off, none⟩ ∧ b < n₀ ∧ W.cell? ⟨b, off + k, none⟩ = some (.int .u64 (zs[k]?.getD 0)) := by
        rcases hz with e | ⟨b, off, e, hb, hc⟩
        · rw [e] at hkz; simp at hkz
        · exact ⟨b, off, e, hb, hc k hkz⟩
      have hnext := take_next hkz
      obtain ⟨x, hx⟩ : ∃ x, zs[k]?.getD 0 = x := ⟨_, rfl⟩
      rw [hx] at x0 hnext
      clear hx
      obtain ⟨fn, tmps, assign, body, hy, hR⟩ := hY _ x wr hJs (by rw [List.length_take]; omega)
      have hcx : wr.cell? ⟨b, off + k, none⟩ = some (.int .u64 x) := (hnx.cell (p := ⟨b, off + k, none⟩) hb).trans x0
      have hpre : zs.take (k + 1) <+: zs := List.take_prefix _ _
      rw [hnext] at hpre
      clear hkz
      have hkn : (k : Int) < (len : Int) := by omega
      clear hz x0
      gi_wp2
      refine hR.mono ?_
      rintro e W3 (⟨rfl, hJ3, hk3⟩ | ⟨rfl, hJx3⟩)
      · gi_wp2
        go_roundw
        case rel => exact ⟨k + 1, by omega, by simp, by rw [hnext]; exact hJ3, hnx.trans hk3⟩
        case measure => simp [intOf]; omega
      · gi_wp2
        refine bodyPost_ret (results_none rfl _ _ _) rfl ?_
        exact ⟨⟨_, rfl⟩, .inr ⟨_, hpre, hJx3⟩⟩
    · obtain rfl : k = len := by omega
      gi_wp2
      go_end0
      exact ⟨⟨_, rfl⟩, .inl ⟨_, rfl, by rw [List.take_of_length_le (by omega)] at hJs; exact hJs⟩⟩
theorem infoU64b : (Tryz.prog.info? 36).map (fun i => (i.zero, i.size, i.bytes)) = some (some (.int .u64 0), 1, 8) := by kernel_rfl
set_option maxRecDepth 100000 in
set_option maxHeartbeats 8000000 in
theorem appseq_any (Bs len cap : Nat) (a : Option Addr) (zs : List Int) (hlen : len = zs.length) (hm : len ≤ 1000000) (w : World) (hBs : w.cell? ⟨Bs, 0, none⟩ = some (.slice a len cap)) (hBl : Bs < w.heap.size) (hz : Sees .u64 w.heap.size w a zs) :
    Calls Tryz.prog 79 #[.slice none 0 0, .func (.func 56) #[] #[.pointer (some ⟨Bs, 0, none⟩)]] w (Made 36 .u64 w zs) := by
  refine (callsIn_wide (n := 4)).1 ?_
  obtain ⟨i0, hi, hz0, hz1, hz2⟩ := info_parts infoU64b
  have hml : zs.length ≤ 1000000 := by omega
  refine callsIn_of_wp_marks Tryz.func79 rfl trivial ?_ rfl
  simp only [Tryz.ntmps79, List.size_toArray, List.length_cons, List.length_nil, Nat.reduceAdd, Nat.reduceSub, Array.replicate_succ, Array.replicate_zero, List.push_toArray, List.append_toArray, List.nil_append, List.cons_append]
  gi_wp2
  have bO := Boxed.new w 55 (.slice none 0 0)
  have hB0 : Below w.heap.size w (w.alloc (.cells #[.slice none 0 0] 55)) := (Below.refl _ w).alloc (Nat.le_refl _) _
  have hstops : SeqStopsK Fence.wide (4 - 1) Tryz.prog 56 #[.pointer (some ⟨Bs, 0, none⟩)] (fun x : Int => #[Value.int .u64 x]) (Below w.heap.size) (fun ys => ys = zs) (fun pre => pre <+: zs) zs.length (w.alloc (.cells #[.slice none 0 0] 55)) := fun l J Jx W hW _ _ hY h0 =>
    vals1_any Fence.wide (4 - 1) trivial rfl (by omega) l Bs w.heap.size len cap a zs hlen hm J Jx (by rw [hlen]; exact hY) W ((hW.cell (p := ⟨Bs, 0, none⟩) (by simp; omega)).trans ((hB0.cell (p := ⟨Bs, 0, none⟩) hBl).trans hBs)) ((hz.below hB0).below (hW.mono (by simp))) h0
  refine wpIn_rangeFunc_ownG (F := Fence.wide) rfl (by omega) (gf := 56) (lb := #[.pointer (some ⟨Bs, 0, none⟩)]) rfl trivial (enters_of Tryz.func56 (by kernel_rfl) rfl)
    hstops belowK_t (belowK_b (by simp)) (Below.refl _ _) (fun _ => rfl)
    (fun pre W => (∃ v, Boxed W w.heap.size 55 v ∧ W.ownsRow w.heap.size 36 1 v pre.length (pre.map (Value.int .u64)) ∧ True) ∧ Below w.heap.size w W)
    (fun _ _ _ => False)
    (OwnFrom.and (Own.from (holdsRow_own w.heap.size w.heap.size 55 36 1 (fun pre : List Int => pre.length) (fun pre : List Int => pre.map (Value.int .u64)) (fun (pre : List Int) v => True)) _) (ownFrom_below (Nat.le_refl _) (by simp)))
    (fun _ _ _ _ _ hs _ _ => hs)
    ⟨⟨_, bO, World.ownsRow_nil _ _ _ _, trivial⟩, hB0⟩
    (fun x => { tmps := #[.slice none 0 0, .func (.func 56) #[] #[.pointer (some ⟨Bs, 0, none⟩)], .pointer (some ⟨w.heap.size, 0, none⟩), undef, .slice none 0 0, .int .u64 x, .func (.func 56) #[] #[.pointer (some ⟨Bs, 0, none⟩)], .int .u64 x, undef, undef, undef, undef, undef], defers := [] }) ?assign ?body ?done ?stop
  case assign =>
    intro l x W K hK
    gi_wp2
    exact hK
  case body =>
    rintro l pre x W ⟨⟨v, hv, hrow, -⟩, hB⟩ hlt
    have hc := hv.cell
    gi_wp2_with (gi_at_builtin; refine wpListIn_append_own _ rfl _ _ 55 rfl w.heap.size 36 i0 (.int .u64 0) 1 8 Tryz.underlying55 hi hz0 hz1 hz2 rfl (by decide) _ _ _ rfl (hrow.alloc _) ⟨W.heap.size, 0, none⟩ 1 1 [.int .u64 x] rfl rfl (cell_one_new _ _ _) (by simp [Value.oneCell']) (by simp [maxLen]; omega) (by omega) (by have := hB.size; simp; omega) ?_; intro v' w1 hown' hgrow _; obtain ⟨g', cap', rfl⟩ := ownsRow_succ hown'; obtain ⟨hv1, hv2, hr2, hk2, hb2⟩ := hv.appended (by decide) hrow hB.size (Nat.le_refl _) hown' hgrow; have hc1 := hv1.cell; have hf1 := hv1.frozen)
    exact ⟨hk2.from _, hb2, ⟨_, hv2, by simpa using hr2, trivial⟩, hB.trans hb2⟩
  case done =>
    rintro D ys W hD rfl ⟨⟨v, hv, hrow, -⟩, hB⟩ hK
    have hc := hv.cell
    gi_wp2
    refine ⟨by simp, .inl ⟨_, _, rfl, run_takeDeferred hK, ?_⟩⟩
    exact ⟨_, results_tmp rfl _ _ _, v, rfl, ownsRow_putObj hrow _ hK rfl, hB.trans (belowK_b (w := w) (Nat.le_refl _) W D _ _ (by simp at hD; omega) hK rfl rfl)⟩
  case stop =>
    rintro D c pre W _ _ h _
    exact h.elim
end Go.Proofs.YtpchncpcckfghaaGreat
namespace Go.Proofs.YtpchncpcckfghaaGreat
open Go.RowKit
set_option linter.unusedVariables false
set_option linter.unusedSimpArgs false
theorem values64_any (a : Option Addr) (n c : Nat) (w : World) : Calls Tryz.prog 32 #[.slice a n c] w fun e w' => e = .returned (.func (.func 56) #[] #[.pointer (some ⟨w.heap.size, 0, none⟩)]) ∧ w' = w.alloc (.cells #[.slice a n c] 55) := by
  go_enter Tryz.func32, Tryz.ntmps32
  go_wp2
  go_ret
  exact ⟨rfl, rfl⟩
theorem collect64_any (Bs len cap : Nat) (a : Option Addr) (zs : List Int) (hlen : len = zs.length) (hm : len ≤ 1000000) (w : World) (hBs : w.cell? ⟨Bs, 0, none⟩ = some (.slice a len cap)) (hBl : Bs < w.heap.size) (hz : Sees .u64 w.heap.size w a zs) :
    Calls Tryz.prog 55 #[.func (.func 56) #[] #[.pointer (some ⟨Bs, 0, none⟩)]] w (Made 36 .u64 w zs) := by
  have q := Lib.hid (appseq_any Bs len cap a zs hlen hm w hBs hBl hz)
  clear hBs hz
  go_enter Tryz.func55, Tryz.ntmps55
  go_wp2_with fail
  refine q.out.mono ?_
  rintro e w1 ⟨v, rfl, ho, hb⟩
  have O := Lib.hid ho
  have B := Lib.hid hb
  clear ho hb
  go_wp2
  go_ret
  exact ⟨v, rfl, O.out, B.out⟩
end Go.Proofs.YtpchncpcckfghaaGreat
namespace Go.Proofs.YtpchncpcckfghaaGreat
open Go.RowKit Go.Sort
set_option linter.unusedVariables false
set_option linter.unusedSimpArgs false
theorem su_heap {w W : World} {g : Nat} {d : Array Int} {cur : Array Value} {e : TypeId} (hb : w.heap[g]? = some (.cells cur e (0, 0))) (h : SU w g 0 d W) : W.heap[g]? = some (.cells (putCells encU 0 d cur) e (0, 0)) ∧ w.grownBy W (some g) := by
  obtain ⟨n, os, rfl⟩ := h
  have hg : g < w.heap.size := (Array.getElem?_eq_some_iff.1 hb).1
  unfold sortWorld
  refine ⟨?_, rfl, rfl, rfl, by simp, fun k hk hne => ?_⟩
  · rw [heap_grow_old _ _ (by simpa using hg)]
    simp [putRow, mapBlock, Sort.ahead, Array.getElem?_modify, hb, onCells]
  · rw [heap_grow_old _ _ (by simpa using hk)]
    have : g ≠ k := fun e => hne (by rw [e])
    simp [putRow, mapBlock, Sort.ahead, Array.getElem?_modify, this]
theorem su_take (cur : Array Value) (ts : List Int) (h : ts.length ≤ cur.size) : (putCells encU 0 ts.toArray cur).toList.take ts.length = ts.map encU := by
  apply List.ext_getElem?
  intro j
  by_cases hj : j < ts.length
  · rw [List.getElem?_take_of_lt hj, Array.getElem?_toList]
    simp [putCells, hj, show j < cur.size by omega]
  · rw [List.getElem?_take_eq_none (by omega), List.getElem?_eq_none (by simp; omega)]
theorem su_holds {w : World} {g : Nat} {cur : Array Value} {e : TypeId} {l : List Int} (hb : w.heap[g]? = some (.cells cur e (0, 0))) (ht : cur.toList.take l.length = l.map encU) : Go.Sort.Holds encU w g 0 l.toArray := by
  intro j hj
  have hj' : j < l.length := by simpa using hj
  refine ⟨?_, by simp [World.frozen?, hb]⟩
  have h1 : (cur.toList.take l.length)[j]? = (l.map encU)[j]? := by rw [ht]
  rw [List.getElem?_take_of_lt hj'] at h1
  simp only [World.cell?, hb, Nat.zero_add]
  simp only [Option.isSome_none, Bool.false_eq_true, if_false]
  rw [← Array.getElem?_toList, h1]
  simp [hj']
def PdqOK (n : Nat) : Prop := ∀ (blk cap : Nat) (d : Array Int) (w : World), d.size = n → blk < w.heap.size → Go.Sort.Holds encU w blk 0 d →
  Calls Tryz.prog 62 #[.slice (some ⟨blk, 0, none⟩) n cap, .int .i64 0, .int .i64 n, .int .i64 (Lib.bitLen n)] w fun e w' => e = .returned (.tuple #[]) ∧ ∃ d', PermIn 0 n d d' ∧ SortedIn ltInt 0 n d' ∧ SU w blk 0 d' w'
theorem oneU : OneCell encU := fun _ => rfl
theorem pdqOK_small {n : Nat} (hn : n ≤ 12) : PdqOK n := fun blk cap d w hs hb hh => by
  subst hs
  exact updq_small blk 0 cap 0 d.size _ d d w w ⟨oneU, hh, hb⟩ rfl (SW.start hh) (Nat.zero_le _) (Nat.le_refl _) (by omega) (by omega)
def upL (l : List Int) : Prop := ∀ t j, t ≤ j → j < l.length → l.getD t 0 ≤ l.getD j 0
theorem up_nil : upL [] := fun t j _ h => by simp at h
theorem up_sorted {d d' : Array Int} {n : Nat} (hn : d.size = n) (hp : PermIn 0 n d d') (hs : SortedIn ltInt 0 n d') : upL d'.toList ∧ d'.toList.Perm d.toList ∧ d'.toList.length = n := by
  have h1 : d'.size = n := by rw [hp.1, hn]
  refine ⟨?_, ?_, by simpa using h1⟩
  · intro t j htj hj
    have hjn : j < d'.size := by simpa using hj
    have e : ∀ q, q < d'.size → d'.toList.getD q 0 = d'[q]! := fun q hq => by
      rw [getElem!_pos d' q hq]
      simp [List.getD, hq]
    by_cases he : t = j
    · subst he; exact Int.le_refl _
    · have := hs t j (Nat.zero_le _) (by omega) (by omega)
      rw [e t (by omega), e j hjn]
      simp [ltInt] at this
      omega
  · have := hp.2.2
    rw [← hn] at this
    rw [Array.extract_eq_self_of_le (by rw [hp.1]; omega), Array.extract_eq_self_of_le (Nat.le_refl _)] at this
    exact this
def SortE (base : Nat) (w : World) (v : Value) (n : Nat) (l : List Int) (e : Ending) (w' : World) : Prop := e = .returned (.tuple #[]) ∧ ∃ l', upL l' ∧ l'.Perm l ∧ w'.ownsRow base 36 1 v n (nums .u64 l') ∧ Below base w w'
set_option maxRecDepth 1000000 in
set_option maxHeartbeats 4000000 in
theorem usort_some (base g n c : Nat) (l : List Int) (hn : n = l.length) (hm : n ≤ 1000000) (hP : PdqOK n) (w : World) (ho : w.ownsRow base 36 1 (.slice (some ⟨g, 0, none⟩) n c) n (nums .u64 l)) :
    Calls Tryz.prog 45 #[.slice (some ⟨g, 0, none⟩) n c] w (SortE base w (.slice (some ⟨g, 0, none⟩) n c) n l) := by
  obtain ⟨hl, hr⟩ := ho
  rcases hr with ⟨he, _⟩ | ⟨g', cap, cur, he, hbg, hgg, hnc, hcm, hcs, htake⟩
  · injection he with he; cases he
  · injection he with h1 h2 h3
    injection h1 with h1
    injection h1 with h1
    subst h1 h3
    rw [Nat.mul_one] at htake
    have ht2 : cur.toList.take l.length = l.map encU := by rw [← hn]; exact htake
    have hH := su_holds hgg ht2
    have hgl : g < w.heap.size := (Array.getElem?_eq_some_iff.1 hgg).1
    have q := Lib.hid ((hP g c l.toArray w (by simpa using hn.symm) hgl hH).mono (R' := SortE base w (.slice (some ⟨g, 0, none⟩) n c) n l) fun e w' ⟨he, d', hp, hso, hS⟩ => by
      obtain ⟨u1, u2, u3⟩ := up_sorted (n := n) (by simpa using hn.symm) hp hso
      obtain ⟨k1, k2⟩ := su_heap hgg hS
      refine ⟨he, d'.toList, u1, by simpa using u2, ⟨by rw [Nat.mul_one]; simpa [nums] using u3, .inr ⟨g, c, _, rfl, hbg, k1, hnc, hcm, by simpa [putCells] using hcs, ?_⟩⟩, (Below.refl _ _).grown k2 (by have := hgl; omega) (fun k hk => by injection hk with hk; omega)⟩
      have := su_take cur d'.toList (by rw [u3]; omega)
      rw [Array.toArray_toList] at this
      rw [Nat.mul_one, ← u3]
      exact this)
    have hb := Lib.hid (fun W => Tryz.bits_Len (n : Int) W (by omega) (by omega))
    have hmz : (n : Int) ≤ 1000000 := by omega
    clear hl hgg htake ht2 hH hP hn
    go_enter Tryz.func45, Tryz.ntmps45
    go_wp2_with fail
    refine (hb.out _).mono ?_
    rintro e w1 ⟨rfl, rfl⟩
    go_wp2_with fail
    refine q.out.mono ?_
    rintro e w2 ⟨rfl, s2⟩
    have S2 := Lib.hid s2
    clear s2 q
    go_wp2
    exact bodyPost_ret (results_none rfl _ _ _) rfl ⟨rfl, S2.out⟩
end Go.Proofs.YtpchncpcckfghaaGreat
namespace Go.Proofs.YtpchncpcckfghaaGreat
open Go.RowKit Go.Sort
set_option linter.unusedVariables false
set_option linter.unusedSimpArgs false
set_option maxRecDepth 1000000 in
set_option maxHeartbeats 4000000 in
theorem uins_nil (w : World) : Calls Tryz.prog 81 #[.slice none 0 0, .int .i64 0, .int .i64 0] w fun e w' => e = .returned (.tuple #[]) ∧ w = w' := by
  go_enter Tryz.func81, Tryz.ntmps81
  go_wp2
  go_loopw [6] (fun vi wr => vi = .int .i64 1 ∧ wr = w) (fun _ _ => 0)
  case atStart => exact ⟨rfl, rfl⟩
  case round =>
    obtain ⟨rfl, rfl⟩ := hrel
    go_wp2
    go_end0
    exact ⟨rfl, rfl⟩
set_option maxRecDepth 1000000 in
set_option maxHeartbeats 4000000 in
theorem updq_nil (lim : Int) (w : World) : Calls Tryz.prog 62 #[.slice none 0 0, .int .i64 0, .int .i64 0, .int .i64 lim] w fun e w' => e = .returned (.tuple #[]) ∧ w = w' := by
  have q := Lib.hid (fun W => uins_nil W)
  go_enter Tryz.func62, Tryz.ntmps62
  go_wp2
  go_loopw [1, 2, 3, 8, 9] (fun v1 v2 v3 v8 v9 wr => v1 = .int .i64 0 ∧ v2 = .int .i64 0 ∧ v3 = .int .i64 lim ∧ v8 = .bool true ∧ v9 = .bool true ∧ wr = w) (fun _ _ _ _ _ _ => 0)
  case atStart => exact ⟨rfl, rfl, rfl, rfl, rfl, rfl⟩
  case round =>
  obtain ⟨rfl, rfl, rfl, rfl, rfl, hw⟩ := hrel
  subst hw
  go_wp2_with fail
  refine (q.out _).mono ?_
  rintro e w1 ⟨rfl, rfl⟩
  go_wp2
  exact bodyPost_ret (results_none rfl _ _ _) rfl ⟨rfl, rfl⟩
set_option maxRecDepth 1000000 in
set_option maxHeartbeats 4000000 in
theorem usort_nil (w : World) : Calls Tryz.prog 45 #[.slice none 0 0] w fun e w' => e = .returned (.tuple #[]) ∧ w = w' := by
  have hb := Lib.hid (fun W => Tryz.bits_Len (0 : Int) W (by omega) (by omega))
  have q := Lib.hid (fun lim W => updq_nil lim W)
  go_enter Tryz.func45, Tryz.ntmps45
  go_wp2_with fail
  refine (hb.out _).mono ?_
  rintro e w1 ⟨rfl, rfl⟩
  go_wp2_with fail
  refine (q.out _ _).mono ?_
  rintro e w2 ⟨rfl, rfl⟩
  go_wp2
  first | exact bodyPost_ret (results_none rfl _ _ _) rfl ⟨rfl, rfl⟩ | (go_end0; exact ⟨rfl, rfl⟩)
theorem usort_any (base n : Nat) (v : Value) (l : List Int) (hn : n = l.length) (hm : n ≤ 1000000) (hP : PdqOK n) (w : World) (ho : w.ownsRow base 36 1 v n (nums .u64 l)) :
    Calls Tryz.prog 45 #[v] w (SortE base w v n l) := by
  rcases ho.2 with ⟨rfl, h0⟩ | ⟨g, c, cur, rfl, -⟩
  · subst h0
    have hl : l = [] := List.eq_nil_of_length_eq_zero hn.symm
    subst hl
    exact (usort_nil w).mono fun e w' ⟨he, hw⟩ => ⟨he, [], up_nil, List.Perm.refl _, by rw [← hw]; exact ho, by rw [← hw]; exact Below.refl _ _⟩
  · exact usort_some base g n c l hn hm hP w ho
def SortedE (w : World) (l : List Int) (e : Ending) (w' : World) : Prop := ∃ v l', e = .returned v ∧ upL l' ∧ l'.Perm l ∧ w'.ownsRow w.heap.size 36 1 v l.length (nums .u64 l') ∧ Below w.heap.size w w'
set_option maxRecDepth 1000000 in
set_option maxHeartbeats 4000000 in
theorem sorted_any (Bs len cap : Nat) (a : Option Addr) (zs : List Int) (hlen : len = zs.length) (hm : len ≤ 1000000) (hP : PdqOK len) (w : World) (hBs : w.cell? ⟨Bs, 0, none⟩ = some (.slice a len cap)) (hBl : Bs < w.heap.size) (hz : Sees .u64 w.heap.size w a zs) :
    Calls Tryz.prog 31 #[.func (.func 56) #[] #[.pointer (some ⟨Bs, 0, none⟩)]] w (SortedE w zs) := by
  have q := Lib.hid (collect64_any Bs len cap a zs hlen hm w hBs hBl hz)
  have qs := Lib.hid (fun v W ho => usort_any w.heap.size len v zs hlen hm hP W ho)
  rw [hlen] at qs
  clear hBs hz hP
  go_enter Tryz.func31, Tryz.ntmps31
  go_wp2_with fail
  refine q.out.mono ?_
  rintro e w1 ⟨v, rfl, ho, hb⟩
  have Q := Lib.hid (qs.out v w1 ho)
  have B := Lib.hid hb
  clear ho hb qs q
  go_wp2_with fail
  refine Q.out.mono ?_
  rintro e w2 ⟨rfl, l', h1, h2, h3, h4⟩
  have H := Lib.hid (And.intro h1 (And.intro h2 (And.intro h3 (B.out.trans h4))))
  clear h1 h2 h3 h4 Q B
  go_wp2
  exact bodyPost_ret (results_tmp rfl _ _ _) rfl ⟨v, l', rfl, H.out⟩
end Go.Proofs.YtpchncpcckfghaaGreat
namespace Go.Proofs.YtpchncpcckfghaaGreat
open Go.RowKit
set_option linter.unusedVariables false
set_option linter.unusedSimpArgs false
def btwo (a b : List MkD) : Int := if baseB a = true then bchk b else 210
set_option maxRecDepth 100000 in
theorem btwo_any (w : World) (a1 a2 : Option Addr) (n1 n2 c1 c2 : Nat) (l1 l2 : List MkD) (h1 : RO mkC w a1 n1 c1 l1) (h2 : RO mkC w a2 n2 c2 l2) : Calls Tryz.prog 39 #[.slice a1 n1 c1, .slice a2 n2 c2] w (Gives (.int .i64 (btwo l1 l2)) w) := by
  have q1 := Lib.hid (bbase_any w a1 n1 c1 l1 h1)
  cases hb : baseB l1
  · have hF : Hid (btwo l1 l2 = 210) := Lib.hid (by unfold btwo; rw [hb]; rfl)
    rw [bchk_no hb] at q1
    generalize btwo l1 l2 = E at *
    clear h1 h2 hb
    go_enter Tryz.func39, Tryz.ntmps39
    go_wp2_with fail
    refine q1.out.mono ?_
    rintro e w1 ⟨rfl, b1⟩
    go_wp2
    go_ret
    exact ⟨(by rw [hF.out]; rfl), b1⟩
  · have hF : Hid (btwo l1 l2 = bchk l2) := Lib.hid (by unfold btwo; rw [hb]; rfl)
    rw [bchk_yes hb] at q1
    have q2 := Lib.hid (fun W hW => bbase_any W a2 n2 c2 l2 (h2.below hW))
    rw [← hF.out] at q2
    generalize btwo l1 l2 = E at *
    clear h1 h2 hb hF
    go_enter Tryz.func39, Tryz.ntmps39
    go_wp2_with fail
    refine q1.out.mono ?_
    rintro e w1 ⟨rfl, b1⟩
    have B1 := Lib.hid b1
    clear b1
    go_wp2_with fail
    refine (q2.out _ B1.out).mono ?_
    rintro e w2 ⟨rfl, b2⟩
    have B2 := Lib.hid (B1.out.trans (b2.mono B1.out.size))
    clear b2
    go_wp2
    go_ret
    exact ⟨rfl, B2.out⟩
set_option maxRecDepth 100000 in
theorem bsame_any (w : World) (a1 a2 : Option Addr) (n1 n2 c1 c2 : Nat) (l1 l2 : List MkD) (h1 : RO mkC w a1 n1 c1 l1) (h2 : RO mkC w a2 n2 c2 l2) : Calls Tryz.prog 18 #[.slice a1 n1 c1, .slice a2 n2 c2] w (Gives (.bool (sameM l1 l2)) w) := by
  have q1 := Lib.hid ((mkEqual_any a1 a2 n1 n2 c1 c2 l1 l2 w h1 h2).mono fun e w' h => drawnM_gives h)
  generalize sameM l1 l2 = E at *
  clear h1 h2
  go_enter Tryz.func18, Tryz.ntmps18
  go_wp2_with fail
  refine q1.out.mono ?_
  rintro e w1 ⟨rfl, b1⟩
  go_wp2
  go_ret
  exact ⟨rfl, b1⟩
theorem find_yes {l : List MkD} {n i : Nat} {g : Int} (hr : riseM l) (hn : n = l.length) (hi : i < n) (h : (l.getD i mk0).f = g) : look l g = some (l.getD i mk0).note := by
  have hil : i < l.length := by omega
  have e : l.getD i mk0 = l[i] := by simp [List.getD, hil]
  rw [e] at h ⊢
  rw [← h]
  exact look_mem hr (List.getElem_mem _)
theorem find_no {l : List MkD} {n i : Nat} {g : Int} (hr : riseM l) (hn : n = l.length) (hf : FindI l n g i) (h : (decide (i < n) && decide ((l.getD i mk0).f = g)) = false) : look l g = none := by
  obtain ⟨h1, h2, h3⟩ := hf
  refine look_none fun t ht e => ?_
  obtain ⟨j, hj, rfl⟩ := List.getElem_of_mem ht
  have ej : (l.getD j mk0).f = g := by simpa [List.getD, hj] using e
  by_cases c1 : j < i
  · have := h2 j c1; omega
  · have hin : i < n := by omega
    rw [decide_eq_true hin, Bool.true_and, decide_eq_false_iff_not] at h
    by_cases c2 : j = i
    · rw [c2] at ej; exact h ej
    · have := rise_lt hr (t := i) (j := j) (by omega) hj
      have := h3 i (Nat.le_refl _) hin
      omega
end Go.Proofs.YtpchncpcckfghaaGreat
namespace Go.Proofs.YtpchncpcckfghaaGreat
open Go.RowKit
set_option linter.unusedVariables false
set_option linter.unusedSimpArgs false
theorem info_mk : (Tryz.prog.info? 40).map (·.size) = some 2 := by kernel_rfl
theorem mk_res2 {fn : Func} {p q : Tmp} (h : fn.results = #[.cell p 40, .tmp q]) (tmps : Array Value) (w : World) (g : Nat) (a1 a2 u : Value)
    (hp : tmps.getD p undef = .pointer (some ⟨g, 0, none⟩)) (hq : tmps.getD q undef = u) (hg : Holds w g 40 #[a1, a2]) : (results fn tmps).run Tryz.prog w = .ok (.tuple #[.agg #[a1, a2], u]) w := by
  rw [results_cell_tmp h, hp, hq]
  simp [asAddr, run_loadVar_row w g 40 40 #[a1, a2] (0, 0) _ hg Tryz.underlying40 rfl (by rw [info_mk]; rfl), Result.andThen]
theorem mk_ret2 {Q : Ending → World → Prop} {w : World} {g : Nat} {a1 a2 u : Value} (hg : Holds w g 40 #[a1, a2]) (hQ : Q (.returned (.tuple #[.agg #[a1, a2], u])) w) (act : Act) (f : Func) (n m : Nat) (hf : f.results = #[.cell n 40, .tmp m]) (ha : act.tmps.getD n undef = .pointer (some ⟨g, 0, none⟩)) (hm : act.tmps.getD m undef = u) (hd : act.defers = []) :
    bodyPost Tryz.prog f Q Exit.ret act w :=
  bodyPost_ret (mk_res2 hf _ _ g a1 a2 u ha hm hg) hd hQ
theorem mk_setRow {B : Nat} {w w' : World} (h : Below B w w') {g : Nat} (hg : B ≤ g) (cs : Array Value) : Below B w (w'.setRow g cs) :=
  ⟨h.os, h.tape, h.output, by simpa using h.size, fun k hk => by
    rw [← h.block k hk]
    simp only [World.setRow, Array.getElem?_modify]
    rw [if_neg (by omega)]⟩
def MkE (l : List MkD) (g : Int) (w : World) (e : Ending) (w' : World) : Prop := e = .returned (.tuple #[.agg #[.int .u64 (if hasB l g = true then g else 0), .string ((look l g).getD ⟨#[]⟩)], .bool (hasB l g)]) ∧ Below w.heap.size w w'
theorem mkE_yes {l : List MkD} {n i : Nat} {g : Int} (hr : riseM l) (hn : n = l.length) (hi : i < n) (h : (l.getD i mk0).f = g) {w w' : World} (hb : Below w.heap.size w w') : MkE l g w (.returned (.tuple #[.agg #[.int .u64 (l.getD i mk0).f, .string (l.getD i mk0).note], .bool true])) w' := by
  have q := find_yes hr hn hi h
  have q2 : hasB l g = true := by rw [look_has, q]; rfl
  refine ⟨?_, hb⟩
  rw [q2, q, if_pos rfl, h]
  rfl
theorem mkE_no {l : List MkD} {n i : Nat} {g : Int} (hr : riseM l) (hn : n = l.length) (hf : FindI l n g i) (h : (decide (i < n) && decide ((l.getD i mk0).f = g)) = false) {w w' : World} (hb : Below w.heap.size w w') : MkE l g w (.returned (.tuple #[.agg #[.int .u64 0, .string ⟨#[]⟩], .bool false])) w' := by
  have q := find_no hr hn hf h
  have q2 : hasB l g = false := by rw [look_has, q]; rfl
  refine ⟨?_, hb⟩
  rw [q2, q, if_neg (by decide)]
  rfl
set_option maxRecDepth 100000 in
set_option maxHeartbeats 4000000 in
theorem bfind_any (a : Option Addr) (n c : Nat) (l : List MkD) (g : Int) (hn : n ≤ 4096) (hr : riseM l) (w : World) (h : RO mkC w a n c l) : Calls Tryz.prog 35 #[.slice a n c, .int .u64 g] w (MkE l g w) := by
  have hlen := Lib.hid h.len
  obtain ⟨V, hV⟩ : ∃ V, V = w.alloc (.cells #[.int .u64 0, .string ⟨#[]⟩] 40) := ⟨_, rfl⟩
  have bV : Below w.heap.size w V := by rw [hV]; exact box_below _ _ _
  obtain ⟨gb, hgb⟩ : ∃ gb, gb = w.heap.size := ⟨_, rfl⟩
  have HB : Hid (Holds V gb 40 #[.int .u64 0, .string ⟨#[]⟩]) := Lib.hid (by rw [hV, hgb]; exact Holds.new _ _ _)
  have RV := h.below bV
  have q := Lib.hid (bsearch_any a n c l g hn hr V RV)
  have hyes := Lib.hid (fun i (hi : i < n) e w' (hb : Below w.heap.size w w') => mkE_yes (g := g) hr hlen.out hi e hb)
  have hno := Lib.hid (fun i hf e w' (hb : Below w.heap.size w w') => mkE_no (n := n) (i := i) (g := g) hr hlen.out hf e hb)
  have RW := Lib.hid RV
  have hV' := Lib.hid hV
  have hgb' := Lib.hid hgb
  have bV' := Lib.hid bV
  clear h hr hV hgb bV RV
  generalize MkE l g w = Q at *
  go_enter Tryz.func35, Tryz.ntmps35
  go_wp2_with fail
  rw [← hV'.out, ← hgb'.out]
  refine q.out.mono ?_
  rintro e w1 ⟨⟨i, hfi, rfl⟩, b1⟩
  have HB1 := HB.out.below b1 HB.out.lt
  have b01 := Lib.hid (bV'.out.trans (b1.mono bV'.out.size))
  have RW1 := Lib.hid (RW.out.below b1)
  have hii : i ≤ n := hfi.1
  cases hd : (decide (i < n) && decide ((l.getD i mk0).f = g))
  · have hE := Lib.hid (hno.out i hfi hd)
    clear hfi hd b1 q hyes hno RW RW1 hV' bV' HB
    go_wp2_with
      (refine wpList_store_row rfl 40 (.tmp 4) (.tmp 16) rfl gb #[.int .u64 0, .string ⟨#[]⟩] rfl rfl 40 #[.int .u64 0, .string ⟨#[]⟩] HB1 (by rw [info_mk]; rfl) rfl (by simp [Value.oneCell']) ?_
       have bS : Hid (Below w.heap.size w (w1.setRow gb #[.int .u64 0, .string ⟨#[]⟩])) := Lib.hid (mk_setRow b01.out (Nat.le_of_eq hgb'.out.symm) _)
       have HS : Hid (Holds (w1.setRow gb #[.int .u64 0, .string ⟨#[]⟩]) gb 40 #[.int .u64 0, .string ⟨#[]⟩]) := Lib.hid (setRow_heap w1 gb #[.int .u64 0, .string ⟨#[]⟩] #[.int .u64 0, .string ⟨#[]⟩] 40 (0, 0) HB1)
       generalize w1.setRow gb #[.int .u64 0, .string ⟨#[]⟩] = V8 at *)
    exact mk_ret2 HS.out (hE.out _ bS.out) _ _ 4 5 rfl rfl rfl rfl
  · rw [Bool.and_eq_true, decide_eq_true_eq, decide_eq_true_eq] at hd
    obtain ⟨hin, hfg⟩ := hd
    have hE := Lib.hid (hyes.out i hin hfg)
    have hini : (i : Int) < (n : Int) := by omega
    obtain ⟨b, off, rfl, hbl, x0, x1⟩ := mk_at RW1.out hin
    clear hfi hfg b1 q hyes hno RW RW1 hV' bV' HB
    generalize (l.getD i mk0).f = f at *
    generalize (l.getD i mk0).note = s at *
    go_wp2_with
      (refine wpList_store_row rfl 40 (.tmp 4) (.tmp 20) rfl gb #[.int .u64 f, .string s] rfl rfl 40 #[.int .u64 0, .string ⟨#[]⟩] HB1 (by rw [info_mk]; rfl) rfl (by simp [Value.oneCell']) ?_
       have bS : Hid (Below w.heap.size w (w1.setRow gb #[.int .u64 f, .string s])) := Lib.hid (mk_setRow b01.out (Nat.le_of_eq hgb'.out.symm) _)
       have HS : Hid (Holds (w1.setRow gb #[.int .u64 f, .string s]) gb 40 #[.int .u64 f, .string s]) := Lib.hid (setRow_heap w1 gb #[.int .u64 0, .string ⟨#[]⟩] #[.int .u64 f, .string s] 40 (0, 0) HB1)
       generalize w1.setRow gb #[.int .u64 f, .string s] = V8 at *)
    exact mk_ret2 HS.out (hE.out _ bS.out) _ _ 4 5 rfl rfl rfl rfl
end Go.Proofs.YtpchncpcckfghaaGreat
namespace Go.Proofs.YtpchncpcckfghaaGreat
open Go.RowKit
set_option linter.unusedVariables false
set_option linter.unusedSimpArgs false
set_option maxRecDepth 100000 in
set_option maxHeartbeats 4000000 in
theorem bFind_yes (a : Option Addr) (n c : Nat) (l : List MkD) (g : Int) (hb : baseB l = true) (w : World) (h : RO mkC w a n c l) : Calls Tryz.prog 17 #[.slice a n c, .int .u64 g] w (MkE l g w) := by
  obtain ⟨V, hV⟩ : ∃ V, V = w.alloc (.cells #[.int .u64 0, .string ⟨#[]⟩] 40) := ⟨_, rfl⟩
  have bV : Below w.heap.size w V := by rw [hV]; exact box_below _ _ _
  obtain ⟨gb, hgb⟩ : ∃ gb, gb = w.heap.size := ⟨_, rfl⟩
  have HB : Hid (Holds V gb 40 #[.int .u64 0, .string ⟨#[]⟩]) := Lib.hid (by rw [hV, hgb]; exact Holds.new _ _ _)
  have q := bbase_any V a n c l (h.below bV)
  rw [bchk_yes hb] at q
  have Q := Lib.hid q
  have hn4 : n ≤ 4096 := by have := baseB_len hb; have := h.len; omega
  have q2 := Lib.hid (fun W hW => bfind_any a n c l g hn4 (baseB_rise hb) W ((h.below bV).below hW))
  unfold MkE at q2 ⊢
  generalize (if hasB l g = true then g else 0) = f at *
  generalize (look l g).getD ⟨#[]⟩ = s at *
  generalize hasB l g = B at *
  have hV' := Lib.hid hV
  have hgb' := Lib.hid hgb
  have bV' := Lib.hid bV
  clear h hV hgb bV q hb
  go_enter Tryz.func17, Tryz.ntmps17
  go_wp2_with fail
  rw [← hV'.out, ← hgb'.out]
  refine Q.out.mono ?_
  rintro e w1 ⟨rfl, b1⟩
  have HB1 := Lib.hid (HB.out.below b1 HB.out.lt)
  have b01 := Lib.hid (bV'.out.trans (b1.mono bV'.out.size))
  have Q2 := Lib.hid (q2.out w1 b1)
  clear b1 Q hV' bV' HB q2
  go_wp2_with fail
  refine Q2.out.mono ?_
  rintro e w2 ⟨rfl, b2⟩
  have HB2 := HB1.out.below b2 HB1.out.lt
  have b02 := Lib.hid (b01.out.trans (b2.mono b01.out.size))
  clear b2 Q2 HB1 b01
  go_wp2_with
    (refine wpList_store_row rfl 40 (.tmp 4) (.tmp 13) rfl gb #[.int .u64 f, .string s] rfl rfl 40 #[.int .u64 0, .string ⟨#[]⟩] HB2 (by rw [info_mk]; rfl) rfl (by simp [Value.oneCell']) ?_
     have bS : Hid (Below w.heap.size w (w2.setRow gb #[.int .u64 f, .string s])) := Lib.hid (mk_setRow b02.out (Nat.le_of_eq hgb'.out.symm) _)
     have HS : Hid (Holds (w2.setRow gb #[.int .u64 f, .string s]) gb 40 #[.int .u64 f, .string s]) := Lib.hid (setRow_heap w2 gb #[.int .u64 0, .string ⟨#[]⟩] #[.int .u64 f, .string s] 40 (0, 0) HB2)
     generalize w2.setRow gb #[.int .u64 f, .string s] = V8 at *)
  exact mk_ret2 HS.out ⟨rfl, bS.out⟩ _ _ 4 5 rfl rfl rfl rfl
end Go.Proofs.YtpchncpcckfghaaGreat
namespace Go.Proofs.YtpchncpcckfghaaGreat
open Go.RowKit
set_option linter.unusedVariables false
set_option linter.unusedSimpArgs false
theorem infoMk : (Tryz.prog.info? 40).map (fun i => (i.zero.map fun z => z.cells.size, i.size, i.bytes)) = some (some 2, 2, 24) := by kernel_rfl
theorem infoMkZ : ∃ i z, Tryz.prog.info? 40 = some i ∧ i.zero = some z ∧ i.size = 2 ∧ i.bytes = 24 ∧ z.cells.size = 2 := by
  have h := infoMk
  cases hi : Tryz.prog.info? 40 with
  | none => rw [hi] at h; simp at h
  | some i =>
    rw [hi] at h
    simp at h
    obtain ⟨⟨z, hz, h1⟩, h2, h3⟩ := h
    exact ⟨i, z, rfl, hz, h2, h3, h1⟩
def mkcells (l : List MkD) : List Value := l.flatMap mkC
theorem mkcells_snoc (l : List MkD) (x : MkD) : mkcells (l ++ [x]) = mkcells l ++ mkC x := by simp [mkcells]
theorem mkcells_one {l : List MkD} {u : Value} (h : u ∈ mkcells l) : u.oneCell' = true := by
  obtain ⟨a, _, ha⟩ := List.mem_flatMap.1 h
  simp [mkC] at ha
  rcases ha with rfl | rfl <;> rfl
theorem mro_own {w : World} {base : Nat} {e : TypeId} {v : Value} {n : Nat} {l : List MkD} (h : w.ownsRow base e 2 v n (mkcells l)) : ∃ a c, v = .slice a n c ∧ RO mkC w a n c l := by
  have hl := h.1
  have h2 := flat_len mkC_len l
  unfold mkcells at hl
  obtain ⟨a, c, rfl, h3, h4, h5⟩ := seesC_own h
  exact ⟨a, c, rfl, ⟨by omega, h3, h4, h5⟩⟩
theorem wpList_append_mk {ops : Array Oper} {rest : List Oper} {o : Oper} {a : Act} {Q : Exit → Act → World → Prop} (w : World) (hg : o.guard = none) (s x : Operand) (hop : o.op = Op.call { callee := Callee.builtin Builtin.append, args := #[s, x], argTypes := #[22, 22] })
    (w0 : World) (v : Value) (n : Nat) (l : List MkD) (hown : w.ownsRow w0.heap.size 40 2 v n (mkcells l)) (hb : Below w0.heap.size w0 w) (y : MkD)
    (hsv : a.eval s = v) (hg2 : Nat) (hx : a.eval x = .slice (some ⟨hg2, 0, none⟩) 1 1) (hh : hg2 = w.heap.size) (hn : n ≤ 1000000)
    (hK : ∀ v' w', w'.ownsRow w0.heap.size 40 2 v' (n + 1) (mkcells (l ++ [y])) → Below w0.heap.size w0 w' → wpList Tryz.prog ops Q rest (a.put o.dst v') w') :
    wpList Tryz.prog ops Q (o :: rest) a (w.alloc (.cells #[.int .u64 y.f, .string y.note] 40)) := by
  subst hh
  obtain ⟨i0, z0, hi, hz, h6, h72, hz6⟩ := infoMkZ
  have hb1 := box_below w #[.int .u64 y.f, .string y.note] 40
  refine wpList_append_cellsB _ hg s x 22 hop w0 40 i0 z0 2 24 Tryz.underlying22 hi hz h6 h72 hz6 (by omega) v n (mkcells l) (own_below hown hb1) (hb.trans (hb1.mono hb.size)) _ _ 1 1 (mkC y) rfl (seesC_lit w 40 _) (fun u hu => mkcells_one (l := [y]) (by simpa [mkcells] using hu)) hsv hx (by unfold maxLen; omega) (by omega) ?_
  intro v' w' h1 h2
  exact hK v' w' (by rw [mkcells_snoc]; exact h1) h2
end Go.Proofs.YtpchncpcckfghaaGreat
namespace Go.Proofs.YtpchncpcckfghaaGreat
open Go.RowKit
set_option linter.unusedVariables false
theorem wp_append_cellsB {P : Program} (w : World) {o : Oper} {a : Act} {K : Act → World → Prop} {Q : Exit → Act → World → Prop}
    (s x : Operand) (t : TypeId) (hop : o.op = Op.call { callee := Callee.builtin Builtin.append, args := #[s, x], argTypes := #[t, t] })
    (base : Nat) (e : TypeId) (i : TypeInfo) (z : Value) (size bytes : Nat) (ht : P.underlying t = some (.slice e)) (hi : P.info? e = some i) (hz : i.zero = some z)
    (hsize : i.size = size) (hby : i.bytes = bytes) (hzs : z.cells.size = size) (hsz : 0 < size)
    (v : Value) (n : Nat) (xs : List Value) (hown : w.ownsRow base e size v n xs) (hb : base ≤ w.heap.size) (B : Nat) (A : Option Addr) (m c : Nat) (news : List Value) (hl : news.length = m * size) (hs : SeesC B w A news) (h1 : ∀ u ∈ news, u.oneCell' = true)
    (hsv : a.eval s = v) (hx : a.eval x = .slice A m c) (hn : n + m ≤ maxLen) (hby2 : (n + m) * bytes ≤ 140737488355328)
    (hK : ∀ v' w', w'.ownsRow base e size v' (n + m) (xs ++ news) → w.grownBy w' v.ownBlock → K (a.put o.dst v') w') : o.wp P a w K Q := by
  obtain ⟨v', w', hrun, g1, g2, g3⟩ := run_append_cellsB (P := P) w base t o.type e i z size bytes ht hi hz hsize hby hzs hsz v n xs hown B A m c news hl hs h1 hn hby2 hb
  unfold Oper.wp
  simp [execOp, hop, resolve, invoke, builtin, hsv, hx, hrun, Result.andThen]
  exact hK v' w' g1 g2
end Go.Proofs.YtpchncpcckfghaaGreat
namespace Go.Proofs.YtpchncpcckfghaaGreat
open Go.RowKit
set_option linter.unusedVariables false
set_option linter.unusedSimpArgs false
theorem less_is (x y : ByteArray) : Op.bytesLess x.toList y.toList = lt8 (byt x) (byt y) := by
  unfold lt8 byt
  rw [ByteArray.toList_eq, ByteArray.toList_eq]
end Go.Proofs.YtpchncpcckfghaaGreat
namespace Go.Proofs.YtpchncpcckfghaaGreat
open Go.RowKit
set_option linter.unusedVariables false
set_option linter.unusedSimpArgs false
theorem bl_grown {B : Nat} {a w w' : World} {row : Option Nat} (h : Below B a w) (hg : w.grownBy w' row) (hB : B ≤ w.heap.size) (hr : ∀ k, row = some k → B ≤ k) : Below B a w' :=
  h.grown hg hB hr
theorem bl_set {B : Nat} {a w : World} (h : Below B a w) {p : Addr} (hp : B ≤ p.block) (u : Value) : Below B a (w.setCell p u) := ((BelowE.of (X := []) h).setNew hp u).none
theorem ho_grown {w w' : World} {row : Option Nat} {g : Nat} {ty : TypeId} {cs : Array Value} (h : Holds w g ty cs) (hg : w.grownBy w' row) (hr : some g ≠ row) : Holds w' g ty cs := (hg.block g h.lt hr).trans h
structure LB (w : World) (g : Nat) (v : Value) (O : List MkD) : Prop where
  blk : Holds w g 22 #[v]
  own : w.ownsRow (g + 1) 40 2 v O.length (mkcells O)
theorem LB.not {w : World} {g : Nat} {v : Value} {O : List MkD} (h : LB w g v O) : some g ≠ v.ownBlock := fun e => by have := (h.own.lt g e.symm).1; omega
theorem LB.below {w W : World} {g : Nat} {v : Value} {O : List MkD} (h : LB w g v O) (hb : Below w.heap.size w W) : LB W g v O :=
  ⟨h.blk.below hb h.blk.lt, own_below h.own hb⟩
theorem LB.told {w W : World} {g : Nat} {v v' : Value} {O : List MkD} {t : MkD} (h : LB w g v O) (ho : W.ownsRow (g + 1) 40 2 v' (O.length + 1) (mkcells O ++ mkC t)) (hg : w.grownBy W v.ownBlock) : LB (W.setCell ⟨g, 0, none⟩ v') g v' (O ++ [t]) := by
  refine ⟨(ho_grown h.blk hg h.not).set 0 v', ?_⟩
  rw [mkcells_snoc, List.length_append]
  exact own_belowE ho ((BelowE.refl [g] _ _).setIn (p := ⟨g, 0, none⟩) (by simp) _) (fun k hk => by have := (ho.lt k hk).1; simp; omega)
theorem LB.told_below {w W : World} {g : Nat} {v v' : Value} {O : List MkD} (h : LB w g v O) (hg : w.grownBy W v.ownBlock) : Below g w (W.setCell ⟨g, 0, none⟩ v') :=
  bl_set (bl_grown (Below.refl _ _) hg (Nat.le_of_lt h.blk.lt) (fun k hk => by have := (h.own.lt k hk).1; omega)) (p := ⟨g, 0, none⟩) (Nat.le_refl _) _
theorem wpList_append_mkB {ops : Array Oper} {rest : List Oper} {o : Oper} {a : Act} {Q : Exit → Act → World → Prop} (w : World) (hg : o.guard = none) (s x : Operand) (hop : o.op = Op.call { callee := Callee.builtin Builtin.append, args := #[s, x], argTypes := #[22, 22] })
    (base : Nat) (v : Value) (n : Nat) (l : List MkD) (hown : w.ownsRow base 40 2 v n (mkcells l)) (hb : base ≤ w.heap.size) (y : MkD)
    (hsv : a.eval s = v) (hg2 : Nat) (hx : a.eval x = .slice (some ⟨hg2, 0, none⟩) 1 1) (hh : hg2 = w.heap.size) (hn : n ≤ 1000000)
    (hK : ∀ v' w', w'.ownsRow base 40 2 v' (n + 1) (mkcells l ++ mkC y) → (w.alloc (.cells (mkC y).toArray 40)).grownBy w' v.ownBlock → wpList Tryz.prog ops Q rest (a.put o.dst v') w') :
    wpList Tryz.prog ops Q (o :: rest) a (w.alloc (.cells #[.int .u64 y.f, .string y.note] 40)) := by
  subst hh
  obtain ⟨i0, z0, hi, hz, h6, h72, hz6⟩ := infoMkZ
  have hb1 := box_below w #[.int .u64 y.f, .string y.note] 40
  refine wpList_plain hg fun K hK' => wp_append_cellsB _ s x 22 hop base 40 i0 z0 2 24 Tryz.underlying22 hi hz h6 h72 hz6 (by decide) v n (mkcells l) (own_below hown hb1) (Nat.le_trans hb hb1.size) _ _ 1 1 (mkC y) rfl (seesC_lit w 40 _) (fun u hu => mkcells_one (l := [y]) (by simpa [mkcells] using hu)) hsv hx (by unfold maxLen; omega) (by omega) ?_
  intro v' w' h1 h2
  exact hK' _ _ (hK v' w' h1 h2)
theorem gtr_yes {s t : ByteArray} (h : lt8 (byt s) (byt t) = true) : Op.bytesLess t.toList s.toList = false ∧ (t.toList == s.toList) = false := by
  have h2 := lt8_asymm h
  refine ⟨by rw [less_is]; exact h2, ?_⟩
  rw [beq_eq_false_iff_ne]
  intro e
  rw [ByteArray.toList_eq, ByteArray.toList_eq] at e
  have e' : byt t = byt s := e
  rw [e', lt8_irrefl] at h
  cases h
theorem gtr_no {s t : ByteArray} (h : lt8 (byt s) (byt t) = false) : Op.bytesLess t.toList s.toList = true ∨ t = s := by
  cases h2 : lt8 (byt t) (byt s) with
  | true => exact .inl (by rw [less_is]; exact h2)
  | false => exact .inr (byt_inj (lt8_tri h2 h))
def pairV (x y : MkD) (p q : Bool) : Value := .agg #[.int .u64 x.f, .string x.note, .int .u64 y.f, .string y.note, .bool p, .bool q]
def Shown (w : World) (g : Nat) (O : List MkD) (e : Ending) (w' : World) : Prop := e = .returned (.tuple #[]) ∧ Below g w w' ∧ ∃ v, LB w' g v O
set_option maxRecDepth 100000 in
set_option maxHeartbeats 4000000 in
theorem lessA_any (w : World) (g : Nat) (v : Value) (O : List MkD) (x y : MkD) (hO : O.length ≤ 100000) (h : LB w g v O) :
    Calls Tryz.prog 42 #[pairV x y true false, .pointer (some ⟨g, 0, none⟩)] w (Shown w g (O ++ [x])) := by
  unfold pairV
  obtain ⟨ao, co, rfl, -⟩ := mro_own h.own
  obtain ⟨V, hV⟩ : ∃ V, V = w.alloc (.cells #[.int .u64 x.f, .string x.note, .int .u64 y.f, .string y.note, .bool true, .bool false] 75) := ⟨_, rfl⟩
  have bV : Below w.heap.size w V := by rw [hV]; exact box_below _ _ _
  obtain ⟨gp, hgp⟩ : ∃ gp, gp = w.heap.size := ⟨_, rfl⟩
  have HP : Holds V gp 75 #[.int .u64 x.f, .string x.note, .int .u64 y.f, .string y.note, .bool true, .bool false] := by rw [hV, hgp]; exact Holds.new _ _ _
  have HL := Lib.hid (h.below bV)
  have hgl : g < w.heap.size := h.blk.lt
  have bV' := Lib.hid bV
  have hV' := Lib.hid hV
  have hgp' := Lib.hid hgp
  have c0 := HL.out.blk.cell 0
  have p0 := HP.cell 0
  have p1 := HP.cell 1
  have p5 := HP.cell 5
  simp at p0 p1 p5 c0
  clear h bV hV HP hgp
  go_enter Tryz.func42, Tryz.ntmps42
  go_upto_region 1 with (fail)
  rw [← hV'.out, ← hgp'.out]
  clear hV' hgp'
  go_wp2_with
    (at_builtin
     go_loud (refine wpList_append_mkB V rfl (.tmp 6) (.tmp 9) rfl (g + 1) _ O.length O HL.out.own HL.out.blk.lt x rfl _ rfl rfl (by omega) ?_)
     intro v2 W2 o2 g2
     obtain ⟨a2, c2, rfl, -, -, -⟩ := seesC_own o2
     have hb := box_below V (mkC x).toArray 40
     have HL2 := HL.out.below hb
     have hend := Lib.hid (HL2.told (t := x) o2 g2)
     have hendB := Lib.hid ((bV'.out.mono (Nat.le_of_lt hgl)).trans ((hb.mono (Nat.le_of_lt HL.out.blk.lt)).trans (HL2.told_below (v' := .slice a2 (O.length + 1) c2) g2)))
     have H2 := ho_grown HL2.blk g2 HL2.not
     have k0 := H2.cell 0
     have f0 := H2.free 0
     simp at k0
     clear o2 g2 hb HL2 H2)
  go_end0
  exact ⟨rfl, hendB.out, _, hend.out⟩
end Go.Proofs.YtpchncpcckfghaaGreat
namespace Go.Proofs.YtpchncpcckfghaaGreat
open Go.RowKit
set_option linter.unusedVariables false
set_option linter.unusedSimpArgs false
def sideL (tell : Option MkD → Option MkD → List MkD) : List MkD → List MkD → List MkD
  | [], [] => []
  | [], y :: b => tell none (some y) ++ sideL tell [] b
  | x :: a, [] => tell (some x) none ++ sideL tell a []
  | x :: a, y :: b => if x.f < y.f then tell (some x) none ++ sideL tell a (y :: b) else if y.f < x.f then tell none (some y) ++ sideL tell (x :: a) b else tell (some x) (some y) ++ sideL tell a b
  termination_by a b => a.length + b.length
def tellU : Option MkD → Option MkD → List MkD
  | some x, some y => [⟨x.f, maxN x.note y.note⟩]
  | some x, none => [x]
  | none, some y => [y]
  | none, none => []
def tellL : Option MkD → Option MkD → List MkD
  | some x, none => [x]
  | _, _ => []
theorem side_union : ∀ (a b : List MkD), sideL tellU a b = mergeL a b
  | [], [] => by simp [sideL, mergeL]
  | [], y :: b => by
    have := side_union [] b
    simp [sideL, mergeL, tellU, this] at *
  | x :: a, [] => by
    have := side_union a []
    rw [mergeL_nil] at *
    simp [sideL, tellU, this]
  | x :: a, y :: b => by
    have h1 := side_union a (y :: b)
    have h2 := side_union (x :: a) b
    have h3 := side_union a b
    rw [sideL, mergeL, h1, h2, h3]
    split
    · rfl
    · split <;> rfl
  termination_by a b => a.length + b.length
theorem less_nil (a : List MkD) : lessL a [] = a := by simp [lessL, hasB]
theorem less_skip {a b : List MkD} {y : MkD} (h : ∀ t ∈ a, t.f ≠ y.f) : lessL a (y :: b) = lessL a b := by
  unfold lessL
  refine List.filter_congr fun t ht => ?_
  have := h t ht
  simp only [hasB, List.any_cons]
  rw [decide_eq_false (fun e => this e.symm), Bool.false_or]
theorem side_less : ∀ (a b : List MkD), riseM a → riseM b → sideL tellL a b = lessL a b
  | [], [], _, _ => by simp [sideL, lessL]
  | [], y :: b, h1, h2 => by
    have := side_less [] b h1 (List.pairwise_cons.1 h2).2
    rw [sideL, this]
    simp [lessL, tellL]
  | x :: a, [], h1, h2 => by
    have := side_less a [] (List.pairwise_cons.1 h1).2 h2
    rw [sideL, this, less_nil, less_nil]
    rfl
  | x :: a, y :: b, h1, h2 => by
    obtain ⟨hx, ha⟩ := List.pairwise_cons.1 h1
    obtain ⟨hy, hb⟩ := List.pairwise_cons.1 h2
    have i1 := side_less a (y :: b) ha h2
    have i2 := side_less (x :: a) b h1 hb
    have i3 := side_less a b ha hb
    rw [sideL]
    split
    · rename_i hlt
      rw [i1]
      have hn : hasB (y :: b) x.f = false := by
        unfold hasB
        rw [List.any_eq_false]
        intro t ht
        rcases List.mem_cons.1 ht with rfl | ht
        · simp; omega
        · have := hy t ht
          simp; omega
      unfold lessL
      rw [List.filter_cons]
      simp [hn, tellL]
    · rename_i hlt
      split
      · rename_i hlt2
        rw [i2, less_skip (y := y)]
        · rfl
        · intro t ht
          rcases List.mem_cons.1 ht with rfl | ht
          · omega
          · have := hx t ht; omega
      · rename_i hlt2
        have he : x.f = y.f := by omega
        rw [i3]
        have hn : hasB (y :: b) x.f = true := by
          unfold hasB
          simp [he]
        have : lessL (x :: a) (y :: b) = lessL a (y :: b) := by
          unfold lessL
          rw [List.filter_cons]
          simp [hn]
        rw [this, less_skip (y := y)]
        · rfl
        · intro t ht
          have := hx t ht; omega
  termination_by a b => a.length + b.length
theorem getD_drop {l : List MkD} {i : Nat} (h : i < l.length) : l.drop i = l.getD i mk0 :: l.drop (i + 1) := by
  rw [List.drop_eq_getElem_cons h]
  simp [List.getD, h]
theorem side_end (tell : Option MkD → Option MkD → List MkD) {A B : List MkD} {i j : Nat} (hi : A.length ≤ i) (hj : B.length ≤ j) : sideL tell (A.drop i) (B.drop j) = [] := by
  rw [List.drop_eq_nil_of_le hi, List.drop_eq_nil_of_le hj]
  simp [sideL]
theorem side_a (tell : Option MkD → Option MkD → List MkD) {A B : List MkD} {i j : Nat} (hi : i < A.length) (h : B.length ≤ j ∨ (j < B.length ∧ (A.getD i mk0).f < (B.getD j mk0).f)) : sideL tell (A.drop i) (B.drop j) = tell (some (A.getD i mk0)) none ++ sideL tell (A.drop (i + 1)) (B.drop j) := by
  rw [getD_drop hi]
  rcases h with h | ⟨h, h2⟩
  · rw [List.drop_eq_nil_of_le h, sideL]
  · rw [getD_drop h, sideL, if_pos h2]
theorem side_b (tell : Option MkD → Option MkD → List MkD) {A B : List MkD} {i j : Nat} (hj : j < B.length) (h : A.length ≤ i ∨ (i < A.length ∧ (B.getD j mk0).f < (A.getD i mk0).f)) : sideL tell (A.drop i) (B.drop j) = tell none (some (B.getD j mk0)) ++ sideL tell (A.drop i) (B.drop (j + 1)) := by
  rw [getD_drop hj]
  rcases h with h | ⟨h, h2⟩
  · rw [List.drop_eq_nil_of_le h, sideL]
  · rw [getD_drop h, sideL, if_neg (by omega), if_pos h2]
theorem side_both (tell : Option MkD → Option MkD → List MkD) {A B : List MkD} {i j : Nat} (hi : i < A.length) (hj : j < B.length) (h : ¬ (A.getD i mk0).f < (B.getD j mk0).f) (h2 : ¬ (B.getD j mk0).f < (A.getD i mk0).f) : sideL tell (A.drop i) (B.drop j) = tell (some (A.getD i mk0)) (some (B.getD j mk0)) ++ sideL tell (A.drop (i + 1)) (B.drop (j + 1)) := by
  rw [getD_drop hi, getD_drop hj, sideL, if_neg h, if_neg h2]
structure ShowS (f g : Nat) (tell : Option MkD → Option MkD → List MkD) : Prop where
  a : ∀ (w : World) (v : Value) (O : List MkD) (x : MkD), O.length ≤ 100000 → LB w g v O → Calls Tryz.prog f #[pairV x mk0 true false, .pointer (some ⟨g, 0, none⟩)] w (Shown w g (O ++ tell (some x) none))
  b : ∀ (w : World) (v : Value) (O : List MkD) (y : MkD), O.length ≤ 100000 → LB w g v O → Calls Tryz.prog f #[pairV mk0 y false true, .pointer (some ⟨g, 0, none⟩)] w (Shown w g (O ++ tell none (some y)))
  ab : ∀ (w : World) (v : Value) (O : List MkD) (x y : MkD), O.length ≤ 100000 → x.f = y.f → LB w g v O → Calls Tryz.prog f #[pairV x y true true, .pointer (some ⟨g, 0, none⟩)] w (Shown w g (O ++ tell (some x) (some y)))
  one : ∀ x y, (tell x y).length ≤ 1
set_option maxRecDepth 100000 in
set_option maxHeartbeats 16000000 in
theorem beside_any (f g : Nat) (tell : Option MkD → Option MkD → List MkD) (hS : ShowS f g tell) (ef : ∀ args w, (callFunc f args).run Tryz.prog w = .ok (.enter f args) w) (w1 w : World) (a1 a2 : Option Addr) (n1 n2 c1 c2 : Nat) (A B : List MkD) (hn1 : n1 ≤ 4096) (hn2 : n2 ≤ 4096)
    (hg : g = w1.heap.size) (hw : Below g w1 w) (h1 : RO mkC w1 a1 n1 c1 A) (h2 : RO mkC w1 a2 n2 c2 B) (v0 : Value) (h : LB w g v0 []) :
    Calls Tryz.prog 40 #[.slice a1 n1 c1, .slice a2 n2 c2, .func (.func f) #[] #[.pointer (some ⟨g, 0, none⟩)]] w (Shown w g (sideL tell A B)) := by
  subst hg
  have MK : ∀ {a : Option Addr} {n c : Nat} {l : List MkD} (h : RO mkC w1 a n c l), ∀ i, i < n → ∃ b off, a = some ⟨b, off, none⟩ ∧ b < w1.heap.size ∧ ∀ W, Below w1.heap.size w W → W.cell? ⟨b, off + i * 2, none⟩ = some (.int .u64 (l.getD i mk0).f) ∧ W.cell? ⟨b, off + i * 2 + 1, none⟩ = some (.string (l.getD i mk0).note) := fun h i hi => by
    obtain ⟨b, off, e, hb, x0, x1⟩ := mk_at h hi
    exact ⟨b, off, e, hb, fun W hW => ⟨((hw.trans hW).cell (p := ⟨b, off + i * 2, none⟩) hb).trans x0, ((hw.trans hW).cell (p := ⟨b, off + i * 2 + 1, none⟩) hb).trans x1⟩⟩
  have RA := Lib.hid (MK h1)
  have RB := Lib.hid (MK h2)
  have la := Lib.hid h1.len
  have lb := Lib.hid h2.len
  have SA := Lib.hid hS.a
  have SB := Lib.hid hS.b
  have SAB := Lib.hid hS.ab
  have ONE := Lib.hid hS.one
  have L0 := Lib.hid h
  have hma : (n1 : Int) ≤ 4096 := by omega
  have hmb : (n2 : Int) ≤ 4096 := by omega
  generalize w1.heap.size = g at *
  clear MK hw h1 h2 hS h
  go_enter Tryz.func40, Tryz.ntmps40
  go_wp2
  go_step3
  go_wp2
  go_step3
  go_wp2
  go_loopw [6, 7] (fun x y wr => ∃ (i j : Nat) (v : Value) (O : List MkD), i ≤ n1 ∧ j ≤ n2 ∧ x = .int .i64 i ∧ y = .int .i64 j ∧ O.length ≤ i + j ∧ Hid (LB wr g v O) ∧ Hid (Below g w wr) ∧ Hid (O ++ sideL tell (A.drop i) (B.drop j) = sideL tell A B)) (fun x y _ => (n1 - (intOf x).toNat) + (n2 - (intOf y).toNat))
  case atStart => exact ⟨0, 0, v0, [], Nat.zero_le _, Nat.zero_le _, rfl, rfl, by simp, L0, Lib.hid (Below.refl _ _), Lib.hid (by simp)⟩
  case round =>
    clear L0
    obtain ⟨i, j, v, O, hi, hj, rfl, rfl, hol, hL, hB, hO⟩ := hrel
    generalize wr = g0 at *
    have hol2 : O.length ≤ 100000 := by omega
    have hend := Lib.hid (fun (hi : A.length ≤ i) (hj : B.length ≤ j) => side_end tell hi hj)
    have hsa := Lib.hid (fun (hi : i < A.length) h => side_a tell (A := A) (B := B) (j := j) hi h)
    have hsb := Lib.hid (fun (hj : j < B.length) h => side_b tell (A := A) (B := B) (i := i) hj h)
    have hsab := Lib.hid (fun (hi : i < A.length) (hj : j < B.length) h1 h2 => side_both tell (A := A) (B := B) hi hj h1 h2)
    have hgg : g ≤ g0.heap.size := Nat.le_of_lt hL.out.blk.lt
    by_cases hin : i < n1
    · have hin1 : i ≠ n1 := by omega
      have hinz : (i : Int) < (n1 : Int) := by omega
      have hinb : ((i : Int) == (n1 : Int)) = false := by simp; omega
      obtain ⟨b1, o1, rfl, hbl1, hx⟩ := RA.out i hin
      obtain ⟨x0, x1⟩ := hx g0 hB.out
      have hX := Lib.hid (fun W hW => hx W (hB.out.trans hW))
      clear hx
      by_cases hjn : j < n2
      · have hjn1 : j ≠ n2 := by omega
        have hjnz : (j : Int) < (n2 : Int) := by omega
        have hjnb : ((j : Int) == (n2 : Int)) = false := by simp; omega
        obtain ⟨b2, o2, rfl, hbl2, hy⟩ := RB.out j hjn
        obtain ⟨y0, y1⟩ := hy g0 hB.out
        have hY := Lib.hid (fun W hW => hy W (hB.out.trans hW))
        clear hy
        have hsa' := Lib.hid (fun h => hsa.out (by rw [← la.out]; exact hin) (.inr ⟨by rw [← lb.out]; exact hjn, h⟩))
        have hsb' := Lib.hid (fun h => hsb.out (by rw [← lb.out]; exact hjn) (.inr ⟨by rw [← la.out]; exact hin, h⟩))
        have hsab' := Lib.hid (fun h1 h2 => hsab.out (by rw [← la.out]; exact hin) (by rw [← lb.out]; exact hjn) h1 h2)
        obtain ⟨⟨f1, s1⟩, hm1⟩ : ∃ u, A.getD i mk0 = (u : MkD) := ⟨_, rfl⟩
        obtain ⟨⟨f2, s2⟩, hm2⟩ : ∃ u, B.getD j mk0 = (u : MkD) := ⟨_, rfl⟩
        rw [hm1] at x0 x1 hX hsa' hsb' hsab'
        rw [hm2] at y0 y1 hY hsa' hsb' hsab'
        dsimp only at x0 x1 y0 y1 hX hY hsa' hsb' hsab'
        clear hm1 hm2 hsa hsb hsab hend
        by_cases hlt : f1 < f2
        · have hE := Lib.hid (hO.out.symm.trans (congrArg (O ++ ·) (hsa'.out hlt)))
          clear hsa' hsb' hsab' hO
          go_wp2
          go_quiet (fail)
          go_wp2
          have q0 : Below g0.heap.size g0 (g0.drewN nq) := Below.drewN (Below.refl _ _) nq
          generalize g0.drewN nq = G1 at *
          refine ((SA.out _ v O ⟨f1, s1⟩ hol2 (hL.out.below (q0.mono (Nat.le_refl _))))).mono ?_
          rintro e w9 ⟨rfl, b9, v9, L9⟩
          have L9' := Lib.hid L9
          have B9' := Lib.hid (hB.out.trans ((q0.mono hgg).trans b9))
          clear L9 b9 hL hB q0
          go_wp2
          go_roundw
          case rel => exact ⟨i + 1, j, v9, _, by omega, by omega, by first | rfl | go_num, by first | rfl | go_num, by rw [List.length_append]; have := ONE.out (some ⟨f1, s1⟩) none; omega, L9', B9', Lib.hid (by rw [List.append_assoc]; exact hE.out.symm)⟩
          case measure => simp [intOf]; omega
        · by_cases hgt : f2 < f1
          · have hE := Lib.hid (hO.out.symm.trans (congrArg (O ++ ·) (hsb'.out hgt)))
            clear hsa' hsb' hsab' hO
            go_wp2
            go_quiet (fail)
            generalize nq = m1 at *
            go_wp2
            go_quiet (fail)
            go_wp2
            have q0 : Below g0.heap.size g0 (g0.drewN (m1 + nq)) := Below.drewN (Below.refl _ _) _
            generalize g0.drewN (m1 + nq) = G1 at *
            refine ((SB.out _ v O ⟨f2, s2⟩ hol2 (hL.out.below (q0.mono (Nat.le_refl _))))).mono ?_
            rintro e w9 ⟨rfl, b9, v9, L9⟩
            have L9' := Lib.hid L9
            have B9' := Lib.hid (hB.out.trans ((q0.mono hgg).trans b9))
            clear L9 b9 hL hB q0
            go_wp2
            go_roundw
            case rel => exact ⟨i, j + 1, v9, _, by omega, by omega, by first | rfl | go_num, by first | rfl | go_num, by rw [List.length_append]; have := ONE.out none (some ⟨f2, s2⟩); omega, L9', B9', Lib.hid (by rw [List.append_assoc]; exact hE.out.symm)⟩
            case measure => simp [intOf]; omega
          · have hE := Lib.hid (hO.out.symm.trans (congrArg (O ++ ·) (hsab'.out hlt hgt)))
            have heq : f1 = f2 := by omega
            clear hsa' hsb' hsab' hO hlt hgt
            subst heq
            have hlt : ¬ f1 < f1 := by omega
            go_wp2
            go_quiet (fail)
            generalize nq = m1 at *
            go_wp2
            go_quiet (fail)
            go_wp2
            have q0 : Below g0.heap.size g0 ((g0.drewN m1).drewN nq) := Below.drewN (Below.drewN (Below.refl _ _) _) _
            clear x0 x1 y0 y1
            generalize (g0.drewN m1).drewN nq = G1 at *
            have hLd := Lib.hid (hL.out.below (q0.drew))
            have x0' : ∀ W, Below g G1 W → W.cell? ⟨b1, o1 + i * 2, none⟩ = some (.int .u64 f1) := fun W hW => (hX.out W ((q0.mono hgg).trans hW)).1
            have x1' : ∀ W, Below g G1 W → W.cell? ⟨b1, o1 + i * 2 + 1, none⟩ = some (.string s1) := fun W hW => (hX.out W ((q0.mono hgg).trans hW)).2
            have y0' : ∀ W, Below g G1 W → W.cell? ⟨b2, o2 + j * 2, none⟩ = some (.int .u64 f1) := fun W hW => (hY.out W ((q0.mono hgg).trans hW)).1
            have y1' : ∀ W, Below g G1 W → W.cell? ⟨b2, o2 + j * 2 + 1, none⟩ = some (.string s2) := fun W hW => (hY.out W ((q0.mono hgg).trans hW)).2
            refine wp_drawn_on (fun W => Below g G1 W) (by kernel_rfl) ((Below.refl _ _).drew) (fun hHeld => ?_)
            refine wT 0 (v := ?v1) rfl (by kernel_rfl) (fun _ _ _ h => h) ?h1 (by assumption) ?r1
            case h1 => (intro w hSw; (try dsimp only at hSw); go_simp; try with_reducible rfl)
            refine wT 1 (v := ?v2) rfl (by kernel_rfl) (fun _ _ _ h => h) ?h2 (by assumption) ?r2
            case h2 => (intro w hSw; (try dsimp only at hSw); go_simp; try with_reducible rfl)
            refine wT 2 (v := ?v3) rfl (by kernel_rfl) (fun _ _ _ h => h) ?h3 (by assumption) ?r3
            case h3 => (intro w hSw; (try dsimp only at hSw); go_simp; try with_reducible rfl)
            refine wT 3 (v := ?v4) rfl (by kernel_rfl) (fun _ _ _ h => h) ?h4 (by assumption) ?r4
            case h4 => (intro w hSw; (try dsimp only at hSw); go_simp; try with_reducible rfl)
            refine wT 4 (v := ?v5) rfl (by kernel_rfl) (fun _ _ _ h => h) ?h5 (by assumption) ?r5
            case h5 => (intro w hSw; (try dsimp only at hSw); go_simp; try with_reducible rfl)
            refine wT 5 (v := ?v6) rfl (by kernel_rfl) (fun _ _ _ h => h) ?h6 (by assumption) ?r6
            case h6 => (intro w hSw; (try dsimp only at hSw); go_simp; try with_reducible rfl)
            refine wT 6 (v := ?v7) rfl (by kernel_rfl) (fun _ _ _ h => h) ?h7 (by assumption) ?r7
            case h7 => (intro w hSw; (try dsimp only at hSw); go_simp; try with_reducible rfl)
            refine wT 7 (v := ?v8) rfl (by kernel_rfl) (fun _ _ _ h => h) ?h8 (by assumption) ?r8
            case h8 => (intro w hSw; (try dsimp only at hSw); go_simp; try with_reducible rfl)
            refine wT 8 (v := ?v9) rfl (by kernel_rfl) (fun _ _ _ h => h) ?h9 (by assumption) ?r9
            case h9 => (intro w hSw; (try dsimp only at hSw); go_simp; try with_reducible rfl)
            refine wT 9 (v := ?v10) rfl (by kernel_rfl) (fun _ _ _ h => h) ?h10 (by assumption) ?r10
            case h10 => (intro w hSw; (try dsimp only at hSw); go_simp; try with_reducible rfl)
            try simp only [Act.put, List.setIfInBounds_toArray, List.set_cons_zero, List.set_cons_succ]
            refine wpAnyH_ready (rs := [10]) (by kernel_rfl) (by simp) ?_
            refine AllReadyH.cons (o := ⟨_, _, _, _, _, _⟩) rfl (fun K hK => ?_) AllReadyH.nil
            go_simp
            refine (SAB.out _ v O ⟨f1, s1⟩ ⟨f1, s2⟩ hol2 rfl hLd.out).mono ?_
            rintro e w9 ⟨rfl, b9, v9, L9⟩
            go_simp
            refine hK.out _ _ (hHeld.trans b9) (fun hHeld => ?_)
            clear hK K
            try simp only [Act.put, List.setIfInBounds_toArray, List.set_cons_zero, List.set_cons_succ]
            refine wpAnyH_done (by kernel_rfl) ?_ _
            have L9' := Lib.hid L9
            have B9' := Lib.hid (hB.out.trans ((q0.mono hgg).trans hHeld))
            clear L9 b9 hL hB q0 hLd hHeld x0' x1' y0' y1'
            go_wp2
            go_roundw
            case rel => exact ⟨i + 1, j + 1, v9, _, by omega, by omega, by first | rfl | go_num, by first | rfl | go_num, by rw [List.length_append]; have := ONE.out (some ⟨f1, s1⟩) (some ⟨f1, s2⟩); omega, L9', B9', Lib.hid (by rw [List.append_assoc]; exact hE.out.symm)⟩
            case measure => simp [intOf]; omega
      · have hjn1 : j = n2 := by omega
        have hjnb : ((j : Int) == (n2 : Int)) = true := by simp; omega
        have hsa' := Lib.hid (hsa.out (by rw [← la.out]; exact hin) (.inl (by rw [← lb.out]; omega)))
        obtain ⟨⟨f1, s1⟩, hm1⟩ : ∃ u, A.getD i mk0 = (u : MkD) := ⟨_, rfl⟩
        rw [hm1] at x0 x1 hsa'
        dsimp only at x0 x1 hsa'
        have hE := Lib.hid (hO.out.symm.trans (congrArg (O ++ ·) hsa'.out))
        clear hm1 hsa hsb hsab hend hsa' hO
        go_wp2
        go_quiet (fail)
        go_wp2
        have q0 : Below g0.heap.size g0 (g0.drewN nq) := Below.drewN (Below.refl _ _) nq
        generalize g0.drewN nq = G1 at *
        refine ((SA.out _ v O ⟨f1, s1⟩ hol2 (hL.out.below (q0.mono (Nat.le_refl _))))).mono ?_
        rintro e w9 ⟨rfl, b9, v9, L9⟩
        have L9' := Lib.hid L9
        have B9' := Lib.hid (hB.out.trans ((q0.mono hgg).trans b9))
        clear L9 b9 hL hB q0
        go_wp2
        go_roundw
        case rel => exact ⟨i + 1, j, v9, _, by omega, by omega, by first | rfl | go_num, by first | rfl | go_num, by rw [List.length_append]; have := ONE.out (some ⟨f1, s1⟩) none; omega, L9', B9', Lib.hid (by rw [List.append_assoc]; exact hE.out.symm)⟩
        case measure => simp [intOf]; omega
    · have hin1 : i = n1 := by omega
      have hinb : ((i : Int) == (n1 : Int)) = true := by simp; omega
      have hinz : ¬ (i : Int) < (n1 : Int) := by omega
      by_cases hjn : j < n2
      · have hjnb : ((j : Int) == (n2 : Int)) = false := by simp; omega
        obtain ⟨b2, o2, rfl, hbl2, hy⟩ := RB.out j hjn
        obtain ⟨y0, y1⟩ := hy g0 hB.out
        clear hy
        have hsb' := Lib.hid (hsb.out (by rw [← lb.out]; exact hjn) (.inl (by rw [← la.out]; omega)))
        obtain ⟨⟨f2, s2⟩, hm2⟩ : ∃ u, B.getD j mk0 = (u : MkD) := ⟨_, rfl⟩
        rw [hm2] at y0 y1 hsb'
        dsimp only at y0 y1 hsb'
        have hE := Lib.hid (hO.out.symm.trans (congrArg (O ++ ·) hsb'.out))
        clear hm2 hsa hsb hsab hend hsb' hO
        go_wp2
        go_quiet (fail)
        generalize nq = m1 at *
        go_wp2
        go_quiet (fail)
        go_wp2
        have q0 : Below g0.heap.size g0 (g0.drewN (m1 + nq)) := Below.drewN (Below.refl _ _) _
        generalize g0.drewN (m1 + nq) = G1 at *
        refine ((SB.out _ v O ⟨f2, s2⟩ hol2 (hL.out.below (q0.mono (Nat.le_refl _))))).mono ?_
        rintro e w9 ⟨rfl, b9, v9, L9⟩
        have L9' := Lib.hid L9
        have B9' := Lib.hid (hB.out.trans ((q0.mono hgg).trans b9))
        clear L9 b9 hL hB q0
        go_wp2
        go_roundw
        case rel => exact ⟨i, j + 1, v9, _, by omega, by omega, by first | rfl | go_num, by first | rfl | go_num, by rw [List.length_append]; have := ONE.out none (some ⟨f2, s2⟩); omega, L9', B9', Lib.hid (by rw [List.append_assoc]; exact hE.out.symm)⟩
        case measure => simp [intOf]; omega
      · have hjnb : ((j : Int) == (n2 : Int)) = true := by simp; omega
        have hE := Lib.hid (hO.out.symm.trans (congrArg (O ++ ·) (hend.out (by rw [← la.out]; omega) (by rw [← lb.out]; omega))))
        clear hsa hsb hsab hend hO
        go_wp2
        go_end0
        exact ⟨rfl, hB.out, v, by rw [hE.out, List.append_nil]; exact hL.out⟩
end Go.Proofs.YtpchncpcckfghaaGreat
