/- wto: the document's Place, Heads, Depth. -/
import Derived.Test.YtpbminoefmpmpaaDoorWtoRef
namespace Go.Proofs.YtpbminoefmpmpaaDoor
open Go.RowKit
set_option linter.unusedVariables false
set_option linter.unusedSimpArgs false

set_option maxRecDepth 100000 in
set_option maxHeartbeats 2000000 in
theorem rplace_any (a1 a2 : Option Addr) (n1 c1 n2 c2 : Nat) (P S : List Int) (p : Int) (w : World) (h : WA w a1 n1 c1 P a2 n2 c2 S) :
    Calls Tryd.prog 9 #[.agg #[.slice a1 n1 c1, .slice a2 n2 c2], .int .i64 p] w (Gives (.tuple #[.int .i64 (placeN P S p : Nat), .bool (placeB P S p)]) w) := by
  obtain ⟨W1, hW1⟩ : ∃ W1, W1 = w.alloc (.cells #[.slice a1 n1 c1, .slice a2 n2 c2] 24) := ⟨_, rfl⟩
  have hB1 := Lib.hid (show Below w.heap.size w W1 by rw [hW1]; exact box_below w _ _)
  have Z := Lib.hid (show Holds W1 w.heap.size 24 #[.slice a1 n1 c1, .slice a2 n2 c2] by rw [hW1]; exact Holds.new w _ _)
  have hW1' := Lib.hid hW1
  have H := Lib.hid h
  have L1 := Lib.hid h.p.len
  have hm := h.p.max
  have hni : (n1 : Int) ≤ 9223372036854775807 := by omega
  have q1 := Lib.hid (rcheck_any a1 a2 n1 c1 n2 c2 P S W1 (h.below hB1.out))
  clear h hW1
  go_enter Tryd.func9, Tryd.ntmps9
  go_wp2_with fail
  rw [← hW1'.out]
  with_reducible refine q1.out.mono ?_
  rintro e w2 ⟨rfl, b2⟩
  clear q1 hW1'
  have Z2 := Lib.hid (Z.out.below b2 Z.out.lt)
  have B2 := Lib.hid (hB1.out.trans (b2.mono hB1.out.size))
  clear b2 Z hB1
  have k1 := Z2.out.cell 0
  by_cases hc : chkW P S = 0
  · have hP := Lib.hid (H.out.p.below B2.out)
    have hc' := Lib.hid hc
    rw [hc]
    clear hc
    go_wp2
    go_loop [6] (fun x => ∃ k : Nat, k ≤ n1 ∧ x = .int .i64 k ∧ Hid (∀ j, j < k → P.getD j 0 ≠ p)) (fun x => n1 - (intOf x).toNat)
    case atStart => exact ⟨0, by omega, rfl, Lib.hid (fun j hj => by omega)⟩
    case round =>
      obtain ⟨k, hk, rfl, hN⟩ := hrel
      by_cases hlt : k < n1
      · have hkl : k < P.length := by rw [← L1.out]; exact hlt
        obtain ⟨b, o, rfl, -, e1⟩ := sees_num hP.out.sees hkl
        have hki : (k : Int) < (n1 : Int) := by omega
        have hyes : Hid (P.getD k 0 = p → placeN P S p = k ∧ placeB P S p = true) := Lib.hid (fun hx => by
          have hmem : p ∈ P := by rw [← hx]; exact at_mem hkl
          exact ⟨(if_pos ⟨hc'.out, hmem⟩).trans (pos_hit hkl hx hN.out), decide_eq_true ⟨hc'.out, hmem⟩⟩)
        have hno : Hid (P.getD k 0 ≠ p → ∀ j, j < k + 1 → P.getD j 0 ≠ p) := Lib.hid (fun hx j hj => by
          by_cases e : j = k
          · subst e; exact hx
          · exact hN.out j (by omega))
        clear hN hkl
        generalize P.getD k 0 = x at *
        by_cases hx : x = p
        · have hr := Lib.hid (hyes.out hx)
          clear hyes hno
          subst hx
          go_wp2
          go_ret2
          exact ⟨by rw [hr.out.1, hr.out.2]; rfl, B2.out⟩
        · have hN := Lib.hid (hno.out hx)
          have e2 : (x == p) = false := by simpa using hx
          clear hyes hno hx
          go_wp2
          go_round
          case rel => exact ⟨k + 1, by omega, by go_num, hN⟩
          case measure => simp [intOf]; omega
      · obtain rfl : k = n1 := by omega
        have hnm : ¬ p ∈ P := fun hm => by
          obtain ⟨j, h1, h2, -⟩ := pos_some hm
          exact hN.out j (by rw [L1.out]; exact h1) h2
        have hr : Hid (placeN P S p = 0 ∧ placeB P S p = false) := Lib.hid (by unfold placeN placeB; exact ⟨if_neg (fun x => hnm x.2), decide_eq_false (fun x => hnm x.2)⟩)
        clear hN hnm
        go_wp2
        go_ret2
        exact ⟨by rw [hr.out.1, hr.out.2]; rfl, B2.out⟩
  · have hr : Hid (placeN P S p = 0 ∧ placeB P S p = false) := Lib.hid (by unfold placeN placeB; exact ⟨if_neg (fun x => hc x.1), decide_eq_false (fun x => hc x.1)⟩)
    have e1 : (chkW P S != 0) = true := by simpa using hc
    have e2 : (chkW P S == 0) = false := by simpa using hc
    clear hc
    generalize chkW P S = x at *
    go_wp2
    go_ret2
    exact ⟨by rw [hr.out.1, hr.out.2]; rfl, B2.out⟩

/-- The points that are found among the first k entries. -/
def ptsK (P S : List Int) (i k : Nat) : List Int := ((List.range k).filter fun j => decide ((i : Int) - j < S.getD j 0)).map fun j => P.getD j 0
theorem ptsK_next (P S : List Int) (i k : Nat) : ptsK P S i (k + 1) = ptsK P S i k ++ if (i : Int) - k < S.getD k 0 then [P.getD k 0] else [] := by
  unfold ptsK
  rw [List.range_succ, List.filter_append, List.map_append]
  congr 1
  by_cases h : (i : Int) - k < S.getD k 0
  · rw [if_pos h, List.filter_cons_of_pos (by simpa only [decide_eq_true_eq] using h)]; rfl
  · rw [if_neg h, List.filter_cons_of_neg (by simpa only [decide_eq_true_eq] using h)]; rfl
theorem ptsK_len (P S : List Int) (i k : Nat) : (ptsK P S i k).length ≤ k := by
  unfold ptsK
  rw [List.length_map]
  exact Nat.le_trans (List.length_filter_le _ _) (by simp)
set_option maxRecDepth 100000 in
set_option maxHeartbeats 2000000 in
theorem rhd_any (a1 a2 : Option Addr) (n1 c1 n2 c2 : Nat) (P S : List Int) (p : Int) (w : World) (h : WA w a1 n1 c1 P a2 n2 c2 S) :
    Calls Tryd.prog 10 #[.agg #[.slice a1 n1 c1, .slice a2 n2 c2], .int .i64 p] w (SlE (headsW P S p) w) := by
  obtain ⟨W1, hW1⟩ : ∃ W1, W1 = w.alloc (.cells #[.slice a1 n1 c1, .slice a2 n2 c2] 24) := ⟨_, rfl⟩
  obtain ⟨i0, hi, hz0, hz1, hz2⟩ := info_parts infoInt
  have hB1 := Lib.hid (show Below w.heap.size w W1 by rw [hW1]; exact box_below w _ _)
  have Z := Lib.hid (show Holds W1 w.heap.size 24 #[.slice a1 n1 c1, .slice a2 n2 c2] by rw [hW1]; exact Holds.new w _ _)
  have hW1' := Lib.hid hW1
  have H := Lib.hid h
  have q1 := Lib.hid (rplace_any a1 a2 n1 c1 n2 c2 P S p W1 (h.below hB1.out))
  clear h hW1
  go_enter Tryd.func10, Tryd.ntmps10
  go_wp2_with fail
  rw [← hW1'.out]
  with_reducible refine q1.out.mono ?_
  rintro e w2 ⟨rfl, b2⟩
  clear q1 hW1'
  have Z2 := Lib.hid (Z.out.below b2 Z.out.lt)
  have B2 := Lib.hid (hB1.out.trans (b2.mono hB1.out.size))
  have B1 := Lib.hid b2
  clear b2
  by_cases hc : chkW P S = 0 ∧ p ∈ P
  case neg =>
    have hr : Hid (headsW P S p = []) := Lib.hid (if_neg hc)
    have e1 : placeB P S p = false := decide_eq_false hc
    rw [e1]
    have hfin : Hid (SlE (headsW P S p) w (.returned (.slice none 0 0)) w2) := Lib.hid ⟨none, 0, 0, rfl, by rw [hr.out]; exact SL.nil _, B2.out⟩
    clear hc e1
    generalize placeN P S p = m at *
    go_wp2
    go_loop [7, 8] (fun v x => v = .slice none 0 0 ∧ x = .int .i64 0) (fun _ _ => 0)
    case atStart => exact ⟨rfl, rfl⟩
    case round =>
      obtain ⟨rfl, rfl⟩ := hrel
      go_wp2
      go_ret
      exact hfin.out
  have O := chk_ok.1 hc.1
  have hix := idx_some hc.2
  have e1 : placeB P S p = true := decide_eq_true hc
  have e2 : placeN P S p = posW P p := if_pos hc
  have hr : Hid (headsW P S p = ptsK P S (posW P p) (posW P p + 1)) := Lib.hid (if_pos hc)
  rw [e1, e2]
  generalize posW P p = m at *
  have hP := Lib.hid H.out.p
  have hS := Lib.hid H.out.s
  have L1 := Lib.hid H.out.p.len
  have L2 := Lib.hid H.out.s.len
  have hm1 : m < n1 := by rw [L1.out]; exact hix.2.1
  have hn12 : n2 = n1 := by rw [L1.out, L2.out, O.len]
  subst hn12
  have hn : n2 ≤ 128 := by rw [L2.out]; exact O.few
  have hni : (n2 : Int) ≤ 128 := by omega
  clear hix e1 e2 O hc H
  go_wp2
  go_loopw [7, 8] (fun v x wr => ∃ (k : Nat) (a : Option Addr) (l c : Nat), k ≤ m + 1 ∧ x = .int .i64 k ∧ v = .slice a l c ∧ l ≤ k ∧ Hid (wr.ownsRow W1.heap.size 3 1 (.slice a l c) l (nums .i64 (ptsK P S m k))) ∧ Hid (Below W1.heap.size W1 wr)) (fun _ x _ => m + 1 - (intOf x).toNat)
  case atStart => exact ⟨0, none, 0, 0, by omega, rfl, rfl, by omega, Lib.hid (World.ownsRow_nil _ _ _ _), B1⟩
  case round =>
    clear B2 Z2 B1
    obtain ⟨k, a, l, c, hk, rfl, rfl, hlk, O, B1⟩ := hrel
    have BL := Lib.hid (hB1.out.trans (B1.out.mono hB1.out.size))
    have Z := Lib.hid (Z.out.below B1.out Z.out.lt)
    by_cases hlt : k < m + 1
    · have hki : (k : Int) ≤ (m : Int) := by omega
      have hkn : (k : Int) < (n2 : Int) := by omega
      have k1 := Z.out.cell 0
      have k2 := Z.out.cell 1
      obtain ⟨b1, o1, rfl, -, e1⟩ := sees_num (hP.out.below BL.out).sees (i := k) (by rw [← L1.out]; omega)
      obtain ⟨b2, o2, rfl, -, e2⟩ := sees_num (hS.out.below BL.out).sees (i := k) (by rw [← L2.out]; omega)
      have hnx := Lib.hid (ptsK_next P S m k)
      have hlen : Hid ((ptsK P S m k).length = l) := Lib.hid (by have := O.out.1; simp [nums] at this; omega)
      generalize P.getD k 0 = y at *
      generalize S.getD k 0 = s at *
      by_cases hs : (m : Int) - k < s
      · have hn1 := Lib.hid (hnx.out.trans (by rw [if_pos hs]))
        clear hnx
        have hlb : l ≤ 200 := by omega
        go_wp2_with (at_builtin; refine wpList_append1 _ rfl (.tmp 32) (.tmp 38) 22 rfl W1 3 i0 (.int .i64 0) 8 Tryd.underlying22 hi hz0 hz1 hz2 rfl .i64 y (.slice a l c) (ptsK P S m k) (by rw [hlen.out]; exact O.out) B1.out rfl rfl (by rw [hlen.out]; omega) (by omega) ?_; intro v' w' hown2 hb2; rw [← hn1.out] at hown2; obtain ⟨a', c', rfl, -, -⟩ := sees_own (l := ptsK P S m (k + 1)) hown2; have O2 := Lib.hid hown2; have BL2 := Lib.hid hb2; clear hown2 hb2)
        have hl2 : Hid ((ptsK P S m (k + 1)).length = l + 1) := Lib.hid (by rw [hn1.out, List.length_append, hlen.out]; rfl)
        rw [hl2.out] at O2
        go_wp2
        go_roundw
        case rel => exact ⟨k + 1, a', l + 1, c', by omega, by go_num, by rw [hl2.out], by omega, O2, BL2⟩
        case measure => simp [intOf]; omega
      · have hn1 := Lib.hid (hnx.out.trans (by rw [if_neg hs, List.append_nil]))
        rw [← hn1.out] at O
        clear hnx
        go_wp2
        go_roundw
        case rel => exact ⟨k + 1, a, l, c, by omega, by go_num, rfl, by omega, O, B1⟩
        case measure => simp [intOf]; omega
    · obtain rfl : k = m + 1 := by omega
      have hfin : Hid (SlE (headsW P S p) w (.returned (.slice a l c)) wr) := Lib.hid (by
        obtain ⟨a', c', e, hl, s⟩ := sees_own (l := ptsK P S m (m + 1)) O.out
        injection e with e3 e4 e5
        subst e3
        exact ⟨a, l, c, rfl, ⟨by rw [hr.out]; exact hl, own_cap O.out, by omega, by rw [hr.out]; exact s⟩, BL.out⟩)
      clear O BL Z B1
      go_wp2
      go_ret
      exact hfin.out
set_option maxRecDepth 100000 in
set_option maxHeartbeats 2000000 in
theorem rdepth_any (a1 a2 : Option Addr) (n1 c1 n2 c2 : Nat) (P S : List Int) (w : World) (h : WA w a1 n1 c1 P a2 n2 c2 S) :
    Calls Tryd.prog 16 #[.agg #[.slice a1 n1 c1, .slice a2 n2 c2]] w (Gives (.int .i64 (depthW P S : Nat)) w) := by
  obtain ⟨W1, hW1⟩ : ∃ W1, W1 = w.alloc (.cells #[.slice a1 n1 c1, .slice a2 n2 c2] 24) := ⟨_, rfl⟩
  have hB1 := Lib.hid (show Below w.heap.size w W1 by rw [hW1]; exact box_below w _ _)
  have Z := Lib.hid (show Holds W1 w.heap.size 24 #[.slice a1 n1 c1, .slice a2 n2 c2] by rw [hW1]; exact Holds.new w _ _)
  have H := Lib.hid h
  have L1 := Lib.hid h.p.len
  have hm := h.p.max
  have hni : (n1 : Int) ≤ 9223372036854775807 := by omega
  clear h
  go_enter Tryd.func16, Tryd.ntmps16
  go_wp2
  rw [← hW1]
  clear hW1
  go_loopw [3, 4] (fun v x wr => ∃ k : Nat, k ≤ n1 ∧ x = .int .i64 k ∧ v = .int .i64 (mostL S k : Nat) ∧ (0 < k → chkW P S = 0) ∧ Hid (Below w.heap.size w wr) ∧ Hid (Holds wr w.heap.size 24 #[.slice a1 n1 c1, .slice a2 n2 c2])) (fun _ x _ => n1 - (intOf x).toNat)
  case atStart => exact ⟨0, by omega, rfl, rfl, by omega, hB1, Z⟩
  case round =>
    clear hB1 Z
    obtain ⟨k, hk, rfl, rfl, hc0, BL, Z⟩ := hrel
    have k1 := Z.out.cell 0
    have k2 := Z.out.cell 1
    have hc0' := Lib.hid hc0
    clear hc0
    by_cases hlt : k < n1
    · have hki : (k : Int) < (n1 : Int) := by omega
      have q1 := Lib.hid (rcheck_any a1 a2 n1 c1 n2 c2 P S wr (H.out.below BL.out))
      go_wp2_with fail
      with_reducible refine q1.out.mono ?_
      rintro e w2 ⟨rfl, b2⟩
      clear q1 k1 k2
      have Z2 := Lib.hid (Z.out.below b2 Z.out.lt)
      have BL2 := Lib.hid (BL.out.trans (b2.mono BL.out.size))
      clear Z BL b2
      have k1 := Z2.out.cell 0
      have k2 := Z2.out.cell 1
      by_cases hc : chkW P S = 0
      · have O := chk_ok.1 hc
        have hkS : k < S.length := by rw [← O.len, ← L1.out]; exact hlt
        have q2 := Lib.hid (fun W hW => rheads_any a1 a2 n1 c1 n2 c2 k S W ((H.out.s.below BL2.out).below hW) hkS O.few)
        have hml : Hid (mostL S (k + 1) = max (mostL S k) (hds S k).length) := Lib.hid rfl
        have hc' := Lib.hid hc
        rw [hc]
        clear hc O
        obtain ⟨mn, hmn⟩ : ∃ mn, mn = mostL S (k + 1) := ⟨_, rfl⟩
        rw [← hmn] at hml
        have hmn' := Lib.hid hmn
        clear hmn
        generalize mostL S k = mk at *
        generalize (hds S k).length = d at *
        have q3 := Lib.hid (q2.out w2 (Below.refl _ _))
        go_wp2_with fail
        with_reducible refine q3.out.mono ?_
        rintro e w3 ⟨rfl, b3⟩
        clear q3 k1 k2
        have Z3 := Lib.hid (Z2.out.below b3 Z2.out.lt)
        have BL3 := Lib.hid (BL2.out.trans (b3.mono BL2.out.size))
        have k1 := Z3.out.cell 0
        have k2 := Z3.out.cell 1
        by_cases hd : mk < d
        · have hdi : (mk : Int) < (d : Int) := by omega
          have q4 := Lib.hid (q2.out w3 b3)
          have hme : Hid (mn = d) := Lib.hid (by rw [hml.out]; omega)
          clear b3 hml
          go_wp2_with fail
          with_reducible refine q4.out.mono ?_
          rintro e w4 ⟨rfl, b4⟩
          have Z4 := Lib.hid (Z3.out.below b4 Z3.out.lt)
          have BL4 := Lib.hid (BL3.out.trans (b4.mono BL3.out.size))
          clear q4 b4 k1 k2
          go_wp2
          go_roundw
          case rel => exact ⟨k + 1, by omega, by go_num, by rw [← hmn'.out, hme.out], fun _ => hc'.out, BL4, Z4⟩
          case measure => simp [intOf]; omega
        · have hdi : ¬ (mk : Int) < (d : Int) := by omega
          have hme : Hid (mn = mk) := Lib.hid (by rw [hml.out]; omega)
          clear b3 hml q2
          go_wp2
          go_roundw
          case rel => exact ⟨k + 1, by omega, by go_num, by rw [← hmn'.out, hme.out], fun _ => hc'.out, BL3, Z3⟩
          case measure => simp [intOf]; omega
      · have hk0 : k = 0 := by
          by_cases e : k = 0
          · exact e
          · exact absurd (hc0'.out (by omega)) hc
        have hr : Hid (depthW P S = mostL S k) := Lib.hid (by unfold depthW; rw [if_neg hc, hk0]; rfl)
        have e1 : (chkW P S == 0) = false := by simpa using hc
        clear hc hk0
        generalize chkW P S = x at *
        generalize mostL S k = mk at *
        go_wp2
        go_ret
        exact ⟨by rw [hr.out]; rfl, BL2.out⟩
    · obtain rfl : k = n1 := by omega
      have hr : Hid (depthW P S = mostL S k) := Lib.hid (by
        unfold depthW
        by_cases h0 : 0 < k
        · have hc := hc0'.out h0
          rw [if_pos hc]
          have O := chk_ok.1 hc
          rw [← O.len, ← L1.out]
        · have hk0 : k = 0 := by omega
          by_cases hc : chkW P S = 0
          · rw [if_pos hc]
            have O := chk_ok.1 hc
            rw [← O.len, ← L1.out]
          · rw [if_neg hc, hk0]; rfl)
      generalize mostL S k = mk at *
      go_wp2
      go_ret
      exact ⟨by rw [hr.out]; rfl, BL.out⟩
end Go.Proofs.YtpbminoefmpmpaaDoor
