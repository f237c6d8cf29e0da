/- wto: Depth, Place, Same; what the library's Index, Contains, Equal tell. -/
import Derived.Test.YtpbminoefmpmpaaDoorWtoTells
import Derived.Test.YtpbminoefmpmpaaDoorShelf
namespace Go.Proofs.YtpbminoefmpmpaaDoor
open Go.RowKit
set_option linter.unusedVariables false
set_option linter.unusedSimpArgs false

theorem at_mem {P : List Int} {k : Nat} (hk : k < P.length) : P.getD k 0 ∈ P := by
  rw [show P.getD k 0 = P[k] by simp [List.getD, hk]]
  exact List.getElem_mem hk
theorem pos_hit {P : List Int} {p : Int} {k : Nat} (hk : k < P.length) (h : P.getD k 0 = p) (hn : ∀ j, j < k → P.getD j 0 ≠ p) : posW P p = k := by
  unfold posW
  rw [List.findIdx_eq hk]
  refine ⟨?_, fun j hj => ?_⟩
  · rw [show P[k] = P.getD k 0 by simp [List.getD, hk], h]; simp
  · have hjl : j < P.length := by omega
    have := hn j hj
    rw [show P.getD j 0 = P[j] by simp [List.getD, hjl]] at this
    simpa using this
theorem pos_some {P : List Int} {p : Int} (h : p ∈ P) : ∃ k, k < P.length ∧ P.getD k 0 = p ∧ ∀ j, j < k → P.getD j 0 ≠ p := by
  induction P with
  | nil => cases h
  | cons x P ih =>
    by_cases e : x = p
    · exact ⟨0, by simp, by simpa using e, fun j hj => by omega⟩
    · obtain ⟨k, h1, h2, h3⟩ := ih (by rcases List.mem_cons.1 h with h | h; exact absurd h.symm e; exact h)
      refine ⟨k + 1, by simp; omega, by simpa using h2, fun j hj => ?_⟩
      cases j with
      | zero => simpa using e
      | succ j => simpa using h3 j (by omega)
theorem idx_some {P : List Int} {p : Int} (h : p ∈ P) : Lib.idxOf P p = (posW P p : Int) ∧ posW P p < P.length ∧ P.getD (posW P p) 0 = p := by
  obtain ⟨k, h1, h2, h3⟩ := pos_some h
  have e := pos_hit h1 h2 h3
  have q := Lib.idxOf_hit P P.length k p h1 (Nat.le_refl _) h2 h3
  rw [List.take_length] at q
  rw [e]
  exact ⟨q, h1, h2⟩
theorem idx_none {P : List Int} {p : Int} (h : ¬ p ∈ P) : Lib.idxOf P p = -1 := by
  have q := Lib.idxOf_miss P P.length p (fun j hj he => h (by rw [← he]; exact at_mem hj))
  rwa [List.take_length] at q
theorem index_any (a : Option Addr) (n c : Nat) (P : List Int) (x : Int) (w : World) (h : SL w a n c P) : Calls Tryd.prog 23 #[.slice a n c, .int .i64 x] w (Tells (.int .i64 (Lib.idxOf P x)) w) := by
  rcases h.sees with e | ⟨b, off, rfl, -, hc⟩
  · obtain rfl : n = 0 := by rw [h.len, e]; rfl
    rw [e]
    exact (Tryd.slices_Index_int_empty a c x w).mono (fun e w' h => ⟨h.1, h.2.symm⟩)
  · have q := Tryd.slices_Index_int b off n c P x w (by rw [h.len]; exact Nat.le_refl _) h.max hc
    rw [List.take_of_length_le (by rw [h.len]; exact Nat.le_refl _)] at q
    exact q.mono (fun e w' h => ⟨h.1, h.2.symm⟩)
theorem contains_int (a : Option Addr) (n c : Nat) (P : List Int) (x : Int) (w : World) (h : SL w a n c P) : Calls Tryd.prog 30 #[.slice a n c, .int .i64 x] w (Tells (.bool (P.contains x)) w) := by
  rcases h.sees with e | ⟨b, off, rfl, -, hc⟩
  · obtain rfl : n = 0 := by rw [h.len, e]; rfl
    rw [e]
    exact (Tryd.slices_Contains_int_empty a c x w).mono (fun e w' h => ⟨h.1, h.2.symm⟩)
  · have q := Tryd.slices_Contains_int b off n c P x w (by rw [h.len]; exact Nat.le_refl _) h.max hc
    rw [List.take_of_length_le (by rw [h.len]; exact Nat.le_refl _)] at q
    exact q.mono (fun e w' h => ⟨h.1, h.2.symm⟩)
theorem equal_int (a1 a2 : Option Addr) (n1 n2 c1 c2 : Nat) (l1 l2 : List Int) (w : World) (h1 : SL w a1 n1 c1 l1) (h2 : SL w a2 n2 c2 l2) : Calls Tryd.prog 31 #[.slice a1 n1 c1, .slice a2 n2 c2] w (Gives (.bool (decide (l1 = l2))) w) := by
  have e1 := h1.len
  have e2 := h2.len
  by_cases hn : n1 = n2
  · rcases h1.sees with e | ⟨b1, o1, rfl, -, hc1⟩
    · obtain rfl : n1 = 0 := by rw [e1, e]; rfl
      have : l2 = [] := List.eq_nil_of_length_eq_zero (by omega)
      rw [e, this]
      subst hn
      exact (Tryd.slices_Equal_int_empty a1 a2 c1 0 c2 w h2.max).mono (fun e w' h => ⟨h.1, by rw [h.2]; exact Below.refl _ _⟩)
    rcases h2.sees with e | ⟨b2, o2, rfl, -, hc2⟩
    · obtain rfl : n2 = 0 := by rw [e2, e]; rfl
      subst hn
      have : l1 = [] := List.eq_nil_of_length_eq_zero (by omega)
      rw [e, this]
      exact (Tryd.slices_Equal_int_empty _ a2 c1 0 c2 w h2.max).mono (fun e w' h => ⟨h.1, by rw [h.2]; exact Below.refl _ _⟩)
    · have q := Tryd.slices_Equal_int b1 o1 n1 c1 b2 o2 n2 c2 l1 l2 w (by omega) (by omega) h1.max h2.max hc1 hc2
      rw [List.take_of_length_le (by omega), List.take_of_length_le (by omega)] at q
      refine q.mono (fun e w' h => ⟨?_, by obtain ⟨q, rfl⟩ := h.2; exact Below.drewN (Below.refl _ _) q⟩)
      rw [h.1]
      congr 2
      rw [Bool.eq_iff_iff]; simp
  · have : decide (l1 = l2) = false := decide_eq_false (fun e => hn (by rw [e1, e2, e]))
    rw [this]
    exact (Tryd.slices_Equal_int_lens a1 a2 n1 c1 n2 c2 w hn).mono (fun e w' h => ⟨h.1, by rw [h.2]; exact Below.refl _ _⟩)

set_option maxHeartbeats 1000000 in
theorem wsame_any (a1 a2 a3 a4 : Option Addr) (P S P2 S2 : List Int) (n1 n2 n3 n4 c1 c2 c3 c4 : Nat) (w : World) (h1 : WA w a1 n1 c1 P a2 n2 c2 S) (h2 : WA w a3 n3 c3 P2 a4 n4 c4 S2) :
    Calls Tryd.prog 18 #[.agg #[.slice a1 n1 c1, .slice a2 n2 c2], .agg #[.slice a3 n3 c3, .slice a4 n4 c4]] w (Gives (.bool (sameW P S P2 S2)) w) := by
  obtain ⟨W1, hW1⟩ : ∃ W1, W1 = (w.alloc (.cells #[.slice a1 n1 c1, .slice a2 n2 c2] 24)).alloc (.cells #[.slice a3 n3 c3, .slice a4 n4 c4] 24) := ⟨_, rfl⟩
  have hB : Below w.heap.size w W1 := by rw [hW1]; exact box2_below _ _ _ _ _
  have g1 := Lib.hid (h1.below hB)
  have g2 := Lib.hid (h2.below hB)
  have Z1 := Lib.hid (show Holds W1 w.heap.size 24 #[.slice a1 n1 c1, .slice a2 n2 c2] by rw [hW1]; exact (Holds.new w _ _).alloc _)
  have Z2 := Lib.hid (show Holds W1 (w.heap.size + 1) 24 #[.slice a3 n3 c3, .slice a4 n4 c4] by
    rw [hW1]
    have := Holds.new (w.alloc (.cells #[.slice a1 n1 c1, .slice a2 n2 c2] 24)) 24 #[.slice a3 n3 c3, .slice a4 n4 c4]
    simpa using this)
  have BL := Lib.hid hB
  have hW1' := Lib.hid hW1
  have q1 := Lib.hid (equal_int a1 a3 n1 n3 c1 c3 P P2 W1 g1.out.p g2.out.p)
  clear h1 h2 hB hW1
  go_enter Tryd.func18, Tryd.ntmps18
  go_wp2_with fail
  rw [← hW1'.out]
  with_reducible refine q1.out.mono ?_
  rintro e w2 ⟨rfl, b2⟩
  clear q1 hW1'
  by_cases hP : P = P2
  · have hr : Hid (sameW P S P2 S2 = decide (S = S2)) := Lib.hid (by unfold sameW; rw [decide_eq_true hP, Bool.true_and])
    rw [decide_eq_true hP]
    clear hP
    have k1 := (Z1.out.below b2 Z1.out.lt).cell 0
    have k2 := (Z1.out.below b2 Z1.out.lt).cell 1
    have k3 := (Z2.out.below b2 Z2.out.lt).cell 0
    have k4 := (Z2.out.below b2 Z2.out.lt).cell 1
    have q2 := Lib.hid (equal_int a2 a4 n2 n4 c2 c4 S S2 w2 (g1.out.s.below b2) (g2.out.s.below b2))
    have BL2 := Lib.hid (BL.out.trans (b2.mono BL.out.size))
    clear b2 g1 g2 Z1 Z2 BL
    go_wp2_with fail
    with_reducible refine q2.out.mono ?_
    rintro e w3 ⟨rfl, b3⟩
    have BL3 := Lib.hid (BL2.out.trans (b3.mono BL2.out.size))
    clear b3 q2 BL2
    go_wp2
    go_ret
    exact ⟨by rw [hr.out]; rfl, BL3.out⟩
  · have hr : Hid (sameW P S P2 S2 = false) := Lib.hid (by unfold sameW; rw [decide_eq_false hP, Bool.false_and])
    rw [decide_eq_false hP]
    have BL2 := Lib.hid (BL.out.trans (b2.mono BL.out.size))
    clear hP b2
    go_wp2
    go_ret
    exact ⟨by rw [hr.out]; rfl, BL2.out⟩

set_option maxRecDepth 100000 in
set_option maxHeartbeats 2000000 in
theorem depth_any (a1 a2 : Option Addr) (n1 c1 n2 c2 : Nat) (P S : List Int) (w : World) (h : WA w a1 n1 c1 P a2 n2 c2 S) :
    Calls Tryd.prog 15 #[.agg #[.slice a1 n1 c1, .slice a2 n2 c2]] w (Gives (.int .i64 (depthW P S : Nat)) w) := by
  obtain ⟨W1, hW1⟩ : ∃ W1, W1 = (w.alloc (.cells #[.slice a1 n1 c1, .slice a2 n2 c2] 24)).alloc (.cells #[.int .i64 0] 3) := ⟨_, rfl⟩
  have hB1 := Lib.hid (show Below w.heap.size w W1 by rw [hW1]; exact (box_below w _ _).alloc (by simp) _)
  have Z := Lib.hid (show Holds W1 w.heap.size 24 #[.slice a1 n1 c1, .slice a2 n2 c2] by rw [hW1]; exact (Holds.new w _ _).alloc _)
  have M := Lib.hid (show Holds W1 (w.heap.size + 1) 3 #[.int .i64 0] by rw [hW1]; have q := Holds.new (w.alloc (.cells #[.slice a1 n1 c1, .slice a2 n2 c2] 24)) 3 #[.int .i64 0]; simpa using q)
  have hW1' := Lib.hid hW1
  have H := Lib.hid h
  have q1 := Lib.hid (check_any a1 a2 n1 c1 n2 c2 P S W1 (h.below hB1.out))
  have k1 := Z.out.cell 0
  have k2 := Z.out.cell 1
  have k3 := M.out.cell 0
  clear h hW1
  go_enter Tryd.func15, Tryd.ntmps15
  go_wp2_with fail
  rw [← hW1'.out]
  with_reducible refine q1.out.mono ?_
  rintro e w2 ⟨rfl, b2⟩
  clear q1 hW1' k1 k2 k3
  have Z2 := Lib.hid (Z.out.below b2 Z.out.lt)
  have M2 := Lib.hid (M.out.below b2 M.out.lt)
  have B2 := Lib.hid (hB1.out.trans (b2.mono hB1.out.size))
  clear b2 Z M hB1
  have k1 := Z2.out.cell 0
  have k2 := Z2.out.cell 1
  by_cases hc : chkW P S = 0
  · have O := chk_ok.1 hc
    have hr : Hid (depthW P S = mostL S S.length) := Lib.hid (by unfold depthW; rw [if_pos hc])
    have hs := H.out.s
    have hx : ∀ x ∈ [w.heap.size + 1], w.heap.size ≤ x := by simp
    have hq := Lib.hid (scan_depth (w.heap.size + 1) a1 a2 n1 c1 n2 c2 S (InvM S (w.heap.size + 1)) [w.heap.size + 1] w2 hs.len (by rw [hs.len]; exact O.few) hs.cap (hs.seesE B2.out hx) (invM_scan M2.out.lt) M2.out (fun k W a n c hk hi hw ho => clo_depth S (w.heap.size + 1) k n c a _ W hi (by have := ho.1; simp [nums, intsN] at this; omega) (by have := O.few; omega)))
    have hyes := Lib.hid (nest_yes O.nest)
    have hx' := Lib.hid hx
    rw [hc]
    clear hx hs O hc H
    go_wp2_with fail
    with_reducible refine hq.out.mono ?_
    rintro e w3 ⟨rfl, b3, i3⟩
    obtain ⟨q, M3⟩ := i3 hyes.out
    have k3 := Holds.cell M3 0
    have B3 := Lib.hid (belowE_new B2.out b3 hx'.out)
    clear hq i3 b3 M3 k1 k2
    generalize mostL S S.length = m at *
    go_wp2
    go_ret
    exact ⟨by rw [hr.out]; rfl, B3.out⟩
  · have hr : Hid (depthW P S = 0) := Lib.hid (by unfold depthW; rw [if_neg hc])
    have e1 : (chkW P S == 0) = false := by simpa using hc
    have k3 := M2.out.cell 0
    clear hc
    generalize chkW P S = x at *
    go_wp2
    go_ret
    exact ⟨by rw [hr.out]; rfl, B2.out⟩
set_option maxRecDepth 100000 in
set_option maxHeartbeats 2000000 in
theorem place_any (a1 a2 : Option Addr) (n1 c1 n2 c2 : Nat) (P S : List Int) (p : Int) (w : World) (h : WA w a1 n1 c1 P a2 n2 c2 S) :
    Calls Tryd.prog 8 #[.agg #[.slice a1 n1 c1, .slice a2 n2 c2], .int .i64 p] w (Gives (.tuple #[.int .i64 (placeN P S p : Nat), .bool (placeB P S p)]) w) := by
  obtain ⟨W1, hW1⟩ : ∃ W1, W1 = w.alloc (.cells #[.slice a1 n1 c1, .slice a2 n2 c2] 24) := ⟨_, rfl⟩
  have hB1 := Lib.hid (show Below w.heap.size w W1 by rw [hW1]; exact box_below w _ _)
  have Z := Lib.hid (show Holds W1 w.heap.size 24 #[.slice a1 n1 c1, .slice a2 n2 c2] by rw [hW1]; exact Holds.new w _ _)
  have hW1' := Lib.hid hW1
  have H := Lib.hid h
  have q1 := Lib.hid (check_any a1 a2 n1 c1 n2 c2 P S W1 (h.below hB1.out))
  clear h hW1
  go_enter Tryd.func8, Tryd.ntmps8
  go_wp2_with fail
  rw [← hW1'.out]
  with_reducible refine q1.out.mono ?_
  rintro e w2 ⟨rfl, b2⟩
  clear q1 hW1'
  have Z2 := Lib.hid (Z.out.below b2 Z.out.lt)
  have B2 := Lib.hid (hB1.out.trans (b2.mono hB1.out.size))
  clear b2 Z hB1
  have k1 := Z2.out.cell 0
  by_cases hc : chkW P S = 0
  · have hq := Lib.hid (index_any a1 n1 c1 P p w2 (H.out.p.below B2.out))
    rw [hc]
    by_cases hp : p ∈ P
    · have hr : Hid (placeN P S p = posW P p ∧ placeB P S p = true) := Lib.hid (by unfold placeN placeB; exact ⟨if_pos ⟨hc, hp⟩, decide_eq_true ⟨hc, hp⟩⟩)
      rw [(idx_some hp).1] at hq
      clear hc hp
      generalize posW P p = m at *
      go_wp2_with fail
      with_reducible refine hq.out.mono ?_
      rintro e w3 ⟨rfl, rfl⟩
      clear hq k1
      have hm : (0 : Int) ≤ (m : Int) := by omega
      go_wp2
      all_goals (go_ret2; exact ⟨by rw [hr.out.1, hr.out.2]; first | rfl | (congr; omega), B2.out⟩)
    · have hr : Hid (placeN P S p = 0 ∧ placeB P S p = false) := Lib.hid (by unfold placeN placeB; exact ⟨if_neg (fun x => hp x.2), decide_eq_false (fun x => hp x.2)⟩)
      rw [idx_none hp] at hq
      clear hc hp
      go_wp2_with fail
      with_reducible refine hq.out.mono ?_
      rintro e w3 ⟨rfl, rfl⟩
      clear hq k1
      go_wp2
      go_ret2
      exact ⟨by rw [hr.out.1, hr.out.2]; rfl, B2.out⟩
  · have hr : Hid (placeN P S p = 0 ∧ placeB P S p = false) := Lib.hid (by unfold placeN placeB; exact ⟨if_neg (fun x => hc x.1), decide_eq_false (fun x => hc x.1)⟩)
    have e1 : (chkW P S != 0) = true := by simpa using hc
    have e2 : (chkW P S == 0) = false := by simpa using hc
    clear hc
    generalize chkW P S = x at *
    go_wp2
    go_ret2
    exact ⟨by rw [hr.out.1, hr.out.2]; rfl, B2.out⟩
end Go.Proofs.YtpbminoefmpmpaaDoor
