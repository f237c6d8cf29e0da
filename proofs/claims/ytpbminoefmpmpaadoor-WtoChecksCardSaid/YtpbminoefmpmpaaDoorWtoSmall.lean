/- wto: the small functions; the document's Large and Same. -/
import Derived.Test.YtpbminoefmpmpaaDoorWtoSpec
import Derived.Test.YtpbminoefmpmpaaDoorSlices
import Derived.Test.YtpbminoefmpmpaaDoorRows
import Derived.Test.YtpbminoefmpmpaaDoorDrawn
import Derived.IntWalk
import Derived.Deep.QuietTactic
import Derived.BigQuiet
namespace Go.Proofs.YtpbminoefmpmpaaDoor
open Go.RowKit
set_option linter.unusedVariables false
set_option linter.unusedSimpArgs false

theorem infoInt : (Tryd.prog.info? 3).map (fun i => (i.zero, i.size, i.bytes)) = some (some (.int .i64 0), 1, 8) := by kernel_rfl
/-- An order handed over. -/
structure WA (w : World) (a1 : Option Addr) (n1 c1 : Nat) (P : List Int) (a2 : Option Addr) (n2 c2 : Nat) (S : List Int) : Prop where
  p : SL w a1 n1 c1 P
  s : SL w a2 n2 c2 S
theorem WA.below {w w' : World} {a1 a2 : Option Addr} {n1 c1 n2 c2 : Nat} {P S : List Int} (h : WA w a1 n1 c1 P a2 n2 c2 S) (hb : Below w.heap.size w w') : WA w' a1 n1 c1 P a2 n2 c2 S := ⟨h.p.below hb, h.s.below hb⟩

theorem wlarge_any (a1 a2 : Option Addr) (n1 c1 n2 c2 : Nat) (h1 : n1 ≤ 9223372036854775807) (h2 : n2 ≤ 9223372036854775807) (w : World) :
    Calls Tryd.prog 6 #[.agg #[.slice a1 n1 c1, .slice a2 n2 c2]] w (Gives (.bool (decide (200 < n1) || decide (200 < n2))) w) := by
  have hB := Lib.hid (box_below w #[.slice a1 n1 c1, .slice a2 n2 c2] 24)
  by_cases g : 200 < n1
  · have e : decide (200 < n1) = true := decide_eq_true g
    rw [e, Bool.true_or]
    have gi : (200 : Int) < (n1 : Int) := by omega
    clear e
    go_enter Tryd.func6, Tryd.ntmps6
    go_wp2
    go_ret
    exact ⟨rfl, hB.out⟩
  · have e : decide (200 < n1) = false := decide_eq_false g
    rw [e, Bool.false_or]
    have gi : ¬ (200 : Int) < (n1 : Int) := by omega
    have e2 : decide (200 < n2) = decide ((200 : Int) < (n2 : Int)) := decide_eq_decide.2 (by omega)
    rw [e2]
    clear e e2
    go_enter Tryd.func6, Tryd.ntmps6
    go_wp2
    go_ret
    exact ⟨rfl, hB.out⟩

/-- Two orders, the same. -/
def sameW (P S P2 S2 : List Int) : Bool := decide (P = P2) && decide (S = S2)
set_option maxRecDepth 100000 in
set_option maxHeartbeats 2000000 in
theorem wrsame_any (a1 a2 a3 a4 : Option Addr) (P S P2 S2 : List Int) (n1 n2 n3 n4 c1 c2 c3 c4 : Nat) (w : World) (h1 : WA w a1 n1 c1 P a2 n2 c2 S) (h2 : WA w a3 n3 c3 P2 a4 n4 c4 S2) :
    Calls Tryd.prog 19 #[.agg #[.slice a1 n1 c1, .slice a2 n2 c2], .agg #[.slice a3 n3 c3, .slice a4 n4 c4]] w (Gives (.bool (sameW P S P2 S2)) w) := by
  obtain ⟨W1, hW1⟩ : ∃ W1, W1 = (w.alloc (.cells #[.slice a1 n1 c1, .slice a2 n2 c2] 24)).alloc (.cells #[.slice a3 n3 c3, .slice a4 n4 c4] 24) := ⟨_, rfl⟩
  have hB : Below w.heap.size w W1 := by rw [hW1]; exact box2_below _ _ _ _ _
  have g1 := Lib.hid (h1.below hB)
  have g2 := Lib.hid (h2.below hB)
  have z1 : Holds W1 w.heap.size 24 #[.slice a1 n1 c1, .slice a2 n2 c2] := by rw [hW1]; exact (Holds.new w _ _).alloc _
  have z2 : Holds W1 (w.heap.size + 1) 24 #[.slice a3 n3 c3, .slice a4 n4 c4] := by
    rw [hW1]
    have := Holds.new (w.alloc (.cells #[.slice a1 n1 c1, .slice a2 n2 c2] 24)) 24 #[.slice a3 n3 c3, .slice a4 n4 c4]
    simpa using this
  have k1 := z1.cell 0
  have k2 := z1.cell 1
  have k3 := z2.cell 0
  have k4 := z2.cell 1
  have l1 := Lib.hid h1.p.len
  have l2 := Lib.hid h1.s.len
  have l3 := Lib.hid h2.p.len
  have l4 := Lib.hid h2.s.len
  have b1 : (n1 : Int) ≤ 9223372036854775807 := by have := h1.p.max; omega
  have b2 : (n2 : Int) ≤ 9223372036854775807 := by have := h1.s.max; omega
  have hW1' := Lib.hid hW1
  have hB' := Lib.hid hB
  clear h1 h2 hB z1 z2
  by_cases hn : n1 = n3
  case neg =>
    have hr : sameW P S P2 S2 = false := by unfold sameW; rw [decide_eq_false (fun e => hn (by rw [l1.out, l3.out, e])), Bool.false_and]
    rw [hr]
    have hi2 : ((n1 : Int) != (n3 : Int)) = true := by simp; omega
    clear hr hn hW1 k1 k2 k3 k4
    go_enter Tryd.func19, Tryd.ntmps19
    go_wp2
    go_ret
    rw [← hW1'.out]
    exact ⟨rfl, hB'.out⟩
  subst hn
  by_cases hm : n2 = n4
  case neg =>
    have hr : sameW P S P2 S2 = false := by unfold sameW; rw [decide_eq_false (fun e => hm (by rw [l2.out, l4.out, e]) : ¬ S = S2), Bool.and_false]
    rw [hr]
    have hi2 : ((n2 : Int) != (n4 : Int)) = true := by simp; omega
    clear hr hm hW1 k1 k2 k3 k4
    go_enter Tryd.func19, Tryd.ntmps19
    go_wp2
    go_ret
    rw [← hW1'.out]
    exact ⟨rfl, hB'.out⟩
  subst hm
  go_enter Tryd.func19, Tryd.ntmps19
  go_wp2
  rw [← hW1]
  clear hW1
  go_loopw [5] (fun x wr => ∃ k m : Nat, k ≤ n1 ∧ x = .int .i64 k ∧ Hid (∀ j, j < k → P.getD j 0 = P2.getD j 0) ∧ wr = W1.drewN m) (fun x _ => n1 - (intOf x).toNat)
  case atStart => exact ⟨0, 0, Nat.zero_le _, rfl, Lib.hid (by intro j hj; omega), rfl⟩
  case round =>
    obtain ⟨k, m, hk, rfl, he, rfl⟩ := hrel
    by_cases hlt : k < n1
    · obtain ⟨b1, o1, rfl, -, e1⟩ := sees_num g1.out.p.sees (i := k) (by rw [← l1.out]; exact hlt)
      obtain ⟨b2, o2, rfl, -, e2⟩ := sees_num g2.out.p.sees (i := k) (by rw [← l3.out]; exact hlt)
      have hki : (k : Int) < (n1 : Int) := by omega
      have hyes : Hid (P.getD k 0 = P2.getD k 0 → ∀ j, j < k + 1 → P.getD j 0 = P2.getD j 0) := Lib.hid (fun hx j hj => by
        by_cases e : j = k
        · subst e; exact hx
        · exact he.out j (by omega))
      have hno : Hid (P.getD k 0 ≠ P2.getD k 0 → sameW P S P2 S2 = false) := Lib.hid (fun hx => by unfold sameW; rw [decide_eq_false (fun e => hx (by rw [e])), Bool.false_and])
      clear he
      generalize P.getD k 0 = x at *
      generalize P2.getD k 0 = y at *
      by_cases hxy : x = y
      · subst hxy
        have hy2 := Lib.hid (hyes.out rfl)
        clear hyes hno
        go_wp2
        go_quiet (fail)
        go_wp2
        go_roundw
        case rel => exact ⟨k + 1, m + nq, by omega, by go_num, hy2, by simp [World.drewN, Nat.add_assoc]⟩
        case measure => simp [intOf]; omega
      · have hr := Lib.hid (hno.out hxy)
        have hxy2 : (x == y) = false := by simpa using hxy
        have hxy3 : (x != y) = true := by simpa using hxy
        clear hyes hno
        go_wp2
        go_quiet (fail)
        go_wp2
        go_ret
        exact ⟨by rw [hr.out]; rfl, Below.drewN (Below.drewN hB'.out m) nq⟩
    · have hP : Hid (P = P2) := Lib.hid (by
        have q1 := l1.out
        have q2 := l3.out
        apply List.ext_getElem (by omega)
        intro j g1 g2
        have := he.out j (by omega)
        simpa [List.getD, g1, g2] using this)
      clear he
      go_wp2
      obtain ⟨wo, hwo⟩ : ∃ wo, wo = W1.drewN m := ⟨_, rfl⟩
      rw [← hwo]
      have hwB : Hid (Below w.heap.size w wo) := Lib.hid (by rw [hwo]; exact Below.drewN hB'.out m)
      have k1 : wo.cell? ⟨w.heap.size, 0, none⟩ = some (.slice a1 n1 c1) := by rw [hwo]; exact k1
      have k2 : wo.cell? ⟨w.heap.size, 1, none⟩ = some (.slice a2 n2 c2) := by rw [hwo]; exact k2
      have k3 : wo.cell? ⟨w.heap.size + 1, 0, none⟩ = some (.slice a3 n1 c3) := by rw [hwo]; exact k3
      have k4 : wo.cell? ⟨w.heap.size + 1, 1, none⟩ = some (.slice a4 n2 c4) := by rw [hwo]; exact k4
      have s2 : Hid (Sees .i64 W1.heap.size wo a2 S) := Lib.hid (by rw [hwo]; exact g1.out.s.sees)
      have s4 : Hid (Sees .i64 W1.heap.size wo a4 S2) := Lib.hid (by rw [hwo]; exact g2.out.s.sees)
      clear hwo
      go_loopw [6] (fun x wr => ∃ k m : Nat, k ≤ n2 ∧ x = .int .i64 k ∧ Hid (∀ j, j < k → S.getD j 0 = S2.getD j 0) ∧ wr = wo.drewN m) (fun x _ => n2 - (intOf x).toNat)
      case atStart => exact ⟨0, 0, Nat.zero_le _, rfl, Lib.hid (by intro j hj; omega), rfl⟩
      case round =>
        obtain ⟨k, m, hk, rfl, he, rfl⟩ := hrel
        by_cases hlt : k < n2
        · obtain ⟨b1, o1, rfl, -, e1⟩ := sees_num s2.out (i := k) (by rw [← l2.out]; exact hlt)
          obtain ⟨b2, o2, rfl, -, e2⟩ := sees_num s4.out (i := k) (by rw [← l4.out]; exact hlt)
          have hki : (k : Int) < (n2 : Int) := by omega
          have hyes : Hid (S.getD k 0 = S2.getD k 0 → ∀ j, j < k + 1 → S.getD j 0 = S2.getD j 0) := Lib.hid (fun hx j hj => by
            by_cases e : j = k
            · subst e; exact hx
            · exact he.out j (by omega))
          have hno : Hid (S.getD k 0 ≠ S2.getD k 0 → sameW P S P2 S2 = false) := Lib.hid (fun hx => by unfold sameW; rw [decide_eq_false (fun e => hx (by rw [e]) : ¬ S = S2), Bool.and_false])
          clear he
          generalize S.getD k 0 = x at *
          generalize S2.getD k 0 = y at *
          by_cases hxy : x = y
          · subst hxy
            have hy2 := Lib.hid (hyes.out rfl)
            clear hyes hno
            go_wp2
            go_quiet (fail)
            go_wp2
            go_roundw
            case rel => exact ⟨k + 1, m + nq, by omega, by go_num, hy2, by simp [World.drewN, Nat.add_assoc]⟩
            case measure => simp [intOf]; omega
          · have hr := Lib.hid (hno.out hxy)
            have hxy2 : (x == y) = false := by simpa using hxy
            have hxy3 : (x != y) = true := by simpa using hxy
            clear hyes hno
            go_wp2
            go_quiet (fail)
            go_wp2
            go_ret
            exact ⟨by rw [hr.out]; rfl, Below.drewN (Below.drewN hwB.out m) nq⟩
        · have hS : Hid (sameW P S P2 S2 = true) := Lib.hid (by
            have q1 := l2.out
            have q2 := l4.out
            have : S = S2 := by
              apply List.ext_getElem (by omega)
              intro j g1 g2
              have := he.out j (by omega)
              simpa [List.getD, g1, g2] using this
            unfold sameW
            rw [decide_eq_true hP.out, decide_eq_true this, Bool.true_and])
          clear he
          go_wp2
          go_ret
          exact ⟨by rw [hS.out]; rfl, Below.drewN hwB.out m⟩
theorem wints_any (a1 a3 : Option Addr) (P P2 : List Int) (n1 n3 c1 c3 : Nat) (w : World) (h1 : SL w a1 n1 c1 P) (h2 : SL w a3 n3 c3 P2) :
    Calls Tryd.prog 13 #[.slice a1 n1 c1, .slice a3 n3 c3] w (Gives (.bool (decide (P = P2))) w) := by
  have q := Lib.hid (wrsame_any a1 none a3 none P [] P2 [] n1 0 n3 0 c1 0 c3 0 w ⟨h1, SL.nil w⟩ ⟨h2, SL.nil w⟩)
  rw [show sameW P [] P2 [] = decide (P = P2) by simp [sameW]] at q
  clear h1 h2
  go_enter Tryd.func13, Tryd.ntmps13
  go_wp2_with fail
  with_reducible refine q.out.mono ?_
  rintro e w1 ⟨rfl, hb⟩
  go_wp2
  go_ret
  exact ⟨rfl, hb⟩

/-- Where the component of the last one of the heads ends. -/
theorem endof_any (a1 a2 ah : Option Addr) (n1 c1 n2 c2 nh ch : Nat) (S : List Int) (h : List Nat) (w : World) (hS : SL w a2 n2 c2 S) (hh : SL w ah nh ch (intsN h))
    (ok : ∀ k ∈ h, k < S.length ∧ 0 ≤ S.getD k 0 ∧ (k : Int) + S.getD k 0 ≤ S.length) :
    Calls Tryd.prog 38 #[.agg #[.slice a1 n1 c1, .slice a2 n2 c2], .slice ah nh ch] w (Gives (.int .i64 (endL S h)) w) := by
  obtain ⟨W1, hW1⟩ : ∃ W1, W1 = w.alloc (.cells #[.slice a1 n1 c1, .slice a2 n2 c2] 24) := ⟨_, rfl⟩
  have hB := Lib.hid (show Below w.heap.size w W1 by rw [hW1]; exact box_below _ _ _)
  have hnS := hS.len
  have hmx := hS.max
  rcases List.eq_nil_or_concat h with rfl | ⟨h', k, rfl⟩
  · have e0 : nh = 0 := by have := hh.len; simpa [intsN] using this
    subst e0
    rw [endL_nil, ← hnS]
    clear hS hh hnS ok
    go_enter Tryd.func38, Tryd.ntmps38
    go_wp2
    go_ret
    rw [← hW1]
    exact ⟨rfl, hB.out⟩
  · rw [List.concat_eq_append] at *
    rw [endL_snoc]
    have hk := ok k (by simp)
    have hl : nh = h'.length + 1 := by have := hh.len; simpa [intsN] using this
    obtain ⟨b1, o1, rfl, l1, e1⟩ := sees_num hh.sees (i := h'.length) (by simp [intsN_len])
    obtain ⟨b2, o2, rfl, l2, e2⟩ := sees_num hS.sees (i := k) hk.1
    rw [show (intsN (h' ++ [k])).getD h'.length 0 = (k : Int) by rw [intsN_snoc]; simp [List.getD, intsN]] at e1
    have i1 : (h'.length : Int) ≤ 9223372036854775806 := by have := hh.max; omega
    have i2 : (k : Int) < (n2 : Int) := by omega
    obtain ⟨j1, j2, j3⟩ := hk
    have i3 : (n2 : Int) ≤ 9223372036854775807 := by omega
    have i4 : (k : Int) + S.getD k 0 ≤ (n2 : Int) := by omega
    have e0 : ((h'.length : Int) + 1 == 0) = false := by simp; omega
    have hB' := hB.out
    rw [hW1] at hB'
    have hB'' := Lib.hid hB'
    clear hS hh hnS ok hW1 j1 j3 hmx hB'
    generalize h'.length = m at *
    subst hl
    generalize S.getD k 0 = x at *
    go_enter Tryd.func38, Tryd.ntmps38
    go_wp2
    go_ret
    exact ⟨rfl, hB''.out⟩

end Go.Proofs.YtpbminoefmpmpaaDoor
