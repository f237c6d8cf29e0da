/- WtoChecks: its walk. (Written by gen-wto-law-checks.py.) -/
import Derived.Test.YtpbminoefmpmpaaDoorWtoHeads
import Derived.Test.YtpbminoefmpmpaaDoorWtoRef2
import Derived.Test.YtpbminoefmpmpaaDoorWtoLives
import Derived.Deep.DeepCutAuto
namespace Go.Proofs.YtpbminoefmpmpaaDoor
open Go.RowKit
set_option linter.unusedVariables false
set_option linter.unusedSimpArgs false

theorem wmem_next {L : List Int} {hd : Int} {k : Nat} (hk : k < L.length) : hd ∈ L.take (k + 1) ↔ hd ∈ L.take k ∨ L.getD k 0 = hd := by
  rw [List.take_succ_eq_append_getElem hk, List.mem_append, List.mem_singleton]
  simp only [List.getD, List.getElem?_eq_getElem hk, Option.getD_some]
  exact or_congr_right ⟨fun h => h.symm, fun h => h.symm⟩
set_option maxRecDepth 100000 in
set_option maxHeartbeats 8000000 in
theorem wchecks_large1 (a1 a2 a3 a4 : Option Addr) (n1 c1 n2 c2 n3 c3 n4 c4 : Nat) (P S P2 S2 : List Int) (hd p : Int) (w : World) (ht : Tab w) (h : WA w a1 n1 c1 P a2 n2 c2 S) (g : WA w a3 n3 c3 P2 a4 n4 c4 S2) (hlg : (decide (200 < n1) || decide (200 < n2)) = true) : Calls Tryd.prog 3 #[.agg #[.slice a1 n1 c1, .slice a2 n2 c2], .agg #[.slice a3 n3 c3, .slice a4 n4 c4], .int .i64 hd, .int .i64 p] w (Gives (.bool true) w) := by
  have hlg' := Lib.hid hlg
  clear hlg
  obtain ⟨W1, hW1⟩ : ∃ W1, W1 = (w.alloc (.cells #[.slice a1 n1 c1, .slice a2 n2 c2] 24)).alloc (.cells #[.slice a3 n3 c3, .slice a4 n4 c4] 24) := ⟨_, rfl⟩
  have Z : Hid (Holds W1 (w.heap.size) 24 #[.slice a1 n1 c1, .slice a2 n2 c2]) := Lib.hid (by rw [hW1]; exact (Holds.new w _ _).alloc _)
  have V : Hid (Holds W1 (w.heap.size + 1) 24 #[.slice a3 n3 c3, .slice a4 n4 c4]) := Lib.hid (by rw [hW1]; have := Holds.new (w.alloc (.cells #[.slice a1 n1 c1, .slice a2 n2 c2] 24)) 24 #[.slice a3 n3 c3, .slice a4 n4 c4]; simpa using this)
  have BL := Lib.hid (show Below w.heap.size w W1 by rw [hW1]; exact box2_below _ _ _ _ _)
  have A := Lib.hid (h.below BL.out)
  have A2 := Lib.hid (g.below BL.out)
  have T := Lib.hid (ht.below BL.out)
  have hW1' := Lib.hid hW1
  clear hW1
  have hm1 := h.p.max
  have hm2 := h.s.max
  have hm3 := g.p.max
  have hm4 := g.s.max
  clear h g ht
  go_enter Tryd.func3, Tryd.ntmps3
  have k1 := Z.out.cell 0
  have k2 := Z.out.cell 1
  have k3 := V.out.cell 0
  have k4 := V.out.cell 1
  have q := Lib.hid (by have q := wlarge_any a1 a2 n1 c1 n2 c2 hm1 hm2 W1; rwa [hlg'.out] at q)
  go_wp2_with fail
  rw [← hW1'.out]
  with_reducible refine q.out.mono ?_
  rintro e u1 ⟨rfl, b1⟩
  clear k1 k2 k3 k4
  clear hW1'
  clear q
  replace Z := Lib.hid (Z.out.below b1 Z.out.lt)
  replace V := Lib.hid (V.out.below b1 V.out.lt)
  replace BL := Lib.hid (BL.out.trans (b1.mono BL.out.size))
  replace A := Lib.hid (A.out.below b1)
  replace A2 := Lib.hid (A2.out.below b1)
  replace T := Lib.hid (T.out.below b1)
  clear b1
  have q := Lib.hid (wlives_any u1 T.out)
  go_wp2_with fail
  with_reducible refine q.out.mono ?_
  rintro e u2 ⟨rfl, b2⟩
  clear q
  replace Z := Lib.hid (Z.out.below b2 Z.out.lt)
  replace V := Lib.hid (V.out.below b2 V.out.lt)
  replace BL := Lib.hid (BL.out.trans (b2.mono BL.out.size))
  replace A := Lib.hid (A.out.below b2)
  replace A2 := Lib.hid (A2.out.below b2)
  replace T := Lib.hid (T.out.below b2)
  clear b2
  go_wp2
  go_ret
  exact ⟨rfl, BL.out⟩
set_option maxRecDepth 100000 in
set_option maxHeartbeats 8000000 in
theorem wchecks_large2 (a1 a2 a3 a4 : Option Addr) (n1 c1 n2 c2 n3 c3 n4 c4 : Nat) (P S P2 S2 : List Int) (hd p : Int) (w : World) (ht : Tab w) (h : WA w a1 n1 c1 P a2 n2 c2 S) (g : WA w a3 n3 c3 P2 a4 n4 c4 S2) (hlg : (decide (200 < n1) || decide (200 < n2)) = false) (hlh : (decide (200 < n3) || decide (200 < n4)) = true) : Calls Tryd.prog 3 #[.agg #[.slice a1 n1 c1, .slice a2 n2 c2], .agg #[.slice a3 n3 c3, .slice a4 n4 c4], .int .i64 hd, .int .i64 p] w (Gives (.bool true) w) := by
  have hlg' := Lib.hid hlg
  have hlh' := Lib.hid hlh
  clear hlg hlh
  obtain ⟨W1, hW1⟩ : ∃ W1, W1 = (w.alloc (.cells #[.slice a1 n1 c1, .slice a2 n2 c2] 24)).alloc (.cells #[.slice a3 n3 c3, .slice a4 n4 c4] 24) := ⟨_, rfl⟩
  have Z : Hid (Holds W1 (w.heap.size) 24 #[.slice a1 n1 c1, .slice a2 n2 c2]) := Lib.hid (by rw [hW1]; exact (Holds.new w _ _).alloc _)
  have V : Hid (Holds W1 (w.heap.size + 1) 24 #[.slice a3 n3 c3, .slice a4 n4 c4]) := Lib.hid (by rw [hW1]; have := Holds.new (w.alloc (.cells #[.slice a1 n1 c1, .slice a2 n2 c2] 24)) 24 #[.slice a3 n3 c3, .slice a4 n4 c4]; simpa using this)
  have BL := Lib.hid (show Below w.heap.size w W1 by rw [hW1]; exact box2_below _ _ _ _ _)
  have A := Lib.hid (h.below BL.out)
  have A2 := Lib.hid (g.below BL.out)
  have T := Lib.hid (ht.below BL.out)
  have hW1' := Lib.hid hW1
  clear hW1
  have hm1 := h.p.max
  have hm2 := h.s.max
  have hm3 := g.p.max
  have hm4 := g.s.max
  clear h g ht
  go_enter Tryd.func3, Tryd.ntmps3
  have k1 := Z.out.cell 0
  have k2 := Z.out.cell 1
  have k3 := V.out.cell 0
  have k4 := V.out.cell 1
  have q := Lib.hid (by have q := wlarge_any a1 a2 n1 c1 n2 c2 hm1 hm2 W1; rwa [hlg'.out] at q)
  go_wp2_with fail
  rw [← hW1'.out]
  with_reducible refine q.out.mono ?_
  rintro e u1 ⟨rfl, b1⟩
  clear k1 k2 k3 k4
  clear hW1'
  clear q
  have k5 : u1.cell? ⟨w.heap.size + 1, 0, none⟩ = some (.slice a3 n3 c3) := (V.out.below b1 V.out.lt).cell 0
  have k6 : u1.cell? ⟨w.heap.size + 1, 1, none⟩ = some (.slice a4 n4 c4) := (V.out.below b1 V.out.lt).cell 1
  replace Z := Lib.hid (Z.out.below b1 Z.out.lt)
  replace V := Lib.hid (V.out.below b1 V.out.lt)
  replace BL := Lib.hid (BL.out.trans (b1.mono BL.out.size))
  replace A := Lib.hid (A.out.below b1)
  replace A2 := Lib.hid (A2.out.below b1)
  replace T := Lib.hid (T.out.below b1)
  clear b1
  have q := Lib.hid (by have q := wlarge_any a3 a4 n3 c3 n4 c4 hm3 hm4 u1; rwa [hlh'.out] at q)
  go_wp2_with fail
  with_reducible refine q.out.mono ?_
  rintro e u2 ⟨rfl, b2⟩
  clear k5 k6
  clear q
  replace Z := Lib.hid (Z.out.below b2 Z.out.lt)
  replace V := Lib.hid (V.out.below b2 V.out.lt)
  replace BL := Lib.hid (BL.out.trans (b2.mono BL.out.size))
  replace A := Lib.hid (A.out.below b2)
  replace A2 := Lib.hid (A2.out.below b2)
  replace T := Lib.hid (T.out.below b2)
  clear b2
  have q := Lib.hid (wlives_any u2 T.out)
  go_wp2_with fail
  with_reducible refine q.out.mono ?_
  rintro e u3 ⟨rfl, b3⟩
  clear q
  replace Z := Lib.hid (Z.out.below b3 Z.out.lt)
  replace V := Lib.hid (V.out.below b3 V.out.lt)
  replace BL := Lib.hid (BL.out.trans (b3.mono BL.out.size))
  replace A := Lib.hid (A.out.below b3)
  replace A2 := Lib.hid (A2.out.below b3)
  replace T := Lib.hid (T.out.below b3)
  clear b3
  go_wp2
  go_ret
  exact ⟨rfl, BL.out⟩
set_option maxRecDepth 100000 in
set_option maxHeartbeats 8000000 in
theorem wchecks_ok (a1 a2 a3 a4 : Option Addr) (n1 c1 n2 c2 n3 c3 n4 c4 : Nat) (P S P2 S2 : List Int) (hd p : Int) (w : World) (ht : Tab w) (h : WA w a1 n1 c1 P a2 n2 c2 S) (g : WA w a3 n3 c3 P2 a4 n4 c4 S2) (hlg : (decide (200 < n1) || decide (200 < n2)) = false) (hlh : (decide (200 < n3) || decide (200 < n4)) = false) : Calls Tryd.prog 3 #[.agg #[.slice a1 n1 c1, .slice a2 n2 c2], .agg #[.slice a3 n3 c3, .slice a4 n4 c4], .int .i64 hd, .int .i64 p] w (Gives (.bool true) w) := by
  have hlg' := Lib.hid hlg
  have hlh' := Lib.hid hlh
  clear hlg hlh
  have QP := Lib.hid (fun W hA => place_any a1 a2 n1 c1 n2 c2 P S p W hA)
  have QRP := Lib.hid (fun W hA => rplace_any a1 a2 n1 c1 n2 c2 P S p W hA)
  have QH := Lib.hid (fun W hA => heads_any a1 a2 n1 c1 n2 c2 P S p W hA)
  have QRH := Lib.hid (fun W hA => rhd_any a1 a2 n1 c1 n2 c2 P S p W hA)
  have QI := Lib.hid (fun W hA => in_any a1 a2 n1 c1 n2 c2 P S hd p W hA)
  have QD := Lib.hid (fun W hA => depth_any a1 a2 n1 c1 n2 c2 P S W hA)
  have QRD := Lib.hid (fun W hA => rdepth_any a1 a2 n1 c1 n2 c2 P S W hA)
  have QK := Lib.hid (fun W hA => check_any a1 a2 n1 c1 n2 c2 P S W hA)
  have QRK := Lib.hid (fun W hA => rcheck_any a1 a2 n1 c1 n2 c2 P S W hA)
  have QS := Lib.hid (fun W hA hB => wsame_any a1 a2 a3 a4 P S P2 S2 n1 n2 n3 n4 c1 c2 c3 c4 W hA hB)
  have QRS := Lib.hid (fun W hA hB => wrsame_any a1 a2 a3 a4 P S P2 S2 n1 n2 n3 n4 c1 c2 c3 c4 W hA hB)
  generalize headsW P S p = L at *
  generalize depthW P S = D at *
  generalize chkW P S = x at *
  generalize sameW P S P2 S2 = bs at *
  generalize placeN P S p = pn at *
  generalize placeB P S p = pb at *
  obtain ⟨W1, hW1⟩ : ∃ W1, W1 = (w.alloc (.cells #[.slice a1 n1 c1, .slice a2 n2 c2] 24)).alloc (.cells #[.slice a3 n3 c3, .slice a4 n4 c4] 24) := ⟨_, rfl⟩
  have Z : Hid (Holds W1 (w.heap.size) 24 #[.slice a1 n1 c1, .slice a2 n2 c2]) := Lib.hid (by rw [hW1]; exact (Holds.new w _ _).alloc _)
  have V : Hid (Holds W1 (w.heap.size + 1) 24 #[.slice a3 n3 c3, .slice a4 n4 c4]) := Lib.hid (by rw [hW1]; have := Holds.new (w.alloc (.cells #[.slice a1 n1 c1, .slice a2 n2 c2] 24)) 24 #[.slice a3 n3 c3, .slice a4 n4 c4]; simpa using this)
  have BL := Lib.hid (show Below w.heap.size w W1 by rw [hW1]; exact box2_below _ _ _ _ _)
  have A := Lib.hid (h.below BL.out)
  have A2 := Lib.hid (g.below BL.out)
  have T := Lib.hid (ht.below BL.out)
  have hW1' := Lib.hid hW1
  clear hW1
  have hm1 := h.p.max
  have hm2 := h.s.max
  have hm3 := g.p.max
  have hm4 := g.s.max
  clear h g ht
  go_enter Tryd.func3, Tryd.ntmps3
  have k1 := Z.out.cell 0
  have k2 := Z.out.cell 1
  have k3 := V.out.cell 0
  have k4 := V.out.cell 1
  have q := Lib.hid (by have q := wlarge_any a1 a2 n1 c1 n2 c2 hm1 hm2 W1; rwa [hlg'.out] at q)
  go_wp2_with fail
  rw [← hW1'.out]
  with_reducible refine q.out.mono ?_
  rintro e u1 ⟨rfl, b1⟩
  clear k1 k2 k3 k4
  clear hW1'
  clear q
  have k5 : u1.cell? ⟨w.heap.size + 1, 0, none⟩ = some (.slice a3 n3 c3) := (V.out.below b1 V.out.lt).cell 0
  have k6 : u1.cell? ⟨w.heap.size + 1, 1, none⟩ = some (.slice a4 n4 c4) := (V.out.below b1 V.out.lt).cell 1
  replace Z := Lib.hid (Z.out.below b1 Z.out.lt)
  replace V := Lib.hid (V.out.below b1 V.out.lt)
  replace BL := Lib.hid (BL.out.trans (b1.mono BL.out.size))
  replace A := Lib.hid (A.out.below b1)
  replace A2 := Lib.hid (A2.out.below b1)
  replace T := Lib.hid (T.out.below b1)
  clear b1
  have q := Lib.hid (by have q := wlarge_any a3 a4 n3 c3 n4 c4 hm3 hm4 u1; rwa [hlh'.out] at q)
  go_wp2_with fail
  with_reducible refine q.out.mono ?_
  rintro e u2 ⟨rfl, b2⟩
  clear k5 k6
  clear q
  have k7 : u2.cell? ⟨w.heap.size, 0, none⟩ = some (.slice a1 n1 c1) := (Z.out.below b2 Z.out.lt).cell 0
  have k8 : u2.cell? ⟨w.heap.size, 1, none⟩ = some (.slice a2 n2 c2) := (Z.out.below b2 Z.out.lt).cell 1
  replace Z := Lib.hid (Z.out.below b2 Z.out.lt)
  replace V := Lib.hid (V.out.below b2 V.out.lt)
  replace BL := Lib.hid (BL.out.trans (b2.mono BL.out.size))
  replace A := Lib.hid (A.out.below b2)
  replace A2 := Lib.hid (A2.out.below b2)
  replace T := Lib.hid (T.out.below b2)
  clear b2
  have q := Lib.hid (QP.out u2 A.out)
  go_wp2_with fail
  with_reducible refine q.out.mono ?_
  rintro e u3 ⟨rfl, b3⟩
  clear k7 k8
  clear q QP
  have k9 : u3.cell? ⟨w.heap.size, 0, none⟩ = some (.slice a1 n1 c1) := (Z.out.below b3 Z.out.lt).cell 0
  have k10 : u3.cell? ⟨w.heap.size, 1, none⟩ = some (.slice a2 n2 c2) := (Z.out.below b3 Z.out.lt).cell 1
  replace Z := Lib.hid (Z.out.below b3 Z.out.lt)
  replace V := Lib.hid (V.out.below b3 V.out.lt)
  replace BL := Lib.hid (BL.out.trans (b3.mono BL.out.size))
  replace A := Lib.hid (A.out.below b3)
  replace A2 := Lib.hid (A2.out.below b3)
  replace T := Lib.hid (T.out.below b3)
  clear b3
  have q := Lib.hid (QRP.out u3 A.out)
  go_wp2_with fail
  with_reducible refine q.out.mono ?_
  rintro e u4 ⟨rfl, b4⟩
  clear k9 k10
  clear q QRP
  have k11 : u4.cell? ⟨w.heap.size, 0, none⟩ = some (.slice a1 n1 c1) := (Z.out.below b4 Z.out.lt).cell 0
  have k12 : u4.cell? ⟨w.heap.size, 1, none⟩ = some (.slice a2 n2 c2) := (Z.out.below b4 Z.out.lt).cell 1
  replace Z := Lib.hid (Z.out.below b4 Z.out.lt)
  replace V := Lib.hid (V.out.below b4 V.out.lt)
  replace BL := Lib.hid (BL.out.trans (b4.mono BL.out.size))
  replace A := Lib.hid (A.out.below b4)
  replace A2 := Lib.hid (A2.out.below b4)
  replace T := Lib.hid (T.out.below b4)
  clear b4
  have q := Lib.hid (QRH.out u4 A.out)
  go_wp2_with fail
  with_reducible refine q.out.mono ?_
  rintro e u5 ⟨aL, nL, cL, rfl, sL, b5⟩
  clear k11 k12
  clear q QRH
  replace Z := Lib.hid (Z.out.below b5 Z.out.lt)
  replace V := Lib.hid (V.out.below b5 V.out.lt)
  replace BL := Lib.hid (BL.out.trans (b5.mono BL.out.size))
  replace A := Lib.hid (A.out.below b5)
  replace A2 := Lib.hid (A2.out.below b5)
  replace T := Lib.hid (T.out.below b5)
  have SLL := Lib.hid (sL)
  clear b5 sL
  have hlen := Lib.hid SLL.out.len
  have hmx : (nL : Int) ≤ 9223372036854775807 := by have := SLL.out.max; omega
  go_wp2
  go_loopw [14, 15] (fun y x wr => ∃ (k : Nat) (d : Bool), k ≤ nL ∧ y = .bool d ∧ x = .int .i64 k ∧ Hid (d = decide (hd ∈ L.take k)) ∧ wr = u5) (fun _ x _ => nL - (intOf x).toNat)
  case atStart => exact ⟨0, false, by omega, rfl, rfl, Lib.hid (by simp), rfl⟩
  case round =>
    obtain ⟨k, d, hk, rfl, rfl, hd', rfl⟩ := hrel
    by_cases hlt : k < nL
    · have hkl : k < L.length := by rw [← hlen.out]; exact hlt
      have hki : (k : Int) < (nL : Int) := by omega
      have hnx := Lib.hid (wmem_next (hd := hd) hkl)
      obtain ⟨b, o, rfl, blt, e1⟩ := sees_num SLL.out.sees hkl
      cases d
      · by_cases hx : L.getD k 0 = hd
        · rw [hx] at e1
          have hn : Hid (true = decide (hd ∈ L.take (k + 1))) := Lib.hid (decide_eq_true (hnx.out.2 (.inr hx))).symm
          clear hnx hd' hx
          go_wp2
          go_roundw
          case rel => exact ⟨k + 1, true, by omega, rfl, by go_num, hn, trivial⟩
          case measure => simp [intOf]; omega
        · have hn : Hid (false = decide (hd ∈ L.take (k + 1))) := Lib.hid (decide_eq_false (fun h => by
            rcases hnx.out.1 h with h | h
            · exact of_decide_eq_false hd'.out.symm h
            · exact hx h)).symm
          generalize L.getD k 0 = y at *
          have hx1 : (y == hd) = false := by simpa using hx
          have hx2 : decide (y = hd) = false := decide_eq_false hx
          clear hnx hd'
          go_wp2
          go_roundw
          case rel => exact ⟨k + 1, false, by omega, rfl, by go_num, hn, trivial⟩
          case measure => simp [intOf]; omega
      · have hn : Hid (true = decide (hd ∈ L.take (k + 1))) := Lib.hid (decide_eq_true (hnx.out.2 (.inl (of_decide_eq_true hd'.out.symm)))).symm
        clear hnx hd' e1
        go_wp2
        go_roundw
        case rel => exact ⟨k + 1, true, by omega, rfl, by go_num, hn, trivial⟩
        case measure => simp [intOf]; omega
    · have hdd : d = decide (hd ∈ L) := by
        rw [hd'.out, List.take_of_length_le (by have := hlen.out; omega)]
      have qi := Lib.hid (fun W hA => by have q := QI.out W hA; rw [← hdd] at q; exact q)
      clear hdd hd' QI
      have k201 : ∀ W, Below wr.heap.size wr W → W.cell? ⟨w.heap.size, 0, none⟩ = some (.slice a1 n1 c1) := fun W hW => (Z.out.below hW Z.out.lt).cell 0
      have k202 : ∀ W, Below wr.heap.size wr W → W.cell? ⟨w.heap.size, 1, none⟩ = some (.slice a2 n2 c2) := fun W hW => (Z.out.below hW Z.out.lt).cell 1
      have k203 : ∀ W, Below wr.heap.size wr W → W.cell? ⟨w.heap.size + 1, 0, none⟩ = some (.slice a3 n3 c3) := fun W hW => (V.out.below hW V.out.lt).cell 0
      have k204 : ∀ W, Below wr.heap.size wr W → W.cell? ⟨w.heap.size + 1, 1, none⟩ = some (.slice a4 n4 c4) := fun W hW => (V.out.below hW V.out.lt).cell 1
      have qa := Lib.hid (fun W (hW : Below wr.heap.size wr W) => A.out.below hW)
      have qb := Lib.hid (fun W (hW : Below wr.heap.size wr W) => A2.out.below hW)
      have qt := Lib.hid (fun W (hW : Below wr.heap.size wr W) => T.out.below hW)
      have ql := Lib.hid (fun W (hW : Below wr.heap.size wr W) => SLL.out.below hW)
      have qe := Lib.hid (fun W (hW : Below wr.heap.size wr W) => BL.out.trans (hW.mono BL.out.size))
      have qn := Lib.hid (fun a n c W (h1 : SL W a n c L) (h2 : SL W aL nL cL L) => by have q := wints_any a aL L L n nL c cL W h1 h2; rw [show decide (L = L) = true by simp] at q; exact q)
      go_upto_region 11 with fail
      refine wp_drawn_on (fun W => Below wr.heap.size wr W) (by kernel_rfl) ((Below.refl _ _).drew) (fun hHeld => ?_)
      refine wpAnyH_ready (rs := [0]) (by kernel_rfl) (by simp) ?_
      refine AllReadyH.cons (o := { dst := some 53, op := Go.Op.call { callee := Go.Callee.value (Go.Operand.func 7), args := #[], argTypes := #[] }, type := 4, pos := "law.go:37", after := #[], guard := none }) rfl (fun K hK => ?_) AllReadyH.nil
      go_simp
      with_reducible refine (wlives_any _ (qt.out _ hHeld)).mono ?_
      rintro e t0 ⟨rfl, b0⟩
      go_simp
      refine hK.out _ _ (hHeld.trans (b0.mono hHeld.size)) (fun hHeld => ?_)
      clear hK K
      try simp only [Act.put, List.setIfInBounds_toArray, List.set_cons_zero, List.set_cons_succ]
      refine wpAnyH_take (i := 1) (oi := { dst := some 54, op := Go.Op.move (Go.Operand.tmp 53), type := 4, pos := "law.go:37", after := #[{ on := 0, ground := Go.Ground.data }, { on := 0, ground := Go.Ground.chain }], guard := none }) (v := ?v1) rfl (by kernel_rfl) (by kernel_rfl) (by kernel_rfl) (fun _ _ _ h => h) (Or.inl ⟨by kernel_rfl, ?h1⟩) (by assumption) ?r1
      case h1 => (intro w hSw; (try dsimp only at hSw); go_simp; try with_reducible rfl)
      try simp only [Act.put, List.setIfInBounds_toArray, List.set_cons_zero, List.set_cons_succ]
      refine wpAnyH_take (i := 2) (oi := { dst := some 55, op := Go.Op.load 24 (Go.Operand.tmp 4), type := 24, pos := "law.go:37", after := #[{ on := 1, ground := Go.Ground.guard }], guard := some (1, true) }) (v := ?v2) rfl (by kernel_rfl) (by kernel_rfl) (by kernel_rfl) (fun _ _ _ h => h) (Or.inl ⟨by kernel_rfl, ?h2⟩) (by assumption) ?r2
      case h2 => (intro w hSw; (try dsimp only at hSw); go_simp; try with_reducible rfl)
      try simp only [Act.put, List.setIfInBounds_toArray, List.set_cons_zero, List.set_cons_succ]
      refine wpAnyH_take (i := 4) (oi := { dst := some 57, op := Go.Op.load 24 (Go.Operand.tmp 4), type := 24, pos := "law.go:37", after := #[{ on := 1, ground := Go.Ground.guard }], guard := some (1, true) }) (v := ?v3) rfl (by kernel_rfl) (by kernel_rfl) (by kernel_rfl) (fun _ _ _ h => h) (Or.inl ⟨by kernel_rfl, ?h3⟩) (by assumption) ?r3
      case h3 => (intro w hSw; (try dsimp only at hSw); go_simp; try with_reducible rfl)
      try simp only [Act.put, List.setIfInBounds_toArray, List.set_cons_zero, List.set_cons_succ]
      refine wpAnyH_ready (rs := [3]) (by kernel_rfl) (by simp) ?_
      refine AllReadyH.cons (o := { dst := some 56, op := Go.Op.call { callee := Go.Callee.value (Go.Operand.func 11), args := #[Go.Operand.tmp 55], argTypes := #[24] }, type := 30, pos := "law.go:37", after := #[{ on := 2, ground := Go.Ground.data }, { on := 1, ground := Go.Ground.chain }, { on := 1, ground := Go.Ground.guard }], guard := some (1, true) }) rfl (fun K hK => ?_) AllReadyH.nil
      go_simp
      with_reducible refine (QK.out _ (qa.out _ hHeld)).mono ?_
      rintro e t3 ⟨rfl, b3⟩
      go_simp
      refine hK.out _ _ (hHeld.trans (b3.mono hHeld.size)) (fun hHeld => ?_)
      clear hK K
      try simp only [Act.put, List.setIfInBounds_toArray, List.set_cons_zero, List.set_cons_succ]
      refine wpAnyH_ready (rs := [5]) (by kernel_rfl) (by simp) ?_
      refine AllReadyH.cons (o := { dst := some 58, op := Go.Op.call { callee := Go.Callee.value (Go.Operand.func 12), args := #[Go.Operand.tmp 57], argTypes := #[24] }, type := 30, pos := "law.go:37", after := #[{ on := 4, ground := Go.Ground.data }, { on := 3, ground := Go.Ground.chain }, { on := 1, ground := Go.Ground.guard }], guard := some (1, true) }) rfl (fun K hK => ?_) AllReadyH.nil
      go_simp
      with_reducible refine (QRK.out _ (qa.out _ hHeld)).mono ?_
      rintro e t5 ⟨rfl, b5⟩
      go_simp
      refine hK.out _ _ (hHeld.trans (b5.mono hHeld.size)) (fun hHeld => ?_)
      clear hK K
      try simp only [Act.put, List.setIfInBounds_toArray, List.set_cons_zero, List.set_cons_succ]
      refine wpAnyH_take (i := 6) (oi := { dst := some 59, op := Go.Op.binOp Go.BinOp.eql 30 (Go.Operand.tmp 56) (Go.Operand.tmp 58) 30, type := 4, pos := "law.go:37", after := #[{ on := 3, ground := Go.Ground.data }, { on := 5, ground := Go.Ground.data }, { on := 1, ground := Go.Ground.guard }], guard := some (1, true) }) (v := ?v4) rfl (by kernel_rfl) (by kernel_rfl) (by kernel_rfl) (fun _ _ _ h => h) (Or.inl ⟨by kernel_rfl, ?h4⟩) (by assumption) ?r4
      case h4 => (intro w hSw; (try dsimp only at hSw); go_simp; try with_reducible rfl)
      try simp only [Act.put, List.setIfInBounds_toArray, List.set_cons_zero, List.set_cons_succ]
      refine wpAnyH_take (i := 7) (oi := { dst := some 60, op := Go.Op.pick (Go.Operand.tmp 54) (Go.Operand.tmp 59) (Go.Operand.const (Go.Value.bool false)), type := 4, pos := "law.go:37", after := #[{ on := 1, ground := Go.Ground.data }, { on := 6, ground := Go.Ground.data }], guard := none }) (v := ?v5) rfl (by kernel_rfl) (by kernel_rfl) (by kernel_rfl) (fun _ _ _ h => h) (Or.inl ⟨by kernel_rfl, ?h5⟩) (by assumption) ?r5
      case h5 => (intro w hSw; (try dsimp only at hSw); go_simp; try with_reducible rfl)
      try simp only [Act.put, List.setIfInBounds_toArray, List.set_cons_zero, List.set_cons_succ]
      refine wpAnyH_take (i := 8) (oi := { dst := some 61, op := Go.Op.move (Go.Operand.tmp 60), type := 4, pos := "law.go:37", after := #[{ on := 7, ground := Go.Ground.data }, { on := 5, ground := Go.Ground.chain }], guard := none }) (v := ?v6) rfl (by kernel_rfl) (by kernel_rfl) (by kernel_rfl) (fun _ _ _ h => h) (Or.inl ⟨by kernel_rfl, ?h6⟩) (by assumption) ?r6
      case h6 => (intro w hSw; (try dsimp only at hSw); go_simp; try with_reducible rfl)
      try simp only [Act.put, List.setIfInBounds_toArray, List.set_cons_zero, List.set_cons_succ]
      refine wpAnyH_take (i := 9) (oi := { dst := some 62, op := Go.Op.move (Go.Operand.tmp 9), type := 3, pos := "law.go:37", after := #[{ on := 8, ground := Go.Ground.guard }], guard := some (8, true) }) (v := ?v7) rfl (by kernel_rfl) (by kernel_rfl) (by kernel_rfl) (fun _ _ _ h => h) (Or.inl ⟨by kernel_rfl, ?h7⟩) (by assumption) ?r7
      case h7 => (intro w hSw; (try dsimp only at hSw); go_simp; try with_reducible rfl)
      try simp only [Act.put, List.setIfInBounds_toArray, List.set_cons_zero, List.set_cons_succ]
      refine wpAnyH_take (i := 10) (oi := { dst := some 63, op := Go.Op.move (Go.Operand.tmp 11), type := 3, pos := "law.go:37", after := #[{ on := 8, ground := Go.Ground.guard }], guard := some (8, true) }) (v := ?v8) rfl (by kernel_rfl) (by kernel_rfl) (by kernel_rfl) (fun _ _ _ h => h) (Or.inl ⟨by kernel_rfl, ?h8⟩) (by assumption) ?r8
      case h8 => (intro w hSw; (try dsimp only at hSw); go_simp; try with_reducible rfl)
      try simp only [Act.put, List.setIfInBounds_toArray, List.set_cons_zero, List.set_cons_succ]
      refine wpAnyH_take (i := 11) (oi := { dst := some 64, op := Go.Op.binOp Go.BinOp.eql 3 (Go.Operand.tmp 62) (Go.Operand.tmp 63) 3, type := 4, pos := "law.go:37", after := #[{ on := 9, ground := Go.Ground.data }, { on := 10, ground := Go.Ground.data }, { on := 8, ground := Go.Ground.guard }], guard := some (8, true) }) (v := ?v9) rfl (by kernel_rfl) (by kernel_rfl) (by kernel_rfl) (fun _ _ _ h => h) (Or.inl ⟨by kernel_rfl, ?h9⟩) (by assumption) ?r9
      case h9 => (intro w hSw; (try dsimp only at hSw); go_simp; try with_reducible rfl)
      try simp only [Act.put, List.setIfInBounds_toArray, List.set_cons_zero, List.set_cons_succ]
      refine wpAnyH_take (i := 12) (oi := { dst := some 65, op := Go.Op.pick (Go.Operand.tmp 61) (Go.Operand.tmp 64) (Go.Operand.const (Go.Value.bool false)), type := 4, pos := "law.go:37", after := #[{ on := 8, ground := Go.Ground.data }, { on := 11, ground := Go.Ground.data }], guard := none }) (v := ?v10) rfl (by kernel_rfl) (by kernel_rfl) (by kernel_rfl) (fun _ _ _ h => h) (Or.inl ⟨by kernel_rfl, ?h10⟩) (by assumption) ?r10
      case h10 => (intro w hSw; (try dsimp only at hSw); go_simp; try with_reducible rfl)
      try simp only [Act.put, List.setIfInBounds_toArray, List.set_cons_zero, List.set_cons_succ]
      refine wpAnyH_take (i := 13) (oi := { dst := some 66, op := Go.Op.move (Go.Operand.tmp 65), type := 4, pos := "law.go:37", after := #[{ on := 12, ground := Go.Ground.data }, { on := 8, ground := Go.Ground.chain }], guard := none }) (v := ?v11) rfl (by kernel_rfl) (by kernel_rfl) (by kernel_rfl) (fun _ _ _ h => h) (Or.inl ⟨by kernel_rfl, ?h11⟩) (by assumption) ?r11
      case h11 => (intro w hSw; (try dsimp only at hSw); go_simp; try with_reducible rfl)
      try simp only [Act.put, List.setIfInBounds_toArray, List.set_cons_zero, List.set_cons_succ]
      refine wpAnyH_take (i := 14) (oi := { dst := some 67, op := Go.Op.move (Go.Operand.tmp 10), type := 4, pos := "law.go:37", after := #[{ on := 13, ground := Go.Ground.guard }], guard := some (13, true) }) (v := ?v12) rfl (by kernel_rfl) (by kernel_rfl) (by kernel_rfl) (fun _ _ _ h => h) (Or.inl ⟨by kernel_rfl, ?h12⟩) (by assumption) ?r12
      case h12 => (intro w hSw; (try dsimp only at hSw); go_simp; try with_reducible rfl)
      try simp only [Act.put, List.setIfInBounds_toArray, List.set_cons_zero, List.set_cons_succ]
      refine wpAnyH_take (i := 15) (oi := { dst := some 68, op := Go.Op.move (Go.Operand.tmp 12), type := 4, pos := "law.go:37", after := #[{ on := 13, ground := Go.Ground.guard }], guard := some (13, true) }) (v := ?v13) rfl (by kernel_rfl) (by kernel_rfl) (by kernel_rfl) (fun _ _ _ h => h) (Or.inl ⟨by kernel_rfl, ?h13⟩) (by assumption) ?r13
      case h13 => (intro w hSw; (try dsimp only at hSw); go_simp; try with_reducible rfl)
      try simp only [Act.put, List.setIfInBounds_toArray, List.set_cons_zero, List.set_cons_succ]
      refine wpAnyH_take (i := 16) (oi := { dst := some 69, op := Go.Op.binOp Go.BinOp.eql 4 (Go.Operand.tmp 67) (Go.Operand.tmp 68) 4, type := 4, pos := "law.go:37", after := #[{ on := 14, ground := Go.Ground.data }, { on := 15, ground := Go.Ground.data }, { on := 13, ground := Go.Ground.guard }], guard := some (13, true) }) (v := ?v14) rfl (by kernel_rfl) (by kernel_rfl) (by kernel_rfl) (fun _ _ _ h => h) (Or.inl ⟨by kernel_rfl, ?h14⟩) (by assumption) ?r14
      case h14 => (intro w hSw; (try dsimp only at hSw); go_simp; try with_reducible rfl)
      try simp only [Act.put, List.setIfInBounds_toArray, List.set_cons_zero, List.set_cons_succ]
      refine wpAnyH_take (i := 17) (oi := { dst := some 70, op := Go.Op.pick (Go.Operand.tmp 66) (Go.Operand.tmp 69) (Go.Operand.const (Go.Value.bool false)), type := 4, pos := "law.go:37", after := #[{ on := 13, ground := Go.Ground.data }, { on := 16, ground := Go.Ground.data }], guard := none }) (v := ?v15) rfl (by kernel_rfl) (by kernel_rfl) (by kernel_rfl) (fun _ _ _ h => h) (Or.inl ⟨by kernel_rfl, ?h15⟩) (by assumption) ?r15
      case h15 => (intro w hSw; (try dsimp only at hSw); go_simp; try with_reducible rfl)
      try simp only [Act.put, List.setIfInBounds_toArray, List.set_cons_zero, List.set_cons_succ]
      refine wpAnyH_take (i := 18) (oi := { dst := some 71, op := Go.Op.move (Go.Operand.tmp 70), type := 4, pos := "law.go:37", after := #[{ on := 17, ground := Go.Ground.data }, { on := 13, ground := Go.Ground.chain }], guard := none }) (v := ?v16) rfl (by kernel_rfl) (by kernel_rfl) (by kernel_rfl) (fun _ _ _ h => h) (Or.inl ⟨by kernel_rfl, ?h16⟩) (by assumption) ?r16
      case h16 => (intro w hSw; (try dsimp only at hSw); go_simp; try with_reducible rfl)
      try simp only [Act.put, List.setIfInBounds_toArray, List.set_cons_zero, List.set_cons_succ]
      refine wpAnyH_take (i := 19) (oi := { dst := some 72, op := Go.Op.load 24 (Go.Operand.tmp 4), type := 24, pos := "law.go:37", after := #[{ on := 18, ground := Go.Ground.guard }], guard := some (18, true) }) (v := ?v17) rfl (by kernel_rfl) (by kernel_rfl) (by kernel_rfl) (fun _ _ _ h => h) (Or.inl ⟨by kernel_rfl, ?h17⟩) (by assumption) ?r17
      case h17 => (intro w hSw; (try dsimp only at hSw); go_simp; try with_reducible rfl)
      try simp only [Act.put, List.setIfInBounds_toArray, List.set_cons_zero, List.set_cons_succ]
      refine wpAnyH_take (i := 20) (oi := { dst := some 73, op := Go.Op.move (Go.Operand.tmp 3), type := 3, pos := "law.go:37", after := #[{ on := 18, ground := Go.Ground.guard }], guard := some (18, true) }) (v := ?v18) rfl (by kernel_rfl) (by kernel_rfl) (by kernel_rfl) (fun _ _ _ h => h) (Or.inl ⟨by kernel_rfl, ?h18⟩) (by assumption) ?r18
      case h18 => (intro w hSw; (try dsimp only at hSw); go_simp; try with_reducible rfl)
      try simp only [Act.put, List.setIfInBounds_toArray, List.set_cons_zero, List.set_cons_succ]
      refine wpAnyH_take (i := 22) (oi := { dst := some 75, op := Go.Op.move (Go.Operand.tmp 13), type := 22, pos := "law.go:37", after := #[{ on := 18, ground := Go.Ground.guard }], guard := some (18, true) }) (v := ?v19) rfl (by kernel_rfl) (by kernel_rfl) (by kernel_rfl) (fun _ _ _ h => h) (Or.inl ⟨by kernel_rfl, ?h19⟩) (by assumption) ?r19
      case h19 => (intro w hSw; (try dsimp only at hSw); go_simp; try with_reducible rfl)
      try simp only [Act.put, List.setIfInBounds_toArray, List.set_cons_zero, List.set_cons_succ]
      refine wpAnyH_ready (rs := [21]) (by kernel_rfl) (by simp) ?_
      refine AllReadyH.cons (o := { dst := some 74, op := Go.Op.call { callee := Go.Callee.value (Go.Operand.func 14), args := #[Go.Operand.tmp 72, Go.Operand.tmp 73], argTypes := #[24, 3] }, type := 22, pos := "law.go:37", after := #[{ on := 19, ground := Go.Ground.data }, { on := 20, ground := Go.Ground.data }, { on := 18, ground := Go.Ground.chain }, { on := 18, ground := Go.Ground.guard }], guard := some (18, true) }) rfl (fun K hK => ?_) AllReadyH.nil
      go_simp
      with_reducible refine (QH.out _ (qa.out _ hHeld)).mono ?_
      rintro e t21 ⟨aM, nM, cM, rfl, sM, b21⟩
      go_simp
      refine hK.out _ _ (hHeld.trans (b21.mono hHeld.size)) (fun hHeld => ?_)
      clear hK K
      try simp only [Act.put, List.setIfInBounds_toArray, List.set_cons_zero, List.set_cons_succ]
      refine wpAnyH_ready (rs := [23]) (by kernel_rfl) (by simp) ?_
      refine AllReadyH.cons (o := { dst := some 76, op := Go.Op.call { callee := Go.Callee.value (Go.Operand.func 13), args := #[Go.Operand.tmp 74, Go.Operand.tmp 75], argTypes := #[22, 22] }, type := 4, pos := "law.go:37", after := #[{ on := 21, ground := Go.Ground.data }, { on := 22, ground := Go.Ground.data }, { on := 21, ground := Go.Ground.chain }, { on := 18, ground := Go.Ground.guard }], guard := some (18, true) }) rfl (fun K hK => ?_) AllReadyH.nil
      go_simp
      with_reducible refine (qn.out aM nM cM _ sM (ql.out _ hHeld)).mono ?_
      rintro e t23 ⟨rfl, b23⟩
      go_simp
      refine hK.out _ _ (hHeld.trans (b23.mono hHeld.size)) (fun hHeld => ?_)
      clear hK K
      try simp only [Act.put, List.setIfInBounds_toArray, List.set_cons_zero, List.set_cons_succ]
      refine wpAnyH_take (i := 24) (oi := { dst := some 77, op := Go.Op.pick (Go.Operand.tmp 71) (Go.Operand.tmp 76) (Go.Operand.const (Go.Value.bool false)), type := 4, pos := "law.go:37", after := #[{ on := 18, ground := Go.Ground.data }, { on := 23, ground := Go.Ground.data }], guard := none }) (v := ?v20) rfl (by kernel_rfl) (by kernel_rfl) (by kernel_rfl) (fun _ _ _ h => h) (Or.inl ⟨by kernel_rfl, ?h20⟩) (by assumption) ?r20
      case h20 => (intro w hSw; (try dsimp only at hSw); go_simp; try with_reducible rfl)
      try simp only [Act.put, List.setIfInBounds_toArray, List.set_cons_zero, List.set_cons_succ]
      refine wpAnyH_take (i := 25) (oi := { dst := some 78, op := Go.Op.move (Go.Operand.tmp 77), type := 4, pos := "law.go:37", after := #[{ on := 24, ground := Go.Ground.data }, { on := 23, ground := Go.Ground.chain }], guard := none }) (v := ?v21) rfl (by kernel_rfl) (by kernel_rfl) (by kernel_rfl) (fun _ _ _ h => h) (Or.inl ⟨by kernel_rfl, ?h21⟩) (by assumption) ?r21
      case h21 => (intro w hSw; (try dsimp only at hSw); go_simp; try with_reducible rfl)
      try simp only [Act.put, List.setIfInBounds_toArray, List.set_cons_zero, List.set_cons_succ]
      refine wpAnyH_take (i := 26) (oi := { dst := some 79, op := Go.Op.load 24 (Go.Operand.tmp 4), type := 24, pos := "law.go:37", after := #[{ on := 25, ground := Go.Ground.guard }], guard := some (25, true) }) (v := ?v22) rfl (by kernel_rfl) (by kernel_rfl) (by kernel_rfl) (fun _ _ _ h => h) (Or.inl ⟨by kernel_rfl, ?h22⟩) (by assumption) ?r22
      case h22 => (intro w hSw; (try dsimp only at hSw); go_simp; try with_reducible rfl)
      try simp only [Act.put, List.setIfInBounds_toArray, List.set_cons_zero, List.set_cons_succ]
      refine wpAnyH_take (i := 28) (oi := { dst := some 81, op := Go.Op.load 24 (Go.Operand.tmp 4), type := 24, pos := "law.go:37", after := #[{ on := 25, ground := Go.Ground.guard }], guard := some (25, true) }) (v := ?v23) rfl (by kernel_rfl) (by kernel_rfl) (by kernel_rfl) (fun _ _ _ h => h) (Or.inl ⟨by kernel_rfl, ?h23⟩) (by assumption) ?r23
      case h23 => (intro w hSw; (try dsimp only at hSw); go_simp; try with_reducible rfl)
      try simp only [Act.put, List.setIfInBounds_toArray, List.set_cons_zero, List.set_cons_succ]
      refine wpAnyH_ready (rs := [27]) (by kernel_rfl) (by simp) ?_
      refine AllReadyH.cons (o := { dst := some 80, op := Go.Op.call { callee := Go.Callee.value (Go.Operand.func 15), args := #[Go.Operand.tmp 79], argTypes := #[24] }, type := 3, pos := "law.go:37", after := #[{ on := 26, ground := Go.Ground.data }, { on := 25, ground := Go.Ground.chain }, { on := 25, ground := Go.Ground.guard }], guard := some (25, true) }) rfl (fun K hK => ?_) AllReadyH.nil
      go_simp
      with_reducible refine (QD.out _ (qa.out _ hHeld)).mono ?_
      rintro e t27 ⟨rfl, b27⟩
      go_simp
      refine hK.out _ _ (hHeld.trans (b27.mono hHeld.size)) (fun hHeld => ?_)
      clear hK K
      try simp only [Act.put, List.setIfInBounds_toArray, List.set_cons_zero, List.set_cons_succ]
      refine wpAnyH_ready (rs := [29]) (by kernel_rfl) (by simp) ?_
      refine AllReadyH.cons (o := { dst := some 82, op := Go.Op.call { callee := Go.Callee.value (Go.Operand.func 16), args := #[Go.Operand.tmp 81], argTypes := #[24] }, type := 3, pos := "law.go:37", after := #[{ on := 28, ground := Go.Ground.data }, { on := 27, ground := Go.Ground.chain }, { on := 25, ground := Go.Ground.guard }], guard := some (25, true) }) rfl (fun K hK => ?_) AllReadyH.nil
      go_simp
      with_reducible refine (QRD.out _ (qa.out _ hHeld)).mono ?_
      rintro e t29 ⟨rfl, b29⟩
      go_simp
      refine hK.out _ _ (hHeld.trans (b29.mono hHeld.size)) (fun hHeld => ?_)
      clear hK K
      try simp only [Act.put, List.setIfInBounds_toArray, List.set_cons_zero, List.set_cons_succ]
      refine wpAnyH_take (i := 30) (oi := { dst := some 83, op := Go.Op.binOp Go.BinOp.eql 3 (Go.Operand.tmp 80) (Go.Operand.tmp 82) 3, type := 4, pos := "law.go:37", after := #[{ on := 27, ground := Go.Ground.data }, { on := 29, ground := Go.Ground.data }, { on := 25, ground := Go.Ground.guard }], guard := some (25, true) }) (v := ?v24) rfl (by kernel_rfl) (by kernel_rfl) (by kernel_rfl) (fun _ _ _ h => h) (Or.inl ⟨by kernel_rfl, ?h24⟩) (by assumption) ?r24
      case h24 => (intro w hSw; (try dsimp only at hSw); go_simp; try with_reducible rfl)
      try simp only [Act.put, List.setIfInBounds_toArray, List.set_cons_zero, List.set_cons_succ]
      refine wpAnyH_take (i := 31) (oi := { dst := some 84, op := Go.Op.pick (Go.Operand.tmp 78) (Go.Operand.tmp 83) (Go.Operand.const (Go.Value.bool false)), type := 4, pos := "law.go:37", after := #[{ on := 25, ground := Go.Ground.data }, { on := 30, ground := Go.Ground.data }], guard := none }) (v := ?v25) rfl (by kernel_rfl) (by kernel_rfl) (by kernel_rfl) (fun _ _ _ h => h) (Or.inl ⟨by kernel_rfl, ?h25⟩) (by assumption) ?r25
      case h25 => (intro w hSw; (try dsimp only at hSw); go_simp; try with_reducible rfl)
      try simp only [Act.put, List.setIfInBounds_toArray, List.set_cons_zero, List.set_cons_succ]
      refine wpAnyH_take (i := 32) (oi := { dst := some 85, op := Go.Op.move (Go.Operand.tmp 84), type := 4, pos := "law.go:37", after := #[{ on := 31, ground := Go.Ground.data }, { on := 29, ground := Go.Ground.chain }], guard := none }) (v := ?v26) rfl (by kernel_rfl) (by kernel_rfl) (by kernel_rfl) (fun _ _ _ h => h) (Or.inl ⟨by kernel_rfl, ?h26⟩) (by assumption) ?r26
      case h26 => (intro w hSw; (try dsimp only at hSw); go_simp; try with_reducible rfl)
      try simp only [Act.put, List.setIfInBounds_toArray, List.set_cons_zero, List.set_cons_succ]
      refine wpAnyH_take (i := 33) (oi := { dst := some 86, op := Go.Op.load 24 (Go.Operand.tmp 4), type := 24, pos := "law.go:37", after := #[{ on := 32, ground := Go.Ground.guard }], guard := some (32, true) }) (v := ?v27) rfl (by kernel_rfl) (by kernel_rfl) (by kernel_rfl) (fun _ _ _ h => h) (Or.inl ⟨by kernel_rfl, ?h27⟩) (by assumption) ?r27
      case h27 => (intro w hSw; (try dsimp only at hSw); go_simp; try with_reducible rfl)
      try simp only [Act.put, List.setIfInBounds_toArray, List.set_cons_zero, List.set_cons_succ]
      refine wpAnyH_take (i := 34) (oi := { dst := some 87, op := Go.Op.move (Go.Operand.tmp 2), type := 3, pos := "law.go:37", after := #[{ on := 32, ground := Go.Ground.guard }], guard := some (32, true) }) (v := ?v28) rfl (by kernel_rfl) (by kernel_rfl) (by kernel_rfl) (fun _ _ _ h => h) (Or.inl ⟨by kernel_rfl, ?h28⟩) (by assumption) ?r28
      case h28 => (intro w hSw; (try dsimp only at hSw); go_simp; try with_reducible rfl)
      try simp only [Act.put, List.setIfInBounds_toArray, List.set_cons_zero, List.set_cons_succ]
      refine wpAnyH_take (i := 35) (oi := { dst := some 88, op := Go.Op.move (Go.Operand.tmp 3), type := 3, pos := "law.go:37", after := #[{ on := 32, ground := Go.Ground.guard }], guard := some (32, true) }) (v := ?v29) rfl (by kernel_rfl) (by kernel_rfl) (by kernel_rfl) (fun _ _ _ h => h) (Or.inl ⟨by kernel_rfl, ?h29⟩) (by assumption) ?r29
      case h29 => (intro w hSw; (try dsimp only at hSw); go_simp; try with_reducible rfl)
      try simp only [Act.put, List.setIfInBounds_toArray, List.set_cons_zero, List.set_cons_succ]
      refine wpAnyH_take (i := 37) (oi := { dst := some 90, op := Go.Op.move (Go.Operand.tmp 14), type := 4, pos := "law.go:37", after := #[{ on := 32, ground := Go.Ground.guard }], guard := some (32, true) }) (v := ?v30) rfl (by kernel_rfl) (by kernel_rfl) (by kernel_rfl) (fun _ _ _ h => h) (Or.inl ⟨by kernel_rfl, ?h30⟩) (by assumption) ?r30
      case h30 => (intro w hSw; (try dsimp only at hSw); go_simp; try with_reducible rfl)
      try simp only [Act.put, List.setIfInBounds_toArray, List.set_cons_zero, List.set_cons_succ]
      refine wpAnyH_ready (rs := [36]) (by kernel_rfl) (by simp) ?_
      refine AllReadyH.cons (o := { dst := some 89, op := Go.Op.call { callee := Go.Callee.value (Go.Operand.func 17), args := #[Go.Operand.tmp 86, Go.Operand.tmp 87, Go.Operand.tmp 88], argTypes := #[24, 3, 3] }, type := 4, pos := "law.go:37", after := #[{ on := 33, ground := Go.Ground.data }, { on := 34, ground := Go.Ground.data }, { on := 35, ground := Go.Ground.data }, { on := 32, ground := Go.Ground.chain }, { on := 32, ground := Go.Ground.guard }], guard := some (32, true) }) rfl (fun K hK => ?_) AllReadyH.nil
      go_simp
      with_reducible refine (qi.out _ (qa.out _ hHeld)).mono ?_
      rintro e t36 ⟨rfl, b36⟩
      go_simp
      refine hK.out _ _ (hHeld.trans (b36.mono hHeld.size)) (fun hHeld => ?_)
      clear hK K
      try simp only [Act.put, List.setIfInBounds_toArray, List.set_cons_zero, List.set_cons_succ]
      refine wpAnyH_take (i := 38) (oi := { dst := some 91, op := Go.Op.binOp Go.BinOp.eql 4 (Go.Operand.tmp 89) (Go.Operand.tmp 90) 4, type := 4, pos := "law.go:37", after := #[{ on := 36, ground := Go.Ground.data }, { on := 37, ground := Go.Ground.data }, { on := 32, ground := Go.Ground.guard }], guard := some (32, true) }) (v := ?v31) rfl (by kernel_rfl) (by kernel_rfl) (by kernel_rfl) (fun _ _ _ h => h) (Or.inl ⟨by kernel_rfl, ?h31⟩) (by assumption) ?r31
      case h31 => (intro w hSw; (try dsimp only at hSw); go_simp; try with_reducible rfl)
      try simp only [Act.put, List.setIfInBounds_toArray, List.set_cons_zero, List.set_cons_succ]
      refine wpAnyH_take (i := 39) (oi := { dst := some 92, op := Go.Op.pick (Go.Operand.tmp 85) (Go.Operand.tmp 91) (Go.Operand.const (Go.Value.bool false)), type := 4, pos := "law.go:37", after := #[{ on := 32, ground := Go.Ground.data }, { on := 38, ground := Go.Ground.data }], guard := none }) (v := ?v32) rfl (by kernel_rfl) (by kernel_rfl) (by kernel_rfl) (fun _ _ _ h => h) (Or.inl ⟨by kernel_rfl, ?h32⟩) (by assumption) ?r32
      case h32 => (intro w hSw; (try dsimp only at hSw); go_simp; try with_reducible rfl)
      try simp only [Act.put, List.setIfInBounds_toArray, List.set_cons_zero, List.set_cons_succ]
      refine wpAnyH_take (i := 40) (oi := { dst := some 93, op := Go.Op.move (Go.Operand.tmp 92), type := 4, pos := "law.go:37", after := #[{ on := 39, ground := Go.Ground.data }, { on := 36, ground := Go.Ground.chain }], guard := none }) (v := ?v33) rfl (by kernel_rfl) (by kernel_rfl) (by kernel_rfl) (fun _ _ _ h => h) (Or.inl ⟨by kernel_rfl, ?h33⟩) (by assumption) ?r33
      case h33 => (intro w hSw; (try dsimp only at hSw); go_simp; try with_reducible rfl)
      try simp only [Act.put, List.setIfInBounds_toArray, List.set_cons_zero, List.set_cons_succ]
      refine wpAnyH_take (i := 41) (oi := { dst := some 94, op := Go.Op.load 24 (Go.Operand.tmp 4), type := 24, pos := "law.go:37", after := #[{ on := 40, ground := Go.Ground.guard }], guard := some (40, true) }) (v := ?v34) rfl (by kernel_rfl) (by kernel_rfl) (by kernel_rfl) (fun _ _ _ h => h) (Or.inl ⟨by kernel_rfl, ?h34⟩) (by assumption) ?r34
      case h34 => (intro w hSw; (try dsimp only at hSw); go_simp; try with_reducible rfl)
      try simp only [Act.put, List.setIfInBounds_toArray, List.set_cons_zero, List.set_cons_succ]
      refine wpAnyH_take (i := 42) (oi := { dst := some 95, op := Go.Op.load 24 (Go.Operand.tmp 5), type := 24, pos := "law.go:37", after := #[{ on := 40, ground := Go.Ground.guard }], guard := some (40, true) }) (v := ?v35) rfl (by kernel_rfl) (by kernel_rfl) (by kernel_rfl) (fun _ _ _ h => h) (Or.inl ⟨by kernel_rfl, ?h35⟩) (by assumption) ?r35
      case h35 => (intro w hSw; (try dsimp only at hSw); go_simp; try with_reducible rfl)
      try simp only [Act.put, List.setIfInBounds_toArray, List.set_cons_zero, List.set_cons_succ]
      refine wpAnyH_take (i := 44) (oi := { dst := some 97, op := Go.Op.load 24 (Go.Operand.tmp 4), type := 24, pos := "law.go:37", after := #[{ on := 40, ground := Go.Ground.guard }], guard := some (40, true) }) (v := ?v36) rfl (by kernel_rfl) (by kernel_rfl) (by kernel_rfl) (fun _ _ _ h => h) (Or.inl ⟨by kernel_rfl, ?h36⟩) (by assumption) ?r36
      case h36 => (intro w hSw; (try dsimp only at hSw); go_simp; try with_reducible rfl)
      try simp only [Act.put, List.setIfInBounds_toArray, List.set_cons_zero, List.set_cons_succ]
      refine wpAnyH_take (i := 45) (oi := { dst := some 98, op := Go.Op.load 24 (Go.Operand.tmp 5), type := 24, pos := "law.go:37", after := #[{ on := 40, ground := Go.Ground.guard }], guard := some (40, true) }) (v := ?v37) rfl (by kernel_rfl) (by kernel_rfl) (by kernel_rfl) (fun _ _ _ h => h) (Or.inl ⟨by kernel_rfl, ?h37⟩) (by assumption) ?r37
      case h37 => (intro w hSw; (try dsimp only at hSw); go_simp; try with_reducible rfl)
      try simp only [Act.put, List.setIfInBounds_toArray, List.set_cons_zero, List.set_cons_succ]
      refine wpAnyH_ready (rs := [43]) (by kernel_rfl) (by simp) ?_
      refine AllReadyH.cons (o := { dst := some 96, op := Go.Op.call { callee := Go.Callee.value (Go.Operand.func 18), args := #[Go.Operand.tmp 94, Go.Operand.tmp 95], argTypes := #[24, 24] }, type := 4, pos := "law.go:37", after := #[{ on := 41, ground := Go.Ground.data }, { on := 42, ground := Go.Ground.data }, { on := 40, ground := Go.Ground.chain }, { on := 40, ground := Go.Ground.guard }], guard := some (40, true) }) rfl (fun K hK => ?_) AllReadyH.nil
      go_simp
      with_reducible refine (QS.out _ (qa.out _ hHeld) (qb.out _ hHeld)).mono ?_
      rintro e t43 ⟨rfl, b43⟩
      go_simp
      refine hK.out _ _ (hHeld.trans (b43.mono hHeld.size)) (fun hHeld => ?_)
      clear hK K
      try simp only [Act.put, List.setIfInBounds_toArray, List.set_cons_zero, List.set_cons_succ]
      refine wpAnyH_ready (rs := [46]) (by kernel_rfl) (by simp) ?_
      refine AllReadyH.cons (o := { dst := some 99, op := Go.Op.call { callee := Go.Callee.value (Go.Operand.func 19), args := #[Go.Operand.tmp 97, Go.Operand.tmp 98], argTypes := #[24, 24] }, type := 4, pos := "law.go:37", after := #[{ on := 44, ground := Go.Ground.data }, { on := 45, ground := Go.Ground.data }, { on := 43, ground := Go.Ground.chain }, { on := 40, ground := Go.Ground.guard }], guard := some (40, true) }) rfl (fun K hK => ?_) AllReadyH.nil
      go_simp
      with_reducible refine (QRS.out _ (qa.out _ hHeld) (qb.out _ hHeld)).mono ?_
      rintro e t46 ⟨rfl, b46⟩
      go_simp
      refine hK.out _ _ (hHeld.trans (b46.mono hHeld.size)) (fun hHeld => ?_)
      clear hK K
      try simp only [Act.put, List.setIfInBounds_toArray, List.set_cons_zero, List.set_cons_succ]
      refine wpAnyH_take (i := 47) (oi := { dst := some 100, op := Go.Op.binOp Go.BinOp.eql 4 (Go.Operand.tmp 96) (Go.Operand.tmp 99) 4, type := 4, pos := "law.go:37", after := #[{ on := 43, ground := Go.Ground.data }, { on := 46, ground := Go.Ground.data }, { on := 40, ground := Go.Ground.guard }], guard := some (40, true) }) (v := ?v38) rfl (by kernel_rfl) (by kernel_rfl) (by kernel_rfl) (fun _ _ _ h => h) (Or.inl ⟨by kernel_rfl, ?h38⟩) (by assumption) ?r38
      case h38 => (intro w hSw; (try dsimp only at hSw); go_simp; try with_reducible rfl)
      try simp only [Act.put, List.setIfInBounds_toArray, List.set_cons_zero, List.set_cons_succ]
      refine wpAnyH_take (i := 48) (oi := { dst := some 101, op := Go.Op.pick (Go.Operand.tmp 93) (Go.Operand.tmp 100) (Go.Operand.const (Go.Value.bool false)), type := 4, pos := "law.go:37", after := #[{ on := 40, ground := Go.Ground.data }, { on := 47, ground := Go.Ground.data }], guard := none }) (v := ?v39) rfl (by kernel_rfl) (by kernel_rfl) (by kernel_rfl) (fun _ _ _ h => h) (Or.inl ⟨by kernel_rfl, ?h39⟩) (by assumption) ?r39
      case h39 => (intro w hSw; (try dsimp only at hSw); go_simp; try with_reducible rfl)
      try simp only [Act.put, List.setIfInBounds_toArray, List.set_cons_zero, List.set_cons_succ]
      refine wpAnyH_take (i := 49) (oi := { dst := some 8, op := Go.Op.assign (Go.Operand.tmp 101), type := 4, pos := "law.go:37", after := #[{ on := 48, ground := Go.Ground.data }, { on := 46, ground := Go.Ground.chain }, { on := 0, ground := Go.Ground.phase }, { on := 1, ground := Go.Ground.phase }, { on := 2, ground := Go.Ground.phase }, { on := 3, ground := Go.Ground.phase }, { on := 4, ground := Go.Ground.phase }, { on := 5, ground := Go.Ground.phase }, { on := 6, ground := Go.Ground.phase }, { on := 7, ground := Go.Ground.phase }, { on := 8, ground := Go.Ground.phase }, { on := 9, ground := Go.Ground.phase }, { on := 10, ground := Go.Ground.phase }, { on := 11, ground := Go.Ground.phase }, { on := 12, ground := Go.Ground.phase }, { on := 13, ground := Go.Ground.phase }, { on := 14, ground := Go.Ground.phase }, { on := 15, ground := Go.Ground.phase }, { on := 16, ground := Go.Ground.phase }, { on := 17, ground := Go.Ground.phase }, { on := 18, ground := Go.Ground.phase }, { on := 19, ground := Go.Ground.phase }, { on := 20, ground := Go.Ground.phase }, { on := 21, ground := Go.Ground.phase }, { on := 22, ground := Go.Ground.phase }, { on := 23, ground := Go.Ground.phase }, { on := 24, ground := Go.Ground.phase }, { on := 25, ground := Go.Ground.phase }, { on := 26, ground := Go.Ground.phase }, { on := 27, ground := Go.Ground.phase }, { on := 28, ground := Go.Ground.phase }, { on := 29, ground := Go.Ground.phase }, { on := 30, ground := Go.Ground.phase }, { on := 31, ground := Go.Ground.phase }, { on := 32, ground := Go.Ground.phase }, { on := 33, ground := Go.Ground.phase }, { on := 34, ground := Go.Ground.phase }, { on := 35, ground := Go.Ground.phase }, { on := 36, ground := Go.Ground.phase }, { on := 37, ground := Go.Ground.phase }, { on := 38, ground := Go.Ground.phase }, { on := 39, ground := Go.Ground.phase }, { on := 40, ground := Go.Ground.phase }, { on := 41, ground := Go.Ground.phase }, { on := 42, ground := Go.Ground.phase }, { on := 43, ground := Go.Ground.phase }, { on := 44, ground := Go.Ground.phase }, { on := 45, ground := Go.Ground.phase }, { on := 46, ground := Go.Ground.phase }, { on := 47, ground := Go.Ground.phase }, { on := 48, ground := Go.Ground.phase }], guard := none }) (v := ?v40) rfl (by kernel_rfl) (by kernel_rfl) (by kernel_rfl) (fun _ _ _ h => h) (Or.inl ⟨by kernel_rfl, ?h40⟩) (by assumption) ?r40
      case h40 => (intro w hSw; (try dsimp only at hSw); go_simp; try with_reducible rfl)
      try simp only [Act.put, List.setIfInBounds_toArray, List.set_cons_zero, List.set_cons_succ]
      refine wpAnyH_done (by kernel_rfl) ?_ _
      go_wp2
      go_ret
      exact ⟨rfl, qe.out _ hHeld⟩
theorem wtoChecks_walk (w : World) (ht : Tab w) (a1 : Option Addr) (n1 c1 : Nat) (P : List Int) (hl1 : P.length = n1) (hm1 : n1 ≤ maxLen) (hc1 : n1 ≤ c1) (hw1 : ∀ n ∈ P, (Lit.int .i64 n).wf = true) (hs1 : Sees .i64 w.heap.size w a1 P) (a2 : Option Addr) (n2 c2 : Nat) (S : List Int) (hl2 : S.length = n2) (hm2 : n2 ≤ maxLen) (hc2 : n2 ≤ c2) (hw2 : ∀ n ∈ S, (Lit.int .i64 n).wf = true) (hs2 : Sees .i64 w.heap.size w a2 S) (a3 : Option Addr) (n3 c3 : Nat) (P2 : List Int) (hl3 : P2.length = n3) (hm3 : n3 ≤ maxLen) (hc3 : n3 ≤ c3) (hw3 : ∀ n ∈ P2, (Lit.int .i64 n).wf = true) (hs3 : Sees .i64 w.heap.size w a3 P2) (a4 : Option Addr) (n4 c4 : Nat) (S2 : List Int) (hl4 : S2.length = n4) (hm4 : n4 ≤ maxLen) (hc4 : n4 ≤ c4) (hw4 : ∀ n ∈ S2, (Lit.int .i64 n).wf = true) (hs4 : Sees .i64 w.heap.size w a4 S2) (hd : Int) (hhd : (Lit.int .i64 hd).wf = true) (p : Int) (hp : (Lit.int .i64 p).wf = true) : Calls Tryd.prog 3 #[.agg #[.slice a1 n1 c1, .slice a2 n2 c2], .agg #[.slice a3 n3 c3, .slice a4 n4 c4], .int .i64 hd, .int .i64 p] w (Gives (.bool true) w) := by
  have h : WA w a1 n1 c1 P a2 n2 c2 S := ⟨⟨hl1.symm, hc1, hm1, hs1⟩, ⟨hl2.symm, hc2, hm2, hs2⟩⟩
  have g : WA w a3 n3 c3 P2 a4 n4 c4 S2 := ⟨⟨hl3.symm, hc3, hm3, hs3⟩, ⟨hl4.symm, hc4, hm4, hs4⟩⟩
  cases hlg : (decide (200 < n1) || decide (200 < n2))
  · cases hlh : (decide (200 < n3) || decide (200 < n4))
    · exact wchecks_ok a1 a2 a3 a4 n1 c1 n2 c2 n3 c3 n4 c4 P S P2 S2 hd p w ht h g hlg hlh
    · exact wchecks_large2 a1 a2 a3 a4 n1 c1 n2 c2 n3 c3 n4 c4 P S P2 S2 hd p w ht h g hlg hlh
  · exact wchecks_large1 a1 a2 a3 a4 n1 c1 n2 c2 n3 c3 n4 c4 P S P2 S2 hd p w ht h g hlg
end Go.Proofs.YtpbminoefmpmpaaDoor
