/- WtoShows: its walk. (Written by gen-wto-law-shows.py.) -/
import Derived.Test.YtpbminoefmpmpaaDoorWtoLawShows
namespace Go.Proofs.YtpbminoefmpmpaaDoor
open Go.RowKit
set_option linter.unusedVariables false
set_option linter.unusedSimpArgs false

theorem parse_all {P S : List Int} (O : OrdW P S) (w : World) : Calls Tryd.prog 21 #[.string (strB (Lib.join (wordsL P S S.length) [32]))] w (ParE P S (strB (Lib.join (wordsL P S S.length) [32])) w) := by
  by_cases h0 : 0 < P.length
  · exact parse_text O h0 w
  · have hP : P = [] := List.eq_nil_of_length_eq_zero (by omega)
    have hS : S = [] := List.eq_nil_of_length_eq_zero (by have := O.len; omega)
    subst hP hS
    exact parse_empty w
set_option maxRecDepth 100000 in
set_option maxHeartbeats 4000000 in
theorem wshows_large (a1 a2 : Option Addr) (n1 c1 n2 c2 : Nat) (P S : List Int) (w : World) (ht : Tab w) (h : WA w a1 n1 c1 P a2 n2 c2 S) (hlg : (decide (200 < n1) || decide (200 < n2)) = true) : Calls Tryd.prog 4 #[.agg #[.slice a1 n1 c1, .slice a2 n2 c2]] w (Gives (.bool true) w) := by
  have hlg' := Lib.hid hlg
  clear hlg
  obtain ⟨W1, hW1⟩ : ∃ W1, W1 = w.alloc (.cells #[.slice a1 n1 c1, .slice a2 n2 c2] 24) := ⟨_, rfl⟩
  have Z : Hid (Holds W1 (w.heap.size) 24 #[.slice a1 n1 c1, .slice a2 n2 c2]) := Lib.hid (by rw [hW1]; exact Holds.new w _ _)
  have BL := Lib.hid (show Below w.heap.size w W1 by rw [hW1]; exact box_below _ _ _)
  have A := Lib.hid (h.below BL.out)
  have T := Lib.hid (ht.below BL.out)
  have hW1' := Lib.hid hW1
  clear hW1
  have hm1 := h.p.max
  have hm2 := h.s.max
  clear h ht
  go_enter Tryd.func4, Tryd.ntmps4
  have k1 := Z.out.cell 0
  have k2 := Z.out.cell 1
  have q := Lib.hid (by have q := wlarge_any a1 a2 n1 c1 n2 c2 hm1 hm2 W1; rwa [hlg'.out] at q)
  go_wp2_with fail
  rw [← hW1'.out]
  with_reducible refine q.out.mono ?_
  rintro e u1 ⟨rfl, b1⟩
  clear k1 k2
  clear hW1'
  clear q
  replace Z := Lib.hid (Z.out.below b1 Z.out.lt)
  replace BL := Lib.hid (BL.out.trans (b1.mono BL.out.size))
  replace A := Lib.hid (A.out.below b1)
  replace T := Lib.hid (T.out.below b1)
  clear b1
  have q := Lib.hid (wlives_any u1 T.out)
  go_wp2_with fail
  with_reducible refine q.out.mono ?_
  rintro e u2 ⟨rfl, b2⟩
  clear q
  replace Z := Lib.hid (Z.out.below b2 Z.out.lt)
  replace BL := Lib.hid (BL.out.trans (b2.mono BL.out.size))
  replace A := Lib.hid (A.out.below b2)
  replace T := Lib.hid (T.out.below b2)
  clear b2
  go_wp2
  go_ret
  exact ⟨rfl, BL.out⟩
set_option maxRecDepth 100000 in
set_option maxHeartbeats 4000000 in
theorem wshows_bad (a1 a2 : Option Addr) (n1 c1 n2 c2 : Nat) (P S : List Int) (w : World) (ht : Tab w) (h : WA w a1 n1 c1 P a2 n2 c2 S) (hlg : (decide (200 < n1) || decide (200 < n2)) = false) (hc : chkW P S ≠ 0) : Calls Tryd.prog 4 #[.agg #[.slice a1 n1 c1, .slice a2 n2 c2]] w (Gives (.bool true) w) := by
  have hlg' := Lib.hid hlg
  have hc' := Lib.hid hc
  have e1 : (chkW P S != 0) = true := by simpa using hc
  have e2 : (chkW P S == 0) = false := by simpa using hc
  clear hlg hc
  obtain ⟨x, hx⟩ : ∃ x, x = chkW P S := ⟨_, rfl⟩
  rw [← hx] at e1 e2
  have hx' := Lib.hid hx
  clear hx
  obtain ⟨W1, hW1⟩ : ∃ W1, W1 = w.alloc (.cells #[.slice a1 n1 c1, .slice a2 n2 c2] 24) := ⟨_, rfl⟩
  have Z : Hid (Holds W1 (w.heap.size) 24 #[.slice a1 n1 c1, .slice a2 n2 c2]) := Lib.hid (by rw [hW1]; exact Holds.new w _ _)
  have BL := Lib.hid (show Below w.heap.size w W1 by rw [hW1]; exact box_below _ _ _)
  have A := Lib.hid (h.below BL.out)
  have T := Lib.hid (ht.below BL.out)
  have hW1' := Lib.hid hW1
  clear hW1
  have hm1 := h.p.max
  have hm2 := h.s.max
  clear h ht
  go_enter Tryd.func4, Tryd.ntmps4
  have k1 := Z.out.cell 0
  have k2 := Z.out.cell 1
  have q := Lib.hid (by have q := wlarge_any a1 a2 n1 c1 n2 c2 hm1 hm2 W1; rwa [hlg'.out] at q)
  go_wp2_with fail
  rw [← hW1'.out]
  with_reducible refine q.out.mono ?_
  rintro e u1 ⟨rfl, b1⟩
  clear k1 k2
  clear hW1'
  clear q
  have k3 : u1.cell? ⟨w.heap.size, 0, none⟩ = some (.slice a1 n1 c1) := (Z.out.below b1 Z.out.lt).cell 0
  have k4 : u1.cell? ⟨w.heap.size, 1, none⟩ = some (.slice a2 n2 c2) := (Z.out.below b1 Z.out.lt).cell 1
  replace Z := Lib.hid (Z.out.below b1 Z.out.lt)
  replace BL := Lib.hid (BL.out.trans (b1.mono BL.out.size))
  replace A := Lib.hid (A.out.below b1)
  replace T := Lib.hid (T.out.below b1)
  clear b1
  have q := Lib.hid (by have q := show_bad a1 a2 n1 c1 n2 c2 P S u1 A.out hc'.out; rwa [← hx'.out] at q)
  go_wp2_with fail
  with_reducible refine q.out.mono ?_
  rintro e u2 ⟨rfl, b2⟩
  clear k3 k4
  clear q
  replace Z := Lib.hid (Z.out.below b2 Z.out.lt)
  replace BL := Lib.hid (BL.out.trans (b2.mono BL.out.size))
  replace A := Lib.hid (A.out.below b2)
  replace T := Lib.hid (T.out.below b2)
  clear b2
  have q := Lib.hid (wlives_any u2 T.out)
  go_wp2_with fail
  with_reducible refine q.out.mono ?_
  rintro e u3 ⟨rfl, b3⟩
  clear q
  have k5 : u3.cell? ⟨w.heap.size, 0, none⟩ = some (.slice a1 n1 c1) := (Z.out.below b3 Z.out.lt).cell 0
  have k6 : u3.cell? ⟨w.heap.size, 1, none⟩ = some (.slice a2 n2 c2) := (Z.out.below b3 Z.out.lt).cell 1
  replace Z := Lib.hid (Z.out.below b3 Z.out.lt)
  replace BL := Lib.hid (BL.out.trans (b3.mono BL.out.size))
  replace A := Lib.hid (A.out.below b3)
  replace T := Lib.hid (T.out.below b3)
  clear b3
  have q := Lib.hid (by have q := rcheck_any a1 a2 n1 c1 n2 c2 P S u3 A.out; rwa [← hx'.out] at q)
  go_wp2_with fail
  with_reducible refine q.out.mono ?_
  rintro e u4 ⟨rfl, b4⟩
  clear k5 k6
  clear q
  replace Z := Lib.hid (Z.out.below b4 Z.out.lt)
  replace BL := Lib.hid (BL.out.trans (b4.mono BL.out.size))
  replace A := Lib.hid (A.out.below b4)
  replace T := Lib.hid (T.out.below b4)
  clear b4
  go_wp2
  go_ret
  exact ⟨rfl, BL.out⟩
set_option maxRecDepth 100000 in
set_option maxHeartbeats 4000000 in
theorem wshows_ok (a1 a2 : Option Addr) (n1 c1 n2 c2 : Nat) (P S : List Int) (w : World) (ht : Tab w) (h : WA w a1 n1 c1 P a2 n2 c2 S) (hlg : (decide (200 < n1) || decide (200 < n2)) = false) (O : OrdW P S) : Calls Tryd.prog 4 #[.agg #[.slice a1 n1 c1, .slice a2 n2 c2]] w (Gives (.bool true) w) := by
  have hlg' := Lib.hid hlg
  have hO := Lib.hid O
  have hc := Lib.hid (chk_ok.2 O)
  have hn1 := Lib.hid h.p.len
  have hn2 := Lib.hid h.s.len
  clear hlg O
  have qP := Lib.hid (fun W => parse_all hO.out W)
  have qS := Lib.hid (fun W hT hA => show_ok a1 a2 n1 c1 n2 c2 P S W hT hA hO.out)
  have qR := Lib.hid (fun W hA => rShow_any a1 a2 n1 c1 n2 c2 P S W hA hO.out)
  generalize Lib.join (wordsL P S S.length) [32] = J at *
  obtain ⟨W1, hW1⟩ : ∃ W1, W1 = w.alloc (.cells #[.slice a1 n1 c1, .slice a2 n2 c2] 24) := ⟨_, rfl⟩
  have Z : Hid (Holds W1 (w.heap.size) 24 #[.slice a1 n1 c1, .slice a2 n2 c2]) := Lib.hid (by rw [hW1]; exact Holds.new w _ _)
  have BL := Lib.hid (show Below w.heap.size w W1 by rw [hW1]; exact box_below _ _ _)
  have A := Lib.hid (h.below BL.out)
  have T := Lib.hid (ht.below BL.out)
  have hW1' := Lib.hid hW1
  clear hW1
  have hm1 := h.p.max
  have hm2 := h.s.max
  clear h ht
  go_enter Tryd.func4, Tryd.ntmps4
  have k1 := Z.out.cell 0
  have k2 := Z.out.cell 1
  have q := Lib.hid (by have q := wlarge_any a1 a2 n1 c1 n2 c2 hm1 hm2 W1; rwa [hlg'.out] at q)
  go_wp2_with fail
  rw [← hW1'.out]
  with_reducible refine q.out.mono ?_
  rintro e u1 ⟨rfl, b1⟩
  clear k1 k2
  clear hW1'
  clear q
  have k3 : u1.cell? ⟨w.heap.size, 0, none⟩ = some (.slice a1 n1 c1) := (Z.out.below b1 Z.out.lt).cell 0
  have k4 : u1.cell? ⟨w.heap.size, 1, none⟩ = some (.slice a2 n2 c2) := (Z.out.below b1 Z.out.lt).cell 1
  replace Z := Lib.hid (Z.out.below b1 Z.out.lt)
  replace BL := Lib.hid (BL.out.trans (b1.mono BL.out.size))
  replace A := Lib.hid (A.out.below b1)
  replace T := Lib.hid (T.out.below b1)
  clear b1
  have q := Lib.hid (qS.out _ T.out A.out)
  go_wp2_with fail
  with_reducible refine q.out.mono ?_
  rintro e u2 ⟨rfl, b2⟩
  clear k3 k4
  clear q qS
  replace Z := Lib.hid (Z.out.below b2 Z.out.lt)
  replace BL := Lib.hid (BL.out.trans (b2.mono BL.out.size))
  replace A := Lib.hid (A.out.below b2)
  replace T := Lib.hid (T.out.below b2)
  clear b2
  have q := Lib.hid (wlives_any u2 T.out)
  go_wp2_with fail
  with_reducible refine q.out.mono ?_
  rintro e u3 ⟨rfl, b3⟩
  clear q
  have k5 : u3.cell? ⟨w.heap.size, 0, none⟩ = some (.slice a1 n1 c1) := (Z.out.below b3 Z.out.lt).cell 0
  have k6 : u3.cell? ⟨w.heap.size, 1, none⟩ = some (.slice a2 n2 c2) := (Z.out.below b3 Z.out.lt).cell 1
  replace Z := Lib.hid (Z.out.below b3 Z.out.lt)
  replace BL := Lib.hid (BL.out.trans (b3.mono BL.out.size))
  replace A := Lib.hid (A.out.below b3)
  replace T := Lib.hid (T.out.below b3)
  clear b3
  have q := Lib.hid (by have q := rcheck_any a1 a2 n1 c1 n2 c2 P S u3 A.out; rwa [hc.out] at q)
  go_wp2_with fail
  with_reducible refine q.out.mono ?_
  rintro e u4 ⟨rfl, b4⟩
  clear k5 k6
  clear q
  replace Z := Lib.hid (Z.out.below b4 Z.out.lt)
  replace BL := Lib.hid (BL.out.trans (b4.mono BL.out.size))
  replace A := Lib.hid (A.out.below b4)
  replace T := Lib.hid (T.out.below b4)
  clear b4
  have q := Lib.hid (qP.out u4)
  go_wp2_with fail
  with_reducible refine q.out.mono ?_
  rintro e u5 ⟨aP, cP, aS, cS, rfl, sV, b5⟩
  clear q qP
  have k7 : u5.cell? ⟨w.heap.size, 0, none⟩ = some (.slice a1 n1 c1) := (Z.out.below b5 Z.out.lt).cell 0
  have k8 : u5.cell? ⟨w.heap.size, 1, none⟩ = some (.slice a2 n2 c2) := (Z.out.below b5 Z.out.lt).cell 1
  have k9 : w.heap.size < u5.heap.size := (Z.out.below b5 Z.out.lt).lt
  have B0 := box_below u5 #[.slice aP P.length cP, .slice aS P.length cS] 24
  have B := b5.trans (B0.mono b5.size)
  replace Z := Lib.hid (Z.out.below B Z.out.lt)
  replace BL := Lib.hid (BL.out.trans (B.mono BL.out.size))
  replace A := Lib.hid (A.out.below B)
  replace T := Lib.hid (T.out.below B)
  have V := Lib.hid (Holds.new u5 24 #[.slice aP P.length cP, .slice aS P.length cS])
  have AV := Lib.hid (sV.below B0)
  clear b5 B B0 sV
  have q := Lib.hid (qR.out _ A.out)
  go_wp2_with fail
  with_reducible refine q.out.mono ?_
  rintro e u6 ⟨rfl, b6⟩
  clear k7 k8 k9
  clear q qR
  have k10 : u6.cell? ⟨w.heap.size, 0, none⟩ = some (.slice a1 n1 c1) := (Z.out.below b6 Z.out.lt).cell 0
  have k11 : u6.cell? ⟨w.heap.size, 1, none⟩ = some (.slice a2 n2 c2) := (Z.out.below b6 Z.out.lt).cell 1
  have k12 : u6.cell? ⟨u5.heap.size, 0, none⟩ = some (.slice aP P.length cP) := (V.out.below b6 V.out.lt).cell 0
  have k13 : u6.cell? ⟨u5.heap.size, 1, none⟩ = some (.slice aS P.length cS) := (V.out.below b6 V.out.lt).cell 1
  replace Z := Lib.hid (Z.out.below b6 Z.out.lt)
  replace V := Lib.hid (V.out.below b6 V.out.lt)
  replace BL := Lib.hid (BL.out.trans (b6.mono BL.out.size))
  replace A := Lib.hid (A.out.below b6)
  replace T := Lib.hid (T.out.below b6)
  replace AV := Lib.hid (AV.out.below b6)
  clear b6
  have q := Lib.hid (by have q := wrsame_any aP aS a1 a2 P S P S _ _ _ _ cP cS c1 c2 u6 AV.out A.out; rw [show sameW P S P S = true by simp [sameW]] at q; exact q)
  go_wp2_with fail
  with_reducible refine q.out.mono ?_
  rintro e u7 ⟨rfl, b7⟩
  clear k10 k11 k12 k13
  clear q
  replace Z := Lib.hid (Z.out.below b7 Z.out.lt)
  replace V := Lib.hid (V.out.below b7 V.out.lt)
  replace BL := Lib.hid (BL.out.trans (b7.mono BL.out.size))
  replace A := Lib.hid (A.out.below b7)
  replace T := Lib.hid (T.out.below b7)
  replace AV := Lib.hid (AV.out.below b7)
  clear b7
  go_wp2
  go_ret
  exact ⟨rfl, BL.out⟩
theorem wtoShows_walk (w : World) (ht : Tab w) (a1 : Option Addr) (n1 c1 : Nat) (P : List Int) (hl1 : P.length = n1) (hm1 : n1 ≤ maxLen) (hc1 : n1 ≤ c1) (hw1 : ∀ n ∈ P, (Lit.int .i64 n).wf = true) (hs1 : Sees .i64 w.heap.size w a1 P) (a2 : Option Addr) (n2 c2 : Nat) (S : List Int) (hl2 : S.length = n2) (hm2 : n2 ≤ maxLen) (hc2 : n2 ≤ c2) (hw2 : ∀ n ∈ S, (Lit.int .i64 n).wf = true) (hs2 : Sees .i64 w.heap.size w a2 S) : Calls Tryd.prog 4 #[.agg #[.slice a1 n1 c1, .slice a2 n2 c2]] w (Gives (.bool true) w) := by
  have h : WA w a1 n1 c1 P a2 n2 c2 S := ⟨⟨hl1.symm, hc1, hm1, hs1⟩, ⟨hl2.symm, hc2, hm2, hs2⟩⟩
  cases hlg : (decide (200 < n1) || decide (200 < n2))
  · by_cases hc : chkW P S = 0
    · exact wshows_ok a1 a2 n1 c1 n2 c2 P S w ht h hlg (chk_ok.1 hc)
    · exact wshows_bad a1 a2 n1 c1 n2 c2 P S w ht h hlg hc
  · exact wshows_large a1 a2 n1 c1 n2 c2 P S w ht h hlg
end Go.Proofs.YtpbminoefmpmpaaDoor
