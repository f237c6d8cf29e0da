/- StrsOf: the walk of the statement's function. -/
import Derived.Test.YtkfgfbdlbiahkaaStrsLives
import Derived.Test.YtkfgfbdlbiahkaaStrsRefOf
import Derived.Test.YtkfgfbdlbiahkaaStrsLawPuts
namespace Go.Proofs.Ytkfgfbdlbiahkaa
open Go.RowKit
set_option linter.unusedVariables false
set_option linter.unusedSimpArgs false

set_option maxRecDepth 100000 in
set_option maxHeartbeats 4000000 in
theorem strsOf_walk (w : World) (a : Option Addr) (n c : Nat) (hrow : TSl w a n c) (s : ByteArray) (ws : s.size ≤ maxLen) (hs : s.size ≤ 140737488351232) (b : Option Addr) (k d : Nat) (hrow2 : TSl w b k d) :
    Calls Try.prog 4 #[.slice a n c, .string s, .slice b k d] w (Gives (.bool true) w) := by
  obtain ⟨l, hT, -, hn⟩ := hrow
  obtain ⟨m, hU, -, hk⟩ := hrow2
  have hT' := Lib.hid hT
  have hU' := Lib.hid hU
  have hni : (n : Int) ≤ 8796093022000 := by omega
  have hki : (k : Int) ≤ 8796093022000 := by omega
  have hsi : (s.size : Int) ≤ 140737488351232 := by omega
  have hlen := Lib.hid hT.len
  have hlg := Lib.hid (rlarge_any a n c l w hT)
  have hlg2 := Lib.hid (rlarge_any b k d m w hU)
  have hsm : Hid (largeT l = false → n ≤ 200) := Lib.hid (fun h => by have := (large_no h).1; have := hlen.out; omega)
  clear hT hU ws hs
  cases hl : largeT l
  rotate_left
  · rw [hl] at hlg
    go_enter Try.func4, Try.ntmps4
    go_wp2_with fail
    refine hlg.out.mono ?_
    rintro e w1 ⟨rfl, rfl⟩
    clear hlg
    go_wp2_with fail
    refine (tlives_any _).mono ?_
    rintro e w1 ⟨rfl, b1⟩
    have b1' := Lib.hid b1
    clear b1
    go_wp2
    go_ret
    exact ⟨rfl, b1'.out⟩
  rw [hl] at hlg
  have hn2 := hsm.out hl
  cases hm : largeT m
  rotate_left
  · rw [hm] at hlg2
    go_enter Try.func4, Try.ntmps4
    go_wp2_with fail
    refine hlg.out.mono ?_
    rintro e w1 ⟨rfl, rfl⟩
    clear hlg
    go_wp2_with fail
    refine hlg2.out.mono ?_
    rintro e w1 ⟨rfl, rfl⟩
    go_wp2_with fail
    refine (tlives_any _).mono ?_
    rintro e w1 ⟨rfl, b1⟩
    have b1' := Lib.hid b1
    clear b1
    go_wp2
    go_ret
    exact ⟨rfl, b1'.out⟩
  rw [hm] at hlg2
  by_cases h4 : 400 < s.size
  · have h4i : (400 : Int) < (s.size : Int) := by omega
    go_enter Try.func4, Try.ntmps4
    go_wp2_with fail
    refine hlg.out.mono ?_
    rintro e w1 ⟨rfl, rfl⟩
    clear hlg
    go_wp2_with fail
    refine hlg2.out.mono ?_
    rintro e w1 ⟨rfl, rfl⟩
    go_wp2_with fail
    refine (tlives_any _).mono ?_
    rintro e w1 ⟨rfl, b1⟩
    have b1' := Lib.hid b1
    clear b1
    go_wp2
    go_ret
    exact ⟨rfl, b1'.out⟩
  have h4i : ¬ (400 : Int) < (s.size : Int) := by omega
  have q1 := Lib.hid (fun W (hb : Below w.heap.size w W) => of_any a n c l (by omega) W (hT'.out.below hb))
  have q2 := Lib.hid (fun W a n c (hn : n ≤ 9223372036854775806) (h : TT W a n c (ofT l)) => find_any a n c (ofT l) s hn W h)
  have q3 := Lib.hid (fun W (hb : Below w.heap.size w W) => rof_any a n c l (by omega) W (hT'.out.below hb))
  have q4 := Lib.hid (fun W a n c (hn : n ≤ 9223372036854775806) (h : TT W a n c (ofT l)) => rfind_any a n c (ofT l) s hn W h)
  have q5 := Lib.hid (fun W (hb : Below w.heap.size w W) => find_any b k d m s (by omega) W (hU'.out.below hb))
  have q6 := Lib.hid (fun W (hb : Below w.heap.size w W) => rfind_any b k d m s (by omega) W (hU'.out.below hb))
  have q7 := Lib.hid (fun W a1 n1 c1 a2 n2 c2 (hn : n1 ≤ 9223372036854775806) (h1 : TT W a1 n1 c1 (ofT l)) (h2 : TT W a2 n2 c2 (ofT l)) => rsame_any a1 a2 n1 n2 c1 c2 (ofT l) (ofT l) hn W h1 h2)
  rw [same_self] at q7
  have q8 := Lib.hid (fun W (hb : Below w.heap.size w W) => same_any a b n k c d l m (by omega) (by omega) W (hT'.out.below hb) (hU'.out.below hb))
  have q9 := Lib.hid (fun W (hb : Below w.heap.size w W) => rsame_any a b n k c d l m (by omega) W (hT'.out.below hb) (hU'.out.below hb))
  have hol : Hid (∀ {W a n c}, TT W a n c (ofT l) → n ≤ 9223372036854775806) := Lib.hid (fun h => by have := h.len; have := ofT_len l; have := hlen.out; omega)
  generalize findT (ofT l) s = f1 at *
  generalize findT m s = f2 at *
  generalize decide (l = m) = f3 at *
  generalize ofT l = O at *
  obtain ⟨f1a, f1b⟩ := f1
  obtain ⟨f2a, f2b⟩ := f2
  simp only at q2 q4 q5 q6
  clear hl hm h4 hn2 hsm hn hk
  go_enter Try.func4, Try.ntmps4
  go_wp2_with fail
  refine hlg.out.mono ?_
  rintro e w1 ⟨rfl, rfl⟩
  clear hlg
  go_wp2_with fail
  refine hlg2.out.mono ?_
  rintro e w1 ⟨rfl, rfl⟩
  clear hlg2
  go_wp2_with fail
  refine (q1.out _ (Below.refl _ _)).mono ?_
  rintro e w1 ⟨a1, n1, c1, rfl, T1, B1⟩
  have T1' := Lib.hid T1
  have B1' := Lib.hid B1
  have hn1 := Lib.hid (hol.out T1)
  clear T1 B1
  go_wp2_with fail
  refine (q2.out _ _ _ _ hn1.out T1'.out).mono ?_
  rintro e w2 ⟨rfl, m2, rfl⟩
  have B2' := Lib.hid (Below.drewN B1'.out m2)
  go_wp2_with fail
  refine (q3.out _ B2'.out).mono ?_
  rintro e w3 ⟨a3, n3, c3, rfl, T3, B3⟩
  have T3' := Lib.hid T3
  have T13 := Lib.hid ((T1'.out.drewN m2).below B3)
  have B3' := Lib.hid (B2'.out.trans (B3.mono B2'.out.size))
  have hn3 := Lib.hid (hol.out T3)
  clear T3 B3 B1' B2' T1'
  go_wp2_with fail
  refine (q4.out _ _ _ _ hn3.out T3'.out).mono ?_
  rintro e w4 ⟨rfl, m4, hw4⟩
  have B4 := Lib.hid (Below.drewN B3'.out m4)
  have T14 := Lib.hid (T13.out.drewN m4)
  rw [← hw4] at B4 T14
  clear hw4 B3' T13 T3'
  go_wp2_with fail
  refine (q5.out _ B4.out).mono ?_
  rintro e w5 ⟨rfl, m5, hw5⟩
  have B5 := Lib.hid (Below.drewN B4.out m5)
  have T15 := Lib.hid (T14.out.drewN m5)
  rw [← hw5] at B5 T15
  clear hw5 B4 T14
  go_wp2_with fail
  refine (q6.out _ B5.out).mono ?_
  rintro e w6 ⟨rfl, m6, hw6⟩
  have B6 := Lib.hid (Below.drewN B5.out m6)
  have T16 := Lib.hid (T15.out.drewN m6)
  rw [← hw6] at B6 T16
  clear hw6 B5 T15
  go_wp2_with fail
  refine (tlives_any _).mono ?_
  rintro e w7 ⟨rfl, b7⟩
  have B7 := Lib.hid (B6.out.trans (b7.mono B6.out.size))
  have T17 := Lib.hid (T16.out.below b7)
  clear b7 B6 T16
  go_wp2_with fail
  refine (q3.out _ B7.out).mono ?_
  rintro e w8 ⟨a8, n8, c8, rfl, T8, B8⟩
  have T8' := Lib.hid T8
  have T18 := Lib.hid (T17.out.below B8)
  have B8' := Lib.hid (B7.out.trans (B8.mono B7.out.size))
  clear T8 B8 B7 T17
  go_wp2_with fail
  refine (q7.out _ _ _ _ _ _ _ hn1.out T18.out T8'.out).mono ?_
  rintro e w9 ⟨rfl, m9, hw9⟩
  have B9 := Lib.hid (Below.drewN B8'.out m9)
  rw [← hw9] at B9
  clear hw9 B8' T18 T8'
  go_wp2_with fail
  refine (q8.out _ B9.out).mono ?_
  rintro e w10 ⟨rfl, m10, hw10⟩
  have B10 := Lib.hid (Below.drewN B9.out m10)
  rw [← hw10] at B10
  clear hw10 B9
  go_wp2_with fail
  refine (q9.out _ B10.out).mono ?_
  rintro e w11 ⟨rfl, m11, rfl⟩
  go_wp2
  go_ret
  exact ⟨rfl, Below.drewN B10.out m11⟩
end Go.Proofs.Ytkfgfbdlbiahkaa
