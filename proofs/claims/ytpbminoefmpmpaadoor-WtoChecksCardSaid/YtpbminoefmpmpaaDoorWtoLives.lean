/- wto: lives. (Written by gen-wto-lives.py.) -/
import Derived.Test.YtpbminoefmpmpaaDoorWtoParse
namespace Go.Proofs.YtpbminoefmpmpaaDoor
open Go.RowKit
set_option linter.unusedVariables false
set_option linter.unusedSimpArgs false

theorem dig1 (k : Nat) (h : k < 10) : digP (k : Int) = [UInt8.ofNat (48 + k)] := by
  unfold digP
  rw [Int.toNat_natCast, Lib.decDigits]
  simp [h]
def PX : List Int := [1, 2, 3, 4, 5, 6]
def SX : List Int := [0, 4, 0, 2, 0, 0]
theorem chkX : chkW PX SX = 0 := by decide +kernel
theorem ordX : OrdW PX SX := chk_ok.1 chkX
theorem headsX : headsW PX SX 5 = [2, 4] := by decide +kernel
theorem placeX : placeN PX SX 4 = 3 ∧ placeB PX SX 4 = true := by decide +kernel
theorem depthX : depthW PX SX = 2 := by decide +kernel
theorem inX : (decide ((2 : Int) ∈ headsW PX SX 5)) = true ∧ (decide ((4 : Int) ∈ headsW PX SX 3)) = false := by decide +kernel
theorem chkY : chkW [1] [] = 100 := by decide +kernel
theorem sameX : sameW PX SX PX SX = true := by decide +kernel
theorem segX2 : Seg PX SX 1 2 5 [32, 51, 32, 40, 52, 32, 53, 41] := by
  have h3 : digP (PX.getD 2 0) = [51] := dig1 3 (by decide)
  have h4 : digP (PX.getD 3 0) = [52] := dig1 4 (by decide)
  have h5 : digP (PX.getD 4 0) = [53] := dig1 5 (by decide)
  have a := Seg.leaf (P := PX) (S := SX) 2 4 5 [] (by decide) (by decide) (.nil 2 5)
  have b := Seg.comp (P := PX) (S := SX) 1 3 5 2 _ [] (by decide) (by decide) (by decide) (by decide) a (.nil 1 5)
  have c := Seg.leaf (P := PX) (S := SX) 1 2 5 _ (by decide) (by decide) b
  rw [h3, h4, h5] at c
  exact c
theorem segX1 : Seg PX SX 0 1 6 [32, 40, 50, 32, 51, 32, 40, 52, 32, 53, 41, 41, 32, 54] := by
  have h2 : digP (PX.getD 1 0) = [50] := dig1 2 (by decide)
  have h6 : digP (PX.getD 5 0) = [54] := dig1 6 (by decide)
  have a := Seg.leaf (P := PX) (S := SX) 0 5 6 [] (by decide) (by decide) (.nil 0 6)
  have b := Seg.comp (P := PX) (S := SX) 0 1 6 4 _ _ (by decide) (by decide) (by decide) (by decide) segX2 a
  rw [h2, h6] at b
  exact b
theorem segX : Seg PX SX 0 0 6 [32, 49, 32, 40, 50, 32, 51, 32, 40, 52, 32, 53, 41, 41, 32, 54] := by
  have h1 : digP (PX.getD 0 0) = [49] := dig1 1 (by decide)
  have a := Seg.leaf (P := PX) (S := SX) 0 0 6 _ (by decide) (by decide) segX1
  rw [h1] at a
  exact a
theorem textX : strB (Lib.join (wordsL PX SX SX.length) [32]) = ⟨#[49, 32, 40, 50, 32, 51, 32, 40, 52, 32, 53, 41, 41, 32, 54]⟩ := by
  rw [text_words (P := PX) (S := SX) segX]
  rfl
theorem parseX (w : World) : Calls Tryd.prog 21 #[.string ⟨#[49, 32, 40, 50, 32, 51, 32, 40, 52, 32, 53, 41, 41, 32, 54]⟩] w (ParE PX SX ⟨#[49, 32, 40, 50, 32, 51, 32, 40, 52, 32, 53, 41, 41, 32, 54]⟩ w) := by
  have hd : digP ((1 : Nat) : Int) = [49] := dig1 1 (by decide)
  refine parse_ok _ PX SX (by decide) (by decide) rfl 1 1 [0] (fun w0 B r W h => ?_) (fun w0 B r W aP aS cP cS h => ?_) w
  · have q := entry_leaf w0 B r _ 0 0 PX [] none none 0 0 W h 0 1 (by decide) [32, 40, 50, 32, 51, 32, 40, 52, 32, 53, 41, 41, 32, 54] (by rw [hd]; rfl) (noDig_of (.inr (.inl rfl))) (by decide) (by decide) (by decide) rfl rfl (by decide)
    rw [hd] at q
    exact q
  · exact more_ok w0 B r _ PX SX ordX (by decide) 14 [32, 40, 50, 32, 51, 32, 40, 52, 32, 53, 41, 41, 32, 54] [] (by decide) (.inl rfl) 0 1 6 1 [0] aP aS cP cS W segX1 (by decide) rfl (by decide) h
theorem parseY (w : World) : Calls Tryd.prog 21 #[.string ⟨#[49, 32, 40, 50, 32, 49, 41]⟩] w (Gives (.tuple #[.agg #[.slice none 0 0, .slice none 0 0], .int .i64 5, .int .i64 100]) w) := by
  have hd : digP ((1 : Nat) : Int) = [49] := dig1 1 (by decide)
  have hd2 : digP ((2 : Nat) : Int) = [50] := dig1 2 (by decide)
  refine parse_bad _ [1, 2] [] (by decide) (by decide) 5 1 1 [0] (fun w0 B r W h => ?_) (fun w0 B r W aP aS cP cS h => ?_) w
  · have q := entry_leaf w0 B r _ 0 0 [1, 2] [] none none 0 0 W h 0 1 (by decide) [32, 40, 50, 32, 49, 41] (by rw [hd]; rfl) (noDig_of (.inr (.inl rfl))) (by decide) (by decide) (by decide) rfl rfl (by decide)
    rw [hd] at q
    exact q
  · refine more_bad w0 B r _ 1 1 [1, 2] [0] aP aS cP cS W h 0 5 [40, 50, 32, 49, 41] rfl (by decide) (fun W h => ?_)
    refine entry_comp_bad w0 B r _ 2 1 [1, 2] [0] aP aS cP cS W h 0 2 5 (by decide) (by decide) [32, 49, 41] (by rw [hd2]; rfl) (noDig_of (.inr (.inl rfl))) (by decide) (by decide) rfl rfl (by decide) (fun W aP aS cP cS h => ?_)
    rw [hd2] at h
    refine more_bad w0 B r _ 4 2 [1, 2] [0, 0] aP aS cP cS W h 1 5 [49, 41] rfl (by decide) (fun W h => ?_)
    exact entry_leaf_bad w0 B r _ 5 2 [1, 2] [0, 0] aP aS cP cS W h 1 1 (by decide) [41] (by rw [hd]; rfl) (noDig_of (.inr (.inr rfl))) (by decide) (by decide) (by decide)
def ParX (w : World) (e : Ending) (w' : World) : Prop := ∃ aP cP aS cS, e = .returned (.tuple #[.agg #[.slice aP 6 cP, .slice aS 6 cS], .int .i64 15, .int .i64 0]) ∧ WA w' aP 6 cP PX aS 6 cS SX ∧ Below w.heap.size w w'
theorem parseX6 (w : World) : Calls Tryd.prog 21 #[.string ⟨#[49, 32, 40, 50, 32, 51, 32, 40, 52, 32, 53, 41, 41, 32, 54]⟩] w (ParX w) := (parseX w).mono (fun e w' h => h)
theorem Tab.below {w w' : World} (h : Tab w) (hb : Below w.heap.size w w') : Tab w' := h.on hb
theorem sl_lit (w : World) (l : List Int) (n : Nat) (hn : n = l.length) (hm : n ≤ 1000) (cs : Array Value) (hc : cs = (nums .i64 l).toArray) : SL (w.alloc (.cells cs 3)) (some ⟨w.heap.size, 0, none⟩) n n l := by
  subst hn
  exact ⟨rfl, Nat.le_refl _, by omega, by have := sees_new .i64 w 3 l cs hc; simpa using this⟩
set_option maxRecDepth 100000 in
set_option maxHeartbeats 4000000 in
theorem wlives_any (w : World) (ht : Tab w) : Calls Tryd.prog 7 #[] w (Gives (.bool true) w) := by
  have BL := Lib.hid (Below.refl w.heap.size w)
  have T := Lib.hid ht
  clear ht
  go_enter Tryd.func7, Tryd.ntmps7
  have q := Lib.hid (parseX6 w)
  go_wp2_with fail
  with_reducible refine q.out.mono ?_
  rintro e w1 ⟨aP, cP, aS, cS, rfl, sA, b1⟩
  clear q
  have B0 := box_below w1 #[.slice aP 6 cP, .slice aS 6 cS] 24
  have B := b1.trans (B0.mono b1.size)
  replace BL := Lib.hid (BL.out.trans (B.mono BL.out.size))
  replace T := Lib.hid (T.out.below B)
  have Z := Lib.hid (Holds.new w1 24 #[.slice aP 6 cP, .slice aS 6 cS])
  have A := Lib.hid (sA.below B0)
  clear b1 B B0 sA
  have q := Lib.hid (by have q := show_ok aP aS 6 cP 6 cS PX SX _ T.out A.out ordX; rw [textX] at q; exact q)
  go_wp2_with fail
  with_reducible refine q.out.mono ?_
  rintro e w2 ⟨rfl, b2⟩
  clear q
  replace Z := Lib.hid (Z.out.below b2 Z.out.lt)
  replace BL := Lib.hid (BL.out.trans (b2.mono BL.out.size))
  replace T := Lib.hid (T.out.below b2)
  replace A := Lib.hid (A.out.below b2)
  clear b2
  have q := Lib.hid (parseY w2)
  go_wp2_with fail
  with_reducible refine q.out.mono ?_
  rintro e w3 ⟨rfl, b3⟩
  clear q
  have k101 : w3.cell? ⟨w1.heap.size, 0, none⟩ = some (.slice aP 6 cP) := (Z.out.below b3 Z.out.lt).cell 0
  have k102 : w3.cell? ⟨w1.heap.size, 1, none⟩ = some (.slice aS 6 cS) := (Z.out.below b3 Z.out.lt).cell 1
  have k103 : w1.heap.size < w3.heap.size := (Z.out.below b3 Z.out.lt).lt
  have B0 := box_below w3 #[.slice none 0 0, .slice none 0 0] 24
  have B := b3.trans (B0.mono b3.size)
  replace Z := Lib.hid (Z.out.below B Z.out.lt)
  replace BL := Lib.hid (BL.out.trans (B.mono BL.out.size))
  replace T := Lib.hid (T.out.below B)
  replace A := Lib.hid (A.out.below B)
  have Z2 := Lib.hid (Holds.new w3 24 #[.slice none 0 0, .slice none 0 0])
  clear b3 B B0
  have q := Lib.hid (by have q := heads_any aP aS 6 cP 6 cS PX SX 5 _ A.out; rw [headsX] at q; exact q)
  go_wp2_with fail
  with_reducible refine q.out.mono ?_
  rintro e w4 ⟨aL, nL, cL, rfl, sL, b4⟩
  clear k101 k102 k103
  clear q
  have k104 : w4.cell? ⟨w1.heap.size, 0, none⟩ = some (.slice aP 6 cP) := (Z.out.below b4 Z.out.lt).cell 0
  have k105 : w4.cell? ⟨w1.heap.size, 1, none⟩ = some (.slice aS 6 cS) := (Z.out.below b4 Z.out.lt).cell 1
  replace Z := Lib.hid (Z.out.below b4 Z.out.lt)
  replace Z2 := Lib.hid (Z2.out.below b4 Z2.out.lt)
  replace BL := Lib.hid (BL.out.trans (b4.mono BL.out.size))
  replace T := Lib.hid (T.out.below b4)
  replace A := Lib.hid (A.out.below b4)
  have L := Lib.hid (sL)
  clear b4 sL
  obtain rfl : nL = 2 := L.out.len
  have q := Lib.hid (by have q := place_any aP aS 6 cP 6 cS PX SX 4 _ A.out; rw [placeX.1, placeX.2] at q; exact q)
  go_wp2_with fail
  with_reducible refine q.out.mono ?_
  rintro e w5 ⟨rfl, b5⟩
  clear k104 k105
  clear q
  have k106 : w5.cell? ⟨w1.heap.size, 0, none⟩ = some (.slice aP 6 cP) := (Z.out.below b5 Z.out.lt).cell 0
  have k107 : w5.cell? ⟨w1.heap.size, 1, none⟩ = some (.slice aS 6 cS) := (Z.out.below b5 Z.out.lt).cell 1
  replace Z := Lib.hid (Z.out.below b5 Z.out.lt)
  replace Z2 := Lib.hid (Z2.out.below b5 Z2.out.lt)
  replace BL := Lib.hid (BL.out.trans (b5.mono BL.out.size))
  replace T := Lib.hid (T.out.below b5)
  replace A := Lib.hid (A.out.below b5)
  replace L := Lib.hid (L.out.below b5)
  clear b5
  obtain ⟨bL, oL, rfl, lL, eL0⟩ := sees_num L.out.sees (i := 0) (by decide)
  obtain ⟨bL2, oL2, eq2, lL2, eL1⟩ := sees_num L.out.sees (i := 1) (by decide)
  injection eq2 with eq2
  injection eq2 with e3 e4
  subst e3 e4
  have eL0' := Lib.hid (show w5.cell? ⟨bL, oL + 0, none⟩ = some (.int .i64 2) from eL0)
  have eL1' := Lib.hid (show w5.cell? ⟨bL, oL + 1, none⟩ = some (.int .i64 4) from eL1)
  clear eL0 eL1 lL2
  obtain ⟨W6, hW6⟩ : ∃ W6, W6 = (w5.alloc (.cells #[.int .i64 1, .int .i64 2, .int .i64 3, .int .i64 4, .int .i64 5, .int .i64 6] 3)).alloc (.cells #[.int .i64 0, .int .i64 4, .int .i64 0, .int .i64 2, .int .i64 0, .int .i64 0] 3) := ⟨_, rfl⟩
  have b6 : Below w5.heap.size w5 W6 := by rw [hW6]; exact (box_below _ _ _).alloc (by simp) _
  have sP : SL W6 (some ⟨w5.heap.size, 0, none⟩) 6 6 PX := by rw [hW6]; exact (sl_lit w5 PX 6 rfl (by omega) _ rfl).below (box_below _ _ _)
  have sS : SL W6 (some ⟨w5.heap.size + 1, 0, none⟩) 6 6 SX := by rw [hW6]; have q := sl_lit (w5.alloc (.cells #[.int .i64 1, .int .i64 2, .int .i64 3, .int .i64 4, .int .i64 5, .int .i64 6] 3)) SX 6 rfl (by omega) #[.int .i64 0, .int .i64 4, .int .i64 0, .int .i64 2, .int .i64 0, .int .i64 0] rfl; rw [show (w5.alloc (.cells #[.int .i64 1, .int .i64 2, .int .i64 3, .int .i64 4, .int .i64 5, .int .i64 6] 3)).heap.size = w5.heap.size + 1 by simp] at q; exact q
  have AX := Lib.hid (show WA W6 _ 6 6 PX _ 6 6 SX from ⟨sP, sS⟩)
  clear sP sS
  have zlt := Z.out.lt
  have hW6' := Lib.hid hW6
  clear hW6
  have q := Lib.hid (by have q := wrsame_any aP aS (some ⟨w5.heap.size, 0, none⟩) (some ⟨w5.heap.size + 1, 0, none⟩) PX SX PX SX 6 6 6 6 cP cS 6 6 W6 (A.out.below b6) AX.out; rw [sameX] at q; exact q)
  go_wp2_with fail
  rw [← hW6'.out]
  with_reducible refine q.out.mono ?_
  rintro e w6 ⟨rfl, b7⟩
  clear k106 k107
  clear q AX hW6' zlt
  have b8 := b6.trans (b7.mono b6.size)
  clear b6 b7
  have k108 : w6.cell? ⟨w1.heap.size, 0, none⟩ = some (.slice aP 6 cP) := (Z.out.below b8 Z.out.lt).cell 0
  have k109 : w6.cell? ⟨w1.heap.size, 1, none⟩ = some (.slice aS 6 cS) := (Z.out.below b8 Z.out.lt).cell 1
  have eL0 := (b8.cell (p := ⟨bL, oL + 0, none⟩) lL).trans eL0'.out
  have eL1 := (b8.cell (p := ⟨bL, oL + 1, none⟩) lL).trans eL1'.out
  rw [Nat.add_zero] at eL0
  replace Z := Lib.hid (Z.out.below b8 Z.out.lt)
  replace Z2 := Lib.hid (Z2.out.below b8 Z2.out.lt)
  replace BL := Lib.hid (BL.out.trans (b8.mono BL.out.size))
  replace T := Lib.hid (T.out.below b8)
  replace A := Lib.hid (A.out.below b8)
  replace L := Lib.hid (L.out.below b8)
  clear b8 eL0' eL1'
  have q := Lib.hid (by have q := depth_any aP aS 6 cP 6 cS PX SX _ A.out; rw [depthX] at q; exact q)
  go_wp2_with fail
  with_reducible refine q.out.mono ?_
  rintro e w7 ⟨rfl, b9⟩
  clear k108 k109
  clear q
  have k110 : w7.cell? ⟨w1.heap.size, 0, none⟩ = some (.slice aP 6 cP) := (Z.out.below b9 Z.out.lt).cell 0
  have k111 : w7.cell? ⟨w1.heap.size, 1, none⟩ = some (.slice aS 6 cS) := (Z.out.below b9 Z.out.lt).cell 1
  replace Z := Lib.hid (Z.out.below b9 Z.out.lt)
  replace Z2 := Lib.hid (Z2.out.below b9 Z2.out.lt)
  replace BL := Lib.hid (BL.out.trans (b9.mono BL.out.size))
  replace T := Lib.hid (T.out.below b9)
  replace A := Lib.hid (A.out.below b9)
  replace L := Lib.hid (L.out.below b9)
  clear b9
  clear eL0 eL1
  have q := Lib.hid (by have q := in_any aP aS 6 cP 6 cS PX SX 2 5 _ A.out; rw [inX.1] at q; exact q)
  go_wp2_with fail
  with_reducible refine q.out.mono ?_
  rintro e w8 ⟨rfl, b10⟩
  clear k110 k111
  clear q
  have k112 : w8.cell? ⟨w1.heap.size, 0, none⟩ = some (.slice aP 6 cP) := (Z.out.below b10 Z.out.lt).cell 0
  have k113 : w8.cell? ⟨w1.heap.size, 1, none⟩ = some (.slice aS 6 cS) := (Z.out.below b10 Z.out.lt).cell 1
  replace Z := Lib.hid (Z.out.below b10 Z.out.lt)
  replace Z2 := Lib.hid (Z2.out.below b10 Z2.out.lt)
  replace BL := Lib.hid (BL.out.trans (b10.mono BL.out.size))
  replace T := Lib.hid (T.out.below b10)
  replace A := Lib.hid (A.out.below b10)
  replace L := Lib.hid (L.out.below b10)
  clear b10
  have q := Lib.hid (by have q := in_any aP aS 6 cP 6 cS PX SX 4 3 _ A.out; rw [inX.2] at q; exact q)
  go_wp2_with fail
  with_reducible refine q.out.mono ?_
  rintro e w9 ⟨rfl, b11⟩
  clear k112 k113
  clear q
  have k114 : w9.cell? ⟨w1.heap.size, 0, none⟩ = some (.slice aP 6 cP) := (Z.out.below b11 Z.out.lt).cell 0
  have k115 : w9.cell? ⟨w1.heap.size, 1, none⟩ = some (.slice aS 6 cS) := (Z.out.below b11 Z.out.lt).cell 1
  replace Z := Lib.hid (Z.out.below b11 Z.out.lt)
  replace Z2 := Lib.hid (Z2.out.below b11 Z2.out.lt)
  replace BL := Lib.hid (BL.out.trans (b11.mono BL.out.size))
  replace T := Lib.hid (T.out.below b11)
  replace A := Lib.hid (A.out.below b11)
  replace L := Lib.hid (L.out.below b11)
  clear b11
  have q := Lib.hid (by have q := check_any aP aS 6 cP 6 cS PX SX _ A.out; rw [chkX] at q; exact q)
  go_wp2_with fail
  with_reducible refine q.out.mono ?_
  rintro e w10 ⟨rfl, b12⟩
  clear k114 k115
  clear q
  have k116 : w10.cell? ⟨w1.heap.size, 0, none⟩ = some (.slice aP 6 cP) := (Z.out.below b12 Z.out.lt).cell 0
  have k117 : w10.cell? ⟨w1.heap.size, 1, none⟩ = some (.slice aS 6 cS) := (Z.out.below b12 Z.out.lt).cell 1
  replace Z := Lib.hid (Z.out.below b12 Z.out.lt)
  replace Z2 := Lib.hid (Z2.out.below b12 Z2.out.lt)
  replace BL := Lib.hid (BL.out.trans (b12.mono BL.out.size))
  replace T := Lib.hid (T.out.below b12)
  replace A := Lib.hid (A.out.below b12)
  replace L := Lib.hid (L.out.below b12)
  clear b12
  obtain ⟨W11, hW11⟩ : ∃ W11, W11 = w10.alloc (.cells #[.int .i64 1] 3) := ⟨_, rfl⟩
  have b13 : Below w10.heap.size w10 W11 := by rw [hW11]; exact box_below _ _ _
  have q := Lib.hid (by have q := check_any (some ⟨w10.heap.size, 0, none⟩) none 1 1 0 0 [1] [] W11 ⟨by rw [hW11]; exact sl_lit w10 [1] 1 rfl (by omega) _ rfl, SL.nil _⟩; rw [chkY] at q; exact q)
  have hW11' := Lib.hid hW11
  clear hW11
  go_wp2_with fail
  rw [← hW11'.out]
  with_reducible refine q.out.mono ?_
  rintro e w11 ⟨rfl, b14⟩
  clear k116 k117
  clear q hW11'
  have b15 := b13.trans (b14.mono b13.size)
  clear b13 b14
  have k118 : w11.cell? ⟨w1.heap.size, 0, none⟩ = some (.slice aP 6 cP) := (Z.out.below b15 Z.out.lt).cell 0
  have k119 : w11.cell? ⟨w1.heap.size, 1, none⟩ = some (.slice aS 6 cS) := (Z.out.below b15 Z.out.lt).cell 1
  replace Z := Lib.hid (Z.out.below b15 Z.out.lt)
  replace Z2 := Lib.hid (Z2.out.below b15 Z2.out.lt)
  replace BL := Lib.hid (BL.out.trans (b15.mono BL.out.size))
  replace T := Lib.hid (T.out.below b15)
  replace A := Lib.hid (A.out.below b15)
  replace L := Lib.hid (L.out.below b15)
  clear b15
  have q := Lib.hid (by have q := wsame_any aP aS aP aS PX SX PX SX 6 6 6 6 cP cS cP cS _ A.out A.out; rw [sameX] at q; exact q)
  go_wp2_with fail
  with_reducible refine q.out.mono ?_
  rintro e w12 ⟨rfl, b16⟩
  clear k118 k119
  clear q
  replace Z := Lib.hid (Z.out.below b16 Z.out.lt)
  replace Z2 := Lib.hid (Z2.out.below b16 Z2.out.lt)
  replace BL := Lib.hid (BL.out.trans (b16.mono BL.out.size))
  replace T := Lib.hid (T.out.below b16)
  replace A := Lib.hid (A.out.below b16)
  replace L := Lib.hid (L.out.below b16)
  clear b16
  go_wp2
  go_ret
  exact ⟨rfl, BL.out⟩
end Go.Proofs.YtpbminoefmpmpaaDoor
