/-
  Words and walks under the law's proof.
-/
import Derived.Deep.WholeRow
import Derived.Laws.Tables
import Derived.Laws.Rows
import Derived.Laws.ResultCell
import Derived.Lib.Hide
import Derived.Sort.OwnSorted
import Derived.Sort.Grow
import Derived.Lib.OwnBridge
import Derived.Test.YtjdfjekonnkglaaGreatDoorQD02
import Derived.Test.YtjdfjekonnkglaaGreatDoorQD04
import Derived.Test.YtjdfjekonnkglaaGreatDoorQD09
namespace Go.Proofs.YtjdfjekonnkglaaGreatDoor
open Go.RowKit
set_option linter.unusedVariables false
set_option linter.unusedSimpArgs false
def spotX : SpotD := ⟨⟨#[109, 97, 105, 110]⟩, ⟨#[97, 46, 103, 111]⟩, 3⟩
def smallD : PD := ⟨⟨#[112]⟩, [⟨#[105]⟩, ⟨#[110]⟩], [spotX, spotX, spotX, spotX, spotX], [⟨0, 1, 2, 1, 0, 0, 0⟩, ⟨1, 2, 4, 1, 2, -1, 0⟩, ⟨2, 1, 2, 1, 1, 1, 0⟩, ⟨1, 3, 5, 0, 1, 0, 0⟩]⟩
def PrE (D : PD) (w : World) (e : Ending) (w' : World) : Prop := ∃ p : PV, e = .returned (.agg p.cells) ∧ PrA w' p D ∧ Below w.heap.size w w'
theorem info_prog : (Tryz.prog.info? 26).map (·.size) = some 4 := by kernel_rfl
theorem seesT_cells {B : Nat} {w : World} {a : Option Addr} {l : List ByteArray} (h : SeesC B w a (txts l)) : SeesT B w a l := by
  rcases h with h | ⟨b, off, rfl, hB, hc⟩
  · left
    cases l with
    | nil => rfl
    | cons x l => cases h
  · exact .inr ⟨b, off, rfl, hB, fun i hi => hc i _ (by simp [txts, List.getD, hi])⟩
set_option maxRecDepth 100000 in
theorem small_mem (w : World) (C0 C1 : Array Value) (t1 : TypeId) (W2 W3 W4 W5 : World) (h2 : W2 = (w.alloc (.cells C0 26)).alloc (.cells C1 t1)) (h3 : W3 = W2.alloc (.cells #[.string ⟨#[105]⟩, .string ⟨#[110]⟩] 9)) (h4 : W4 = W3.alloc (.cells #[.string ⟨#[109, 97, 105, 110]⟩, .string ⟨#[97, 46, 103, 111]⟩, .int .i64 3, .string ⟨#[109, 97, 105, 110]⟩, .string ⟨#[97, 46, 103, 111]⟩, .int .i64 3, .string ⟨#[109, 97, 105, 110]⟩, .string ⟨#[97, 46, 103, 111]⟩, .int .i64 3, .string ⟨#[109, 97, 105, 110]⟩, .string ⟨#[97, 46, 103, 111]⟩, .int .i64 3, .string ⟨#[109, 97, 105, 110]⟩, .string ⟨#[97, 46, 103, 111]⟩, .int .i64 3] 49)) (h5 : W5 = W4.alloc (.cells #[.int .i64 0, .int .i64 1, .int .i64 2, .int .i64 1, .int .i64 0, .int .i64 0, .int .i64 0, .int .i64 1, .int .i64 2, .int .i64 4, .int .i64 1, .int .i64 2, .int .i64 (-1), .int .i64 0, .int .i64 2, .int .i64 1, .int .i64 2, .int .i64 1, .int .i64 1, .int .i64 1, .int .i64 0, .int .i64 1, .int .i64 3, .int .i64 5, .int .i64 0, .int .i64 1, .int .i64 0, .int .i64 0] 53)) :
    Holds W5 w.heap.size 26 C0 ∧ PrA W5 ⟨⟨#[112]⟩, some ⟨w.heap.size + 1 + 1, 0, none⟩, 2, 2, some ⟨w.heap.size + 1 + 1 + 1, 0, none⟩, 5, 5, some ⟨w.heap.size + 1 + 1 + 1 + 1, 0, none⟩, 4, 4⟩ smallD ∧ Below w.heap.size w W5 := by
  have z2 : W2.heap.size = w.heap.size + 1 + 1 := by rw [h2]; simp
  have z3 : W3.heap.size = w.heap.size + 1 + 1 + 1 := by rw [h3]; simp [z2]
  have z4 : W4.heap.size = w.heap.size + 1 + 1 + 1 + 1 := by rw [h4]; simp [z3]
  have b2 : Below w.heap.size w W2 := by rw [h2]; exact box2_below _ _ _ _ _
  have b3 : Below W2.heap.size W2 W3 := by rw [h3]; exact box_below _ _ _
  have b4 : Below W3.heap.size W3 W4 := by rw [h4]; exact box_below _ _ _
  have b5 : Below W4.heap.size W4 W5 := by rw [h5]; exact box_below _ _ _
  have H0 : Holds W2 w.heap.size 26 C0 := by rw [h2]; exact (Holds.new w _ _).alloc _
  have s3 : SeesC W3.heap.size W3 (some ⟨w.heap.size + 1 + 1, 0, none⟩) (txts [⟨#[105]⟩, ⟨#[110]⟩]) := by
    have q := seesC_lit W2 9 #[.string ⟨#[105]⟩, .string ⟨#[110]⟩]
    rw [← h3, z2] at q
    exact q
  have s4 : SeesC W4.heap.size W4 (some ⟨w.heap.size + 1 + 1 + 1, 0, none⟩) (smallD.spots.flatMap spotC) := by
    have q := seesC_lit W3 49 #[.string ⟨#[109, 97, 105, 110]⟩, .string ⟨#[97, 46, 103, 111]⟩, .int .i64 3, .string ⟨#[109, 97, 105, 110]⟩, .string ⟨#[97, 46, 103, 111]⟩, .int .i64 3, .string ⟨#[109, 97, 105, 110]⟩, .string ⟨#[97, 46, 103, 111]⟩, .int .i64 3, .string ⟨#[109, 97, 105, 110]⟩, .string ⟨#[97, 46, 103, 111]⟩, .int .i64 3, .string ⟨#[109, 97, 105, 110]⟩, .string ⟨#[97, 46, 103, 111]⟩, .int .i64 3]
    rw [← h4, z3] at q
    exact q
  have s5 : SeesC W5.heap.size W5 (some ⟨w.heap.size + 1 + 1 + 1 + 1, 0, none⟩) (smallD.edges.flatMap edgeC) := by
    have q := seesC_lit W4 53 #[.int .i64 0, .int .i64 1, .int .i64 2, .int .i64 1, .int .i64 0, .int .i64 0, .int .i64 0, .int .i64 1, .int .i64 2, .int .i64 4, .int .i64 1, .int .i64 2, .int .i64 (-1), .int .i64 0, .int .i64 2, .int .i64 1, .int .i64 2, .int .i64 1, .int .i64 1, .int .i64 1, .int .i64 0, .int .i64 1, .int .i64 3, .int .i64 5, .int .i64 0, .int .i64 1, .int .i64 0, .int .i64 0]
    rw [← h5, z4] at q
    exact q
  have c3 := (b4.mono (Nat.le_refl _)).trans (b5.mono b4.size)
  refine ⟨((H0.below b3 H0.lt).below b4 (H0.below b3 H0.lt).lt).below b5 ((H0.below b3 H0.lt).below b4 (H0.below b3 H0.lt).lt).lt, ⟨rfl, ⟨rfl, Nat.le_refl _, by show (2 : Nat) ≤ maxLen; unfold maxLen; omega, seesT_cells ((s3.below c3).mono c3.size)⟩, ⟨rfl, Nat.le_refl _, by show (5 : Nat) ≤ maxLen; unfold maxLen; omega, (s4.below b5).mono b5.size⟩, ⟨rfl, Nat.le_refl _, by show (4 : Nat) ≤ maxLen; unfold maxLen; omega, s5⟩⟩, ?_⟩
  exact ((b2.trans (b3.mono b2.size)).trans ((b4.mono (Nat.le_trans b2.size b3.size)))).trans (b5.mono (Nat.le_trans b2.size (Nat.le_trans b3.size b4.size)))
set_option maxRecDepth 100000 in
set_option maxHeartbeats 4000000 in
theorem small_any (w : World) : Calls Tryz.prog 19 #[] w (PrE smallD w) := by
  go_enter Tryz.func19, Tryz.ntmps19
  go_wp2
  obtain ⟨m1, m2, m3⟩ := small_mem w _ _ _ _ _ _ _ rfl rfl rfl rfl
  exact bodyPost_ret (results_cell_row rfl _ _ w.heap.size 26 _ (0, 0) _ rfl m1 Tryz.underlying26 rfl info_prog) rfl ⟨_, rfl, m2, m3⟩
end Go.Proofs.YtjdfjekonnkglaaGreatDoor
namespace Go.Proofs.YtjdfjekonnkglaaGreatDoor
open Go.RowKit
set_option linter.unusedVariables false
def runT (D : PD) (l : List Int) (ch : List (Int × Int)) : List (Int × List Int) × Int := if progB D = true then (if valsB l D.vars.length = true then ((0, l) :: (runL D 0 l ch).1, (runL D 0 l ch).2) else ([], 1)) else ([], 110)
theorem run_any (pnm : ByteArray) (pa1 : Option Addr) (pn1 pc1 : Nat) (pa2 : Option Addr) (pn2 pc2 : Nat) (pa3 : Option Addr) (pn3 pc3 : Nat) (D : PD) (a : Option Addr) (n c : Nat) (l : List Int) (ca : Option Addr) (cn cc : Nat) (ch : List (Int × Int)) (w : World) (h : PrA w ⟨pnm, pa1, pn1, pc1, pa2, pn2, pc2, pa3, pn3, pc3⟩ D) (hs : SL w a n c l) (hc : RO chC w ca cn cc ch) (hcn : cn ≤ 1000) (hn : n ≤ 1000) : Calls Tryz.prog 8 #[.agg #[.string pnm, .slice pa1 pn1 pc1, .slice pa2 pn2 pc2, .slice pa3 pn3 pc3], .slice a n c, .slice ca cn cc] w (RunE (runT D l ch).1 (runT D l ch).2 w) := by
  unfold runT
  by_cases hp : progB D = true
  · rw [if_pos hp]
    by_cases hv : valsB l D.vars.length = true
    · rw [if_pos hv]
      exact run_go pnm pa1 pn1 pc1 pa2 pn2 pc2 pa3 pn3 pc3 D a n c l ca cn cc ch w h hs hc hcn hp hv hn
    · rw [if_neg hv]
      exact run_bad pnm pa1 pn1 pc1 pa2 pn2 pc2 pa3 pn3 pc3 D a n c l ca cn cc ch w h hs hc hcn hp (by simpa using hv)
  · rw [if_neg hp]
    exact run_no pnm pa1 pn1 pc1 pa2 pn2 pc2 pa3 pn3 pc3 D a n c l ca cn cc ch w h hs hc hcn (by simpa using hp)
set_option maxRecDepth 100000
def noD : PD := ⟨⟨#[]⟩, [], [], []⟩
def fourS : List (Int × List Int) := [(0, [5, 1]), (1, [0, 1]), (2, [0, 1]), (1, [1, 1])]
theorem four_run : runT smallD [5, 1] [(0, 0), (1, 0), (2, 0), (1, 0)] = (fourS, 130) := by kernel_rfl
theorem four_step : stepS smallD 1 [-1, 0] 3 0 = ((0, []), 131) := by kernel_rfl
theorem no_run : runT noD [] [] = ([], 110) := by kernel_rfl
theorem four_right : (progB smallD && stateB smallD 0 [5, 1]) = true := by kernel_rfl
theorem no_right : (progB smallD && stateB smallD 0 []) = false := by kernel_rfl
theorem four_sameR : sameT 1 1 [1, 1] [1, 1] = true := by kernel_rfl
theorem four_same0 : sameT 0 0 [5, 1] [5, 1] = true := by kernel_rfl
end Go.Proofs.YtjdfjekonnkglaaGreatDoor
namespace Go.Proofs.YtjdfjekonnkglaaGreatDoor
open Go.RowKit
set_option linter.unusedVariables false
set_option linter.unusedSimpArgs false
theorem rsl_lit (w : World) (l : List Int) (n : Nat) (hn : n = l.length) (hm : n ≤ 1000) (cs : Array Value) (hc : cs = (nums .i64 l).toArray) : SL (w.alloc (.cells cs 3)) (some ⟨w.heap.size, 0, none⟩) n n l := by
  subst hn
  exact ⟨rfl, Nat.le_refl _, by omega, by have := sees_new .i64 w 3 l cs hc; simpa using this⟩
theorem rch_lit (w : World) : RO chC (w.alloc (.cells #[.int .i64 0, .int .i64 0, .int .i64 1, .int .i64 0, .int .i64 2, .int .i64 0, .int .i64 1, .int .i64 0] 44)) (some ⟨w.heap.size, 0, none⟩) 4 4 [(0, 0), (1, 0), (2, 0), (1, 0)] :=
  ⟨rfl, Nat.le_refl _, by unfold maxLen; omega, seesC_lit w 44 #[.int .i64 0, .int .i64 0, .int .i64 1, .int .i64 0, .int .i64 2, .int .i64 0, .int .i64 1, .int .i64 0]⟩
structure LvR (w : World) (g : Nat) (pnm : ByteArray) (pa1 : Option Addr) (pn1 pc1 : Nat) (pa2 : Option Addr) (pn2 pc2 : Nat) (pa3 : Option Addr) (pn3 pc3 : Nat) (W : World) : Prop where
  pr : PrA W ⟨pnm, pa1, pn1, pc1, pa2, pn2, pc2, pa3, pn3, pc3⟩ smallD
  box : Holds W g 26 #[.string pnm, .slice pa1 pn1 pc1, .slice pa2 pn2 pc2, .slice pa3 pn3 pc3]
  bel : Below w.heap.size w W
theorem LvR.below {w : World} {g : Nat} {pnm : ByteArray} {pa1 : Option Addr} {pn1 pc1 : Nat} {pa2 : Option Addr} {pn2 pc2 : Nat} {pa3 : Option Addr} {pn3 pc3 : Nat} {W W' : World} (h : LvR w g pnm pa1 pn1 pc1 pa2 pn2 pc2 pa3 pn3 pc3 W) (hb : Below W.heap.size W W') : LvR w g pnm pa1 pn1 pc1 pa2 pn2 pc2 pa3 pn3 pc3 W' :=
  ⟨h.pr.below hb, h.box.below hb h.box.lt, h.bel.trans (hb.mono h.bel.size)⟩
theorem sts_at {W : World} {bl n c : Nat} {L : List (Int × List Int)} (h : StsL W (some ⟨bl, 0, none⟩) n c L) {i : Nat} (hi : i < L.length) : bl < W.heap.size ∧ ∃ ai ni ci, W.cell? ⟨bl, i * 2, none⟩ = some (.int .i64 (L.getD i (0, [])).1) ∧ W.cell? ⟨bl, i * 2 + 1, none⟩ = some (.slice ai ni ci) ∧ SL W ai ni ci (L.getD i (0, [])).2 := by
  rcases h.2.2 with e | ⟨b, e, hb, hc⟩
  · rw [e] at hi; simp at hi
  · injection e with e
    injection e with e
    subst e
    exact ⟨hb, hc i hi⟩
theorem sts_addr {W : World} {a : Option Addr} {n c : Nat} {L : List (Int × List Int)} (h : StsL W a n c L) (hL : L ≠ []) : ∃ bl, a = some ⟨bl, 0, none⟩ := by
  rcases h.2.2 with e | ⟨b, e, _, _⟩
  · exact absurd e hL
  · exact ⟨b, e⟩
set_option maxRecDepth 100000 in
set_option maxHeartbeats 16000000 in
theorem rlives_any (w : World) : Calls Tryz.prog 7 #[] w (Gives (.bool true) w) := by
  have q1 := Lib.hid (small_any w)
  go_enter Tryz.func7, Tryz.ntmps7
  go_wp2_with fail
  with_reducible refine q1.out.mono ?_
  rintro e u1 ⟨⟨pnm, pa1, pn1, pc1, pa2, pn2, pc2, pa3, pn3, pc3⟩, he, hp, hb1⟩
  replace he := show e = .returned (.agg #[.string pnm, .slice pa1 pn1 pc1, .slice pa2 pn2 pc2, .slice pa3 pn3 pc3]) from he
  subst he
  obtain ⟨u2, hu2⟩ : ∃ u2, u2 = u1.alloc (.cells #[.string pnm, .slice pa1 pn1 pc1, .slice pa2 pn2 pc2, .slice pa3 pn3 pc3] 26) := ⟨_, rfl⟩
  have b2 : Below u1.heap.size u1 u2 := by rw [hu2]; exact box_below _ _ _
  have L0 : LvR w u1.heap.size pnm pa1 pn1 pc1 pa2 pn2 pc2 pa3 pn3 pc3 u2 := ⟨hp.below b2, by rw [hu2]; exact Holds.new _ _ _, hb1.trans (b2.mono hb1.size)⟩
  have L := Lib.hid L0
  have hu2' := Lib.hid hu2
  clear hu2 b2 L0 hp hb1 q1
  go_upto_region 2 with (fail)
  rw [← hu2'.out]
  clear hu2'
  have k0 := L.out.box.cell 0
  have k1 := L.out.box.cell 1
  have k2 := L.out.box.cell 2
  have k3 := L.out.box.cell 3
  simp at k0 k1 k2 k3
  obtain ⟨u3, hu3⟩ : ∃ u3, u3 = (u2.alloc (.cells #[.int .i64 5, .int .i64 1] 3)).alloc (.cells #[.int .i64 0, .int .i64 0, .int .i64 1, .int .i64 0, .int .i64 2, .int .i64 0, .int .i64 1, .int .i64 0] 44) := ⟨_, rfl⟩
  have b3 : Below u2.heap.size u2 u3 := by rw [hu3]; exact box2_below _ _ _ _ _
  have sv : SL u3 (some ⟨u2.heap.size, 0, none⟩) 2 2 [5, 1] := by rw [hu3]; exact (rsl_lit u2 [5, 1] 2 rfl (by omega) _ rfl).below (box_below _ _ _)
  have sc : RO chC u3 (some ⟨u2.heap.size + 1, 0, none⟩) 4 4 [(0, 0), (1, 0), (2, 0), (1, 0)] := by rw [hu3]; have q := rch_lit (u2.alloc (.cells #[.int .i64 5, .int .i64 1] 3)); simpa using q
  have qr := run_any pnm pa1 pn1 pc1 pa2 pn2 pc2 pa3 pn3 pc3 smallD _ 2 2 [5, 1] _ 4 4 _ u3 ((L.out.below b3).pr) sv sc (by omega) (by omega)
  rw [four_run] at qr
  have qr' := Lib.hid qr
  replace L := Lib.hid (L.out.below b3)
  have hu3' := Lib.hid hu3
  clear hu3 b3 sv sc qr
  go_wp2_with fail
  rw [← hu3'.out]
  clear hu3' k0 k1 k2 k3
  with_reducible refine qr'.out.mono ?_
  rintro e u4 ⟨al, nl, cl, rfl, hst, b4⟩
  obtain rfl : nl = 4 := hst.1
  obtain ⟨bl, rfl⟩ := sts_addr hst (by simp [fourS])
  replace L := Lib.hid (L.out.below b4)
  have T := Lib.hid hst
  clear b4 hst qr'
  go_upto_region 3 with (fail)
  have k0 := L.out.box.cell 0
  have k1 := L.out.box.cell 1
  have k2 := L.out.box.cell 2
  have k3 := L.out.box.cell 3
  simp at k0 k1 k2 k3
  obtain ⟨u5, hu5⟩ : ∃ u5, u5 = u4.alloc (.cells #[.int .i64 (-1), .int .i64 0] 3) := ⟨_, rfl⟩
  have b5 : Below u4.heap.size u4 u5 := by rw [hu5]; exact box_below _ _ _
  have sv : SL u5 (some ⟨u4.heap.size, 0, none⟩) 2 2 [-1, 0] := by rw [hu5]; exact rsl_lit u4 [-1, 0] 2 rfl (by omega) _ rfl
  have qr := runStep_any pnm pa1 pn1 pc1 pa2 pn2 pc2 pa3 pn3 pc3 smallD 1 _ 2 2 [-1, 0] 3 0 u5 ((L.out.below b5).pr) sv
  rw [four_step] at qr
  have qr' := Lib.hid qr
  replace L := Lib.hid (L.out.below b5)
  replace T := Lib.hid (T.out.below b5)
  have hu5' := Lib.hid hu5
  clear hu5 b5 sv qr
  go_wp2_with fail
  rw [← hu5'.out]
  clear hu5' k0 k1 k2 k3
  with_reducible refine qr'.out.mono ?_
  rintro e u6 ⟨a6, n6, c6, rfl, s6, b6, -⟩
  obtain rfl : n6 = 0 := s6.len
  obtain ⟨u7, hu7⟩ : ∃ u7, u7 = u6.alloc (.cells #[.int .i64 0, .slice a6 0 c6] 39) := ⟨_, rfl⟩
  have b7 : Below u6.heap.size u6 u7 := by rw [hu7]; exact box_below _ _ _
  have S4 : Hid (Holds u7 u6.heap.size 39 #[.int .i64 0, .slice a6 0 c6]) := Lib.hid (by rw [hu7]; exact Holds.new _ _ _)
  replace L := Lib.hid ((L.out.below b6).below b7)
  replace T := Lib.hid ((T.out.below b6).below b7)
  have hu7' := Lib.hid hu7
  clear b6 hu7 b7 s6 qr'
  go_upto_region 4 with (fail)
  rw [← hu7'.out]
  clear hu7'
  generalize u6.heap.size = g4 at S4 ⊢
  have qr := run_any ⟨#[]⟩ none 0 0 none 0 0 none 0 0 noD none 0 0 [] none 0 0 [] u7 ⟨rfl, ⟨rfl, Nat.le_refl _, by show (0 : Nat) ≤ maxLen; unfold maxLen; omega, .inl rfl⟩, .nil _, .nil _⟩ (SL.nil _) (RO.nil _) (by omega) (by omega)
  rw [no_run] at qr
  have qr' := Lib.hid qr
  clear qr
  go_wp2_with fail
  with_reducible refine qr'.out.mono ?_
  rintro e u8 ⟨a8, n8, c8, rfl, h8, b8⟩
  replace L := Lib.hid (L.out.below b8)
  replace T := Lib.hid (T.out.below b8)
  replace S4 := Lib.hid (S4.out.below b8 S4.out.lt)
  clear b8 h8 qr'
  obtain ⟨hbl, a3, n3, c3, x6, x7, x8⟩ := sts_at T.out (i := 3) (by show (3 : Nat) < 4; omega)
  obtain ⟨-, a0, n0, c0, y0, y1, y2⟩ := sts_at T.out (i := 0) (by show (0 : Nat) < 4; omega)
  replace x6 := Lib.hid (show u8.cell? ⟨bl, 6, none⟩ = some (.int .i64 1) from x6)
  replace x7 := Lib.hid (show u8.cell? ⟨bl, 7, none⟩ = some (.slice a3 n3 c3) from x7)
  replace x8 := Lib.hid (show SL u8 a3 n3 c3 [1, 1] from x8)
  replace y0 := Lib.hid (show u8.cell? ⟨bl, 0, none⟩ = some (.int .i64 0) from y0)
  replace y1 := Lib.hid (show u8.cell? ⟨bl, 1, none⟩ = some (.slice a0 n0 c0) from y1)
  replace y2 := Lib.hid (show SL u8 a0 n0 c0 [5, 1] from y2)
  have LF : ∀ W, Below u8.heap.size u8 W → LvR w u1.heap.size pnm pa1 pn1 pc1 pa2 pn2 pc2 pa3 pn3 pc3 W := fun W hW => L.out.below hW
  have SF3 : ∀ W, Below u8.heap.size u8 W → SL W a3 n3 c3 [1, 1] := fun W hW => x8.out.below hW
  have SF0 : ∀ W, Below u8.heap.size u8 W → SL W a0 n0 c0 [5, 1] := fun W hW => y2.out.below hW
  have z0 : ∀ W, Below u8.heap.size u8 W → W.cell? ⟨u1.heap.size, 0, none⟩ = some (.string pnm) := fun W hW => (L.out.box.below hW L.out.box.lt).cell 0
  have z1 : ∀ W, Below u8.heap.size u8 W → W.cell? ⟨u1.heap.size, 1, none⟩ = some (.slice pa1 pn1 pc1) := fun W hW => (L.out.box.below hW L.out.box.lt).cell 1
  have z2 : ∀ W, Below u8.heap.size u8 W → W.cell? ⟨u1.heap.size, 2, none⟩ = some (.slice pa2 pn2 pc2) := fun W hW => (L.out.box.below hW L.out.box.lt).cell 2
  have z3 : ∀ W, Below u8.heap.size u8 W → W.cell? ⟨u1.heap.size, 3, none⟩ = some (.slice pa3 pn3 pc3) := fun W hW => (L.out.box.below hW L.out.box.lt).cell 3
  have s1 : ∀ W, Below u8.heap.size u8 W → W.cell? ⟨g4, 1, none⟩ = some (.slice a6 0 c6) := fun W hW => (S4.out.below hW S4.out.lt).cell 1
  have t6 : ∀ W, Below u8.heap.size u8 W → W.cell? ⟨bl, 6, none⟩ = some (.int .i64 1) := fun W hW => (hW.cell (p := ⟨bl, 6, none⟩) hbl).trans x6.out
  have t7 : ∀ W, Below u8.heap.size u8 W → W.cell? ⟨bl, 7, none⟩ = some (.slice a3 n3 c3) := fun W hW => (hW.cell (p := ⟨bl, 7, none⟩) hbl).trans x7.out
  have t0 : ∀ W, Below u8.heap.size u8 W → W.cell? ⟨bl, 0, none⟩ = some (.int .i64 0) := fun W hW => (hW.cell (p := ⟨bl, 0, none⟩) hbl).trans y0.out
  have t1 : ∀ W, Below u8.heap.size u8 W → W.cell? ⟨bl, 1, none⟩ = some (.slice a0 n0 c0) := fun W hW => (hW.cell (p := ⟨bl, 1, none⟩) hbl).trans y1.out
  have QA : Hid (∀ a2 n2 c2 W, SL W a3 n3 c3 [1, 1] → SL W a2 n2 c2 [1, 1] → Calls Tryz.prog 20 #[.agg #[.int .i64 1, .slice a3 n3 c3], .agg #[.int .i64 1, .slice a2 n2 c2]] W (Gives (.bool true) W)) := Lib.hid (fun a2 n2 c2 W h1 h2 => by have q := rSame_any 1 1 a3 a2 n3 n2 c3 c2 [1, 1] [1, 1] W h1 h2; rw [four_sameR] at q; exact q)
  have QB : Hid (∀ a2 n2 c2 W, SL W a0 n0 c0 [5, 1] → SL W a2 n2 c2 [5, 1] → Calls Tryz.prog 12 #[.agg #[.int .i64 0, .slice a0 n0 c0], .agg #[.int .i64 0, .slice a2 n2 c2]] W (Gives (.bool true) W)) := Lib.hid (fun a2 n2 c2 W h1 h2 => by have q := runSame_any 0 0 a0 a2 n0 n2 c0 c2 [5, 1] [5, 1] W h1 h2; rw [four_same0] at q; exact q)
  have QR : Hid (∀ W, LvR w u1.heap.size pnm pa1 pn1 pc1 pa2 pn2 pc2 pa3 pn3 pc3 W → SL W a0 n0 c0 [5, 1] → Calls Tryz.prog 10 #[.agg #[.string pnm, .slice pa1 pn1 pc1, .slice pa2 pn2 pc2, .slice pa3 pn3 pc3], .agg #[.int .i64 0, .slice a0 n0 c0]] W (Gives (.bool true) W)) := Lib.hid (fun W h h2 => by have q := runRight_any pnm pa1 pn1 pc1 pa2 pn2 pc2 pa3 pn3 pc3 smallD 0 a0 n0 c0 [5, 1] W h.pr h2; rw [four_right] at q; exact q)
  have QN : Hid (∀ W, LvR w u1.heap.size pnm pa1 pn1 pc1 pa2 pn2 pc2 pa3 pn3 pc3 W → Calls Tryz.prog 10 #[.agg #[.string pnm, .slice pa1 pn1 pc1, .slice pa2 pn2 pc2, .slice pa3 pn3 pc3], .agg #[.int .i64 0, .slice none 0 0]] W (Gives (.bool false) W)) := Lib.hid (fun W h => by have q := runRight_any pnm pa1 pn1 pc1 pa2 pn2 pc2 pa3 pn3 pc3 smallD 0 none 0 0 [] W h.pr (SL.nil _); rw [no_right] at q; exact q)
  clear L S4 T x6 x7 x8 y0 y1 y2
  go_wp2
  refine wp_drawn (by kernel_rfl) (fun hHeld => ?_)
  refine wpAnyH_take (i := 0) (oi := { dst := some 33, op := Go.Op.move (Go.Operand.tmp 3), type := 34, pos := "law.go:19", after := #[], guard := none }) (v := ?v1) rfl (by as_aux_lemma => kernel_rfl) (by as_aux_lemma => kernel_rfl) (by as_aux_lemma => kernel_rfl) (fun _ _ _ h => h) (Or.inl ⟨by kernel_rfl, ?h1⟩) (by assumption) ?r1
  case h1 => (intro w hSw; (try dsimp only at hSw); go_simp; try with_reducible rfl)
  try simp only [Act.put, List.setIfInBounds_toArray, List.set_cons_zero, List.set_cons_succ]
  refine wpAnyH_take (i := 1) (oi := { dst := some 34, op := Go.Op.binOp Go.BinOp.eql 34 (Go.Operand.tmp 33) (Go.Operand.const (Go.Value.int Go.IntKind.i64 130)) 34, type := 4, pos := "law.go:19", after := #[{ on := 0, ground := Go.Ground.data }], guard := none }) (v := ?v2) rfl (by as_aux_lemma => kernel_rfl) (by as_aux_lemma => kernel_rfl) (by as_aux_lemma => kernel_rfl) (fun _ _ _ h => h) (Or.inl ⟨by kernel_rfl, ?h2⟩) (by assumption) ?r2
  case h2 => (intro w hSw; (try dsimp only at hSw); go_simp; try with_reducible rfl)
  try simp only [Act.put, List.setIfInBounds_toArray, List.set_cons_zero, List.set_cons_succ]
  refine wpAnyH_take (i := 2) (oi := { dst := some 35, op := Go.Op.move (Go.Operand.tmp 34), type := 4, pos := "law.go:19", after := #[{ on := 1, ground := Go.Ground.data }], guard := none }) (v := ?v3) rfl (by as_aux_lemma => kernel_rfl) (by as_aux_lemma => kernel_rfl) (by as_aux_lemma => kernel_rfl) (fun _ _ _ h => h) (Or.inl ⟨by kernel_rfl, ?h3⟩) (by assumption) ?r3
  case h3 => (intro w hSw; (try dsimp only at hSw); go_simp; try with_reducible rfl)
  try simp only [Act.put, List.setIfInBounds_toArray, List.set_cons_zero, List.set_cons_succ]
  refine wpAnyH_take (i := 3) (oi := { dst := some 36, op := Go.Op.move (Go.Operand.tmp 2), type := 33, pos := "law.go:19", after := #[{ on := 2, ground := Go.Ground.guard }], guard := some (2, true) }) (v := ?v4) rfl (by as_aux_lemma => kernel_rfl) (by as_aux_lemma => kernel_rfl) (by as_aux_lemma => kernel_rfl) (fun _ _ _ h => h) (Or.inl ⟨by kernel_rfl, ?h4⟩) (by assumption) ?r4
  case h4 => (intro w hSw; (try dsimp only at hSw); go_simp; try with_reducible rfl)
  try simp only [Act.put, List.setIfInBounds_toArray, List.set_cons_zero, List.set_cons_succ]
  refine wpAnyH_take (i := 4) (oi := { dst := some 37, op := Go.Op.call { callee := Go.Callee.builtin Go.Builtin.len, args := #[Go.Operand.tmp 36], argTypes := #[33] }, type := 3, pos := "law.go:19", after := #[{ on := 3, ground := Go.Ground.data }, { on := 2, ground := Go.Ground.guard }], guard := some (2, true) }) (v := ?v5) rfl (by as_aux_lemma => kernel_rfl) (by as_aux_lemma => kernel_rfl) (by as_aux_lemma => kernel_rfl) (fun _ _ _ h => h) (Or.inl ⟨by kernel_rfl, ?h5⟩) (by assumption) ?r5
  case h5 => (intro w hSw; (try dsimp only at hSw); go_simp; try with_reducible rfl)
  try simp only [Act.put, List.setIfInBounds_toArray, List.set_cons_zero, List.set_cons_succ]
  refine wpAnyH_take (i := 5) (oi := { dst := some 38, op := Go.Op.binOp Go.BinOp.eql 3 (Go.Operand.tmp 37) (Go.Operand.const (Go.Value.int Go.IntKind.i64 4)) 3, type := 4, pos := "law.go:19", after := #[{ on := 4, ground := Go.Ground.data }, { on := 2, ground := Go.Ground.guard }], guard := some (2, true) }) (v := ?v6) rfl (by as_aux_lemma => kernel_rfl) (by as_aux_lemma => kernel_rfl) (by as_aux_lemma => kernel_rfl) (fun _ _ _ h => h) (Or.inl ⟨by kernel_rfl, ?h6⟩) (by assumption) ?r6
  case h6 => (intro w hSw; (try dsimp only at hSw); go_simp; try with_reducible rfl)
  try simp only [Act.put, List.setIfInBounds_toArray, List.set_cons_zero, List.set_cons_succ]
  refine wpAnyH_take (i := 6) (oi := { dst := some 39, op := Go.Op.pick (Go.Operand.tmp 35) (Go.Operand.tmp 38) (Go.Operand.const (Go.Value.bool false)), type := 4, pos := "law.go:19", after := #[{ on := 2, ground := Go.Ground.data }, { on := 5, ground := Go.Ground.data }], guard := none }) (v := ?v7) rfl (by as_aux_lemma => kernel_rfl) (by as_aux_lemma => kernel_rfl) (by as_aux_lemma => kernel_rfl) (fun _ _ _ h => h) (Or.inl ⟨by kernel_rfl, ?h7⟩) (by assumption) ?r7
  case h7 => (intro w hSw; (try dsimp only at hSw); go_simp; try with_reducible rfl)
  try simp only [Act.put, List.setIfInBounds_toArray, List.set_cons_zero, List.set_cons_succ]
  refine wpAnyH_take (i := 7) (oi := { dst := some 40, op := Go.Op.move (Go.Operand.tmp 39), type := 4, pos := "law.go:19", after := #[{ on := 6, ground := Go.Ground.data }, { on := 2, ground := Go.Ground.chain }], guard := none }) (v := ?v8) rfl (by as_aux_lemma => kernel_rfl) (by as_aux_lemma => kernel_rfl) (by as_aux_lemma => kernel_rfl) (fun _ _ _ h => h) (Or.inl ⟨by kernel_rfl, ?h8⟩) (by assumption) ?r8
  case h8 => (intro w hSw; (try dsimp only at hSw); go_simp; try with_reducible rfl)
  try simp only [Act.put, List.setIfInBounds_toArray, List.set_cons_zero, List.set_cons_succ]
  refine wpAnyH_take (i := 8) (oi := { dst := some 41, op := Go.Op.move (Go.Operand.tmp 2), type := 33, pos := "law.go:19", after := #[{ on := 7, ground := Go.Ground.guard }], guard := some (7, true) }) (v := ?v9) rfl (by as_aux_lemma => kernel_rfl) (by as_aux_lemma => kernel_rfl) (by as_aux_lemma => kernel_rfl) (fun _ _ _ h => h) (Or.inl ⟨by kernel_rfl, ?h9⟩) (by assumption) ?r9
  case h9 => (intro w hSw; (try dsimp only at hSw); go_simp; try with_reducible rfl)
  try simp only [Act.put, List.setIfInBounds_toArray, List.set_cons_zero, List.set_cons_succ]
  refine wpAnyH_take (i := 9) (oi := { dst := some 42, op := Go.Op.indexAddr 33 (Go.Operand.tmp 41) (Go.Operand.const (Go.Value.int Go.IntKind.i64 3)), type := 0, pos := "law.go:19", after := #[{ on := 8, ground := Go.Ground.data }, { on := 7, ground := Go.Ground.guard }], guard := some (7, true) }) (v := ?v10) rfl (by as_aux_lemma => kernel_rfl) (by as_aux_lemma => kernel_rfl) (by as_aux_lemma => kernel_rfl) (fun _ _ _ h => h) (Or.inl ⟨by kernel_rfl, ?h10⟩) (by assumption) ?r10
  case h10 => (intro w hSw; (try dsimp only at hSw); go_simp; try with_reducible rfl)
  try simp only [Act.put, List.setIfInBounds_toArray, List.set_cons_zero, List.set_cons_succ]
  refine wpAnyH_take (i := 10) (oi := { dst := some 43, op := Go.Op.load 39 (Go.Operand.tmp 42), type := 39, pos := "law.go:19", after := #[{ on := 9, ground := Go.Ground.data }, { on := 7, ground := Go.Ground.guard }], guard := some (7, true) }) (v := ?v11) rfl (by as_aux_lemma => kernel_rfl) (by as_aux_lemma => kernel_rfl) (by as_aux_lemma => kernel_rfl) (fun _ _ _ h => h) (Or.inl ⟨by kernel_rfl, ?h11⟩) (by assumption) ?r11
  case h11 => (intro w hSw; (try dsimp only at hSw); go_simp; try with_reducible rfl)
  try simp only [Act.put, List.setIfInBounds_toArray, List.set_cons_zero, List.set_cons_succ]
  refine wpAnyH_ready (rs := [11]) (by as_aux_lemma => kernel_rfl) (by simp) ?_
  refine AllReadyH.cons (o := { dst := some 44, op := Go.Op.buildSlice 27 2 #[(0, Go.Operand.const (Go.Value.int Go.IntKind.i64 1)), (1, Go.Operand.const (Go.Value.int Go.IntKind.i64 1))], type := 27, pos := "law.go:19", after := #[{ on := 7, ground := Go.Ground.guard }], guard := some (7, true) }) rfl (fun K hK => ?_) AllReadyH.nil
  go_simp
  obtain ⟨v11, ht11⟩ : ∃ v11, v11 = (u8.alloc (.cells #[.int .i64 1, .int .i64 1] 3)).drew := ⟨_, rfl⟩
  have sXA0 : SL (u8.alloc (.cells #[.int .i64 1, .int .i64 1] 3)) (some ⟨u8.heap.size, 0, none⟩) 2 2 [1, 1] := rsl_lit _ _ 2 rfl (by omega) _ rfl
  have sXA' : SL v11 (some ⟨u8.heap.size, 0, none⟩) 2 2 [1, 1] := (by rw [ht11]; exact ⟨sXA0.len, sXA0.cap, sXA0.max, sXA0.sees⟩)
  have hB11 : Below u8.heap.size u8 v11 := (by rw [ht11]; exact hHeld.alloc hHeld.size (.cells #[.int .i64 1, .int .i64 1] 3))
  rw [← ht11]
  clear ht11 sXA0
  have XA : ∀ W, Below v11.heap.size v11 W → SL W (some ⟨u8.heap.size, 0, none⟩) 2 2 [1, 1] := fun W hW => sXA'.below hW
  refine hK.out _ _ (hB11) (fun hHeld => ?_)
  clear hK K
  try simp only [Act.put, List.setIfInBounds_toArray, List.set_cons_zero, List.set_cons_succ]
  refine wpAnyH_now hHeld (fun hHeld => ?_)
  replace LF := rebase LF (hB11)
  replace SF3 := rebase SF3 (hB11)
  replace SF0 := rebase SF0 (hB11)
  replace z0 := rebase z0 (hB11)
  replace z1 := rebase z1 (hB11)
  replace z2 := rebase z2 (hB11)
  replace z3 := rebase z3 (hB11)
  replace s1 := rebase s1 (hB11)
  replace t6 := rebase t6 (hB11)
  replace t7 := rebase t7 (hB11)
  replace t0 := rebase t0 (hB11)
  replace t1 := rebase t1 (hB11)
  refine wpAnyH_take (i := 12) (oi := { dst := some 45, op := Go.Op.build 39 #[(0, Go.Operand.const (Go.Value.int Go.IntKind.i64 1)), (1, Go.Operand.tmp 44)], type := 39, pos := "law.go:19", after := #[{ on := 11, ground := Go.Ground.data }, { on := 7, ground := Go.Ground.guard }], guard := some (7, true) }) (v := ?v12) rfl (by as_aux_lemma => kernel_rfl) (by as_aux_lemma => kernel_rfl) (by as_aux_lemma => kernel_rfl) (fun _ _ _ h => h) (Or.inl ⟨by kernel_rfl, ?h12⟩) (by assumption) ?r12
  case h12 => (intro w hSw; (try dsimp only at hSw); go_simp; try with_reducible rfl)
  try simp only [Act.put, List.setIfInBounds_toArray, List.set_cons_zero, List.set_cons_succ]
  refine wpAnyH_ready (rs := [13]) (by as_aux_lemma => kernel_rfl) (by simp) ?_
  refine AllReadyH.cons (o := { dst := some 46, op := Go.Op.call { callee := Go.Callee.value (Go.Operand.func 20), args := #[Go.Operand.tmp 43, Go.Operand.tmp 45], argTypes := #[39, 39] }, type := 4, pos := "law.go:19", after := #[{ on := 10, ground := Go.Ground.data }, { on := 12, ground := Go.Ground.data }, { on := 7, ground := Go.Ground.chain }, { on := 7, ground := Go.Ground.guard }], guard := some (7, true) }) rfl (fun K hK => ?_) AllReadyH.nil
  go_simp
  with_reducible refine (QA.out _ _ _ _ (SF3 _ hHeld) (XA _ hHeld)).mono ?_
  rintro e v13 ⟨rfl, b13⟩
  have hB13 := hHeld.trans (b13.mono hHeld.size)
  go_simp
  refine hK.out _ _ (hB13) (fun hHeld => ?_)
  clear hK K
  try simp only [Act.put, List.setIfInBounds_toArray, List.set_cons_zero, List.set_cons_succ]
  refine wpAnyH_now hHeld (fun hHeld => ?_)
  replace LF := rebase LF (hB13)
  replace SF3 := rebase SF3 (hB13)
  replace SF0 := rebase SF0 (hB13)
  replace z0 := rebase z0 (hB13)
  replace z1 := rebase z1 (hB13)
  replace z2 := rebase z2 (hB13)
  replace z3 := rebase z3 (hB13)
  replace s1 := rebase s1 (hB13)
  replace t6 := rebase t6 (hB13)
  replace t7 := rebase t7 (hB13)
  replace t0 := rebase t0 (hB13)
  replace t1 := rebase t1 (hB13)
  replace XA := rebase XA (hB13)
  refine wpAnyH_take (i := 14) (oi := { dst := some 47, op := Go.Op.pick (Go.Operand.tmp 40) (Go.Operand.tmp 46) (Go.Operand.const (Go.Value.bool false)), type := 4, pos := "law.go:19", after := #[{ on := 7, ground := Go.Ground.data }, { on := 13, ground := Go.Ground.data }], guard := none }) (v := ?v13) rfl (by as_aux_lemma => kernel_rfl) (by as_aux_lemma => kernel_rfl) (by as_aux_lemma => kernel_rfl) (fun _ _ _ h => h) (Or.inl ⟨by kernel_rfl, ?h13⟩) (by assumption) ?r13
  case h13 => (intro w hSw; (try dsimp only at hSw); go_simp; try with_reducible rfl)
  try simp only [Act.put, List.setIfInBounds_toArray, List.set_cons_zero, List.set_cons_succ]
  refine wpAnyH_take (i := 15) (oi := { dst := some 48, op := Go.Op.move (Go.Operand.tmp 47), type := 4, pos := "law.go:19", after := #[{ on := 14, ground := Go.Ground.data }, { on := 13, ground := Go.Ground.chain }], guard := none }) (v := ?v14) rfl (by as_aux_lemma => kernel_rfl) (by as_aux_lemma => kernel_rfl) (by as_aux_lemma => kernel_rfl) (fun _ _ _ h => h) (Or.inl ⟨by kernel_rfl, ?h14⟩) (by assumption) ?r14
  case h14 => (intro w hSw; (try dsimp only at hSw); go_simp; try with_reducible rfl)
  try simp only [Act.put, List.setIfInBounds_toArray, List.set_cons_zero, List.set_cons_succ]
  refine wpAnyH_take (i := 16) (oi := { dst := some 49, op := Go.Op.move (Go.Operand.tmp 5), type := 34, pos := "law.go:19", after := #[{ on := 15, ground := Go.Ground.guard }], guard := some (15, true) }) (v := ?v15) rfl (by as_aux_lemma => kernel_rfl) (by as_aux_lemma => kernel_rfl) (by as_aux_lemma => kernel_rfl) (fun _ _ _ h => h) (Or.inl ⟨by kernel_rfl, ?h15⟩) (by assumption) ?r15
  case h15 => (intro w hSw; (try dsimp only at hSw); go_simp; try with_reducible rfl)
  try simp only [Act.put, List.setIfInBounds_toArray, List.set_cons_zero, List.set_cons_succ]
  refine wpAnyH_take (i := 17) (oi := { dst := some 50, op := Go.Op.binOp Go.BinOp.eql 34 (Go.Operand.tmp 49) (Go.Operand.const (Go.Value.int Go.IntKind.i64 131)) 34, type := 4, pos := "law.go:19", after := #[{ on := 16, ground := Go.Ground.data }, { on := 15, ground := Go.Ground.guard }], guard := some (15, true) }) (v := ?v16) rfl (by as_aux_lemma => kernel_rfl) (by as_aux_lemma => kernel_rfl) (by as_aux_lemma => kernel_rfl) (fun _ _ _ h => h) (Or.inl ⟨by kernel_rfl, ?h16⟩) (by assumption) ?r16
  case h16 => (intro w hSw; (try dsimp only at hSw); go_simp; try with_reducible rfl)
  try simp only [Act.put, List.setIfInBounds_toArray, List.set_cons_zero, List.set_cons_succ]
  refine wpAnyH_take (i := 18) (oi := { dst := some 51, op := Go.Op.pick (Go.Operand.tmp 48) (Go.Operand.tmp 50) (Go.Operand.const (Go.Value.bool false)), type := 4, pos := "law.go:19", after := #[{ on := 15, ground := Go.Ground.data }, { on := 17, ground := Go.Ground.data }], guard := none }) (v := ?v17) rfl (by as_aux_lemma => kernel_rfl) (by as_aux_lemma => kernel_rfl) (by as_aux_lemma => kernel_rfl) (fun _ _ _ h => h) (Or.inl ⟨by kernel_rfl, ?h17⟩) (by assumption) ?r17
  case h17 => (intro w hSw; (try dsimp only at hSw); go_simp; try with_reducible rfl)
  try simp only [Act.put, List.setIfInBounds_toArray, List.set_cons_zero, List.set_cons_succ]
  refine wpAnyH_take (i := 19) (oi := { dst := some 52, op := Go.Op.move (Go.Operand.tmp 51), type := 4, pos := "law.go:19", after := #[{ on := 18, ground := Go.Ground.data }, { on := 15, ground := Go.Ground.chain }], guard := none }) (v := ?v18) rfl (by as_aux_lemma => kernel_rfl) (by as_aux_lemma => kernel_rfl) (by as_aux_lemma => kernel_rfl) (fun _ _ _ h => h) (Or.inl ⟨by kernel_rfl, ?h18⟩) (by assumption) ?r18
  case h18 => (intro w hSw; (try dsimp only at hSw); go_simp; try with_reducible rfl)
  try simp only [Act.put, List.setIfInBounds_toArray, List.set_cons_zero, List.set_cons_succ]
  refine wpAnyH_take (i := 20) (oi := { dst := some 53, op := Go.Op.fieldAddr 39 (Go.Operand.tmp 4) 1, type := 0, pos := "law.go:19", after := #[{ on := 19, ground := Go.Ground.guard }], guard := some (19, true) }) (v := ?v19) rfl (by as_aux_lemma => kernel_rfl) (by as_aux_lemma => kernel_rfl) (by as_aux_lemma => kernel_rfl) (fun _ _ _ h => h) (Or.inl ⟨by kernel_rfl, ?h19⟩) (by assumption) ?r19
  case h19 => (intro w hSw; (try dsimp only at hSw); go_simp; try with_reducible rfl)
  try simp only [Act.put, List.setIfInBounds_toArray, List.set_cons_zero, List.set_cons_succ]
  refine wpAnyH_take (i := 21) (oi := { dst := some 54, op := Go.Op.load 27 (Go.Operand.tmp 53), type := 27, pos := "law.go:19", after := #[{ on := 20, ground := Go.Ground.data }, { on := 19, ground := Go.Ground.guard }], guard := some (19, true) }) (v := ?v20) rfl (by as_aux_lemma => kernel_rfl) (by as_aux_lemma => kernel_rfl) (by as_aux_lemma => kernel_rfl) (fun _ _ _ h => h) (Or.inl ⟨by kernel_rfl, ?h20⟩) (by assumption) ?r20
  case h20 => (intro w hSw; (try dsimp only at hSw); go_simp; try with_reducible rfl)
  try simp only [Act.put, List.setIfInBounds_toArray, List.set_cons_zero, List.set_cons_succ]
  refine wpAnyH_take (i := 22) (oi := { dst := some 55, op := Go.Op.call { callee := Go.Callee.builtin Go.Builtin.len, args := #[Go.Operand.tmp 54], argTypes := #[27] }, type := 3, pos := "law.go:19", after := #[{ on := 21, ground := Go.Ground.data }, { on := 19, ground := Go.Ground.guard }], guard := some (19, true) }) (v := ?v21) rfl (by as_aux_lemma => kernel_rfl) (by as_aux_lemma => kernel_rfl) (by as_aux_lemma => kernel_rfl) (fun _ _ _ h => h) (Or.inl ⟨by kernel_rfl, ?h21⟩) (by assumption) ?r21
  case h21 => (intro w hSw; (try dsimp only at hSw); go_simp; try with_reducible rfl)
  try simp only [Act.put, List.setIfInBounds_toArray, List.set_cons_zero, List.set_cons_succ]
  refine wpAnyH_take (i := 23) (oi := { dst := some 56, op := Go.Op.binOp Go.BinOp.eql 3 (Go.Operand.tmp 55) (Go.Operand.const (Go.Value.int Go.IntKind.i64 0)) 3, type := 4, pos := "law.go:19", after := #[{ on := 22, ground := Go.Ground.data }, { on := 19, ground := Go.Ground.guard }], guard := some (19, true) }) (v := ?v22) rfl (by as_aux_lemma => kernel_rfl) (by as_aux_lemma => kernel_rfl) (by as_aux_lemma => kernel_rfl) (fun _ _ _ h => h) (Or.inl ⟨by kernel_rfl, ?h22⟩) (by assumption) ?r22
  case h22 => (intro w hSw; (try dsimp only at hSw); go_simp; try with_reducible rfl)
  try simp only [Act.put, List.setIfInBounds_toArray, List.set_cons_zero, List.set_cons_succ]
  refine wpAnyH_take (i := 24) (oi := { dst := some 57, op := Go.Op.pick (Go.Operand.tmp 52) (Go.Operand.tmp 56) (Go.Operand.const (Go.Value.bool false)), type := 4, pos := "law.go:19", after := #[{ on := 19, ground := Go.Ground.data }, { on := 23, ground := Go.Ground.data }], guard := none }) (v := ?v23) rfl (by as_aux_lemma => kernel_rfl) (by as_aux_lemma => kernel_rfl) (by as_aux_lemma => kernel_rfl) (fun _ _ _ h => h) (Or.inl ⟨by kernel_rfl, ?h23⟩) (by assumption) ?r23
  case h23 => (intro w hSw; (try dsimp only at hSw); go_simp; try with_reducible rfl)
  try simp only [Act.put, List.setIfInBounds_toArray, List.set_cons_zero, List.set_cons_succ]
  refine wpAnyH_take (i := 25) (oi := { dst := some 58, op := Go.Op.move (Go.Operand.tmp 57), type := 4, pos := "law.go:19", after := #[{ on := 24, ground := Go.Ground.data }, { on := 19, ground := Go.Ground.chain }], guard := none }) (v := ?v24) rfl (by as_aux_lemma => kernel_rfl) (by as_aux_lemma => kernel_rfl) (by as_aux_lemma => kernel_rfl) (fun _ _ _ h => h) (Or.inl ⟨by kernel_rfl, ?h24⟩) (by assumption) ?r24
  case h24 => (intro w hSw; (try dsimp only at hSw); go_simp; try with_reducible rfl)
  try simp only [Act.put, List.setIfInBounds_toArray, List.set_cons_zero, List.set_cons_succ]
  refine wpAnyH_take (i := 26) (oi := { dst := some 59, op := Go.Op.move (Go.Operand.tmp 7), type := 34, pos := "law.go:19", after := #[{ on := 25, ground := Go.Ground.guard }], guard := some (25, true) }) (v := ?v25) rfl (by as_aux_lemma => kernel_rfl) (by as_aux_lemma => kernel_rfl) (by as_aux_lemma => kernel_rfl) (fun _ _ _ h => h) (Or.inl ⟨by kernel_rfl, ?h25⟩) (by assumption) ?r25
  case h25 => (intro w hSw; (try dsimp only at hSw); go_simp; try with_reducible rfl)
  try simp only [Act.put, List.setIfInBounds_toArray, List.set_cons_zero, List.set_cons_succ]
  refine wpAnyH_take (i := 27) (oi := { dst := some 60, op := Go.Op.binOp Go.BinOp.eql 34 (Go.Operand.tmp 59) (Go.Operand.const (Go.Value.int Go.IntKind.i64 110)) 34, type := 4, pos := "law.go:19", after := #[{ on := 26, ground := Go.Ground.data }, { on := 25, ground := Go.Ground.guard }], guard := some (25, true) }) (v := ?v26) rfl (by as_aux_lemma => kernel_rfl) (by as_aux_lemma => kernel_rfl) (by as_aux_lemma => kernel_rfl) (fun _ _ _ h => h) (Or.inl ⟨by kernel_rfl, ?h26⟩) (by assumption) ?r26
  case h26 => (intro w hSw; (try dsimp only at hSw); go_simp; try with_reducible rfl)
  try simp only [Act.put, List.setIfInBounds_toArray, List.set_cons_zero, List.set_cons_succ]
  refine wpAnyH_take (i := 28) (oi := { dst := some 61, op := Go.Op.pick (Go.Operand.tmp 58) (Go.Operand.tmp 60) (Go.Operand.const (Go.Value.bool false)), type := 4, pos := "law.go:19", after := #[{ on := 25, ground := Go.Ground.data }, { on := 27, ground := Go.Ground.data }], guard := none }) (v := ?v27) rfl (by as_aux_lemma => kernel_rfl) (by as_aux_lemma => kernel_rfl) (by as_aux_lemma => kernel_rfl) (fun _ _ _ h => h) (Or.inl ⟨by kernel_rfl, ?h27⟩) (by assumption) ?r27
  case h27 => (intro w hSw; (try dsimp only at hSw); go_simp; try with_reducible rfl)
  try simp only [Act.put, List.setIfInBounds_toArray, List.set_cons_zero, List.set_cons_succ]
  refine wpAnyH_take (i := 29) (oi := { dst := some 62, op := Go.Op.move (Go.Operand.tmp 61), type := 4, pos := "law.go:19", after := #[{ on := 28, ground := Go.Ground.data }, { on := 25, ground := Go.Ground.chain }], guard := none }) (v := ?v28) rfl (by as_aux_lemma => kernel_rfl) (by as_aux_lemma => kernel_rfl) (by as_aux_lemma => kernel_rfl) (fun _ _ _ h => h) (Or.inl ⟨by kernel_rfl, ?h28⟩) (by assumption) ?r28
  case h28 => (intro w hSw; (try dsimp only at hSw); go_simp; try with_reducible rfl)
  try simp only [Act.put, List.setIfInBounds_toArray, List.set_cons_zero, List.set_cons_succ]
  refine wpAnyH_take (i := 30) (oi := { dst := some 63, op := Go.Op.load 26 (Go.Operand.tmp 1), type := 26, pos := "law.go:19", after := #[{ on := 29, ground := Go.Ground.guard }], guard := some (29, true) }) (v := ?v29) rfl (by as_aux_lemma => kernel_rfl) (by as_aux_lemma => kernel_rfl) (by as_aux_lemma => kernel_rfl) (fun _ _ _ h => h) (Or.inl ⟨by kernel_rfl, ?h29⟩) (by assumption) ?r29
  case h29 => (intro w hSw; (try dsimp only at hSw); go_simp; try with_reducible rfl)
  try simp only [Act.put, List.setIfInBounds_toArray, List.set_cons_zero, List.set_cons_succ]
  refine wpAnyH_take (i := 31) (oi := { dst := some 64, op := Go.Op.move (Go.Operand.tmp 2), type := 33, pos := "law.go:19", after := #[{ on := 29, ground := Go.Ground.guard }], guard := some (29, true) }) (v := ?v30) rfl (by as_aux_lemma => kernel_rfl) (by as_aux_lemma => kernel_rfl) (by as_aux_lemma => kernel_rfl) (fun _ _ _ h => h) (Or.inl ⟨by kernel_rfl, ?h30⟩) (by assumption) ?r30
  case h30 => (intro w hSw; (try dsimp only at hSw); go_simp; try with_reducible rfl)
  try simp only [Act.put, List.setIfInBounds_toArray, List.set_cons_zero, List.set_cons_succ]
  refine wpAnyH_take (i := 32) (oi := { dst := some 65, op := Go.Op.indexAddr 33 (Go.Operand.tmp 64) (Go.Operand.const (Go.Value.int Go.IntKind.i64 0)), type := 0, pos := "law.go:19", after := #[{ on := 31, ground := Go.Ground.data }, { on := 29, ground := Go.Ground.guard }], guard := some (29, true) }) (v := ?v31) rfl (by as_aux_lemma => kernel_rfl) (by as_aux_lemma => kernel_rfl) (by as_aux_lemma => kernel_rfl) (fun _ _ _ h => h) (Or.inl ⟨by kernel_rfl, ?h31⟩) (by assumption) ?r31
  case h31 => (intro w hSw; (try dsimp only at hSw); go_simp; try with_reducible rfl)
  try simp only [Act.put, List.setIfInBounds_toArray, List.set_cons_zero, List.set_cons_succ]
  refine wpAnyH_take (i := 33) (oi := { dst := some 66, op := Go.Op.load 39 (Go.Operand.tmp 65), type := 39, pos := "law.go:19", after := #[{ on := 32, ground := Go.Ground.data }, { on := 29, ground := Go.Ground.guard }], guard := some (29, true) }) (v := ?v32) rfl (by as_aux_lemma => kernel_rfl) (by as_aux_lemma => kernel_rfl) (by as_aux_lemma => kernel_rfl) (fun _ _ _ h => h) (Or.inl ⟨by kernel_rfl, ?h32⟩) (by assumption) ?r32
  case h32 => (intro w hSw; (try dsimp only at hSw); go_simp; try with_reducible rfl)
  try simp only [Act.put, List.setIfInBounds_toArray, List.set_cons_zero, List.set_cons_succ]
  refine wpAnyH_ready (rs := [34]) (by as_aux_lemma => kernel_rfl) (by simp) ?_
  refine AllReadyH.cons (o := { dst := some 67, op := Go.Op.call { callee := Go.Callee.value (Go.Operand.func 10), args := #[Go.Operand.tmp 63, Go.Operand.tmp 66], argTypes := #[26, 39] }, type := 4, pos := "law.go:19", after := #[{ on := 30, ground := Go.Ground.data }, { on := 33, ground := Go.Ground.data }, { on := 29, ground := Go.Ground.chain }, { on := 29, ground := Go.Ground.guard }], guard := some (29, true) }) rfl (fun K hK => ?_) AllReadyH.nil
  go_simp
  with_reducible refine (QR.out _ (LF _ hHeld) (SF0 _ hHeld)).mono ?_
  rintro e v34 ⟨rfl, b34⟩
  have hB34 := hHeld.trans (b34.mono hHeld.size)
  go_simp
  refine hK.out _ _ (hB34) (fun hHeld => ?_)
  clear hK K
  try simp only [Act.put, List.setIfInBounds_toArray, List.set_cons_zero, List.set_cons_succ]
  refine wpAnyH_now hHeld (fun hHeld => ?_)
  replace LF := rebase LF (hB34)
  replace SF3 := rebase SF3 (hB34)
  replace SF0 := rebase SF0 (hB34)
  replace z0 := rebase z0 (hB34)
  replace z1 := rebase z1 (hB34)
  replace z2 := rebase z2 (hB34)
  replace z3 := rebase z3 (hB34)
  replace s1 := rebase s1 (hB34)
  replace t6 := rebase t6 (hB34)
  replace t7 := rebase t7 (hB34)
  replace t0 := rebase t0 (hB34)
  replace t1 := rebase t1 (hB34)
  replace XA := rebase XA (hB34)
  refine wpAnyH_take (i := 35) (oi := { dst := some 68, op := Go.Op.pick (Go.Operand.tmp 62) (Go.Operand.tmp 67) (Go.Operand.const (Go.Value.bool false)), type := 4, pos := "law.go:19", after := #[{ on := 29, ground := Go.Ground.data }, { on := 34, ground := Go.Ground.data }], guard := none }) (v := ?v33) rfl (by as_aux_lemma => kernel_rfl) (by as_aux_lemma => kernel_rfl) (by as_aux_lemma => kernel_rfl) (fun _ _ _ h => h) (Or.inl ⟨by kernel_rfl, ?h33⟩) (by assumption) ?r33
  case h33 => (intro w hSw; (try dsimp only at hSw); go_simp; try with_reducible rfl)
  try simp only [Act.put, List.setIfInBounds_toArray, List.set_cons_zero, List.set_cons_succ]
  refine wpAnyH_take (i := 36) (oi := { dst := some 69, op := Go.Op.move (Go.Operand.tmp 68), type := 4, pos := "law.go:19", after := #[{ on := 35, ground := Go.Ground.data }, { on := 34, ground := Go.Ground.chain }], guard := none }) (v := ?v34) rfl (by as_aux_lemma => kernel_rfl) (by as_aux_lemma => kernel_rfl) (by as_aux_lemma => kernel_rfl) (fun _ _ _ h => h) (Or.inl ⟨by kernel_rfl, ?h34⟩) (by assumption) ?r34
  case h34 => (intro w hSw; (try dsimp only at hSw); go_simp; try with_reducible rfl)
  try simp only [Act.put, List.setIfInBounds_toArray, List.set_cons_zero, List.set_cons_succ]
  refine wpAnyH_take (i := 37) (oi := { dst := some 70, op := Go.Op.load 26 (Go.Operand.tmp 1), type := 26, pos := "law.go:19", after := #[{ on := 36, ground := Go.Ground.guard }], guard := some (36, true) }) (v := ?v35) rfl (by as_aux_lemma => kernel_rfl) (by as_aux_lemma => kernel_rfl) (by as_aux_lemma => kernel_rfl) (fun _ _ _ h => h) (Or.inl ⟨by kernel_rfl, ?h35⟩) (by assumption) ?r35
  case h35 => (intro w hSw; (try dsimp only at hSw); go_simp; try with_reducible rfl)
  try simp only [Act.put, List.setIfInBounds_toArray, List.set_cons_zero, List.set_cons_succ]
  refine wpAnyH_take (i := 38) (oi := { dst := some 71, op := Go.Op.build 39 #[], type := 39, pos := "law.go:19", after := #[{ on := 36, ground := Go.Ground.guard }], guard := some (36, true) }) (v := ?v36) rfl (by as_aux_lemma => kernel_rfl) (by as_aux_lemma => kernel_rfl) (by as_aux_lemma => kernel_rfl) (fun _ _ _ h => h) (Or.inl ⟨by kernel_rfl, ?h36⟩) (by assumption) ?r36
  case h36 => (intro w hSw; (try dsimp only at hSw); go_simp; try with_reducible rfl)
  try simp only [Act.put, List.setIfInBounds_toArray, List.set_cons_zero, List.set_cons_succ]
  refine wpAnyH_ready (rs := [39]) (by as_aux_lemma => kernel_rfl) (by simp) ?_
  refine AllReadyH.cons (o := { dst := some 72, op := Go.Op.call { callee := Go.Callee.value (Go.Operand.func 10), args := #[Go.Operand.tmp 70, Go.Operand.tmp 71], argTypes := #[26, 39] }, type := 4, pos := "law.go:19", after := #[{ on := 37, ground := Go.Ground.data }, { on := 38, ground := Go.Ground.data }, { on := 36, ground := Go.Ground.chain }, { on := 36, ground := Go.Ground.guard }], guard := some (36, true) }) rfl (fun K hK => ?_) AllReadyH.nil
  go_simp
  with_reducible refine (QN.out _ (LF _ hHeld)).mono ?_
  rintro e v39 ⟨rfl, b39⟩
  have hB39 := hHeld.trans (b39.mono hHeld.size)
  go_simp
  refine hK.out _ _ (hB39) (fun hHeld => ?_)
  clear hK K
  try simp only [Act.put, List.setIfInBounds_toArray, List.set_cons_zero, List.set_cons_succ]
  refine wpAnyH_now hHeld (fun hHeld => ?_)
  replace LF := rebase LF (hB39)
  replace SF3 := rebase SF3 (hB39)
  replace SF0 := rebase SF0 (hB39)
  replace z0 := rebase z0 (hB39)
  replace z1 := rebase z1 (hB39)
  replace z2 := rebase z2 (hB39)
  replace z3 := rebase z3 (hB39)
  replace s1 := rebase s1 (hB39)
  replace t6 := rebase t6 (hB39)
  replace t7 := rebase t7 (hB39)
  replace t0 := rebase t0 (hB39)
  replace t1 := rebase t1 (hB39)
  replace XA := rebase XA (hB39)
  refine wpAnyH_take (i := 40) (oi := { dst := some 73, op := Go.Op.unOp Go.UnOp.not 4 (Go.Operand.tmp 72), type := 4, pos := "law.go:19", after := #[{ on := 39, ground := Go.Ground.data }, { on := 36, ground := Go.Ground.guard }], guard := some (36, true) }) (v := ?v37) rfl (by as_aux_lemma => kernel_rfl) (by as_aux_lemma => kernel_rfl) (by as_aux_lemma => kernel_rfl) (fun _ _ _ h => h) (Or.inl ⟨by kernel_rfl, ?h37⟩) (by assumption) ?r37
  case h37 => (intro w hSw; (try dsimp only at hSw); go_simp; try with_reducible rfl)
  try simp only [Act.put, List.setIfInBounds_toArray, List.set_cons_zero, List.set_cons_succ]
  refine wpAnyH_take (i := 41) (oi := { dst := some 74, op := Go.Op.pick (Go.Operand.tmp 69) (Go.Operand.tmp 73) (Go.Operand.const (Go.Value.bool false)), type := 4, pos := "law.go:19", after := #[{ on := 36, ground := Go.Ground.data }, { on := 40, ground := Go.Ground.data }], guard := none }) (v := ?v38) rfl (by as_aux_lemma => kernel_rfl) (by as_aux_lemma => kernel_rfl) (by as_aux_lemma => kernel_rfl) (fun _ _ _ h => h) (Or.inl ⟨by kernel_rfl, ?h38⟩) (by assumption) ?r38
  case h38 => (intro w hSw; (try dsimp only at hSw); go_simp; try with_reducible rfl)
  try simp only [Act.put, List.setIfInBounds_toArray, List.set_cons_zero, List.set_cons_succ]
  refine wpAnyH_take (i := 42) (oi := { dst := some 75, op := Go.Op.move (Go.Operand.tmp 74), type := 4, pos := "law.go:19", after := #[{ on := 41, ground := Go.Ground.data }, { on := 39, ground := Go.Ground.chain }], guard := none }) (v := ?v39) rfl (by as_aux_lemma => kernel_rfl) (by as_aux_lemma => kernel_rfl) (by as_aux_lemma => kernel_rfl) (fun _ _ _ h => h) (Or.inl ⟨by kernel_rfl, ?h39⟩) (by assumption) ?r39
  case h39 => (intro w hSw; (try dsimp only at hSw); go_simp; try with_reducible rfl)
  try simp only [Act.put, List.setIfInBounds_toArray, List.set_cons_zero, List.set_cons_succ]
  refine wpAnyH_take (i := 43) (oi := { dst := some 76, op := Go.Op.move (Go.Operand.tmp 2), type := 33, pos := "law.go:19", after := #[{ on := 42, ground := Go.Ground.guard }], guard := some (42, true) }) (v := ?v40) rfl (by as_aux_lemma => kernel_rfl) (by as_aux_lemma => kernel_rfl) (by as_aux_lemma => kernel_rfl) (fun _ _ _ h => h) (Or.inl ⟨by kernel_rfl, ?h40⟩) (by assumption) ?r40
  case h40 => (intro w hSw; (try dsimp only at hSw); go_simp; try with_reducible rfl)
  try simp only [Act.put, List.setIfInBounds_toArray, List.set_cons_zero, List.set_cons_succ]
  refine wpAnyH_take (i := 44) (oi := { dst := some 77, op := Go.Op.indexAddr 33 (Go.Operand.tmp 76) (Go.Operand.const (Go.Value.int Go.IntKind.i64 0)), type := 0, pos := "law.go:19", after := #[{ on := 43, ground := Go.Ground.data }, { on := 42, ground := Go.Ground.guard }], guard := some (42, true) }) (v := ?v41) rfl (by as_aux_lemma => kernel_rfl) (by as_aux_lemma => kernel_rfl) (by as_aux_lemma => kernel_rfl) (fun _ _ _ h => h) (Or.inl ⟨by kernel_rfl, ?h41⟩) (by assumption) ?r41
  case h41 => (intro w hSw; (try dsimp only at hSw); go_simp; try with_reducible rfl)
  try simp only [Act.put, List.setIfInBounds_toArray, List.set_cons_zero, List.set_cons_succ]
  refine wpAnyH_take (i := 45) (oi := { dst := some 78, op := Go.Op.load 39 (Go.Operand.tmp 77), type := 39, pos := "law.go:19", after := #[{ on := 44, ground := Go.Ground.data }, { on := 42, ground := Go.Ground.guard }], guard := some (42, true) }) (v := ?v42) rfl (by as_aux_lemma => kernel_rfl) (by as_aux_lemma => kernel_rfl) (by as_aux_lemma => kernel_rfl) (fun _ _ _ h => h) (Or.inl ⟨by kernel_rfl, ?h42⟩) (by assumption) ?r42
  case h42 => (intro w hSw; (try dsimp only at hSw); go_simp; try with_reducible rfl)
  try simp only [Act.put, List.setIfInBounds_toArray, List.set_cons_zero, List.set_cons_succ]
  refine wpAnyH_ready (rs := [46]) (by as_aux_lemma => kernel_rfl) (by simp) ?_
  refine AllReadyH.cons (o := { dst := some 79, op := Go.Op.buildSlice 27 2 #[(0, Go.Operand.const (Go.Value.int Go.IntKind.i64 5)), (1, Go.Operand.const (Go.Value.int Go.IntKind.i64 1))], type := 27, pos := "law.go:19", after := #[{ on := 42, ground := Go.Ground.guard }], guard := some (42, true) }) rfl (fun K hK => ?_) AllReadyH.nil
  go_simp
  obtain ⟨v46, ht46⟩ : ∃ v46, v46 = v39.alloc (.cells #[.int .i64 5, .int .i64 1] 3) := ⟨_, rfl⟩
  have sXB' : SL v46 (some ⟨v39.heap.size, 0, none⟩) 2 2 [5, 1] := (by rw [ht46]; exact rsl_lit _ _ 2 rfl (by omega) _ rfl)
  have hB46 := hHeld.alloc hHeld.size (.cells #[.int .i64 5, .int .i64 1] 3)
  rw [← ht46] at hB46
  rw [← ht46]
  clear ht46
  have XB : ∀ W, Below v46.heap.size v46 W → SL W (some ⟨v39.heap.size, 0, none⟩) 2 2 [5, 1] := fun W hW => sXB'.below hW
  refine hK.out _ _ (hB46) (fun hHeld => ?_)
  clear hK K
  try simp only [Act.put, List.setIfInBounds_toArray, List.set_cons_zero, List.set_cons_succ]
  refine wpAnyH_now hHeld (fun hHeld => ?_)
  replace LF := rebase LF (hB46)
  replace SF3 := rebase SF3 (hB46)
  replace SF0 := rebase SF0 (hB46)
  replace z0 := rebase z0 (hB46)
  replace z1 := rebase z1 (hB46)
  replace z2 := rebase z2 (hB46)
  replace z3 := rebase z3 (hB46)
  replace s1 := rebase s1 (hB46)
  replace t6 := rebase t6 (hB46)
  replace t7 := rebase t7 (hB46)
  replace t0 := rebase t0 (hB46)
  replace t1 := rebase t1 (hB46)
  replace XA := rebase XA (hB46)
  refine wpAnyH_take (i := 47) (oi := { dst := some 80, op := Go.Op.build 39 #[(1, Go.Operand.tmp 79)], type := 39, pos := "law.go:19", after := #[{ on := 46, ground := Go.Ground.data }, { on := 42, ground := Go.Ground.guard }], guard := some (42, true) }) (v := ?v43) rfl (by as_aux_lemma => kernel_rfl) (by as_aux_lemma => kernel_rfl) (by as_aux_lemma => kernel_rfl) (fun _ _ _ h => h) (Or.inl ⟨by kernel_rfl, ?h43⟩) (by assumption) ?r43
  case h43 => (intro w hSw; (try dsimp only at hSw); go_simp; try with_reducible rfl)
  try simp only [Act.put, List.setIfInBounds_toArray, List.set_cons_zero, List.set_cons_succ]
  refine wpAnyH_ready (rs := [48]) (by as_aux_lemma => kernel_rfl) (by simp) ?_
  refine AllReadyH.cons (o := { dst := some 81, op := Go.Op.call { callee := Go.Callee.value (Go.Operand.func 12), args := #[Go.Operand.tmp 78, Go.Operand.tmp 80], argTypes := #[39, 39] }, type := 4, pos := "law.go:19", after := #[{ on := 45, ground := Go.Ground.data }, { on := 47, ground := Go.Ground.data }, { on := 42, ground := Go.Ground.chain }, { on := 42, ground := Go.Ground.guard }], guard := some (42, true) }) rfl (fun K hK => ?_) AllReadyH.nil
  go_simp
  with_reducible refine (QB.out _ _ _ _ (SF0 _ hHeld) (XB _ hHeld)).mono ?_
  rintro e v48 ⟨rfl, b48⟩
  have hB48 := hHeld.trans (b48.mono hHeld.size)
  go_simp
  refine hK.out _ _ (hB48) (fun hHeld => ?_)
  clear hK K
  try simp only [Act.put, List.setIfInBounds_toArray, List.set_cons_zero, List.set_cons_succ]
  refine wpAnyH_now hHeld (fun hHeld => ?_)
  replace LF := rebase LF (hB48)
  replace SF3 := rebase SF3 (hB48)
  replace SF0 := rebase SF0 (hB48)
  replace z0 := rebase z0 (hB48)
  replace z1 := rebase z1 (hB48)
  replace z2 := rebase z2 (hB48)
  replace z3 := rebase z3 (hB48)
  replace s1 := rebase s1 (hB48)
  replace t6 := rebase t6 (hB48)
  replace t7 := rebase t7 (hB48)
  replace t0 := rebase t0 (hB48)
  replace t1 := rebase t1 (hB48)
  replace XA := rebase XA (hB48)
  replace XB := rebase XB (hB48)
  refine wpAnyH_take (i := 49) (oi := { dst := some 82, op := Go.Op.pick (Go.Operand.tmp 75) (Go.Operand.tmp 81) (Go.Operand.const (Go.Value.bool false)), type := 4, pos := "law.go:19", after := #[{ on := 42, ground := Go.Ground.data }, { on := 48, ground := Go.Ground.data }], guard := none }) (v := ?v44) rfl (by as_aux_lemma => kernel_rfl) (by as_aux_lemma => kernel_rfl) (by as_aux_lemma => kernel_rfl) (fun _ _ _ h => h) (Or.inl ⟨by kernel_rfl, ?h44⟩) (by assumption) ?r44
  case h44 => (intro w hSw; (try dsimp only at hSw); go_simp; try with_reducible rfl)
  try simp only [Act.put, List.setIfInBounds_toArray, List.set_cons_zero, List.set_cons_succ]
  refine wpAnyH_take (i := 50) (oi := { dst := some 0, op := Go.Op.assign (Go.Operand.tmp 82), type := 4, pos := "law.go:19", after := #[{ on := 49, ground := Go.Ground.data }, { on := 48, ground := Go.Ground.chain }, { on := 0, ground := Go.Ground.phase }, { on := 1, ground := Go.Ground.phase }, { on := 2, ground := Go.Ground.phase }, { on := 3, ground := Go.Ground.phase }, { on := 4, ground := Go.Ground.phase }, { on := 5, ground := Go.Ground.phase }, { on := 6, ground := Go.Ground.phase }, { on := 7, ground := Go.Ground.phase }, { on := 8, ground := Go.Ground.phase }, { on := 9, ground := Go.Ground.phase }, { on := 10, ground := Go.Ground.phase }, { on := 11, ground := Go.Ground.phase }, { on := 12, ground := Go.Ground.phase }, { on := 13, ground := Go.Ground.phase }, { on := 14, ground := Go.Ground.phase }, { on := 15, ground := Go.Ground.phase }, { on := 16, ground := Go.Ground.phase }, { on := 17, ground := Go.Ground.phase }, { on := 18, ground := Go.Ground.phase }, { on := 19, ground := Go.Ground.phase }, { on := 20, ground := Go.Ground.phase }, { on := 21, ground := Go.Ground.phase }, { on := 22, ground := Go.Ground.phase }, { on := 23, ground := Go.Ground.phase }, { on := 24, ground := Go.Ground.phase }, { on := 25, ground := Go.Ground.phase }, { on := 26, ground := Go.Ground.phase }, { on := 27, ground := Go.Ground.phase }, { on := 28, ground := Go.Ground.phase }, { on := 29, ground := Go.Ground.phase }, { on := 30, ground := Go.Ground.phase }, { on := 31, ground := Go.Ground.phase }, { on := 32, ground := Go.Ground.phase }, { on := 33, ground := Go.Ground.phase }, { on := 34, ground := Go.Ground.phase }, { on := 35, ground := Go.Ground.phase }, { on := 36, ground := Go.Ground.phase }, { on := 37, ground := Go.Ground.phase }, { on := 38, ground := Go.Ground.phase }, { on := 39, ground := Go.Ground.phase }, { on := 40, ground := Go.Ground.phase }, { on := 41, ground := Go.Ground.phase }, { on := 42, ground := Go.Ground.phase }, { on := 43, ground := Go.Ground.phase }, { on := 44, ground := Go.Ground.phase }, { on := 45, ground := Go.Ground.phase }, { on := 46, ground := Go.Ground.phase }, { on := 47, ground := Go.Ground.phase }, { on := 48, ground := Go.Ground.phase }, { on := 49, ground := Go.Ground.phase }], guard := none }) (v := ?v45) rfl (by as_aux_lemma => kernel_rfl) (by as_aux_lemma => kernel_rfl) (by as_aux_lemma => kernel_rfl) (fun _ _ _ h => h) (Or.inl ⟨by kernel_rfl, ?h45⟩) (by assumption) ?r45
  case h45 => (intro w hSw; (try dsimp only at hSw); go_simp; try with_reducible rfl)
  try simp only [Act.put, List.setIfInBounds_toArray, List.set_cons_zero, List.set_cons_succ]
  refine wpAnyH_done (by as_aux_lemma => kernel_rfl) ?_ _
  go_wp2
  go_ret
  exact ⟨rfl, (LF _ hHeld).bel⟩
end Go.Proofs.YtjdfjekonnkglaaGreatDoor
namespace Go.Proofs.YtjdfjekonnkglaaGreatDoor
open Go.RowKit
set_option linter.unusedVariables false
set_option linter.unusedSimpArgs false
def bigS (s : SpotD) : Bool := decide (100 < s.fn.size) || decide (100 < s.file.size)
def bigP (D : PD) : Bool := (decide (100 < D.nm.size) || (decide (20 < D.vars.length) || (decide (150 < D.spots.length) || decide (300 < D.edges.length)))) || (D.vars.any (fun s => decide (100 < s.size)) || D.spots.any bigS)
theorem any_yes {α : Type} {q : α → Bool} {l : List α} {d : α} {k : Nat} (hk : k < l.length) (h : q (l.getD k d) = true) : l.any q = true := by
  rw [List.any_eq_true]
  exact ⟨l.getD k d, by simp [List.getD, hk], h⟩
theorem any_no {α : Type} {q : α → Bool} {l : List α} (d : α) (h : ∀ t, t < l.length → q (l.getD t d) = false) : l.any q = false := by
  rw [List.any_eq_false]
  intro x hx
  obtain ⟨t, ht, rfl⟩ := List.getElem_of_mem hx
  have := h t ht
  simpa [List.getD, ht] using this
set_option maxRecDepth 100000 in
set_option maxHeartbeats 8000000 in
theorem plarge_any (p : PV) (D : PD) (hw : PW D) (w : World) (h : PrA w p D) : Calls Tryz.prog 13 #[.agg #[.string p.nm, .slice p.a1 p.n1 p.c1, .slice p.a2 p.n2 p.c2, .slice p.a3 p.n3 p.c3]] w (Gives (.bool (bigP D)) w) := by
  have hR : Hid (bigP D = ((decide (100 < p.nm.size) || (decide (20 < p.n1) || (decide (150 < p.n2) || decide (300 < p.n3)))) || (D.vars.any (fun s => decide (100 < s.size)) || D.spots.any bigS))) := Lib.hid (by unfold bigP; rw [h.nm, h.vars.len, h.spots.len, h.edges.len])
  have hns : p.nm.size ≤ 140737488351232 := by rw [h.nm]; exact hw.nm
  have hvw : Hid (∀ k, k < D.vars.length → (D.vars.getD k e0).size ≤ 140737488351232) := Lib.hid (fun k hk => hw.vars _ (by simp [List.getD, hk]))
  have hsw : Hid (∀ k, k < D.spots.length → spotW (D.spots.getD k spot0)) := Lib.hid (fun k hk => hw.spots _ (by simp [List.getD, hk]))
  obtain ⟨pnm, pa1, pn1, pc1, pa2, pn2, pc2, pa3, pn3, pc3⟩ := p
  have hv := h.vars
  have hs := h.spots
  have he := h.edges
  clear h hw
  dsimp only at hR hv hs he hns ⊢
  obtain ⟨W1, hW1⟩ : ∃ W1, W1 = w.alloc (.cells #[.string pnm, .slice pa1 pn1 pc1, .slice pa2 pn2 pc2, .slice pa3 pn3 pc3] 26) := ⟨_, rfl⟩
  have Z : Hid (Holds W1 w.heap.size 26 #[.string pnm, .slice pa1 pn1 pc1, .slice pa2 pn2 pc2, .slice pa3 pn3 pc3]) := Lib.hid (by rw [hW1]; exact Holds.new w _ _)
  have BL := Lib.hid (show Below w.heap.size w W1 by rw [hW1]; exact box_below _ _ _)
  have V := Lib.hid (hv.below BL.out)
  have S := Lib.hid (hs.below BL.out)
  have lv := Lib.hid hv.len
  have ls := Lib.hid hs.len
  have hm1 : (pn1 : Int) ≤ 9223372036854775807 := by have := hv.cap; have := hv.max; unfold maxLen at this; omega
  have hm2 : (pn2 : Int) ≤ 9223372036854775807 := by have := hs.max'; omega
  have hm3 : (pn3 : Int) ≤ 9223372036854775807 := by have := he.max'; omega
  have hW1' := Lib.hid hW1
  have k0 := Z.out.cell 0
  have k1 := Z.out.cell 1
  have k2 := Z.out.cell 2
  have k3 := Z.out.cell 3
  have yv := Lib.hid (fun k hk h => any_yes (q := fun s : ByteArray => decide (100 < s.size)) (l := D.vars) (d := e0) (k := k) hk h)
  have nv := Lib.hid (fun h => any_no (q := fun s : ByteArray => decide (100 < s.size)) (l := D.vars) e0 h)
  have ys := Lib.hid (fun k hk h => any_yes (q := bigS) (l := D.spots) (d := spot0) (k := k) hk h)
  have ns := Lib.hid (fun h => any_no (q := bigS) (l := D.spots) spot0 h)
  clear hv hs he hW1
  generalize bigP D = R at *
  generalize D.vars.any (fun s => decide (100 < s.size)) = bv at *
  generalize D.spots.any bigS = bs at *
  by_cases g0 : 100 < pnm.size
  · have ig0 : (100 : Int) < (pnm.size : Int) := by omega
    have hf : Hid (R = true) := Lib.hid (by rw [hR.out, decide_eq_true g0]; simp)
    go_enter Tryz.func13, Tryz.ntmps13
    go_wp2
    go_ret
    rw [← hW1'.out]
    exact ⟨ret_bool hf.out.symm, BL.out⟩
  have ig0 : ¬ (100 : Int) < (pnm.size : Int) := by omega
  by_cases g1 : 20 < pn1
  · have ig1 : (20 : Int) < (pn1 : Int) := by omega
    have hf : Hid (R = true) := Lib.hid (by rw [hR.out, decide_eq_true g1]; simp)
    go_enter Tryz.func13, Tryz.ntmps13
    go_wp2
    go_ret
    rw [← hW1'.out]
    exact ⟨ret_bool hf.out.symm, BL.out⟩
  have ig1 : ¬ (20 : Int) < (pn1 : Int) := by omega
  by_cases g2 : 150 < pn2
  · have ig2 : (150 : Int) < (pn2 : Int) := by omega
    have hf : Hid (R = true) := Lib.hid (by rw [hR.out, decide_eq_true g2]; simp)
    go_enter Tryz.func13, Tryz.ntmps13
    go_wp2
    go_ret
    rw [← hW1'.out]
    exact ⟨ret_bool hf.out.symm, BL.out⟩
  have ig2 : ¬ (150 : Int) < (pn2 : Int) := by omega
  by_cases g3 : 300 < pn3
  · have ig3 : (300 : Int) < (pn3 : Int) := by omega
    have hf : Hid (R = true) := Lib.hid (by rw [hR.out, decide_eq_true g3]; simp)
    go_enter Tryz.func13, Tryz.ntmps13
    go_wp2
    go_ret
    rw [← hW1'.out]
    exact ⟨ret_bool hf.out.symm, BL.out⟩
  have ig3 : ¬ (300 : Int) < (pn3 : Int) := by omega
  have hR2 : Hid (R = (bv || bs)) := Lib.hid (by rw [hR.out, decide_eq_false g0, decide_eq_false g1, decide_eq_false g2, decide_eq_false g3]; rfl)
  clear hR
  go_enter Tryz.func13, Tryz.ntmps13
  go_wp2
  rw [← hW1'.out]
  clear hW1'
  go_loop [3] (fun y => ∃ k : Nat, k ≤ pn1 ∧ y = .int .i64 k ∧ Hid (∀ t, t < k → decide (100 < (D.vars.getD t e0).size) = false)) (fun y => pn1 - (intOf y).toNat)
  case atStart => exact ⟨0, Nat.zero_le _, rfl, Lib.hid (fun t ht => by omega)⟩
  case round =>
    obtain ⟨k, hk, rfl, hal⟩ := hrel
    by_cases hlt : k < pn1
    · have hki : (k : Int) < (pn1 : Int) := by omega
      have hkl : k < D.vars.length := by rw [← lv.out]; exact hlt
      obtain ⟨b, off, rfl, -, hc⟩ := V.out.at_ hkl
      have x0 := hc k hkl
      have hz := hvw.out k hkl
      have hy := Lib.hid (yv.out k hkl)
      have hn : Hid (¬ 100 < (D.vars.getD k e0).size → ∀ t, t < k + 1 → decide (100 < (D.vars.getD t e0).size) = false) := Lib.hid (fun h t ht => by
        by_cases e : t = k
        · rw [e]; exact decide_eq_false h
        · exact hal.out t (by omega))
      clear hc hal yv
      generalize D.vars.getD k e0 = s at *
      by_cases hs : 100 < s.size
      · have hsi : (100 : Int) < (s.size : Int) := by omega
        have hf : Hid (R = true) := Lib.hid (by rw [hR2.out, hy.out (decide_eq_true hs)]; rfl)
        clear hy hn
        go_wp2
        go_ret
        exact ⟨ret_bool hf.out.symm, BL.out⟩
      · have hsi : ¬ (100 : Int) < (s.size : Int) := by omega
        have hg := Lib.hid (hn.out hs)
        clear hy hn
        go_wp2
        go_round
        case rel => exact ⟨k + 1, by omega, by go_num, hg⟩
        case measure => simp [intOf]; omega
    · have hki : ¬ (k : Int) < (pn1 : Int) := by omega
      have hb := Lib.hid (nv.out (fun t ht => hal.out t (by rw [← lv.out] at ht; omega)))
      have hR3 : Hid (R = bs) := Lib.hid (by rw [hR2.out, hb.out]; rfl)
      clear hb hR2 yv nv hal
      go_wp2
      clear hki hlt hk
      go_loop [4] (fun y => ∃ k : Nat, k ≤ pn2 ∧ y = .int .i64 k ∧ Hid (∀ t, t < k → bigS (D.spots.getD t spot0) = false)) (fun y => pn2 - (intOf y).toNat)
      case atStart => exact ⟨0, Nat.zero_le _, rfl, Lib.hid (fun t ht => by omega)⟩
      case round =>
        obtain ⟨k, hk, rfl, hal⟩ := hrel
        by_cases hlt : k < pn2
        · have hki : (k : Int) < (pn2 : Int) := by omega
          obtain ⟨b, off, rfl, -, x0, x1, x2⟩ := spots_at S.out hlt
          have hz := hsw.out k (by rw [← ls.out]; exact hlt)
          have hy := Lib.hid (ys.out k (by rw [← ls.out]; exact hlt))
          have hn : Hid (bigS (D.spots.getD k spot0) = false → ∀ t, t < k + 1 → bigS (D.spots.getD t spot0) = false) := Lib.hid (fun h t ht => by
            by_cases e : t = k
            · rw [e]; exact h
            · exact hal.out t (by omega))
          obtain ⟨s, f, x, hd⟩ : ∃ s f x, D.spots.getD k spot0 = (⟨s, f, x⟩ : SpotD) := ⟨_, _, _, rfl⟩
          rw [hd] at x0 x1 hy hn hz
          have hz1 : s.size ≤ 140737488351232 := hz.1
          have hz2 : f.size ≤ 140737488351232 := hz.2.1
          dsimp only at x0 x1
          have hbe : Hid (bigS ⟨s, f, x⟩ = (decide (100 < s.size) || decide (100 < f.size))) := Lib.hid rfl
          clear hd hal ys hz x2
          generalize bigS ⟨s, f, x⟩ = B at *
          by_cases h1 : 100 < s.size
          · have h1i : (100 : Int) < (s.size : Int) := by omega
            have hf : Hid (R = true) := Lib.hid (by rw [hR3.out, hy.out (by rw [hbe.out, decide_eq_true h1]; rfl)])
            clear hy hn hbe
            go_wp2
            go_ret
            exact ⟨ret_bool hf.out.symm, BL.out⟩
          · have h1i : ¬ (100 : Int) < (s.size : Int) := by omega
            by_cases h2 : 100 < f.size
            · have h2i : (100 : Int) < (f.size : Int) := by omega
              have hf : Hid (R = true) := Lib.hid (by rw [hR3.out, hy.out (by rw [hbe.out, decide_eq_false h1, decide_eq_true h2]; rfl)])
              clear hy hn hbe
              go_wp2
              go_ret
              exact ⟨ret_bool hf.out.symm, BL.out⟩
            · have h2i : ¬ (100 : Int) < (f.size : Int) := by omega
              have hg := Lib.hid (hn.out (by rw [hbe.out, decide_eq_false h1, decide_eq_false h2]; rfl))
              clear hy hn hbe
              go_wp2
              go_round
              case rel => exact ⟨k + 1, by omega, by go_num, hg⟩
              case measure => simp [intOf]; omega
        · have hki : ¬ (k : Int) < (pn2 : Int) := by omega
          have hb := Lib.hid (ns.out (fun t ht => hal.out t (by rw [← ls.out] at ht; omega)))
          have hf : Hid (R = false) := Lib.hid (by rw [hR3.out, hb.out])
          clear hb ns ys hR3
          go_wp2
          go_ret
          exact ⟨ret_bool hf.out.symm, BL.out⟩
end Go.Proofs.YtjdfjekonnkglaaGreatDoor
namespace Go.Proofs.YtjdfjekonnkglaaGreatDoor
open Go.RowKit
set_option linter.unusedVariables false
set_option linter.unusedSimpArgs false
def bigR (D : PD) (n cn : Nat) : Bool := (bigP D || decide (20 < n)) || decide (300 < cn)
set_option maxRecDepth 100000 in
theorem rlarge_any (pnm : ByteArray) (pa1 : Option Addr) (pn1 pc1 : Nat) (pa2 : Option Addr) (pn2 pc2 : Nat) (pa3 : Option Addr) (pn3 pc3 : Nat) (D : PD) (hw : PW D) (a : Option Addr) (n c : Nat) (ca : Option Addr) (cn cc : Nat) (hn : n ≤ 9223372036854775807) (hcn : cn ≤ 9223372036854775807) (w : World) (h : PrA w ⟨pnm, pa1, pn1, pc1, pa2, pn2, pc2, pa3, pn3, pc3⟩ D) : Calls Tryz.prog 4 #[.agg #[.string pnm, .slice pa1 pn1 pc1, .slice pa2 pn2 pc2, .slice pa3 pn3 pc3], .slice a n c, .slice ca cn cc] w (Gives (.bool (bigR D n cn)) w) := by
  obtain ⟨W1, hW1⟩ : ∃ W1, W1 = w.alloc (.cells #[.string pnm, .slice pa1 pn1 pc1, .slice pa2 pn2 pc2, .slice pa3 pn3 pc3] 26) := ⟨_, rfl⟩
  have BL : Hid (Below w.heap.size w W1) := Lib.hid (by rw [hW1]; exact box_below _ _ _)
  have Z0 : Hid (Holds W1 w.heap.size 26 #[.string pnm, .slice pa1 pn1 pc1, .slice pa2 pn2 pc2, .slice pa3 pn3 pc3]) := Lib.hid (by rw [hW1]; exact Holds.new w _ _)
  have q := Lib.hid (plarge_any ⟨pnm, pa1, pn1, pc1, pa2, pn2, pc2, pa3, pn3, pc3⟩ D hw W1 (h.below BL.out))
  have k0 := Z0.out.cell 0
  have k1 := Z0.out.cell 1
  have k2 := Z0.out.cell 2
  have k3 := Z0.out.cell 3
  simp at k0 k1 k2 k3
  have hW1' := Lib.hid hW1
  rw [hW1] at k0 k1 k2 k3
  clear hW1 h Z0
  have hR : Hid (bigR D n cn = ((bigP D || decide (20 < n)) || decide (300 < cn))) := Lib.hid rfl
  generalize bigR D n cn = R at *
  generalize bigP D = B at *
  go_enter Tryz.func4, Tryz.ntmps4
  go_wp2_with fail
  rw [← hW1'.out]
  with_reducible refine q.out.mono ?_
  rintro e W2 ⟨rfl, b2⟩
  have B2 := Lib.hid (BL.out.trans (b2.mono BL.out.size))
  clear k0 k1 k2 k3 hW1' BL b2 q
  cases B with
  | true =>
    go_wp2
    go_ret
    exact ⟨by rw [hR.out]; rfl, B2.out⟩
  | false =>
    by_cases h1 : 20 < n
    · have h1i : (20 : Int) < (n : Int) := by omega
      have h1d : decide ((20 : Int) < (n : Int)) = true := by simpa using h1i
      go_wp2
      go_ret
      exact ⟨by rw [hR.out]; simp [h1], B2.out⟩
    · have h1i : ¬ (20 : Int) < (n : Int) := by omega
      by_cases h2 : 300 < cn
      · have h2i : (300 : Int) < (cn : Int) := by omega
        go_wp2
        go_ret
        exact ⟨by rw [hR.out]; simp [h2], B2.out⟩
      · have h2i : ¬ (300 : Int) < (cn : Int) := by omega
        go_wp2
        go_ret
        exact ⟨by rw [hR.out]; simp [h1, h2]; omega, B2.out⟩
end Go.Proofs.YtjdfjekonnkglaaGreatDoor
namespace Go.Proofs.YtjdfjekonnkglaaGreatDoor
open Go.RowKit
set_option linter.unusedVariables false
def ChSl (w : World) (r : Option Addr) (len cap : Nat) : Prop := ∃ l, RO chC w r len cap l
theorem choice_row {H : Type} {enc : TypeId × Value → H} {w : World} {fuel : Nat} {r : Option Addr} {len cap : Nat} {x : DataW H × List MemPlace}
    (h : DataW.trod enc Tryz.prog w 0 (fun _ => true) true fuel 28 [.slice r len cap] = some x) : ChSl w r len cap := by
  obtain ⟨h1, h2, h3⟩ := struct_row Tryz.underlying28 Tryz.underlying44 (by kernel_rfl) (by kernel_rfl) (by decide) h
  obtain ⟨l, hl, _⟩ := row_of (w := w) (r := r) (len := len) (cap := cap) chC 2 chC_len (by decide) (fun _ => True) (0, 0) h1 h2 (by
    rcases h3 with rfl | ⟨b, off, rfl, hB, hc⟩
    · exact .inl rfl
    · refine .inr ⟨b, off, rfl, hB, fun i hi => ?_⟩
      obtain ⟨v0, y0, n0, c0, t0⟩ := hc i hi 0 _ rfl
      obtain ⟨v1, y1, n1, c1, t1⟩ := hc i hi 1 _ rfl
      obtain ⟨k0, e0, _, w0⟩ := DataW.trod_int Tryz.underlying3 t0
      obtain ⟨k1, e1, _, w1⟩ := DataW.trod_int Tryz.underlying3 t1
      simp at e0 e1
      subst e0 e1
      refine ⟨(k0, k1), trivial, fun j hj => ?_⟩
      match j, hj with
      | 0, _ => exact c0
      | 1, _ => exact c1)
  exact ⟨l, hl⟩
end Go.Proofs.YtjdfjekonnkglaaGreatDoor
namespace Go.Proofs.YtjdfjekonnkglaaGreatDoor
open Go.RowKit
set_option linter.unusedVariables false
set_option linter.unusedSimpArgs false
structure LRn (A : PD) (l1 : List Int) (ch : List (Int × Int)) (w : World) (pnm : ByteArray) (pa1 : Option Addr) (pn1 pc1 : Nat) (pa2 : Option Addr) (pn2 pc2 : Nat) (pa3 : Option Addr) (pn3 pc3 : Nat) (a1 : Option Addr) (n1 c1 : Nat) (ca : Option Addr) (cn cc : Nat) (W : World) : Prop where
  pr : PrA W ⟨pnm, pa1, pn1, pc1, pa2, pn2, pc2, pa3, pn3, pc3⟩ A
  s1 : SL W a1 n1 c1 l1
  ro : RO chC W ca cn cc ch
  b0 : Holds W w.heap.size 26 #[.string pnm, .slice pa1 pn1 pc1, .slice pa2 pn2 pc2, .slice pa3 pn3 pc3]
  bel : Below w.heap.size w W
theorem LRn.below {A : PD} {l1 : List Int} {ch : List (Int × Int)} {w : World} {pnm : ByteArray} {pa1 : Option Addr} {pn1 pc1 : Nat} {pa2 : Option Addr} {pn2 pc2 : Nat} {pa3 : Option Addr} {pn3 pc3 : Nat} {a1 : Option Addr} {n1 c1 : Nat} {ca : Option Addr} {cn cc : Nat} {W W' : World} (h : LRn A l1 ch w pnm pa1 pn1 pc1 pa2 pn2 pc2 pa3 pn3 pc3 a1 n1 c1 ca cn cc W) (hb : Below W.heap.size W W') : LRn A l1 ch w pnm pa1 pn1 pc1 pa2 pn2 pc2 pa3 pn3 pc3 a1 n1 c1 ca cn cc W' :=
  ⟨h.pr.below hb, h.s1.below hb, h.ro.below hb, h.b0.below hb h.b0.lt, h.bel.trans (hb.mono h.bel.size)⟩
theorem same_self (p : Int) (l : List Int) : sameT p p l l = true := by simp [sameT]
theorem bigR_no {D : PD} {n cn : Nat} (h : bigR D n cn = false) : n ≤ 20 ∧ cn ≤ 300 := by
  unfold bigR at h
  simp at h
  omega
end Go.Proofs.YtjdfjekonnkglaaGreatDoor
namespace Go.Proofs.YtjdfjekonnkglaaGreatDoor
set_option linter.unusedVariables false
set_option linter.unusedSimpArgs false
inductive ComesTo (E : List (Nat × Nat)) : Nat → Prop
  | start : ComesTo E 0
  | step {a b : Nat} : ComesTo E a → (a, b) ∈ E → ComesTo E b
def markE (l : List Bool) (e : Nat × Nat) : List Bool := if l.getD e.1 false then l.set e.2 true else l
def passE (E : List (Nat × Nat)) (l : List Bool) : List Bool := E.foldl markE l
def passes (E : List (Nat × Nat)) : Nat → List Bool → List Bool
  | 0, l => l
  | n + 1, l => passes E n (passE E l)
def startB (n : Nat) : List Bool := (List.replicate n false).set 0 true
def OnlyC (E : List (Nat × Nat)) (l : List Bool) : Prop := ∀ v, l.getD v false = true → ComesTo E v
def ClosedE (E : List (Nat × Nat)) (l : List Bool) : Prop := ∀ a b, (a, b) ∈ E → l.getD a false = true → l.getD b false = true
theorem mark_len (l : List Bool) (e : Nat × Nat) : (markE l e).length = l.length := by unfold markE; split <;> simp
theorem pass_len : ∀ (E : List (Nat × Nat)) (l : List Bool), (passE E l).length = l.length
  | [], l => rfl
  | e :: E, l => (pass_len E (markE l e)).trans (mark_len l e)
theorem passes_len (E : List (Nat × Nat)) : ∀ (n : Nat) (l : List Bool), (passes E n l).length = l.length
  | 0, l => rfl
  | n + 1, l => (passes_len E n _).trans (pass_len E l)
theorem getD_set_true (l : List Bool) (i v : Nat) : (l.set i true).getD v false = true ↔ (v = i ∧ i < l.length) ∨ l.getD v false = true := by
  simp only [List.getD, List.getElem?_set]
  by_cases h : i = v
  · subst h
    by_cases h2 : i < l.length
    · simp [h2]
    · simp [h2]
  · simp [h]; omega
theorem only_mark {E : List (Nat × Nat)} {l : List Bool} {e : Nat × Nat} (h : OnlyC E l) (he : e ∈ E) : OnlyC E (markE l e) := by
  unfold markE
  split
  · next hs =>
    intro v hv
    rcases (getD_set_true l e.2 v).1 hv with ⟨rfl, _⟩ | hv
    · exact .step (h e.1 hs) he
    · exact h v hv
  · exact h
theorem only_pass {F : List (Nat × Nat)} : ∀ {E : List (Nat × Nat)} {l : List Bool}, OnlyC F l → (∀ e ∈ E, e ∈ F) → OnlyC F (passE E l)
  | [], l, h, _ => h
  | e :: E, l, h, hs => only_pass (E := E) (only_mark h (hs e (by simp))) (fun x hx => hs x (by simp [hx]))
theorem only_passes {E : List (Nat × Nat)} : ∀ {n : Nat} {l : List Bool}, OnlyC E l → OnlyC E (passes E n l)
  | 0, _, h => h
  | n + 1, _, h => only_passes (n := n) (only_pass h (fun _ hx => hx))
theorem mark_mono {l : List Bool} {e : Nat × Nat} {v : Nat} (h : l.getD v false = true) : (markE l e).getD v false = true := by
  unfold markE
  split
  · exact (getD_set_true l e.2 v).2 (.inr h)
  · exact h
theorem pass_mono : ∀ {E : List (Nat × Nat)} {l : List Bool} {v : Nat}, l.getD v false = true → (passE E l).getD v false = true
  | [], _, _, h => h
  | e :: E, _, _, h => pass_mono (E := E) (mark_mono h)
theorem passes_mono {E : List (Nat × Nat)} : ∀ {n : Nat} {l : List Bool} {v : Nat}, l.getD v false = true → (passes E n l).getD v false = true
  | 0, _, _, h => h
  | n + 1, _, _, h => passes_mono (n := n) (pass_mono h)
theorem mark_more (l : List Bool) (e : Nat × Nat) (he : e.2 < l.length) : (markE l e = l ∧ (l.getD e.1 false = true → l.getD e.2 false = true)) ∨ l.count true < (markE l e).count true := by
  unfold markE
  by_cases h : l.getD e.1 false = true
  · rw [if_pos h]
    by_cases h2 : l.getD e.2 false = true
    · left
      refine ⟨?_, fun _ => h2⟩
      have e2 : l[e.2] = true := by simpa [List.getD, he] using h2
      exact List.ext_getElem (by simp) (fun i h3 h4 => by
        rw [List.getElem_set]
        split
        · next hi => subst hi; exact e2.symm
        · rfl)
    · right
      have e2 : l[e.2] = false := by simpa [List.getD, he] using h2
      rw [List.count_set he, e2]
      simp
  · left; rw [if_neg h]; exact ⟨rfl, fun h2 => absurd h2 h⟩
theorem pass_more : ∀ (E : List (Nat × Nat)) (l : List Bool), (∀ e ∈ E, e.2 < l.length) → (passE E l = l ∧ ClosedE E l) ∨ l.count true < (passE E l).count true
  | [], l, _ => .inl ⟨rfl, fun a b h => by cases h⟩
  | e :: E, l, hE => by
    have hl := mark_len l e
    rcases mark_more l e (hE e (by simp)) with ⟨h1, h2⟩ | h1
    · have hp : passE (e :: E) l = passE E l := by show passE E (markE l e) = _; rw [h1]
      rw [hp]
      rcases pass_more E l (fun x hx => hE x (by simp [hx])) with ⟨h3, h4⟩ | h3
      · left
        refine ⟨h3, fun a b hab ha => ?_⟩
        rcases List.mem_cons.1 hab with rfl | hab
        · exact h2 ha
        · exact h4 a b hab ha
      · exact .inr h3
    · right
      show _ < (passE E (markE l e)).count true
      rcases pass_more E (markE l e) (fun x hx => by rw [hl]; exact hE x (by simp [hx])) with ⟨h3, _⟩ | h3
      · rw [h3]; exact h1
      · omega
theorem passes_closed {E : List (Nat × Nat)} : ∀ (n : Nat) (l : List Bool), (∀ e ∈ E, e.2 < l.length) → (∀ m, (passes E n l).count true ≤ m → l.count true + n ≤ m) ∨ ClosedE E (passes E n l)
  | 0, l, _ => .inl fun m h => h
  | n + 1, l, hE => by
    have hl := pass_len E l
    rcases pass_more E l hE with ⟨h1, h2⟩ | h1
    · right
      have : ∀ k, passes E k l = l := fun k => by
        induction k with
        | zero => rfl
        | succ k ih => show passes E k (passE E l) = l; rw [h1, ih]
      rw [this (n + 1)]
      exact h2
    · rcases passes_closed n (passE E l) (fun e he => by rw [hl]; exact hE e he) with h2 | h2
      · left
        intro m hm
        have := h2 m hm
        omega
      · exact .inr h2
theorem passes_all {E : List (Nat × Nat)} {n : Nat} (h0 : 0 < n) (hE : ∀ e ∈ E, e.2 < n) (v : Nat) : (passes E n (startB n)).getD v false = true ↔ ComesTo E v := by
  have hl : (startB n).length = n := by simp [startB]
  have h00 : (startB n).getD 0 false = true := (getD_set_true _ 0 0).2 (.inl ⟨rfl, by simpa using h0⟩)
  constructor
  · refine only_passes (fun x hx => ?_) v
    rcases (getD_set_true _ 0 x).1 hx with ⟨rfl, _⟩ | hx
    · exact .start
    · simp [List.getD, List.getElem?_replicate] at hx
      split at hx <;> simp at hx
  · have hc : ClosedE E (passes E n (startB n)) := by
      rcases passes_closed (E := E) n (startB n) (fun e he => by rw [hl]; exact hE e he) with h | h
      · have h1 := h n (by have := List.count_le_length (a := true) (l := passes E n (startB n)); rw [passes_len, hl] at this; exact this)
        have h2 : 0 < (startB n).count true := List.count_pos_iff.2 (by
          have : (startB n)[0]'(by rw [hl]; exact h0) = true := by simp [startB]
          exact this ▸ List.getElem_mem _)
        omega
      · exact h
    intro hv
    induction hv with
    | start => exact passes_mono h00
    | step _ hab ih => exact hc _ _ hab ih
end Go.Proofs.YtjdfjekonnkglaaGreatDoor
namespace Go.Proofs.YtjdfjekonnkglaaGreatDoor
set_option linter.unusedVariables false
set_option linter.unusedSimpArgs false
def findE (a : Nat) (l : List Nat) (e : Nat × Nat) : List Nat := if e.1 = a ∧ e.2 ∉ l then l ++ [e.2] else l
structure FindI (E : List (Nat × Nat)) (n k m : Nat) (l : List Nat) : Prop where
  nodup : l.Nodup
  lt : ∀ v ∈ l, v < n
  come : ∀ v ∈ l, ComesTo E v
  zero : 0 ∈ l
  before : ∀ j, j < k → j < l.length → ∀ b, (l.getD j 0, b) ∈ E → b ∈ l
  now : ∀ e ∈ E.take m, e.1 = l.getD k 0 → e.2 ∈ l
theorem find_start {E : List (Nat × Nat)} {n : Nat} (h : 0 < n) : FindI E n 0 0 [0] :=
  ⟨by simp, by simpa using h, by simpa using ComesTo.start, by simp, fun j hj => absurd hj (by omega), by simp⟩
theorem short_nodup : ∀ (n : Nat) (l : List Nat), l.Nodup → (∀ v ∈ l, v < n) → l.length ≤ n
  | 0, [], _, _ => Nat.le_refl _
  | 0, x :: l, _, h => absurd (h x (by simp)) (by omega)
  | n + 1, l, nd, h => by
    by_cases c : n ∈ l
    · have h2 := short_nodup n (l.erase n) (nd.erase n) (fun v hv => by
        have h1 := h v (List.mem_of_mem_erase hv)
        have h3 : v ≠ n := fun e => by subst e; exact List.Nodup.not_mem_erase nd hv
        omega)
      rw [List.length_erase_of_mem c] at h2
      omega
    · have h2 := short_nodup n l nd (fun v hv => by
        have h1 := h v hv
        have h3 : v ≠ n := fun e => c (e ▸ hv)
        omega)
      omega
theorem find_len {E : List (Nat × Nat)} {n k m : Nat} {l : List Nat} (h : FindI E n k m l) : l.length ≤ n := short_nodup n l h.nodup h.lt
theorem find_step {E : List (Nat × Nat)} {n k m : Nat} {l : List Nat} {e : Nat × Nat} (h : FindI E n k m l) (hk : k < l.length) (hm : E[m]? = some e) (hn : e.2 < n) : FindI E n k (m + 1) (findE (l.getD k 0) l e) := by
  have heE : e ∈ E := List.mem_of_getElem? hm
  have ht : E.take (m + 1) = E.take m ++ [e] := by rw [List.take_add_one, hm]; rfl
  unfold findE
  by_cases c : e.1 = l.getD k 0 ∧ e.2 ∉ l
  · rw [if_pos c]
    have hat : ∀ j, j < l.length → (l ++ [e.2]).getD j 0 = l.getD j 0 := fun j hj => by simp [List.getD, List.getElem?_append_left hj]
    refine ⟨?_, ?_, ?_, by simp [h.zero], ?_, ?_⟩
    · rw [List.nodup_append]
      exact ⟨h.nodup, by simp, fun a ha b hb => by simp at hb; subst hb; intro hab; exact c.2 (hab ▸ ha)⟩
    · intro v hv
      rcases List.mem_append.1 hv with hv | hv
      · exact h.lt v hv
      · simp at hv; omega
    · intro v hv
      rcases List.mem_append.1 hv with hv | hv
      · exact h.come v hv
      · obtain rfl : v = e.2 := by simpa using hv
        have hc : ComesTo E e.1 := by rw [c.1]; exact h.come _ (by simp [List.getD, hk])
        exact hc.step heE
    · intro j hj hjl b hb
      rw [hat j (by omega)] at hb
      simp [h.before j hj (by omega) b hb]
    · intro x hx hxa
      rw [hat k hk] at hxa
      rw [ht] at hx
      rcases List.mem_append.1 hx with hx | hx
      · simp [h.now x hx hxa]
      · obtain rfl : x = e := by simpa using hx
        simp
  · rw [if_neg c]
    refine ⟨h.nodup, h.lt, h.come, h.zero, h.before, ?_⟩
    intro x hx hxa
    rw [ht] at hx
    rcases List.mem_append.1 hx with hx | hx
    · exact h.now x hx hxa
    · obtain rfl : x = e := by simpa using hx
      exact Classical.byContradiction fun hb => c ⟨hxa, hb⟩
theorem find_next {E : List (Nat × Nat)} {n k : Nat} {l : List Nat} (h : FindI E n k E.length l) : FindI E n (k + 1) 0 l :=
  ⟨h.nodup, h.lt, h.come, h.zero, fun j hj hjl b hb => by
    by_cases c : j = k
    · subst c; exact h.now (l.getD j 0, b) (by rwa [List.take_length]) rfl
    · exact h.before j (by omega) hjl b hb, by simp⟩
theorem find_end {E : List (Nat × Nat)} {n k : Nat} {l : List Nat} (h : FindI E n k 0 l) (hk : l.length ≤ k) (v : Nat) : v ∈ l ↔ ComesTo E v := by
  constructor
  · exact h.come v
  · intro hv
    induction hv with
    | start => exact h.zero
    | step _ hab ih =>
      obtain ⟨j, hj, e⟩ := List.getElem_of_mem ih
      exact h.before j (by omega) hj _ (by simpa [List.getD, hj, e] using hab)
theorem sorted_filter {n : Nat} {l : List Nat} {p : Nat → Bool} (hs : l.Pairwise (· < ·)) (hp : ∀ v, v ∈ l ↔ v < n ∧ p v = true) : l = (List.range n).filter p := by
  have h2 : ((List.range n).filter p).Pairwise (· < ·) := List.Pairwise.filter _ List.pairwise_lt_range
  have hm : ∀ v, v ∈ l ↔ v ∈ (List.range n).filter p := fun v => by rw [hp, List.mem_filter, List.mem_range]
  generalize (List.range n).filter p = r at h2 hm
  clear hp
  induction l generalizing r with
  | nil =>
    cases r with
    | nil => rfl
    | cons x r => exact absurd ((hm x).2 (by simp)) (by simp)
  | cons x l ih =>
    cases r with
    | nil => exact absurd ((hm x).1 (by simp)) (by simp)
    | cons y r =>
      obtain ⟨a1, a2⟩ := List.pairwise_cons.1 hs
      obtain ⟨b1, b2⟩ := List.pairwise_cons.1 h2
      have hxy : x = y := by
        rcases List.mem_cons.1 ((hm x).1 (by simp)) with h | h
        · exact h
        · rcases List.mem_cons.1 ((hm y).2 (by simp)) with h' | h'
          · exact h'.symm
          · have := b1 x h; have := a1 y h'; omega
      subst hxy
      congr 1
      refine ih a2 r b2 fun v => ?_
      constructor
      · intro hv
        rcases List.mem_cons.1 ((hm v).1 (by simp [hv])) with h | h
        · have := a1 v hv; omega
        · exact h
      · intro hv
        rcases List.mem_cons.1 ((hm v).2 (by simp [hv])) with h | h
        · have := b1 v hv; omega
        · exact h
end Go.Proofs.YtjdfjekonnkglaaGreatDoor
namespace Go.Proofs.YtjdfjekonnkglaaGreatDoor
open Go.RowKit Go.Sort
set_option linter.unusedVariables false
set_option linter.unusedSimpArgs false
def intsP (l : List Nat) : List Int := l.map fun k : Nat => (k : Int)
theorem intsP_len (l : List Nat) : (intsP l).length = l.length := by simp [intsP]
theorem intsP_at (l : List Nat) {i : Nat} (hi : i < l.length) : (intsP l).getD i 0 = ((l.getD i 0 : Nat) : Int) := by simp [intsP, List.getD, hi]
theorem intsP_snoc (l : List Nat) (d : Nat) : intsP (l ++ [d]) = intsP l ++ [(d : Int)] := by simp [intsP]
def pairsE (D : PD) : List (Nat × Nat) := D.edges.map fun e => (e.frm.toNat, e.dst.toNat)
theorem pairs_len (D : PD) : (pairsE D).length = D.edges.length := by simp [pairsE]
theorem pairs_at (D : PD) {i : Nat} (hi : i < D.edges.length) : (pairsE D)[i]? = some ((D.edges.getD i edge0).frm.toNat, (D.edges.getD i edge0).dst.toNat) := by simp [pairsE, List.getD, hi]
theorem pairs_lt {D : PD} (h : progB D = true) : ∀ e ∈ pairsE D, e.1 < D.spots.length ∧ e.2 < D.spots.length := by
  intro e he
  obtain ⟨x, hx, rfl⟩ := List.mem_map.1 he
  obtain ⟨i, hi, rfl⟩ := List.getElem_of_mem hx
  have h1 := edge_ends (prog_edge h hi)
  have e1 : D.edges.getD i edge0 = D.edges[i] := by simp [List.getD, hi]
  rw [e1] at h1
  exact ⟨by show (D.edges[i]).frm.toNat < _; omega, by show (D.edges[i]).dst.toNat < _; omega⟩
def reachN (D : PD) : List Nat := (List.range D.spots.length).filter fun v => (passes (pairsE D) D.spots.length (startB D.spots.length)).getD v false
def reachP (D : PD) : List Int := if progB D = true then intsP (reachN D) else []
theorem comes_lt {D : PD} (h : progB D = true) {v : Nat} (hv : ComesTo (pairsE D) v) : v < D.spots.length := by
  cases hv with
  | start => exact (prog_sizes h).1
  | step _ hab => exact (pairs_lt h _ hab).2
theorem mem_reach {D : PD} (h : progB D = true) (v : Nat) : v ∈ reachN D ↔ ComesTo (pairsE D) v := by
  unfold reachN
  rw [List.mem_filter, List.mem_range, passes_all (prog_sizes h).1 (fun e he => (pairs_lt h e he).2)]
  exact ⟨fun h => h.2, fun hv => ⟨comes_lt h hv, hv⟩⟩
theorem sorted_reach {D : PD} (h : progB D = true) {l : List Nat} (nd : l.Nodup) (hm : ∀ v, v ∈ l ↔ ComesTo (pairsE D) v) : (intsP l).mergeSort (fun x y => decide (x ≤ y)) = intsP (reachN D) := by
  have hperm : ((intsP l).mergeSort (fun x y => decide (x ≤ y))).Perm (intsP l) := List.mergeSort_perm _ _
  have hpw := List.pairwise_mergeSort (le := fun x y : Int => decide (x ≤ y)) (by intro a b c h1 h2; simp at h1 h2 ⊢; omega) (by intro a b; simp; omega) (intsP l)
  generalize (intsP l).mergeSort (fun x y => decide (x ≤ y)) = M at *
  have hmap : M = intsP (M.map Int.toNat) := by
    unfold intsP
    rw [List.map_map]
    conv => lhs; rw [← List.map_id M]
    apply List.map_congr_left
    intro x hx
    have hx2 := hperm.mem_iff.1 hx
    obtain ⟨k, _, rfl⟩ := List.mem_map.1 hx2
    simp
  have hndM : M.Nodup := by
    refine hperm.nodup_iff.2 ?_
    unfold intsP
    exact List.Pairwise.map _ (fun a b hab => by omega) nd
  have hlt : (M.map Int.toNat).Pairwise (· < ·) := by
    rw [List.pairwise_map]
    have h2 : M.Pairwise (fun a b => decide (a ≤ b) = true ∧ a ≠ b) := hpw.and hndM
    refine h2.imp_of_mem ?_
    intro a b ha hb hab
    have ha2 := hperm.mem_iff.1 ha
    have hb2 := hperm.mem_iff.1 hb
    obtain ⟨ka, _, rfl⟩ := List.mem_map.1 ha2
    obtain ⟨kb, _, rfl⟩ := List.mem_map.1 hb2
    simp at hab ⊢
    omega
  rw [hmap]
  congr 1
  unfold reachN
  refine sorted_filter hlt fun v => ?_
  rw [passes_all (prog_sizes h).1 (fun e he => (pairs_lt h e he).2)]
  have : v ∈ M.map Int.toNat ↔ v ∈ l := by
    rw [List.mem_map]
    constructor
    · rintro ⟨x, hx, rfl⟩
      obtain ⟨k, hk, rfl⟩ := List.mem_map.1 (hperm.mem_iff.1 hx)
      simpa using hk
    · intro hv
      exact ⟨(v : Int), hperm.mem_iff.2 (List.mem_map.2 ⟨v, hv, rfl⟩), by simp⟩
  rw [this, hm]
  exact ⟨fun hv => ⟨comes_lt h hv, hv⟩, fun h => h.2⟩
def marksP (l : List Nat) : Array Value := ((List.range 128).map fun x => Value.bool (l.contains x)).toArray
theorem marks_size (l : List Nat) : (marksP l).size = 128 := by simp [marksP]
theorem marks_at (l : List Nat) {x : Nat} (hx : x < 128) : (marksP l)[x]? = some (.bool (l.contains x)) := by unfold marksP; simp [hx]
theorem marks_set (l : List Nat) {d : Nat} (hd : d < 128) : (marksP l).setIfInBounds d (.bool true) = marksP (l ++ [d]) := by
  apply Array.ext_getElem?
  intro i
  by_cases hi : i < 128
  · rw [marks_at _ hi, Array.getElem?_setIfInBounds, marks_size]
    by_cases hdi : d = i
    · subst hdi; simp [hd]
    · rw [if_neg hdi, marks_at l hi]
      congr 2
      rw [Bool.eq_iff_iff]
      simp
      intro h; exact absurd h.symm hdi
  · rw [Array.getElem?_eq_none (by simp [marks_size]; omega), Array.getElem?_eq_none (by rw [marks_size]; omega)]
set_option maxRecDepth 100000 in
theorem marks_lit : (Tryz.zeroCells60).setIfInBounds 0 (.bool true) = marksP [0] := by kernel_rfl
structure RchI (u : World) (gs : Nat) (l : List Nat) (v : Value) (w : World) : Prop where
  low : u.heap.size ≤ gs
  bel : Below u.heap.size u w
  seen : Holds w gs 60 (marksP l)
  row : w.ownsRow u.heap.size 3 1 v l.length (nums .i64 (intsP l))
  apart : ∀ b, v.ownBlock = some b → b ≠ gs
theorem RchI.made {u : World} {gs : Nat} {l : List Nat} {v : Value} {w w' : World} (h : RchI u gs l v w) (hb : Below w.heap.size w w') : RchI u gs l v w' :=
  ⟨h.low, h.bel.trans (hb.mono h.bel.size), h.seen.below hb h.seen.lt, own_below h.row hb, h.apart⟩
theorem RchI.marked {u : World} {gs : Nat} {l : List Nat} {v : Value} {w : World} (h : RchI u gs l v w) {d : Nat} (hd : d < 128) : Below u.heap.size u (w.setCell ⟨gs, d, none⟩ (.bool true)) ∧ Holds (w.setCell ⟨gs, d, none⟩ (.bool true)) gs 60 (marksP (l ++ [d])) ∧ (w.setCell ⟨gs, d, none⟩ (.bool true)).ownsRow u.heap.size 3 1 v l.length (nums .i64 (intsP l)) := by
  have hb : BelowE [gs] w.heap.size w (w.setCell ⟨gs, d, none⟩ (.bool true)) := (BelowE.refl _ _ _).setIn (p := ⟨gs, d, none⟩) (by simp) _
  refine ⟨h.bel.setCell (p := ⟨gs, d, none⟩) h.low _, ?_, own_belowE h.row hb (fun k hk hx => h.apart k hk (by simpa using hx))⟩
  have := h.seen.set d (.bool true)
  rwa [marks_set l hd] at this
theorem RchI.grow {u : World} {gs : Nat} {l : List Nat} {v v' : Value} {w X w' : World} (h : RchI u gs l v w) {d : Nat} (hd : d < 128) (hX : X = (w.setCell ⟨gs, d, none⟩ (.bool true)).alloc (.cells #[.int .i64 (d : Int)] 3))
    (own : w'.ownsRow 0 3 1 v' (intsP l ++ [(d : Int)]).length (nums .i64 (intsP l ++ [(d : Int)]))) (gr : X.grownBy w' v.ownBlock) (blk : v'.ownBlock = v.ownBlock ∨ v'.ownBlock = some X.heap.size) : RchI u gs (l ++ [d]) v' w' := by
  obtain ⟨m1, m2, m3⟩ := h.marked hd
  have hb1 : Below (w.setCell ⟨gs, d, none⟩ (.bool true)).heap.size (w.setCell ⟨gs, d, none⟩ (.bool true)) X := by rw [hX]; exact box_below _ _ _
  have g1 := m2.below hb1 m2.lt
  have o1 := own_below m3 hb1
  have bX := m1.trans (hb1.mono m1.size)
  have hlt := o1.lt
  have hv : ∀ b, v'.ownBlock = some b → u.heap.size ≤ b ∧ b ≠ gs := fun b hb => by
    rcases blk with e | e
    · rw [e] at hb; exact ⟨(hlt b hb).1, h.apart b hb⟩
    · rw [e] at hb
      obtain rfl := Option.some.inj hb
      have := g1.lt
      exact ⟨bX.size, by omega⟩
  refine ⟨h.low, bX.grown gr bX.size (fun j hj => (hlt j hj).1), (gr.block gs g1.lt (fun e => h.apart gs e.symm rfl)).trans g1, ?_, fun b hb => (hv b hb).2⟩
  rw [intsP_snoc]
  have := own_from own (fun b hb => (hv b hb).1)
  rw [List.length_append, intsP_len] at this
  rw [List.length_append]
  exact this
theorem grow_below (w : World) (os : Array Obj) : Below w.heap.size w (grow w os) :=
  ⟨rfl, rfl, rfl, by show w.heap.size ≤ (w.heap ++ os).size; rw [Array.size_append]; omega, fun _ hj => Sort.heap_grow_old w os hj⟩
theorem ints_sorted {w : World} {base g cap n q : Nat} {os : Array Obj} {zs : List Int} (h : w.ownsRow base 3 1 (.slice (some ⟨g, 0, none⟩) n cap) n (nums .i64 zs)) :
    (grow (putRow (Value.int .i64) (Sort.ahead w q) g 0 (zs.mergeSort fun x y => decide (x ≤ y)).toArray) os).ownsRow base 3 1 (.slice (some ⟨g, 0, none⟩) n cap) n (nums .i64 (zs.mergeSort fun x y => decide (x ≤ y))) := by
  have hl : zs.length = n := by have := h.1; simpa [nums] using this
  have hc := Lib.ownsRow_putRow (enc := Value.int .i64) (q := q) (k := n) (ys := zs.mergeSort fun x y => decide (x ≤ y)) h (by rw [List.length_mergeSort]; exact hl) (Nat.le_refl _)
  rw [List.take_of_length_le (by rw [List.length_mergeSort]; omega)] at hc
  exact own_below hc (grow_below _ _)
end Go.Proofs.YtjdfjekonnkglaaGreatDoor
namespace Go.Proofs.YtjdfjekonnkglaaGreatDoor
set_option linter.unusedVariables false
set_option linter.unusedSimpArgs false
def s00 : Int × List Int := (0, [])
def goodS (D : PD) (s : Int × List Int) : Prop := ∃ k : Nat, s.1 = (k : Int) ∧ k ∈ reachN D ∧ stateB D s.1 s.2 = true
theorem state_of {D : PD} {k : Nat} {l : List Int} (hk : k < D.spots.length) (hv : valsB l D.vars.length = true) : stateB D (k : Int) l = true := by
  unfold stateB
  rw [hv]
  simp
  omega
theorem good_start {D : PD} (hp : progB D = true) {l : List Int} (hv : valsB l D.vars.length = true) : goodS D (0, l) :=
  ⟨0, rfl, (mem_reach hp 0).2 .start, state_of (k := 0) (prog_sizes hp).1 hv⟩
theorem step_good {D : PD} (hp : progB D = true) {s : Int × List Int} {e v : Int} (h : goodS D s) (h0 : (stepR D s.1 s.2 e v).2 = 0) : goodS D (stepR D s.1 s.2 e v).1 := by
  obtain ⟨k, hk, hm, hs⟩ := h
  have hv : valsB s.2 D.vars.length = true := by unfold stateB at hs; simp only [Bool.and_eq_true] at hs; exact hs.2.2
  have hv2 := step_vals (e := e) (v := v) hp hv h0
  unfold stepR at h0 hv2 ⊢
  split at h0
  · next h1 =>
    rw [if_pos h1] at hv2 ⊢
    split at h0
    · next h2 =>
      rw [if_pos h2] at hv2 ⊢
      split at h0
      · next h3 =>
        rw [if_pos h3] at hv2 ⊢
        have he : e.toNat < D.edges.length := by omega
        have hr := prog_edge hp he
        unfold edgeB pointB at hr
        simp only [Bool.and_eq_true, decide_eq_true_eq] at hr
        obtain ⟨d, hd⟩ := Int.eq_ofNat_of_zero_le hr.2.1.1
        have hmm := pairs_at D he
        rw [h2, hk, hd] at hmm
        simp only [Int.toNat_natCast] at hmm
        have hc : ComesTo (pairsE D) d := ((mem_reach hp k).1 hm).step (List.mem_of_getElem? hmm)
        refine ⟨d, hd, (mem_reach hp d).2 hc, ?_⟩
        show stateB D (D.edges.getD e.toNat edge0).dst _ = true
        rw [hd]
        exact state_of (comes_lt hp hc) hv2
      · next h3 => exact absurd h0 h3
    · cases h0
  · cases h0
theorem runL_good {D : PD} (hp : progB D = true) : ∀ (ch : List (Int × Int)) (s : Int × List Int), goodS D s → ∀ i, i < (s :: (runL D s.1 s.2 ch).1).length → goodS D ((s :: (runL D s.1 s.2 ch).1).getD i s00)
  | ch, s, h, 0, hi => h
  | [], s, h, i + 1, hi => by simp [runL] at hi
  | (e, v) :: cs, s, h, i + 1, hi => by
    unfold runL at hi ⊢
    by_cases h0 : (stepR D s.1 s.2 e v).2 = 0
    · rw [if_pos h0] at hi ⊢
      exact runL_good hp cs (stepR D s.1 s.2 e v).1 (step_good hp h h0) i (by simpa using hi)
    · rw [if_neg h0] at hi
      simp at hi
theorem runL_step {D : PD} : ∀ (ch : List (Int × Int)) (s : Int × List Int) (i : Nat), i + 1 < (s :: (runL D s.1 s.2 ch).1).length → i < ch.length ∧ stepR D ((s :: (runL D s.1 s.2 ch).1).getD i s00).1 ((s :: (runL D s.1 s.2 ch).1).getD i s00).2 (ch.getD i (0, 0)).1 (ch.getD i (0, 0)).2 = ((s :: (runL D s.1 s.2 ch).1).getD (i + 1) s00, 0)
  | [], s, i, hi => by simp [runL] at hi
  | (e, v) :: cs, s, 0, hi => by
    refine ⟨by simp, ?_⟩
    unfold runL at hi ⊢
    by_cases h0 : (stepR D s.1 s.2 e v).2 = 0
    · rw [if_pos h0]
      exact Prod.ext rfl h0
    · rw [if_neg h0] at hi
      simp at hi
  | (e, v) :: cs, s, i + 1, hi => by
    unfold runL at hi ⊢
    by_cases h0 : (stepR D s.1 s.2 e v).2 = 0
    · rw [if_pos h0] at hi ⊢
      obtain ⟨g1, g2⟩ := runL_step cs (stepR D s.1 s.2 e v).1 i (by simpa using hi)
      exact ⟨by simpa using g1, g2⟩
    · rw [if_neg h0] at hi
      simp at hi
theorem runL_err {D : PD} : ∀ (ch : List (Int × Int)) (pt : Int) (l : List Int), (runL D pt l ch).2 = 0 ↔ (runL D pt l ch).1.length = ch.length
  | [], pt, l => by simp [runL]
  | (e, v) :: cs, pt, l => by
    unfold runL
    by_cases h0 : (stepR D pt l e v).2 = 0
    · rw [if_pos h0]
      have := runL_err (D := D) cs (stepR D pt l e v).1.1 (stepR D pt l e v).1.2
      simpa using this
    · rw [if_neg h0]
      simp [h0]
theorem runL_most (D : PD) : ∀ (ch : List (Int × Int)) (pt : Int) (l : List Int), (runL D pt l ch).1.length ≤ ch.length
  | [], _, _ => by simp [runL]
  | (e, v) :: cs, pt, l => by
    unfold runL
    split
    · have := runL_most D cs (stepR D pt l e v).1.1 (stepR D pt l e v).1.2
      simp
      omega
    · simp
theorem stepS_good {D : PD} (hp : progB D = true) {s : Int × List Int} (h : goodS D s) (e v : Int) : stepS D s.1 s.2 e v = stepR D s.1 s.2 e v := by
  obtain ⟨k, _, _, hs⟩ := h
  unfold stepS
  rw [if_pos hp, if_pos hs]
end Go.Proofs.YtjdfjekonnkglaaGreatDoor
