/-
  Words and walks under the law's proof.
-/
import Derived.Test.YtimgocfkogebmaaGreatDoorRows
import Derived.IntWalk
import Derived.Deep.QuietTactic
import Derived.BigQuiet
import Derived.Laws.Cover1
import Derived.Test.YtimgocfkogebmaaGreatDoorQF01
import Derived.Test.YtimgocfkogebmaaGreatDoorQF10
import Derived.Test.YtimgocfkogebmaaGreatDoorQF11
import Derived.Test.YtimgocfkogebmaaGreatDoorQF12
import Derived.Test.YtimgocfkogebmaaGreatDoorQF14
namespace Go.Proofs.YtimgocfkogebmaaGreatDoor
open Go.RowKit
set_option linter.unusedVariables false
set_option linter.unusedSimpArgs false
def wantA : AlD := ⟨1, 1, ⟨#[109, 97, 105, 110]⟩, ⟨#[97, 46, 103, 111]⟩, 3, ⟨#[105, 32, 45, 32, 110, 32, 60, 61, 32, 48]⟩⟩
def wantB : AlD := ⟨1, 1, ⟨#[109, 97, 105, 110]⟩, ⟨#[97, 46, 103, 111]⟩, 2, ⟨#[105, 32, 45, 32, 110, 32, 60, 61, 32, 48]⟩⟩
theorem lv_chk : chkZ guardD guardL = 0 := by kernel_rfl
theorem lv_nil : chkZ guardD [] = 80 := by kernel_rfl
theorem lv_may : mayZ 2 (edgeL guardL guardE) guardE = true := by kernel_rfl
theorem lv_edge : edgeA guardD guardL guardE = wantA := by kernel_rfl
theorem lv_all : sortC cmpA (alarmsA guardD guardL [guardE]) = [wantA] := by kernel_rfl
theorem lv_two : sortC cmpA [wantA, wantB] = [wantB, wantA] := by kernel_rfl
theorem lv_cmp : cmpA wantA wantB = 1 := by kernel_rfl
theorem lv_ok : chkA wantA = 0 := by kernel_rfl
theorem lv_no : chkA al0 = 170 := by kernel_rfl
theorem lv_is : edgeL guardL guardE = boxL 2 [(0, 3), (2, 2)] := by
  unfold edgeL guardL
  rw [show guardE.frm.toNat = 0 from rfl, List.getD_cons_zero]
theorem lv_ask (LB : List Int) (hz : IsZ 2 LB) : AskOK 2 LB 5 1 2 0 0 (mayZ 2 LB guardE) (mustZ 2 LB guardE) := ask_5 2 1 2 0 LB hz (by omega) (by omega) (by decide +kernel) (by omega)
theorem lv_asks : AsksOK guardD guardL := by
  intro i hi
  obtain rfl : i = 0 := by have h : i < 1 := hi; omega
  have h2 := lv_ask (edgeL guardL guardE) (by rw [lv_is]; exact boxL_isz (by omega) _)
  exact h2
theorem lv_same (l : List AlD) : sameA l l = true := (sameA_iff l l).2 rfl
theorem drawn_gives {v : Value} {w : World} {e : Ending} {w' : World} (h : DrawnB v w e w') : e = .returned v ∧ Below w.heap.size w w' := by
  obtain ⟨h1, m, rfl⟩ := h
  exact ⟨h1, Below.drewN (Below.refl _ _) m⟩
structure ALv (w : World) (g : Nat) (p : PV) (a : Option Addr) (W : World) : Prop where
  pr : PrA W p guardD
  zr : ZRow W a 2 2 guardL
  box : Holds W g 38 #[.string p.nm, .slice p.a1 p.n1 p.c1, .slice p.a2 p.n2 p.c2, .slice p.a3 p.n3 p.c3]
  wb : Holds W (g + 1) 23 #[.int .i64 1, .int .i64 1, .string ⟨#[109, 97, 105, 110]⟩, .string ⟨#[97, 46, 103, 111]⟩, .int .i64 3, .string ⟨#[105, 32, 45, 32, 110, 32, 60, 61, 32, 48]⟩]
  bel : Below w.heap.size w W
  tab : Tab W
theorem ALv.below {w : World} {g : Nat} {p : PV} {a : Option Addr} {W W' : World} (h : ALv w g p a W) (hb : Below W.heap.size W W') : ALv w g p a W' :=
  ⟨h.pr.below hb, h.zr.below hb, h.box.below hb h.box.lt, h.wb.below hb h.wb.lt, h.bel.trans (hb.mono h.bel.size), h.tab.on hb⟩
set_option maxRecDepth 100000 in
set_option maxHeartbeats 16000000 in
theorem alives_any (w : World) (ht : Tab w) : Calls Tryz.prog 8 #[] w (Gives (.bool true) w) := by
  have T := Lib.hid ht
  clear ht
  have q1 := Lib.hid (guard_any w)
  go_enter Tryz.func8, Tryz.ntmps8
  go_wp2_with fail
  with_reducible refine q1.out.mono ?_
  rintro e u1 ⟨⟨pnm, pa1, pn1, pc1, pa2, pn2, pc2, pa3, pn3, pc3⟩, a, rfl, hp, hz, hb1⟩
  dsimp only
  obtain rfl : pn3 = 1 := hp.edges.len
  obtain rfl : pn1 = 2 := hp.vars.len
  obtain rfl : pn2 = 2 := hp.spots.len
  obtain ⟨U, hU⟩ : ∃ U, U = (u1.alloc (.cells #[.string pnm, .slice pa1 2 pc1, .slice pa2 2 pc2, .slice pa3 1 pc3] 38)).alloc (.cells #[.int .i64 1, .int .i64 1, .string ⟨#[109, 97, 105, 110]⟩, .string ⟨#[97, 46, 103, 111]⟩, .int .i64 3, .string ⟨#[105, 32, 45, 32, 110, 32, 60, 61, 32, 48]⟩] 23) := ⟨_, rfl⟩
  have bU : Below u1.heap.size u1 U := by rw [hU]; exact (box_below _ _ _).alloc (by simp) _
  have L0 : ALv w u1.heap.size ⟨pnm, pa1, 2, pc1, pa2, 2, pc2, pa3, 1, pc3⟩ a U := by
    refine ⟨hp.below bU, hz.below bU, ?_, ?_, hb1.trans (bU.mono hb1.size), T.out.on (hb1.trans (bU.mono hb1.size))⟩
    · rw [hU]; exact (Holds.new _ _ _).alloc _
    · rw [hU]
      have := Holds.new (u1.alloc (.cells #[.string pnm, .slice pa1 2 pc1, .slice pa2 2 pc2, .slice pa3 1 pc3] 38)) 23 #[.int .i64 1, .int .i64 1, .string ⟨#[109, 97, 105, 110]⟩, .string ⟨#[97, 46, 103, 111]⟩, .int .i64 3, .string ⟨#[105, 32, 45, 32, 110, 32, 60, 61, 32, 48]⟩]
      simpa using this
  have L := Lib.hid L0
  have hU' := Lib.hid hU
  have qe : Hid (∀ W, ALv w u1.heap.size ⟨pnm, pa1, 2, pc1, pa2, 2, pc2, pa3, 1, pc3⟩ a W → Calls Tryz.prog 20 #[.agg #[.string pnm, .slice pa1 2 pc1, .slice pa2 2 pc2, .slice pa3 1 pc3], .slice a 2 2, .int .i64 0] W (fun e w' => e = .returned (.tuple #[.agg #[.int .i64 1, .int .i64 1, .string ⟨#[109, 97, 105, 110]⟩, .string ⟨#[97, 46, 103, 111]⟩, .int .i64 3, .string ⟨#[105, 32, 45, 32, 110, 32, 60, 61, 32, 48]⟩], .bool true]) ∧ Below W.heap.size W w')) := Lib.hid (fun W h => by
    have q := aedge_ok _ guardD a 2 2 guardL 0 W h.pr h.zr h.tab lv_chk lv_asks (by show (0 : Nat) < 1; omega)
    rw [show guardD.edges.getD 0 edge0 = guardE from rfl, lv_edge, show guardD.vars.length = 2 from rfl, lv_may] at q
    exact q)
  have qo : Hid (∀ W, ALv w u1.heap.size ⟨pnm, pa1, 2, pc1, pa2, 2, pc2, pa3, 1, pc3⟩ a W → Calls Tryz.prog 19 #[.agg #[.string pnm, .slice pa1 2 pc1, .slice pa2 2 pc2, .slice pa3 1 pc3], .slice a 2 2] W (AlsE [wantA] 0 W)) := Lib.hid (fun W h => by
    have q := aofs_ok _ guardD a 2 2 guardL W h.pr h.zr h.tab lv_chk lv_asks (by show (1 : Nat) ≤ 256; omega)
    rw [show guardD.edges = [guardE] from rfl, lv_all] at q
    exact q)
  have qn : Hid (∀ W, ALv w u1.heap.size ⟨pnm, pa1, 2, pc1, pa2, 2, pc2, pa3, 1, pc3⟩ a W → Calls Tryz.prog 19 #[.agg #[.string pnm, .slice pa1 2 pc1, .slice pa2 2 pc2, .slice pa3 1 pc3], .slice none 0 0] W (AlsE [] 80 W)) := Lib.hid (fun W h => by
    have q := aofs_bad _ guardD none 0 0 [] W h.pr (ZRow.nil W) (by rw [lv_nil]; decide)
    rw [lv_nil] at q
    exact q)
  have qx : Hid (∀ W, ALv w u1.heap.size ⟨pnm, pa1, 2, pc1, pa2, 2, pc2, pa3, 1, pc3⟩ a W → Calls Tryz.prog 20 #[.agg #[.string pnm, .slice pa1 2 pc1, .slice pa2 2 pc2, .slice pa3 1 pc3], .slice a 2 2, .int .i64 1] W (fun e w' => e = .returned (.tuple #[.agg #[.int .i64 0, .int .i64 0, .string ⟨#[]⟩, .string ⟨#[]⟩, .int .i64 0, .string ⟨#[]⟩], .bool false]) ∧ Below W.heap.size W w')) := Lib.hid (fun W h => by
    have q := aedge_bad _ guardD a 2 2 guardL 1 W h.pr h.zr (.inr (.inr (by show ((1 : Nat) : Int) ≤ 1; omega)))
    exact q)
  have ro1 : Hid (∀ W : World, RO alC (W.alloc (.cells #[.int .i64 1, .int .i64 1, .string ⟨#[109, 97, 105, 110]⟩, .string ⟨#[97, 46, 103, 111]⟩, .int .i64 3, .string ⟨#[105, 32, 45, 32, 110, 32, 60, 61, 32, 48]⟩] 23)) (some ⟨W.heap.size, 0, none⟩) 1 1 [wantA]) := Lib.hid (fun W => ⟨rfl, Nat.le_refl _, by simp [maxLen], seesC_lit W 23 #[.int .i64 1, .int .i64 1, .string ⟨#[109, 97, 105, 110]⟩, .string ⟨#[97, 46, 103, 111]⟩, .int .i64 3, .string ⟨#[105, 32, 45, 32, 110, 32, 60, 61, 32, 48]⟩]⟩)
  have ro2 : Hid (∀ W : World, RO alC (W.alloc (.cells #[.int .i64 1, .int .i64 1, .string ⟨#[109, 97, 105, 110]⟩, .string ⟨#[97, 46, 103, 111]⟩, .int .i64 3, .string ⟨#[105, 32, 45, 32, 110, 32, 60, 61, 32, 48]⟩, .int .i64 1, .int .i64 1, .string ⟨#[109, 97, 105, 110]⟩, .string ⟨#[97, 46, 103, 111]⟩, .int .i64 2, .string ⟨#[105, 32, 45, 32, 110, 32, 60, 61, 32, 48]⟩] 23)) (some ⟨W.heap.size, 0, none⟩) 2 2 [wantA, wantB]) := Lib.hid (fun W => ⟨rfl, Nat.le_refl _, by simp [maxLen], seesC_lit W 23 #[.int .i64 1, .int .i64 1, .string ⟨#[109, 97, 105, 110]⟩, .string ⟨#[97, 46, 103, 111]⟩, .int .i64 3, .string ⟨#[105, 32, 45, 32, 110, 32, 60, 61, 32, 48]⟩, .int .i64 1, .int .i64 1, .string ⟨#[109, 97, 105, 110]⟩, .string ⟨#[97, 46, 103, 111]⟩, .int .i64 2, .string ⟨#[105, 32, 45, 32, 110, 32, 60, 61, 32, 48]⟩]⟩)
  have ro3 : Hid (∀ W : World, RO alC (W.alloc (.cells #[.int .i64 1, .int .i64 1, .string ⟨#[109, 97, 105, 110]⟩, .string ⟨#[97, 46, 103, 111]⟩, .int .i64 2, .string ⟨#[105, 32, 45, 32, 110, 32, 60, 61, 32, 48]⟩, .int .i64 1, .int .i64 1, .string ⟨#[109, 97, 105, 110]⟩, .string ⟨#[97, 46, 103, 111]⟩, .int .i64 3, .string ⟨#[105, 32, 45, 32, 110, 32, 60, 61, 32, 48]⟩] 23)) (some ⟨W.heap.size, 0, none⟩) 2 2 [wantB, wantA]) := Lib.hid (fun W => ⟨rfl, Nat.le_refl _, by simp [maxLen], seesC_lit W 23 #[.int .i64 1, .int .i64 1, .string ⟨#[109, 97, 105, 110]⟩, .string ⟨#[97, 46, 103, 111]⟩, .int .i64 2, .string ⟨#[105, 32, 45, 32, 110, 32, 60, 61, 32, 48]⟩, .int .i64 1, .int .i64 1, .string ⟨#[109, 97, 105, 110]⟩, .string ⟨#[97, 46, 103, 111]⟩, .int .i64 3, .string ⟨#[105, 32, 45, 32, 110, 32, 60, 61, 32, 48]⟩]⟩)
  have qs : Hid (∀ W a, RO alC W a 2 2 [wantA, wantB] → Calls Tryz.prog 14 #[.slice a 2 2] W (fun e w' => ∃ a' c', e = .returned (.slice a' 2 c') ∧ RO alC w' a' 2 c' [wantB, wantA] ∧ Below W.heap.size W w')) := Lib.hid (fun W a h => by
    have q := asort_any a 2 2 [wantA, wantB] W h (by omega)
    rw [lv_two] at q
    exact q)
  have qr : Hid (∀ W l n a c a' c', RO alC W a n c l → RO alC W a' n c' l → Calls Tryz.prog 13 #[.slice a n c, .slice a' n c'] W (Gives (.bool true) W)) := Lib.hid (fun W l n a c a' c' h1 h2 => by
    have q := ralSame_any a a' n n c c' l l W h1 h2
    rw [lv_same] at q
    exact q.mono fun e w' h => drawn_gives h)
  have qm : Hid (∀ W l n a c a' c', RO alC W a n c l → RO alC W a' n c' l → Calls Tryz.prog 16 #[.slice a n c, .slice a' n c'] W (Gives (.bool true) W)) := Lib.hid (fun W l n a c a' c' h1 h2 => by
    have q := alSame_any a a' n n c c' l l W h1 h2
    rw [lv_same] at q
    exact q.mono fun e w' h => drawn_gives h)
  have qk : Hid (∀ W, Calls Tryz.prog 9 #[.agg #[.int .i64 1, .int .i64 1, .string ⟨#[109, 97, 105, 110]⟩, .string ⟨#[97, 46, 103, 111]⟩, .int .i64 3, .string ⟨#[105, 32, 45, 32, 110, 32, 60, 61, 32, 48]⟩]] W (Gives (.int .i64 0) W)) := Lib.hid (fun W => by
    have q := acheck_any wantA W
    rw [lv_ok] at q
    exact q)
  have qz : Hid (∀ W, Calls Tryz.prog 9 #[.agg #[.int .i64 0, .int .i64 0, .string ⟨#[]⟩, .string ⟨#[]⟩, .int .i64 0, .string ⟨#[]⟩]] W (Gives (.int .i64 170) W)) := Lib.hid (fun W => by
    have q := acheck_any al0 W
    rw [lv_no] at q
    exact q)
  have qc : Hid (∀ W, Calls Tryz.prog 11 #[.agg #[.int .i64 1, .int .i64 1, .string ⟨#[109, 97, 105, 110]⟩, .string ⟨#[97, 46, 103, 111]⟩, .int .i64 3, .string ⟨#[105, 32, 45, 32, 110, 32, 60, 61, 32, 48]⟩], .agg #[.int .i64 1, .int .i64 1, .string ⟨#[109, 97, 105, 110]⟩, .string ⟨#[97, 46, 103, 111]⟩, .int .i64 2, .string ⟨#[105, 32, 45, 32, 110, 32, 60, 61, 32, 48]⟩]] W (Gives (.int .i64 1) W)) := Lib.hid (fun W => by
    have q := acmpo_any wantA wantB W
    rw [lv_cmp] at q
    exact q)
  clear hU bU L0 hp hz hb1 q1 T
  generalize wantA = wA at *
  generalize wantB = wB at *
  go_wp2_with fail
  rw [← hU'.out]
  with_reducible refine (qe.out _ L.out).mono ?_
  rintro e u3 ⟨rfl, b3⟩
  replace L := Lib.hid (L.out.below b3)
  have bx := box_below u3 #[.int .i64 1, .int .i64 1, .string ⟨#[109, 97, 105, 110]⟩, .string ⟨#[97, 46, 103, 111]⟩, .int .i64 3, .string ⟨#[105, 32, 45, 32, 110, 32, 60, 61, 32, 48]⟩] 23
  obtain ⟨U4, hU4⟩ : ∃ U4, U4 = u3.alloc (.cells #[.int .i64 1, .int .i64 1, .string ⟨#[109, 97, 105, 110]⟩, .string ⟨#[97, 46, 103, 111]⟩, .int .i64 3, .string ⟨#[105, 32, 45, 32, 110, 32, 60, 61, 32, 48]⟩] 23) := ⟨_, rfl⟩
  have A4 := Lib.hid (show Holds U4 u3.heap.size 23 #[.int .i64 1, .int .i64 1, .string ⟨#[109, 97, 105, 110]⟩, .string ⟨#[97, 46, 103, 111]⟩, .int .i64 3, .string ⟨#[105, 32, 45, 32, 110, 32, 60, 61, 32, 48]⟩] by rw [hU4]; exact Holds.new _ _ _)
  have L4 := L.out.below bx
  have k0 := L4.box.cell 0
  have k1 := L4.box.cell 1
  have k2 := L4.box.cell 2
  have k3 := L4.box.cell 3
  simp at k0 k1 k2 k3
  have hlt1 := L.out.box.lt
  rw [← hU4] at L4
  replace L := Lib.hid L4
  have hU4' := Lib.hid hU4
  clear b3 qe hU' hU4 L4 bx
  go_wp2_with fail
  rw [← hU4'.out]
  with_reducible refine (qo.out _ L.out).mono ?_
  rintro e u5 ⟨ma, mc, rfl, hm, b5⟩
  replace L := Lib.hid (L.out.below b5)
  replace A4 := Lib.hid (A4.out.below b5 A4.out.lt)
  have M := Lib.hid hm
  clear b5 hm qo hU4' k0 k1 k2 k3
  have k0 := L.out.box.cell 0
  have k1 := L.out.box.cell 1
  have k2 := L.out.box.cell 2
  have k3 := L.out.box.cell 3
  simp at k0 k1 k2 k3
  go_wp2_with fail
  with_reducible refine (qn.out _ L.out).mono ?_
  rintro e u6 ⟨na, nc, rfl, -, b6⟩
  replace L := Lib.hid (L.out.below b6)
  replace A4 := Lib.hid (A4.out.below b6 A4.out.lt)
  replace M := Lib.hid (M.out.below b6)
  clear b6 qn k0 k1 k2 k3
  have k0 := L.out.box.cell 0
  have k1 := L.out.box.cell 1
  have k2 := L.out.box.cell 2
  have k3 := L.out.box.cell 3
  simp at k0 k1 k2 k3
  go_wp2_with fail
  with_reducible refine (qx.out _ L.out).mono ?_
  rintro e u7 ⟨rfl, b7⟩
  replace L := Lib.hid (L.out.below b7)
  replace A4 := Lib.hid (A4.out.below b7 A4.out.lt)
  replace M := Lib.hid (M.out.below b7)
  clear b7 qx k0 k1 k2 k3
  obtain ⟨V1, hV1⟩ : ∃ V1, V1 = u7.alloc (.cells #[.int .i64 0, .int .i64 0, .string ⟨#[]⟩, .string ⟨#[]⟩, .int .i64 0, .string ⟨#[]⟩] 23) := ⟨_, rfl⟩
  have bV1 : Below u7.heap.size u7 V1 := by rw [hV1]; exact box_below _ _ _
  obtain ⟨V3, hV3⟩ : ∃ V3, V3 = V1.alloc (.cells #[.int .i64 1, .int .i64 1, .string ⟨#[109, 97, 105, 110]⟩, .string ⟨#[97, 46, 103, 111]⟩, .int .i64 2, .string ⟨#[105, 32, 45, 32, 110, 32, 60, 61, 32, 48]⟩] 23) := ⟨_, rfl⟩
  have bV2 : Below V1.heap.size V1 V3 := by rw [hV3]; exact box_below _ _ _
  have zV1 : V1.heap.size = u7.heap.size + 1 := by rw [hV1]; simp
  have HB3 : Holds V3 (u7.heap.size + 1) 23 #[.int .i64 1, .int .i64 1, .string ⟨#[109, 97, 105, 110]⟩, .string ⟨#[97, 46, 103, 111]⟩, .int .i64 2, .string ⟨#[105, 32, 45, 32, 110, 32, 60, 61, 32, 48]⟩] := by rw [hV3, ← zV1]; exact Holds.new _ _ _
  have bV3 : Below u7.heap.size u7 V3 := bV1.trans (bV2.mono bV1.size)
  obtain ⟨V4, hV4⟩ : ∃ V4, V4 = V3.alloc (.cells #[.int .i64 1, .int .i64 1, .string ⟨#[109, 97, 105, 110]⟩, .string ⟨#[97, 46, 103, 111]⟩, .int .i64 3, .string ⟨#[105, 32, 45, 32, 110, 32, 60, 61, 32, 48]⟩, .int .i64 1, .int .i64 1, .string ⟨#[109, 97, 105, 110]⟩, .string ⟨#[97, 46, 103, 111]⟩, .int .i64 2, .string ⟨#[105, 32, 45, 32, 110, 32, 60, 61, 32, 48]⟩] 23) := ⟨_, rfl⟩
  have bV4 : Below V3.heap.size V3 V4 := by rw [hV4]; exact box_below _ _ _
  have zV3 : V3.heap.size = u7.heap.size + 1 + 1 := by rw [hV3]; simp [zV1]
  have R4 := ro2.out V3
  rw [← hV4, zV3] at R4
  have b74 := bV3.trans (bV4.mono bV3.size)
  have L4 := L.out.below b74
  have B4 := Lib.hid (HB3.below bV4 HB3.lt)
  have hla := A4.out.lt
  have hl1 := L.out.wb.lt
  have w1 := L.out.wb.below bV1 L.out.wb.lt
  have w3 := L.out.wb.below bV3 L.out.wb.lt
  have x0 := w1.cell 0
  have x1 := w1.cell 1
  have x2 := w1.cell 2
  have x3 := w1.cell 3
  have x4 := w1.cell 4
  have x5 := w1.cell 5
  have y0 := w3.cell 0
  have y1 := w3.cell 1
  have y2 := w3.cell 2
  have y3 := w3.cell 3
  have y4 := w3.cell 4
  have y5 := w3.cell 5
  have z0 := HB3.cell 0
  have z1 := HB3.cell 1
  have z2 := HB3.cell 2
  have z3 := HB3.cell 3
  have z4 := HB3.cell 4
  have z5 := HB3.cell 5
  simp at x0 x1 x2 x3 x4 x5 y0 y1 y2 y3 y4 y5 z0 z1 z2 z3 z4 z5
  replace A4 := Lib.hid (A4.out.below b74 A4.out.lt)
  replace M := Lib.hid (M.out.below b74)
  replace L := Lib.hid L4
  have RR := Lib.hid R4
  clear bV1 bV2 zV1 HB3 bV3 bV4 zV3 R4 b74 L4 w1 w3
  have hVV := Lib.hid (And.intro hV1 (And.intro hV3 hV4))
  rw [hV3, hV1] at y0 y1 y2 y3 y4 y5 z0 z1 z2 z3 z4 z5
  rw [hV1] at x0 x1 x2 x3 x4 x5
  clear hV1 hV3 hV4
  go_wp2_with fail
  rw [← hVV.out.1, ← hVV.out.2.1, ← hVV.out.2.2]
  with_reducible refine (qs.out _ _ RR.out).mono ?_
  rintro e u8 ⟨sa, sc, rfl, hs, b8⟩
  replace L := Lib.hid (L.out.below b8)
  replace A4 := Lib.hid (A4.out.below b8 A4.out.lt)
  replace M := Lib.hid (M.out.below b8)
  replace B4 := Lib.hid (B4.out.below b8 B4.out.lt)
  have SS := Lib.hid hs
  clear b8 hs qs RR hVV x0 x1 x2 x3 x4 x5 y0 y1 y2 y3 y4 y5 z0 z1 z2 z3 z4 z5
  have x0 := L.out.wb.cell 0
  have x1 := L.out.wb.cell 1
  have x2 := L.out.wb.cell 2
  have x3 := L.out.wb.cell 3
  have x4 := L.out.wb.cell 4
  have x5 := L.out.wb.cell 5
  have z0 := B4.out.cell 0
  have z1 := B4.out.cell 1
  have z2 := B4.out.cell 2
  have z3 := B4.out.cell 3
  have z4 := B4.out.cell 4
  have z5 := B4.out.cell 5
  simp at x0 x1 x2 x3 x4 x5 z0 z1 z2 z3 z4 z5
  have s0 := A4.out.cell 0
  have s1 := A4.out.cell 1
  have s2 := A4.out.cell 2
  have s3 := A4.out.cell 3
  have s4 := A4.out.cell 4
  have s5 := A4.out.cell 5
  simp at s0 s1 s2 s3 s4 s5
  have RY1 := ro1.out u8
  obtain ⟨Y1, hY1⟩ : ∃ Y1, Y1 = u8.alloc (.cells #[.int .i64 1, .int .i64 1, .string ⟨#[109, 97, 105, 110]⟩, .string ⟨#[97, 46, 103, 111]⟩, .int .i64 3, .string ⟨#[105, 32, 45, 32, 110, 32, 60, 61, 32, 48]⟩] 23) := ⟨_, rfl⟩
  have bY1 : Below u8.heap.size u8 Y1 := by rw [hY1]; exact box_below _ _ _
  rw [← hY1] at RY1
  replace L := Lib.hid (L.out.below bY1)
  replace B4 := Lib.hid (B4.out.below bY1 B4.out.lt)
  replace M := Lib.hid (M.out.below bY1)
  replace SS := Lib.hid (SS.out.below bY1)
  have hY1' := Lib.hid hY1
  have qq := Lib.hid (qr.out Y1 _ 1 _ _ _ _ M.out RY1)
  clear RY1 bY1 hY1
  go_wp2_with fail
  rw [← hY1'.out]
  with_reducible refine qq.out.mono ?_
  rintro e t1 ⟨rfl, c1⟩
  replace L := Lib.hid (L.out.below c1)
  replace B4 := Lib.hid (B4.out.below c1 B4.out.lt)
  replace M := Lib.hid (M.out.below c1)
  replace SS := Lib.hid (SS.out.below c1)
  clear c1 qq hY1' x0 x1 x2 x3 x4 x5 z0 z1 z2 z3 z4 z5 s0 s1 s2 s3 s4 s5
  have x0 := L.out.wb.cell 0
  have x1 := L.out.wb.cell 1
  have x2 := L.out.wb.cell 2
  have x3 := L.out.wb.cell 3
  have x4 := L.out.wb.cell 4
  have x5 := L.out.wb.cell 5
  have z0 := B4.out.cell 0
  have z1 := B4.out.cell 1
  have z2 := B4.out.cell 2
  have z3 := B4.out.cell 3
  have z4 := B4.out.cell 4
  have z5 := B4.out.cell 5
  simp at x0 x1 x2 x3 x4 x5 z0 z1 z2 z3 z4 z5
  go_wp2_with fail
  with_reducible refine (qk.out _).mono ?_
  rintro e t2 ⟨rfl, c2⟩
  replace L := Lib.hid (L.out.below c2)
  replace B4 := Lib.hid (B4.out.below c2 B4.out.lt)
  replace M := Lib.hid (M.out.below c2)
  replace SS := Lib.hid (SS.out.below c2)
  clear c2 qk x0 x1 x2 x3 x4 x5 z0 z1 z2 z3 z4 z5
  have x0 := L.out.wb.cell 0
  have x1 := L.out.wb.cell 1
  have x2 := L.out.wb.cell 2
  have x3 := L.out.wb.cell 3
  have x4 := L.out.wb.cell 4
  have x5 := L.out.wb.cell 5
  have z0 := B4.out.cell 0
  have z1 := B4.out.cell 1
  have z2 := B4.out.cell 2
  have z3 := B4.out.cell 3
  have z4 := B4.out.cell 4
  have z5 := B4.out.cell 5
  simp at x0 x1 x2 x3 x4 x5 z0 z1 z2 z3 z4 z5
  go_wp2_with fail
  with_reducible refine (qz.out _).mono ?_
  rintro e t3 ⟨rfl, c3⟩
  replace L := Lib.hid (L.out.below c3)
  replace B4 := Lib.hid (B4.out.below c3 B4.out.lt)
  replace M := Lib.hid (M.out.below c3)
  replace SS := Lib.hid (SS.out.below c3)
  clear c3 qz x0 x1 x2 x3 x4 x5 z0 z1 z2 z3 z4 z5
  have x0 := L.out.wb.cell 0
  have x1 := L.out.wb.cell 1
  have x2 := L.out.wb.cell 2
  have x3 := L.out.wb.cell 3
  have x4 := L.out.wb.cell 4
  have x5 := L.out.wb.cell 5
  have z0 := B4.out.cell 0
  have z1 := B4.out.cell 1
  have z2 := B4.out.cell 2
  have z3 := B4.out.cell 3
  have z4 := B4.out.cell 4
  have z5 := B4.out.cell 5
  simp at x0 x1 x2 x3 x4 x5 z0 z1 z2 z3 z4 z5
  go_wp2_with fail
  with_reducible refine (qc.out _).mono ?_
  rintro e t4 ⟨rfl, c4⟩
  replace L := Lib.hid (L.out.below c4)
  replace B4 := Lib.hid (B4.out.below c4 B4.out.lt)
  replace M := Lib.hid (M.out.below c4)
  replace SS := Lib.hid (SS.out.below c4)
  clear c4 qc x0 x1 x2 x3 x4 x5 z0 z1 z2 z3 z4 z5
  have x0 := L.out.wb.cell 0
  have x1 := L.out.wb.cell 1
  have x2 := L.out.wb.cell 2
  have x3 := L.out.wb.cell 3
  have x4 := L.out.wb.cell 4
  have x5 := L.out.wb.cell 5
  have z0 := B4.out.cell 0
  have z1 := B4.out.cell 1
  have z2 := B4.out.cell 2
  have z3 := B4.out.cell 3
  have z4 := B4.out.cell 4
  have z5 := B4.out.cell 5
  simp at x0 x1 x2 x3 x4 x5 z0 z1 z2 z3 z4 z5
  have RY2 := ro3.out t4
  obtain ⟨Y2, hY2⟩ : ∃ Y2, Y2 = t4.alloc (.cells #[.int .i64 1, .int .i64 1, .string ⟨#[109, 97, 105, 110]⟩, .string ⟨#[97, 46, 103, 111]⟩, .int .i64 2, .string ⟨#[105, 32, 45, 32, 110, 32, 60, 61, 32, 48]⟩, .int .i64 1, .int .i64 1, .string ⟨#[109, 97, 105, 110]⟩, .string ⟨#[97, 46, 103, 111]⟩, .int .i64 3, .string ⟨#[105, 32, 45, 32, 110, 32, 60, 61, 32, 48]⟩] 23) := ⟨_, rfl⟩
  have bY2 : Below t4.heap.size t4 Y2 := by rw [hY2]; exact box_below _ _ _
  rw [← hY2] at RY2
  replace L := Lib.hid (L.out.below bY2)
  replace B4 := Lib.hid (B4.out.below bY2 B4.out.lt)
  replace M := Lib.hid (M.out.below bY2)
  replace SS := Lib.hid (SS.out.below bY2)
  have hY2' := Lib.hid hY2
  have qq := Lib.hid (qr.out Y2 _ 2 _ _ _ _ SS.out RY2)
  clear RY2 bY2 hY2
  go_wp2_with fail
  rw [← hY2'.out]
  with_reducible refine qq.out.mono ?_
  rintro e t5 ⟨rfl, c5⟩
  replace L := Lib.hid (L.out.below c5)
  replace B4 := Lib.hid (B4.out.below c5 B4.out.lt)
  replace M := Lib.hid (M.out.below c5)
  replace SS := Lib.hid (SS.out.below c5)
  clear c5 qq hY2' x0 x1 x2 x3 x4 x5 z0 z1 z2 z3 z4 z5
  have x0 := L.out.wb.cell 0
  have x1 := L.out.wb.cell 1
  have x2 := L.out.wb.cell 2
  have x3 := L.out.wb.cell 3
  have x4 := L.out.wb.cell 4
  have x5 := L.out.wb.cell 5
  have z0 := B4.out.cell 0
  have z1 := B4.out.cell 1
  have z2 := B4.out.cell 2
  have z3 := B4.out.cell 3
  have z4 := B4.out.cell 4
  have z5 := B4.out.cell 5
  simp at x0 x1 x2 x3 x4 x5 z0 z1 z2 z3 z4 z5
  have RY3 := ro1.out t5
  obtain ⟨Y3, hY3⟩ : ∃ Y3, Y3 = t5.alloc (.cells #[.int .i64 1, .int .i64 1, .string ⟨#[109, 97, 105, 110]⟩, .string ⟨#[97, 46, 103, 111]⟩, .int .i64 3, .string ⟨#[105, 32, 45, 32, 110, 32, 60, 61, 32, 48]⟩] 23) := ⟨_, rfl⟩
  have bY3 : Below t5.heap.size t5 Y3 := by rw [hY3]; exact box_below _ _ _
  rw [← hY3] at RY3
  replace L := Lib.hid (L.out.below bY3)
  replace B4 := Lib.hid (B4.out.below bY3 B4.out.lt)
  replace M := Lib.hid (M.out.below bY3)
  replace SS := Lib.hid (SS.out.below bY3)
  have hY3' := Lib.hid hY3
  have qq := Lib.hid (qm.out Y3 _ 1 _ _ _ _ M.out RY3)
  clear RY3 bY3 hY3
  go_wp2_with fail
  rw [← hY3'.out]
  with_reducible refine qq.out.mono ?_
  rintro e t6 ⟨rfl, c6⟩
  replace L := Lib.hid (L.out.below c6)
  replace B4 := Lib.hid (B4.out.below c6 B4.out.lt)
  replace M := Lib.hid (M.out.below c6)
  replace SS := Lib.hid (SS.out.below c6)
  clear c6 qq hY3' x0 x1 x2 x3 x4 x5 z0 z1 z2 z3 z4 z5
  go_wp2
  go_ret
  exact ⟨rfl, L.out.bel⟩
end Go.Proofs.YtimgocfkogebmaaGreatDoor
namespace Go.Proofs.YtimgocfkogebmaaGreatDoor
open Go.RowKit
set_option linter.unusedVariables false
set_option linter.unusedSimpArgs false
structure LO (w : World) (pnm : ByteArray) (pa1 : Option Addr) (pn1 pc1 : Nat) (pa2 : Option Addr) (pn2 pc2 : Nat) (pa3 : Option Addr) (pn3 pc3 : Nat) (a : Option Addr) (n c : Nat) (D : PD) (L : List (Int × List Int)) (W : World) : Prop where
  pr : PrA W ⟨pnm, pa1, pn1, pc1, pa2, pn2, pc2, pa3, pn3, pc3⟩ D
  zr : ZRow W a n c L
  box : Holds W w.heap.size 38 #[.string pnm, .slice pa1 pn1 pc1, .slice pa2 pn2 pc2, .slice pa3 pn3 pc3]
  bel : Below w.heap.size w W
  tab : Tab W
theorem LO.below {w : World} {pnm : ByteArray} {pa1 : Option Addr} {pn1 pc1 : Nat} {pa2 : Option Addr} {pn2 pc2 : Nat} {pa3 : Option Addr} {pn3 pc3 : Nat} {a : Option Addr} {n c : Nat} {D : PD} {L : List (Int × List Int)} {W W' : World} (h : LO w pnm pa1 pn1 pc1 pa2 pn2 pc2 pa3 pn3 pc3 a n c D L W) (hb : Below W.heap.size W W') : LO w pnm pa1 pn1 pc1 pa2 pn2 pc2 pa3 pn3 pc3 a n c D L W' :=
  ⟨h.pr.below hb, h.zr.below hb, h.box.below hb h.box.lt, h.bel.trans (hb.mono h.bel.size), h.tab.on hb⟩
set_option maxRecDepth 100000 in
set_option maxHeartbeats 8000000 in
theorem alarmOf_large (w : World) (ht : Tab w) (pnm : ByteArray) (pa1 : Option Addr) (pn1 pc1 : Nat) (pa2 : Option Addr) (pn2 pc2 : Nat) (pa3 : Option Addr) (pn3 pc3 : Nat) (a : Option Addr) (n c : Nat) (D : PD) (hD : PW D) (L : List (Int × List Int)) (i : Int)
    (h : PrA w ⟨pnm, pa1, pn1, pc1, pa2, pn2, pc2, pa3, pn3, pc3⟩ D) (hl : ZRow w a n c L) (hb : (big15 D || bigZ L) = true) :
    Calls Tryz.prog 4 #[.agg #[.string pnm, .slice pa1 pn1 pc1, .slice pa2 pn2 pc2, .slice pa3 pn3 pc3], .slice a n c, .int .i64 i] w (Gives (.bool true) w) := by
  obtain ⟨U, hU⟩ : ∃ U, U = w.alloc (.cells #[.string pnm, .slice pa1 pn1 pc1, .slice pa2 pn2 pc2, .slice pa3 pn3 pc3] 38) := ⟨_, rfl⟩
  have bU : Below w.heap.size w U := by rw [hU]; exact box_below _ _ _
  have LL : Hid (LO w pnm pa1 pn1 pc1 pa2 pn2 pc2 pa3 pn3 pc3 a n c D L U) := Lib.hid ⟨h.below bU, hl.below bU, by rw [hU]; exact Holds.new _ _ _, bU, ht.on bU⟩
  have q1 := Lib.hid (fun W hW => big15_any ⟨pnm, pa1, pn1, pc1, pa2, pn2, pc2, pa3, pn3, pc3⟩ D hD W hW)
  have q2 := Lib.hid (fun W hW => bigZ_any a n c L W hW)
  have qv := Lib.hid (fun W hT => alives_any W hT)
  have hU' := Lib.hid hU
  clear hU bU h hl ht
  dsimp only at q1
  cases hb1 : big15 D
  · have hb2 : bigZ L = true := by rw [hb1] at hb; simpa using hb
    rw [hb1] at q1
    rw [hb2] at q2
    clear hb hb1 hb2
    go_enter Tryz.func4, Tryz.ntmps4
    go_wp2_with fail
    rw [← hU'.out]
    with_reducible refine (q1.out _ LL.out.pr).mono ?_
    rintro e u1 ⟨rfl, b1⟩
    replace LL := Lib.hid (LL.out.below b1)
    clear b1 q1 hU'
    go_wp2_with fail
    with_reducible refine (q2.out _ LL.out.zr).mono ?_
    rintro e u2 ⟨rfl, rfl⟩
    clear q2
    go_wp2_with fail
    with_reducible refine (qv.out _ LL.out.tab).mono ?_
    rintro e u3 ⟨rfl, b3⟩
    have hf := Lib.hid (LL.out.bel.trans (b3.mono LL.out.bel.size))
    clear b3 qv LL
    go_wp2
    go_ret
    exact ⟨rfl, hf.out⟩
  · rw [hb1] at q1
    clear hb hb1 q2
    go_enter Tryz.func4, Tryz.ntmps4
    go_wp2_with fail
    rw [← hU'.out]
    with_reducible refine (q1.out _ LL.out.pr).mono ?_
    rintro e u1 ⟨rfl, b1⟩
    replace LL := Lib.hid (LL.out.below b1)
    clear b1 q1 hU'
    go_wp2_with fail
    with_reducible refine (qv.out _ LL.out.tab).mono ?_
    rintro e u3 ⟨rfl, b3⟩
    have hf := Lib.hid (LL.out.bel.trans (b3.mono LL.out.bel.size))
    clear b3 qv LL
    go_wp2
    go_ret
    exact ⟨rfl, hf.out⟩
set_option maxRecDepth 100000 in
set_option maxHeartbeats 8000000 in
theorem alarmOf_bad (w : World) (ht : Tab w) (pnm : ByteArray) (pa1 : Option Addr) (pn1 pc1 : Nat) (pa2 : Option Addr) (pn2 pc2 : Nat) (pa3 : Option Addr) (pn3 pc3 : Nat) (a : Option Addr) (n c : Nat) (D : PD) (hD : PW D) (L : List (Int × List Int)) (i : Int)
    (h : PrA w ⟨pnm, pa1, pn1, pc1, pa2, pn2, pc2, pa3, pn3, pc3⟩ D) (hl : ZRow w a n c L) (hb : (big15 D || bigZ L) = false) (hc : chkZ D L ≠ 0) :
    Calls Tryz.prog 4 #[.agg #[.string pnm, .slice pa1 pn1 pc1, .slice pa2 pn2 pc2, .slice pa3 pn3 pc3], .slice a n c, .int .i64 i] w (Gives (.bool true) w) := by
  obtain ⟨U, hU⟩ : ∃ U, U = w.alloc (.cells #[.string pnm, .slice pa1 pn1 pc1, .slice pa2 pn2 pc2, .slice pa3 pn3 pc3] 38) := ⟨_, rfl⟩
  have bU : Below w.heap.size w U := by rw [hU]; exact box_below _ _ _
  have LL : Hid (LO w pnm pa1 pn1 pc1 pa2 pn2 pc2 pa3 pn3 pc3 a n c D L U) := Lib.hid ⟨h.below bU, hl.below bU, by rw [hU]; exact Holds.new _ _ _, bU, ht.on bU⟩
  have q1 := Lib.hid (fun W hW => big15_any ⟨pnm, pa1, pn1, pc1, pa2, pn2, pc2, pa3, pn3, pc3⟩ D hD W hW)
  have q2 := Lib.hid (fun W hW => bigZ_any a n c L W hW)
  have qv := Lib.hid (fun W hT => alives_any W hT)
  have qo := Lib.hid (fun W hW hlW => aofs_bad ⟨pnm, pa1, pn1, pc1, pa2, pn2, pc2, pa3, pn3, pc3⟩ D a n c L W hW hlW hc)
  have qe := Lib.hid (fun W hW hlW => aedge_bad ⟨pnm, pa1, pn1, pc1, pa2, pn2, pc2, pa3, pn3, pc3⟩ D a n c L i W hW hlW (.inl hc))
  have qm := Lib.hid (fun W hW hlW => ramay_any ⟨pnm, pa1, pn1, pc1, pa2, pn2, pc2, pa3, pn3, pc3⟩ D hD a n c L W hW hlW)
  rw [Bool.or_eq_false_iff] at hb
  rw [hb.1] at q1
  rw [hb.2] at q2
  have hU' := Lib.hid hU
  clear hU bU h hl ht hb
  dsimp only at q1 qo qe qm
  generalize chkZ D L = E at *
  have hEb : (E != 0) = true := by simpa using hc
  clear hc
  go_enter Tryz.func4, Tryz.ntmps4
  go_wp2_with fail
  rw [← hU'.out]
  with_reducible refine (q1.out _ LL.out.pr).mono ?_
  rintro e u1 ⟨rfl, b1⟩
  replace LL := Lib.hid (LL.out.below b1)
  clear b1 q1 hU'
  go_wp2_with fail
  with_reducible refine (q2.out _ LL.out.zr).mono ?_
  rintro e u2 ⟨rfl, rfl⟩
  clear q2
  have k0 := LL.out.box.cell 0
  have k1 := LL.out.box.cell 1
  have k2 := LL.out.box.cell 2
  have k3 := LL.out.box.cell 3
  simp at k0 k1 k2 k3
  go_wp2_with fail
  with_reducible refine (qo.out _ LL.out.pr LL.out.zr).mono ?_
  rintro e u3 ⟨ma, mc, rfl, -, b3⟩
  replace LL := Lib.hid (LL.out.below b3)
  clear b3 qo k0 k1 k2 k3
  have k0 := LL.out.box.cell 0
  have k1 := LL.out.box.cell 1
  have k2 := LL.out.box.cell 2
  have k3 := LL.out.box.cell 3
  simp at k0 k1 k2 k3
  go_wp2_with fail
  with_reducible refine (qe.out _ LL.out.pr LL.out.zr).mono ?_
  rintro e u4 ⟨rfl, b4⟩
  replace LL := Lib.hid (LL.out.below b4)
  clear b4 qe k0 k1 k2 k3
  obtain ⟨V, hV⟩ : ∃ V, V = u4.alloc (.cells #[.int .i64 al0.kind, .int .i64 al0.sev, .string al0.fn, .string al0.file, .int .i64 al0.line, .string al0.expr] 23) := ⟨_, rfl⟩
  have bV : Below u4.heap.size u4 V := by rw [hV]; exact box_below _ _ _
  replace LL := Lib.hid (LL.out.below bV)
  have hV' := Lib.hid hV
  clear hV bV
  generalize al0 = z0 at *
  go_wp2_with fail
  rw [← hV'.out]
  with_reducible refine (qv.out _ LL.out.tab).mono ?_
  rintro e u5 ⟨rfl, b5⟩
  replace LL := Lib.hid (LL.out.below b5)
  clear b5 qv hV'
  have k0 := LL.out.box.cell 0
  have k1 := LL.out.box.cell 1
  have k2 := LL.out.box.cell 2
  have k3 := LL.out.box.cell 3
  simp at k0 k1 k2 k3
  go_wp2_with fail
  with_reducible refine (qm.out _ LL.out.pr LL.out.zr).mono ?_
  rintro e u6 ⟨rfl, b6⟩
  have hf := Lib.hid (LL.out.bel.trans (b6.mono LL.out.bel.size))
  clear b6 qm k0 k1 k2 k3 LL
  go_wp2
  go_ret
  exact ⟨rfl, hf.out⟩
end Go.Proofs.YtimgocfkogebmaaGreatDoor
namespace Go.Proofs.YtimgocfkogebmaaGreatDoor
open Go.RowKit
set_option linter.unusedVariables false
set_option linter.unusedSimpArgs false
theorem al_setRow {B : Nat} {w w' : World} (h : Below B w w') {g : Nat} (hg : B ≤ g) (cs : Array Value) : Below B w (w'.setRow g cs) :=
  ⟨h.os, h.tape, h.output, by simpa using h.size, fun k hk => by
    rw [← h.block k hk]
    simp only [World.setRow, Array.getElem?_modify]
    rw [if_neg (by omega)]⟩
theorem info_al6 : (Tryz.prog.info? 23).map (·.size) = some 6 := by kernel_rfl
theorem edges_few {D : PD} (h : big15 D = false) : D.edges.length ≤ 30 := by
  unfold big15 at h
  simp only [Bool.or_eq_false_iff, decide_eq_false_iff_not] at h
  omega
theorem alarms_right {D : PD} {L : List (Int × List Int)} (h : chkZ D L = 0) {x : AlD} (hx : x ∈ sortC cmpA (alarmsA D L D.edges)) : chkA x = 0 := by
  have h1 := (sortC_perm cmpA (alarmsA D L D.edges)).mem_iff.1 hx
  unfold alarmsA at h1
  obtain ⟨e, he, rfl⟩ := List.mem_map.1 h1
  obtain ⟨he1, he2⟩ := List.mem_filter.1 he
  obtain ⟨i, hi, rfl⟩ := List.getElem_of_mem he1
  have e3 : D.edges.getD i edge0 = D.edges[i] := by simp [List.getD, hi]
  have := alarm_right h hi (by rw [e3]; exact he2)
  rw [e3] at this
  unfold chkA
  rw [if_pos this]
theorem sorted_few {D : PD} {L : List (Int × List Int)} (h : big15 D = false) : (sortC cmpA (alarmsA D L D.edges)).length ≤ 30 := by
  rw [(sortC_perm cmpA _).length_eq]
  exact Nat.le_trans (alarmsA_len D L _) (edges_few h)
set_option maxRecDepth 100000 in
set_option maxHeartbeats 8000000 in
theorem alarmOf_in (w : World) (ht : Tab w) (pnm : ByteArray) (pa1 : Option Addr) (pn1 pc1 : Nat) (pa2 : Option Addr) (pn2 pc2 : Nat) (pa3 : Option Addr) (pn3 pc3 : Nat) (a : Option Addr) (n c : Nat) (D : PD) (hD : PW D) (L : List (Int × List Int)) (i : Nat) (hi : i < pn3)
    (h : PrA w ⟨pnm, pa1, pn1, pc1, pa2, pn2, pc2, pa3, pn3, pc3⟩ D) (hl : ZRow w a n c L) (hb : (big15 D || bigZ L) = false) (hc : chkZ D L = 0) :
    Calls Tryz.prog 4 #[.agg #[.string pnm, .slice pa1 pn1 pc1, .slice pa2 pn2 pc2, .slice pa3 pn3 pc3], .slice a n c, .int .i64 i] w (Gives (.bool true) w) := by
  obtain ⟨U, hU⟩ : ∃ U, U = w.alloc (.cells #[.string pnm, .slice pa1 pn1 pc1, .slice pa2 pn2 pc2, .slice pa3 pn3 pc3] 38) := ⟨_, rfl⟩
  have bU : Below w.heap.size w U := by rw [hU]; exact box_below _ _ _
  have LL : Hid (LO w pnm pa1 pn1 pc1 pa2 pn2 pc2 pa3 pn3 pc3 a n c D L U) := Lib.hid ⟨h.below bU, hl.below bU, by rw [hU]; exact Holds.new _ _ _, bU, ht.on bU⟩
  rw [Bool.or_eq_false_iff] at hb
  have hel : pn3 = D.edges.length := h.edges.len
  have hfew := edges_few hb.1
  have hsf := sorted_few (L := L) hb.1
  have hn3 : (pn3 : Int) ≤ 30 := by omega
  have q1 := Lib.hid (fun W hW => big15_any ⟨pnm, pa1, pn1, pc1, pa2, pn2, pc2, pa3, pn3, pc3⟩ D hD W hW)
  have q2 := Lib.hid (fun W hW => bigZ_any a n c L W hW)
  have qv := Lib.hid (fun W hT => alives_any W hT)
  have qo := Lib.hid (fun W hW hlW hT => aofs_ok ⟨pnm, pa1, pn1, pc1, pa2, pn2, pc2, pa3, pn3, pc3⟩ D a n c L W hW hlW hT hc (asks_ok hc) (by show pn3 ≤ 256; omega))
  have qm := Lib.hid (fun W hW hlW => ramay_any ⟨pnm, pa1, pn1, pc1, pa2, pn2, pc2, pa3, pn3, pc3⟩ D hD a n c L W hW hlW)
  have qr := Lib.hid (fun W hW hlW => rofs_any ⟨pnm, pa1, pn1, pc1, pa2, pn2, pc2, pa3, pn3, pc3⟩ D a n c L W hW hlW hc (by show pn3 ≤ 256; omega))
  have qs : Hid (∀ W (A B : Option Addr) (m c1 c2 : Nat) (l : List AlD), RO alC W A m c1 l → RO alC W B m c2 l → Calls Tryz.prog 13 #[.slice A m c1, .slice B m c2] W (Gives (.bool true) W)) := Lib.hid (fun W A B m c1 c2 l h1 h2 => by
    have q := ralSame_any A B m m c1 c2 l l W h1 h2
    rw [lv_same] at q
    exact q.mono fun e w' h => drawn_gives h)
  have hck : Hid (∀ j, j < (sortC cmpA (alarmsA D L D.edges)).length → chkA ((sortC cmpA (alarmsA D L D.edges)).getD j al0) = 0) := Lib.hid (fun j hj => alarms_right hc (by rw [show (sortC cmpA (alarmsA D L D.edges)).getD j al0 = (sortC cmpA (alarmsA D L D.edges))[j] by simp [List.getD, hj]]; exact List.getElem_mem hj))
  have qk := Lib.hid (fun X W => acheck_any X W)
  have qe := Lib.hid (fun W hW hlW hT => aedge_ok ⟨pnm, pa1, pn1, pc1, pa2, pn2, pc2, pa3, pn3, pc3⟩ D a n c L i W hW hlW hT hc (asks_ok hc) hi)
  have qre := Lib.hid (fun W hW hlW => redge_any ⟨pnm, pa1, pn1, pc1, pa2, pn2, pc2, pa3, pn3, pc3⟩ D a n c L i W hW hlW hc hi)
  have hii : (i : Int) < (pn3 : Int) := by omega
  have hi0 : (0 : Int) ≤ (i : Int) := by omega
  rw [hb.1] at q1
  rw [hb.2] at q2
  rw [hc] at qm
  have hU' := Lib.hid hU
  clear hU bU h hl ht hb hc hfew hel
  dsimp only at q1 qo qe qm qr qre
  generalize sortC cmpA (alarmsA D L D.edges) = AM at *
  generalize edgeA D L (D.edges.getD i edge0) = AZ at *
  generalize mayZ D.vars.length (edgeL L (D.edges.getD i edge0)) (D.edges.getD i edge0) = mb at *
  have hnm : Hid (AM.length ≤ 30) := Lib.hid hsf
  clear hsf
  go_enter Tryz.func4, Tryz.ntmps4
  go_wp2_with fail
  rw [← hU'.out]
  with_reducible refine (q1.out _ LL.out.pr).mono ?_
  rintro e u1 ⟨rfl, b1⟩
  replace LL := Lib.hid (LL.out.below b1)
  clear b1 q1 hU'
  go_wp2_with fail
  with_reducible refine (q2.out _ LL.out.zr).mono ?_
  rintro e u2 ⟨rfl, rfl⟩
  clear q2
  have k0 := LL.out.box.cell 0
  have k1 := LL.out.box.cell 1
  have k2 := LL.out.box.cell 2
  have k3 := LL.out.box.cell 3
  simp at k0 k1 k2 k3
  go_wp2_with fail
  with_reducible refine (qo.out _ LL.out.pr LL.out.zr LL.out.tab).mono ?_
  rintro e u3 ⟨ma, mc, rfl, hm, b3⟩
  replace LL := Lib.hid (LL.out.below b3)
  have HM := Lib.hid hm
  clear b3 qo k0 k1 k2 k3 hm
  have k0 := LL.out.box.cell 0
  have k1 := LL.out.box.cell 1
  have k2 := LL.out.box.cell 2
  have k3 := LL.out.box.cell 3
  simp at k0 k1 k2 k3
  go_wp2_with fail
  with_reducible refine (qe.out _ LL.out.pr LL.out.zr LL.out.tab).mono ?_
  rintro e u4 ⟨rfl, b4⟩
  replace LL := Lib.hid (LL.out.below b4)
  replace HM := Lib.hid (HM.out.below b4)
  clear b4 qe k0 k1 k2 k3
  obtain ⟨V, hV⟩ : ∃ V, V = u4.alloc (.cells #[.int .i64 AZ.kind, .int .i64 AZ.sev, .string AZ.fn, .string AZ.file, .int .i64 AZ.line, .string AZ.expr] 23) := ⟨_, rfl⟩
  have bV : Below u4.heap.size u4 V := by rw [hV]; exact box_below _ _ _
  obtain ⟨ga, hga⟩ : ∃ ga, ga = u4.heap.size := ⟨_, rfl⟩
  have HA : Hid (Holds V ga 23 #[.int .i64 AZ.kind, .int .i64 AZ.sev, .string AZ.fn, .string AZ.file, .int .i64 AZ.line, .string AZ.expr]) := Lib.hid (by rw [hV, hga]; exact Holds.new _ _ _)
  replace LL := Lib.hid (LL.out.below bV)
  replace HM := Lib.hid (HM.out.below bV)
  have hV' := Lib.hid hV
  have hga' := Lib.hid hga
  clear hV bV hga
  go_wp2_with fail
  rw [← hV'.out, ← hga'.out]
  with_reducible refine (qv.out _ LL.out.tab).mono ?_
  rintro e u5 ⟨rfl, b5⟩
  replace LL := Lib.hid (LL.out.below b5)
  replace HM := Lib.hid (HM.out.below b5)
  replace HA := Lib.hid (HA.out.below b5 HA.out.lt)
  clear b5 qv hV' hga'
  have k0 := LL.out.box.cell 0
  have k1 := LL.out.box.cell 1
  have k2 := LL.out.box.cell 2
  have k3 := LL.out.box.cell 3
  simp at k0 k1 k2 k3
  go_wp2_with fail
  with_reducible refine (qm.out _ LL.out.pr LL.out.zr).mono ?_
  rintro e u6 ⟨rfl, b6⟩
  replace LL := Lib.hid (LL.out.below b6)
  replace HM := Lib.hid (HM.out.below b6)
  replace HA := Lib.hid (HA.out.below b6 HA.out.lt)
  clear b6 qm k0 k1 k2 k3
  obtain ⟨V2, hV2⟩ : ∃ V2, V2 = u6.alloc (.cells #[.int .i64 0, .int .i64 0, .string ⟨#[]⟩, .string ⟨#[]⟩, .int .i64 0, .string ⟨#[]⟩] 23) := ⟨_, rfl⟩
  have bV2 : Below u6.heap.size u6 V2 := by rw [hV2]; exact box_below _ _ _
  obtain ⟨gb, hgb⟩ : ∃ gb, gb = u6.heap.size := ⟨_, rfl⟩
  have HB : Hid (Holds V2 gb 23 #[.int .i64 0, .int .i64 0, .string ⟨#[]⟩, .string ⟨#[]⟩, .int .i64 0, .string ⟨#[]⟩]) := Lib.hid (by rw [hV2, hgb]; exact Holds.new _ _ _)
  have LL2 := Lib.hid (LL.out.below bV2)
  have hV2' := Lib.hid hV2
  have hgb' := Lib.hid hgb
  have bV2' := Lib.hid bV2
  clear hV2 hgb bV2
  have y0 := LL2.out.box.cell 0
  have y1 := LL2.out.box.cell 1
  have y2 := LL2.out.box.cell 2
  have y3 := LL2.out.box.cell 3
  simp at y0 y1 y2 y3
  rw [hV2'.out] at y0 y1 y2 y3
  have y3' := y3
  go_wp2_with fail
  rw [← hV2'.out, ← hgb'.out]
  with_reducible refine (qre.out _ LL2.out.pr LL2.out.zr).mono ?_
  rintro e u7 ⟨rfl, b7⟩
  have HB7 := HB.out.below b7 HB.out.lt
  have b67 := Lib.hid (bV2'.out.trans (b7.mono bV2'.out.size))
  clear y0 y1 y2 y3 y3' qre
  go_wp2_with
    (refine wpList_store_row rfl 23 (.tmp 11) (.tmp 67) rfl gb #[.int .i64 AZ.kind, .int .i64 AZ.sev, .string AZ.fn, .string AZ.file, .int .i64 AZ.line, .string AZ.expr] rfl rfl 23 #[.int .i64 0, .int .i64 0, .string ⟨#[]⟩, .string ⟨#[]⟩, .int .i64 0, .string ⟨#[]⟩] HB7 (by rw [info_al6]; rfl) rfl (by simp [Value.oneCell']) ?_
     have bS : Below u6.heap.size u6 (u7.setRow gb #[.int .i64 AZ.kind, .int .i64 AZ.sev, .string AZ.fn, .string AZ.file, .int .i64 AZ.line, .string AZ.expr]) := al_setRow b67.out (Nat.le_of_eq hgb'.out.symm) _
     have HB8 : Hid (Holds (u7.setRow gb #[.int .i64 AZ.kind, .int .i64 AZ.sev, .string AZ.fn, .string AZ.file, .int .i64 AZ.line, .string AZ.expr]) gb 23 #[.int .i64 AZ.kind, .int .i64 AZ.sev, .string AZ.fn, .string AZ.file, .int .i64 AZ.line, .string AZ.expr]) := Lib.hid (setRow_heap u7 gb #[.int .i64 0, .int .i64 0, .string ⟨#[]⟩, .string ⟨#[]⟩, .int .i64 0, .string ⟨#[]⟩] #[.int .i64 AZ.kind, .int .i64 AZ.sev, .string AZ.fn, .string AZ.file, .int .i64 AZ.line, .string AZ.expr] 23 (0, 0) HB7)
     generalize u7.setRow gb #[.int .i64 AZ.kind, .int .i64 AZ.sev, .string AZ.fn, .string AZ.file, .int .i64 AZ.line, .string AZ.expr] = V8 at *
     replace LL := Lib.hid (LL.out.below bS)
     replace HM := Lib.hid (HM.out.below bS)
     replace HA := Lib.hid (HA.out.below bS HA.out.lt)
     clear bS HB7 b67 hgb' hV2' bV2' LL2 HB b7
     have HB := HB8
     clear HB8
     have a0 := HA.out.cell 0
     have a1 := HA.out.cell 1
     have a2 := HA.out.cell 2
     have a3 := HA.out.cell 3
     have a4 := HA.out.cell 4
     have a5 := HA.out.cell 5
     have c0 := HB.out.cell 0
     have c1 := HB.out.cell 1
     have c2 := HB.out.cell 2
     have c3 := HB.out.cell 3
     have c4 := HB.out.cell 4
     have c5 := HB.out.cell 5
     have k0 := LL.out.box.cell 0
     have k1 := LL.out.box.cell 1
     have k2 := LL.out.box.cell 2
     have k3 := LL.out.box.cell 3
     simp at k0 k1 k2 k3
     simp at a0 a1 a2 a3 a4 a5 c0 c1 c2 c3 c4 c5
     have hmb : (mb != mb) = false := by simp
     )
  with_reducible refine (qr.out _ LL.out.pr LL.out.zr).mono ?_
  rintro e u9 ⟨ra, rc, rfl, hr, b9⟩
  replace LL := Lib.hid (LL.out.below b9)
  replace HM := Lib.hid (HM.out.below b9)
  have HR := Lib.hid hr
  clear b9 qr k0 k1 k2 k3 a0 a1 a2 a3 a4 a5 c0 c1 c2 c3 c4 c5 hr HA HB
  go_wp2_with fail
  with_reducible refine (qs.out _ _ _ _ _ _ _ HM.out HR.out).mono ?_
  rintro e u10 ⟨rfl, b10⟩
  replace LL := Lib.hid (LL.out.below b10)
  replace HM := Lib.hid (HM.out.below b10)
  clear b10 qs HR
  have hm1 := hnm.out
  have hmi : (AM.length : Int) ≤ 30 := by omega
  clear hm1
  generalize AM.length = nm at *
  go_wp2
  go_loopw [13] (fun v wr => ∃ j : Nat, j ≤ nm ∧ v = .int .i64 j ∧ Hid (Below u10.heap.size u10 wr)) (fun v _ => nm - (intOf v).toNat)
  case atStart => exact ⟨0, Nat.zero_le _, rfl, Lib.hid (Below.refl _ _)⟩
  case round =>
    obtain ⟨j, hj, rfl, hB⟩ := hrel
    generalize wr = g0 at *
    by_cases hlt : j < nm
    · have hjj : (j : Int) < (nm : Int) := by omega
      obtain ⟨b, off, rfl, hbl, x0, x1, x2, x3, x4, x5⟩ := al_at (HM.out.below hB.out) hlt
      have qq := Lib.hid (qk.out (AM.getD j al0) g0)
      rw [hck.out j hlt] at qq
      generalize AM.getD j al0 = X at *
      go_wp2_with fail
      with_reducible refine qq.out.mono ?_
      rintro e g2 ⟨rfl, b2⟩
      have B2 := Lib.hid (hB.out.trans (b2.mono hB.out.size))
      clear b2 hB qq x0 x1 x2 x3 x4 x5
      go_wp2
      go_roundw
      case rel => exact ⟨j + 1, by omega, by go_num, B2⟩
      case measure => simp [intOf]; omega
    · have hjj : ¬ (j : Int) < (nm : Int) := by omega
      have hf := Lib.hid (LL.out.bel.trans (hB.out.mono LL.out.bel.size))
      clear LL HM hB qk hck
      go_wp2
      go_ret
      exact ⟨rfl, hf.out⟩
set_option maxRecDepth 100000 in
set_option maxHeartbeats 8000000 in
theorem alarmOf_neg (w : World) (ht : Tab w) (pnm : ByteArray) (pa1 : Option Addr) (pn1 pc1 : Nat) (pa2 : Option Addr) (pn2 pc2 : Nat) (pa3 : Option Addr) (pn3 pc3 : Nat) (a : Option Addr) (n c : Nat) (D : PD) (hD : PW D) (L : List (Int × List Int)) (i : Int) (hi : i < 0)
    (h : PrA w ⟨pnm, pa1, pn1, pc1, pa2, pn2, pc2, pa3, pn3, pc3⟩ D) (hl : ZRow w a n c L) (hb : (big15 D || bigZ L) = false) (hc : chkZ D L = 0) :
    Calls Tryz.prog 4 #[.agg #[.string pnm, .slice pa1 pn1 pc1, .slice pa2 pn2 pc2, .slice pa3 pn3 pc3], .slice a n c, .int .i64 i] w (Gives (.bool true) w) := by
  obtain ⟨U, hU⟩ : ∃ U, U = w.alloc (.cells #[.string pnm, .slice pa1 pn1 pc1, .slice pa2 pn2 pc2, .slice pa3 pn3 pc3] 38) := ⟨_, rfl⟩
  have bU : Below w.heap.size w U := by rw [hU]; exact box_below _ _ _
  have LL : Hid (LO w pnm pa1 pn1 pc1 pa2 pn2 pc2 pa3 pn3 pc3 a n c D L U) := Lib.hid ⟨h.below bU, hl.below bU, by rw [hU]; exact Holds.new _ _ _, bU, ht.on bU⟩
  rw [Bool.or_eq_false_iff] at hb
  have hel : pn3 = D.edges.length := h.edges.len
  have hfew := edges_few hb.1
  have hsf := sorted_few (L := L) hb.1
  have hn3 : (pn3 : Int) ≤ 30 := by omega
  have q1 := Lib.hid (fun W hW => big15_any ⟨pnm, pa1, pn1, pc1, pa2, pn2, pc2, pa3, pn3, pc3⟩ D hD W hW)
  have q2 := Lib.hid (fun W hW => bigZ_any a n c L W hW)
  have qv := Lib.hid (fun W hT => alives_any W hT)
  have qo := Lib.hid (fun W hW hlW hT => aofs_ok ⟨pnm, pa1, pn1, pc1, pa2, pn2, pc2, pa3, pn3, pc3⟩ D a n c L W hW hlW hT hc (asks_ok hc) (by show pn3 ≤ 256; omega))
  have qm := Lib.hid (fun W hW hlW => ramay_any ⟨pnm, pa1, pn1, pc1, pa2, pn2, pc2, pa3, pn3, pc3⟩ D hD a n c L W hW hlW)
  have qr := Lib.hid (fun W hW hlW => rofs_any ⟨pnm, pa1, pn1, pc1, pa2, pn2, pc2, pa3, pn3, pc3⟩ D a n c L W hW hlW hc (by show pn3 ≤ 256; omega))
  have qs : Hid (∀ W (A B : Option Addr) (m c1 c2 : Nat) (l : List AlD), RO alC W A m c1 l → RO alC W B m c2 l → Calls Tryz.prog 13 #[.slice A m c1, .slice B m c2] W (Gives (.bool true) W)) := Lib.hid (fun W A B m c1 c2 l h1 h2 => by
    have q := ralSame_any A B m m c1 c2 l l W h1 h2
    rw [lv_same] at q
    exact q.mono fun e w' h => drawn_gives h)
  have hck : Hid (∀ j, j < (sortC cmpA (alarmsA D L D.edges)).length → chkA ((sortC cmpA (alarmsA D L D.edges)).getD j al0) = 0) := Lib.hid (fun j hj => alarms_right hc (by rw [show (sortC cmpA (alarmsA D L D.edges)).getD j al0 = (sortC cmpA (alarmsA D L D.edges))[j] by simp [List.getD, hj]]; exact List.getElem_mem hj))
  have qk := Lib.hid (fun X W => acheck_any X W)
  have qe := Lib.hid (fun W hW hlW => aedge_bad ⟨pnm, pa1, pn1, pc1, pa2, pn2, pc2, pa3, pn3, pc3⟩ D a n c L i W hW hlW (.inr (by first | exact .inl hi | exact .inr (Int.not_lt.1 hi))))
  rw [hb.1] at q1
  rw [hb.2] at q2
  rw [hc] at qm
  have hU' := Lib.hid hU
  clear hU bU h hl ht hb hc hfew hel
  dsimp only at q1 qo qe qm qr 
  generalize sortC cmpA (alarmsA D L D.edges) = AM at *
  have qe2 : Hid (∀ W, PrA W ⟨pnm, pa1, pn1, pc1, pa2, pn2, pc2, pa3, pn3, pc3⟩ D → ZRow W a n c L → Calls Tryz.prog 20 #[.agg #[.string pnm, .slice pa1 pn1 pc1, .slice pa2 pn2 pc2, .slice pa3 pn3 pc3], .slice a n c, .int .i64 i] W (fun e w' => e = .returned (.tuple #[.agg #[.int .i64 0, .int .i64 0, .string ⟨#[]⟩, .string ⟨#[]⟩, .int .i64 0, .string ⟨#[]⟩], .bool false]) ∧ Below W.heap.size W w')) := Lib.hid (fun W hW hlW => (qe.out W hW hlW).mono fun e w' h => h)
  clear qe
  have qe := qe2
  clear qe2
  have hnm : Hid (AM.length ≤ 30) := Lib.hid hsf
  clear hsf
  go_enter Tryz.func4, Tryz.ntmps4
  go_wp2_with fail
  rw [← hU'.out]
  with_reducible refine (q1.out _ LL.out.pr).mono ?_
  rintro e u1 ⟨rfl, b1⟩
  replace LL := Lib.hid (LL.out.below b1)
  clear b1 q1 hU'
  go_wp2_with fail
  with_reducible refine (q2.out _ LL.out.zr).mono ?_
  rintro e u2 ⟨rfl, rfl⟩
  clear q2
  have k0 := LL.out.box.cell 0
  have k1 := LL.out.box.cell 1
  have k2 := LL.out.box.cell 2
  have k3 := LL.out.box.cell 3
  simp at k0 k1 k2 k3
  go_wp2_with fail
  with_reducible refine (qo.out _ LL.out.pr LL.out.zr LL.out.tab).mono ?_
  rintro e u3 ⟨ma, mc, rfl, hm, b3⟩
  replace LL := Lib.hid (LL.out.below b3)
  have HM := Lib.hid hm
  clear b3 qo k0 k1 k2 k3 hm
  have k0 := LL.out.box.cell 0
  have k1 := LL.out.box.cell 1
  have k2 := LL.out.box.cell 2
  have k3 := LL.out.box.cell 3
  simp at k0 k1 k2 k3
  go_wp2_with fail
  with_reducible refine (qe.out _ LL.out.pr LL.out.zr).mono ?_
  rintro e u4 ⟨rfl, b4⟩
  replace LL := Lib.hid (LL.out.below b4)
  replace HM := Lib.hid (HM.out.below b4)
  clear b4 qe k0 k1 k2 k3
  obtain ⟨V, hV⟩ : ∃ V, V = u4.alloc (.cells #[.int .i64 0, .int .i64 0, .string ⟨#[]⟩, .string ⟨#[]⟩, .int .i64 0, .string ⟨#[]⟩] 23) := ⟨_, rfl⟩
  have bV : Below u4.heap.size u4 V := by rw [hV]; exact box_below _ _ _
  obtain ⟨ga, hga⟩ : ∃ ga, ga = u4.heap.size := ⟨_, rfl⟩
  have HA : Hid (Holds V ga 23 #[.int .i64 0, .int .i64 0, .string ⟨#[]⟩, .string ⟨#[]⟩, .int .i64 0, .string ⟨#[]⟩]) := Lib.hid (by rw [hV, hga]; exact Holds.new _ _ _)
  replace LL := Lib.hid (LL.out.below bV)
  replace HM := Lib.hid (HM.out.below bV)
  have hV' := Lib.hid hV
  have hga' := Lib.hid hga
  clear hV bV hga
  go_wp2_with fail
  rw [← hV'.out, ← hga'.out]
  with_reducible refine (qv.out _ LL.out.tab).mono ?_
  rintro e u5 ⟨rfl, b5⟩
  replace LL := Lib.hid (LL.out.below b5)
  replace HM := Lib.hid (HM.out.below b5)
  replace HA := Lib.hid (HA.out.below b5 HA.out.lt)
  clear b5 qv hV' hga'
  have k0 := LL.out.box.cell 0
  have k1 := LL.out.box.cell 1
  have k2 := LL.out.box.cell 2
  have k3 := LL.out.box.cell 3
  simp at k0 k1 k2 k3
  go_wp2_with fail
  with_reducible refine (qm.out _ LL.out.pr LL.out.zr).mono ?_
  rintro e u6 ⟨rfl, b6⟩
  replace LL := Lib.hid (LL.out.below b6)
  replace HM := Lib.hid (HM.out.below b6)
  replace HA := Lib.hid (HA.out.below b6 HA.out.lt)
  clear b6 qm k0 k1 k2 k3
  obtain ⟨V2, hV2⟩ : ∃ V2, V2 = u6.alloc (.cells #[.int .i64 0, .int .i64 0, .string ⟨#[]⟩, .string ⟨#[]⟩, .int .i64 0, .string ⟨#[]⟩] 23) := ⟨_, rfl⟩
  have bV2 : Below u6.heap.size u6 V2 := by rw [hV2]; exact box_below _ _ _
  obtain ⟨gb, hgb⟩ : ∃ gb, gb = u6.heap.size := ⟨_, rfl⟩
  have HB : Hid (Holds V2 gb 23 #[.int .i64 0, .int .i64 0, .string ⟨#[]⟩, .string ⟨#[]⟩, .int .i64 0, .string ⟨#[]⟩]) := Lib.hid (by rw [hV2, hgb]; exact Holds.new _ _ _)
  replace LL := Lib.hid (LL.out.below bV2)
  replace HM := Lib.hid (HM.out.below bV2)
  replace HA := Lib.hid (HA.out.below bV2 HA.out.lt)
  have hV2' := Lib.hid hV2
  have hgb' := Lib.hid hgb
  clear hV2 hgb bV2
  have a0 := HA.out.cell 0
  have a1 := HA.out.cell 1
  have a2 := HA.out.cell 2
  have a3 := HA.out.cell 3
  have a4 := HA.out.cell 4
  have a5 := HA.out.cell 5
  have c0 := HB.out.cell 0
  have c1 := HB.out.cell 1
  have c2 := HB.out.cell 2
  have c3 := HB.out.cell 3
  have c4 := HB.out.cell 4
  have c5 := HB.out.cell 5
  have k0 := LL.out.box.cell 0
  have k1 := LL.out.box.cell 1
  have k2 := LL.out.box.cell 2
  have k3 := LL.out.box.cell 3
  simp at k0 k1 k2 k3
  simp at a0 a1 a2 a3 a4 a5 c0 c1 c2 c3 c4 c5
  rw [hV2'.out] at a0 a1 a2 a3 a4 a5 c0 c1 c2 c3 c4 c5 k0 k1 k2 k3
  rw [hgb'.out] at c0 c1 c2 c3 c4 c5
  go_wp2_with fail
  rw [← hV2'.out]
  with_reducible refine (qr.out _ LL.out.pr LL.out.zr).mono ?_
  rintro e u9 ⟨ra, rc, rfl, hr, b9⟩
  replace LL := Lib.hid (LL.out.below b9)
  replace HM := Lib.hid (HM.out.below b9)
  have HR := Lib.hid hr
  clear b9 qr k0 k1 k2 k3 a0 a1 a2 a3 a4 a5 c0 c1 c2 c3 c4 c5 hr HA HB
  go_wp2_with fail
  with_reducible refine (qs.out _ _ _ _ _ _ _ HM.out HR.out).mono ?_
  rintro e u10 ⟨rfl, b10⟩
  replace LL := Lib.hid (LL.out.below b10)
  replace HM := Lib.hid (HM.out.below b10)
  clear b10 qs HR
  have hm1 := hnm.out
  have hmi : (AM.length : Int) ≤ 30 := by omega
  clear hm1
  generalize AM.length = nm at *
  go_wp2
  go_loopw [13] (fun v wr => ∃ j : Nat, j ≤ nm ∧ v = .int .i64 j ∧ Hid (Below u10.heap.size u10 wr)) (fun v _ => nm - (intOf v).toNat)
  case atStart => exact ⟨0, Nat.zero_le _, rfl, Lib.hid (Below.refl _ _)⟩
  case round =>
    obtain ⟨j, hj, rfl, hB⟩ := hrel
    generalize wr = g0 at *
    by_cases hlt : j < nm
    · have hjj : (j : Int) < (nm : Int) := by omega
      obtain ⟨b, off, rfl, hbl, x0, x1, x2, x3, x4, x5⟩ := al_at (HM.out.below hB.out) hlt
      have qq := Lib.hid (qk.out (AM.getD j al0) g0)
      rw [hck.out j hlt] at qq
      generalize AM.getD j al0 = X at *
      go_wp2_with fail
      with_reducible refine qq.out.mono ?_
      rintro e g2 ⟨rfl, b2⟩
      have B2 := Lib.hid (hB.out.trans (b2.mono hB.out.size))
      clear b2 hB qq x0 x1 x2 x3 x4 x5
      go_wp2
      go_roundw
      case rel => exact ⟨j + 1, by omega, by go_num, B2⟩
      case measure => simp [intOf]; omega
    · have hjj : ¬ (j : Int) < (nm : Int) := by omega
      have hf := Lib.hid (LL.out.bel.trans (hB.out.mono LL.out.bel.size))
      clear LL HM hB qk hck
      go_wp2
      go_ret
      exact ⟨rfl, hf.out⟩
set_option maxRecDepth 100000 in
set_option maxHeartbeats 8000000 in
theorem alarmOf_out (w : World) (ht : Tab w) (pnm : ByteArray) (pa1 : Option Addr) (pn1 pc1 : Nat) (pa2 : Option Addr) (pn2 pc2 : Nat) (pa3 : Option Addr) (pn3 pc3 : Nat) (a : Option Addr) (n c : Nat) (D : PD) (hD : PW D) (L : List (Int × List Int)) (i : Int) (hi0 : 0 ≤ i) (hi : ¬ i < (pn3 : Int))
    (h : PrA w ⟨pnm, pa1, pn1, pc1, pa2, pn2, pc2, pa3, pn3, pc3⟩ D) (hl : ZRow w a n c L) (hb : (big15 D || bigZ L) = false) (hc : chkZ D L = 0) :
    Calls Tryz.prog 4 #[.agg #[.string pnm, .slice pa1 pn1 pc1, .slice pa2 pn2 pc2, .slice pa3 pn3 pc3], .slice a n c, .int .i64 i] w (Gives (.bool true) w) := by
  obtain ⟨U, hU⟩ : ∃ U, U = w.alloc (.cells #[.string pnm, .slice pa1 pn1 pc1, .slice pa2 pn2 pc2, .slice pa3 pn3 pc3] 38) := ⟨_, rfl⟩
  have bU : Below w.heap.size w U := by rw [hU]; exact box_below _ _ _
  have LL : Hid (LO w pnm pa1 pn1 pc1 pa2 pn2 pc2 pa3 pn3 pc3 a n c D L U) := Lib.hid ⟨h.below bU, hl.below bU, by rw [hU]; exact Holds.new _ _ _, bU, ht.on bU⟩
  rw [Bool.or_eq_false_iff] at hb
  have hel : pn3 = D.edges.length := h.edges.len
  have hfew := edges_few hb.1
  have hsf := sorted_few (L := L) hb.1
  have hn3 : (pn3 : Int) ≤ 30 := by omega
  have q1 := Lib.hid (fun W hW => big15_any ⟨pnm, pa1, pn1, pc1, pa2, pn2, pc2, pa3, pn3, pc3⟩ D hD W hW)
  have q2 := Lib.hid (fun W hW => bigZ_any a n c L W hW)
  have qv := Lib.hid (fun W hT => alives_any W hT)
  have qo := Lib.hid (fun W hW hlW hT => aofs_ok ⟨pnm, pa1, pn1, pc1, pa2, pn2, pc2, pa3, pn3, pc3⟩ D a n c L W hW hlW hT hc (asks_ok hc) (by show pn3 ≤ 256; omega))
  have qm := Lib.hid (fun W hW hlW => ramay_any ⟨pnm, pa1, pn1, pc1, pa2, pn2, pc2, pa3, pn3, pc3⟩ D hD a n c L W hW hlW)
  have qr := Lib.hid (fun W hW hlW => rofs_any ⟨pnm, pa1, pn1, pc1, pa2, pn2, pc2, pa3, pn3, pc3⟩ D a n c L W hW hlW hc (by show pn3 ≤ 256; omega))
  have qs : Hid (∀ W (A B : Option Addr) (m c1 c2 : Nat) (l : List AlD), RO alC W A m c1 l → RO alC W B m c2 l → Calls Tryz.prog 13 #[.slice A m c1, .slice B m c2] W (Gives (.bool true) W)) := Lib.hid (fun W A B m c1 c2 l h1 h2 => by
    have q := ralSame_any A B m m c1 c2 l l W h1 h2
    rw [lv_same] at q
    exact q.mono fun e w' h => drawn_gives h)
  have hck : Hid (∀ j, j < (sortC cmpA (alarmsA D L D.edges)).length → chkA ((sortC cmpA (alarmsA D L D.edges)).getD j al0) = 0) := Lib.hid (fun j hj => alarms_right hc (by rw [show (sortC cmpA (alarmsA D L D.edges)).getD j al0 = (sortC cmpA (alarmsA D L D.edges))[j] by simp [List.getD, hj]]; exact List.getElem_mem hj))
  have qk := Lib.hid (fun X W => acheck_any X W)
  have qe := Lib.hid (fun W hW hlW => aedge_bad ⟨pnm, pa1, pn1, pc1, pa2, pn2, pc2, pa3, pn3, pc3⟩ D a n c L i W hW hlW (.inr (by first | exact .inl hi | exact .inr (Int.not_lt.1 hi))))
  rw [hb.1] at q1
  rw [hb.2] at q2
  rw [hc] at qm
  have hU' := Lib.hid hU
  clear hU bU h hl ht hb hc hfew hel
  dsimp only at q1 qo qe qm qr 
  generalize sortC cmpA (alarmsA D L D.edges) = AM at *
  have qe2 : Hid (∀ W, PrA W ⟨pnm, pa1, pn1, pc1, pa2, pn2, pc2, pa3, pn3, pc3⟩ D → ZRow W a n c L → Calls Tryz.prog 20 #[.agg #[.string pnm, .slice pa1 pn1 pc1, .slice pa2 pn2 pc2, .slice pa3 pn3 pc3], .slice a n c, .int .i64 i] W (fun e w' => e = .returned (.tuple #[.agg #[.int .i64 0, .int .i64 0, .string ⟨#[]⟩, .string ⟨#[]⟩, .int .i64 0, .string ⟨#[]⟩], .bool false]) ∧ Below W.heap.size W w')) := Lib.hid (fun W hW hlW => (qe.out W hW hlW).mono fun e w' h => h)
  clear qe
  have qe := qe2
  clear qe2
  have hnm : Hid (AM.length ≤ 30) := Lib.hid hsf
  clear hsf
  go_enter Tryz.func4, Tryz.ntmps4
  go_wp2_with fail
  rw [← hU'.out]
  with_reducible refine (q1.out _ LL.out.pr).mono ?_
  rintro e u1 ⟨rfl, b1⟩
  replace LL := Lib.hid (LL.out.below b1)
  clear b1 q1 hU'
  go_wp2_with fail
  with_reducible refine (q2.out _ LL.out.zr).mono ?_
  rintro e u2 ⟨rfl, rfl⟩
  clear q2
  have k0 := LL.out.box.cell 0
  have k1 := LL.out.box.cell 1
  have k2 := LL.out.box.cell 2
  have k3 := LL.out.box.cell 3
  simp at k0 k1 k2 k3
  go_wp2_with fail
  with_reducible refine (qo.out _ LL.out.pr LL.out.zr LL.out.tab).mono ?_
  rintro e u3 ⟨ma, mc, rfl, hm, b3⟩
  replace LL := Lib.hid (LL.out.below b3)
  have HM := Lib.hid hm
  clear b3 qo k0 k1 k2 k3 hm
  have k0 := LL.out.box.cell 0
  have k1 := LL.out.box.cell 1
  have k2 := LL.out.box.cell 2
  have k3 := LL.out.box.cell 3
  simp at k0 k1 k2 k3
  go_wp2_with fail
  with_reducible refine (qe.out _ LL.out.pr LL.out.zr).mono ?_
  rintro e u4 ⟨rfl, b4⟩
  replace LL := Lib.hid (LL.out.below b4)
  replace HM := Lib.hid (HM.out.below b4)
  clear b4 qe k0 k1 k2 k3
  obtain ⟨V, hV⟩ : ∃ V, V = u4.alloc (.cells #[.int .i64 0, .int .i64 0, .string ⟨#[]⟩, .string ⟨#[]⟩, .int .i64 0, .string ⟨#[]⟩] 23) := ⟨_, rfl⟩
  have bV : Below u4.heap.size u4 V := by rw [hV]; exact box_below _ _ _
  obtain ⟨ga, hga⟩ : ∃ ga, ga = u4.heap.size := ⟨_, rfl⟩
  have HA : Hid (Holds V ga 23 #[.int .i64 0, .int .i64 0, .string ⟨#[]⟩, .string ⟨#[]⟩, .int .i64 0, .string ⟨#[]⟩]) := Lib.hid (by rw [hV, hga]; exact Holds.new _ _ _)
  replace LL := Lib.hid (LL.out.below bV)
  replace HM := Lib.hid (HM.out.below bV)
  have hV' := Lib.hid hV
  have hga' := Lib.hid hga
  clear hV bV hga
  go_wp2_with fail
  rw [← hV'.out, ← hga'.out]
  with_reducible refine (qv.out _ LL.out.tab).mono ?_
  rintro e u5 ⟨rfl, b5⟩
  replace LL := Lib.hid (LL.out.below b5)
  replace HM := Lib.hid (HM.out.below b5)
  replace HA := Lib.hid (HA.out.below b5 HA.out.lt)
  clear b5 qv hV' hga'
  have k0 := LL.out.box.cell 0
  have k1 := LL.out.box.cell 1
  have k2 := LL.out.box.cell 2
  have k3 := LL.out.box.cell 3
  simp at k0 k1 k2 k3
  go_wp2_with fail
  with_reducible refine (qm.out _ LL.out.pr LL.out.zr).mono ?_
  rintro e u6 ⟨rfl, b6⟩
  replace LL := Lib.hid (LL.out.below b6)
  replace HM := Lib.hid (HM.out.below b6)
  replace HA := Lib.hid (HA.out.below b6 HA.out.lt)
  clear b6 qm k0 k1 k2 k3
  obtain ⟨V2, hV2⟩ : ∃ V2, V2 = u6.alloc (.cells #[.int .i64 0, .int .i64 0, .string ⟨#[]⟩, .string ⟨#[]⟩, .int .i64 0, .string ⟨#[]⟩] 23) := ⟨_, rfl⟩
  have bV2 : Below u6.heap.size u6 V2 := by rw [hV2]; exact box_below _ _ _
  obtain ⟨gb, hgb⟩ : ∃ gb, gb = u6.heap.size := ⟨_, rfl⟩
  have HB : Hid (Holds V2 gb 23 #[.int .i64 0, .int .i64 0, .string ⟨#[]⟩, .string ⟨#[]⟩, .int .i64 0, .string ⟨#[]⟩]) := Lib.hid (by rw [hV2, hgb]; exact Holds.new _ _ _)
  replace LL := Lib.hid (LL.out.below bV2)
  replace HM := Lib.hid (HM.out.below bV2)
  replace HA := Lib.hid (HA.out.below bV2 HA.out.lt)
  have hV2' := Lib.hid hV2
  have hgb' := Lib.hid hgb
  clear hV2 hgb bV2
  have a0 := HA.out.cell 0
  have a1 := HA.out.cell 1
  have a2 := HA.out.cell 2
  have a3 := HA.out.cell 3
  have a4 := HA.out.cell 4
  have a5 := HA.out.cell 5
  have c0 := HB.out.cell 0
  have c1 := HB.out.cell 1
  have c2 := HB.out.cell 2
  have c3 := HB.out.cell 3
  have c4 := HB.out.cell 4
  have c5 := HB.out.cell 5
  have k0 := LL.out.box.cell 0
  have k1 := LL.out.box.cell 1
  have k2 := LL.out.box.cell 2
  have k3 := LL.out.box.cell 3
  simp at k0 k1 k2 k3
  simp at a0 a1 a2 a3 a4 a5 c0 c1 c2 c3 c4 c5
  rw [hV2'.out] at a0 a1 a2 a3 a4 a5 c0 c1 c2 c3 c4 c5 k0 k1 k2 k3
  rw [hgb'.out] at c0 c1 c2 c3 c4 c5
  go_wp2_with fail
  rw [← hV2'.out]
  with_reducible refine (qr.out _ LL.out.pr LL.out.zr).mono ?_
  rintro e u9 ⟨ra, rc, rfl, hr, b9⟩
  replace LL := Lib.hid (LL.out.below b9)
  replace HM := Lib.hid (HM.out.below b9)
  have HR := Lib.hid hr
  clear b9 qr k0 k1 k2 k3 a0 a1 a2 a3 a4 a5 c0 c1 c2 c3 c4 c5 hr HA HB
  go_wp2_with fail
  with_reducible refine (qs.out _ _ _ _ _ _ _ HM.out HR.out).mono ?_
  rintro e u10 ⟨rfl, b10⟩
  replace LL := Lib.hid (LL.out.below b10)
  replace HM := Lib.hid (HM.out.below b10)
  clear b10 qs HR
  have hm1 := hnm.out
  have hmi : (AM.length : Int) ≤ 30 := by omega
  clear hm1
  generalize AM.length = nm at *
  go_wp2
  go_loopw [13] (fun v wr => ∃ j : Nat, j ≤ nm ∧ v = .int .i64 j ∧ Hid (Below u10.heap.size u10 wr)) (fun v _ => nm - (intOf v).toNat)
  case atStart => exact ⟨0, Nat.zero_le _, rfl, Lib.hid (Below.refl _ _)⟩
  case round =>
    obtain ⟨j, hj, rfl, hB⟩ := hrel
    generalize wr = g0 at *
    by_cases hlt : j < nm
    · have hjj : (j : Int) < (nm : Int) := by omega
      obtain ⟨b, off, rfl, hbl, x0, x1, x2, x3, x4, x5⟩ := al_at (HM.out.below hB.out) hlt
      have qq := Lib.hid (qk.out (AM.getD j al0) g0)
      rw [hck.out j hlt] at qq
      generalize AM.getD j al0 = X at *
      go_wp2_with fail
      with_reducible refine qq.out.mono ?_
      rintro e g2 ⟨rfl, b2⟩
      have B2 := Lib.hid (hB.out.trans (b2.mono hB.out.size))
      clear b2 hB qq x0 x1 x2 x3 x4 x5
      go_wp2
      go_roundw
      case rel => exact ⟨j + 1, by omega, by go_num, B2⟩
      case measure => simp [intOf]; omega
    · have hjj : ¬ (j : Int) < (nm : Int) := by omega
      have hf := Lib.hid (LL.out.bel.trans (hB.out.mono LL.out.bel.size))
      clear LL HM hB qk hck
      go_wp2
      go_ret
      exact ⟨rfl, hf.out⟩
theorem alarmOf_all (w : World) (ht : Tab w) (pnm : ByteArray) (pa1 : Option Addr) (pn1 pc1 : Nat) (pa2 : Option Addr) (pn2 pc2 : Nat) (pa3 : Option Addr) (pn3 pc3 : Nat) (a : Option Addr) (n c : Nat) (D : PD) (hD : PW D) (L : List (Int × List Int)) (i : Int) (h : PrA w ⟨pnm, pa1, pn1, pc1, pa2, pn2, pc2, pa3, pn3, pc3⟩ D) (hl : ZRow w a n c L) :
    Calls Tryz.prog 4 #[.agg #[.string pnm, .slice pa1 pn1 pc1, .slice pa2 pn2 pc2, .slice pa3 pn3 pc3], .slice a n c, .int .i64 i] w (Gives (.bool true) w) := by
  cases hb : (big15 D || bigZ L)
  · by_cases hc : chkZ D L = 0
    · by_cases h0 : i < 0
      · exact alarmOf_neg w ht pnm pa1 pn1 pc1 pa2 pn2 pc2 pa3 pn3 pc3 a n c D hD L i h0 h hl hb hc
      · by_cases h1 : i < (pn3 : Int)
        · obtain ⟨k, rfl⟩ := Int.eq_ofNat_of_zero_le (Int.not_lt.1 h0)
          exact alarmOf_in w ht pnm pa1 pn1 pc1 pa2 pn2 pc2 pa3 pn3 pc3 a n c D hD L k (by omega) h hl hb hc
        · exact alarmOf_out w ht pnm pa1 pn1 pc1 pa2 pn2 pc2 pa3 pn3 pc3 a n c D hD L i (by omega) h1 h hl hb hc
    · exact alarmOf_bad w ht pnm pa1 pn1 pc1 pa2 pn2 pc2 pa3 pn3 pc3 a n c D hD L i h hl hb hc
  · exact alarmOf_large w ht pnm pa1 pn1 pc1 pa2 pn2 pc2 pa3 pn3 pc3 a n c D hD L i h hl hb
theorem alarmOf_walk (w : World) (ht : Tab w)
    (pnm : ByteArray) (pq : pnm.size ≤ 140737488351232) (pa1 : Option Addr) (pn1 pc1 : Nat) (p1 : TSl w pa1 pn1 pc1) (pa2 : Option Addr) (pn2 pc2 : Nat) (p2 : SpotsSl w pa2 pn2 pc2) (pa3 : Option Addr) (pn3 pc3 : Nat) (p3 : EdgesSl w pa3 pn3 pc3)
    (a : Option Addr) (n c : Nat) (x4 : ZonesSl w a n c) (i : Int) (hi : (Lit.int .i64 i).wf = true) :
    Calls Tryz.prog 4 #[.agg #[.string pnm, .slice pa1 pn1 pc1, .slice pa2 pn2 pc2, .slice pa3 pn3 pc3], .slice a n c, .int .i64 i] w (Gives (.bool true) w) := by
  obtain ⟨pl, pt, ps, pm⟩ := p1
  obtain ⟨pS, pr2, pw2, pm2⟩ := p2
  obtain ⟨pE, pr3, pw3, pm3⟩ := p3
  obtain ⟨L, hL, -, -⟩ := x4
  have A : PrA w ⟨pnm, pa1, pn1, pc1, pa2, pn2, pc2, pa3, pn3, pc3⟩ ⟨pnm, pl, pS, pE⟩ := ⟨rfl, pt, pr2, pr3⟩
  exact alarmOf_all w ht pnm pa1 pn1 pc1 pa2 pn2 pc2 pa3 pn3 pc3 a n c ⟨pnm, pl, pS, pE⟩ (by constructor <;> first | assumption | (have := pr2.len; have := pr3.len; have := pt.len; simp_all; omega)) L i A hL
end Go.Proofs.YtimgocfkogebmaaGreatDoor
