/-
  Words and walks under the law's proof.
-/
import Derived.ArgAppend
import Derived.Lib.SmallJoins
import Derived.Deep.Fields
import Derived.OpenShut
import Derived.Test.YtimgocfkogebmaaGreatDoorQC01
import Derived.Test.YtimgocfkogebmaaGreatDoorQC06
import Derived.Test.YtimgocfkogebmaaGreatDoorQC07
import Derived.Test.YtimgocfkogebmaaGreatDoorQC08
import Derived.Test.YtimgocfkogebmaaGreatDoorQC11
namespace Go.Proofs.YtimgocfkogebmaaGreatDoor
open Go.RowKit
set_option linter.unusedVariables false
set_option linter.unusedSimpArgs false
def wantA : AlD := ⟨1, 1, ⟨#[109, 97, 105, 110]⟩, ⟨#[97, 46, 103, 111]⟩, 3, ⟨#[105, 32, 45, 32, 110, 32, 60, 61, 32, 48]⟩⟩
def wantB : AlD := ⟨1, 1, ⟨#[109, 97, 105, 110]⟩, ⟨#[97, 46, 103, 111]⟩, 2, ⟨#[105, 32, 45, 32, 110, 32, 60, 61, 32, 48]⟩⟩
theorem lv_chk : chkZ guardD guardL = 0 := by kernel_rfl
theorem lv_nil : chkZ guardD [] = 80 := by kernel_rfl
theorem lv_may : mayZ 2 (edgeL guardL guardE) guardE = true := by kernel_rfl
theorem lv_edge : edgeA guardD guardL guardE = wantA := by kernel_rfl
theorem lv_all : sortC cmpA (alarmsA guardD guardL [guardE]) = [wantA] := by kernel_rfl
theorem lv_two : sortC cmpA [wantA, wantB] = [wantB, wantA] := by kernel_rfl
theorem lv_cmp : cmpA wantA wantB = 1 := by kernel_rfl
theorem lv_ok : chkA wantA = 0 := by kernel_rfl
theorem lv_no : chkA al0 = 170 := by kernel_rfl
theorem lv_is : edgeL guardL guardE = boxL 2 [(0, 3), (2, 2)] := by
  unfold edgeL guardL
  rw [show guardE.frm.toNat = 0 from rfl, List.getD_cons_zero]
theorem lv_ask (LB : List Int) (hz : IsZ 2 LB) : AskOK 2 LB 5 1 2 0 0 (mayZ 2 LB guardE) (mustZ 2 LB guardE) := ask_5 2 1 2 0 LB hz (by omega) (by omega) (by decide +kernel) (by omega)
theorem lv_asks : AsksOK guardD guardL := by
  intro i hi
  obtain rfl : i = 0 := by have h : i < 1 := hi; omega
  have h2 := lv_ask (edgeL guardL guardE) (by rw [lv_is]; exact boxL_isz (by omega) _)
  exact h2
theorem lv_same (l : List AlD) : sameA l l = true := (sameA_iff l l).2 rfl
theorem drawn_gives {v : Value} {w : World} {e : Ending} {w' : World} (h : DrawnB v w e w') : e = .returned v ∧ Below w.heap.size w w' := by
  obtain ⟨h1, m, rfl⟩ := h
  exact ⟨h1, Below.drewN (Below.refl _ _) m⟩
structure ALv (w : World) (g : Nat) (p : PV) (a : Option Addr) (W : World) : Prop where
  pr : PrA W p guardD
  zr : ZRow W a 2 2 guardL
  box : Holds W g 38 #[.string p.nm, .slice p.a1 p.n1 p.c1, .slice p.a2 p.n2 p.c2, .slice p.a3 p.n3 p.c3]
  wb : Holds W (g + 1) 23 #[.int .i64 1, .int .i64 1, .string ⟨#[109, 97, 105, 110]⟩, .string ⟨#[97, 46, 103, 111]⟩, .int .i64 3, .string ⟨#[105, 32, 45, 32, 110, 32, 60, 61, 32, 48]⟩]
  bel : Below w.heap.size w W
  tab : Tab W
theorem ALv.below {w : World} {g : Nat} {p : PV} {a : Option Addr} {W W' : World} (h : ALv w g p a W) (hb : Below W.heap.size W W') : ALv w g p a W' :=
  ⟨h.pr.below hb, h.zr.below hb, h.box.below hb h.box.lt, h.wb.below hb h.wb.lt, h.bel.trans (hb.mono h.bel.size), h.tab.on hb⟩
set_option maxRecDepth 100000 in
set_option maxHeartbeats 16000000 in
theorem alives_any (w : World) (ht : Tab w) : Calls Tryz.prog 8 #[] w (Gives (.bool true) w) := by
  have T := Lib.hid ht
  clear ht
  have q1 := Lib.hid (guard_any w)
  go_enter Tryz.func8, Tryz.ntmps8
  go_wp2_with fail
  with_reducible refine q1.out.mono ?_
  rintro e u1 ⟨⟨pnm, pa1, pn1, pc1, pa2, pn2, pc2, pa3, pn3, pc3⟩, a, rfl, hp, hz, hb1⟩
  dsimp only
  obtain rfl : pn3 = 1 := hp.edges.len
  obtain rfl : pn1 = 2 := hp.vars.len
  obtain rfl : pn2 = 2 := hp.spots.len
  obtain ⟨U, hU⟩ : ∃ U, U = (u1.alloc (.cells #[.string pnm, .slice pa1 2 pc1, .slice pa2 2 pc2, .slice pa3 1 pc3] 38)).alloc (.cells #[.int .i64 1, .int .i64 1, .string ⟨#[109, 97, 105, 110]⟩, .string ⟨#[97, 46, 103, 111]⟩, .int .i64 3, .string ⟨#[105, 32, 45, 32, 110, 32, 60, 61, 32, 48]⟩] 23) := ⟨_, rfl⟩
  have bU : Below u1.heap.size u1 U := by rw [hU]; exact (box_below _ _ _).alloc (by simp) _
  have L0 : ALv w u1.heap.size ⟨pnm, pa1, 2, pc1, pa2, 2, pc2, pa3, 1, pc3⟩ a U := by
    refine ⟨hp.below bU, hz.below bU, ?_, ?_, hb1.trans (bU.mono hb1.size), T.out.on (hb1.trans (bU.mono hb1.size))⟩
    · rw [hU]; exact (Holds.new _ _ _).alloc _
    · rw [hU]
      have := Holds.new (u1.alloc (.cells #[.string pnm, .slice pa1 2 pc1, .slice pa2 2 pc2, .slice pa3 1 pc3] 38)) 23 #[.int .i64 1, .int .i64 1, .string ⟨#[109, 97, 105, 110]⟩, .string ⟨#[97, 46, 103, 111]⟩, .int .i64 3, .string ⟨#[105, 32, 45, 32, 110, 32, 60, 61, 32, 48]⟩]
      simpa using this
  have L := Lib.hid L0
  have hU' := Lib.hid hU
  have qe : Hid (∀ W, ALv w u1.heap.size ⟨pnm, pa1, 2, pc1, pa2, 2, pc2, pa3, 1, pc3⟩ a W → Calls Tryz.prog 20 #[.agg #[.string pnm, .slice pa1 2 pc1, .slice pa2 2 pc2, .slice pa3 1 pc3], .slice a 2 2, .int .i64 0] W (fun e w' => e = .returned (.tuple #[.agg #[.int .i64 1, .int .i64 1, .string ⟨#[109, 97, 105, 110]⟩, .string ⟨#[97, 46, 103, 111]⟩, .int .i64 3, .string ⟨#[105, 32, 45, 32, 110, 32, 60, 61, 32, 48]⟩], .bool true]) ∧ Below W.heap.size W w')) := Lib.hid (fun W h => by
    have q := aedge_ok _ guardD a 2 2 guardL 0 W h.pr h.zr h.tab lv_chk lv_asks (by show (0 : Nat) < 1; omega)
    rw [show guardD.edges.getD 0 edge0 = guardE from rfl, lv_edge, show guardD.vars.length = 2 from rfl, lv_may] at q
    exact q)
  have qo : Hid (∀ W, ALv w u1.heap.size ⟨pnm, pa1, 2, pc1, pa2, 2, pc2, pa3, 1, pc3⟩ a W → Calls Tryz.prog 19 #[.agg #[.string pnm, .slice pa1 2 pc1, .slice pa2 2 pc2, .slice pa3 1 pc3], .slice a 2 2] W (AlsE [wantA] 0 W)) := Lib.hid (fun W h => by
    have q := aofs_ok _ guardD a 2 2 guardL W h.pr h.zr h.tab lv_chk lv_asks (by show (1 : Nat) ≤ 256; omega)
    rw [show guardD.edges = [guardE] from rfl, lv_all] at q
    exact q)
  have qn : Hid (∀ W, ALv w u1.heap.size ⟨pnm, pa1, 2, pc1, pa2, 2, pc2, pa3, 1, pc3⟩ a W → Calls Tryz.prog 19 #[.agg #[.string pnm, .slice pa1 2 pc1, .slice pa2 2 pc2, .slice pa3 1 pc3], .slice none 0 0] W (AlsE [] 80 W)) := Lib.hid (fun W h => by
    have q := aofs_bad _ guardD none 0 0 [] W h.pr (ZRow.nil W) (by rw [lv_nil]; decide)
    rw [lv_nil] at q
    exact q)
  have qx : Hid (∀ W, ALv w u1.heap.size ⟨pnm, pa1, 2, pc1, pa2, 2, pc2, pa3, 1, pc3⟩ a W → Calls Tryz.prog 20 #[.agg #[.string pnm, .slice pa1 2 pc1, .slice pa2 2 pc2, .slice pa3 1 pc3], .slice a 2 2, .int .i64 1] W (fun e w' => e = .returned (.tuple #[.agg #[.int .i64 0, .int .i64 0, .string ⟨#[]⟩, .string ⟨#[]⟩, .int .i64 0, .string ⟨#[]⟩], .bool false]) ∧ Below W.heap.size W w')) := Lib.hid (fun W h => by
    have q := aedge_bad _ guardD a 2 2 guardL 1 W h.pr h.zr (.inr (.inr (by show ((1 : Nat) : Int) ≤ 1; omega)))
    exact q)
  have ro1 : Hid (∀ W : World, RO alC (W.alloc (.cells #[.int .i64 1, .int .i64 1, .string ⟨#[109, 97, 105, 110]⟩, .string ⟨#[97, 46, 103, 111]⟩, .int .i64 3, .string ⟨#[105, 32, 45, 32, 110, 32, 60, 61, 32, 48]⟩] 23)) (some ⟨W.heap.size, 0, none⟩) 1 1 [wantA]) := Lib.hid (fun W => ⟨rfl, Nat.le_refl _, by simp [maxLen], seesC_lit W 23 #[.int .i64 1, .int .i64 1, .string ⟨#[109, 97, 105, 110]⟩, .string ⟨#[97, 46, 103, 111]⟩, .int .i64 3, .string ⟨#[105, 32, 45, 32, 110, 32, 60, 61, 32, 48]⟩]⟩)
  have ro2 : Hid (∀ W : World, RO alC (W.alloc (.cells #[.int .i64 1, .int .i64 1, .string ⟨#[109, 97, 105, 110]⟩, .string ⟨#[97, 46, 103, 111]⟩, .int .i64 3, .string ⟨#[105, 32, 45, 32, 110, 32, 60, 61, 32, 48]⟩, .int .i64 1, .int .i64 1, .string ⟨#[109, 97, 105, 110]⟩, .string ⟨#[97, 46, 103, 111]⟩, .int .i64 2, .string ⟨#[105, 32, 45, 32, 110, 32, 60, 61, 32, 48]⟩] 23)) (some ⟨W.heap.size, 0, none⟩) 2 2 [wantA, wantB]) := Lib.hid (fun W => ⟨rfl, Nat.le_refl _, by simp [maxLen], seesC_lit W 23 #[.int .i64 1, .int .i64 1, .string ⟨#[109, 97, 105, 110]⟩, .string ⟨#[97, 46, 103, 111]⟩, .int .i64 3, .string ⟨#[105, 32, 45, 32, 110, 32, 60, 61, 32, 48]⟩, .int .i64 1, .int .i64 1, .string ⟨#[109, 97, 105, 110]⟩, .string ⟨#[97, 46, 103, 111]⟩, .int .i64 2, .string ⟨#[105, 32, 45, 32, 110, 32, 60, 61, 32, 48]⟩]⟩)
  have ro3 : Hid (∀ W : World, RO alC (W.alloc (.cells #[.int .i64 1, .int .i64 1, .string ⟨#[109, 97, 105, 110]⟩, .string ⟨#[97, 46, 103, 111]⟩, .int .i64 2, .string ⟨#[105, 32, 45, 32, 110, 32, 60, 61, 32, 48]⟩, .int .i64 1, .int .i64 1, .string ⟨#[109, 97, 105, 110]⟩, .string ⟨#[97, 46, 103, 111]⟩, .int .i64 3, .string ⟨#[105, 32, 45, 32, 110, 32, 60, 61, 32, 48]⟩] 23)) (some ⟨W.heap.size, 0, none⟩) 2 2 [wantB, wantA]) := Lib.hid (fun W => ⟨rfl, Nat.le_refl _, by simp [maxLen], seesC_lit W 23 #[.int .i64 1, .int .i64 1, .string ⟨#[109, 97, 105, 110]⟩, .string ⟨#[97, 46, 103, 111]⟩, .int .i64 2, .string ⟨#[105, 32, 45, 32, 110, 32, 60, 61, 32, 48]⟩, .int .i64 1, .int .i64 1, .string ⟨#[109, 97, 105, 110]⟩, .string ⟨#[97, 46, 103, 111]⟩, .int .i64 3, .string ⟨#[105, 32, 45, 32, 110, 32, 60, 61, 32, 48]⟩]⟩)
  have qs : Hid (∀ W a, RO alC W a 2 2 [wantA, wantB] → Calls Tryz.prog 14 #[.slice a 2 2] W (fun e w' => ∃ a' c', e = .returned (.slice a' 2 c') ∧ RO alC w' a' 2 c' [wantB, wantA] ∧ Below W.heap.size W w')) := Lib.hid (fun W a h => by
    have q := asort_any a 2 2 [wantA, wantB] W h (by omega)
    rw [lv_two] at q
    exact q)
  have qr : Hid (∀ W l n a c a' c', RO alC W a n c l → RO alC W a' n c' l → Calls Tryz.prog 13 #[.slice a n c, .slice a' n c'] W (Gives (.bool true) W)) := Lib.hid (fun W l n a c a' c' h1 h2 => by
    have q := ralSame_any a a' n n c c' l l W h1 h2
    rw [lv_same] at q
    exact q.mono fun e w' h => drawn_gives h)
  have qm : Hid (∀ W l n a c a' c', RO alC W a n c l → RO alC W a' n c' l → Calls Tryz.prog 16 #[.slice a n c, .slice a' n c'] W (Gives (.bool true) W)) := Lib.hid (fun W l n a c a' c' h1 h2 => by
    have q := alSame_any a a' n n c c' l l W h1 h2
    rw [lv_same] at q
    exact q.mono fun e w' h => drawn_gives h)
  have qk : Hid (∀ W, Calls Tryz.prog 9 #[.agg #[.int .i64 1, .int .i64 1, .string ⟨#[109, 97, 105, 110]⟩, .string ⟨#[97, 46, 103, 111]⟩, .int .i64 3, .string ⟨#[105, 32, 45, 32, 110, 32, 60, 61, 32, 48]⟩]] W (Gives (.int .i64 0) W)) := Lib.hid (fun W => by
    have q := acheck_any wantA W
    rw [lv_ok] at q
    exact q)
  have qz : Hid (∀ W, Calls Tryz.prog 9 #[.agg #[.int .i64 0, .int .i64 0, .string ⟨#[]⟩, .string ⟨#[]⟩, .int .i64 0, .string ⟨#[]⟩]] W (Gives (.int .i64 170) W)) := Lib.hid (fun W => by
    have q := acheck_any al0 W
    rw [lv_no] at q
    exact q)
  have qc : Hid (∀ W, Calls Tryz.prog 11 #[.agg #[.int .i64 1, .int .i64 1, .string ⟨#[109, 97, 105, 110]⟩, .string ⟨#[97, 46, 103, 111]⟩, .int .i64 3, .string ⟨#[105, 32, 45, 32, 110, 32, 60, 61, 32, 48]⟩], .agg #[.int .i64 1, .int .i64 1, .string ⟨#[109, 97, 105, 110]⟩, .string ⟨#[97, 46, 103, 111]⟩, .int .i64 2, .string ⟨#[105, 32, 45, 32, 110, 32, 60, 61, 32, 48]⟩]] W (Gives (.int .i64 1) W)) := Lib.hid (fun W => by
    have q := acmpo_any wantA wantB W
    rw [lv_cmp] at q
    exact q)
  clear hU bU L0 hp hz hb1 q1 T
  generalize wantA = wA at *
  generalize wantB = wB at *
  go_wp2_with fail
  rw [← hU'.out]
  with_reducible refine (qe.out _ L.out).mono ?_
  rintro e u3 ⟨rfl, b3⟩
  replace L := Lib.hid (L.out.below b3)
  have bx := box_below u3 #[.int .i64 1, .int .i64 1, .string ⟨#[109, 97, 105, 110]⟩, .string ⟨#[97, 46, 103, 111]⟩, .int .i64 3, .string ⟨#[105, 32, 45, 32, 110, 32, 60, 61, 32, 48]⟩] 23
  obtain ⟨U4, hU4⟩ : ∃ U4, U4 = u3.alloc (.cells #[.int .i64 1, .int .i64 1, .string ⟨#[109, 97, 105, 110]⟩, .string ⟨#[97, 46, 103, 111]⟩, .int .i64 3, .string ⟨#[105, 32, 45, 32, 110, 32, 60, 61, 32, 48]⟩] 23) := ⟨_, rfl⟩
  have A4 := Lib.hid (show Holds U4 u3.heap.size 23 #[.int .i64 1, .int .i64 1, .string ⟨#[109, 97, 105, 110]⟩, .string ⟨#[97, 46, 103, 111]⟩, .int .i64 3, .string ⟨#[105, 32, 45, 32, 110, 32, 60, 61, 32, 48]⟩] by rw [hU4]; exact Holds.new _ _ _)
  have L4 := L.out.below bx
  have k0 := L4.box.cell 0
  have k1 := L4.box.cell 1
  have k2 := L4.box.cell 2
  have k3 := L4.box.cell 3
  simp at k0 k1 k2 k3
  have hlt1 := L.out.box.lt
  rw [← hU4] at L4
  replace L := Lib.hid L4
  have hU4' := Lib.hid hU4
  clear b3 qe hU' hU4 L4 bx
  go_wp2_with fail
  rw [← hU4'.out]
  with_reducible refine (qo.out _ L.out).mono ?_
  rintro e u5 ⟨ma, mc, rfl, hm, b5⟩
  replace L := Lib.hid (L.out.below b5)
  replace A4 := Lib.hid (A4.out.below b5 A4.out.lt)
  have M := Lib.hid hm
  clear b5 hm qo hU4' k0 k1 k2 k3
  have k0 := L.out.box.cell 0
  have k1 := L.out.box.cell 1
  have k2 := L.out.box.cell 2
  have k3 := L.out.box.cell 3
  simp at k0 k1 k2 k3
  go_wp2_with fail
  with_reducible refine (qn.out _ L.out).mono ?_
  rintro e u6 ⟨na, nc, rfl, -, b6⟩
  replace L := Lib.hid (L.out.below b6)
  replace A4 := Lib.hid (A4.out.below b6 A4.out.lt)
  replace M := Lib.hid (M.out.below b6)
  clear b6 qn k0 k1 k2 k3
  have k0 := L.out.box.cell 0
  have k1 := L.out.box.cell 1
  have k2 := L.out.box.cell 2
  have k3 := L.out.box.cell 3
  simp at k0 k1 k2 k3
  go_wp2_with fail
  with_reducible refine (qx.out _ L.out).mono ?_
  rintro e u7 ⟨rfl, b7⟩
  replace L := Lib.hid (L.out.below b7)
  replace A4 := Lib.hid (A4.out.below b7 A4.out.lt)
  replace M := Lib.hid (M.out.below b7)
  clear b7 qx k0 k1 k2 k3
  obtain ⟨V1, hV1⟩ : ∃ V1, V1 = u7.alloc (.cells #[.int .i64 0, .int .i64 0, .string ⟨#[]⟩, .string ⟨#[]⟩, .int .i64 0, .string ⟨#[]⟩] 23) := ⟨_, rfl⟩
  have bV1 : Below u7.heap.size u7 V1 := by rw [hV1]; exact box_below _ _ _
  obtain ⟨V3, hV3⟩ : ∃ V3, V3 = V1.alloc (.cells #[.int .i64 1, .int .i64 1, .string ⟨#[109, 97, 105, 110]⟩, .string ⟨#[97, 46, 103, 111]⟩, .int .i64 2, .string ⟨#[105, 32, 45, 32, 110, 32, 60, 61, 32, 48]⟩] 23) := ⟨_, rfl⟩
  have bV2 : Below V1.heap.size V1 V3 := by rw [hV3]; exact box_below _ _ _
  have zV1 : V1.heap.size = u7.heap.size + 1 := by rw [hV1]; simp
  have HB3 : Holds V3 (u7.heap.size + 1) 23 #[.int .i64 1, .int .i64 1, .string ⟨#[109, 97, 105, 110]⟩, .string ⟨#[97, 46, 103, 111]⟩, .int .i64 2, .string ⟨#[105, 32, 45, 32, 110, 32, 60, 61, 32, 48]⟩] := by rw [hV3, ← zV1]; exact Holds.new _ _ _
  have bV3 : Below u7.heap.size u7 V3 := bV1.trans (bV2.mono bV1.size)
  obtain ⟨V4, hV4⟩ : ∃ V4, V4 = V3.alloc (.cells #[.int .i64 1, .int .i64 1, .string ⟨#[109, 97, 105, 110]⟩, .string ⟨#[97, 46, 103, 111]⟩, .int .i64 3, .string ⟨#[105, 32, 45, 32, 110, 32, 60, 61, 32, 48]⟩, .int .i64 1, .int .i64 1, .string ⟨#[109, 97, 105, 110]⟩, .string ⟨#[97, 46, 103, 111]⟩, .int .i64 2, .string ⟨#[105, 32, 45, 32, 110, 32, 60, 61, 32, 48]⟩] 23) := ⟨_, rfl⟩
  have bV4 : Below V3.heap.size V3 V4 := by rw [hV4]; exact box_below _ _ _
  have zV3 : V3.heap.size = u7.heap.size + 1 + 1 := by rw [hV3]; simp [zV1]
  have R4 := ro2.out V3
  rw [← hV4, zV3] at R4
  have b74 := bV3.trans (bV4.mono bV3.size)
  have L4 := L.out.below b74
  have B4 := Lib.hid (HB3.below bV4 HB3.lt)
  have hla := A4.out.lt
  have hl1 := L.out.wb.lt
  have w1 := L.out.wb.below bV1 L.out.wb.lt
  have w3 := L.out.wb.below bV3 L.out.wb.lt
  have x0 := w1.cell 0
  have x1 := w1.cell 1
  have x2 := w1.cell 2
  have x3 := w1.cell 3
  have x4 := w1.cell 4
  have x5 := w1.cell 5
  have y0 := w3.cell 0
  have y1 := w3.cell 1
  have y2 := w3.cell 2
  have y3 := w3.cell 3
  have y4 := w3.cell 4
  have y5 := w3.cell 5
  have z0 := HB3.cell 0
  have z1 := HB3.cell 1
  have z2 := HB3.cell 2
  have z3 := HB3.cell 3
  have z4 := HB3.cell 4
  have z5 := HB3.cell 5
  simp at x0 x1 x2 x3 x4 x5 y0 y1 y2 y3 y4 y5 z0 z1 z2 z3 z4 z5
  replace A4 := Lib.hid (A4.out.below b74 A4.out.lt)
  replace M := Lib.hid (M.out.below b74)
  replace L := Lib.hid L4
  have RR := Lib.hid R4
  clear bV1 bV2 zV1 HB3 bV3 bV4 zV3 R4 b74 L4 w1 w3
  have hVV := Lib.hid (And.intro hV1 (And.intro hV3 hV4))
  rw [hV3, hV1] at y0 y1 y2 y3 y4 y5 z0 z1 z2 z3 z4 z5
  rw [hV1] at x0 x1 x2 x3 x4 x5
  clear hV1 hV3 hV4
  go_wp2_with fail
  rw [← hVV.out.1, ← hVV.out.2.1, ← hVV.out.2.2]
  with_reducible refine (qs.out _ _ RR.out).mono ?_
  rintro e u8 ⟨sa, sc, rfl, hs, b8⟩
  replace L := Lib.hid (L.out.below b8)
  replace A4 := Lib.hid (A4.out.below b8 A4.out.lt)
  replace M := Lib.hid (M.out.below b8)
  replace B4 := Lib.hid (B4.out.below b8 B4.out.lt)
  have SS := Lib.hid hs
  clear b8 hs qs RR hVV x0 x1 x2 x3 x4 x5 y0 y1 y2 y3 y4 y5 z0 z1 z2 z3 z4 z5
  have x0 := L.out.wb.cell 0
  have x1 := L.out.wb.cell 1
  have x2 := L.out.wb.cell 2
  have x3 := L.out.wb.cell 3
  have x4 := L.out.wb.cell 4
  have x5 := L.out.wb.cell 5
  have z0 := B4.out.cell 0
  have z1 := B4.out.cell 1
  have z2 := B4.out.cell 2
  have z3 := B4.out.cell 3
  have z4 := B4.out.cell 4
  have z5 := B4.out.cell 5
  simp at x0 x1 x2 x3 x4 x5 z0 z1 z2 z3 z4 z5
  have s0 := A4.out.cell 0
  have s1 := A4.out.cell 1
  have s2 := A4.out.cell 2
  have s3 := A4.out.cell 3
  have s4 := A4.out.cell 4
  have s5 := A4.out.cell 5
  simp at s0 s1 s2 s3 s4 s5
  have RY1 := ro1.out u8
  obtain ⟨Y1, hY1⟩ : ∃ Y1, Y1 = u8.alloc (.cells #[.int .i64 1, .int .i64 1, .string ⟨#[109, 97, 105, 110]⟩, .string ⟨#[97, 46, 103, 111]⟩, .int .i64 3, .string ⟨#[105, 32, 45, 32, 110, 32, 60, 61, 32, 48]⟩] 23) := ⟨_, rfl⟩
  have bY1 : Below u8.heap.size u8 Y1 := by rw [hY1]; exact box_below _ _ _
  rw [← hY1] at RY1
  replace L := Lib.hid (L.out.below bY1)
  replace B4 := Lib.hid (B4.out.below bY1 B4.out.lt)
  replace M := Lib.hid (M.out.below bY1)
  replace SS := Lib.hid (SS.out.below bY1)
  have hY1' := Lib.hid hY1
  have qq := Lib.hid (qr.out Y1 _ 1 _ _ _ _ M.out RY1)
  clear RY1 bY1 hY1
  go_wp2_with fail
  rw [← hY1'.out]
  with_reducible refine qq.out.mono ?_
  rintro e t1 ⟨rfl, c1⟩
  replace L := Lib.hid (L.out.below c1)
  replace B4 := Lib.hid (B4.out.below c1 B4.out.lt)
  replace M := Lib.hid (M.out.below c1)
  replace SS := Lib.hid (SS.out.below c1)
  clear c1 qq hY1' x0 x1 x2 x3 x4 x5 z0 z1 z2 z3 z4 z5 s0 s1 s2 s3 s4 s5
  have x0 := L.out.wb.cell 0
  have x1 := L.out.wb.cell 1
  have x2 := L.out.wb.cell 2
  have x3 := L.out.wb.cell 3
  have x4 := L.out.wb.cell 4
  have x5 := L.out.wb.cell 5
  have z0 := B4.out.cell 0
  have z1 := B4.out.cell 1
  have z2 := B4.out.cell 2
  have z3 := B4.out.cell 3
  have z4 := B4.out.cell 4
  have z5 := B4.out.cell 5
  simp at x0 x1 x2 x3 x4 x5 z0 z1 z2 z3 z4 z5
  go_wp2_with fail
  with_reducible refine (qk.out _).mono ?_
  rintro e t2 ⟨rfl, c2⟩
  replace L := Lib.hid (L.out.below c2)
  replace B4 := Lib.hid (B4.out.below c2 B4.out.lt)
  replace M := Lib.hid (M.out.below c2)
  replace SS := Lib.hid (SS.out.below c2)
  clear c2 qk x0 x1 x2 x3 x4 x5 z0 z1 z2 z3 z4 z5
  have x0 := L.out.wb.cell 0
  have x1 := L.out.wb.cell 1
  have x2 := L.out.wb.cell 2
  have x3 := L.out.wb.cell 3
  have x4 := L.out.wb.cell 4
  have x5 := L.out.wb.cell 5
  have z0 := B4.out.cell 0
  have z1 := B4.out.cell 1
  have z2 := B4.out.cell 2
  have z3 := B4.out.cell 3
  have z4 := B4.out.cell 4
  have z5 := B4.out.cell 5
  simp at x0 x1 x2 x3 x4 x5 z0 z1 z2 z3 z4 z5
  go_wp2_with fail
  with_reducible refine (qz.out _).mono ?_
  rintro e t3 ⟨rfl, c3⟩
  replace L := Lib.hid (L.out.below c3)
  replace B4 := Lib.hid (B4.out.below c3 B4.out.lt)
  replace M := Lib.hid (M.out.below c3)
  replace SS := Lib.hid (SS.out.below c3)
  clear c3 qz x0 x1 x2 x3 x4 x5 z0 z1 z2 z3 z4 z5
  have x0 := L.out.wb.cell 0
  have x1 := L.out.wb.cell 1
  have x2 := L.out.wb.cell 2
  have x3 := L.out.wb.cell 3
  have x4 := L.out.wb.cell 4
  have x5 := L.out.wb.cell 5
  have z0 := B4.out.cell 0
  have z1 := B4.out.cell 1
  have z2 := B4.out.cell 2
  have z3 := B4.out.cell 3
  have z4 := B4.out.cell 4
  have z5 := B4.out.cell 5
  simp at x0 x1 x2 x3 x4 x5 z0 z1 z2 z3 z4 z5
  go_wp2_with fail
  with_reducible refine (qc.out _).mono ?_
  rintro e t4 ⟨rfl, c4⟩
  replace L := Lib.hid (L.out.below c4)
  replace B4 := Lib.hid (B4.out.below c4 B4.out.lt)
  replace M := Lib.hid (M.out.below c4)
  replace SS := Lib.hid (SS.out.below c4)
  clear c4 qc x0 x1 x2 x3 x4 x5 z0 z1 z2 z3 z4 z5
  have x0 := L.out.wb.cell 0
  have x1 := L.out.wb.cell 1
  have x2 := L.out.wb.cell 2
  have x3 := L.out.wb.cell 3
  have x4 := L.out.wb.cell 4
  have x5 := L.out.wb.cell 5
  have z0 := B4.out.cell 0
  have z1 := B4.out.cell 1
  have z2 := B4.out.cell 2
  have z3 := B4.out.cell 3
  have z4 := B4.out.cell 4
  have z5 := B4.out.cell 5
  simp at x0 x1 x2 x3 x4 x5 z0 z1 z2 z3 z4 z5
  have RY2 := ro3.out t4
  obtain ⟨Y2, hY2⟩ : ∃ Y2, Y2 = t4.alloc (.cells #[.int .i64 1, .int .i64 1, .string ⟨#[109, 97, 105, 110]⟩, .string ⟨#[97, 46, 103, 111]⟩, .int .i64 2, .string ⟨#[105, 32, 45, 32, 110, 32, 60, 61, 32, 48]⟩, .int .i64 1, .int .i64 1, .string ⟨#[109, 97, 105, 110]⟩, .string ⟨#[97, 46, 103, 111]⟩, .int .i64 3, .string ⟨#[105, 32, 45, 32, 110, 32, 60, 61, 32, 48]⟩] 23) := ⟨_, rfl⟩
  have bY2 : Below t4.heap.size t4 Y2 := by rw [hY2]; exact box_below _ _ _
  rw [← hY2] at RY2
  replace L := Lib.hid (L.out.below bY2)
  replace B4 := Lib.hid (B4.out.below bY2 B4.out.lt)
  replace M := Lib.hid (M.out.below bY2)
  replace SS := Lib.hid (SS.out.below bY2)
  have hY2' := Lib.hid hY2
  have qq := Lib.hid (qr.out Y2 _ 2 _ _ _ _ SS.out RY2)
  clear RY2 bY2 hY2
  go_wp2_with fail
  rw [← hY2'.out]
  with_reducible refine qq.out.mono ?_
  rintro e t5 ⟨rfl, c5⟩
  replace L := Lib.hid (L.out.below c5)
  replace B4 := Lib.hid (B4.out.below c5 B4.out.lt)
  replace M := Lib.hid (M.out.below c5)
  replace SS := Lib.hid (SS.out.below c5)
  clear c5 qq hY2' x0 x1 x2 x3 x4 x5 z0 z1 z2 z3 z4 z5
  have x0 := L.out.wb.cell 0
  have x1 := L.out.wb.cell 1
  have x2 := L.out.wb.cell 2
  have x3 := L.out.wb.cell 3
  have x4 := L.out.wb.cell 4
  have x5 := L.out.wb.cell 5
  have z0 := B4.out.cell 0
  have z1 := B4.out.cell 1
  have z2 := B4.out.cell 2
  have z3 := B4.out.cell 3
  have z4 := B4.out.cell 4
  have z5 := B4.out.cell 5
  simp at x0 x1 x2 x3 x4 x5 z0 z1 z2 z3 z4 z5
  have RY3 := ro1.out t5
  obtain ⟨Y3, hY3⟩ : ∃ Y3, Y3 = t5.alloc (.cells #[.int .i64 1, .int .i64 1, .string ⟨#[109, 97, 105, 110]⟩, .string ⟨#[97, 46, 103, 111]⟩, .int .i64 3, .string ⟨#[105, 32, 45, 32, 110, 32, 60, 61, 32, 48]⟩] 23) := ⟨_, rfl⟩
  have bY3 : Below t5.heap.size t5 Y3 := by rw [hY3]; exact box_below _ _ _
  rw [← hY3] at RY3
  replace L := Lib.hid (L.out.below bY3)
  replace B4 := Lib.hid (B4.out.below bY3 B4.out.lt)
  replace M := Lib.hid (M.out.below bY3)
  replace SS := Lib.hid (SS.out.below bY3)
  have hY3' := Lib.hid hY3
  have qq := Lib.hid (qm.out Y3 _ 1 _ _ _ _ M.out RY3)
  clear RY3 bY3 hY3
  go_wp2_with fail
  rw [← hY3'.out]
  with_reducible refine qq.out.mono ?_
  rintro e t6 ⟨rfl, c6⟩
  replace L := Lib.hid (L.out.below c6)
  replace B4 := Lib.hid (B4.out.below c6 B4.out.lt)
  replace M := Lib.hid (M.out.below c6)
  replace SS := Lib.hid (SS.out.below c6)
  clear c6 qq hY3' x0 x1 x2 x3 x4 x5 z0 z1 z2 z3 z4 z5
  go_wp2
  go_ret
  exact ⟨rfl, L.out.bel⟩
end Go.Proofs.YtimgocfkogebmaaGreatDoor
namespace Go.Proofs.YtimgocfkogebmaaGreatDoor
open Go.RowKit
set_option linter.unusedVariables false
theorem SeesC.cut {B : Nat} {w : World} {a : Option Addr} {cs : List Value} (h : SeesC B w a cs) (size lo hi cap : Nat) (hl : hi * size ≤ cs.length) (hlo : lo ≤ hi) (hc : hi ≤ cap) (hz : 0 < size) :
    ∃ a', sliced a lo hi cap size = .slice a' (hi - lo) (cap - lo) ∧ SeesC B w a' ((cs.take (hi * size)).drop (lo * size)) ∧ (a = none → a' = none) := by
  unfold sliced
  refine ⟨_, rfl, ?_, by rintro rfl; split <;> rfl⟩
  by_cases h0 : lo = hi
  · left; subst h0; exact List.drop_of_length_le (by simp; omega)
  have hmul : lo * size < hi * size := Nat.mul_lt_mul_of_pos_right (by omega) hz
  rcases h with rfl | ⟨b, off, rfl, hB, hcell⟩
  · simp at hl; omega
  · right
    have h1 : ¬ (cap = lo) := by omega
    have key : ∀ i u, ((cs.take (hi * size)).drop (lo * size))[i]? = some u → cs[lo * size + i]? = some u := by
      intro i u hu
      rw [List.getElem?_drop] at hu
      rw [List.getElem?_take] at hu
      split at hu
      · exact hu
      · cases hu
    refine ⟨b, off + lo * size, ?_, hB, fun i u hi' => ?_⟩
    · simp only [h1, if_false]
      simp only [Option.map_some, add_at]
    · rw [Nat.add_assoc]
      exact hcell _ _ (key i u hi')
theorem ccut_l {P : Program} {t : TypeId} {size : Nat} (ht : P.underlying t = some (.slice (P.elem t))) (hs : ∀ W, (sizeOf (P.elem t)).run P W = .ok size W) (a : Option Addr) (n cap lo : Nat) {a' : Option Addr} {m c : Nat} (h : sliced a lo n cap size = .slice a' m c) (hlo : lo ≤ n) (W : World) :
    (Instr.slice t (.slice a n cap) (some (.int .i64 (lo : Int))) none none).run P W = .ok (.slice a' m c) W := by
  rw [← h, run_slice_l (P := P) (w := W) t a n cap ht .i64 lo (by omega) (by omega), hs]
  simp [Result.andThen]
theorem ccut_hm {P : Program} {t : TypeId} {size : Nat} (ht : P.underlying t = some (.slice (P.elem t))) (hs : ∀ W, (sizeOf (P.elem t)).run P W = .ok size W) (a : Option Addr) (n cap hi mx : Nat) {a' : Option Addr} {m c : Nat} (h : sliced a 0 hi mx size = .slice a' m c) (hhi : hi ≤ mx) (hm : mx ≤ cap) (W : World) :
    (Instr.slice t (.slice a n cap) none (some (.int .i64 (hi : Int))) (some (.int .i64 (mx : Int)))).run P W = .ok (.slice a' m c) W := by
  rw [← h, run_slice_hm (P := P) (w := W) t a n cap ht .i64 .i64 hi mx (by omega) (by omega) (by omega), hs]
  simp [Result.andThen]
theorem wp_append_full {P : Program} (w : World) {o : Oper} {a : Act} {K : Act → World → Prop} {Q : Exit → Act → World → Prop}
    (s x : Operand) (t : TypeId) (hop : o.op = Op.call { callee := Callee.builtin Builtin.append, args := #[s, x], argTypes := #[t, t] })
    (e : TypeId) (i : TypeInfo) (z : Value) (size bytes : Nat) (h1 : P.underlying t = some (.slice e)) (h2 : P.info? e = some i) (h3 : i.zero = some z) (h4 : i.size = size) (h5 : i.bytes = bytes) (h6 : z.cells.size = size) (h7 : 0 < size)
    (ao : Option Addr) (n cap : Nat) (olds : List Value) (hs : a.eval s = .slice ao n cap) (hnone : ao = none → n = 0 ∧ cap = 0) (hlo : olds.length = n * size) (B : Nat) (holds : SeesC B w ao olds)
    (ad : Addr) (m c : Nat) (news : List Value) (hx : a.eval x = .slice (some ad) m c) (hn : news.length = m * size) (hc : SeesC B w (some ad) news) (h1c : ∀ u ∈ news, u.oneCell' = true)
    (hfull : cap < n + m) (b1 : n + m ≤ maxLen) (b2 : (n + m) * bytes ≤ 140737488355328)
    (hK : ∀ v' w', w'.ownsRow w.heap.size e size v' (n + m) (olds ++ news) → w.grownBy w' none → K (a.put o.dst v') w') : o.wp P a w K Q := by
  have look : ∀ {b : Addr} {cs : List Value}, SeesC B w (some b) cs → ∀ j u, cs[j]? = some u → w.cell? (b.add j) = some u := by
    intro b cs h j u hu
    rcases h with rfl | ⟨g, off, hb, _, hcell⟩
    · simp at hu
    · injection hb with hb; subst hb; rw [add_at]; exact hcell j u hu
  cases ao with
  | some b =>
    obtain ⟨v', w', hrun, r1, r2⟩ := run_append_arg_grows (P := P) w t o.type e i z size bytes h1 h2 h3 h4 h5 h6 h7 b n cap olds hlo (look holds) ad m c news hn (look hc) hfull b1 b2
    unfold Oper.wp
    simp [execOp, hop, resolve, invoke, builtin, hs, hx, hrun, Result.andThen]
    exact hK v' w' r1 r2
  | none =>
    obtain ⟨rfl, rfl⟩ := hnone rfl
    obtain rfl : olds = [] := List.eq_nil_of_length_eq_zero (by simpa using hlo)
    obtain ⟨v', w', hrun, r1, r2, _⟩ := run_append_own (P := P) w w.heap.size t o.type e i z size bytes h1 h2 h3 h4 h5 h6 h7 (.slice none 0 0) 0 [] (World.ownsRow_nil w _ e size) ad m c news hn (look hc) h1c b1 b2 (Nat.le_refl _)
    unfold Oper.wp
    simp [execOp, hop, resolve, invoke, builtin, hs, hx, hrun, Result.andThen]
    exact hK v' w' r1 r2
theorem wp_append_cellsB {P : Program} (w : World) {o : Oper} {a : Act} {K : Act → World → Prop} {Q : Exit → Act → World → Prop}
    (s x : Operand) (t : TypeId) (hop : o.op = Op.call { callee := Callee.builtin Builtin.append, args := #[s, x], argTypes := #[t, t] })
    (base : Nat) (e : TypeId) (i : TypeInfo) (z : Value) (size bytes : Nat) (ht : P.underlying t = some (.slice e)) (hi : P.info? e = some i) (hz : i.zero = some z)
    (hsize : i.size = size) (hby : i.bytes = bytes) (hzs : z.cells.size = size) (hsz : 0 < size)
    (v : Value) (n : Nat) (xs : List Value) (hown : w.ownsRow base e size v n xs) (hb : base ≤ w.heap.size) (B : Nat) (A : Option Addr) (m c : Nat) (news : List Value) (hl : news.length = m * size) (hs : SeesC B w A news) (h1 : ∀ u ∈ news, u.oneCell' = true)
    (hsv : a.eval s = v) (hx : a.eval x = .slice A m c) (hn : n + m ≤ maxLen) (hby2 : (n + m) * bytes ≤ 140737488355328)
    (hK : ∀ v' w', w'.ownsRow base e size v' (n + m) (xs ++ news) → w.grownBy w' v.ownBlock → K (a.put o.dst v') w') : o.wp P a w K Q := by
  obtain ⟨v', w', hrun, g1, g2, g3⟩ := run_append_cellsB (P := P) w base t o.type e i z size bytes ht hi hz hsize hby hzs hsz v n xs hown B A m c news hl hs h1 hn hby2 hb
  unfold Oper.wp
  simp [execOp, hop, resolve, invoke, builtin, hsv, hx, hrun, Result.andThen]
  exact hK v' w' g1 g2
end Go.Proofs.YtimgocfkogebmaaGreatDoor
namespace Go.Proofs.YtimgocfkogebmaaGreatDoor
open Go.RowKit
set_option linter.unusedVariables false
set_option linter.unusedSimpArgs false
theorem size_al (W : World) : (sizeOf (Tryz.prog.elem 24)).run Tryz.prog W = .ok 6 W := by kernel_rfl
theorem under_al : Tryz.prog.underlying 24 = some (.slice (Tryz.prog.elem 24)) := by kernel_rfl
theorem alcells_drop (L : List AlD) (q : Nat) (h : q ≤ L.length) : (alcells L).drop (q * 6) = alcells (L.drop q) := by
  conv => lhs; rw [← List.take_append_drop q L, alcells_app]
  have e : (alcells (L.take q)).length = q * 6 := by rw [alcells_len, List.length_take]; congr 1; omega
  rw [List.drop_left' e]
theorem alcells_take (L : List AlD) (q : Nat) (h : q ≤ L.length) : (alcells L).take (q * 6) = alcells (L.take q) := by
  conv => lhs; rw [← List.take_append_drop q L, alcells_app]
  have e : (alcells (L.take q)).length = q * 6 := by rw [alcells_len, List.length_take]; congr 1; omega
  rw [List.take_left' e]
theorem sortA_step (l : List AlD) {i : Nat} (hi : i < l.length) {k : Nat} (hk : k ≤ (sortC cmpA (l.take i)).length) (h1 : ∀ j, k ≤ j → j < (sortC cmpA (l.take i)).length → 0 < cmpA ((sortC cmpA (l.take i)).getD j al0) (l.getD i al0)) (h2 : k = 0 ∨ ¬ 0 < cmpA ((sortC cmpA (l.take i)).getD (k - 1) al0) (l.getD i al0)) :
    sortC cmpA (l.take (i + 1)) = (sortC cmpA (l.take i)).take k ++ l.getD i al0 :: (sortC cmpA (l.take i)).drop k := by
  have e : l.take (i + 1) = l.take i ++ [l.getD i al0] := by rw [List.take_add_one]; simp [List.getD, hi]
  rw [e, sortC_snoc]
  exact insF_place cmpA (l.getD i al0) al0 _ k hk h1 h2
set_option maxRecDepth 100000 in
set_option maxHeartbeats 8000000 in
theorem rasorted_any (a : Option Addr) (n c : Nat) (l : List AlD) (hn : n ≤ 100000) (w : World) (h : RO alC w a n c l) : Calls Tryz.prog 15 #[.slice a n c] w (AlGives w (sortC cmpA l)) := by
  obtain ⟨i0, z0, hi, hz0, hz1, hz2, hz6⟩ := infoAlZ
  have hT := Lib.hid h
  have hnl := Lib.hid h.len
  have hni : (n : Int) ≤ 100000 := by omega
  clear h
  go_enter Tryz.func15, Tryz.ntmps15
  go_wp2
  go_loopw [3, 4] (fun v x wr => ∃ k : Nat, k ≤ n ∧ x = .int .i64 k ∧ Hid (wr.ownsRow w.heap.size 23 6 v k (alcells (sortC cmpA (l.take k)))) ∧ Hid (Below w.heap.size w wr)) (fun _ x _ => n - (intOf x).toNat)
  case atStart => exact ⟨0, Nat.zero_le _, rfl, Lib.hid ⟨by simp [alcells, sortC, backF], .inl ⟨rfl, rfl⟩⟩, Lib.hid (Below.refl _ _)⟩
  case round =>
    obtain ⟨i, hin, rfl, hown, hB⟩ := hrel
    generalize wr = g0 at *
    by_cases hlt : i < n
    · have hii : (i : Int) < (n : Int) := by omega
      have hil : i < l.length := by have := hnl.out; omega
      obtain ⟨b, off, rfl, hbw, x0, x1, x2, x3, x4, x5⟩ := al_at hT.out hlt
      have hst := Lib.hid (fun (k : Nat) hk h1 h2 => sortA_step l hil (k := k) hk h1 h2)
      have hol : (sortC cmpA (l.take i)).length = i := by rw [sortA_len, List.length_take]; omega
      obtain ⟨O2, hO2e⟩ : ∃ O2, sortC cmpA (l.take (i + 1)) = O2 := ⟨_, rfl⟩
      rw [hO2e] at hst
      have hOe := Lib.hid hO2e
      clear hO2e
      generalize sortC cmpA (l.take i) = O at *
      generalize l.getD i al0 = s at *
      have q1 := Lib.hid (fun y W => acmp_any y s W)
      have hfin5 : Hid (∀ k, alcells (O.take k ++ s :: O.drop k) = alcells (O.take k) ++ alC s ++ alcells (O.drop k)) := Lib.hid (fun k => by simp [alcells])
      obtain ⟨sk, ssv, sf, sfi, sl, sx⟩ := s
      dsimp only at x0 x1 x2 x3 x4 x5
      have s0 : ∀ W, Below w.heap.size w W → W.cell? ⟨b, off + i * 6, none⟩ = some (.int .i64 sk) := fun W hW => (hW.cell (p := ⟨b, off + i * 6, none⟩) hbw).trans x0
      have s1 : ∀ W, Below w.heap.size w W → W.cell? ⟨b, off + i * 6 + 1, none⟩ = some (.int .i64 ssv) := fun W hW => (hW.cell (p := ⟨b, off + i * 6 + 1, none⟩) hbw).trans x1
      have s2 : ∀ W, Below w.heap.size w W → W.cell? ⟨b, off + i * 6 + 2, none⟩ = some (.string sf) := fun W hW => (hW.cell (p := ⟨b, off + i * 6 + 2, none⟩) hbw).trans x2
      have s3 : ∀ W, Below w.heap.size w W → W.cell? ⟨b, off + i * 6 + 3, none⟩ = some (.string sfi) := fun W hW => (hW.cell (p := ⟨b, off + i * 6 + 3, none⟩) hbw).trans x3
      have s4 : ∀ W, Below w.heap.size w W → W.cell? ⟨b, off + i * 6 + 4, none⟩ = some (.int .i64 sl) := fun W hW => (hW.cell (p := ⟨b, off + i * 6 + 4, none⟩) hbw).trans x4
      have s5 : ∀ W, Below w.heap.size w W → W.cell? ⟨b, off + i * 6 + 5, none⟩ = some (.string sx) := fun W hW => (hW.cell (p := ⟨b, off + i * 6 + 5, none⟩) hbw).trans x5
      clear x0 x1 x2 x3 x4 x5
      have hs' := Lib.hid (And.intro s0 (And.intro s1 (And.intro s2 (And.intro s3 (And.intro s4 s5)))))
      clear s0 s1 s2 s3 s4 s5
      obtain ⟨ao, co, rfl, hlc, hcm, hse⟩ := seesC_own hown.out
      have hRO : Hid (RO alC g0 ao i co O) := Lib.hid ⟨hol.symm, hlc, hcm, hse⟩
      have hse' := Lib.hid hse
      have hoi : (i : Int) ≤ 100000 := by omega
      have hol' := Lib.hid hol
      clear hse hol
      go_wp2
      go_loopw [5] (fun x wk => ∃ k : Nat, k ≤ i ∧ x = .int .i64 k ∧ Hid (∀ j, k ≤ j → j < O.length → 0 < cmpA (O.getD j al0) ⟨sk, ssv, sf, sfi, sl, sx⟩) ∧ Hid (Below g0.heap.size g0 wk)) (fun x _ => (intOf x).toNat)
      case atStart => exact ⟨i, Nat.le_refl _, rfl, Lib.hid (fun j h1 h2 => by have := hol'.out; omega), Lib.hid (Below.refl _ _)⟩
      case round =>
        obtain ⟨k, hk, rfl, hal, hBk⟩ := hrel
        generalize wr = g1 at *
        by_cases hk0 : k = 0
        · have hO3 := Lib.hid (hst.out k (by have := hol'.out; omega) hal.out (.inl hk0))
          have hkz : ¬ (0 : Int) < (k : Int) := by omega
          have hkzb : decide ((0 : Int) < (k : Int)) = false := decide_eq_false hkz
          have hkzn : ¬ 0 < k := by omega
          have hkznb : decide (0 < k) = false := decide_eq_false hkzn
          have hk0' := Lib.hid hk0
          clear hk0
          clear hst hal q1
          go_wp2
          refine wp_drawn_on (fun W => W = g1.drew) (by kernel_rfl) (rfl) (fun hHeld => ?_)
          refine wpAnyH_take (i := 0) (oi := { dst := some 15, op := Go.Op.move (Go.Operand.tmp 5), type := 3, pos := "ref.go:68", after := #[], guard := none }) (v := ?v1) rfl (by kernel_rfl) (by kernel_rfl) (by kernel_rfl) (fun _ _ _ h => h) (Or.inl ⟨by kernel_rfl, ?h1⟩) (by assumption) ?r1
          case h1 => (intro w hSw; (try dsimp only at hSw); go_simp; try with_reducible rfl)
          try simp only [Act.put, List.setIfInBounds_toArray, List.set_cons_zero, List.set_cons_succ]
          refine wpAnyH_take (i := 1) (oi := { dst := some 16, op := Go.Op.binOp Go.BinOp.gtr 3 (Go.Operand.tmp 15) (Go.Operand.const (Go.Value.int Go.IntKind.i64 0)) 3, type := 4, pos := "ref.go:68", after := #[{ on := 0, ground := Go.Ground.data }], guard := none }) (v := ?v2) rfl (by kernel_rfl) (by kernel_rfl) (by kernel_rfl) (fun _ _ _ h => h) (Or.inl ⟨by kernel_rfl, ?h2⟩) (by assumption) ?r2
          case h2 => (intro w hSw; (try dsimp only at hSw); go_simp; try with_reducible rfl)
          try simp only [Act.put, List.setIfInBounds_toArray, List.set_cons_zero, List.set_cons_succ]
          refine wpAnyH_take (i := 2) (oi := { dst := some 17, op := Go.Op.move (Go.Operand.tmp 16), type := 4, pos := "ref.go:68", after := #[{ on := 1, ground := Go.Ground.data }], guard := none }) (v := ?v3) rfl (by kernel_rfl) (by kernel_rfl) (by kernel_rfl) (fun _ _ _ h => h) (Or.inl ⟨by kernel_rfl, ?h3⟩) (by assumption) ?r3
          case h3 => (intro w hSw; (try dsimp only at hSw); go_simp; try with_reducible rfl)
          try simp only [Act.put, List.setIfInBounds_toArray, List.set_cons_zero, List.set_cons_succ]
          refine wpAnyH_take (i := 3) (oi := { dst := some 18, op := Go.Op.move (Go.Operand.tmp 3), type := 24, pos := "ref.go:68", after := #[{ on := 2, ground := Go.Ground.guard }], guard := some (2, true) }) (v := undef) rfl (by kernel_rfl) (by kernel_rfl) (by kernel_rfl) (fun _ _ _ h => h) (Or.inr ⟨by kernel_rfl, rfl⟩) (by assumption) ?_
          try simp only [Act.put, List.setIfInBounds_toArray, List.set_cons_zero, List.set_cons_succ]
          refine wpAnyH_take (i := 4) (oi := { dst := some 19, op := Go.Op.move (Go.Operand.tmp 5), type := 3, pos := "ref.go:68", after := #[{ on := 2, ground := Go.Ground.guard }], guard := some (2, true) }) (v := undef) rfl (by kernel_rfl) (by kernel_rfl) (by kernel_rfl) (fun _ _ _ h => h) (Or.inr ⟨by kernel_rfl, rfl⟩) (by assumption) ?_
          try simp only [Act.put, List.setIfInBounds_toArray, List.set_cons_zero, List.set_cons_succ]
          refine wpAnyH_take (i := 5) (oi := { dst := some 20, op := Go.Op.binOp Go.BinOp.sub 3 (Go.Operand.tmp 19) (Go.Operand.const (Go.Value.int Go.IntKind.i64 1)) 3, type := 3, pos := "ref.go:68", after := #[{ on := 4, ground := Go.Ground.data }, { on := 2, ground := Go.Ground.guard }], guard := some (2, true) }) (v := undef) rfl (by kernel_rfl) (by kernel_rfl) (by kernel_rfl) (fun _ _ _ h => h) (Or.inr ⟨by kernel_rfl, rfl⟩) (by assumption) ?_
          try simp only [Act.put, List.setIfInBounds_toArray, List.set_cons_zero, List.set_cons_succ]
          refine wpAnyH_take (i := 6) (oi := { dst := some 21, op := Go.Op.indexAddr 24 (Go.Operand.tmp 18) (Go.Operand.tmp 20), type := 0, pos := "ref.go:68", after := #[{ on := 3, ground := Go.Ground.data }, { on := 5, ground := Go.Ground.data }, { on := 2, ground := Go.Ground.guard }], guard := some (2, true) }) (v := undef) rfl (by kernel_rfl) (by kernel_rfl) (by kernel_rfl) (fun _ _ _ h => h) (Or.inr ⟨by kernel_rfl, rfl⟩) (by assumption) ?_
          try simp only [Act.put, List.setIfInBounds_toArray, List.set_cons_zero, List.set_cons_succ]
          refine wpAnyH_take (i := 7) (oi := { dst := some 22, op := Go.Op.load 23 (Go.Operand.tmp 21), type := 23, pos := "ref.go:68", after := #[{ on := 6, ground := Go.Ground.data }, { on := 2, ground := Go.Ground.guard }], guard := some (2, true) }) (v := undef) rfl (by kernel_rfl) (by kernel_rfl) (by kernel_rfl) (fun _ _ _ h => h) (Or.inr ⟨by kernel_rfl, rfl⟩) (by assumption) ?_
          try simp only [Act.put, List.setIfInBounds_toArray, List.set_cons_zero, List.set_cons_succ]
          refine wpAnyH_take (i := 8) (oi := { dst := some 23, op := Go.Op.move (Go.Operand.tmp 0), type := 24, pos := "ref.go:68", after := #[{ on := 2, ground := Go.Ground.guard }], guard := some (2, true) }) (v := undef) rfl (by kernel_rfl) (by kernel_rfl) (by kernel_rfl) (fun _ _ _ h => h) (Or.inr ⟨by kernel_rfl, rfl⟩) (by assumption) ?_
          try simp only [Act.put, List.setIfInBounds_toArray, List.set_cons_zero, List.set_cons_succ]
          refine wpAnyH_take (i := 9) (oi := { dst := some 24, op := Go.Op.move (Go.Operand.tmp 4), type := 3, pos := "ref.go:68", after := #[{ on := 2, ground := Go.Ground.guard }], guard := some (2, true) }) (v := undef) rfl (by kernel_rfl) (by kernel_rfl) (by kernel_rfl) (fun _ _ _ h => h) (Or.inr ⟨by kernel_rfl, rfl⟩) (by assumption) ?_
          try simp only [Act.put, List.setIfInBounds_toArray, List.set_cons_zero, List.set_cons_succ]
          refine wpAnyH_take (i := 10) (oi := { dst := some 25, op := Go.Op.indexAddr 24 (Go.Operand.tmp 23) (Go.Operand.tmp 24), type := 0, pos := "ref.go:68", after := #[{ on := 8, ground := Go.Ground.data }, { on := 9, ground := Go.Ground.data }, { on := 2, ground := Go.Ground.guard }], guard := some (2, true) }) (v := undef) rfl (by kernel_rfl) (by kernel_rfl) (by kernel_rfl) (fun _ _ _ h => h) (Or.inr ⟨by kernel_rfl, rfl⟩) (by assumption) ?_
          try simp only [Act.put, List.setIfInBounds_toArray, List.set_cons_zero, List.set_cons_succ]
          refine wpAnyH_take (i := 11) (oi := { dst := some 26, op := Go.Op.load 23 (Go.Operand.tmp 25), type := 23, pos := "ref.go:68", after := #[{ on := 10, ground := Go.Ground.data }, { on := 2, ground := Go.Ground.guard }], guard := some (2, true) }) (v := undef) rfl (by kernel_rfl) (by kernel_rfl) (by kernel_rfl) (fun _ _ _ h => h) (Or.inr ⟨by kernel_rfl, rfl⟩) (by assumption) ?_
          try simp only [Act.put, List.setIfInBounds_toArray, List.set_cons_zero, List.set_cons_succ]
          refine wpAnyH_take (i := 12) (oi := { dst := some 27, op := Go.Op.call { callee := Go.Callee.value (Go.Operand.func 12), args := #[Go.Operand.tmp 22, Go.Operand.tmp 26], argTypes := #[23, 23] }, type := 3, pos := "ref.go:68", after := #[{ on := 7, ground := Go.Ground.data }, { on := 11, ground := Go.Ground.data }, { on := 2, ground := Go.Ground.chain }, { on := 2, ground := Go.Ground.guard }], guard := some (2, true) }) (v := undef) rfl (by kernel_rfl) (by kernel_rfl) (by kernel_rfl) (fun _ _ _ h => h) (Or.inr ⟨by kernel_rfl, rfl⟩) (by assumption) ?_
          try simp only [Act.put, List.setIfInBounds_toArray, List.set_cons_zero, List.set_cons_succ]
          refine wpAnyH_take (i := 13) (oi := { dst := some 28, op := Go.Op.binOp Go.BinOp.gtr 3 (Go.Operand.tmp 27) (Go.Operand.const (Go.Value.int Go.IntKind.i64 0)) 3, type := 4, pos := "ref.go:68", after := #[{ on := 12, ground := Go.Ground.data }, { on := 2, ground := Go.Ground.guard }], guard := some (2, true) }) (v := undef) rfl (by kernel_rfl) (by kernel_rfl) (by kernel_rfl) (fun _ _ _ h => h) (Or.inr ⟨by kernel_rfl, rfl⟩) (by assumption) ?_
          try simp only [Act.put, List.setIfInBounds_toArray, List.set_cons_zero, List.set_cons_succ]
          refine wpAnyH_take (i := 14) (oi := { dst := some 29, op := Go.Op.pick (Go.Operand.tmp 17) (Go.Operand.tmp 28) (Go.Operand.const (Go.Value.bool false)), type := 4, pos := "ref.go:68", after := #[{ on := 2, ground := Go.Ground.data }, { on := 13, ground := Go.Ground.data }], guard := none }) (v := ?v15) rfl (by kernel_rfl) (by kernel_rfl) (by kernel_rfl) (fun _ _ _ h => h) (Or.inl ⟨by kernel_rfl, ?h15⟩) (by assumption) ?r15
          case h15 => (intro w hSw; (try dsimp only at hSw); go_simp; try with_reducible rfl)
          try simp only [Act.put, List.setIfInBounds_toArray, List.set_cons_zero, List.set_cons_succ]
          refine wpAnyH_done (by kernel_rfl) ?_ _
          have hBk2 : Below g0.heap.size g0 g1.drew := hBk.out.drew
          clear hHeld
          generalize g1.drew = V at *
          have hVz : V.heap.size = V.heap.size := rfl
          have hol := hol'.out
          obtain ⟨ad, hsl1, hsd, hnd⟩ := hse'.out.cut 6 k i co (by rw [alcells_len, hol]; omega) (by omega) hlc (by omega)
          obtain ⟨ae, hsl2, hsf, hnf⟩ := hse'.out.cut 6 0 k k (by rw [alcells_len, hol]; omega) (by omega) (Nat.le_refl _) (by omega)
          have g1' := ccut_l under_al size_al _ i co k hsl1 (by omega)
          have g2' := ccut_hm under_al size_al _ i co k k hsl2 (Nat.le_refl _) (by omega)
          have nl : (alcells O).length = i * 6 := by rw [alcells_len, hol]
          simp only [List.take_of_length_le (Nat.le_of_eq nl), alcells_drop O k (by omega), alcells_take O k (by omega), List.drop_zero, Nat.sub_zero, Nat.zero_mul] at hsd hsf g1' g2'
          have hne : ae = none → k = 0 ∧ k = 0 := by
            intro h
            by_cases h0 : k = 0
            · exact ⟨h0, h0⟩
            · rcases hsf with h1 | ⟨g, off, h1, _⟩
              · have h3 : (alcells (O.take k)).length = 0 := by rw [h1]; rfl
                rw [alcells_len, List.length_take] at h3; omega
              · rw [h] at h1; cases h1
          have hne' := Lib.hid hne
          have hk5 : k ≤ 100000 := by omega
          have hko5 : i - k ≤ 100000 := by omega
          have hBV : Below w.heap.size w V := hB.out.trans (hBk2.mono hB.out.size)
          have hsfV : SeesC V.heap.size V ae (alcells (O.take k)) := (hsf.below hBk2).mono hBk2.size
          obtain ⟨W2, hW2⟩ : ∃ W2, W2 = V.alloc (.cells #[] 23) := ⟨_, rfl⟩
          have hBx : Below V.heap.size V W2 := by rw [hW2]; exact (Below.refl _ _).alloc (Nat.le_refl _) _
          have hBx' := Lib.hid hBx
          have hsd2 : Hid (SeesC W2.heap.size W2 ad (alcells (O.drop k))) := Lib.hid (by
            have : SeesC V.heap.size V ad (alcells (O.drop k)) := (hsd.below hBk2).mono hBk2.size
            exact (this.below hBx).mono hBx.size)
          have hro : Hid (W2.ownsRow V.heap.size 23 6 (.slice (some ⟨V.heap.size, 0, none⟩) 0 0) 0 []) := Lib.hid (by rw [hW2, ← hVz]; exact own_cells V 23 6 0 #[] (by simp) (by simp [maxLen]))
          have hdl : Hid ((alcells (O.drop k)).length = (i - k) * 6) := Lib.hid (by rw [alcells_len, List.length_drop, hol])
          have htl : Hid ((alcells (O.take k)).length = k * 6) := Lib.hid (by rw [alcells_len, List.length_take, hol]; congr 1; omega)
          have hW2' := Lib.hid hW2
          have hBV' := Lib.hid hBV
          have hsfV' := Lib.hid hsfV
          have hone : Hid (∀ q : List AlD, ∀ u ∈ alcells q, u.oneCell' = true) := Lib.hid (fun q u hu => alcells_one hu)
          clear hsl1 hsl2 hsd hsf hnd hnf hse' hown hBx hW2 hBV hsfV hne hVz hol nl hBk2 hRO
          go_wp2_with (at_builtin; go_loud (rw [← hW2'.out]; refine wpList_append_cellsB _ rfl (.tmp 32) (.tmp 35) 24 rfl V 23 i0 z0 6 72 Tryz.underlying24 hi hz0 hz1 hz2 hz6 (by decide) _ 0 [] hro.out hBx'.out W2.heap.size ad (i - k) (co - k) (alcells (O.drop k)) hdl.out hsd2.out (hone.out _) rfl rfl (by simp [maxLen]; omega) (by omega) ?_); intro v3 w3 own3 b3; simp only [List.nil_append, Nat.zero_add] at own3)
          obtain ⟨a3, c3, rfl, -, -, s3⟩ := seesC_own own3
          have hsz : SeesC w3.drew.heap.size w3.drew a3 (alcells (O.drop k)) := s3
          have hall : Below V.heap.size V w3.drew := b3.drew
          have h0 : ∀ W, Below V.heap.size V W → W.cell? ⟨b, off + i * 6, none⟩ = some (.int .i64 sk) := fun W hW => hs'.out.1 W (hBV'.out.trans (hW.mono hBV'.out.size))
          have h1 : ∀ W, Below V.heap.size V W → W.cell? ⟨b, off + i * 6 + 1, none⟩ = some (.int .i64 ssv) := fun W hW => hs'.out.2.1 W (hBV'.out.trans (hW.mono hBV'.out.size))
          have h2 : ∀ W, Below V.heap.size V W → W.cell? ⟨b, off + i * 6 + 2, none⟩ = some (.string sf) := fun W hW => hs'.out.2.2.1 W (hBV'.out.trans (hW.mono hBV'.out.size))
          have h3 : ∀ W, Below V.heap.size V W → W.cell? ⟨b, off + i * 6 + 3, none⟩ = some (.string sfi) := fun W hW => hs'.out.2.2.2.1 W (hBV'.out.trans (hW.mono hBV'.out.size))
          have h4 : ∀ W, Below V.heap.size V W → W.cell? ⟨b, off + i * 6 + 4, none⟩ = some (.int .i64 sl) := fun W hW => hs'.out.2.2.2.2.1 W (hBV'.out.trans (hW.mono hBV'.out.size))
          have h5 : ∀ W, Below V.heap.size V W → W.cell? ⟨b, off + i * 6 + 5, none⟩ = some (.string sx) := fun W hW => hs'.out.2.2.2.2.2 W (hBV'.out.trans (hW.mono hBV'.out.size))
          clear own3 s3 hro hsd2
          refine wp_drawn_on (fun W => Below V.heap.size V W) (by kernel_rfl) (b3.drew) (fun hHeld => ?_)
          generalize w3.drew = W4 at hsz hall hHeld ⊢
          refine wpAnyH_take (i := 0) (oi := { dst := some 37, op := Go.Op.move (Go.Operand.tmp 3), type := 24, pos := "ref.go:72", after := #[], guard := none }) (v := ?v16) rfl (by kernel_rfl) (by kernel_rfl) (by kernel_rfl) (fun _ _ _ h => h) (Or.inl ⟨by kernel_rfl, ?h16⟩) (by assumption) ?r16
          case h16 => (intro w hSw; (try dsimp only at hSw); go_simp; try with_reducible rfl)
          try simp only [Act.put, List.setIfInBounds_toArray, List.set_cons_zero, List.set_cons_succ]
          refine wpAnyH_take (i := 1) (oi := { dst := some 38, op := Go.Op.move (Go.Operand.tmp 5), type := 3, pos := "ref.go:72", after := #[], guard := none }) (v := ?v17) rfl (by kernel_rfl) (by kernel_rfl) (by kernel_rfl) (fun _ _ _ h => h) (Or.inl ⟨by kernel_rfl, ?h17⟩) (by assumption) ?r17
          case h17 => (intro w hSw; (try dsimp only at hSw); go_simp; try with_reducible rfl)
          try simp only [Act.put, List.setIfInBounds_toArray, List.set_cons_zero, List.set_cons_succ]
          refine wpAnyH_take (i := 2) (oi := { dst := some 39, op := Go.Op.move (Go.Operand.tmp 5), type := 3, pos := "ref.go:72", after := #[], guard := none }) (v := ?v18) rfl (by kernel_rfl) (by kernel_rfl) (by kernel_rfl) (fun _ _ _ h => h) (Or.inl ⟨by kernel_rfl, ?h18⟩) (by assumption) ?r18
          case h18 => (intro w hSw; (try dsimp only at hSw); go_simp; try with_reducible rfl)
          try simp only [Act.put, List.setIfInBounds_toArray, List.set_cons_zero, List.set_cons_succ]
          refine wpAnyH_take (i := 3) (oi := { dst := some 40, op := Go.Op.slice 24 (Go.Operand.tmp 37) none (some (Go.Operand.tmp 38)) (some (Go.Operand.tmp 39)), type := 24, pos := "ref.go:72", after := #[{ on := 0, ground := Go.Ground.data }, { on := 1, ground := Go.Ground.data }, { on := 2, ground := Go.Ground.data }], guard := none }) (v := ?v19) rfl (by kernel_rfl) (by kernel_rfl) (by kernel_rfl) (fun _ _ _ h => h) (Or.inl ⟨by kernel_rfl, ?h19⟩) (by assumption) ?r19
          case h19 => (intro w hSw; (try dsimp only at hSw); go_simp; try with_reducible rfl)
          try simp only [Act.put, List.setIfInBounds_toArray, List.set_cons_zero, List.set_cons_succ]
          refine wpAnyH_take (i := 4) (oi := { dst := some 41, op := Go.Op.move (Go.Operand.tmp 0), type := 24, pos := "ref.go:72", after := #[], guard := none }) (v := ?v20) rfl (by kernel_rfl) (by kernel_rfl) (by kernel_rfl) (fun _ _ _ h => h) (Or.inl ⟨by kernel_rfl, ?h20⟩) (by assumption) ?r20
          case h20 => (intro w hSw; (try dsimp only at hSw); go_simp; try with_reducible rfl)
          try simp only [Act.put, List.setIfInBounds_toArray, List.set_cons_zero, List.set_cons_succ]
          refine wpAnyH_take (i := 5) (oi := { dst := some 42, op := Go.Op.move (Go.Operand.tmp 4), type := 3, pos := "ref.go:72", after := #[], guard := none }) (v := ?v21) rfl (by kernel_rfl) (by kernel_rfl) (by kernel_rfl) (fun _ _ _ h => h) (Or.inl ⟨by kernel_rfl, ?h21⟩) (by assumption) ?r21
          case h21 => (intro w hSw; (try dsimp only at hSw); go_simp; try with_reducible rfl)
          try simp only [Act.put, List.setIfInBounds_toArray, List.set_cons_zero, List.set_cons_succ]
          refine wpAnyH_take (i := 6) (oi := { dst := some 43, op := Go.Op.indexAddr 24 (Go.Operand.tmp 41) (Go.Operand.tmp 42), type := 0, pos := "ref.go:72", after := #[{ on := 4, ground := Go.Ground.data }, { on := 5, ground := Go.Ground.data }], guard := none }) (v := ?v22) rfl (by kernel_rfl) (by kernel_rfl) (by kernel_rfl) (fun _ _ _ h => h) (Or.inl ⟨by kernel_rfl, ?h22⟩) (by assumption) ?r22
          case h22 => (intro w hSw; (try dsimp only at hSw); go_simp; try with_reducible rfl)
          try simp only [Act.put, List.setIfInBounds_toArray, List.set_cons_zero, List.set_cons_succ]
          refine wpAnyH_take (i := 7) (oi := { dst := some 44, op := Go.Op.load 23 (Go.Operand.tmp 43), type := 23, pos := "ref.go:72", after := #[{ on := 6, ground := Go.Ground.data }], guard := none }) (v := ?v23) rfl (by kernel_rfl) (by kernel_rfl) (by kernel_rfl) (fun _ _ _ h => h) (Or.inl ⟨by kernel_rfl, ?h23⟩) (by assumption) ?r23
          case h23 => (intro w hSw; (try dsimp only at hSw); go_simp; try with_reducible rfl)
          try simp only [Act.put, List.setIfInBounds_toArray, List.set_cons_zero, List.set_cons_succ]
          refine wpAnyH_take (i := 10) (oi := { dst := some 47, op := Go.Op.move (Go.Operand.tmp 6), type := 24, pos := "ref.go:72", after := #[], guard := none }) (v := ?v24) rfl (by kernel_rfl) (by kernel_rfl) (by kernel_rfl) (fun _ _ _ h => h) (Or.inl ⟨by kernel_rfl, ?h24⟩) (by assumption) ?r24
          case h24 => (intro w hSw; (try dsimp only at hSw); go_simp; try with_reducible rfl)
          try simp only [Act.put, List.setIfInBounds_toArray, List.set_cons_zero, List.set_cons_succ]
          refine wpAnyH_ready (rs := [8]) (by kernel_rfl) (by simp) ?_
          refine AllReadyH.cons (o := { dst := some 45, op := Go.Op.buildSlice 24 1 #[(0, Go.Operand.tmp 44)], type := 24, pos := "ref.go:72", after := #[{ on := 7, ground := Go.Ground.data }], guard := none }) rfl (fun K hK => ?_) AllReadyH.nil
          go_simp
          have hx8 := hHeld.alloc hHeld.size (.cells #[.int .i64 sk, .int .i64 ssv, .string sf, .string sfi, .int .i64 sl, .string sx] 23)
          have s8 := seesC_lit (W4) 23 #[.int .i64 sk, .int .i64 ssv, .string sf, .string sfi, .int .i64 sl, .string sx]
          have s38 := (hsz.below (box_below (W4) #[.int .i64 sk, .int .i64 ssv, .string sf, .string sfi, .int .i64 sl, .string sx] 23)).mono (box_below (W4) #[.int .i64 sk, .int .i64 ssv, .string sf, .string sfi, .int .i64 sl, .string sx] 23).size
          go_simp
          generalize hw8 : (W4).alloc (.cells #[.int .i64 sk, .int .i64 ssv, .string sf, .string sfi, .int .i64 sl, .string sx] 23) = w8 at *
          generalize (W4).heap.size = g8 at *
          refine hK.out _ _ (hx8) (fun hHeld => ?_)
          clear hK K
          try simp only [Act.put, List.setIfInBounds_toArray, List.set_cons_zero, List.set_cons_succ]
          refine wpAnyH_ready (rs := [9]) (by kernel_rfl) (by simp) ?_
          refine AllReadyH.cons (o := { dst := some 46, op := Go.Op.call { callee := Go.Callee.builtin Go.Builtin.append, args := #[Go.Operand.tmp 40, Go.Operand.tmp 45], argTypes := #[24, 24] }, type := 24, pos := "ref.go:72", after := #[{ on := 3, ground := Go.Ground.data }, { on := 8, ground := Go.Ground.data }], guard := none }) rfl (fun K hK => ?_) AllReadyH.nil
          refine wp_append_full _ (.tmp 40) (.tmp 45) 24 rfl 23 i0 z0 6 72 Tryz.underlying24 hi hz0 hz1 hz2 hz6 (by decide) ae k k (alcells (O.take k)) rfl hne'.out htl.out w8.heap.size ((hsfV'.out.below hHeld).mono hHeld.size) ⟨g8, 0, none⟩ 1 1 [.int .i64 sk, .int .i64 ssv, .string sf, .string sfi, .int .i64 sl, .string sx] rfl (by simp) s8 (by intro u hu; simp at hu; rcases hu with rfl | rfl | rfl | rfl | rfl | rfl <;> rfl) (by omega) (by simp [maxLen]; omega) (by omega) ?_
          intro v9 w9 own9 grow9
          have bg9 : Below w8.heap.size w8 w9 := (Below.refl _ _).grown grow9 (Nat.le_refl _) (by intro k hk; cases hk)
          have hx9 := hHeld.trans (bg9.mono hHeld.size)
          have s39 := (s38.below bg9).mono bg9.size
          have own9' := own_from own9 (B := w.heap.size) (fun k hk => by have q1 := (own9.lt k hk).1; have q2 := hHeld.size; have q3 := hBV'.out.size; omega)
          refine hK.out _ _ (hx9) (fun hHeld => ?_)
          clear hK K
          try simp only [Act.put, List.setIfInBounds_toArray, List.set_cons_zero, List.set_cons_succ]
          refine wpAnyH_ready (rs := [11]) (by kernel_rfl) (by simp) ?_
          refine AllReadyH.cons (o := { dst := some 48, op := Go.Op.call { callee := Go.Callee.builtin Go.Builtin.append, args := #[Go.Operand.tmp 46, Go.Operand.tmp 47], argTypes := #[24, 24] }, type := 24, pos := "ref.go:72", after := #[{ on := 9, ground := Go.Ground.data }, { on := 10, ground := Go.Ground.data }, { on := 9, ground := Go.Ground.chain }], guard := none }) rfl (fun K hK => ?_) AllReadyH.nil
          refine wp_append_cellsB _ (.tmp 46) (.tmp 47) 24 rfl w.heap.size 23 i0 z0 6 72 Tryz.underlying24 hi hz0 hz1 hz2 hz6 (by decide) v9 (k + 1) _ own9' (by have q2 := hHeld.size; have q3 := hBV'.out.size; omega) _ a3 (i - k) c3 (alcells (O.drop k)) hdl.out s39 (hone.out _) rfl rfl (by simp [maxLen]; omega) (by omega) ?_
          intro v11 w11 own11 grow11
          have hx11 : Below V.heap.size V w11 := hHeld.grown grow11 hHeld.size (fun k hk => by have q1 := (own9.lt k hk).1; have q2 := hx8.size; omega)
          refine hK.out _ _ (hx11) (fun hHeld => ?_)
          clear hK K
          try simp only [Act.put, List.setIfInBounds_toArray, List.set_cons_zero, List.set_cons_succ]
          refine wpAnyH_take (i := 12) (oi := { dst := some 3, op := Go.Op.assign (Go.Operand.tmp 48), type := 24, pos := "ref.go:72", after := #[{ on := 11, ground := Go.Ground.data }, { on := 11, ground := Go.Ground.chain }, { on := 0, ground := Go.Ground.phase }, { on := 1, ground := Go.Ground.phase }, { on := 2, ground := Go.Ground.phase }, { on := 3, ground := Go.Ground.phase }, { on := 4, ground := Go.Ground.phase }, { on := 5, ground := Go.Ground.phase }, { on := 6, ground := Go.Ground.phase }, { on := 7, ground := Go.Ground.phase }, { on := 8, ground := Go.Ground.phase }, { on := 9, ground := Go.Ground.phase }, { on := 10, ground := Go.Ground.phase }, { on := 11, ground := Go.Ground.phase }], guard := none }) (v := ?v25) rfl (by kernel_rfl) (by kernel_rfl) (by kernel_rfl) (fun _ _ _ h => h) (Or.inl ⟨by kernel_rfl, ?h25⟩) (by assumption) ?r25
          case h25 => (intro w hSw; (try dsimp only at hSw); go_simp; try with_reducible rfl)
          try simp only [Act.put, List.setIfInBounds_toArray, List.set_cons_zero, List.set_cons_succ]
          refine wpAnyH_done (by kernel_rfl) ?_ _
          have hfin : Hid (w11.ownsRow w.heap.size 23 6 v11 (i + 1) (alcells O2) ∧ Below w.heap.size w w11) := Lib.hid ⟨by rw [hO3.out, hfin5.out k, show i + 1 = k + 1 + (i - k) by omega]; exact own11, hBV'.out.trans (hx11.mono hBV'.out.size)⟩
          clear own11 grow11 hx11 own9' own9 grow9 bg9 s39 s38 s8 hx8 hx9 hHeld h0 h1 h2 h3 h4 h5
          go_wp2
          go_roundw
          case rel => exact ⟨i + 1, by omega, by go_num, Lib.hid (by rw [hOe.out]; exact hfin.out.1), Lib.hid hfin.out.2⟩
          case measure => simp [intOf]; omega
        · obtain ⟨j, hkj⟩ : ∃ j, k = j + 1 := ⟨k - 1, by omega⟩
          obtain ⟨g, off2, rfl, hgl, y0, y1, y2, y3, y4, y5⟩ := al_at (hRO.out.below hBk.out) (show j < i by omega)
          have q2 := Lib.hid (fun W => q1.out (O.getD j al0) W)
          have r0 : ∀ W, Below g1.heap.size g1 W → W.cell? ⟨g, off2 + j * 6, none⟩ = some (.int .i64 (O.getD j al0).kind) := fun W hW => (hW.cell (p := ⟨g, off2 + j * 6, none⟩) hgl).trans y0
          have s0 : ∀ W, Below g1.heap.size g1 W → W.cell? ⟨b, off + i * 6, none⟩ = some (.int .i64 sk) := fun W hW => hs'.out.1 W (hB.out.trans ((hBk.out.trans (hW.mono hBk.out.size)).mono hB.out.size))
          have r1 : ∀ W, Below g1.heap.size g1 W → W.cell? ⟨g, off2 + j * 6 + 1, none⟩ = some (.int .i64 (O.getD j al0).sev) := fun W hW => (hW.cell (p := ⟨g, off2 + j * 6 + 1, none⟩) hgl).trans y1
          have s1 : ∀ W, Below g1.heap.size g1 W → W.cell? ⟨b, off + i * 6 + 1, none⟩ = some (.int .i64 ssv) := fun W hW => hs'.out.2.1 W (hB.out.trans ((hBk.out.trans (hW.mono hBk.out.size)).mono hB.out.size))
          have r2 : ∀ W, Below g1.heap.size g1 W → W.cell? ⟨g, off2 + j * 6 + 2, none⟩ = some (.string (O.getD j al0).fn) := fun W hW => (hW.cell (p := ⟨g, off2 + j * 6 + 2, none⟩) hgl).trans y2
          have s2 : ∀ W, Below g1.heap.size g1 W → W.cell? ⟨b, off + i * 6 + 2, none⟩ = some (.string sf) := fun W hW => hs'.out.2.2.1 W (hB.out.trans ((hBk.out.trans (hW.mono hBk.out.size)).mono hB.out.size))
          have r3 : ∀ W, Below g1.heap.size g1 W → W.cell? ⟨g, off2 + j * 6 + 3, none⟩ = some (.string (O.getD j al0).file) := fun W hW => (hW.cell (p := ⟨g, off2 + j * 6 + 3, none⟩) hgl).trans y3
          have s3 : ∀ W, Below g1.heap.size g1 W → W.cell? ⟨b, off + i * 6 + 3, none⟩ = some (.string sfi) := fun W hW => hs'.out.2.2.2.1 W (hB.out.trans ((hBk.out.trans (hW.mono hBk.out.size)).mono hB.out.size))
          have r4 : ∀ W, Below g1.heap.size g1 W → W.cell? ⟨g, off2 + j * 6 + 4, none⟩ = some (.int .i64 (O.getD j al0).line) := fun W hW => (hW.cell (p := ⟨g, off2 + j * 6 + 4, none⟩) hgl).trans y4
          have s4 : ∀ W, Below g1.heap.size g1 W → W.cell? ⟨b, off + i * 6 + 4, none⟩ = some (.int .i64 sl) := fun W hW => hs'.out.2.2.2.2.1 W (hB.out.trans ((hBk.out.trans (hW.mono hBk.out.size)).mono hB.out.size))
          have r5 : ∀ W, Below g1.heap.size g1 W → W.cell? ⟨g, off2 + j * 6 + 5, none⟩ = some (.string (O.getD j al0).expr) := fun W hW => (hW.cell (p := ⟨g, off2 + j * 6 + 5, none⟩) hgl).trans y5
          have s5 : ∀ W, Below g1.heap.size g1 W → W.cell? ⟨b, off + i * 6 + 5, none⟩ = some (.string sx) := fun W hW => hs'.out.2.2.2.2.2 W (hB.out.trans ((hBk.out.trans (hW.mono hBk.out.size)).mono hB.out.size))
          have hji : (j : Int) < (i : Int) := by omega
          have hj0 : (0 : Int) ≤ (j : Int) := by omega
          have hjw : wrap64 ((k : Int) - 1) = (j : Int) := by unfold wrap64; omega
          have hjw2 : IntKind.i64.wrap ((k : Int) - 1) = (j : Int) := by rw [IntKind.wrap_i64]; omega
          have hjp : (0 : Int) < (k : Int) := by omega
          have hjpn : 0 < k := by omega
          have hkj' := Lib.hid hkj
          have hal2 : Hid (0 < cmpA (O.getD j al0) ⟨sk, ssv, sf, sfi, sl, sx⟩ → ∀ t, j ≤ t → t < O.length → 0 < cmpA (O.getD t al0) ⟨sk, ssv, sf, sfi, sl, sx⟩) := Lib.hid (fun h t h1 h2 => by
            by_cases e : t = j
            · rw [e]; exact h
            · exact hal.out t (by omega) h2)
          have hn2 : Hid (¬ 0 < cmpA (O.getD j al0) ⟨sk, ssv, sf, sfi, sl, sx⟩ → O2 = O.take k ++ ⟨sk, ssv, sf, sfi, sl, sx⟩ :: O.drop k) := Lib.hid (fun h => hst.out k (by have := hol'.out; omega) hal.out (.inr (by rw [show k - 1 = j by omega]; first | exact h | omega)))
          clear y0 y1 y2 y3 y4 y5 hal hkj
          generalize cmpA (O.getD j al0) ⟨sk, ssv, sf, sfi, sl, sx⟩ = cv at *
          generalize O.getD j al0 = y at *
          obtain ⟨yk, yv, yf, yfi, yl, yx⟩ := y
          dsimp only at r0 r1 r2 r3 r4 r5 q2
          by_cases hys : 0 < cv
          · have hS := Lib.hid (hal2.out hys)
            clear hn2 hal2
            go_wp2
            refine wp_drawn_on (fun W => Below g1.heap.size g1 W) (by kernel_rfl) ((Below.refl _ _).drew) (fun hHeld => ?_)
            refine wpAnyH_take (i := 0) (oi := { dst := some 15, op := Go.Op.move (Go.Operand.tmp 5), type := 3, pos := "ref.go:68", after := #[], guard := none }) (v := ?v26) rfl (by kernel_rfl) (by kernel_rfl) (by kernel_rfl) (fun _ _ _ h => h) (Or.inl ⟨by kernel_rfl, ?h26⟩) (by assumption) ?r26
            case h26 => (intro w hSw; (try dsimp only at hSw); go_simp; try with_reducible rfl)
            try simp only [Act.put, List.setIfInBounds_toArray, List.set_cons_zero, List.set_cons_succ]
            refine wpAnyH_take (i := 1) (oi := { dst := some 16, op := Go.Op.binOp Go.BinOp.gtr 3 (Go.Operand.tmp 15) (Go.Operand.const (Go.Value.int Go.IntKind.i64 0)) 3, type := 4, pos := "ref.go:68", after := #[{ on := 0, ground := Go.Ground.data }], guard := none }) (v := ?v27) rfl (by kernel_rfl) (by kernel_rfl) (by kernel_rfl) (fun _ _ _ h => h) (Or.inl ⟨by kernel_rfl, ?h27⟩) (by assumption) ?r27
            case h27 => (intro w hSw; (try dsimp only at hSw); go_simp; try with_reducible rfl)
            try simp only [Act.put, List.setIfInBounds_toArray, List.set_cons_zero, List.set_cons_succ]
            refine wpAnyH_take (i := 2) (oi := { dst := some 17, op := Go.Op.move (Go.Operand.tmp 16), type := 4, pos := "ref.go:68", after := #[{ on := 1, ground := Go.Ground.data }], guard := none }) (v := ?v28) rfl (by kernel_rfl) (by kernel_rfl) (by kernel_rfl) (fun _ _ _ h => h) (Or.inl ⟨by kernel_rfl, ?h28⟩) (by assumption) ?r28
            case h28 => (intro w hSw; (try dsimp only at hSw); go_simp; try with_reducible rfl)
            try simp only [Act.put, List.setIfInBounds_toArray, List.set_cons_zero, List.set_cons_succ]
            refine wpAnyH_take (i := 3) (oi := { dst := some 18, op := Go.Op.move (Go.Operand.tmp 3), type := 24, pos := "ref.go:68", after := #[{ on := 2, ground := Go.Ground.guard }], guard := some (2, true) }) (v := ?v29) rfl (by kernel_rfl) (by kernel_rfl) (by kernel_rfl) (fun _ _ _ h => h) (Or.inl ⟨by kernel_rfl, ?h29⟩) (by assumption) ?r29
            case h29 => (intro w hSw; (try dsimp only at hSw); go_simp; try with_reducible rfl)
            try simp only [Act.put, List.setIfInBounds_toArray, List.set_cons_zero, List.set_cons_succ]
            refine wpAnyH_take (i := 4) (oi := { dst := some 19, op := Go.Op.move (Go.Operand.tmp 5), type := 3, pos := "ref.go:68", after := #[{ on := 2, ground := Go.Ground.guard }], guard := some (2, true) }) (v := ?v30) rfl (by kernel_rfl) (by kernel_rfl) (by kernel_rfl) (fun _ _ _ h => h) (Or.inl ⟨by kernel_rfl, ?h30⟩) (by assumption) ?r30
            case h30 => (intro w hSw; (try dsimp only at hSw); go_simp; try with_reducible rfl)
            try simp only [Act.put, List.setIfInBounds_toArray, List.set_cons_zero, List.set_cons_succ]
            refine wpAnyH_take (i := 5) (oi := { dst := some 20, op := Go.Op.binOp Go.BinOp.sub 3 (Go.Operand.tmp 19) (Go.Operand.const (Go.Value.int Go.IntKind.i64 1)) 3, type := 3, pos := "ref.go:68", after := #[{ on := 4, ground := Go.Ground.data }, { on := 2, ground := Go.Ground.guard }], guard := some (2, true) }) (v := ?v31) rfl (by kernel_rfl) (by kernel_rfl) (by kernel_rfl) (fun _ _ _ h => h) (Or.inl ⟨by kernel_rfl, ?h31⟩) (by assumption) ?r31
            case h31 => (intro w hSw; (try dsimp only at hSw); go_simp; try with_reducible rfl)
            try simp only [Act.put, List.setIfInBounds_toArray, List.set_cons_zero, List.set_cons_succ]
            refine wpAnyH_take (i := 6) (oi := { dst := some 21, op := Go.Op.indexAddr 24 (Go.Operand.tmp 18) (Go.Operand.tmp 20), type := 0, pos := "ref.go:68", after := #[{ on := 3, ground := Go.Ground.data }, { on := 5, ground := Go.Ground.data }, { on := 2, ground := Go.Ground.guard }], guard := some (2, true) }) (v := ?v32) rfl (by kernel_rfl) (by kernel_rfl) (by kernel_rfl) (fun _ _ _ h => h) (Or.inl ⟨by kernel_rfl, ?h32⟩) (by assumption) ?r32
            case h32 => (intro w hSw; (try dsimp only at hSw); go_simp; try with_reducible rfl)
            try simp only [Act.put, List.setIfInBounds_toArray, List.set_cons_zero, List.set_cons_succ]
            refine wpAnyH_take (i := 7) (oi := { dst := some 22, op := Go.Op.load 23 (Go.Operand.tmp 21), type := 23, pos := "ref.go:68", after := #[{ on := 6, ground := Go.Ground.data }, { on := 2, ground := Go.Ground.guard }], guard := some (2, true) }) (v := ?v33) rfl (by kernel_rfl) (by kernel_rfl) (by kernel_rfl) (fun _ _ _ h => h) (Or.inl ⟨by kernel_rfl, ?h33⟩) (by assumption) ?r33
            case h33 => (intro w hSw; (try dsimp only at hSw); go_simp; try with_reducible rfl)
            try simp only [Act.put, List.setIfInBounds_toArray, List.set_cons_zero, List.set_cons_succ]
            refine wpAnyH_take (i := 8) (oi := { dst := some 23, op := Go.Op.move (Go.Operand.tmp 0), type := 24, pos := "ref.go:68", after := #[{ on := 2, ground := Go.Ground.guard }], guard := some (2, true) }) (v := ?v34) rfl (by kernel_rfl) (by kernel_rfl) (by kernel_rfl) (fun _ _ _ h => h) (Or.inl ⟨by kernel_rfl, ?h34⟩) (by assumption) ?r34
            case h34 => (intro w hSw; (try dsimp only at hSw); go_simp; try with_reducible rfl)
            try simp only [Act.put, List.setIfInBounds_toArray, List.set_cons_zero, List.set_cons_succ]
            refine wpAnyH_take (i := 9) (oi := { dst := some 24, op := Go.Op.move (Go.Operand.tmp 4), type := 3, pos := "ref.go:68", after := #[{ on := 2, ground := Go.Ground.guard }], guard := some (2, true) }) (v := ?v35) rfl (by kernel_rfl) (by kernel_rfl) (by kernel_rfl) (fun _ _ _ h => h) (Or.inl ⟨by kernel_rfl, ?h35⟩) (by assumption) ?r35
            case h35 => (intro w hSw; (try dsimp only at hSw); go_simp; try with_reducible rfl)
            try simp only [Act.put, List.setIfInBounds_toArray, List.set_cons_zero, List.set_cons_succ]
            refine wpAnyH_take (i := 10) (oi := { dst := some 25, op := Go.Op.indexAddr 24 (Go.Operand.tmp 23) (Go.Operand.tmp 24), type := 0, pos := "ref.go:68", after := #[{ on := 8, ground := Go.Ground.data }, { on := 9, ground := Go.Ground.data }, { on := 2, ground := Go.Ground.guard }], guard := some (2, true) }) (v := ?v36) rfl (by kernel_rfl) (by kernel_rfl) (by kernel_rfl) (fun _ _ _ h => h) (Or.inl ⟨by kernel_rfl, ?h36⟩) (by assumption) ?r36
            case h36 => (intro w hSw; (try dsimp only at hSw); go_simp; try with_reducible rfl)
            try simp only [Act.put, List.setIfInBounds_toArray, List.set_cons_zero, List.set_cons_succ]
            refine wpAnyH_take (i := 11) (oi := { dst := some 26, op := Go.Op.load 23 (Go.Operand.tmp 25), type := 23, pos := "ref.go:68", after := #[{ on := 10, ground := Go.Ground.data }, { on := 2, ground := Go.Ground.guard }], guard := some (2, true) }) (v := ?v37) rfl (by kernel_rfl) (by kernel_rfl) (by kernel_rfl) (fun _ _ _ h => h) (Or.inl ⟨by kernel_rfl, ?h37⟩) (by assumption) ?r37
            case h37 => (intro w hSw; (try dsimp only at hSw); go_simp; try with_reducible rfl)
            try simp only [Act.put, List.setIfInBounds_toArray, List.set_cons_zero, List.set_cons_succ]
            refine wpAnyH_ready (rs := [12]) (by kernel_rfl) (by simp) ?_
            refine AllReadyH.cons (o := { dst := some 27, op := Go.Op.call { callee := Go.Callee.value (Go.Operand.func 12), args := #[Go.Operand.tmp 22, Go.Operand.tmp 26], argTypes := #[23, 23] }, type := 3, pos := "ref.go:68", after := #[{ on := 7, ground := Go.Ground.data }, { on := 11, ground := Go.Ground.data }, { on := 2, ground := Go.Ground.chain }, { on := 2, ground := Go.Ground.guard }], guard := some (2, true) }) rfl (fun K hK => ?_) AllReadyH.nil
            go_simp
            with_reducible refine (q2.out _).mono ?_
            rintro e u1 ⟨rfl, b1⟩
            go_simp
            refine hK.out _ _ (hHeld.trans (b1.mono hHeld.size)) (fun hHeld => ?_)
            clear hK K
            try simp only [Act.put, List.setIfInBounds_toArray, List.set_cons_zero, List.set_cons_succ]
            refine wpAnyH_take (i := 13) (oi := { dst := some 28, op := Go.Op.binOp Go.BinOp.gtr 3 (Go.Operand.tmp 27) (Go.Operand.const (Go.Value.int Go.IntKind.i64 0)) 3, type := 4, pos := "ref.go:68", after := #[{ on := 12, ground := Go.Ground.data }, { on := 2, ground := Go.Ground.guard }], guard := some (2, true) }) (v := ?v38) rfl (by kernel_rfl) (by kernel_rfl) (by kernel_rfl) (fun _ _ _ h => h) (Or.inl ⟨by kernel_rfl, ?h38⟩) (by assumption) ?r38
            case h38 => (intro w hSw; (try dsimp only at hSw); go_simp; try with_reducible rfl)
            try simp only [Act.put, List.setIfInBounds_toArray, List.set_cons_zero, List.set_cons_succ]
            refine wpAnyH_take (i := 14) (oi := { dst := some 29, op := Go.Op.pick (Go.Operand.tmp 17) (Go.Operand.tmp 28) (Go.Operand.const (Go.Value.bool false)), type := 4, pos := "ref.go:68", after := #[{ on := 2, ground := Go.Ground.data }, { on := 13, ground := Go.Ground.data }], guard := none }) (v := ?v39) rfl (by kernel_rfl) (by kernel_rfl) (by kernel_rfl) (fun _ _ _ h => h) (Or.inl ⟨by kernel_rfl, ?h39⟩) (by assumption) ?r39
            case h39 => (intro w hSw; (try dsimp only at hSw); go_simp; try with_reducible rfl)
            try simp only [Act.put, List.setIfInBounds_toArray, List.set_cons_zero, List.set_cons_succ]
            refine wpAnyH_done (by kernel_rfl) ?_ _
            have hB2 := Lib.hid (hBk.out.trans (hHeld.mono hBk.out.size))
            clear hHeld b1 r0 r1 r2 r3 r4 r5 s0 s1 s2 s3 s4 s5 q2
            go_wp2
            go_roundw
            case rel => exact ⟨j, by have := hkj'.out; omega, by first | rfl | go_num, hS, hB2⟩
            case measure => (simp [intOf]; have := hkj'.out; omega)
          · have hysb : decide (0 < cv) = false := decide_eq_false hys
            have hO3 := Lib.hid (hn2.out hys)
            clear hn2 hal2 hst
            go_wp2
            refine wp_drawn_on (fun W => Below g1.heap.size g1 W) (by kernel_rfl) ((Below.refl _ _).drew) (fun hHeld => ?_)
            refine wpAnyH_take (i := 0) (oi := { dst := some 15, op := Go.Op.move (Go.Operand.tmp 5), type := 3, pos := "ref.go:68", after := #[], guard := none }) (v := ?v40) rfl (by kernel_rfl) (by kernel_rfl) (by kernel_rfl) (fun _ _ _ h => h) (Or.inl ⟨by kernel_rfl, ?h40⟩) (by assumption) ?r40
            case h40 => (intro w hSw; (try dsimp only at hSw); go_simp; try with_reducible rfl)
            try simp only [Act.put, List.setIfInBounds_toArray, List.set_cons_zero, List.set_cons_succ]
            refine wpAnyH_take (i := 1) (oi := { dst := some 16, op := Go.Op.binOp Go.BinOp.gtr 3 (Go.Operand.tmp 15) (Go.Operand.const (Go.Value.int Go.IntKind.i64 0)) 3, type := 4, pos := "ref.go:68", after := #[{ on := 0, ground := Go.Ground.data }], guard := none }) (v := ?v41) rfl (by kernel_rfl) (by kernel_rfl) (by kernel_rfl) (fun _ _ _ h => h) (Or.inl ⟨by kernel_rfl, ?h41⟩) (by assumption) ?r41
            case h41 => (intro w hSw; (try dsimp only at hSw); go_simp; try with_reducible rfl)
            try simp only [Act.put, List.setIfInBounds_toArray, List.set_cons_zero, List.set_cons_succ]
            refine wpAnyH_take (i := 2) (oi := { dst := some 17, op := Go.Op.move (Go.Operand.tmp 16), type := 4, pos := "ref.go:68", after := #[{ on := 1, ground := Go.Ground.data }], guard := none }) (v := ?v42) rfl (by kernel_rfl) (by kernel_rfl) (by kernel_rfl) (fun _ _ _ h => h) (Or.inl ⟨by kernel_rfl, ?h42⟩) (by assumption) ?r42
            case h42 => (intro w hSw; (try dsimp only at hSw); go_simp; try with_reducible rfl)
            try simp only [Act.put, List.setIfInBounds_toArray, List.set_cons_zero, List.set_cons_succ]
            refine wpAnyH_take (i := 3) (oi := { dst := some 18, op := Go.Op.move (Go.Operand.tmp 3), type := 24, pos := "ref.go:68", after := #[{ on := 2, ground := Go.Ground.guard }], guard := some (2, true) }) (v := ?v43) rfl (by kernel_rfl) (by kernel_rfl) (by kernel_rfl) (fun _ _ _ h => h) (Or.inl ⟨by kernel_rfl, ?h43⟩) (by assumption) ?r43
            case h43 => (intro w hSw; (try dsimp only at hSw); go_simp; try with_reducible rfl)
            try simp only [Act.put, List.setIfInBounds_toArray, List.set_cons_zero, List.set_cons_succ]
            refine wpAnyH_take (i := 4) (oi := { dst := some 19, op := Go.Op.move (Go.Operand.tmp 5), type := 3, pos := "ref.go:68", after := #[{ on := 2, ground := Go.Ground.guard }], guard := some (2, true) }) (v := ?v44) rfl (by kernel_rfl) (by kernel_rfl) (by kernel_rfl) (fun _ _ _ h => h) (Or.inl ⟨by kernel_rfl, ?h44⟩) (by assumption) ?r44
            case h44 => (intro w hSw; (try dsimp only at hSw); go_simp; try with_reducible rfl)
            try simp only [Act.put, List.setIfInBounds_toArray, List.set_cons_zero, List.set_cons_succ]
            refine wpAnyH_take (i := 5) (oi := { dst := some 20, op := Go.Op.binOp Go.BinOp.sub 3 (Go.Operand.tmp 19) (Go.Operand.const (Go.Value.int Go.IntKind.i64 1)) 3, type := 3, pos := "ref.go:68", after := #[{ on := 4, ground := Go.Ground.data }, { on := 2, ground := Go.Ground.guard }], guard := some (2, true) }) (v := ?v45) rfl (by kernel_rfl) (by kernel_rfl) (by kernel_rfl) (fun _ _ _ h => h) (Or.inl ⟨by kernel_rfl, ?h45⟩) (by assumption) ?r45
            case h45 => (intro w hSw; (try dsimp only at hSw); go_simp; try with_reducible rfl)
            try simp only [Act.put, List.setIfInBounds_toArray, List.set_cons_zero, List.set_cons_succ]
            refine wpAnyH_take (i := 6) (oi := { dst := some 21, op := Go.Op.indexAddr 24 (Go.Operand.tmp 18) (Go.Operand.tmp 20), type := 0, pos := "ref.go:68", after := #[{ on := 3, ground := Go.Ground.data }, { on := 5, ground := Go.Ground.data }, { on := 2, ground := Go.Ground.guard }], guard := some (2, true) }) (v := ?v46) rfl (by kernel_rfl) (by kernel_rfl) (by kernel_rfl) (fun _ _ _ h => h) (Or.inl ⟨by kernel_rfl, ?h46⟩) (by assumption) ?r46
            case h46 => (intro w hSw; (try dsimp only at hSw); go_simp; try with_reducible rfl)
            try simp only [Act.put, List.setIfInBounds_toArray, List.set_cons_zero, List.set_cons_succ]
            refine wpAnyH_take (i := 7) (oi := { dst := some 22, op := Go.Op.load 23 (Go.Operand.tmp 21), type := 23, pos := "ref.go:68", after := #[{ on := 6, ground := Go.Ground.data }, { on := 2, ground := Go.Ground.guard }], guard := some (2, true) }) (v := ?v47) rfl (by kernel_rfl) (by kernel_rfl) (by kernel_rfl) (fun _ _ _ h => h) (Or.inl ⟨by kernel_rfl, ?h47⟩) (by assumption) ?r47
            case h47 => (intro w hSw; (try dsimp only at hSw); go_simp; try with_reducible rfl)
            try simp only [Act.put, List.setIfInBounds_toArray, List.set_cons_zero, List.set_cons_succ]
            refine wpAnyH_take (i := 8) (oi := { dst := some 23, op := Go.Op.move (Go.Operand.tmp 0), type := 24, pos := "ref.go:68", after := #[{ on := 2, ground := Go.Ground.guard }], guard := some (2, true) }) (v := ?v48) rfl (by kernel_rfl) (by kernel_rfl) (by kernel_rfl) (fun _ _ _ h => h) (Or.inl ⟨by kernel_rfl, ?h48⟩) (by assumption) ?r48
            case h48 => (intro w hSw; (try dsimp only at hSw); go_simp; try with_reducible rfl)
            try simp only [Act.put, List.setIfInBounds_toArray, List.set_cons_zero, List.set_cons_succ]
            refine wpAnyH_take (i := 9) (oi := { dst := some 24, op := Go.Op.move (Go.Operand.tmp 4), type := 3, pos := "ref.go:68", after := #[{ on := 2, ground := Go.Ground.guard }], guard := some (2, true) }) (v := ?v49) rfl (by kernel_rfl) (by kernel_rfl) (by kernel_rfl) (fun _ _ _ h => h) (Or.inl ⟨by kernel_rfl, ?h49⟩) (by assumption) ?r49
            case h49 => (intro w hSw; (try dsimp only at hSw); go_simp; try with_reducible rfl)
            try simp only [Act.put, List.setIfInBounds_toArray, List.set_cons_zero, List.set_cons_succ]
            refine wpAnyH_take (i := 10) (oi := { dst := some 25, op := Go.Op.indexAddr 24 (Go.Operand.tmp 23) (Go.Operand.tmp 24), type := 0, pos := "ref.go:68", after := #[{ on := 8, ground := Go.Ground.data }, { on := 9, ground := Go.Ground.data }, { on := 2, ground := Go.Ground.guard }], guard := some (2, true) }) (v := ?v50) rfl (by kernel_rfl) (by kernel_rfl) (by kernel_rfl) (fun _ _ _ h => h) (Or.inl ⟨by kernel_rfl, ?h50⟩) (by assumption) ?r50
            case h50 => (intro w hSw; (try dsimp only at hSw); go_simp; try with_reducible rfl)
            try simp only [Act.put, List.setIfInBounds_toArray, List.set_cons_zero, List.set_cons_succ]
            refine wpAnyH_take (i := 11) (oi := { dst := some 26, op := Go.Op.load 23 (Go.Operand.tmp 25), type := 23, pos := "ref.go:68", after := #[{ on := 10, ground := Go.Ground.data }, { on := 2, ground := Go.Ground.guard }], guard := some (2, true) }) (v := ?v51) rfl (by kernel_rfl) (by kernel_rfl) (by kernel_rfl) (fun _ _ _ h => h) (Or.inl ⟨by kernel_rfl, ?h51⟩) (by assumption) ?r51
            case h51 => (intro w hSw; (try dsimp only at hSw); go_simp; try with_reducible rfl)
            try simp only [Act.put, List.setIfInBounds_toArray, List.set_cons_zero, List.set_cons_succ]
            refine wpAnyH_ready (rs := [12]) (by kernel_rfl) (by simp) ?_
            refine AllReadyH.cons (o := { dst := some 27, op := Go.Op.call { callee := Go.Callee.value (Go.Operand.func 12), args := #[Go.Operand.tmp 22, Go.Operand.tmp 26], argTypes := #[23, 23] }, type := 3, pos := "ref.go:68", after := #[{ on := 7, ground := Go.Ground.data }, { on := 11, ground := Go.Ground.data }, { on := 2, ground := Go.Ground.chain }, { on := 2, ground := Go.Ground.guard }], guard := some (2, true) }) rfl (fun K hK => ?_) AllReadyH.nil
            go_simp
            with_reducible refine (q2.out _).mono ?_
            rintro e u1 ⟨rfl, b1⟩
            go_simp
            refine hK.out _ _ (hHeld.trans (b1.mono hHeld.size)) (fun hHeld => ?_)
            clear hK K
            try simp only [Act.put, List.setIfInBounds_toArray, List.set_cons_zero, List.set_cons_succ]
            refine wpAnyH_take (i := 13) (oi := { dst := some 28, op := Go.Op.binOp Go.BinOp.gtr 3 (Go.Operand.tmp 27) (Go.Operand.const (Go.Value.int Go.IntKind.i64 0)) 3, type := 4, pos := "ref.go:68", after := #[{ on := 12, ground := Go.Ground.data }, { on := 2, ground := Go.Ground.guard }], guard := some (2, true) }) (v := ?v52) rfl (by kernel_rfl) (by kernel_rfl) (by kernel_rfl) (fun _ _ _ h => h) (Or.inl ⟨by kernel_rfl, ?h52⟩) (by assumption) ?r52
            case h52 => (intro w hSw; (try dsimp only at hSw); go_simp; try with_reducible rfl)
            try simp only [Act.put, List.setIfInBounds_toArray, List.set_cons_zero, List.set_cons_succ]
            refine wpAnyH_take (i := 14) (oi := { dst := some 29, op := Go.Op.pick (Go.Operand.tmp 17) (Go.Operand.tmp 28) (Go.Operand.const (Go.Value.bool false)), type := 4, pos := "ref.go:68", after := #[{ on := 2, ground := Go.Ground.data }, { on := 13, ground := Go.Ground.data }], guard := none }) (v := ?v53) rfl (by kernel_rfl) (by kernel_rfl) (by kernel_rfl) (fun _ _ _ h => h) (Or.inl ⟨by kernel_rfl, ?h53⟩) (by assumption) ?r53
            case h53 => (intro w hSw; (try dsimp only at hSw); go_simp; try with_reducible rfl)
            try simp only [Act.put, List.setIfInBounds_toArray, List.set_cons_zero, List.set_cons_succ]
            refine wpAnyH_done (by kernel_rfl) ?_ _
            have hBk2 := hBk.out.trans (hHeld.mono hBk.out.size)
            clear hHeld b1 r0 r1 r2 r3 r4 r5 s0 s1 s2 s3 s4 s5 q2 q1
            clear hysb hys hjp hjpn hjw hjw2 hj0 hji hkj'
            generalize u1 = V at *
            have hVz : V.heap.size = V.heap.size := rfl
            have hol := hol'.out
            obtain ⟨ad, hsl1, hsd, hnd⟩ := hse'.out.cut 6 k i co (by rw [alcells_len, hol]; omega) (by omega) hlc (by omega)
            obtain ⟨ae, hsl2, hsf, hnf⟩ := hse'.out.cut 6 0 k k (by rw [alcells_len, hol]; omega) (by omega) (Nat.le_refl _) (by omega)
            have g1' := ccut_l under_al size_al _ i co k hsl1 (by omega)
            have g2' := ccut_hm under_al size_al _ i co k k hsl2 (Nat.le_refl _) (by omega)
            have nl : (alcells O).length = i * 6 := by rw [alcells_len, hol]
            simp only [List.take_of_length_le (Nat.le_of_eq nl), alcells_drop O k (by omega), alcells_take O k (by omega), List.drop_zero, Nat.sub_zero, Nat.zero_mul] at hsd hsf g1' g2'
            have hne : ae = none → k = 0 ∧ k = 0 := by
              intro h
              by_cases h0 : k = 0
              · exact ⟨h0, h0⟩
              · rcases hsf with h1 | ⟨g, off, h1, _⟩
                · have h3 : (alcells (O.take k)).length = 0 := by rw [h1]; rfl
                  rw [alcells_len, List.length_take] at h3; omega
                · rw [h] at h1; cases h1
            have hne' := Lib.hid hne
            have hk5 : k ≤ 100000 := by omega
            have hko5 : i - k ≤ 100000 := by omega
            have hBV : Below w.heap.size w V := hB.out.trans (hBk2.mono hB.out.size)
            have hsfV : SeesC V.heap.size V ae (alcells (O.take k)) := (hsf.below hBk2).mono hBk2.size
            obtain ⟨W2, hW2⟩ : ∃ W2, W2 = V.alloc (.cells #[] 23) := ⟨_, rfl⟩
            have hBx : Below V.heap.size V W2 := by rw [hW2]; exact (Below.refl _ _).alloc (Nat.le_refl _) _
            have hBx' := Lib.hid hBx
            have hsd2 : Hid (SeesC W2.heap.size W2 ad (alcells (O.drop k))) := Lib.hid (by
              have : SeesC V.heap.size V ad (alcells (O.drop k)) := (hsd.below hBk2).mono hBk2.size
              exact (this.below hBx).mono hBx.size)
            have hro : Hid (W2.ownsRow V.heap.size 23 6 (.slice (some ⟨V.heap.size, 0, none⟩) 0 0) 0 []) := Lib.hid (by rw [hW2, ← hVz]; exact own_cells V 23 6 0 #[] (by simp) (by simp [maxLen]))
            have hdl : Hid ((alcells (O.drop k)).length = (i - k) * 6) := Lib.hid (by rw [alcells_len, List.length_drop, hol])
            have htl : Hid ((alcells (O.take k)).length = k * 6) := Lib.hid (by rw [alcells_len, List.length_take, hol]; congr 1; omega)
            have hW2' := Lib.hid hW2
            have hBV' := Lib.hid hBV
            have hsfV' := Lib.hid hsfV
            have hone : Hid (∀ q : List AlD, ∀ u ∈ alcells q, u.oneCell' = true) := Lib.hid (fun q u hu => alcells_one hu)
            clear hsl1 hsl2 hsd hsf hnd hnf hse' hown hBx hW2 hBV hsfV hne hVz hol nl hBk2 hRO
            go_wp2_with (at_builtin; go_loud (rw [← hW2'.out]; refine wpList_append_cellsB _ rfl (.tmp 32) (.tmp 35) 24 rfl V 23 i0 z0 6 72 Tryz.underlying24 hi hz0 hz1 hz2 hz6 (by decide) _ 0 [] hro.out hBx'.out W2.heap.size ad (i - k) (co - k) (alcells (O.drop k)) hdl.out hsd2.out (hone.out _) rfl rfl (by simp [maxLen]; omega) (by omega) ?_); intro v3 w3 own3 b3; simp only [List.nil_append, Nat.zero_add] at own3)
            obtain ⟨a3, c3, rfl, -, -, s3⟩ := seesC_own own3
            have hsz : SeesC w3.drew.heap.size w3.drew a3 (alcells (O.drop k)) := s3
            have hall : Below V.heap.size V w3.drew := b3.drew
            have h0 : ∀ W, Below V.heap.size V W → W.cell? ⟨b, off + i * 6, none⟩ = some (.int .i64 sk) := fun W hW => hs'.out.1 W (hBV'.out.trans (hW.mono hBV'.out.size))
            have h1 : ∀ W, Below V.heap.size V W → W.cell? ⟨b, off + i * 6 + 1, none⟩ = some (.int .i64 ssv) := fun W hW => hs'.out.2.1 W (hBV'.out.trans (hW.mono hBV'.out.size))
            have h2 : ∀ W, Below V.heap.size V W → W.cell? ⟨b, off + i * 6 + 2, none⟩ = some (.string sf) := fun W hW => hs'.out.2.2.1 W (hBV'.out.trans (hW.mono hBV'.out.size))
            have h3 : ∀ W, Below V.heap.size V W → W.cell? ⟨b, off + i * 6 + 3, none⟩ = some (.string sfi) := fun W hW => hs'.out.2.2.2.1 W (hBV'.out.trans (hW.mono hBV'.out.size))
            have h4 : ∀ W, Below V.heap.size V W → W.cell? ⟨b, off + i * 6 + 4, none⟩ = some (.int .i64 sl) := fun W hW => hs'.out.2.2.2.2.1 W (hBV'.out.trans (hW.mono hBV'.out.size))
            have h5 : ∀ W, Below V.heap.size V W → W.cell? ⟨b, off + i * 6 + 5, none⟩ = some (.string sx) := fun W hW => hs'.out.2.2.2.2.2 W (hBV'.out.trans (hW.mono hBV'.out.size))
            clear own3 s3 hro hsd2
            refine wp_drawn_on (fun W => Below V.heap.size V W) (by kernel_rfl) (b3.drew) (fun hHeld => ?_)
            generalize w3.drew = W4 at hsz hall hHeld ⊢
            refine wpAnyH_take (i := 0) (oi := { dst := some 37, op := Go.Op.move (Go.Operand.tmp 3), type := 24, pos := "ref.go:72", after := #[], guard := none }) (v := ?v54) rfl (by kernel_rfl) (by kernel_rfl) (by kernel_rfl) (fun _ _ _ h => h) (Or.inl ⟨by kernel_rfl, ?h54⟩) (by assumption) ?r54
            case h54 => (intro w hSw; (try dsimp only at hSw); go_simp; try with_reducible rfl)
            try simp only [Act.put, List.setIfInBounds_toArray, List.set_cons_zero, List.set_cons_succ]
            refine wpAnyH_take (i := 1) (oi := { dst := some 38, op := Go.Op.move (Go.Operand.tmp 5), type := 3, pos := "ref.go:72", after := #[], guard := none }) (v := ?v55) rfl (by kernel_rfl) (by kernel_rfl) (by kernel_rfl) (fun _ _ _ h => h) (Or.inl ⟨by kernel_rfl, ?h55⟩) (by assumption) ?r55
            case h55 => (intro w hSw; (try dsimp only at hSw); go_simp; try with_reducible rfl)
            try simp only [Act.put, List.setIfInBounds_toArray, List.set_cons_zero, List.set_cons_succ]
            refine wpAnyH_take (i := 2) (oi := { dst := some 39, op := Go.Op.move (Go.Operand.tmp 5), type := 3, pos := "ref.go:72", after := #[], guard := none }) (v := ?v56) rfl (by kernel_rfl) (by kernel_rfl) (by kernel_rfl) (fun _ _ _ h => h) (Or.inl ⟨by kernel_rfl, ?h56⟩) (by assumption) ?r56
            case h56 => (intro w hSw; (try dsimp only at hSw); go_simp; try with_reducible rfl)
            try simp only [Act.put, List.setIfInBounds_toArray, List.set_cons_zero, List.set_cons_succ]
            refine wpAnyH_take (i := 3) (oi := { dst := some 40, op := Go.Op.slice 24 (Go.Operand.tmp 37) none (some (Go.Operand.tmp 38)) (some (Go.Operand.tmp 39)), type := 24, pos := "ref.go:72", after := #[{ on := 0, ground := Go.Ground.data }, { on := 1, ground := Go.Ground.data }, { on := 2, ground := Go.Ground.data }], guard := none }) (v := ?v57) rfl (by kernel_rfl) (by kernel_rfl) (by kernel_rfl) (fun _ _ _ h => h) (Or.inl ⟨by kernel_rfl, ?h57⟩) (by assumption) ?r57
            case h57 => (intro w hSw; (try dsimp only at hSw); go_simp; try with_reducible rfl)
            try simp only [Act.put, List.setIfInBounds_toArray, List.set_cons_zero, List.set_cons_succ]
            refine wpAnyH_take (i := 4) (oi := { dst := some 41, op := Go.Op.move (Go.Operand.tmp 0), type := 24, pos := "ref.go:72", after := #[], guard := none }) (v := ?v58) rfl (by kernel_rfl) (by kernel_rfl) (by kernel_rfl) (fun _ _ _ h => h) (Or.inl ⟨by kernel_rfl, ?h58⟩) (by assumption) ?r58
            case h58 => (intro w hSw; (try dsimp only at hSw); go_simp; try with_reducible rfl)
            try simp only [Act.put, List.setIfInBounds_toArray, List.set_cons_zero, List.set_cons_succ]
            refine wpAnyH_take (i := 5) (oi := { dst := some 42, op := Go.Op.move (Go.Operand.tmp 4), type := 3, pos := "ref.go:72", after := #[], guard := none }) (v := ?v59) rfl (by kernel_rfl) (by kernel_rfl) (by kernel_rfl) (fun _ _ _ h => h) (Or.inl ⟨by kernel_rfl, ?h59⟩) (by assumption) ?r59
            case h59 => (intro w hSw; (try dsimp only at hSw); go_simp; try with_reducible rfl)
            try simp only [Act.put, List.setIfInBounds_toArray, List.set_cons_zero, List.set_cons_succ]
            refine wpAnyH_take (i := 6) (oi := { dst := some 43, op := Go.Op.indexAddr 24 (Go.Operand.tmp 41) (Go.Operand.tmp 42), type := 0, pos := "ref.go:72", after := #[{ on := 4, ground := Go.Ground.data }, { on := 5, ground := Go.Ground.data }], guard := none }) (v := ?v60) rfl (by kernel_rfl) (by kernel_rfl) (by kernel_rfl) (fun _ _ _ h => h) (Or.inl ⟨by kernel_rfl, ?h60⟩) (by assumption) ?r60
            case h60 => (intro w hSw; (try dsimp only at hSw); go_simp; try with_reducible rfl)
            try simp only [Act.put, List.setIfInBounds_toArray, List.set_cons_zero, List.set_cons_succ]
            refine wpAnyH_take (i := 7) (oi := { dst := some 44, op := Go.Op.load 23 (Go.Operand.tmp 43), type := 23, pos := "ref.go:72", after := #[{ on := 6, ground := Go.Ground.data }], guard := none }) (v := ?v61) rfl (by kernel_rfl) (by kernel_rfl) (by kernel_rfl) (fun _ _ _ h => h) (Or.inl ⟨by kernel_rfl, ?h61⟩) (by assumption) ?r61
            case h61 => (intro w hSw; (try dsimp only at hSw); go_simp; try with_reducible rfl)
            try simp only [Act.put, List.setIfInBounds_toArray, List.set_cons_zero, List.set_cons_succ]
            refine wpAnyH_take (i := 10) (oi := { dst := some 47, op := Go.Op.move (Go.Operand.tmp 6), type := 24, pos := "ref.go:72", after := #[], guard := none }) (v := ?v62) rfl (by kernel_rfl) (by kernel_rfl) (by kernel_rfl) (fun _ _ _ h => h) (Or.inl ⟨by kernel_rfl, ?h62⟩) (by assumption) ?r62
            case h62 => (intro w hSw; (try dsimp only at hSw); go_simp; try with_reducible rfl)
            try simp only [Act.put, List.setIfInBounds_toArray, List.set_cons_zero, List.set_cons_succ]
            refine wpAnyH_ready (rs := [8]) (by kernel_rfl) (by simp) ?_
            refine AllReadyH.cons (o := { dst := some 45, op := Go.Op.buildSlice 24 1 #[(0, Go.Operand.tmp 44)], type := 24, pos := "ref.go:72", after := #[{ on := 7, ground := Go.Ground.data }], guard := none }) rfl (fun K hK => ?_) AllReadyH.nil
            go_simp
            have hx8 := hHeld.alloc hHeld.size (.cells #[.int .i64 sk, .int .i64 ssv, .string sf, .string sfi, .int .i64 sl, .string sx] 23)
            have s8 := seesC_lit (W4) 23 #[.int .i64 sk, .int .i64 ssv, .string sf, .string sfi, .int .i64 sl, .string sx]
            have s38 := (hsz.below (box_below (W4) #[.int .i64 sk, .int .i64 ssv, .string sf, .string sfi, .int .i64 sl, .string sx] 23)).mono (box_below (W4) #[.int .i64 sk, .int .i64 ssv, .string sf, .string sfi, .int .i64 sl, .string sx] 23).size
            go_simp
            generalize hw8 : (W4).alloc (.cells #[.int .i64 sk, .int .i64 ssv, .string sf, .string sfi, .int .i64 sl, .string sx] 23) = w8 at *
            generalize (W4).heap.size = g8 at *
            refine hK.out _ _ (hx8) (fun hHeld => ?_)
            clear hK K
            try simp only [Act.put, List.setIfInBounds_toArray, List.set_cons_zero, List.set_cons_succ]
            refine wpAnyH_ready (rs := [9]) (by kernel_rfl) (by simp) ?_
            refine AllReadyH.cons (o := { dst := some 46, op := Go.Op.call { callee := Go.Callee.builtin Go.Builtin.append, args := #[Go.Operand.tmp 40, Go.Operand.tmp 45], argTypes := #[24, 24] }, type := 24, pos := "ref.go:72", after := #[{ on := 3, ground := Go.Ground.data }, { on := 8, ground := Go.Ground.data }], guard := none }) rfl (fun K hK => ?_) AllReadyH.nil
            refine wp_append_full _ (.tmp 40) (.tmp 45) 24 rfl 23 i0 z0 6 72 Tryz.underlying24 hi hz0 hz1 hz2 hz6 (by decide) ae k k (alcells (O.take k)) rfl hne'.out htl.out w8.heap.size ((hsfV'.out.below hHeld).mono hHeld.size) ⟨g8, 0, none⟩ 1 1 [.int .i64 sk, .int .i64 ssv, .string sf, .string sfi, .int .i64 sl, .string sx] rfl (by simp) s8 (by intro u hu; simp at hu; rcases hu with rfl | rfl | rfl | rfl | rfl | rfl <;> rfl) (by omega) (by simp [maxLen]; omega) (by omega) ?_
            intro v9 w9 own9 grow9
            have bg9 : Below w8.heap.size w8 w9 := (Below.refl _ _).grown grow9 (Nat.le_refl _) (by intro k hk; cases hk)
            have hx9 := hHeld.trans (bg9.mono hHeld.size)
            have s39 := (s38.below bg9).mono bg9.size
            have own9' := own_from own9 (B := w.heap.size) (fun k hk => by have q1 := (own9.lt k hk).1; have q2 := hHeld.size; have q3 := hBV'.out.size; omega)
            refine hK.out _ _ (hx9) (fun hHeld => ?_)
            clear hK K
            try simp only [Act.put, List.setIfInBounds_toArray, List.set_cons_zero, List.set_cons_succ]
            refine wpAnyH_ready (rs := [11]) (by kernel_rfl) (by simp) ?_
            refine AllReadyH.cons (o := { dst := some 48, op := Go.Op.call { callee := Go.Callee.builtin Go.Builtin.append, args := #[Go.Operand.tmp 46, Go.Operand.tmp 47], argTypes := #[24, 24] }, type := 24, pos := "ref.go:72", after := #[{ on := 9, ground := Go.Ground.data }, { on := 10, ground := Go.Ground.data }, { on := 9, ground := Go.Ground.chain }], guard := none }) rfl (fun K hK => ?_) AllReadyH.nil
            refine wp_append_cellsB _ (.tmp 46) (.tmp 47) 24 rfl w.heap.size 23 i0 z0 6 72 Tryz.underlying24 hi hz0 hz1 hz2 hz6 (by decide) v9 (k + 1) _ own9' (by have q2 := hHeld.size; have q3 := hBV'.out.size; omega) _ a3 (i - k) c3 (alcells (O.drop k)) hdl.out s39 (hone.out _) rfl rfl (by simp [maxLen]; omega) (by omega) ?_
            intro v11 w11 own11 grow11
            have hx11 : Below V.heap.size V w11 := hHeld.grown grow11 hHeld.size (fun k hk => by have q1 := (own9.lt k hk).1; have q2 := hx8.size; omega)
            refine hK.out _ _ (hx11) (fun hHeld => ?_)
            clear hK K
            try simp only [Act.put, List.setIfInBounds_toArray, List.set_cons_zero, List.set_cons_succ]
            refine wpAnyH_take (i := 12) (oi := { dst := some 3, op := Go.Op.assign (Go.Operand.tmp 48), type := 24, pos := "ref.go:72", after := #[{ on := 11, ground := Go.Ground.data }, { on := 11, ground := Go.Ground.chain }, { on := 0, ground := Go.Ground.phase }, { on := 1, ground := Go.Ground.phase }, { on := 2, ground := Go.Ground.phase }, { on := 3, ground := Go.Ground.phase }, { on := 4, ground := Go.Ground.phase }, { on := 5, ground := Go.Ground.phase }, { on := 6, ground := Go.Ground.phase }, { on := 7, ground := Go.Ground.phase }, { on := 8, ground := Go.Ground.phase }, { on := 9, ground := Go.Ground.phase }, { on := 10, ground := Go.Ground.phase }, { on := 11, ground := Go.Ground.phase }], guard := none }) (v := ?v63) rfl (by kernel_rfl) (by kernel_rfl) (by kernel_rfl) (fun _ _ _ h => h) (Or.inl ⟨by kernel_rfl, ?h63⟩) (by assumption) ?r63
            case h63 => (intro w hSw; (try dsimp only at hSw); go_simp; try with_reducible rfl)
            try simp only [Act.put, List.setIfInBounds_toArray, List.set_cons_zero, List.set_cons_succ]
            refine wpAnyH_done (by kernel_rfl) ?_ _
            have hfin : Hid (w11.ownsRow w.heap.size 23 6 v11 (i + 1) (alcells O2) ∧ Below w.heap.size w w11) := Lib.hid ⟨by rw [hO3.out, hfin5.out k, show i + 1 = k + 1 + (i - k) by omega]; exact own11, hBV'.out.trans (hx11.mono hBV'.out.size)⟩
            clear own11 grow11 hx11 own9' own9 grow9 bg9 s39 s38 s8 hx8 hx9 hHeld h0 h1 h2 h3 h4 h5
            go_wp2
            go_roundw
            case rel => exact ⟨i + 1, by omega, by go_num, Lib.hid (by rw [hOe.out]; exact hfin.out.1), Lib.hid hfin.out.2⟩
            case measure => simp [intOf]; omega
    · have hii : ¬ (i : Int) < (n : Int) := by omega
      have hfin : Hid (AlGives w (sortC cmpA l) (.returned u3) g0) := Lib.hid (by
        have := hown.out
        rw [List.take_of_length_le (by have := hnl.out; omega)] at this
        have e : i = (sortC cmpA l).length := by rw [sortA_len]; have := hnl.out; omega
        rw [e] at this
        obtain ⟨a', c', rfl, hro⟩ := ro_own this
        exact ⟨a', c', rfl, hro, hB.out⟩)
      clear hown
      go_wp2
      go_ret
      exact hfin.out
end Go.Proofs.YtimgocfkogebmaaGreatDoor
namespace Go.Proofs.YtimgocfkogebmaaGreatDoor
open Go.RowKit Go.ChangeShapes Go.WideShapes Go.Deep
set_option linter.unusedVariables false
theorem open_agg6 {H : Type} {enc : TypeId × Value → H} {P : Program} {w : World} {base : Nat} {spare : Nat → Bool} {held : Bool} {r : Go.Reach} {b0 : Nat} {t : TypeId} {f0 f1 f2 f3 f4 f5 : Field} {v : Value} {d : DataW H} {p : List MemPlace} (hs : P.underlying t = some (.struct #[f0, f1, f2, f3, f4, f5])) (hone : oneCellFields P #[f0, f1, f2, f3, f4, f5] = true) (hC : P.cellsOf t = 6)
    (hv : Value.okWide P w r b0 t v) (h : DataW.Trod enc P w base spare held t v d p) :
    ∃ (v0 v1 v2 v3 v4 v5 : Value) (y0 y1 y2 y3 y4 y5 : DataW H × List MemPlace) (n : Nat), v = .agg #[v0, v1, v2, v3, v4, v5] ∧ d = .agg [y0.1, y1.1, y2.1, y3.1, y4.1, y5.1] ∧ p = y0.2 ++ (y1.2 ++ (y2.2 ++ (y3.2 ++ (y4.2 ++ y5.2)))) ∧
      DataW.trod enc P w base spare held n f0.type [v0] = some y0 ∧ DataW.trod enc P w base spare held n f1.type [v1] = some y1 ∧ DataW.trod enc P w base spare held n f2.type [v2] = some y2 ∧ DataW.trod enc P w base spare held n f3.type [v3] = some y3 ∧ DataW.trod enc P w base spare held n f4.type [v4] = some y4 ∧ DataW.trod enc P w base spare held n f5.type [v5] = some y5 := by
  obtain ⟨cs, rfl, hsz⟩ := okWide_struct hs hv
  obtain ⟨l⟩ := cs
  have hl5 : l.length = 6 := by simpa using hsz.trans hC
  match l, hl5 with
  | [c0, c1, c2, c3, c4, c5], _ =>
  obtain ⟨fuel, hf⟩ := h
  obtain ⟨xs, n, _, hx, hl, hlen, hf⟩ := DataW.trod_struct hs hf
  match xs, hlen with
  | [y0, y1, y2, y3, y4, y5], _ =>
  have h0 := hf 0 f0 rfl
  have h1 := hf 1 f1 rfl
  have h2 := hf 2 f2 rfl
  have h3 := hf 3 f3 rfl
  have h4 := hf 4 f4 rfl
  have h5 := hf 5 f5 rfl
  obtain ⟨o0, k0⟩ := hone_of hone 0 f0 rfl
  obtain ⟨o1, k1⟩ := hone_of hone 1 f1 rfl
  obtain ⟨o2, k2⟩ := hone_of hone 2 f2 rfl
  obtain ⟨o3, k3⟩ := hone_of hone 3 f3 rfl
  obtain ⟨o4, k4⟩ := hone_of hone 4 f4 rfl
  obtain ⟨o5, k5⟩ := hone_of hone 5 f5 rfl
  simp only [Prod.mk.injEq] at hx
  exact ⟨c0, c1, c2, c3, c4, c5, y0, y1, y2, y3, y4, y5, n, rfl, by simpa using hx.1, by simpa using hx.2, by simpa [Value.cells, o0, k0] using h0, by simpa [Value.cells, o1, k1] using h1, by simpa [Value.cells, o2, k2] using h2, by simpa [Value.cells, o3, k3] using h3, by simpa [Value.cells, o4, k4] using h4, by simpa [Value.cells, o5, k5] using h5⟩
end Go.Proofs.YtimgocfkogebmaaGreatDoor
