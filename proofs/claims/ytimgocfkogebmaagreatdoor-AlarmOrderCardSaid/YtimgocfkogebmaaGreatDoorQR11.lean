/-
  Words and walks under the law's proof.
-/
import Derived.Shelf.GgClosure.StringsIndexFuncTop
import Derived.Lib.RuneCount
import Derived.Test.YtimgocfkogebmaaGreatDoorQR06
import Derived.Test.YtimgocfkogebmaaGreatDoorQR07
import Derived.Test.YtimgocfkogebmaaGreatDoorQR08
import Derived.Test.YtimgocfkogebmaaGreatDoorQR10
namespace Go.Proofs.YtimgocfkogebmaaGreatDoor
open Go.RowKit
set_option linter.unusedVariables false
set_option linter.unusedSimpArgs false
def edgeL (L : List (Int × List Int)) (e : EdgeD) : List Int := (L.getD e.frm.toNat zd0).2
def alarmsA (D : PD) (L : List (Int × List Int)) (es : List EdgeD) : List AlD := (es.filter fun e => mayZ D.vars.length (edgeL L e) e).map fun e => alarmZ D (edgeL L e) e
theorem alarmsA_snoc (D : PD) (L : List (Int × List Int)) (es : List EdgeD) (e : EdgeD) : alarmsA D L (es ++ [e]) = alarmsA D L es ++ (if mayZ D.vars.length (edgeL L e) e = true then [alarmZ D (edgeL L e) e] else []) := by
  unfold alarmsA
  rw [List.filter_append, List.map_append]
  congr 1
  cases h : mayZ D.vars.length (edgeL L e) e <;> simp [h]
theorem alarmsA_len (D : PD) (L : List (Int × List Int)) (es : List EdgeD) : (alarmsA D L es).length ≤ es.length := by
  unfold alarmsA
  rw [List.length_map]
  exact List.length_filter_le _ _
theorem edge_facts {D : PD} {L : List (Int × List Int)} (h : chkZ D L = 0) {i : Nat} (hi : i < D.edges.length) :
    ∃ f : Nat, (D.edges.getD i edge0).frm = f ∧ f < D.spots.length ∧ f < L.length ∧ L.getD f zd0 = ((D.vars.length : Int), edgeL L (D.edges.getD i edge0)) ∧ IsZ D.vars.length (edgeL L (D.edges.getD i edge0)) ∧ rightB (D.edges.getD i edge0).k (D.edges.getD i edge0).x (D.edges.getD i edge0).y (D.edges.getD i edge0).c (D.edges.getD i edge0).d (D.vars.length : Int) = true := by
  unfold chkZ at h
  by_cases hp : progB D = true
  · rw [if_pos hp] at h
    by_cases hz : (decide (L.length = D.spots.length) && L.all (zoneB D.vars.length)) = true
    · rw [Bool.and_eq_true, decide_eq_true_eq] at hz
      unfold progB at hp
      simp only [Bool.and_eq_true] at hp
      obtain ⟨-, -, -, -, he⟩ := hp
      have he1 := List.all_eq_true.1 he (D.edges.getD i edge0) (by simp [List.getD, hi])
      unfold edgeB pointB at he1
      simp only [Bool.and_eq_true, decide_eq_true_eq] at he1
      obtain ⟨h1, -, h3⟩ := he1
      obtain ⟨h4, h5⟩ := h1
      have hf : (D.edges.getD i edge0).frm = ((D.edges.getD i edge0).frm.toNat : Int) := by omega
      have hfl : (D.edges.getD i edge0).frm.toNat < L.length := by omega
      have hz1 := List.all_eq_true.1 hz.2 (L.getD (D.edges.getD i edge0).frm.toNat zd0) (by rw [List.getD_eq_getElem?_getD, List.getElem?_eq_getElem hfl]; exact List.getElem_mem hfl)
      unfold zoneB at hz1
      rw [Bool.and_eq_true, decide_eq_true_eq] at hz1
      obtain ⟨k, hk, hk2⟩ := isZ_of hz1.2
      have hkn : k = D.vars.length := by omega
      subst hkn
      exact ⟨_, hf, by omega, hfl, Prod.ext hz1.1 rfl, hk2, h3⟩
    · rw [if_neg hz] at h
      cases h
  · rw [if_neg hp] at h
    cases h
set_option maxRecDepth 100000 in
set_option maxHeartbeats 4000000 in
theorem aedge_bad (p : PV) (D : PD) (a : Option Addr) (n cc : Nat) (L : List (Int × List Int)) (i : Int) (w : World) (h : PrA w p D) (hl : ZRow w a n cc L) (hb : chkZ D L ≠ 0 ∨ i < 0 ∨ (p.n3 : Int) ≤ i) :
    Calls Tryz.prog 20 #[.agg #[.string p.nm, .slice p.a1 p.n1 p.c1, .slice p.a2 p.n2 p.c2, .slice p.a3 p.n3 p.c3], .slice a n cc, .int .i64 i] w (OfE al0 false w) := by
  have q1 := Lib.hid (fun W hW hlW => amay_any p D a n cc L W hW hlW)
  have hm3 : (p.n3 : Int) ≤ 9223372036854775807 := by have := h.edges.max'; omega
  obtain ⟨W1, hW1⟩ : ∃ W1, W1 = (w.alloc (.cells #[.string p.nm, .slice p.a1 p.n1 p.c1, .slice p.a2 p.n2 p.c2, .slice p.a3 p.n3 p.c3] 38)).alloc (.cells #[.int .i64 0, .int .i64 0, .string ⟨#[]⟩, .string ⟨#[]⟩, .int .i64 0, .string ⟨#[]⟩] 23) := ⟨_, rfl⟩
  have HP : Holds W1 w.heap.size 38 #[.string p.nm, .slice p.a1 p.n1 p.c1, .slice p.a2 p.n2 p.c2, .slice p.a3 p.n3 p.c3] := by rw [hW1]; exact (Holds.new w _ _).alloc _
  have HA : Holds W1 (w.heap.size + 1) 23 #[.int .i64 0, .int .i64 0, .string ⟨#[]⟩, .string ⟨#[]⟩, .int .i64 0, .string ⟨#[]⟩] := by
    rw [hW1]
    have := Holds.new (w.alloc (.cells #[.string p.nm, .slice p.a1 p.n1 p.c1, .slice p.a2 p.n2 p.c2, .slice p.a3 p.n3 p.c3] 38)) 23 #[.int .i64 0, .int .i64 0, .string ⟨#[]⟩, .string ⟨#[]⟩, .int .i64 0, .string ⟨#[]⟩]
    simpa using this
  have BL := Lib.hid (show Below w.heap.size w W1 by rw [hW1]; exact (box_below w _ _).alloc (by simp) _)
  have P := Lib.hid (h.below BL.out)
  have Z := Lib.hid (hl.below BL.out)
  have hW1' := Lib.hid hW1
  clear hW1 h hl
  go_enter Tryz.func20, Tryz.ntmps20
  go_wp2_with fail
  rw [← hW1'.out]
  with_reducible refine (q1.out _ P.out Z.out).mono ?_
  rintro e w1 ⟨rfl, b1⟩
  have HP1 := HP.below b1 HP.lt
  have HA1 := HA.below b1 HA.lt
  replace BL := Lib.hid (BL.out.trans (b1.mono BL.out.size))
  have k3 := HP1.cell 3
  have a0 := HA1.cell 0
  have a1 := HA1.cell 1
  have a2 := HA1.cell 2
  have a3 := HA1.cell 3
  have a4 := HA1.cell 4
  have a5 := HA1.cell 5
  have f0 := HA1.free 0
  have f1 := HA1.free 1
  have f2 := HA1.free 2
  have f3 := HA1.free 3
  have f4 := HA1.free 4
  have f5 := HA1.free 5
  have hfin := Lib.hid (al_set HA1 (.int .i64 0) (.int .i64 0) (.string ⟨#[]⟩) (.string ⟨#[]⟩) (.int .i64 0) (.string ⟨#[]⟩))
  simp at k3 a0 a1 a2 a3 a4 a5
  clear b1 q1 P Z hW1' HP HA HP1 HA1
  generalize chkZ D L = E at *
  by_cases hE : E = 0
  · subst hE
    by_cases hi : i < 0
    · clear hb
      go_wp2
      exact al_ret2 hfin.out.1 ⟨rfl, BL.out.trans (below_of (hfin.out.2.mono BL.out.size) (by intro x hx; simp at hx; omega))⟩ _ _ 6 7 rfl rfl rfl rfl
    · have hi2 : (p.n3 : Int) ≤ i := by omega
      clear hb
      go_wp2
      exact al_ret2 hfin.out.1 ⟨rfl, BL.out.trans (below_of (hfin.out.2.mono BL.out.size) (by intro x hx; simp at hx; omega))⟩ _ _ 6 7 rfl rfl rfl rfl
  · have hEb : (E != 0) = true := by simpa using hE
    clear hb hE
    go_wp2
    exact al_ret2 hfin.out.1 ⟨rfl, BL.out.trans (below_of (hfin.out.2.mono BL.out.size) (by intro x hx; simp at hx; omega))⟩ _ _ 6 7 rfl rfl rfl rfl
def AsksOK (D : PD) (L : List (Int × List Int)) : Prop := ∀ i, i < D.edges.length → AskOK D.vars.length (edgeL L (D.edges.getD i edge0)) (D.edges.getD i edge0).k (D.edges.getD i edge0).x (D.edges.getD i edge0).y (D.edges.getD i edge0).c (D.edges.getD i edge0).d (mayZ D.vars.length (edgeL L (D.edges.getD i edge0)) (D.edges.getD i edge0)) (mustZ D.vars.length (edgeL L (D.edges.getD i edge0)) (D.edges.getD i edge0))
def edgeA (D : PD) (L : List (Int × List Int)) (e : EdgeD) : AlD := if mayZ D.vars.length (edgeL L e) e = true then alarmZ D (edgeL L e) e else al0
set_option maxRecDepth 100000 in
set_option maxHeartbeats 4000000 in
theorem aedge_ok (p : PV) (D : PD) (a : Option Addr) (n cc : Nat) (L : List (Int × List Int)) (i : Nat) (w : World) (h : PrA w p D) (hl : ZRow w a n cc L) (ht : Tab w) (hb : chkZ D L = 0) (hask : AsksOK D L) (hi : i < p.n3) :
    Calls Tryz.prog 20 #[.agg #[.string p.nm, .slice p.a1 p.n1 p.c1, .slice p.a2 p.n2 p.c2, .slice p.a3 p.n3 p.c3], .slice a n cc, .int .i64 i] w (OfE (edgeA D L (D.edges.getD i edge0)) (mayZ D.vars.length (edgeL L (D.edges.getD i edge0)) (D.edges.getD i edge0)) w) := by
  have q1 := Lib.hid (fun W hW hlW => amay_any p D a n cc L W hW hlW)
  have hm3 : (p.n3 : Int) ≤ 9223372036854775807 := by have := h.edges.max'; omega
  have hii : (i : Int) < (p.n3 : Int) := by omega
  obtain ⟨f, hf1, hf2, hf3, hf4, hf5, hf6⟩ := edge_facts hb (i := i) (by rw [← h.edges.len]; exact hi)
  obtain ⟨b, off, he', hbl, x0, x1, x2, x3, x4, x5, x6⟩ := edges_at h.edges hi
  have hEE : (⟨(f : Int), (D.edges.getD i edge0).dst, (D.edges.getD i edge0).k, (D.edges.getD i edge0).x, (D.edges.getD i edge0).y, (D.edges.getD i edge0).c, (D.edges.getD i edge0).d⟩ : EdgeD) = D.edges.getD i edge0 := by rw [← hf1]
  have q2 := Lib.hid (fun W hW hlW htW => aof_any p D a n cc L f (D.edges.getD i edge0).dst (D.edges.getD i edge0).k (D.edges.getD i edge0).x (D.edges.getD i edge0).y (D.edges.getD i edge0).c (D.edges.getD i edge0).d (edgeL L (D.edges.getD i edge0)) W hW hlW htW (by rw [hl.len]; exact hf3) (by rw [h.spots.len]; exact hf2) (by rw [h.vars.len]; exact hf4) (by rw [h.vars.len]; rw [hEE]; exact hask i (by rw [← h.edges.len]; exact hi)))
  rw [hf1] at x0
  have hE : (⟨(f : Int), (D.edges.getD i edge0).dst, (D.edges.getD i edge0).k, (D.edges.getD i edge0).x, (D.edges.getD i edge0).y, (D.edges.getD i edge0).c, (D.edges.getD i edge0).d⟩ : EdgeD) = D.edges.getD i edge0 := by rw [← hf1]
  rw [hE, h.vars.len] at q2
  have hA : Hid (edgeA D L (D.edges.getD i edge0) = if mayZ D.vars.length (edgeL L (D.edges.getD i edge0)) (D.edges.getD i edge0) = true then alarmZ D (edgeL L (D.edges.getD i edge0)) (D.edges.getD i edge0) else al0) := Lib.hid rfl
  rw [← hA.out] at q2
  clear hE hEE hask hf1 hf2 hf3 hf4 hf5 hf6 hA
  generalize edgeA D L (D.edges.getD i edge0) = AR at *
  generalize mayZ D.vars.length (edgeL L (D.edges.getD i edge0)) (D.edges.getD i edge0) = mb at *
  rw [← h.vars.len] at q2
  generalize D.edges.getD i edge0 = ed at *
  obtain ⟨efr, eds, ek, ex, ey, ec, edd⟩ := ed
  dsimp only at *
  obtain ⟨pnm, pa1, pn1, pc1, pa2, pn2, pc2, pa3, pn3, pc3⟩ := p
  dsimp only at *
  subst he'
  obtain ⟨W1, hW1⟩ : ∃ W1, W1 = (w.alloc (.cells #[.string pnm, .slice pa1 pn1 pc1, .slice pa2 pn2 pc2, .slice (some ⟨b, off, none⟩) pn3 pc3] 38)).alloc (.cells #[.int .i64 0, .int .i64 0, .string ⟨#[]⟩, .string ⟨#[]⟩, .int .i64 0, .string ⟨#[]⟩] 23) := ⟨_, rfl⟩
  have HP : Holds W1 w.heap.size 38 #[.string pnm, .slice pa1 pn1 pc1, .slice pa2 pn2 pc2, .slice (some ⟨b, off, none⟩) pn3 pc3] := by rw [hW1]; exact (Holds.new w _ _).alloc _
  have HA : Holds W1 (w.heap.size + 1) 23 #[.int .i64 0, .int .i64 0, .string ⟨#[]⟩, .string ⟨#[]⟩, .int .i64 0, .string ⟨#[]⟩] := by
    rw [hW1]
    have := Holds.new (w.alloc (.cells #[.string pnm, .slice pa1 pn1 pc1, .slice pa2 pn2 pc2, .slice (some ⟨b, off, none⟩) pn3 pc3] 38)) 23 #[.int .i64 0, .int .i64 0, .string ⟨#[]⟩, .string ⟨#[]⟩, .int .i64 0, .string ⟨#[]⟩]
    simpa using this
  have BL := Lib.hid (show Below w.heap.size w W1 by rw [hW1]; exact (box_below w _ _).alloc (by simp) _)
  have P0 := Lib.hid h
  have Z0 := Lib.hid hl
  have T0 := Lib.hid ht
  have P := Lib.hid (h.below BL.out)
  have Z := Lib.hid (hl.below BL.out)
  have hld := Lib.hid (fun j v (hv : w.cell? ⟨b, j, none⟩ = some v) W (hW : Below w.heap.size w W) => (hW.cell (p := ⟨b, j, none⟩) hbl).trans hv)
  have hW1' := Lib.hid hW1
  clear hW1 h hl ht
  go_enter Tryz.func20, Tryz.ntmps20
  go_wp2_with fail
  rw [← hW1'.out]
  with_reducible refine (q1.out _ P.out Z.out).mono ?_
  rintro e w1 ⟨rfl, b1⟩
  rw [hb]
  have HP1 := HP.below b1 HP.lt
  have HA1 := Lib.hid (HA.below b1 HA.lt)
  replace BL := Lib.hid (BL.out.trans (b1.mono BL.out.size))
  clear b1 q1 P Z hW1' HP HA hb
  have y0 := hld.out _ _ x0
  have y1 := hld.out _ _ x1
  have y2 := hld.out _ _ x2
  have y3 := hld.out _ _ x3
  have y4 := hld.out _ _ x4
  have y5 := hld.out _ _ x5
  have y6 := hld.out _ _ x6
  have k0 := HP1.cell 0
  have k1 := HP1.cell 1
  have k2 := HP1.cell 2
  have k3 := HP1.cell 3
  have HPl := HP1.lt
  simp at k0 k1 k2 k3
  have g0 : ∀ W, BelowE [w.heap.size + 1] w1.heap.size w1 W → W.cell? ⟨w.heap.size, 0, none⟩ = some (.string pnm) := fun W hW => (hW.cell (p := ⟨w.heap.size, 0, none⟩) HPl (by simp)).trans k0
  have g1 : ∀ W, BelowE [w.heap.size + 1] w1.heap.size w1 W → W.cell? ⟨w.heap.size, 1, none⟩ = some (.slice pa1 pn1 pc1) := fun W hW => (hW.cell (p := ⟨w.heap.size, 1, none⟩) HPl (by simp)).trans k1
  have g2 : ∀ W, BelowE [w.heap.size + 1] w1.heap.size w1 W → W.cell? ⟨w.heap.size, 2, none⟩ = some (.slice pa2 pn2 pc2) := fun W hW => (hW.cell (p := ⟨w.heap.size, 2, none⟩) HPl (by simp)).trans k2
  have g3 : ∀ W, BelowE [w.heap.size + 1] w1.heap.size w1 W → W.cell? ⟨w.heap.size, 3, none⟩ = some (.slice (some ⟨b, off, none⟩) pn3 pc3) := fun W hW => (hW.cell (p := ⟨w.heap.size, 3, none⟩) HPl (by simp)).trans k3
  have hbx : ∀ W, BelowE [w.heap.size + 1] w1.heap.size w1 W → Below w.heap.size w W := fun W hW => BL.out.trans (below_of (hW.mono BL.out.size) (by intro x hx; simp at hx; omega))
  have r0 : ∀ W, BelowE [w.heap.size + 1] w1.heap.size w1 W → W.cell? ⟨b, off + i * 7, none⟩ = some (.int .i64 f) := fun W hW => y0 W (hbx W hW)
  have r1 : ∀ W, BelowE [w.heap.size + 1] w1.heap.size w1 W → W.cell? ⟨b, off + i * 7 + 1, none⟩ = some (.int .i64 eds) := fun W hW => y1 W (hbx W hW)
  have r2 : ∀ W, BelowE [w.heap.size + 1] w1.heap.size w1 W → W.cell? ⟨b, off + i * 7 + 2, none⟩ = some (.int .i64 ek) := fun W hW => y2 W (hbx W hW)
  have r3 : ∀ W, BelowE [w.heap.size + 1] w1.heap.size w1 W → W.cell? ⟨b, off + i * 7 + 3, none⟩ = some (.int .i64 ex) := fun W hW => y3 W (hbx W hW)
  have r4 : ∀ W, BelowE [w.heap.size + 1] w1.heap.size w1 W → W.cell? ⟨b, off + i * 7 + 4, none⟩ = some (.int .i64 ey) := fun W hW => y4 W (hbx W hW)
  have r5 : ∀ W, BelowE [w.heap.size + 1] w1.heap.size w1 W → W.cell? ⟨b, off + i * 7 + 5, none⟩ = some (.int .i64 ec) := fun W hW => y5 W (hbx W hW)
  have r6 : ∀ W, BelowE [w.heap.size + 1] w1.heap.size w1 W → W.cell? ⟨b, off + i * 7 + 6, none⟩ = some (.int .i64 edd) := fun W hW => y6 W (hbx W hW)
  have hbx' := Lib.hid hbx
  clear y0 y1 y2 y3 y4 y5 y6 x0 x1 x2 x3 x4 x5 x6 hld HP1 hbx k0 k1 k2
  go_wp2
  refine wp_drawn_on (fun W => BelowE [w.heap.size + 1] w1.heap.size w1 W) (by kernel_rfl) ((BelowE.refl _ _ _).drew) (fun hHeld => ?_)
  refine wpAnyH_take (i := 0) (oi := { dst := some 24, op := Go.Op.load 38 (Go.Operand.tmp 3), type := 38, pos := "alarm.go:84", after := #[], guard := none }) (v := ?v1) rfl (by kernel_rfl) (by kernel_rfl) (by kernel_rfl) (fun _ _ _ h => h) (Or.inl ⟨by kernel_rfl, ?h1⟩) (by assumption) ?r1
  case h1 => (intro w hSw; (try dsimp only at hSw); go_simp; try with_reducible rfl)
  try simp only [Act.put, List.setIfInBounds_toArray, List.set_cons_zero, List.set_cons_succ]
  refine wpAnyH_take (i := 1) (oi := { dst := some 25, op := Go.Op.move (Go.Operand.tmp 1), type := 39, pos := "alarm.go:84", after := #[], guard := none }) (v := ?v2) rfl (by kernel_rfl) (by kernel_rfl) (by kernel_rfl) (fun _ _ _ h => h) (Or.inl ⟨by kernel_rfl, ?h2⟩) (by assumption) ?r2
  case h2 => (intro w hSw; (try dsimp only at hSw); go_simp; try with_reducible rfl)
  try simp only [Act.put, List.setIfInBounds_toArray, List.set_cons_zero, List.set_cons_succ]
  refine wpAnyH_take (i := 2) (oi := { dst := some 26, op := Go.Op.fieldAddr 38 (Go.Operand.tmp 3) 3, type := 0, pos := "alarm.go:84", after := #[], guard := none }) (v := ?v3) rfl (by kernel_rfl) (by kernel_rfl) (by kernel_rfl) (fun _ _ _ h => h) (Or.inl ⟨by kernel_rfl, ?h3⟩) (by assumption) ?r3
  case h3 => (intro w hSw; (try dsimp only at hSw); go_simp; try with_reducible rfl)
  try simp only [Act.put, List.setIfInBounds_toArray, List.set_cons_zero, List.set_cons_succ]
  refine wpAnyH_take (i := 3) (oi := { dst := some 27, op := Go.Op.load 36 (Go.Operand.tmp 26), type := 36, pos := "alarm.go:84", after := #[{ on := 2, ground := Go.Ground.data }], guard := none }) (v := ?v4) rfl (by kernel_rfl) (by kernel_rfl) (by kernel_rfl) (fun _ _ _ h => h) (Or.inl ⟨by kernel_rfl, ?h4⟩) (by assumption) ?r4
  case h4 => (intro w hSw; (try dsimp only at hSw); go_simp; try with_reducible rfl)
  try simp only [Act.put, List.setIfInBounds_toArray, List.set_cons_zero, List.set_cons_succ]
  refine wpAnyH_take (i := 4) (oi := { dst := some 28, op := Go.Op.move (Go.Operand.tmp 2), type := 3, pos := "alarm.go:84", after := #[], guard := none }) (v := ?v5) rfl (by kernel_rfl) (by kernel_rfl) (by kernel_rfl) (fun _ _ _ h => h) (Or.inl ⟨by kernel_rfl, ?h5⟩) (by assumption) ?r5
  case h5 => (intro w hSw; (try dsimp only at hSw); go_simp; try with_reducible rfl)
  try simp only [Act.put, List.setIfInBounds_toArray, List.set_cons_zero, List.set_cons_succ]
  refine wpAnyH_take (i := 5) (oi := { dst := some 29, op := Go.Op.indexAddr 36 (Go.Operand.tmp 27) (Go.Operand.tmp 28), type := 0, pos := "alarm.go:84", after := #[{ on := 3, ground := Go.Ground.data }, { on := 4, ground := Go.Ground.data }], guard := none }) (v := ?v6) rfl (by kernel_rfl) (by kernel_rfl) (by kernel_rfl) (fun _ _ _ h => h) (Or.inl ⟨by kernel_rfl, ?h6⟩) (by assumption) ?r6
  case h6 => (intro w hSw; (try dsimp only at hSw); go_simp; try with_reducible rfl)
  try simp only [Act.put, List.setIfInBounds_toArray, List.set_cons_zero, List.set_cons_succ]
  refine wpAnyH_take (i := 6) (oi := { dst := some 30, op := Go.Op.load 75 (Go.Operand.tmp 29), type := 75, pos := "alarm.go:84", after := #[{ on := 5, ground := Go.Ground.data }], guard := none }) (v := ?v7) rfl (by kernel_rfl) (by kernel_rfl) (by kernel_rfl) (fun _ _ _ h => h) (Or.inl ⟨by kernel_rfl, ?h7⟩) (by assumption) ?r7
  case h7 => (intro w hSw; (try dsimp only at hSw); go_simp; try with_reducible rfl)
  try simp only [Act.put, List.setIfInBounds_toArray, List.set_cons_zero, List.set_cons_succ]
  refine wpAnyH_ready (rs := [7]) (by kernel_rfl) (by simp) ?_
  refine AllReadyH.cons (o := { dst := some 31, op := Go.Op.call { callee := Go.Callee.value (Go.Operand.func 45), args := #[Go.Operand.tmp 24, Go.Operand.tmp 25, Go.Operand.tmp 30], argTypes := #[38, 39, 75] }, type := 44, pos := "alarm.go:84", after := #[{ on := 0, ground := Go.Ground.data }, { on := 1, ground := Go.Ground.data }, { on := 6, ground := Go.Ground.data }], guard := none }) rfl (fun K hK => ?_) AllReadyH.nil
  go_simp
  have hbb := hbx'.out _ hHeld
  with_reducible refine (q2.out _ (P0.out.below hbb) (Z0.out.below hbb) (T0.out.on hbb)).mono ?_
  rintro e w3 ⟨rfl, b3⟩
  have A3 := Holds.below (w := w1.drew) HA1.out b3 HA1.out.lt
  go_simp
  refine hK.out _ _ (hHeld.trans (BelowE.of (b3.mono hHeld.size))) (fun hHeld => ?_)
  clear hK K
  try simp only [Act.put, List.setIfInBounds_toArray, List.set_cons_zero, List.set_cons_succ]
  refine wpAnyH_take (i := 8) (oi := { dst := some 32, op := Go.Op.extract (Go.Operand.tmp 31) 0, type := 23, pos := "alarm.go:84", after := #[{ on := 7, ground := Go.Ground.data }], guard := none }) (v := ?v8) rfl (by kernel_rfl) (by kernel_rfl) (by kernel_rfl) (fun _ _ _ h => h) (Or.inl ⟨by kernel_rfl, ?h8⟩) (by assumption) ?r8
  case h8 => (intro w hSw; (try dsimp only at hSw); go_simp; try with_reducible rfl)
  try simp only [Act.put, List.setIfInBounds_toArray, List.set_cons_zero, List.set_cons_succ]
  refine wpAnyH_take (i := 9) (oi := { dst := some 33, op := Go.Op.extract (Go.Operand.tmp 31) 1, type := 4, pos := "alarm.go:84", after := #[{ on := 7, ground := Go.Ground.data }], guard := none }) (v := ?v9) rfl (by kernel_rfl) (by kernel_rfl) (by kernel_rfl) (fun _ _ _ h => h) (Or.inl ⟨by kernel_rfl, ?h9⟩) (by assumption) ?r9
  case h9 => (intro w hSw; (try dsimp only at hSw); go_simp; try with_reducible rfl)
  try simp only [Act.put, List.setIfInBounds_toArray, List.set_cons_zero, List.set_cons_succ]
  refine wpAnyH_ready (rs := [10]) (by kernel_rfl) (by simp) ?_
  refine AllReadyH.cons (o := { dst := none, op := Go.Op.store 23 (Go.Operand.tmp 6) (Go.Operand.tmp 32), type := 0, pos := "alarm.go:84", after := #[{ on := 8, ground := Go.Ground.data }, { on := 7, ground := Go.Ground.chain }, { on := 0, ground := Go.Ground.phase }, { on := 1, ground := Go.Ground.phase }, { on := 2, ground := Go.Ground.phase }, { on := 3, ground := Go.Ground.phase }, { on := 4, ground := Go.Ground.phase }, { on := 5, ground := Go.Ground.phase }, { on := 6, ground := Go.Ground.phase }, { on := 7, ground := Go.Ground.phase }, { on := 8, ground := Go.Ground.phase }, { on := 9, ground := Go.Ground.phase }], guard := none }) rfl (fun K hK => ?_) AllReadyH.nil
  go_simp
  have hfin := al_set A3 (.int .i64 AR.kind) (.int .i64 AR.sev) (.string AR.fn) (.string AR.file) (.int .i64 AR.line) (.string AR.expr)
  have a0 := A3.cell 0
  have a1 := A3.cell 1
  have a2 := A3.cell 2
  have a3 := A3.cell 3
  have a4 := A3.cell 4
  have a5 := A3.cell 5
  have f0 := A3.free 0
  have f1 := A3.free 1
  have f2 := A3.free 2
  have f3 := A3.free 3
  have f4 := A3.free 4
  have f5 := A3.free 5
  simp at a0 a1 a2 a3 a4 a5
  go_simp
  generalize ((((((w3.setCell ⟨w.heap.size + 1, 0, none⟩ (.int .i64 AR.kind)).setCell ⟨w.heap.size + 1, 1, none⟩ (.int .i64 AR.sev)).setCell ⟨w.heap.size + 1, 2, none⟩ (.string AR.fn)).setCell ⟨w.heap.size + 1, 3, none⟩ (.string AR.file)).setCell ⟨w.heap.size + 1, 4, none⟩ (.int .i64 AR.line)).setCell ⟨w.heap.size + 1, 5, none⟩ (.string AR.expr)) = w7 at hfin ⊢
  refine hK.out _ _ (hHeld.trans (hfin.2.mono hHeld.size)) (fun hHeld => ?_)
  clear hK K
  try simp only [Act.put, List.setIfInBounds_toArray, List.set_cons_zero, List.set_cons_succ]
  refine wpAnyH_take (i := 11) (oi := { dst := some 7, op := Go.Op.assign (Go.Operand.tmp 33), type := 4, pos := "alarm.go:84", after := #[{ on := 9, ground := Go.Ground.data }, { on := 10, ground := Go.Ground.chain }, { on := 0, ground := Go.Ground.phase }, { on := 1, ground := Go.Ground.phase }, { on := 2, ground := Go.Ground.phase }, { on := 3, ground := Go.Ground.phase }, { on := 4, ground := Go.Ground.phase }, { on := 5, ground := Go.Ground.phase }, { on := 6, ground := Go.Ground.phase }, { on := 7, ground := Go.Ground.phase }, { on := 8, ground := Go.Ground.phase }, { on := 9, ground := Go.Ground.phase }, { on := 10, ground := Go.Ground.phase }], guard := none }) (v := ?v10) rfl (by kernel_rfl) (by kernel_rfl) (by kernel_rfl) (fun _ _ _ h => h) (Or.inl ⟨by kernel_rfl, ?h10⟩) (by assumption) ?r10
  case h10 => (intro w hSw; (try dsimp only at hSw); go_simp; try with_reducible rfl)
  try simp only [Act.put, List.setIfInBounds_toArray, List.set_cons_zero, List.set_cons_succ]
  refine wpAnyH_done (by kernel_rfl) ?_ _
  have hB7 := hbx'.out _ hHeld
  go_wp2
  exact al_ret2 hfin.1 ⟨rfl, hB7⟩ _ _ 6 7 rfl rfl rfl rfl
def AlsE (l : List AlD) (E : Int) (w : World) (e : Ending) (w' : World) : Prop := ∃ a c, e = .returned (.tuple #[.slice a l.length c, .int .i64 E]) ∧ RO alC w' a l.length c l ∧ Below w.heap.size w w'
set_option maxRecDepth 100000 in
set_option maxHeartbeats 4000000 in
theorem aofs_bad (p : PV) (D : PD) (a : Option Addr) (n cc : Nat) (L : List (Int × List Int)) (w : World) (h : PrA w p D) (hl : ZRow w a n cc L) (hb : chkZ D L ≠ 0) :
    Calls Tryz.prog 19 #[.agg #[.string p.nm, .slice p.a1 p.n1 p.c1, .slice p.a2 p.n2 p.c2, .slice p.a3 p.n3 p.c3], .slice a n cc] w (AlsE [] (chkZ D L) w) := by
  have q1 := Lib.hid (fun W hW hlW => amay_any p D a n cc L W hW hlW)
  obtain ⟨W1, hW1⟩ : ∃ W1, W1 = w.alloc (.cells #[.string p.nm, .slice p.a1 p.n1 p.c1, .slice p.a2 p.n2 p.c2, .slice p.a3 p.n3 p.c3] 38) := ⟨_, rfl⟩
  have BL := Lib.hid (show Below w.heap.size w W1 by rw [hW1]; exact box_below w _ _)
  have P := Lib.hid (h.below BL.out)
  have Z := Lib.hid (hl.below BL.out)
  have hW1' := Lib.hid hW1
  clear hW1 h hl
  generalize chkZ D L = E at *
  have hEb : (E != 0) = true := by simpa using hb
  clear hb
  go_enter Tryz.func19, Tryz.ntmps19
  go_wp2_with fail
  rw [← hW1'.out]
  with_reducible refine (q1.out _ P.out Z.out).mono ?_
  rintro e w1 ⟨rfl, b1⟩
  replace BL := Lib.hid (BL.out.trans (b1.mono BL.out.size))
  clear b1 q1 P Z hW1'
  go_wp2
  go_ret2
  exact ⟨none, 0, rfl, RO.nil _, BL.out⟩
set_option maxRecDepth 100000 in
set_option maxHeartbeats 8000000 in
theorem aofs_ok (p : PV) (D : PD) (a : Option Addr) (n cc : Nat) (L : List (Int × List Int)) (w : World) (h : PrA w p D) (hl : ZRow w a n cc L) (ht : Tab w) (hb : chkZ D L = 0) (hask : AsksOK D L) (h3 : p.n3 ≤ 256) :
    Calls Tryz.prog 19 #[.agg #[.string p.nm, .slice p.a1 p.n1 p.c1, .slice p.a2 p.n2 p.c2, .slice p.a3 p.n3 p.c3], .slice a n cc] w (AlsE (sortC cmpA (alarmsA D L D.edges)) 0 w) := by
  have q1 := Lib.hid (fun W hW hlW => amay_any p D a n cc L W hW hlW)
  have hm3 : (p.n3 : Int) ≤ 256 := by omega
  have hel := h.edges.len
  have hfs : Hid (∀ i, i < p.n3 → ∃ f : Nat, (D.edges.getD i edge0).frm = f ∧ f < n ∧ f < p.n2 ∧ L.getD f zd0 = ((p.n1 : Int), edgeL L (D.edges.getD i edge0)) ∧ AskOK p.n1 (edgeL L (D.edges.getD i edge0)) (D.edges.getD i edge0).k (D.edges.getD i edge0).x (D.edges.getD i edge0).y (D.edges.getD i edge0).c (D.edges.getD i edge0).d (mayZ p.n1 (edgeL L (D.edges.getD i edge0)) (D.edges.getD i edge0)) (mustZ p.n1 (edgeL L (D.edges.getD i edge0)) (D.edges.getD i edge0))) := Lib.hid (fun i hi => by
    obtain ⟨f, e1, e2, e3, e4, e5, e6⟩ := edge_facts hb (i := i) (by omega)
    exact ⟨f, e1, by rw [hl.len]; exact e3, by rw [h.spots.len]; exact e2, by rw [h.vars.len]; exact e4, by rw [h.vars.len]; exact hask i (by omega)⟩)
  have hsn : Hid (∀ i, i < p.n3 → alarmsA D L (D.edges.take (i + 1)) = alarmsA D L (D.edges.take i) ++ (if mayZ p.n1 (edgeL L (D.edges.getD i edge0)) (D.edges.getD i edge0) = true then [alarmZ D (edgeL L (D.edges.getD i edge0)) (D.edges.getD i edge0)] else [])) := Lib.hid (fun i hi => by
    have e : D.edges.take (i + 1) = D.edges.take i ++ [D.edges.getD i edge0] := by rw [List.take_add_one]; simp [List.getD, show i < D.edges.length by omega]
    rw [e, alarmsA_snoc, h.vars.len])
  have hle : Hid (∀ i, i ≤ p.n3 → (alarmsA D L (D.edges.take i)).length ≤ i) := Lib.hid (fun i hi => Nat.le_trans (alarmsA_len D L _) (by rw [List.length_take]; omega))
  have hend : Hid (alarmsA D L (D.edges.take p.n3) = alarmsA D L D.edges) := Lib.hid (by rw [List.take_of_length_le (by omega)])
  have q2 := Lib.hid (fun f ds k x y c d l W hW hlW htW g1 g2 g3 g4 => aof_any p D a n cc L f ds k x y c d l W hW hlW htW g1 g2 g3 g4)
  have q3 := Lib.hid (fun a n c l W hW hn => asort_any a n c l W hW hn)
  have P0 := Lib.hid h
  have Z0 := Lib.hid hl
  have T0 := Lib.hid ht
  have E0 := Lib.hid h.edges
  obtain ⟨pnm, pa1, pn1, pc1, pa2, pn2, pc2, pa3, pn3, pc3⟩ := p
  dsimp only at *
  obtain ⟨W1, hW1⟩ : ∃ W1, W1 = w.alloc (.cells #[.string pnm, .slice pa1 pn1 pc1, .slice pa2 pn2 pc2, .slice pa3 pn3 pc3] 38) := ⟨_, rfl⟩
  have HP : Holds W1 w.heap.size 38 #[.string pnm, .slice pa1 pn1 pc1, .slice pa2 pn2 pc2, .slice pa3 pn3 pc3] := by rw [hW1]; exact Holds.new w _ _
  have BL := Lib.hid (show Below w.heap.size w W1 by rw [hW1]; exact box_below w _ _)
  have P := Lib.hid (h.below BL.out)
  have Z := Lib.hid (hl.below BL.out)
  have hW1' := Lib.hid hW1
  clear hW1 h hl ht hel hask
  go_enter Tryz.func19, Tryz.ntmps19
  go_wp2_with fail
  rw [← hW1'.out]
  with_reducible refine (q1.out _ P.out Z.out).mono ?_
  rintro e w1 ⟨rfl, b1⟩
  rw [hb]
  have HP1 := Lib.hid (HP.below b1 HP.lt)
  replace BL := Lib.hid (BL.out.trans (b1.mono BL.out.size))
  clear b1 q1 P Z hW1' HP hb
  have k3 := HP1.out.cell 3
  simp at k3
  go_wp2
  go_loopw [7, 21] (fun v x wr => ∃ i : Nat, i ≤ pn3 ∧ x = .int .i64 i ∧ Hid (wr.ownsRow w1.heap.size 23 6 v (alarmsA D L (D.edges.take i)).length (alcells (alarmsA D L (D.edges.take i)))) ∧ Hid (Below w1.heap.size w1 wr)) (fun _ x _ => pn3 - (intOf x).toNat)
  case atStart => exact ⟨0, Nat.zero_le _, rfl, Lib.hid (own_al_nil w1 _), Lib.hid (Below.refl _ _)⟩
  case round =>
    obtain ⟨i, hin, rfl, hown, hB⟩ := hrel
    generalize wr = g0 at *
    by_cases hlt : i < pn3
    · have hii : (i : Int) < (pn3 : Int) := by omega
      obtain ⟨f, hf1, hf2, hf3, hf4, hf5⟩ := hfs.out i hlt
      have hs1 := hsn.out i hlt
      have hl1 := hle.out i hin
      have BLg := BL.out.trans (hB.out.mono BL.out.size)
      obtain ⟨b, off, rfl, hbl, x0, x1, x2, x3, x4, x5, x6⟩ := edges_at (E0.out.below BLg) hlt
      rw [hf1] at x0
      have hE : (⟨(f : Int), (D.edges.getD i edge0).dst, (D.edges.getD i edge0).k, (D.edges.getD i edge0).x, (D.edges.getD i edge0).y, (D.edges.getD i edge0).c, (D.edges.getD i edge0).d⟩ : EdgeD) = D.edges.getD i edge0 := by rw [← hf1]
      have q4 := Lib.hid (fun W hW hlW htW => q2.out f (D.edges.getD i edge0).dst (D.edges.getD i edge0).k (D.edges.getD i edge0).x (D.edges.getD i edge0).y (D.edges.getD i edge0).c (D.edges.getD i edge0).d (edgeL L (D.edges.getD i edge0)) W hW hlW htW hf2 hf3 hf4 (by rw [hE]; exact hf5))
      rw [hE] at q4
      obtain ⟨AN, hAN⟩ : ∃ AN, AN = alarmsA D L (D.edges.take (i + 1)) := ⟨_, rfl⟩
      rw [← hAN] at hs1
      replace hAN := Lib.hid hAN
      generalize alarmsA D L (D.edges.take i) = AO at *
      generalize mayZ pn1 (edgeL L (D.edges.getD i edge0)) (D.edges.getD i edge0) = mb at *
      generalize alarmZ D (edgeL L (D.edges.getD i edge0)) (D.edges.getD i edge0) = AZ at *
      generalize D.edges.getD i edge0 = ed at *
      obtain ⟨efr, eds, ek, ex, ey, ec, edd⟩ := ed
      dsimp only at *
      clear hf1 hf2 hf3 hf4 hf5 hE
      have HPg := HP1.out.below hB.out HP1.out.lt
      obtain ⟨G1, hG1⟩ : ∃ G1, G1 = g0.alloc (.cells #[.int .i64 f, .int .i64 eds, .int .i64 ek, .int .i64 ex, .int .i64 ey, .int .i64 ec, .int .i64 edd] 75) := ⟨_, rfl⟩
      have bG : Below g0.heap.size g0 (g0.alloc (.cells #[.int .i64 f, .int .i64 eds, .int .i64 ek, .int .i64 ex, .int .i64 ey, .int .i64 ec, .int .i64 edd] 75)) := box_below _ _ _
      have hpl := HP1.out.lt
      have p0 := (HPg.below bG HPg.lt).cell 0
      have p1 := (HPg.below bG HPg.lt).cell 1
      have p2 := (HPg.below bG HPg.lt).cell 2
      have p3 := (HPg.below bG HPg.lt).cell 3
      simp at p0 p1 p2 p3
      rw [← hG1] at bG
      have BG := Lib.hid (BLg.trans (bG.mono BLg.size))
      have qq := Lib.hid (q4.out G1 (P0.out.below BG.out) (Z0.out.below BG.out) (T0.out.on BG.out))
      have own1 := Lib.hid (own_below hown.out bG)
      have B1 := Lib.hid (hB.out.trans (bG.mono hB.out.size))
      have hG1' := Lib.hid hG1
      clear hG1 bG HPg BLg q4 hown
      have hs1' := Lib.hid hs1
      have hl1' := Lib.hid hl1
      clear hs1 hl1 k3
      go_wp2_with fail
      rw [← hG1'.out]
      with_reducible refine qq.out.mono ?_
      rintro e g2 ⟨rfl, b2⟩
      have own2 := Lib.hid (own_below own1.out b2)
      have B2 := Lib.hid (B1.out.trans (b2.mono B1.out.size))
      clear own1 B1 b2 hG1' qq p0 p1 p2 p3 x0 x1 x2 x3 x4 x5 x6 BG
      cases mb
      · have hr : AN = AO := by rw [hs1'.out]; simp
        clear hs1'
        subst hr
        have B3 := Lib.hid (B2.out.trans ((box_below g2 #[.int .i64 al0.kind, .int .i64 al0.sev, .string al0.fn, .string al0.file, .int .i64 al0.line, .string al0.expr] 23).mono B2.out.size))
        have own3 := Lib.hid (own_below own2.out (box_below g2 #[.int .i64 al0.kind, .int .i64 al0.sev, .string al0.fn, .string al0.file, .int .i64 al0.line, .string al0.expr] 23))
        clear own2 B2
        generalize al0 = Z0a at *
        go_wp2
        go_roundw
        case rel => exact ⟨i + 1, by omega, by go_num, by rw [← hAN.out]; exact own3, B3⟩
        case measure => simp [intOf]; omega
      · have hr : AN = AO ++ [AZ] := by rw [hs1'.out]; simp
        clear hs1'
        have B3 := Lib.hid (B2.out.trans ((box_below g2 #[.int .i64 AZ.kind, .int .i64 AZ.sev, .string AZ.fn, .string AZ.file, .int .i64 AZ.line, .string AZ.expr] 23).mono B2.out.size))
        have own3 := Lib.hid (own_below own2.out (box_below g2 #[.int .i64 AZ.kind, .int .i64 AZ.sev, .string AZ.fn, .string AZ.file, .int .i64 AZ.line, .string AZ.expr] 23))
        have hn5 : AO.length ≤ 1000000 := by have := hl1'.out; omega
        clear own2 B2
        go_wp2_with (at_builtin; refine wpList_append_al _ rfl (.tmp 33) (.tmp 35) rfl w1 _ AO.length AO own3.out B3.out AZ rfl _ rfl (by simp) hn5 ?_; intro v' w' own' b')
        have ownF := Lib.hid own'
        have BF := Lib.hid b'
        clear own' b' own3 B3
        go_wp2
        go_roundw
        case rel => exact ⟨i + 1, by omega, by go_num, by rw [← hAN.out, hr, List.length_append]; exact ownF, BF⟩
        case measure => simp [intOf]; omega
    · have hii : ¬ (i : Int) < (pn3 : Int) := by omega
      have hi3 : i = pn3 := by omega
      have hlf := hle.out i hin
      have hown2 := hown.out
      rw [hi3, hend.out] at hown2
      rw [hi3, hend.out] at hlf
      obtain ⟨a', c', rfl, hro⟩ := ro_own hown2
      have qs := Lib.hid (q3.out a' _ c' _ g0 hro (by omega))
      have BLg := Lib.hid (BL.out.trans (hB.out.mono BL.out.size))
      clear hown hown2 hlf hi3 hro hsn hle hend
      generalize alarmsA D L D.edges = AE at *
      go_wp2_with fail
      with_reducible refine qs.out.mono ?_
      rintro e w5 ⟨a5, c5, rfl, hro5, b5⟩
      have hfin := Lib.hid (And.intro hro5 (BLg.out.trans (b5.mono BLg.out.size)))
      clear hro5 b5 qs
      go_wp2
      go_ret2
      exact ⟨a5, c5, rfl, hfin.out.1, hfin.out.2⟩
end Go.Proofs.YtimgocfkogebmaaGreatDoor
namespace Go.Proofs.YtimgocfkogebmaaGreatDoor
open Go.RowKit
set_option linter.unusedVariables false
theorem ask_5 (n X Y : Nat) (c : Int) (l : List Int) (hz : IsZ n l) (q1 : X ≤ n) (q2 : Y ≤ n) (hr : rightB 5 X Y c 0 n = true) (hc : -1099511627776 ≤ c ∧ c ≤ 1099511627776) :
    AskOK n l 5 X Y c 0 (!decide (faultL n l 5 X Y c = [])) (decide (postL n l 5 X Y c 0 = []) && !decide (faultL n l 5 X Y c = [])) := by
  intro W a m ca hs
  have hf : ∀ V, SL V a m ca l → Calls Tryz.prog 134 #[.agg #[.int .i64 n, .slice a m ca], .agg #[.int .i64 5, .int .i64 X, .int .i64 Y, .int .i64 c, .int .i64 0]] V (ZoneE n (faultL n l 5 X Y c) 0 V) := fun V hV => by
    refine Fault_of n 5 X Y c 0 n 0 _ a m ca V fun W hW => ?_
    exact do_faults_5 n X Y c 0 l _ hz hr a m ca (fun W hs => beyond_any n l hz 5 X Y c 0 X Y rfl rfl q1 q2 hc a m ca W hs) W (hV.below hW)
  have hp : ∀ V, SL V a m ca l → Calls Tryz.prog 100 #[.agg #[.int .i64 n, .slice a m ca], .agg #[.int .i64 5, .int .i64 X, .int .i64 Y, .int .i64 c, .int .i64 0]] V (ZoneE n (postL n l 5 X Y c 0) 0 V) := fun V hV => by
    refine Post_of n 5 X Y c 0 n 0 _ a m ca V fun W hW => ?_
    exact do_steps_5 n X Y c 0 l _ hz hr a m ca (fun W hs => plimit_any n l hz 5 X Y c 0 X Y rfl rfl q1 q2 a m ca W hs) W (hV.below hW)
  have hm := fun V (hV : SL V a m ca l) => may_of n 5 X Y c 0 _ (faultL_isz hz 5 X Y c) a m ca V (fun V2 h2 => hf V2 (hV.below h2))
  exact ⟨hm W hs, must_of n 5 X Y c 0 _ (postL_isz hz 5 X Y c 0) _ a m ca W (fun V hV => hp V (hs.below hV)) (fun V hV => hm V (hs.below hV))⟩
end Go.Proofs.YtimgocfkogebmaaGreatDoor
namespace Go.Proofs.YtimgocfkogebmaaGreatDoor
set_option linter.unusedVariables false
def exprB (s : ByteArray) : Bool := decide (1 ≤ s.size) && (decide (s.size ≤ 128) && (byt s).all fun c => decide (32 ≤ c.toNat) && decide (c.toNat ≤ 126))
def alB (a : AlD) : Bool := (decide (1 ≤ a.kind) && (decide (a.kind ≤ 3) && (decide (1 ≤ a.sev) && decide (a.sev ≤ 2)))) && (nameB a.fn && (fileB a.file && (decide (1 ≤ a.line) && decide (a.line ≤ 1048576))) && exprB a.expr)
def chkA (a : AlD) : Int := if alB a = true then 0 else 170
def placeD (a : AlD) : PD := ⟨a.fn, [], [⟨a.fn, a.file, a.line⟩], []⟩
theorem place_is (a : AlD) : progB (placeD a) = (nameB a.fn && (fileB a.file && (decide (1 ≤ a.line) && decide (a.line ≤ 1048576)))) := by
  unfold progB placeD
  simp only [List.length_cons, List.length_nil, List.all_cons, List.all_nil, Bool.and_true]
  have hv : varsB [] = true := by unfold varsB; simp
  rw [hv]
  unfold spotB
  cases nameB a.fn <;> simp
end Go.Proofs.YtimgocfkogebmaaGreatDoor
namespace Go.Proofs.YtimgocfkogebmaaGreatDoor
open Go.RowKit
set_option linter.unusedVariables false
set_option linter.unusedSimpArgs false
def oddN (r : Nat) : Bool := decide (r < 32) || decide (126 < r)
theorem dec_low (s : ByteArray) (i : Nat) (h : (s.get! i).toNat < 128) : Utf8.decode s i = ((s.get! i).toNat, 1) := by
  unfold Utf8.decode
  simp only [Nat.add_zero]
  rw [if_pos h]
theorem dec_high (s : ByteArray) (i : Nat) (h : ¬ (s.get! i).toNat < 128) : 128 ≤ (Utf8.decode s i).1 := by
  unfold Utf8.decode
  simp only [Nat.add_zero]
  rw [if_neg h]
  have e : Utf8.runeError = 65533 := rfl
  split
  · split
    · next hc => exact hc
    · rw [e]; omega
  · split
    · split
      · next hc => simp at hc; omega
      · rw [e]; omega
    · split
      · split
        · next hc => simp at hc; omega
        · rw [e]; omega
      · rw [e]; omega
theorem idx_odd (s : ByteArray) : ∀ (f pos : Nat), s.size ≤ f + pos → (0 ≤ Lib.idxFuncFrom oddN true s f pos ↔ ∃ j, pos ≤ j ∧ j < s.size ∧ oddN (s.get! j).toNat = true)
  | 0, pos, h => by
    unfold Lib.idxFuncFrom
    exact ⟨fun h => by omega, fun ⟨j, h1, h2, _⟩ => by omega⟩
  | f + 1, pos, h => by
    unfold Lib.idxFuncFrom
    by_cases hp : pos < s.size
    · rw [if_pos hp]
      by_cases hb : (s.get! pos).toNat < 128
      · rw [dec_low s pos hb]
        by_cases ho : oddN (s.get! pos).toNat = true
        · rw [if_pos ho]
          exact ⟨fun _ => ⟨pos, Nat.le_refl _, hp, ho⟩, fun _ => by omega⟩
        · rw [if_neg ho, idx_odd s f (pos + 1) (by omega)]
          constructor
          · rintro ⟨j, h1, h2, h3⟩; exact ⟨j, by omega, h2, h3⟩
          · rintro ⟨j, h1, h2, h3⟩
            refine ⟨j, ?_, h2, h3⟩
            rcases Nat.lt_or_ge pos j with h4 | h4
            · exact h4
            · have : j = pos := by omega
              subst this
              exact absurd h3 ho
      · have hd := dec_high s pos hb
        have ho : oddN (Utf8.decode s pos).1 = true := by simp [oddN]; omega
        rw [if_pos ho]
        exact ⟨fun _ => ⟨pos, Nat.le_refl _, hp, by simp [oddN]; omega⟩, fun _ => by omega⟩
    · rw [if_neg hp]
      exact ⟨fun h => by omega, fun ⟨j, h1, h2, _⟩ => by omega⟩
theorem idx_all (s : ByteArray) : decide (0 ≤ Lib.idxFunc oddN true s) = !((byt s).all fun c => decide (32 ≤ c.toNat) && decide (c.toNat ≤ 126)) := by
  have h := idx_odd s s.size 0 (by omega)
  have e : ∀ j, j < s.size → s.get! j = (byt s).getD j 0 := by
    clear h
    intro j hj
    unfold byt
    have h2 : j < s.data.size := hj
    obtain ⟨bs⟩ := s
    show bs[j]! = bs.toList.getD j 0
    rw [getElem!_pos bs j h2]
    simp [List.getD, h2]
  unfold Lib.idxFunc
  rw [Bool.eq_iff_iff, decide_eq_true_eq, h]
  simp only [Bool.not_eq_true', List.all_eq_false]
  constructor
  · rintro ⟨j, _, h2, h3⟩
    refine ⟨s.get! j, ?_, ?_⟩
    · rw [e j h2]
      have h4 : j < (byt s).length := h2
      simp [List.getD, h4]
    · unfold oddN at h3
      simp at h3 ⊢
      omega
  · rintro ⟨c, hc, h3⟩
    obtain ⟨j, hj, e2⟩ := List.getElem_of_mem hc
    refine ⟨j, Nat.zero_le _, hj, ?_⟩
    rw [e j hj]
    have e3 : (byt s).getD j 0 = c := by rw [← e2]; simp [List.getD, hj]
    rw [e3]
    unfold oddN
    simp at h3 ⊢
    omega
end Go.Proofs.YtimgocfkogebmaaGreatDoor
namespace Go.Proofs.YtimgocfkogebmaaGreatDoor
open Go.RowKit
set_option linter.unusedVariables false
set_option linter.unusedSimpArgs false
set_option maxRecDepth 100000 in
theorem aodd_any (x : Nat) (w : World) : Calls Tryz.prog 67 #[.int .i32 (x : Int)] w (SetTo (.bool (oddN x)) w) := by
  have hR : Hid (oddN x = (decide (x < 32) || decide (126 < x))) := Lib.hid rfl
  generalize oddN x = R at *
  by_cases h1 : x < 32
  · have h1i : (x : Int) < 32 := by omega
    have hF : Hid (R = true) := Lib.hid (by rw [hR.out, decide_eq_true h1]; rfl)
    clear hR
    go_enter Tryz.func67, Tryz.ntmps67
    go_wp2
    go_ret
    exact ⟨ret_bool hF.out.symm, rfl⟩
  have h1i : ¬ (x : Int) < 32 := by omega
  by_cases h2 : 126 < x
  · have h2i : (126 : Int) < (x : Int) := by omega
    have hF : Hid (R = true) := Lib.hid (by rw [hR.out, decide_eq_false h1, decide_eq_true h2]; rfl)
    clear hR
    go_enter Tryz.func67, Tryz.ntmps67
    go_wp2
    go_ret
    exact ⟨ret_bool hF.out.symm, rfl⟩
  have h2i : ¬ (126 : Int) < (x : Int) := by omega
  have hF : Hid (R = false) := Lib.hid (by rw [hR.out, decide_eq_false h1, decide_eq_false h2]; rfl)
  clear hR
  go_enter Tryz.func67, Tryz.ntmps67
  go_wp2
  go_ret
  exact ⟨ret_bool hF.out.symm, rfl⟩
theorem contains_expr (s : ByteArray) (w : World) : Calls Tryz.prog 68 #[.string s, .func (.func 67) #[] #[]] w (Gives (.bool (!((byt s).all fun c => decide (32 ≤ c.toNat) && decide (c.toNat ≤ 126)))) w) := by
  have h := Tryz.strings_ContainsFunc_grows 67 #[] (fun args w => by kernel_rfl) oddN s w (fun W x hx hb => (aodd_any x W).mono (fun e w' h => ⟨h.1, by rw [← h.2]; exact Below.refl _ _⟩))
  rw [idx_all s] at h
  exact h
theorem astr_empty (s : ByteArray) : s.toList.isEmpty = decide (s.size = 0) := by
  rw [ByteArray.toList_eq]
  have : s.size = s.data.toList.length := by rw [Array.length_toList]; rfl
  rw [this]
  cases s.data.toList <;> simp
set_option maxRecDepth 100000 in
theorem aexpr_any (s : ByteArray) (w : World) : Calls Tryz.prog 32 #[.string s] w (Gives (.bool (exprB s)) w) := by
  have hR : Hid (exprB s = (decide (1 ≤ s.size) && (decide (s.size ≤ 128) && (byt s).all fun c => decide (32 ≤ c.toNat) && decide (c.toNat ≤ 126)))) := Lib.hid rfl
  have q := Lib.hid (contains_expr s w)
  generalize ((byt s).all fun c => decide (32 ≤ c.toNat) && decide (c.toNat ≤ 126)) = b at *
  generalize exprB s = R at *
  by_cases h0 : s.size = 0
  · have hF : Hid (R = false) := Lib.hid (by rw [hR.out, decide_eq_false (by omega)]; rfl)
    have hs : s = ⟨#[]⟩ := by
      obtain ⟨⟨l⟩⟩ := s
      have h1 : l.length = 0 := h0
      rw [List.length_eq_zero_iff.1 h1]
    subst hs
    clear hR q
    go_enter Tryz.func32, Tryz.ntmps32
    go_wp2
    go_ret
    exact ⟨ret_bool hF.out.symm, Below.refl _ _⟩
  have hne3 : s.toList.isEmpty = false := by rw [astr_empty]; simpa using h0
  have hne4 : ¬ (s.toList = []) := by
    intro h
    rw [h] at hne3
    simp at hne3
  by_cases h2 : s.size ≤ 128
  · have h2i : (s.size : Int) ≤ 128 := by omega
    have hF : Hid (R = b) := Lib.hid (by rw [hR.out, decide_eq_true (by omega), decide_eq_true h2]; rfl)
    clear hR
    go_enter Tryz.func32, Tryz.ntmps32
    go_wp2_with fail
    refine q.out.mono ?_
    rintro e w1 ⟨rfl, hb1⟩
    go_wp2
    go_ret
    exact ⟨ret_bool (by rw [hF.out]; try (cases b <;> rfl)), hb1⟩
  have h2i : ¬ (s.size : Int) ≤ 128 := by omega
  have hF : Hid (R = false) := Lib.hid (by rw [hR.out, decide_eq_true (by omega), decide_eq_false h2]; rfl)
  clear hR q
  go_enter Tryz.func32, Tryz.ntmps32
  go_wp2
  go_ret
  exact ⟨ret_bool hF.out.symm, Below.refl _ _⟩
end Go.Proofs.YtimgocfkogebmaaGreatDoor
namespace Go.Proofs.YtimgocfkogebmaaGreatDoor
open Go.RowKit
set_option linter.unusedVariables false
set_option linter.unusedSimpArgs false
theorem stands_place (w : World) (a : AlD) (g : Nat) (hg : g = w.heap.size) : PrA (w.alloc (.cells #[.string a.fn, .string a.file, .int .i64 a.line] 80)) ⟨a.fn, none, 0, 0, some ⟨g, 0, none⟩, 1, 1, none, 0, 0⟩ (placeD a) := by
  subst hg
  refine ⟨rfl, ?_, ⟨rfl, Nat.le_refl _, by simp [maxLen], seesC_lit w 80 _⟩, RO.nil _⟩
  exact ⟨rfl, Nat.le_refl _, by simp [maxLen], .inl rfl⟩
set_option maxRecDepth 100000 in
theorem stands_any (a : AlD) (w : World) : Calls Tryz.prog 31 #[.agg #[.int .i64 a.kind, .int .i64 a.sev, .string a.fn, .string a.file, .int .i64 a.line, .string a.expr]] w (Gives (.bool (progB (placeD a))) w) := by
  have q := Lib.hid (fun W p (hW : PrA W p (placeD a)) => pcheck_any p (placeD a) W hW)
  have pl := Lib.hid (fun W g hg => stands_place W a g hg)
  have hC : Hid (chkP (placeD a) = if progB (placeD a) = true then 0 else 110) := Lib.hid rfl
  generalize chkP (placeD a) = R at *
  generalize progB (placeD a) = b at *
  go_enter Tryz.func31, Tryz.ntmps31
  go_wp2_with fail
  with_reducible refine (q.out _ ⟨a.fn, none, 0, 0, some ⟨w.heap.size + 1 + 1, 0, none⟩, 1, 1, none, 0, 0⟩ (pl.out _ _ (by simp))).mono ?_
  rintro e w1 ⟨rfl, b1⟩
  have B := Lib.hid ((((Below.refl w.heap.size w).alloc (Nat.le_refl _) _).alloc (by simp) _ |>.alloc (by simp; omega) _).trans (b1.mono (by simp; omega)))
  have hQ : Hid ((R = 0) = (b = true)) := Lib.hid (by rw [hC.out]; cases b <;> simp)
  clear b1 pl q
  cases b
  · have hF : Hid (R = 110) := Lib.hid (by rw [hC.out]; rfl)
    have hr : R = 110 := hF.out
    clear hC hQ
    subst hr
    go_wp2
    go_ret
    exact ⟨rfl, B.out⟩
  · have hr : R = 0 := by rw [hC.out]; rfl
    clear hC hQ
    subst hr
    go_wp2
    go_ret
    exact ⟨rfl, B.out⟩
set_option maxRecDepth 100000 in
set_option maxHeartbeats 2000000 in
theorem acheck_any (a : AlD) (w : World) : Calls Tryz.prog 9 #[.agg #[.int .i64 a.kind, .int .i64 a.sev, .string a.fn, .string a.file, .int .i64 a.line, .string a.expr]] w (Gives (.int .i64 (chkA a)) w) := by
  have hC : Hid (chkA a = if alB a = true then 0 else 170) := Lib.hid rfl
  have hB : Hid (alB a = ((decide (1 ≤ a.kind) && (decide (a.kind ≤ 3) && (decide (1 ≤ a.sev) && decide (a.sev ≤ 2)))) && (progB (placeD a) && exprB a.expr))) := Lib.hid (by
    rw [place_is]
    unfold alB
    simp only [Bool.and_assoc])
  have q1 := Lib.hid (fun W => stands_any a W)
  have q2 := Lib.hid (fun W => aexpr_any a.expr W)
  have b0 := Lib.hid (box_below w #[.int .i64 a.kind, .int .i64 a.sev, .string a.fn, .string a.file, .int .i64 a.line, .string a.expr] 23)
  generalize chkA a = R at *
  generalize alB a = Q at *
  generalize progB (placeD a) = b1 at *
  generalize exprB a.expr = b2 at *
  by_cases c1 : (1 : Int) ≤ a.kind
  rotate_left
  · have hr : R = 170 := by rw [hC.out, hB.out, decide_eq_false c1]; rfl
    clear hC hB q1 q2
    subst hr
    go_enter Tryz.func9, Tryz.ntmps9
    go_wp2
    go_ret
    exact ⟨rfl, b0.out⟩
  by_cases c2 : a.kind ≤ 3
  rotate_left
  · have hr : R = 170 := by rw [hC.out, hB.out, decide_eq_true c1, decide_eq_false c2]; rfl
    clear hC hB q1 q2
    subst hr
    go_enter Tryz.func9, Tryz.ntmps9
    go_wp2
    go_ret
    exact ⟨rfl, b0.out⟩
  by_cases c3 : 1 ≤ a.sev
  rotate_left
  · have hr : R = 170 := by rw [hC.out, hB.out, decide_eq_true c1, decide_eq_true c2, decide_eq_false c3]; rfl
    clear hC hB q1 q2
    subst hr
    go_enter Tryz.func9, Tryz.ntmps9
    go_wp2
    go_ret
    exact ⟨rfl, b0.out⟩
  by_cases c4 : a.sev ≤ 2
  rotate_left
  · have hr : R = 170 := by rw [hC.out, hB.out, decide_eq_true c1, decide_eq_true c2, decide_eq_true c3, decide_eq_false c4]; rfl
    clear hC hB q1 q2
    subst hr
    go_enter Tryz.func9, Tryz.ntmps9
    go_wp2
    go_ret
    exact ⟨rfl, b0.out⟩
  have hB2 : Hid (Q = (b1 && b2)) := Lib.hid (by rw [hB.out, decide_eq_true c1, decide_eq_true c2, decide_eq_true c3, decide_eq_true c4]; rfl)
  clear hB
  obtain ⟨W1, hW1⟩ : ∃ W1, W1 = w.alloc (.cells #[.int .i64 a.kind, .int .i64 a.sev, .string a.fn, .string a.file, .int .i64 a.line, .string a.expr] 23) := ⟨_, rfl⟩
  have Z : Hid (Holds W1 w.heap.size 23 #[.int .i64 a.kind, .int .i64 a.sev, .string a.fn, .string a.file, .int .i64 a.line, .string a.expr]) := Lib.hid (by rw [hW1]; exact Holds.new w _ _)
  rw [← hW1] at b0
  have hW1' := Lib.hid hW1
  clear hW1
  cases b1
  · have hr : R = 170 := by rw [hC.out, hB2.out]; rfl
    clear hC hB2 q2
    subst hr
    go_enter Tryz.func9, Tryz.ntmps9
    go_wp2_with fail
    rw [← hW1'.out]
    clear hW1'
    with_reducible refine (q1.out _).mono ?_
    rintro e w1 ⟨rfl, b1⟩
    replace b0 := Lib.hid (b0.out.trans (b1.mono b0.out.size))
    clear b1 q1 Z
    go_wp2
    go_ret
    exact ⟨rfl, b0.out⟩
  have hr : Hid (R = if b2 = true then 0 else 170) := Lib.hid (by rw [hC.out, hB2.out]; rfl)
  clear hC hB2
  go_enter Tryz.func9, Tryz.ntmps9
  go_wp2_with fail
  rw [← hW1'.out]
  clear hW1'
  with_reducible refine (q1.out _).mono ?_
  rintro e w1 ⟨rfl, b1⟩
  have x5 := (Z.out.below b1 Z.out.lt).cell 5
  simp at x5
  replace b0 := Lib.hid (b0.out.trans (b1.mono b0.out.size))
  clear b1 q1 Z
  go_wp2_with fail
  with_reducible refine (q2.out _).mono ?_
  rintro e w2 ⟨rfl, b2⟩
  replace b0 := Lib.hid (b0.out.trans (b2.mono b0.out.size))
  clear b2 q2 x5
  cases b2
  · have hr2 : R = 170 := by rw [hr.out]; rfl
    clear hr
    subst hr2
    go_wp2
    go_ret
    exact ⟨rfl, b0.out⟩
  · have hr2 : R = 0 := by rw [hr.out]; rfl
    clear hr
    subst hr2
    go_wp2
    go_ret
    exact ⟨rfl, b0.out⟩
end Go.Proofs.YtimgocfkogebmaaGreatDoor
namespace Go.Proofs.YtimgocfkogebmaaGreatDoor
open Go.RowKit
set_option linter.unusedVariables false
set_option linter.unusedSimpArgs false
theorem altl_iff (s t : ByteArray) : s.toList = t.toList ↔ s = t := by
  rw [ByteArray.toList_eq, ByteArray.toList_eq]
  exact ⟨fun h => ByteArray.ext (Array.toList_inj.1 h), fun h => by rw [h]⟩
theorem al_all (a b : AlD) : a = b ↔ a.kind = b.kind ∧ a.sev = b.sev ∧ a.fn = b.fn ∧ a.file = b.file ∧ a.line = b.line ∧ a.expr = b.expr := by
  cases a; cases b; simp
theorem al_cmp (a b : AlD) {α : Type} (f : Bool → α) (q : Bool) (h : q = true ↔ a = b) : (if a.kind = b.kind then (if a.sev = b.sev then (if a.fn.toList = b.fn.toList then (if a.file.toList = b.file.toList then (if a.line = b.line then (if a.expr.toList = b.expr.toList then f true else f false) else f false) else f false) else f false) else f false) else f false) = f q := by
  rw [al_all] at h
  simp only [altl_iff]
  cases q
  · have h' : ¬ (a.kind = b.kind ∧ a.sev = b.sev ∧ a.fn = b.fn ∧ a.file = b.file ∧ a.line = b.line ∧ a.expr = b.expr) := fun x => by have := h.2 x; cases this
    repeat' split
    all_goals first | rfl | (exfalso; apply h'; exact ⟨by assumption, by assumption, by assumption, by assumption, by assumption, by assumption⟩)
  · obtain ⟨h1, h2, h3, h4, h5, h6⟩ := h.1 rfl
    rw [if_pos h1, if_pos h2, if_pos h3, if_pos h4, if_pos h5, if_pos h6]
theorem al_cmp' (a b : AlD) {α : Type} (f : Bool → α) (q : Bool) (h : q = true ↔ ¬ a = b) : (if a.kind = b.kind then (if a.sev = b.sev then (if a.fn.toList = b.fn.toList then (if a.file.toList = b.file.toList then (if a.line = b.line then (if a.expr.toList = b.expr.toList then f false else f true) else f true) else f true) else f true) else f true) else f true) = f q := by
  have q2 := al_cmp a b (fun x => f (!x)) (!q) (by cases q <;> simp at h ⊢ <;> exact h)
  simpa using q2
def sameA (l r : List AlD) : Bool := decide (l.length = r.length) && (List.range l.length).all fun i => decide (cmpA (l.getD i al0) (r.getD i al0) = 0)
theorem sameA_iff (l r : List AlD) : sameA l r = true ↔ l = r := by
  unfold sameA
  rw [Bool.and_eq_true, decide_eq_true_eq, List.all_eq_true]
  constructor
  · rintro ⟨h1, h2⟩
    apply List.ext_getElem h1
    intro i a b
    have q := h2 i (List.mem_range.2 a)
    rw [decide_eq_true_eq] at q
    have q2 := (cmA.zero _ _).1 q
    simpa [List.getD, a, b] using q2
  · rintro rfl
    exact ⟨rfl, fun i _ => by rw [decide_eq_true_eq]; exact (cmA.zero _ _).2 rfl⟩
theorem sameA_no {l r : List AlD} {k : Nat} (hk : k < l.length) (h : ¬ l.getD k al0 = r.getD k al0) : sameA l r = false := by
  cases hs : sameA l r
  · rfl
  · rw [sameA_iff] at hs
    subst hs
    exact absurd rfl h
theorem sameA_len {l r : List AlD} (h : l.length ≠ r.length) : sameA l r = false := by
  cases hs : sameA l r
  · rfl
  · rw [sameA_iff] at hs
    subst hs
    exact absurd rfl h
theorem sameA_yes {l r : List AlD} (hl : l.length = r.length) (h : ∀ t, t < l.length → l.getD t al0 = r.getD t al0) : sameA l r = true := by
  rw [sameA_iff]
  apply List.ext_getElem hl
  intro i a b
  have q := h i a
  simpa [List.getD, a, b] using q
set_option maxRecDepth 100000 in
set_option maxHeartbeats 8000000 in
theorem alEqual_any (a1 a2 : Option Addr) (n1 n2 c1 c2 : Nat) (l1 l2 : List AlD) (w : World) (h1 : RO alC w a1 n1 c1 l1) (h2 : RO alC w a2 n2 c2 l2) : Calls Tryz.prog 41 #[.slice a1 n1 c1, .slice a2 n2 c2] w (DrawnB (.bool (sameA l1 l2)) w) := by
  have hl1 := Lib.hid h1.len
  have hl2 := Lib.hid h2.len
  have T1 := Lib.hid h1
  have T2 := Lib.hid h2
  have hm1 := h1.max'
  have hm2 := h2.max'
  have hm1i : (n1 : Int) ≤ 9223372036854775807 := by omega
  clear h1 h2
  by_cases hne : n1 = n2
  · have e0' : ((n1 : Int) != (n2 : Int)) = false := by simp; omega
    have e0n : (n1 != n2) = false := by simpa using hne
    have hne' := Lib.hid hne
    have hno := Lib.hid (fun k hk h => sameA_no (l := l1) (r := l2) (k := k) hk h)
    have hyes := Lib.hid (fun h => sameA_yes (l := l1) (r := l2) (by rw [← hl1.out, ← hl2.out]; exact hne) h)
    clear hne
    generalize sameA l1 l2 = R at *
    go_enter Tryz.func41, Tryz.ntmps41
    go_wp2
    go_loopw [13] (fun x wr => ∃ k m : Nat, k ≤ n1 ∧ x = .int .i64 k ∧ Hid (∀ t, t < k → l1.getD t al0 = l2.getD t al0) ∧ wr = w.drewN m) (fun x _ => n1 - (intOf x).toNat)
    case atStart => exact ⟨0, 0, by omega, rfl, Lib.hid (fun t ht => by omega), rfl⟩
    case round =>
      obtain ⟨k, m, hk, rfl, hal, rfl⟩ := hrel
      by_cases hlt : k < n1
      · have hki : (k : Int) < (n1 : Int) := by omega
        have hk2 : k < n2 := by have := hne'.out; omega
        have hki2 : (k : Int) < (n2 : Int) := by omega
        obtain ⟨b1, o1, rfl, -, x0, x1, x2, x3, x4, x5⟩ := al_at T1.out hlt
        obtain ⟨b2, o2, rfl, -, y0, y1, y2, y3, y4, y5⟩ := al_at T2.out hk2
        have hno' := Lib.hid (hno.out k (by rw [← hl1.out]; exact hlt))
        have hyes' : Hid (l1.getD k al0 = l2.getD k al0 → ∀ t, t < k + 1 → l1.getD t al0 = l2.getD t al0) := Lib.hid (fun h t ht => by
          by_cases e : t = k
          · rw [e]; exact h
          · exact hal.out t (by omega))
        obtain ⟨⟨ak, asv, af, afi, al, ax⟩, hs1⟩ : ∃ u, l1.getD k al0 = (u : AlD) := ⟨_, rfl⟩
        obtain ⟨⟨bk, bsv, bf, bfi, bl, bx⟩, hs2⟩ : ∃ u, l2.getD k al0 = (u : AlD) := ⟨_, rfl⟩
        rw [hs1] at x0 x1 x2 x3 x4 x5 hno' hyes'
        rw [hs2] at y0 y1 y2 y3 y4 y5 hno' hyes'
        dsimp only at x0 x1 x2 x3 x4 x5 y0 y1 y2 y3 y4 y5
        clear hs1 hs2 hal hno
        have g0 : ∀ W, (∃ j, W = w.drewN j) → W.cell? ⟨b1, o1 + k * 6, none⟩ = some (.int .i64 ak) := fun W hW => by obtain ⟨j, rfl⟩ := hW; exact x0
        have g1 : ∀ W, (∃ j, W = w.drewN j) → W.cell? ⟨b1, o1 + k * 6 + 1, none⟩ = some (.int .i64 asv) := fun W hW => by obtain ⟨j, rfl⟩ := hW; exact x1
        have g2 : ∀ W, (∃ j, W = w.drewN j) → W.cell? ⟨b1, o1 + k * 6 + 2, none⟩ = some (.string af) := fun W hW => by obtain ⟨j, rfl⟩ := hW; exact x2
        have g3 : ∀ W, (∃ j, W = w.drewN j) → W.cell? ⟨b1, o1 + k * 6 + 3, none⟩ = some (.string afi) := fun W hW => by obtain ⟨j, rfl⟩ := hW; exact x3
        have g4 : ∀ W, (∃ j, W = w.drewN j) → W.cell? ⟨b1, o1 + k * 6 + 4, none⟩ = some (.int .i64 al) := fun W hW => by obtain ⟨j, rfl⟩ := hW; exact x4
        have g5 : ∀ W, (∃ j, W = w.drewN j) → W.cell? ⟨b1, o1 + k * 6 + 5, none⟩ = some (.string ax) := fun W hW => by obtain ⟨j, rfl⟩ := hW; exact x5
        have e0 : ∀ W, (∃ j, W = w.drewN j) → W.cell? ⟨b2, o2 + k * 6, none⟩ = some (.int .i64 bk) := fun W hW => by obtain ⟨j, rfl⟩ := hW; exact y0
        have e1 : ∀ W, (∃ j, W = w.drewN j) → W.cell? ⟨b2, o2 + k * 6 + 1, none⟩ = some (.int .i64 bsv) := fun W hW => by obtain ⟨j, rfl⟩ := hW; exact y1
        have e2 : ∀ W, (∃ j, W = w.drewN j) → W.cell? ⟨b2, o2 + k * 6 + 2, none⟩ = some (.string bf) := fun W hW => by obtain ⟨j, rfl⟩ := hW; exact y2
        have e3 : ∀ W, (∃ j, W = w.drewN j) → W.cell? ⟨b2, o2 + k * 6 + 3, none⟩ = some (.string bfi) := fun W hW => by obtain ⟨j, rfl⟩ := hW; exact y3
        have e4 : ∀ W, (∃ j, W = w.drewN j) → W.cell? ⟨b2, o2 + k * 6 + 4, none⟩ = some (.int .i64 bl) := fun W hW => by obtain ⟨j, rfl⟩ := hW; exact y4
        have e5 : ∀ W, (∃ j, W = w.drewN j) → W.cell? ⟨b2, o2 + k * 6 + 5, none⟩ = some (.string bx) := fun W hW => by obtain ⟨j, rfl⟩ := hW; exact y5
        clear x0 x1 x2 x3 x4 x5 y0 y1 y2 y3 y4 y5
        by_cases hq : (⟨ak, asv, af, afi, al, ax⟩ : AlD) = ⟨bk, bsv, bf, bfi, bl, bx⟩
        · have hg := Lib.hid (hyes'.out hq)
          have haq : Hid (false = true ↔ ¬ (⟨ak, asv, af, afi, al, ax⟩ : AlD) = ⟨bk, bsv, bf, bfi, bl, bx⟩) := Lib.hid (by simp only [hq, not_true_eq_false, Bool.false_eq_true])
          clear hyes' hno' hq
          go_wp2
          refine wp_drawn_on (fun W => ∃ j, W = w.drewN j) (by kernel_rfl) (⟨m + 1, rfl⟩) (fun hHeld => ?_)
          refine wpAnyH_take (i := 0) (oi := { dst := some 16, op := Go.Op.move (Go.Operand.tmp 0), type := 24, pos := "slices.go:25", after := #[], guard := none }) (v := ?v1) rfl (by kernel_rfl) (by kernel_rfl) (by kernel_rfl) (fun _ _ _ h => h) (Or.inl ⟨by kernel_rfl, ?h1⟩) (by assumption) ?r1
          case h1 => (intro w hSw; (try dsimp only at hSw); go_simp; try with_reducible rfl)
          try simp only [Act.put, List.setIfInBounds_toArray, List.set_cons_zero, List.set_cons_succ]
          refine wpAnyH_take (i := 1) (oi := { dst := some 17, op := Go.Op.move (Go.Operand.tmp 5), type := 3, pos := "slices.go:25", after := #[], guard := none }) (v := ?v2) rfl (by kernel_rfl) (by kernel_rfl) (by kernel_rfl) (fun _ _ _ h => h) (Or.inl ⟨by kernel_rfl, ?h2⟩) (by assumption) ?r2
          case h2 => (intro w hSw; (try dsimp only at hSw); go_simp; try with_reducible rfl)
          try simp only [Act.put, List.setIfInBounds_toArray, List.set_cons_zero, List.set_cons_succ]
          refine wpAnyH_take (i := 2) (oi := { dst := some 18, op := Go.Op.indexAddr 24 (Go.Operand.tmp 16) (Go.Operand.tmp 17), type := 0, pos := "slices.go:25", after := #[{ on := 0, ground := Go.Ground.data }, { on := 1, ground := Go.Ground.data }], guard := none }) (v := ?v3) rfl (by kernel_rfl) (by kernel_rfl) (by kernel_rfl) (fun _ _ _ h => h) (Or.inl ⟨by kernel_rfl, ?h3⟩) (by assumption) ?r3
          case h3 => (intro w hSw; (try dsimp only at hSw); go_simp; try with_reducible rfl)
          try simp only [Act.put, List.setIfInBounds_toArray, List.set_cons_zero, List.set_cons_succ]
          refine wpAnyH_take (i := 3) (oi := { dst := some 19, op := Go.Op.load 23 (Go.Operand.tmp 18), type := 23, pos := "slices.go:25", after := #[{ on := 2, ground := Go.Ground.data }], guard := none }) (v := ?v4) rfl (by kernel_rfl) (by kernel_rfl) (by kernel_rfl) (fun _ _ _ h => h) (Or.inl ⟨by kernel_rfl, ?h4⟩) (by assumption) ?r4
          case h4 => (intro w hSw; (try dsimp only at hSw); go_simp; try with_reducible rfl)
          try simp only [Act.put, List.setIfInBounds_toArray, List.set_cons_zero, List.set_cons_succ]
          refine wpAnyH_take (i := 4) (oi := { dst := some 20, op := Go.Op.move (Go.Operand.tmp 1), type := 24, pos := "slices.go:25", after := #[], guard := none }) (v := ?v5) rfl (by kernel_rfl) (by kernel_rfl) (by kernel_rfl) (fun _ _ _ h => h) (Or.inl ⟨by kernel_rfl, ?h5⟩) (by assumption) ?r5
          case h5 => (intro w hSw; (try dsimp only at hSw); go_simp; try with_reducible rfl)
          try simp only [Act.put, List.setIfInBounds_toArray, List.set_cons_zero, List.set_cons_succ]
          refine wpAnyH_take (i := 5) (oi := { dst := some 21, op := Go.Op.move (Go.Operand.tmp 5), type := 3, pos := "slices.go:25", after := #[], guard := none }) (v := ?v6) rfl (by kernel_rfl) (by kernel_rfl) (by kernel_rfl) (fun _ _ _ h => h) (Or.inl ⟨by kernel_rfl, ?h6⟩) (by assumption) ?r6
          case h6 => (intro w hSw; (try dsimp only at hSw); go_simp; try with_reducible rfl)
          try simp only [Act.put, List.setIfInBounds_toArray, List.set_cons_zero, List.set_cons_succ]
          refine wpAnyH_take (i := 6) (oi := { dst := some 22, op := Go.Op.indexAddr 24 (Go.Operand.tmp 20) (Go.Operand.tmp 21), type := 0, pos := "slices.go:25", after := #[{ on := 4, ground := Go.Ground.data }, { on := 5, ground := Go.Ground.data }], guard := none }) (v := ?v7) rfl (by kernel_rfl) (by kernel_rfl) (by kernel_rfl) (fun _ _ _ h => h) (Or.inl ⟨by kernel_rfl, ?h7⟩) (by assumption) ?r7
          case h7 => (intro w hSw; (try dsimp only at hSw); go_simp; try with_reducible rfl)
          try simp only [Act.put, List.setIfInBounds_toArray, List.set_cons_zero, List.set_cons_succ]
          refine wpAnyH_take (i := 7) (oi := { dst := some 23, op := Go.Op.load 23 (Go.Operand.tmp 22), type := 23, pos := "slices.go:25", after := #[{ on := 6, ground := Go.Ground.data }], guard := none }) (v := ?v8) rfl (by kernel_rfl) (by kernel_rfl) (by kernel_rfl) (fun _ _ _ h => h) (Or.inl ⟨by kernel_rfl, ?h8⟩) (by assumption) ?r8
          case h8 => (intro w hSw; (try dsimp only at hSw); go_simp; try with_reducible rfl)
          try simp only [Act.put, List.setIfInBounds_toArray, List.set_cons_zero, List.set_cons_succ]
          refine wpAnyH_take (i := 8) (oi := { dst := some 24, op := Go.Op.binOp Go.BinOp.neq 23 (Go.Operand.tmp 19) (Go.Operand.tmp 23) 23, type := 4, pos := "slices.go:25", after := #[{ on := 3, ground := Go.Ground.data }, { on := 7, ground := Go.Ground.data }], guard := none }) (v := ?v9) rfl (by kernel_rfl) (by kernel_rfl) (by kernel_rfl) (fun _ _ _ h => h) (Or.inl ⟨by kernel_rfl, ?h9⟩) (by assumption) ?r9
          case h9 => (intro w hSw; (try dsimp only at hSw); refine Eq.trans (b := Result.ok (Next.value (.bool false)) w) (by go_simp; exact al_cmp' ⟨ak, asv, af, afi, al, ax⟩ ⟨bk, bsv, bf, bfi, bl, bx⟩ (fun b => Result.ok (Next.value (Value.bool b)) w) false haq.out) ?_; with_reducible rfl)
          try simp only [Act.put, List.setIfInBounds_toArray, List.set_cons_zero, List.set_cons_succ]
          refine wpAnyH_done (by kernel_rfl) ?_ _
          clear g0 e0 g1 e1 g2 e2 g3 e3 g4 e4 g5 e5
          go_wp2
          go_roundw
          case rel => exact ⟨k + 1, m + 1, by omega, by go_num, hg, rfl⟩
          case measure => simp [intOf]; omega
        · have hf := Lib.hid (hno'.out hq)
          obtain ⟨bq, hb⟩ : ∃ bq : Bool, Hid (bq = true) := ⟨true, Lib.hid rfl⟩
          have haq : Hid (bq = true ↔ ¬ (⟨ak, asv, af, afi, al, ax⟩ : AlD) = ⟨bk, bsv, bf, bfi, bl, bx⟩) := Lib.hid ⟨fun _ => hq, fun _ => hb.out⟩
          clear hyes' hno' hq
          go_wp2
          refine wp_drawn_on (fun W => ∃ j, W = w.drewN j) (by kernel_rfl) (⟨m + 1, rfl⟩) (fun hHeld => ?_)
          refine wpAnyH_take (i := 0) (oi := { dst := some 16, op := Go.Op.move (Go.Operand.tmp 0), type := 24, pos := "slices.go:25", after := #[], guard := none }) (v := ?v10) rfl (by kernel_rfl) (by kernel_rfl) (by kernel_rfl) (fun _ _ _ h => h) (Or.inl ⟨by kernel_rfl, ?h10⟩) (by assumption) ?r10
          case h10 => (intro w hSw; (try dsimp only at hSw); go_simp; try with_reducible rfl)
          try simp only [Act.put, List.setIfInBounds_toArray, List.set_cons_zero, List.set_cons_succ]
          refine wpAnyH_take (i := 1) (oi := { dst := some 17, op := Go.Op.move (Go.Operand.tmp 5), type := 3, pos := "slices.go:25", after := #[], guard := none }) (v := ?v11) rfl (by kernel_rfl) (by kernel_rfl) (by kernel_rfl) (fun _ _ _ h => h) (Or.inl ⟨by kernel_rfl, ?h11⟩) (by assumption) ?r11
          case h11 => (intro w hSw; (try dsimp only at hSw); go_simp; try with_reducible rfl)
          try simp only [Act.put, List.setIfInBounds_toArray, List.set_cons_zero, List.set_cons_succ]
          refine wpAnyH_take (i := 2) (oi := { dst := some 18, op := Go.Op.indexAddr 24 (Go.Operand.tmp 16) (Go.Operand.tmp 17), type := 0, pos := "slices.go:25", after := #[{ on := 0, ground := Go.Ground.data }, { on := 1, ground := Go.Ground.data }], guard := none }) (v := ?v12) rfl (by kernel_rfl) (by kernel_rfl) (by kernel_rfl) (fun _ _ _ h => h) (Or.inl ⟨by kernel_rfl, ?h12⟩) (by assumption) ?r12
          case h12 => (intro w hSw; (try dsimp only at hSw); go_simp; try with_reducible rfl)
          try simp only [Act.put, List.setIfInBounds_toArray, List.set_cons_zero, List.set_cons_succ]
          refine wpAnyH_take (i := 3) (oi := { dst := some 19, op := Go.Op.load 23 (Go.Operand.tmp 18), type := 23, pos := "slices.go:25", after := #[{ on := 2, ground := Go.Ground.data }], guard := none }) (v := ?v13) rfl (by kernel_rfl) (by kernel_rfl) (by kernel_rfl) (fun _ _ _ h => h) (Or.inl ⟨by kernel_rfl, ?h13⟩) (by assumption) ?r13
          case h13 => (intro w hSw; (try dsimp only at hSw); go_simp; try with_reducible rfl)
          try simp only [Act.put, List.setIfInBounds_toArray, List.set_cons_zero, List.set_cons_succ]
          refine wpAnyH_take (i := 4) (oi := { dst := some 20, op := Go.Op.move (Go.Operand.tmp 1), type := 24, pos := "slices.go:25", after := #[], guard := none }) (v := ?v14) rfl (by kernel_rfl) (by kernel_rfl) (by kernel_rfl) (fun _ _ _ h => h) (Or.inl ⟨by kernel_rfl, ?h14⟩) (by assumption) ?r14
          case h14 => (intro w hSw; (try dsimp only at hSw); go_simp; try with_reducible rfl)
          try simp only [Act.put, List.setIfInBounds_toArray, List.set_cons_zero, List.set_cons_succ]
          refine wpAnyH_take (i := 5) (oi := { dst := some 21, op := Go.Op.move (Go.Operand.tmp 5), type := 3, pos := "slices.go:25", after := #[], guard := none }) (v := ?v15) rfl (by kernel_rfl) (by kernel_rfl) (by kernel_rfl) (fun _ _ _ h => h) (Or.inl ⟨by kernel_rfl, ?h15⟩) (by assumption) ?r15
          case h15 => (intro w hSw; (try dsimp only at hSw); go_simp; try with_reducible rfl)
          try simp only [Act.put, List.setIfInBounds_toArray, List.set_cons_zero, List.set_cons_succ]
          refine wpAnyH_take (i := 6) (oi := { dst := some 22, op := Go.Op.indexAddr 24 (Go.Operand.tmp 20) (Go.Operand.tmp 21), type := 0, pos := "slices.go:25", after := #[{ on := 4, ground := Go.Ground.data }, { on := 5, ground := Go.Ground.data }], guard := none }) (v := ?v16) rfl (by kernel_rfl) (by kernel_rfl) (by kernel_rfl) (fun _ _ _ h => h) (Or.inl ⟨by kernel_rfl, ?h16⟩) (by assumption) ?r16
          case h16 => (intro w hSw; (try dsimp only at hSw); go_simp; try with_reducible rfl)
          try simp only [Act.put, List.setIfInBounds_toArray, List.set_cons_zero, List.set_cons_succ]
          refine wpAnyH_take (i := 7) (oi := { dst := some 23, op := Go.Op.load 23 (Go.Operand.tmp 22), type := 23, pos := "slices.go:25", after := #[{ on := 6, ground := Go.Ground.data }], guard := none }) (v := ?v17) rfl (by kernel_rfl) (by kernel_rfl) (by kernel_rfl) (fun _ _ _ h => h) (Or.inl ⟨by kernel_rfl, ?h17⟩) (by assumption) ?r17
          case h17 => (intro w hSw; (try dsimp only at hSw); go_simp; try with_reducible rfl)
          try simp only [Act.put, List.setIfInBounds_toArray, List.set_cons_zero, List.set_cons_succ]
          refine wpAnyH_take (i := 8) (oi := { dst := some 24, op := Go.Op.binOp Go.BinOp.neq 23 (Go.Operand.tmp 19) (Go.Operand.tmp 23) 23, type := 4, pos := "slices.go:25", after := #[{ on := 3, ground := Go.Ground.data }, { on := 7, ground := Go.Ground.data }], guard := none }) (v := ?v18) rfl (by kernel_rfl) (by kernel_rfl) (by kernel_rfl) (fun _ _ _ h => h) (Or.inl ⟨by kernel_rfl, ?h18⟩) (by assumption) ?r18
          case h18 => (intro w hSw; (try dsimp only at hSw); refine Eq.trans (b := Result.ok (Next.value (.bool bq)) w) (by go_simp; exact al_cmp' ⟨ak, asv, af, afi, al, ax⟩ ⟨bk, bsv, bf, bfi, bl, bx⟩ (fun b => Result.ok (Next.value (Value.bool b)) w) bq haq.out) ?_; with_reducible rfl)
          try simp only [Act.put, List.setIfInBounds_toArray, List.set_cons_zero, List.set_cons_succ]
          refine wpAnyH_done (by kernel_rfl) ?_ _
          clear g0 e0 g1 e1 g2 e2 g3 e3 g4 e4 g5 e5
          have hb2 : bq = true := hb.out
          subst hb2
          go_wp2
          go_ret
          exact ⟨ret_bool hf.out.symm, m + 1, rfl⟩
      · have hki : ¬ (k : Int) < (n1 : Int) := by omega
        have hf := Lib.hid (hyes.out (fun t ht => hal.out t (by rw [← hl1.out] at ht; omega)))
        clear hyes hno hal
        go_wp2
        go_ret
        exact ⟨ret_bool hf.out.symm, m, rfl⟩
  · have e0' : ((n1 : Int) != (n2 : Int)) = true := by simp; omega
    have e0n : (n1 != n2) = true := by simpa using hne
    have hR : Hid (sameA l1 l2 = false) := Lib.hid (sameA_len (by rw [← hl1.out, ← hl2.out]; exact hne))
    clear hne
    generalize sameA l1 l2 = R at *
    go_enter Tryz.func41, Tryz.ntmps41
    go_wp2
    go_ret
    exact ⟨ret_bool hR.out.symm, 0, rfl⟩
set_option maxRecDepth 100000 in
set_option maxHeartbeats 8000000 in
theorem ralSame_any (a1 a2 : Option Addr) (n1 n2 c1 c2 : Nat) (l1 l2 : List AlD) (w : World) (h1 : RO alC w a1 n1 c1 l1) (h2 : RO alC w a2 n2 c2 l2) : Calls Tryz.prog 13 #[.slice a1 n1 c1, .slice a2 n2 c2] w (DrawnB (.bool (sameA l1 l2)) w) := by
  have hl1 := Lib.hid h1.len
  have hl2 := Lib.hid h2.len
  have T1 := Lib.hid h1
  have T2 := Lib.hid h2
  have hm1 := h1.max'
  have hm2 := h2.max'
  have hm1i : (n1 : Int) ≤ 9223372036854775807 := by omega
  clear h1 h2
  by_cases hne : n1 = n2
  · have e0' : ((n1 : Int) != (n2 : Int)) = false := by simp; omega
    have e0n : (n1 != n2) = false := by simpa using hne
    have hne' := Lib.hid hne
    have hno := Lib.hid (fun k hk h => sameA_no (l := l1) (r := l2) (k := k) hk h)
    have hyes := Lib.hid (fun h => sameA_yes (l := l1) (r := l2) (by rw [← hl1.out, ← hl2.out]; exact hne) h)
    clear hne
    generalize sameA l1 l2 = R at *
    go_enter Tryz.func13, Tryz.ntmps13
    go_wp2
    go_loopw [5] (fun x wr => ∃ k m : Nat, k ≤ n1 ∧ x = .int .i64 k ∧ Hid (∀ t, t < k → l1.getD t al0 = l2.getD t al0) ∧ wr = w.drewN m) (fun x _ => n1 - (intOf x).toNat)
    case atStart => exact ⟨0, 0, by omega, rfl, Lib.hid (fun t ht => by omega), rfl⟩
    case round =>
      obtain ⟨k, m, hk, rfl, hal, rfl⟩ := hrel
      by_cases hlt : k < n1
      · have hki : (k : Int) < (n1 : Int) := by omega
        have hk2 : k < n2 := by have := hne'.out; omega
        have hki2 : (k : Int) < (n2 : Int) := by omega
        obtain ⟨b1, o1, rfl, -, x0, x1, x2, x3, x4, x5⟩ := al_at T1.out hlt
        obtain ⟨b2, o2, rfl, -, y0, y1, y2, y3, y4, y5⟩ := al_at T2.out hk2
        have hno' := Lib.hid (hno.out k (by rw [← hl1.out]; exact hlt))
        have hyes' : Hid (l1.getD k al0 = l2.getD k al0 → ∀ t, t < k + 1 → l1.getD t al0 = l2.getD t al0) := Lib.hid (fun h t ht => by
          by_cases e : t = k
          · rw [e]; exact h
          · exact hal.out t (by omega))
        obtain ⟨⟨ak, asv, af, afi, al, ax⟩, hs1⟩ : ∃ u, l1.getD k al0 = (u : AlD) := ⟨_, rfl⟩
        obtain ⟨⟨bk, bsv, bf, bfi, bl, bx⟩, hs2⟩ : ∃ u, l2.getD k al0 = (u : AlD) := ⟨_, rfl⟩
        rw [hs1] at x0 x1 x2 x3 x4 x5 hno' hyes'
        rw [hs2] at y0 y1 y2 y3 y4 y5 hno' hyes'
        dsimp only at x0 x1 x2 x3 x4 x5 y0 y1 y2 y3 y4 y5
        clear hs1 hs2 hal hno
        have g0 : ∀ W, (∃ j, W = w.drewN j) → W.cell? ⟨b1, o1 + k * 6, none⟩ = some (.int .i64 ak) := fun W hW => by obtain ⟨j, rfl⟩ := hW; exact x0
        have g1 : ∀ W, (∃ j, W = w.drewN j) → W.cell? ⟨b1, o1 + k * 6 + 1, none⟩ = some (.int .i64 asv) := fun W hW => by obtain ⟨j, rfl⟩ := hW; exact x1
        have g2 : ∀ W, (∃ j, W = w.drewN j) → W.cell? ⟨b1, o1 + k * 6 + 2, none⟩ = some (.string af) := fun W hW => by obtain ⟨j, rfl⟩ := hW; exact x2
        have g3 : ∀ W, (∃ j, W = w.drewN j) → W.cell? ⟨b1, o1 + k * 6 + 3, none⟩ = some (.string afi) := fun W hW => by obtain ⟨j, rfl⟩ := hW; exact x3
        have g4 : ∀ W, (∃ j, W = w.drewN j) → W.cell? ⟨b1, o1 + k * 6 + 4, none⟩ = some (.int .i64 al) := fun W hW => by obtain ⟨j, rfl⟩ := hW; exact x4
        have g5 : ∀ W, (∃ j, W = w.drewN j) → W.cell? ⟨b1, o1 + k * 6 + 5, none⟩ = some (.string ax) := fun W hW => by obtain ⟨j, rfl⟩ := hW; exact x5
        have e0 : ∀ W, (∃ j, W = w.drewN j) → W.cell? ⟨b2, o2 + k * 6, none⟩ = some (.int .i64 bk) := fun W hW => by obtain ⟨j, rfl⟩ := hW; exact y0
        have e1 : ∀ W, (∃ j, W = w.drewN j) → W.cell? ⟨b2, o2 + k * 6 + 1, none⟩ = some (.int .i64 bsv) := fun W hW => by obtain ⟨j, rfl⟩ := hW; exact y1
        have e2 : ∀ W, (∃ j, W = w.drewN j) → W.cell? ⟨b2, o2 + k * 6 + 2, none⟩ = some (.string bf) := fun W hW => by obtain ⟨j, rfl⟩ := hW; exact y2
        have e3 : ∀ W, (∃ j, W = w.drewN j) → W.cell? ⟨b2, o2 + k * 6 + 3, none⟩ = some (.string bfi) := fun W hW => by obtain ⟨j, rfl⟩ := hW; exact y3
        have e4 : ∀ W, (∃ j, W = w.drewN j) → W.cell? ⟨b2, o2 + k * 6 + 4, none⟩ = some (.int .i64 bl) := fun W hW => by obtain ⟨j, rfl⟩ := hW; exact y4
        have e5 : ∀ W, (∃ j, W = w.drewN j) → W.cell? ⟨b2, o2 + k * 6 + 5, none⟩ = some (.string bx) := fun W hW => by obtain ⟨j, rfl⟩ := hW; exact y5
        clear x0 x1 x2 x3 x4 x5 y0 y1 y2 y3 y4 y5
        by_cases hq : (⟨ak, asv, af, afi, al, ax⟩ : AlD) = ⟨bk, bsv, bf, bfi, bl, bx⟩
        · have hg := Lib.hid (hyes'.out hq)
          have haq : Hid (false = true ↔ ¬ (⟨ak, asv, af, afi, al, ax⟩ : AlD) = ⟨bk, bsv, bf, bfi, bl, bx⟩) := Lib.hid (by simp only [hq, not_true_eq_false, Bool.false_eq_true])
          clear hyes' hno' hq
          go_wp2
          refine wp_drawn_on (fun W => ∃ j, W = w.drewN j) (by kernel_rfl) (⟨m + 1, rfl⟩) (fun hHeld => ?_)
          refine wpAnyH_take (i := 0) (oi := { dst := some 17, op := Go.Op.move (Go.Operand.tmp 0), type := 24, pos := "ref.go:128", after := #[], guard := none }) (v := ?v19) rfl (by kernel_rfl) (by kernel_rfl) (by kernel_rfl) (fun _ _ _ h => h) (Or.inl ⟨by kernel_rfl, ?h19⟩) (by assumption) ?r19
          case h19 => (intro w hSw; (try dsimp only at hSw); go_simp; try with_reducible rfl)
          try simp only [Act.put, List.setIfInBounds_toArray, List.set_cons_zero, List.set_cons_succ]
          refine wpAnyH_take (i := 1) (oi := { dst := some 18, op := Go.Op.move (Go.Operand.tmp 5), type := 3, pos := "ref.go:128", after := #[], guard := none }) (v := ?v20) rfl (by kernel_rfl) (by kernel_rfl) (by kernel_rfl) (fun _ _ _ h => h) (Or.inl ⟨by kernel_rfl, ?h20⟩) (by assumption) ?r20
          case h20 => (intro w hSw; (try dsimp only at hSw); go_simp; try with_reducible rfl)
          try simp only [Act.put, List.setIfInBounds_toArray, List.set_cons_zero, List.set_cons_succ]
          refine wpAnyH_take (i := 2) (oi := { dst := some 19, op := Go.Op.indexAddr 24 (Go.Operand.tmp 17) (Go.Operand.tmp 18), type := 0, pos := "ref.go:128", after := #[{ on := 0, ground := Go.Ground.data }, { on := 1, ground := Go.Ground.data }], guard := none }) (v := ?v21) rfl (by kernel_rfl) (by kernel_rfl) (by kernel_rfl) (fun _ _ _ h => h) (Or.inl ⟨by kernel_rfl, ?h21⟩) (by assumption) ?r21
          case h21 => (intro w hSw; (try dsimp only at hSw); go_simp; try with_reducible rfl)
          try simp only [Act.put, List.setIfInBounds_toArray, List.set_cons_zero, List.set_cons_succ]
          refine wpAnyH_take (i := 3) (oi := { dst := some 20, op := Go.Op.load 23 (Go.Operand.tmp 19), type := 23, pos := "ref.go:128", after := #[{ on := 2, ground := Go.Ground.data }], guard := none }) (v := ?v22) rfl (by kernel_rfl) (by kernel_rfl) (by kernel_rfl) (fun _ _ _ h => h) (Or.inl ⟨by kernel_rfl, ?h22⟩) (by assumption) ?r22
          case h22 => (intro w hSw; (try dsimp only at hSw); go_simp; try with_reducible rfl)
          try simp only [Act.put, List.setIfInBounds_toArray, List.set_cons_zero, List.set_cons_succ]
          refine wpAnyH_take (i := 4) (oi := { dst := some 21, op := Go.Op.move (Go.Operand.tmp 1), type := 24, pos := "ref.go:128", after := #[], guard := none }) (v := ?v23) rfl (by kernel_rfl) (by kernel_rfl) (by kernel_rfl) (fun _ _ _ h => h) (Or.inl ⟨by kernel_rfl, ?h23⟩) (by assumption) ?r23
          case h23 => (intro w hSw; (try dsimp only at hSw); go_simp; try with_reducible rfl)
          try simp only [Act.put, List.setIfInBounds_toArray, List.set_cons_zero, List.set_cons_succ]
          refine wpAnyH_take (i := 5) (oi := { dst := some 22, op := Go.Op.move (Go.Operand.tmp 5), type := 3, pos := "ref.go:128", after := #[], guard := none }) (v := ?v24) rfl (by kernel_rfl) (by kernel_rfl) (by kernel_rfl) (fun _ _ _ h => h) (Or.inl ⟨by kernel_rfl, ?h24⟩) (by assumption) ?r24
          case h24 => (intro w hSw; (try dsimp only at hSw); go_simp; try with_reducible rfl)
          try simp only [Act.put, List.setIfInBounds_toArray, List.set_cons_zero, List.set_cons_succ]
          refine wpAnyH_take (i := 6) (oi := { dst := some 23, op := Go.Op.indexAddr 24 (Go.Operand.tmp 21) (Go.Operand.tmp 22), type := 0, pos := "ref.go:128", after := #[{ on := 4, ground := Go.Ground.data }, { on := 5, ground := Go.Ground.data }], guard := none }) (v := ?v25) rfl (by kernel_rfl) (by kernel_rfl) (by kernel_rfl) (fun _ _ _ h => h) (Or.inl ⟨by kernel_rfl, ?h25⟩) (by assumption) ?r25
          case h25 => (intro w hSw; (try dsimp only at hSw); go_simp; try with_reducible rfl)
          try simp only [Act.put, List.setIfInBounds_toArray, List.set_cons_zero, List.set_cons_succ]
          refine wpAnyH_take (i := 7) (oi := { dst := some 24, op := Go.Op.load 23 (Go.Operand.tmp 23), type := 23, pos := "ref.go:128", after := #[{ on := 6, ground := Go.Ground.data }], guard := none }) (v := ?v26) rfl (by kernel_rfl) (by kernel_rfl) (by kernel_rfl) (fun _ _ _ h => h) (Or.inl ⟨by kernel_rfl, ?h26⟩) (by assumption) ?r26
          case h26 => (intro w hSw; (try dsimp only at hSw); go_simp; try with_reducible rfl)
          try simp only [Act.put, List.setIfInBounds_toArray, List.set_cons_zero, List.set_cons_succ]
          refine wpAnyH_take (i := 8) (oi := { dst := some 25, op := Go.Op.binOp Go.BinOp.neq 23 (Go.Operand.tmp 20) (Go.Operand.tmp 24) 23, type := 4, pos := "ref.go:128", after := #[{ on := 3, ground := Go.Ground.data }, { on := 7, ground := Go.Ground.data }], guard := none }) (v := ?v27) rfl (by kernel_rfl) (by kernel_rfl) (by kernel_rfl) (fun _ _ _ h => h) (Or.inl ⟨by kernel_rfl, ?h27⟩) (by assumption) ?r27
          case h27 => (intro w hSw; (try dsimp only at hSw); refine Eq.trans (b := Result.ok (Next.value (.bool false)) w) (by go_simp; exact al_cmp' ⟨ak, asv, af, afi, al, ax⟩ ⟨bk, bsv, bf, bfi, bl, bx⟩ (fun b => Result.ok (Next.value (Value.bool b)) w) false haq.out) ?_; with_reducible rfl)
          try simp only [Act.put, List.setIfInBounds_toArray, List.set_cons_zero, List.set_cons_succ]
          refine wpAnyH_done (by kernel_rfl) ?_ _
          clear g0 e0 g1 e1 g2 e2 g3 e3 g4 e4 g5 e5
          go_wp2
          go_roundw
          case rel => exact ⟨k + 1, m + 1, by omega, by go_num, hg, rfl⟩
          case measure => simp [intOf]; omega
        · have hf := Lib.hid (hno'.out hq)
          obtain ⟨bq, hb⟩ : ∃ bq : Bool, Hid (bq = true) := ⟨true, Lib.hid rfl⟩
          have haq : Hid (bq = true ↔ ¬ (⟨ak, asv, af, afi, al, ax⟩ : AlD) = ⟨bk, bsv, bf, bfi, bl, bx⟩) := Lib.hid ⟨fun _ => hq, fun _ => hb.out⟩
          clear hyes' hno' hq
          go_wp2
          refine wp_drawn_on (fun W => ∃ j, W = w.drewN j) (by kernel_rfl) (⟨m + 1, rfl⟩) (fun hHeld => ?_)
          refine wpAnyH_take (i := 0) (oi := { dst := some 17, op := Go.Op.move (Go.Operand.tmp 0), type := 24, pos := "ref.go:128", after := #[], guard := none }) (v := ?v28) rfl (by kernel_rfl) (by kernel_rfl) (by kernel_rfl) (fun _ _ _ h => h) (Or.inl ⟨by kernel_rfl, ?h28⟩) (by assumption) ?r28
          case h28 => (intro w hSw; (try dsimp only at hSw); go_simp; try with_reducible rfl)
          try simp only [Act.put, List.setIfInBounds_toArray, List.set_cons_zero, List.set_cons_succ]
          refine wpAnyH_take (i := 1) (oi := { dst := some 18, op := Go.Op.move (Go.Operand.tmp 5), type := 3, pos := "ref.go:128", after := #[], guard := none }) (v := ?v29) rfl (by kernel_rfl) (by kernel_rfl) (by kernel_rfl) (fun _ _ _ h => h) (Or.inl ⟨by kernel_rfl, ?h29⟩) (by assumption) ?r29
          case h29 => (intro w hSw; (try dsimp only at hSw); go_simp; try with_reducible rfl)
          try simp only [Act.put, List.setIfInBounds_toArray, List.set_cons_zero, List.set_cons_succ]
          refine wpAnyH_take (i := 2) (oi := { dst := some 19, op := Go.Op.indexAddr 24 (Go.Operand.tmp 17) (Go.Operand.tmp 18), type := 0, pos := "ref.go:128", after := #[{ on := 0, ground := Go.Ground.data }, { on := 1, ground := Go.Ground.data }], guard := none }) (v := ?v30) rfl (by kernel_rfl) (by kernel_rfl) (by kernel_rfl) (fun _ _ _ h => h) (Or.inl ⟨by kernel_rfl, ?h30⟩) (by assumption) ?r30
          case h30 => (intro w hSw; (try dsimp only at hSw); go_simp; try with_reducible rfl)
          try simp only [Act.put, List.setIfInBounds_toArray, List.set_cons_zero, List.set_cons_succ]
          refine wpAnyH_take (i := 3) (oi := { dst := some 20, op := Go.Op.load 23 (Go.Operand.tmp 19), type := 23, pos := "ref.go:128", after := #[{ on := 2, ground := Go.Ground.data }], guard := none }) (v := ?v31) rfl (by kernel_rfl) (by kernel_rfl) (by kernel_rfl) (fun _ _ _ h => h) (Or.inl ⟨by kernel_rfl, ?h31⟩) (by assumption) ?r31
          case h31 => (intro w hSw; (try dsimp only at hSw); go_simp; try with_reducible rfl)
          try simp only [Act.put, List.setIfInBounds_toArray, List.set_cons_zero, List.set_cons_succ]
          refine wpAnyH_take (i := 4) (oi := { dst := some 21, op := Go.Op.move (Go.Operand.tmp 1), type := 24, pos := "ref.go:128", after := #[], guard := none }) (v := ?v32) rfl (by kernel_rfl) (by kernel_rfl) (by kernel_rfl) (fun _ _ _ h => h) (Or.inl ⟨by kernel_rfl, ?h32⟩) (by assumption) ?r32
          case h32 => (intro w hSw; (try dsimp only at hSw); go_simp; try with_reducible rfl)
          try simp only [Act.put, List.setIfInBounds_toArray, List.set_cons_zero, List.set_cons_succ]
          refine wpAnyH_take (i := 5) (oi := { dst := some 22, op := Go.Op.move (Go.Operand.tmp 5), type := 3, pos := "ref.go:128", after := #[], guard := none }) (v := ?v33) rfl (by kernel_rfl) (by kernel_rfl) (by kernel_rfl) (fun _ _ _ h => h) (Or.inl ⟨by kernel_rfl, ?h33⟩) (by assumption) ?r33
          case h33 => (intro w hSw; (try dsimp only at hSw); go_simp; try with_reducible rfl)
          try simp only [Act.put, List.setIfInBounds_toArray, List.set_cons_zero, List.set_cons_succ]
          refine wpAnyH_take (i := 6) (oi := { dst := some 23, op := Go.Op.indexAddr 24 (Go.Operand.tmp 21) (Go.Operand.tmp 22), type := 0, pos := "ref.go:128", after := #[{ on := 4, ground := Go.Ground.data }, { on := 5, ground := Go.Ground.data }], guard := none }) (v := ?v34) rfl (by kernel_rfl) (by kernel_rfl) (by kernel_rfl) (fun _ _ _ h => h) (Or.inl ⟨by kernel_rfl, ?h34⟩) (by assumption) ?r34
          case h34 => (intro w hSw; (try dsimp only at hSw); go_simp; try with_reducible rfl)
          try simp only [Act.put, List.setIfInBounds_toArray, List.set_cons_zero, List.set_cons_succ]
          refine wpAnyH_take (i := 7) (oi := { dst := some 24, op := Go.Op.load 23 (Go.Operand.tmp 23), type := 23, pos := "ref.go:128", after := #[{ on := 6, ground := Go.Ground.data }], guard := none }) (v := ?v35) rfl (by kernel_rfl) (by kernel_rfl) (by kernel_rfl) (fun _ _ _ h => h) (Or.inl ⟨by kernel_rfl, ?h35⟩) (by assumption) ?r35
          case h35 => (intro w hSw; (try dsimp only at hSw); go_simp; try with_reducible rfl)
          try simp only [Act.put, List.setIfInBounds_toArray, List.set_cons_zero, List.set_cons_succ]
          refine wpAnyH_take (i := 8) (oi := { dst := some 25, op := Go.Op.binOp Go.BinOp.neq 23 (Go.Operand.tmp 20) (Go.Operand.tmp 24) 23, type := 4, pos := "ref.go:128", after := #[{ on := 3, ground := Go.Ground.data }, { on := 7, ground := Go.Ground.data }], guard := none }) (v := ?v36) rfl (by kernel_rfl) (by kernel_rfl) (by kernel_rfl) (fun _ _ _ h => h) (Or.inl ⟨by kernel_rfl, ?h36⟩) (by assumption) ?r36
          case h36 => (intro w hSw; (try dsimp only at hSw); refine Eq.trans (b := Result.ok (Next.value (.bool bq)) w) (by go_simp; exact al_cmp' ⟨ak, asv, af, afi, al, ax⟩ ⟨bk, bsv, bf, bfi, bl, bx⟩ (fun b => Result.ok (Next.value (Value.bool b)) w) bq haq.out) ?_; with_reducible rfl)
          try simp only [Act.put, List.setIfInBounds_toArray, List.set_cons_zero, List.set_cons_succ]
          refine wpAnyH_done (by kernel_rfl) ?_ _
          clear g0 e0 g1 e1 g2 e2 g3 e3 g4 e4 g5 e5
          have hb2 : bq = true := hb.out
          subst hb2
          go_wp2
          go_ret
          exact ⟨ret_bool hf.out.symm, m + 1, rfl⟩
      · have hki : ¬ (k : Int) < (n1 : Int) := by omega
        have hf := Lib.hid (hyes.out (fun t ht => hal.out t (by rw [← hl1.out] at ht; omega)))
        clear hyes hno hal
        go_wp2
        go_ret
        exact ⟨ret_bool hf.out.symm, m, rfl⟩
  · have e0' : ((n1 : Int) != (n2 : Int)) = true := by simp; omega
    have e0n : (n1 != n2) = true := by simpa using hne
    have hR : Hid (sameA l1 l2 = false) := Lib.hid (sameA_len (by rw [← hl1.out, ← hl2.out]; exact hne))
    clear hne
    generalize sameA l1 l2 = R at *
    go_enter Tryz.func13, Tryz.ntmps13
    go_wp2
    go_ret
    exact ⟨ret_bool hR.out.symm, 0, rfl⟩
set_option maxRecDepth 100000 in
theorem alSame_any (a1 a2 : Option Addr) (n1 n2 c1 c2 : Nat) (l1 l2 : List AlD) (w : World) (h1 : RO alC w a1 n1 c1 l1) (h2 : RO alC w a2 n2 c2 l2) : Calls Tryz.prog 16 #[.slice a1 n1 c1, .slice a2 n2 c2] w (DrawnB (.bool (sameA l1 l2)) w) := by
  have q := Lib.hid (alEqual_any a1 a2 n1 n2 c1 c2 l1 l2 w h1 h2)
  clear h1 h2
  generalize sameA l1 l2 = R at *
  go_enter Tryz.func16, Tryz.ntmps16
  go_wp2_with fail
  with_reducible refine q.out.mono ?_
  rintro e w1 ⟨rfl, m, rfl⟩
  go_wp2
  go_ret
  exact ⟨rfl, m, rfl⟩
end Go.Proofs.YtimgocfkogebmaaGreatDoor
namespace Go.Proofs.YtimgocfkogebmaaGreatDoor
open Go.RowKit
set_option linter.unusedVariables false
set_option linter.unusedSimpArgs false
def wantA : AlD := ⟨1, 1, ⟨#[109, 97, 105, 110]⟩, ⟨#[97, 46, 103, 111]⟩, 3, ⟨#[105, 32, 45, 32, 110, 32, 60, 61, 32, 48]⟩⟩
def wantB : AlD := ⟨1, 1, ⟨#[109, 97, 105, 110]⟩, ⟨#[97, 46, 103, 111]⟩, 2, ⟨#[105, 32, 45, 32, 110, 32, 60, 61, 32, 48]⟩⟩
theorem lv_chk : chkZ guardD guardL = 0 := by kernel_rfl
theorem lv_nil : chkZ guardD [] = 80 := by kernel_rfl
theorem lv_may : mayZ 2 (edgeL guardL guardE) guardE = true := by kernel_rfl
theorem lv_edge : edgeA guardD guardL guardE = wantA := by kernel_rfl
theorem lv_all : sortC cmpA (alarmsA guardD guardL [guardE]) = [wantA] := by kernel_rfl
theorem lv_two : sortC cmpA [wantA, wantB] = [wantB, wantA] := by kernel_rfl
theorem lv_cmp : cmpA wantA wantB = 1 := by kernel_rfl
theorem lv_ok : chkA wantA = 0 := by kernel_rfl
theorem lv_no : chkA al0 = 170 := by kernel_rfl
theorem lv_is : edgeL guardL guardE = boxL 2 [(0, 3), (2, 2)] := by
  unfold edgeL guardL
  rw [show guardE.frm.toNat = 0 from rfl, List.getD_cons_zero]
theorem lv_ask (LB : List Int) (hz : IsZ 2 LB) : AskOK 2 LB 5 1 2 0 0 (mayZ 2 LB guardE) (mustZ 2 LB guardE) := ask_5 2 1 2 0 LB hz (by omega) (by omega) (by decide +kernel) (by omega)
theorem lv_asks : AsksOK guardD guardL := by
  intro i hi
  obtain rfl : i = 0 := by have h : i < 1 := hi; omega
  have h2 := lv_ask (edgeL guardL guardE) (by rw [lv_is]; exact boxL_isz (by omega) _)
  exact h2
theorem lv_same (l : List AlD) : sameA l l = true := (sameA_iff l l).2 rfl
theorem drawn_gives {v : Value} {w : World} {e : Ending} {w' : World} (h : DrawnB v w e w') : e = .returned v ∧ Below w.heap.size w w' := by
  obtain ⟨h1, m, rfl⟩ := h
  exact ⟨h1, Below.drewN (Below.refl _ _) m⟩
structure ALv (w : World) (g : Nat) (p : PV) (a : Option Addr) (W : World) : Prop where
  pr : PrA W p guardD
  zr : ZRow W a 2 2 guardL
  box : Holds W g 38 #[.string p.nm, .slice p.a1 p.n1 p.c1, .slice p.a2 p.n2 p.c2, .slice p.a3 p.n3 p.c3]
  wb : Holds W (g + 1) 23 #[.int .i64 1, .int .i64 1, .string ⟨#[109, 97, 105, 110]⟩, .string ⟨#[97, 46, 103, 111]⟩, .int .i64 3, .string ⟨#[105, 32, 45, 32, 110, 32, 60, 61, 32, 48]⟩]
  bel : Below w.heap.size w W
  tab : Tab W
theorem ALv.below {w : World} {g : Nat} {p : PV} {a : Option Addr} {W W' : World} (h : ALv w g p a W) (hb : Below W.heap.size W W') : ALv w g p a W' :=
  ⟨h.pr.below hb, h.zr.below hb, h.box.below hb h.box.lt, h.wb.below hb h.wb.lt, h.bel.trans (hb.mono h.bel.size), h.tab.on hb⟩
set_option maxRecDepth 100000 in
set_option maxHeartbeats 16000000 in
theorem alives_any (w : World) (ht : Tab w) : Calls Tryz.prog 8 #[] w (Gives (.bool true) w) := by
  have T := Lib.hid ht
  clear ht
  have q1 := Lib.hid (guard_any w)
  go_enter Tryz.func8, Tryz.ntmps8
  go_wp2_with fail
  with_reducible refine q1.out.mono ?_
  rintro e u1 ⟨⟨pnm, pa1, pn1, pc1, pa2, pn2, pc2, pa3, pn3, pc3⟩, a, rfl, hp, hz, hb1⟩
  dsimp only
  obtain rfl : pn3 = 1 := hp.edges.len
  obtain rfl : pn1 = 2 := hp.vars.len
  obtain rfl : pn2 = 2 := hp.spots.len
  obtain ⟨U, hU⟩ : ∃ U, U = (u1.alloc (.cells #[.string pnm, .slice pa1 2 pc1, .slice pa2 2 pc2, .slice pa3 1 pc3] 38)).alloc (.cells #[.int .i64 1, .int .i64 1, .string ⟨#[109, 97, 105, 110]⟩, .string ⟨#[97, 46, 103, 111]⟩, .int .i64 3, .string ⟨#[105, 32, 45, 32, 110, 32, 60, 61, 32, 48]⟩] 23) := ⟨_, rfl⟩
  have bU : Below u1.heap.size u1 U := by rw [hU]; exact (box_below _ _ _).alloc (by simp) _
  have L0 : ALv w u1.heap.size ⟨pnm, pa1, 2, pc1, pa2, 2, pc2, pa3, 1, pc3⟩ a U := by
    refine ⟨hp.below bU, hz.below bU, ?_, ?_, hb1.trans (bU.mono hb1.size), T.out.on (hb1.trans (bU.mono hb1.size))⟩
    · rw [hU]; exact (Holds.new _ _ _).alloc _
    · rw [hU]
      have := Holds.new (u1.alloc (.cells #[.string pnm, .slice pa1 2 pc1, .slice pa2 2 pc2, .slice pa3 1 pc3] 38)) 23 #[.int .i64 1, .int .i64 1, .string ⟨#[109, 97, 105, 110]⟩, .string ⟨#[97, 46, 103, 111]⟩, .int .i64 3, .string ⟨#[105, 32, 45, 32, 110, 32, 60, 61, 32, 48]⟩]
      simpa using this
  have L := Lib.hid L0
  have hU' := Lib.hid hU
  have qe : Hid (∀ W, ALv w u1.heap.size ⟨pnm, pa1, 2, pc1, pa2, 2, pc2, pa3, 1, pc3⟩ a W → Calls Tryz.prog 20 #[.agg #[.string pnm, .slice pa1 2 pc1, .slice pa2 2 pc2, .slice pa3 1 pc3], .slice a 2 2, .int .i64 0] W (fun e w' => e = .returned (.tuple #[.agg #[.int .i64 1, .int .i64 1, .string ⟨#[109, 97, 105, 110]⟩, .string ⟨#[97, 46, 103, 111]⟩, .int .i64 3, .string ⟨#[105, 32, 45, 32, 110, 32, 60, 61, 32, 48]⟩], .bool true]) ∧ Below W.heap.size W w')) := Lib.hid (fun W h => by
    have q := aedge_ok _ guardD a 2 2 guardL 0 W h.pr h.zr h.tab lv_chk lv_asks (by show (0 : Nat) < 1; omega)
    rw [show guardD.edges.getD 0 edge0 = guardE from rfl, lv_edge, show guardD.vars.length = 2 from rfl, lv_may] at q
    exact q)
  have qo : Hid (∀ W, ALv w u1.heap.size ⟨pnm, pa1, 2, pc1, pa2, 2, pc2, pa3, 1, pc3⟩ a W → Calls Tryz.prog 19 #[.agg #[.string pnm, .slice pa1 2 pc1, .slice pa2 2 pc2, .slice pa3 1 pc3], .slice a 2 2] W (AlsE [wantA] 0 W)) := Lib.hid (fun W h => by
    have q := aofs_ok _ guardD a 2 2 guardL W h.pr h.zr h.tab lv_chk lv_asks (by show (1 : Nat) ≤ 256; omega)
    rw [show guardD.edges = [guardE] from rfl, lv_all] at q
    exact q)
  have qn : Hid (∀ W, ALv w u1.heap.size ⟨pnm, pa1, 2, pc1, pa2, 2, pc2, pa3, 1, pc3⟩ a W → Calls Tryz.prog 19 #[.agg #[.string pnm, .slice pa1 2 pc1, .slice pa2 2 pc2, .slice pa3 1 pc3], .slice none 0 0] W (AlsE [] 80 W)) := Lib.hid (fun W h => by
    have q := aofs_bad _ guardD none 0 0 [] W h.pr (ZRow.nil W) (by rw [lv_nil]; decide)
    rw [lv_nil] at q
    exact q)
  have qx : Hid (∀ W, ALv w u1.heap.size ⟨pnm, pa1, 2, pc1, pa2, 2, pc2, pa3, 1, pc3⟩ a W → Calls Tryz.prog 20 #[.agg #[.string pnm, .slice pa1 2 pc1, .slice pa2 2 pc2, .slice pa3 1 pc3], .slice a 2 2, .int .i64 1] W (fun e w' => e = .returned (.tuple #[.agg #[.int .i64 0, .int .i64 0, .string ⟨#[]⟩, .string ⟨#[]⟩, .int .i64 0, .string ⟨#[]⟩], .bool false]) ∧ Below W.heap.size W w')) := Lib.hid (fun W h => by
    have q := aedge_bad _ guardD a 2 2 guardL 1 W h.pr h.zr (.inr (.inr (by show ((1 : Nat) : Int) ≤ 1; omega)))
    exact q)
  have ro1 : Hid (∀ W : World, RO alC (W.alloc (.cells #[.int .i64 1, .int .i64 1, .string ⟨#[109, 97, 105, 110]⟩, .string ⟨#[97, 46, 103, 111]⟩, .int .i64 3, .string ⟨#[105, 32, 45, 32, 110, 32, 60, 61, 32, 48]⟩] 23)) (some ⟨W.heap.size, 0, none⟩) 1 1 [wantA]) := Lib.hid (fun W => ⟨rfl, Nat.le_refl _, by simp [maxLen], seesC_lit W 23 #[.int .i64 1, .int .i64 1, .string ⟨#[109, 97, 105, 110]⟩, .string ⟨#[97, 46, 103, 111]⟩, .int .i64 3, .string ⟨#[105, 32, 45, 32, 110, 32, 60, 61, 32, 48]⟩]⟩)
  have ro2 : Hid (∀ W : World, RO alC (W.alloc (.cells #[.int .i64 1, .int .i64 1, .string ⟨#[109, 97, 105, 110]⟩, .string ⟨#[97, 46, 103, 111]⟩, .int .i64 3, .string ⟨#[105, 32, 45, 32, 110, 32, 60, 61, 32, 48]⟩, .int .i64 1, .int .i64 1, .string ⟨#[109, 97, 105, 110]⟩, .string ⟨#[97, 46, 103, 111]⟩, .int .i64 2, .string ⟨#[105, 32, 45, 32, 110, 32, 60, 61, 32, 48]⟩] 23)) (some ⟨W.heap.size, 0, none⟩) 2 2 [wantA, wantB]) := Lib.hid (fun W => ⟨rfl, Nat.le_refl _, by simp [maxLen], seesC_lit W 23 #[.int .i64 1, .int .i64 1, .string ⟨#[109, 97, 105, 110]⟩, .string ⟨#[97, 46, 103, 111]⟩, .int .i64 3, .string ⟨#[105, 32, 45, 32, 110, 32, 60, 61, 32, 48]⟩, .int .i64 1, .int .i64 1, .string ⟨#[109, 97, 105, 110]⟩, .string ⟨#[97, 46, 103, 111]⟩, .int .i64 2, .string ⟨#[105, 32, 45, 32, 110, 32, 60, 61, 32, 48]⟩]⟩)
  have ro3 : Hid (∀ W : World, RO alC (W.alloc (.cells #[.int .i64 1, .int .i64 1, .string ⟨#[109, 97, 105, 110]⟩, .string ⟨#[97, 46, 103, 111]⟩, .int .i64 2, .string ⟨#[105, 32, 45, 32, 110, 32, 60, 61, 32, 48]⟩, .int .i64 1, .int .i64 1, .string ⟨#[109, 97, 105, 110]⟩, .string ⟨#[97, 46, 103, 111]⟩, .int .i64 3, .string ⟨#[105, 32, 45, 32, 110, 32, 60, 61, 32, 48]⟩] 23)) (some ⟨W.heap.size, 0, none⟩) 2 2 [wantB, wantA]) := Lib.hid (fun W => ⟨rfl, Nat.le_refl _, by simp [maxLen], seesC_lit W 23 #[.int .i64 1, .int .i64 1, .string ⟨#[109, 97, 105, 110]⟩, .string ⟨#[97, 46, 103, 111]⟩, .int .i64 2, .string ⟨#[105, 32, 45, 32, 110, 32, 60, 61, 32, 48]⟩, .int .i64 1, .int .i64 1, .string ⟨#[109, 97, 105, 110]⟩, .string ⟨#[97, 46, 103, 111]⟩, .int .i64 3, .string ⟨#[105, 32, 45, 32, 110, 32, 60, 61, 32, 48]⟩]⟩)
  have qs : Hid (∀ W a, RO alC W a 2 2 [wantA, wantB] → Calls Tryz.prog 14 #[.slice a 2 2] W (fun e w' => ∃ a' c', e = .returned (.slice a' 2 c') ∧ RO alC w' a' 2 c' [wantB, wantA] ∧ Below W.heap.size W w')) := Lib.hid (fun W a h => by
    have q := asort_any a 2 2 [wantA, wantB] W h (by omega)
    rw [lv_two] at q
    exact q)
  have qr : Hid (∀ W l n a c a' c', RO alC W a n c l → RO alC W a' n c' l → Calls Tryz.prog 13 #[.slice a n c, .slice a' n c'] W (Gives (.bool true) W)) := Lib.hid (fun W l n a c a' c' h1 h2 => by
    have q := ralSame_any a a' n n c c' l l W h1 h2
    rw [lv_same] at q
    exact q.mono fun e w' h => drawn_gives h)
  have qm : Hid (∀ W l n a c a' c', RO alC W a n c l → RO alC W a' n c' l → Calls Tryz.prog 16 #[.slice a n c, .slice a' n c'] W (Gives (.bool true) W)) := Lib.hid (fun W l n a c a' c' h1 h2 => by
    have q := alSame_any a a' n n c c' l l W h1 h2
    rw [lv_same] at q
    exact q.mono fun e w' h => drawn_gives h)
  have qk : Hid (∀ W, Calls Tryz.prog 9 #[.agg #[.int .i64 1, .int .i64 1, .string ⟨#[109, 97, 105, 110]⟩, .string ⟨#[97, 46, 103, 111]⟩, .int .i64 3, .string ⟨#[105, 32, 45, 32, 110, 32, 60, 61, 32, 48]⟩]] W (Gives (.int .i64 0) W)) := Lib.hid (fun W => by
    have q := acheck_any wantA W
    rw [lv_ok] at q
    exact q)
  have qz : Hid (∀ W, Calls Tryz.prog 9 #[.agg #[.int .i64 0, .int .i64 0, .string ⟨#[]⟩, .string ⟨#[]⟩, .int .i64 0, .string ⟨#[]⟩]] W (Gives (.int .i64 170) W)) := Lib.hid (fun W => by
    have q := acheck_any al0 W
    rw [lv_no] at q
    exact q)
  have qc : Hid (∀ W, Calls Tryz.prog 11 #[.agg #[.int .i64 1, .int .i64 1, .string ⟨#[109, 97, 105, 110]⟩, .string ⟨#[97, 46, 103, 111]⟩, .int .i64 3, .string ⟨#[105, 32, 45, 32, 110, 32, 60, 61, 32, 48]⟩], .agg #[.int .i64 1, .int .i64 1, .string ⟨#[109, 97, 105, 110]⟩, .string ⟨#[97, 46, 103, 111]⟩, .int .i64 2, .string ⟨#[105, 32, 45, 32, 110, 32, 60, 61, 32, 48]⟩]] W (Gives (.int .i64 1) W)) := Lib.hid (fun W => by
    have q := acmpo_any wantA wantB W
    rw [lv_cmp] at q
    exact q)
  clear hU bU L0 hp hz hb1 q1 T
  generalize wantA = wA at *
  generalize wantB = wB at *
  go_wp2_with fail
  rw [← hU'.out]
  with_reducible refine (qe.out _ L.out).mono ?_
  rintro e u3 ⟨rfl, b3⟩
  replace L := Lib.hid (L.out.below b3)
  have bx := box_below u3 #[.int .i64 1, .int .i64 1, .string ⟨#[109, 97, 105, 110]⟩, .string ⟨#[97, 46, 103, 111]⟩, .int .i64 3, .string ⟨#[105, 32, 45, 32, 110, 32, 60, 61, 32, 48]⟩] 23
  obtain ⟨U4, hU4⟩ : ∃ U4, U4 = u3.alloc (.cells #[.int .i64 1, .int .i64 1, .string ⟨#[109, 97, 105, 110]⟩, .string ⟨#[97, 46, 103, 111]⟩, .int .i64 3, .string ⟨#[105, 32, 45, 32, 110, 32, 60, 61, 32, 48]⟩] 23) := ⟨_, rfl⟩
  have A4 := Lib.hid (show Holds U4 u3.heap.size 23 #[.int .i64 1, .int .i64 1, .string ⟨#[109, 97, 105, 110]⟩, .string ⟨#[97, 46, 103, 111]⟩, .int .i64 3, .string ⟨#[105, 32, 45, 32, 110, 32, 60, 61, 32, 48]⟩] by rw [hU4]; exact Holds.new _ _ _)
  have L4 := L.out.below bx
  have k0 := L4.box.cell 0
  have k1 := L4.box.cell 1
  have k2 := L4.box.cell 2
  have k3 := L4.box.cell 3
  simp at k0 k1 k2 k3
  have hlt1 := L.out.box.lt
  rw [← hU4] at L4
  replace L := Lib.hid L4
  have hU4' := Lib.hid hU4
  clear b3 qe hU' hU4 L4 bx
  go_wp2_with fail
  rw [← hU4'.out]
  with_reducible refine (qo.out _ L.out).mono ?_
  rintro e u5 ⟨ma, mc, rfl, hm, b5⟩
  replace L := Lib.hid (L.out.below b5)
  replace A4 := Lib.hid (A4.out.below b5 A4.out.lt)
  have M := Lib.hid hm
  clear b5 hm qo hU4' k0 k1 k2 k3
  have k0 := L.out.box.cell 0
  have k1 := L.out.box.cell 1
  have k2 := L.out.box.cell 2
  have k3 := L.out.box.cell 3
  simp at k0 k1 k2 k3
  go_wp2_with fail
  with_reducible refine (qn.out _ L.out).mono ?_
  rintro e u6 ⟨na, nc, rfl, -, b6⟩
  replace L := Lib.hid (L.out.below b6)
  replace A4 := Lib.hid (A4.out.below b6 A4.out.lt)
  replace M := Lib.hid (M.out.below b6)
  clear b6 qn k0 k1 k2 k3
  have k0 := L.out.box.cell 0
  have k1 := L.out.box.cell 1
  have k2 := L.out.box.cell 2
  have k3 := L.out.box.cell 3
  simp at k0 k1 k2 k3
  go_wp2_with fail
  with_reducible refine (qx.out _ L.out).mono ?_
  rintro e u7 ⟨rfl, b7⟩
  replace L := Lib.hid (L.out.below b7)
  replace A4 := Lib.hid (A4.out.below b7 A4.out.lt)
  replace M := Lib.hid (M.out.below b7)
  clear b7 qx k0 k1 k2 k3
  obtain ⟨V1, hV1⟩ : ∃ V1, V1 = u7.alloc (.cells #[.int .i64 0, .int .i64 0, .string ⟨#[]⟩, .string ⟨#[]⟩, .int .i64 0, .string ⟨#[]⟩] 23) := ⟨_, rfl⟩
  have bV1 : Below u7.heap.size u7 V1 := by rw [hV1]; exact box_below _ _ _
  obtain ⟨V3, hV3⟩ : ∃ V3, V3 = V1.alloc (.cells #[.int .i64 1, .int .i64 1, .string ⟨#[109, 97, 105, 110]⟩, .string ⟨#[97, 46, 103, 111]⟩, .int .i64 2, .string ⟨#[105, 32, 45, 32, 110, 32, 60, 61, 32, 48]⟩] 23) := ⟨_, rfl⟩
  have bV2 : Below V1.heap.size V1 V3 := by rw [hV3]; exact box_below _ _ _
  have zV1 : V1.heap.size = u7.heap.size + 1 := by rw [hV1]; simp
  have HB3 : Holds V3 (u7.heap.size + 1) 23 #[.int .i64 1, .int .i64 1, .string ⟨#[109, 97, 105, 110]⟩, .string ⟨#[97, 46, 103, 111]⟩, .int .i64 2, .string ⟨#[105, 32, 45, 32, 110, 32, 60, 61, 32, 48]⟩] := by rw [hV3, ← zV1]; exact Holds.new _ _ _
  have bV3 : Below u7.heap.size u7 V3 := bV1.trans (bV2.mono bV1.size)
  obtain ⟨V4, hV4⟩ : ∃ V4, V4 = V3.alloc (.cells #[.int .i64 1, .int .i64 1, .string ⟨#[109, 97, 105, 110]⟩, .string ⟨#[97, 46, 103, 111]⟩, .int .i64 3, .string ⟨#[105, 32, 45, 32, 110, 32, 60, 61, 32, 48]⟩, .int .i64 1, .int .i64 1, .string ⟨#[109, 97, 105, 110]⟩, .string ⟨#[97, 46, 103, 111]⟩, .int .i64 2, .string ⟨#[105, 32, 45, 32, 110, 32, 60, 61, 32, 48]⟩] 23) := ⟨_, rfl⟩
  have bV4 : Below V3.heap.size V3 V4 := by rw [hV4]; exact box_below _ _ _
  have zV3 : V3.heap.size = u7.heap.size + 1 + 1 := by rw [hV3]; simp [zV1]
  have R4 := ro2.out V3
  rw [← hV4, zV3] at R4
  have b74 := bV3.trans (bV4.mono bV3.size)
  have L4 := L.out.below b74
  have B4 := Lib.hid (HB3.below bV4 HB3.lt)
  have hla := A4.out.lt
  have hl1 := L.out.wb.lt
  have w1 := L.out.wb.below bV1 L.out.wb.lt
  have w3 := L.out.wb.below bV3 L.out.wb.lt
  have x0 := w1.cell 0
  have x1 := w1.cell 1
  have x2 := w1.cell 2
  have x3 := w1.cell 3
  have x4 := w1.cell 4
  have x5 := w1.cell 5
  have y0 := w3.cell 0
  have y1 := w3.cell 1
  have y2 := w3.cell 2
  have y3 := w3.cell 3
  have y4 := w3.cell 4
  have y5 := w3.cell 5
  have z0 := HB3.cell 0
  have z1 := HB3.cell 1
  have z2 := HB3.cell 2
  have z3 := HB3.cell 3
  have z4 := HB3.cell 4
  have z5 := HB3.cell 5
  simp at x0 x1 x2 x3 x4 x5 y0 y1 y2 y3 y4 y5 z0 z1 z2 z3 z4 z5
  replace A4 := Lib.hid (A4.out.below b74 A4.out.lt)
  replace M := Lib.hid (M.out.below b74)
  replace L := Lib.hid L4
  have RR := Lib.hid R4
  clear bV1 bV2 zV1 HB3 bV3 bV4 zV3 R4 b74 L4 w1 w3
  have hVV := Lib.hid (And.intro hV1 (And.intro hV3 hV4))
  rw [hV3, hV1] at y0 y1 y2 y3 y4 y5 z0 z1 z2 z3 z4 z5
  rw [hV1] at x0 x1 x2 x3 x4 x5
  clear hV1 hV3 hV4
  go_wp2_with fail
  rw [← hVV.out.1, ← hVV.out.2.1, ← hVV.out.2.2]
  with_reducible refine (qs.out _ _ RR.out).mono ?_
  rintro e u8 ⟨sa, sc, rfl, hs, b8⟩
  replace L := Lib.hid (L.out.below b8)
  replace A4 := Lib.hid (A4.out.below b8 A4.out.lt)
  replace M := Lib.hid (M.out.below b8)
  replace B4 := Lib.hid (B4.out.below b8 B4.out.lt)
  have SS := Lib.hid hs
  clear b8 hs qs RR hVV x0 x1 x2 x3 x4 x5 y0 y1 y2 y3 y4 y5 z0 z1 z2 z3 z4 z5
  have x0 := L.out.wb.cell 0
  have x1 := L.out.wb.cell 1
  have x2 := L.out.wb.cell 2
  have x3 := L.out.wb.cell 3
  have x4 := L.out.wb.cell 4
  have x5 := L.out.wb.cell 5
  have z0 := B4.out.cell 0
  have z1 := B4.out.cell 1
  have z2 := B4.out.cell 2
  have z3 := B4.out.cell 3
  have z4 := B4.out.cell 4
  have z5 := B4.out.cell 5
  simp at x0 x1 x2 x3 x4 x5 z0 z1 z2 z3 z4 z5
  have s0 := A4.out.cell 0
  have s1 := A4.out.cell 1
  have s2 := A4.out.cell 2
  have s3 := A4.out.cell 3
  have s4 := A4.out.cell 4
  have s5 := A4.out.cell 5
  simp at s0 s1 s2 s3 s4 s5
  have RY1 := ro1.out u8
  obtain ⟨Y1, hY1⟩ : ∃ Y1, Y1 = u8.alloc (.cells #[.int .i64 1, .int .i64 1, .string ⟨#[109, 97, 105, 110]⟩, .string ⟨#[97, 46, 103, 111]⟩, .int .i64 3, .string ⟨#[105, 32, 45, 32, 110, 32, 60, 61, 32, 48]⟩] 23) := ⟨_, rfl⟩
  have bY1 : Below u8.heap.size u8 Y1 := by rw [hY1]; exact box_below _ _ _
  rw [← hY1] at RY1
  replace L := Lib.hid (L.out.below bY1)
  replace B4 := Lib.hid (B4.out.below bY1 B4.out.lt)
  replace M := Lib.hid (M.out.below bY1)
  replace SS := Lib.hid (SS.out.below bY1)
  have hY1' := Lib.hid hY1
  have qq := Lib.hid (qr.out Y1 _ 1 _ _ _ _ M.out RY1)
  clear RY1 bY1 hY1
  go_wp2_with fail
  rw [← hY1'.out]
  with_reducible refine qq.out.mono ?_
  rintro e t1 ⟨rfl, c1⟩
  replace L := Lib.hid (L.out.below c1)
  replace B4 := Lib.hid (B4.out.below c1 B4.out.lt)
  replace M := Lib.hid (M.out.below c1)
  replace SS := Lib.hid (SS.out.below c1)
  clear c1 qq hY1' x0 x1 x2 x3 x4 x5 z0 z1 z2 z3 z4 z5 s0 s1 s2 s3 s4 s5
  have x0 := L.out.wb.cell 0
  have x1 := L.out.wb.cell 1
  have x2 := L.out.wb.cell 2
  have x3 := L.out.wb.cell 3
  have x4 := L.out.wb.cell 4
  have x5 := L.out.wb.cell 5
  have z0 := B4.out.cell 0
  have z1 := B4.out.cell 1
  have z2 := B4.out.cell 2
  have z3 := B4.out.cell 3
  have z4 := B4.out.cell 4
  have z5 := B4.out.cell 5
  simp at x0 x1 x2 x3 x4 x5 z0 z1 z2 z3 z4 z5
  go_wp2_with fail
  with_reducible refine (qk.out _).mono ?_
  rintro e t2 ⟨rfl, c2⟩
  replace L := Lib.hid (L.out.below c2)
  replace B4 := Lib.hid (B4.out.below c2 B4.out.lt)
  replace M := Lib.hid (M.out.below c2)
  replace SS := Lib.hid (SS.out.below c2)
  clear c2 qk x0 x1 x2 x3 x4 x5 z0 z1 z2 z3 z4 z5
  have x0 := L.out.wb.cell 0
  have x1 := L.out.wb.cell 1
  have x2 := L.out.wb.cell 2
  have x3 := L.out.wb.cell 3
  have x4 := L.out.wb.cell 4
  have x5 := L.out.wb.cell 5
  have z0 := B4.out.cell 0
  have z1 := B4.out.cell 1
  have z2 := B4.out.cell 2
  have z3 := B4.out.cell 3
  have z4 := B4.out.cell 4
  have z5 := B4.out.cell 5
  simp at x0 x1 x2 x3 x4 x5 z0 z1 z2 z3 z4 z5
  go_wp2_with fail
  with_reducible refine (qz.out _).mono ?_
  rintro e t3 ⟨rfl, c3⟩
  replace L := Lib.hid (L.out.below c3)
  replace B4 := Lib.hid (B4.out.below c3 B4.out.lt)
  replace M := Lib.hid (M.out.below c3)
  replace SS := Lib.hid (SS.out.below c3)
  clear c3 qz x0 x1 x2 x3 x4 x5 z0 z1 z2 z3 z4 z5
  have x0 := L.out.wb.cell 0
  have x1 := L.out.wb.cell 1
  have x2 := L.out.wb.cell 2
  have x3 := L.out.wb.cell 3
  have x4 := L.out.wb.cell 4
  have x5 := L.out.wb.cell 5
  have z0 := B4.out.cell 0
  have z1 := B4.out.cell 1
  have z2 := B4.out.cell 2
  have z3 := B4.out.cell 3
  have z4 := B4.out.cell 4
  have z5 := B4.out.cell 5
  simp at x0 x1 x2 x3 x4 x5 z0 z1 z2 z3 z4 z5
  go_wp2_with fail
  with_reducible refine (qc.out _).mono ?_
  rintro e t4 ⟨rfl, c4⟩
  replace L := Lib.hid (L.out.below c4)
  replace B4 := Lib.hid (B4.out.below c4 B4.out.lt)
  replace M := Lib.hid (M.out.below c4)
  replace SS := Lib.hid (SS.out.below c4)
  clear c4 qc x0 x1 x2 x3 x4 x5 z0 z1 z2 z3 z4 z5
  have x0 := L.out.wb.cell 0
  have x1 := L.out.wb.cell 1
  have x2 := L.out.wb.cell 2
  have x3 := L.out.wb.cell 3
  have x4 := L.out.wb.cell 4
  have x5 := L.out.wb.cell 5
  have z0 := B4.out.cell 0
  have z1 := B4.out.cell 1
  have z2 := B4.out.cell 2
  have z3 := B4.out.cell 3
  have z4 := B4.out.cell 4
  have z5 := B4.out.cell 5
  simp at x0 x1 x2 x3 x4 x5 z0 z1 z2 z3 z4 z5
  have RY2 := ro3.out t4
  obtain ⟨Y2, hY2⟩ : ∃ Y2, Y2 = t4.alloc (.cells #[.int .i64 1, .int .i64 1, .string ⟨#[109, 97, 105, 110]⟩, .string ⟨#[97, 46, 103, 111]⟩, .int .i64 2, .string ⟨#[105, 32, 45, 32, 110, 32, 60, 61, 32, 48]⟩, .int .i64 1, .int .i64 1, .string ⟨#[109, 97, 105, 110]⟩, .string ⟨#[97, 46, 103, 111]⟩, .int .i64 3, .string ⟨#[105, 32, 45, 32, 110, 32, 60, 61, 32, 48]⟩] 23) := ⟨_, rfl⟩
  have bY2 : Below t4.heap.size t4 Y2 := by rw [hY2]; exact box_below _ _ _
  rw [← hY2] at RY2
  replace L := Lib.hid (L.out.below bY2)
  replace B4 := Lib.hid (B4.out.below bY2 B4.out.lt)
  replace M := Lib.hid (M.out.below bY2)
  replace SS := Lib.hid (SS.out.below bY2)
  have hY2' := Lib.hid hY2
  have qq := Lib.hid (qr.out Y2 _ 2 _ _ _ _ SS.out RY2)
  clear RY2 bY2 hY2
  go_wp2_with fail
  rw [← hY2'.out]
  with_reducible refine qq.out.mono ?_
  rintro e t5 ⟨rfl, c5⟩
  replace L := Lib.hid (L.out.below c5)
  replace B4 := Lib.hid (B4.out.below c5 B4.out.lt)
  replace M := Lib.hid (M.out.below c5)
  replace SS := Lib.hid (SS.out.below c5)
  clear c5 qq hY2' x0 x1 x2 x3 x4 x5 z0 z1 z2 z3 z4 z5
  have x0 := L.out.wb.cell 0
  have x1 := L.out.wb.cell 1
  have x2 := L.out.wb.cell 2
  have x3 := L.out.wb.cell 3
  have x4 := L.out.wb.cell 4
  have x5 := L.out.wb.cell 5
  have z0 := B4.out.cell 0
  have z1 := B4.out.cell 1
  have z2 := B4.out.cell 2
  have z3 := B4.out.cell 3
  have z4 := B4.out.cell 4
  have z5 := B4.out.cell 5
  simp at x0 x1 x2 x3 x4 x5 z0 z1 z2 z3 z4 z5
  have RY3 := ro1.out t5
  obtain ⟨Y3, hY3⟩ : ∃ Y3, Y3 = t5.alloc (.cells #[.int .i64 1, .int .i64 1, .string ⟨#[109, 97, 105, 110]⟩, .string ⟨#[97, 46, 103, 111]⟩, .int .i64 3, .string ⟨#[105, 32, 45, 32, 110, 32, 60, 61, 32, 48]⟩] 23) := ⟨_, rfl⟩
  have bY3 : Below t5.heap.size t5 Y3 := by rw [hY3]; exact box_below _ _ _
  rw [← hY3] at RY3
  replace L := Lib.hid (L.out.below bY3)
  replace B4 := Lib.hid (B4.out.below bY3 B4.out.lt)
  replace M := Lib.hid (M.out.below bY3)
  replace SS := Lib.hid (SS.out.below bY3)
  have hY3' := Lib.hid hY3
  have qq := Lib.hid (qm.out Y3 _ 1 _ _ _ _ M.out RY3)
  clear RY3 bY3 hY3
  go_wp2_with fail
  rw [← hY3'.out]
  with_reducible refine qq.out.mono ?_
  rintro e t6 ⟨rfl, c6⟩
  replace L := Lib.hid (L.out.below c6)
  replace B4 := Lib.hid (B4.out.below c6 B4.out.lt)
  replace M := Lib.hid (M.out.below c6)
  replace SS := Lib.hid (SS.out.below c6)
  clear c6 qq hY3' x0 x1 x2 x3 x4 x5 z0 z1 z2 z3 z4 z5
  go_wp2
  go_ret
  exact ⟨rfl, L.out.bel⟩
end Go.Proofs.YtimgocfkogebmaaGreatDoor
