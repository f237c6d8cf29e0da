/-
  Words and walks under the law's proof.
-/
import Derived.Test.YtgeliikfgnkppaaGreatDoorQS08
import Derived.Test.YtgeliikfgnkppaaGreatDoorQS09
import Derived.Test.YtgeliikfgnkppaaGreatDoorQS10
namespace Go.Proofs.YtgeliikfgnkppaaGreatDoor
open Go.RowKit
set_option linter.unusedVariables false
set_option linter.unusedSimpArgs false
theorem psl_lit (w : World) (l : List Int) (n : Nat) (hn : n = l.length) (hm : n ≤ 1000) (cs : Array Value) (hc : cs = (nums .i64 l).toArray) : SL (w.alloc (.cells cs 3)) (some ⟨w.heap.size, 0, none⟩) n n l := by
  subst hn
  exact ⟨rfl, Nat.le_refl _, by omega, by have := sees_new .i64 w 3 l cs hc; simpa using this⟩
theorem ptt_any (w : World) : TT (w.alloc (.cells #[.string ⟨#[97, 110, 121]⟩] 9)) (some ⟨w.heap.size, 0, none⟩) 1 1 anyV :=
  ⟨rfl, Nat.le_refl _, by unfold maxLen; omega, seesT_cells (l := anyV) (seesC_lit w 9 #[.string ⟨#[97, 110, 121]⟩])⟩
structure Lv (w : World) (g : Nat) (pnm : ByteArray) (pa1 : Option Addr) (pc1 : Nat) (pa2 : Option Addr) (pc2 : Nat) (pa3 : Option Addr) (pc3 : Nat) (W : World) : Prop where
  pr : PrA W ⟨pnm, pa1, 2, pc1, pa2, 5, pc2, pa3, 4, pc3⟩ smallD
  box : Holds W g 26 #[.string pnm, .slice pa1 2 pc1, .slice pa2 5 pc2, .slice pa3 4 pc3]
  bel : Below w.heap.size w W
  tab : Tab W
theorem Lv.below {w : World} {g : Nat} {pnm : ByteArray} {pa1 : Option Addr} {pc1 : Nat} {pa2 : Option Addr} {pc2 : Nat} {pa3 : Option Addr} {pc3 : Nat} {W W' : World} (h : Lv w g pnm pa1 pc1 pa2 pc2 pa3 pc3 W) (hb : Below W.heap.size W W') : Lv w g pnm pa1 pc1 pa2 pc2 pa3 pc3 W' :=
  ⟨h.pr.below hb, h.box.below hb h.box.lt, h.bel.trans (hb.mono h.bel.size), h.tab.on hb⟩
theorem lv_edges {w : World} {g : Nat} {pnm : ByteArray} {pa1 : Option Addr} {pc1 : Nat} {pa2 : Option Addr} {pc2 : Nat} {b off : Nat} {pc3 : Nat} {W : World} (h : Lv w g pnm pa1 pc1 pa2 pc2 (some ⟨b, off, none⟩) pc3 W) :
    (W.cell? ⟨b, off + 16, none⟩ = some (.int .i64 2) ∧ W.cell? ⟨b, off + 17, none⟩ = some (.int .i64 1) ∧ W.cell? ⟨b, off + 18, none⟩ = some (.int .i64 1) ∧ W.cell? ⟨b, off + 19, none⟩ = some (.int .i64 1) ∧ W.cell? ⟨b, off + 20, none⟩ = some (.int .i64 0)) ∧
    (W.cell? ⟨b, off + 2, none⟩ = some (.int .i64 2) ∧ W.cell? ⟨b, off + 3, none⟩ = some (.int .i64 1) ∧ W.cell? ⟨b, off + 4, none⟩ = some (.int .i64 0) ∧ W.cell? ⟨b, off + 5, none⟩ = some (.int .i64 0) ∧ W.cell? ⟨b, off + 6, none⟩ = some (.int .i64 0)) ∧ b < W.heap.size := by
  obtain ⟨b1, off1, he1, hbl, -, -, k2, x2, y2, c2, d2⟩ := edges_at h.pr.edges (i := 2) (by show (2 : Nat) < 4; omega)
  obtain ⟨b', off', he', -, -, -, k0, x0, y0, c0, d0⟩ := edges_at h.pr.edges (i := 0) (by show (0 : Nat) < 4; omega)
  injection he1 with he1
  injection he1 with h1 h2
  injection he' with he'
  injection he' with h1' h2'
  subst h1 h2 h1' h2'
  refine ⟨⟨k2, x2, y2, c2, d2⟩, ⟨?_, ?_, ?_, ?_, ?_⟩, hbl⟩
  · rw [show off + 0 * 7 + 2 = off + 2 by omega] at k0; exact k0
  · rw [show off + 0 * 7 + 3 = off + 3 by omega] at x0; exact x0
  · rw [show off + 0 * 7 + 4 = off + 4 by omega] at y0; exact y0
  · rw [show off + 0 * 7 + 5 = off + 5 by omega] at c0; exact c0
  · rw [show off + 0 * 7 + 6 = off + 6 by omega] at d0; exact d0
set_option maxRecDepth 100000 in
set_option maxHeartbeats 16000000 in
theorem lives_any (w : World) (ht : Tab w) : Calls Tryz.prog 8 #[] w (Gives (.bool true) w) := by
  have T := Lib.hid ht
  clear ht
  have q1 := Lib.hid (small_any w)
  go_enter Tryz.func8, Tryz.ntmps8
  go_wp2_with fail
  with_reducible refine q1.out.mono ?_
  rintro e u1 ⟨⟨pnm, pa1, pn1, pc1, pa2, pn2, pc2, pa3, pn3, pc3⟩, he, hp, hb1⟩
  obtain rfl : pn1 = 2 := hp.vars.len
  obtain rfl : pn2 = 5 := hp.spots.len
  obtain rfl : pn3 = 4 := hp.edges.len
  obtain ⟨b, off, hpe, -⟩ := edges_at hp.edges (i := 2) (by show (2 : Nat) < 4; omega)
  replace hpe : pa3 = some ⟨b, off, none⟩ := hpe
  subst hpe
  replace he := show e = .returned (.agg #[.string pnm, .slice pa1 2 pc1, .slice pa2 5 pc2, .slice (some ⟨b, off, none⟩) 4 pc3]) from he
  subst he
  obtain ⟨u2, hu2⟩ : ∃ u2, u2 = u1.alloc (.cells #[.string pnm, .slice pa1 2 pc1, .slice pa2 5 pc2, .slice (some ⟨b, off, none⟩) 4 pc3] 26) := ⟨_, rfl⟩
  have b2 : Below u1.heap.size u1 u2 := by rw [hu2]; exact box_below _ _ _
  have L0 : Lv w u1.heap.size pnm pa1 pc1 pa2 pc2 (some ⟨b, off, none⟩) pc3 u2 := ⟨hp.below b2, by rw [hu2]; exact Holds.new _ _ _, hb1.trans (b2.mono hb1.size), T.out.on (hb1.trans (b2.mono hb1.size))⟩
  have L := Lib.hid L0
  have hu2' := Lib.hid hu2
  clear hu2 b2 L0 hp hb1 q1 T
  have qsh : Hid (∀ W, Tab W → TT W pa1 2 pc1 smallD.vars → Calls Tryz.prog 20 #[.slice pa1 2 pc1, .agg #[.int .i64 2, .int .i64 1, .int .i64 1, .int .i64 1, .int .i64 0]] W (Gives (.tuple #[.string incText, .int .i64 0]) W)) := Lib.hid (fun W h1 h2 => by
    have q := pshow_any pa1 2 pc1 smallD.vars 2 1 1 1 0 W h1 h2
    rw [small_showE, small_showP] at q
    exact q)
  have qp1 : Hid (∀ W, Tab W → TT W pa1 2 pc1 smallD.vars → Calls Tryz.prog 24 #[.slice pa1 2 pc1, .string ⟨#[99, 104, 101, 99, 107, 32, 105, 32, 45, 32, 110, 32, 60, 61, 32, 45, 49]⟩] W (Gives (.tuple #[.agg #[.int .i64 5, .int .i64 1, .int .i64 2, .int .i64 (-1), .int .i64 0], .int .i64 0]) W)) := Lib.hid (fun W h1 h2 => by
    have q := pparse_any pa1 2 pc1 smallD.vars chkText W h1 h2
    rw [small_parse] at q
    exact q)
  obtain ⟨k, x, y, c, d, hst⟩ : ∃ k x y c d, parsedP smallD.vars addText = ((k, x, y, c, d), 111) := ⟨_, _, _, _, _, Prod.ext rfl small_noparse⟩
  have qp2 : Hid (∀ W, Tab W → TT W pa1 2 pc1 smallD.vars → Calls Tryz.prog 24 #[.slice pa1 2 pc1, .string ⟨#[105, 32, 58, 61, 32, 105, 32, 43, 32, 48]⟩] W (Gives (.tuple #[.agg #[.int .i64 k, .int .i64 x, .int .i64 y, .int .i64 c, .int .i64 d], .int .i64 111]) W)) := Lib.hid (fun W h1 h2 => by
    have q := pparse_any pa1 2 pc1 smallD.vars addText W h1 h2
    rw [hst] at q
    exact q)
  have qs2 : Hid (∀ a W, Tab W → TT W a 1 1 anyV → Calls Tryz.prog 20 #[.slice a 1 1, .agg #[.int .i64 2, .int .i64 1, .int .i64 0, .int .i64 0, .int .i64 0]] W (Gives (.tuple #[.string (showP anyV 2 1 0 0 0), .int .i64 110]) W)) := Lib.hid (fun a W h1 h2 => by
    have q := pshow_any a 1 1 anyV 2 1 0 0 0 W h1 h2
    rw [any_showE] at q
    exact q)
  clear hst
  have hinc : (incText.toList == [105, 32, 58, 61, 32, 105, 32, 43, 32, 49]) = true := by
    rw [ByteArray.toList_eq]
    rfl
  generalize incText = IT at *
  generalize showP anyV 2 1 0 0 0 = SP at *
  have z0 : ∀ W, Below u2.heap.size u2 W → W.cell? ⟨u1.heap.size, 0, none⟩ = some (.string pnm) := fun W hW => (L.out.box.below hW L.out.box.lt).cell 0
  have z1 : ∀ W, Below u2.heap.size u2 W → W.cell? ⟨u1.heap.size, 1, none⟩ = some (.slice pa1 2 pc1) := fun W hW => (L.out.box.below hW L.out.box.lt).cell 1
  have z2 : ∀ W, Below u2.heap.size u2 W → W.cell? ⟨u1.heap.size, 2, none⟩ = some (.slice pa2 5 pc2) := fun W hW => (L.out.box.below hW L.out.box.lt).cell 2
  have z3 : ∀ W, Below u2.heap.size u2 W → W.cell? ⟨u1.heap.size, 3, none⟩ = some (.slice (some ⟨b, off, none⟩) 4 pc3) := fun W hW => (L.out.box.below hW L.out.box.lt).cell 3
  have v0 : ∀ W, Below u2.heap.size u2 W → W.cell? ⟨b, off + 16, none⟩ = some (.int .i64 2) := fun W hW => by obtain ⟨⟨h0, h1, h2, h3, h4⟩, -, -⟩ := lv_edges (L.out.below hW); exact h0
  have v1 : ∀ W, Below u2.heap.size u2 W → W.cell? ⟨b, off + 17, none⟩ = some (.int .i64 1) := fun W hW => by obtain ⟨⟨h0, h1, h2, h3, h4⟩, -, -⟩ := lv_edges (L.out.below hW); exact h1
  have v2 : ∀ W, Below u2.heap.size u2 W → W.cell? ⟨b, off + 18, none⟩ = some (.int .i64 1) := fun W hW => by obtain ⟨⟨h0, h1, h2, h3, h4⟩, -, -⟩ := lv_edges (L.out.below hW); exact h2
  have v3 : ∀ W, Below u2.heap.size u2 W → W.cell? ⟨b, off + 19, none⟩ = some (.int .i64 1) := fun W hW => by obtain ⟨⟨h0, h1, h2, h3, h4⟩, -, -⟩ := lv_edges (L.out.below hW); exact h3
  have v4 : ∀ W, Below u2.heap.size u2 W → W.cell? ⟨b, off + 20, none⟩ = some (.int .i64 0) := fun W hW => by obtain ⟨⟨h0, h1, h2, h3, h4⟩, -, -⟩ := lv_edges (L.out.below hW); exact h4
  go_wp2
  rw [← hu2'.out]
  clear hu2'
  refine wp_drawn_on (fun W => Below u2.heap.size u2 W) (by kernel_rfl) ((Below.refl _ _).drew) (fun hHeld => ?_)
  refine wpAnyH_take (i := 0) (oi := { dst := some 12, op := Go.Op.fieldAddr 26 (Go.Operand.tmp 1) 1, type := 0, pos := "law.go:30", after := #[], guard := none }) (v := ?v1) rfl (by kernel_rfl) (by kernel_rfl) (by kernel_rfl) (fun _ _ _ h => h) (Or.inl ⟨by kernel_rfl, ?h1⟩) (by assumption) ?r1
  case h1 => (intro w hSw; (try dsimp only at hSw); go_simp; try with_reducible rfl)
  try simp only [Act.put, List.setIfInBounds_toArray, List.set_cons_zero, List.set_cons_succ]
  refine wpAnyH_take (i := 1) (oi := { dst := some 13, op := Go.Op.load 22 (Go.Operand.tmp 12), type := 22, pos := "law.go:30", after := #[{ on := 0, ground := Go.Ground.data }], guard := none }) (v := ?v2) rfl (by kernel_rfl) (by kernel_rfl) (by kernel_rfl) (fun _ _ _ h => h) (Or.inl ⟨by kernel_rfl, ?h2⟩) (by assumption) ?r2
  case h2 => (intro w hSw; (try dsimp only at hSw); go_simp; try with_reducible rfl)
  try simp only [Act.put, List.setIfInBounds_toArray, List.set_cons_zero, List.set_cons_succ]
  refine wpAnyH_take (i := 2) (oi := { dst := some 14, op := Go.Op.fieldAddr 26 (Go.Operand.tmp 1) 3, type := 0, pos := "law.go:30", after := #[], guard := none }) (v := ?v3) rfl (by kernel_rfl) (by kernel_rfl) (by kernel_rfl) (fun _ _ _ h => h) (Or.inl ⟨by kernel_rfl, ?h3⟩) (by assumption) ?r3
  case h3 => (intro w hSw; (try dsimp only at hSw); go_simp; try with_reducible rfl)
  try simp only [Act.put, List.setIfInBounds_toArray, List.set_cons_zero, List.set_cons_succ]
  refine wpAnyH_take (i := 3) (oi := { dst := some 15, op := Go.Op.load 24 (Go.Operand.tmp 14), type := 24, pos := "law.go:30", after := #[{ on := 2, ground := Go.Ground.data }], guard := none }) (v := ?v4) rfl (by kernel_rfl) (by kernel_rfl) (by kernel_rfl) (fun _ _ _ h => h) (Or.inl ⟨by kernel_rfl, ?h4⟩) (by assumption) ?r4
  case h4 => (intro w hSw; (try dsimp only at hSw); go_simp; try with_reducible rfl)
  try simp only [Act.put, List.setIfInBounds_toArray, List.set_cons_zero, List.set_cons_succ]
  refine wpAnyH_take (i := 4) (oi := { dst := some 16, op := Go.Op.indexAddr 24 (Go.Operand.tmp 15) (Go.Operand.const (Go.Value.int Go.IntKind.i64 2)), type := 0, pos := "law.go:30", after := #[{ on := 3, ground := Go.Ground.data }], guard := none }) (v := ?v5) rfl (by kernel_rfl) (by kernel_rfl) (by kernel_rfl) (fun _ _ _ h => h) (Or.inl ⟨by kernel_rfl, ?h5⟩) (by assumption) ?r5
  case h5 => (intro w hSw; (try dsimp only at hSw); go_simp; try with_reducible rfl)
  try simp only [Act.put, List.setIfInBounds_toArray, List.set_cons_zero, List.set_cons_succ]
  refine wpAnyH_take (i := 5) (oi := { dst := some 17, op := Go.Op.fieldAddr 52 (Go.Operand.tmp 16) 2, type := 0, pos := "law.go:30", after := #[{ on := 4, ground := Go.Ground.data }], guard := none }) (v := ?v6) rfl (by kernel_rfl) (by kernel_rfl) (by kernel_rfl) (fun _ _ _ h => h) (Or.inl ⟨by kernel_rfl, ?h6⟩) (by assumption) ?r6
  case h6 => (intro w hSw; (try dsimp only at hSw); go_simp; try with_reducible rfl)
  try simp only [Act.put, List.setIfInBounds_toArray, List.set_cons_zero, List.set_cons_succ]
  refine wpAnyH_take (i := 6) (oi := { dst := some 18, op := Go.Op.load 38 (Go.Operand.tmp 17), type := 38, pos := "law.go:30", after := #[{ on := 5, ground := Go.Ground.data }], guard := none }) (v := ?v7) rfl (by kernel_rfl) (by kernel_rfl) (by kernel_rfl) (fun _ _ _ h => h) (Or.inl ⟨by kernel_rfl, ?h7⟩) (by assumption) ?r7
  case h7 => (intro w hSw; (try dsimp only at hSw); go_simp; try with_reducible rfl)
  try simp only [Act.put, List.setIfInBounds_toArray, List.set_cons_zero, List.set_cons_succ]
  refine wpAnyH_ready (rs := [7]) (by kernel_rfl) (by simp) ?_
  refine AllReadyH.cons (o := { dst := some 19, op := Go.Op.call { callee := Go.Callee.value (Go.Operand.func 20), args := #[Go.Operand.tmp 13, Go.Operand.tmp 18], argTypes := #[22, 38] }, type := 39, pos := "law.go:30", after := #[{ on := 1, ground := Go.Ground.data }, { on := 6, ground := Go.Ground.data }], guard := none }) rfl (fun K hK => ?_) AllReadyH.nil
  go_simp
  with_reducible refine (qsh.out _ (L.out.below hHeld).tab (L.out.below hHeld).pr.vars).mono ?_
  rintro e t7 ⟨rfl, b7⟩
  go_simp
  refine hK.out _ _ (hHeld.trans (b7.mono hHeld.size)) (fun hHeld => ?_)
  clear hK K
  try simp only [Act.put, List.setIfInBounds_toArray, List.set_cons_zero, List.set_cons_succ]
  refine wpAnyH_take (i := 8) (oi := { dst := some 11, op := Go.Op.move (Go.Operand.tmp 19), type := 39, pos := "law.go:30", after := #[{ on := 7, ground := Go.Ground.data }], guard := none }) (v := ?v8) rfl (by kernel_rfl) (by kernel_rfl) (by kernel_rfl) (fun _ _ _ h => h) (Or.inl ⟨by kernel_rfl, ?h8⟩) (by assumption) ?r8
  case h8 => (intro w hSw; (try dsimp only at hSw); go_simp; try with_reducible rfl)
  try simp only [Act.put, List.setIfInBounds_toArray, List.set_cons_zero, List.set_cons_succ]
  refine wpAnyH_take (i := 9) (oi := { dst := some 20, op := Go.Op.extract (Go.Operand.tmp 11) 0, type := 9, pos := "law.go:30", after := #[{ on := 8, ground := Go.Ground.data }], guard := none }) (v := ?v9) rfl (by kernel_rfl) (by kernel_rfl) (by kernel_rfl) (fun _ _ _ h => h) (Or.inl ⟨by kernel_rfl, ?h9⟩) (by assumption) ?r9
  case h9 => (intro w hSw; (try dsimp only at hSw); go_simp; try with_reducible rfl)
  try simp only [Act.put, List.setIfInBounds_toArray, List.set_cons_zero, List.set_cons_succ]
  refine wpAnyH_take (i := 10) (oi := { dst := some 21, op := Go.Op.extract (Go.Operand.tmp 11) 1, type := 29, pos := "law.go:30", after := #[{ on := 8, ground := Go.Ground.data }, { on := 11, ground := Go.Ground.gcOnly Go.Departure.lateStores }], guard := none }) (v := ?v10) rfl (by kernel_rfl) (by kernel_rfl) (by kernel_rfl) (fun _ _ _ h => h) (Or.inl ⟨by kernel_rfl, ?h10⟩) (by assumption) ?r10
  case h10 => (intro w hSw; (try dsimp only at hSw); go_simp; try with_reducible rfl)
  try simp only [Act.put, List.setIfInBounds_toArray, List.set_cons_zero, List.set_cons_succ]
  refine wpAnyH_take (i := 11) (oi := { dst := some 2, op := Go.Op.assign (Go.Operand.tmp 20), type := 9, pos := "law.go:30", after := #[{ on := 9, ground := Go.Ground.data }, { on := 7, ground := Go.Ground.chain }, { on := 0, ground := Go.Ground.phase }, { on := 1, ground := Go.Ground.phase }, { on := 2, ground := Go.Ground.phase }, { on := 3, ground := Go.Ground.phase }, { on := 4, ground := Go.Ground.phase }, { on := 5, ground := Go.Ground.phase }, { on := 6, ground := Go.Ground.phase }, { on := 7, ground := Go.Ground.phase }, { on := 8, ground := Go.Ground.phase }, { on := 9, ground := Go.Ground.phase }, { on := 10, ground := Go.Ground.textOnly Go.Departure.lateStores }], guard := none }) (v := ?v11) rfl (by kernel_rfl) (by kernel_rfl) (by kernel_rfl) (fun _ _ _ h => h) (Or.inl ⟨by kernel_rfl, ?h11⟩) (by assumption) ?r11
  case h11 => (intro w hSw; (try dsimp only at hSw); go_simp; try with_reducible rfl)
  try simp only [Act.put, List.setIfInBounds_toArray, List.set_cons_zero, List.set_cons_succ]
  refine wpAnyH_take (i := 12) (oi := { dst := some 3, op := Go.Op.assign (Go.Operand.tmp 21), type := 29, pos := "law.go:30", after := #[{ on := 10, ground := Go.Ground.data }, { on := 11, ground := Go.Ground.chain }, { on := 0, ground := Go.Ground.phase }, { on := 1, ground := Go.Ground.phase }, { on := 2, ground := Go.Ground.phase }, { on := 3, ground := Go.Ground.phase }, { on := 4, ground := Go.Ground.phase }, { on := 5, ground := Go.Ground.phase }, { on := 6, ground := Go.Ground.phase }, { on := 7, ground := Go.Ground.phase }, { on := 8, ground := Go.Ground.phase }, { on := 9, ground := Go.Ground.phase }, { on := 10, ground := Go.Ground.phase }, { on := 11, ground := Go.Ground.phase }], guard := none }) (v := ?v12) rfl (by kernel_rfl) (by kernel_rfl) (by kernel_rfl) (fun _ _ _ h => h) (Or.inl ⟨by kernel_rfl, ?h12⟩) (by assumption) ?r12
  case h12 => (intro w hSw; (try dsimp only at hSw); go_simp; try with_reducible rfl)
  try simp only [Act.put, List.setIfInBounds_toArray, List.set_cons_zero, List.set_cons_succ]
  refine wpAnyH_done (by kernel_rfl) ?_ _
  replace L := Lib.hid (L.out.below hHeld)
  clear z0 z1 z2 z3 v0 v1 v2 v3 v4 hHeld qsh
  have z1 := L.out.box.cell 1
  simp at z1
  go_wp2_with fail
  with_reducible refine (qp1.out _ L.out.tab L.out.pr.vars).mono ?_
  rintro e u4 ⟨rfl, b4⟩
  replace L := Lib.hid (L.out.below b4)
  clear b4 z1 qp1
  have z1 := L.out.box.cell 1
  have zl := L.out.box.lt
  simp at z1
  obtain ⟨u5, hu5⟩ : ∃ u5, u5 = u4.alloc (.cells #[.int .i64 5, .int .i64 1, .int .i64 2, .int .i64 (-1), .int .i64 0] 38) := ⟨_, rfl⟩
  have b5 : Below u4.heap.size u4 u5 := by rw [hu5]; exact box_below _ _ _
  have S4 : Hid (Holds u5 u4.heap.size 38 #[.int .i64 5, .int .i64 1, .int .i64 2, .int .i64 (-1), .int .i64 0]) := Lib.hid (by rw [hu5]; exact Holds.new _ _ _)
  replace L := Lib.hid (L.out.below b5)
  have hu5' := Lib.hid hu5
  clear b5 hu5
  go_wp2_with fail
  rw [← hu5'.out]
  clear z1 zl
  with_reducible refine (qp2.out _ L.out.tab L.out.pr.vars).mono ?_
  rintro e u6 ⟨rfl, b6⟩
  replace L := Lib.hid (L.out.below b6)
  replace S4 := Lib.hid (S4.out.below b6 S4.out.lt)
  clear b6 hu5' qp2
  obtain ⟨⟨-, -, -, -, -⟩, ⟨e0', e1', e2', e3', e4'⟩, el⟩ := lv_edges L.out
  have z3 := L.out.box.cell 3
  have zl := L.out.box.lt
  have zl' : u1.heap.size < u6.heap.size + 1 := by omega
  have el' : b < u6.heap.size + 1 := by omega
  simp at z3
  obtain ⟨u8, hu8⟩ : ∃ u8, u8 = (u6.alloc (.cells #[.int .i64 k, .int .i64 x, .int .i64 y, .int .i64 c, .int .i64 d] 38)).alloc (.cells #[.string ⟨#[97, 110, 121]⟩] 9) := ⟨_, rfl⟩
  have b8 : Below u6.heap.size u6 u8 := by rw [hu8]; exact (box_below _ _ _).alloc (by simp) _
  have ta : TT u8 (some ⟨u6.heap.size + 1, 0, none⟩) 1 1 anyV := (by rw [hu8]; have q := ptt_any (u6.alloc (.cells #[.int .i64 k, .int .i64 x, .int .i64 y, .int .i64 c, .int .i64 d] 38)); simpa using q)
  replace L := Lib.hid (L.out.below b8)
  replace S4 := Lib.hid (S4.out.below b8 S4.out.lt)
  have hu8' := Lib.hid hu8
  have ta' := Lib.hid ta
  clear b8 hu8 ta
  go_wp2_with fail
  rw [← hu8'.out]
  clear z3 zl zl' e0' e1' e2' e3' e4' el el'
  with_reducible refine (qs2.out _ _ L.out.tab ta'.out).mono ?_
  rintro e u9 ⟨rfl, b9⟩
  replace L := Lib.hid (L.out.below b9)
  replace S4 := Lib.hid (S4.out.below b9 S4.out.lt)
  clear b9 hu8' qs2 ta'
  have LF : ∀ W, Below u9.heap.size u9 W → Lv w u1.heap.size pnm pa1 pc1 pa2 pc2 (some ⟨b, off, none⟩) pc3 W := fun W hW => L.out.below hW
  have z0 : ∀ W, Below u9.heap.size u9 W → W.cell? ⟨u1.heap.size, 0, none⟩ = some (.string pnm) := fun W hW => (L.out.box.below hW L.out.box.lt).cell 0
  have z1 : ∀ W, Below u9.heap.size u9 W → W.cell? ⟨u1.heap.size, 1, none⟩ = some (.slice pa1 2 pc1) := fun W hW => (L.out.box.below hW L.out.box.lt).cell 1
  have z2 : ∀ W, Below u9.heap.size u9 W → W.cell? ⟨u1.heap.size, 2, none⟩ = some (.slice pa2 5 pc2) := fun W hW => (L.out.box.below hW L.out.box.lt).cell 2
  have z3 : ∀ W, Below u9.heap.size u9 W → W.cell? ⟨u1.heap.size, 3, none⟩ = some (.slice (some ⟨b, off, none⟩) 4 pc3) := fun W hW => (L.out.box.below hW L.out.box.lt).cell 3
  have s0 : ∀ W, Below u9.heap.size u9 W → W.cell? ⟨u4.heap.size, 0, none⟩ = some (.int .i64 5) := fun W hW => (S4.out.below hW S4.out.lt).cell 0
  have s1 : ∀ W, Below u9.heap.size u9 W → W.cell? ⟨u4.heap.size, 1, none⟩ = some (.int .i64 1) := fun W hW => (S4.out.below hW S4.out.lt).cell 1
  have s2 : ∀ W, Below u9.heap.size u9 W → W.cell? ⟨u4.heap.size, 2, none⟩ = some (.int .i64 2) := fun W hW => (S4.out.below hW S4.out.lt).cell 2
  have s3 : ∀ W, Below u9.heap.size u9 W → W.cell? ⟨u4.heap.size, 3, none⟩ = some (.int .i64 (-1)) := fun W hW => (S4.out.below hW S4.out.lt).cell 3
  have s4 : ∀ W, Below u9.heap.size u9 W → W.cell? ⟨u4.heap.size, 4, none⟩ = some (.int .i64 0) := fun W hW => (S4.out.below hW S4.out.lt).cell 4
  have QC : Hid (∀ W, Lv w u1.heap.size pnm pa1 pc1 pa2 pc2 (some ⟨b, off, none⟩) pc3 W → Calls Tryz.prog 9 #[.agg #[.string pnm, .slice pa1 2 pc1, .slice pa2 5 pc2, .slice (some ⟨b, off, none⟩) 4 pc3]] W (Gives (.int .i64 0) W)) := Lib.hid (fun W h => by have q := pcheck_any _ smallD W h.pr; rw [small_chk] at q; exact q)
  have QO : Hid (∀ W, Lv w u1.heap.size pnm pa1 pc1 pa2 pc2 (some ⟨b, off, none⟩) pc3 W → Calls Tryz.prog 13 #[.agg #[.string pnm, .slice pa1 2 pc1, .slice pa2 5 pc2, .slice (some ⟨b, off, none⟩) 4 pc3], .int .i64 1] W (SlP [1, 3] W)) := Lib.hid (fun W h => by have q := pOut_any _ smallD 1 W h.pr; rw [small_out] at q; exact q)
  have QI : Hid (∀ W, Lv w u1.heap.size pnm pa1 pc1 pa2 pc2 (some ⟨b, off, none⟩) pc3 W → Calls Tryz.prog 14 #[.agg #[.string pnm, .slice pa1 2 pc1, .slice pa2 5 pc2, .slice (some ⟨b, off, none⟩) 4 pc3], .int .i64 1] W (SlP [0, 2] W)) := Lib.hid (fun W h => by have q := pInto_any _ smallD 1 W h.pr; rw [small_into] at q; exact q)
  have QR : Hid (∀ W, Lv w u1.heap.size pnm pa1 pc1 pa2 pc2 (some ⟨b, off, none⟩) pc3 W → Calls Tryz.prog 15 #[.agg #[.string pnm, .slice pa1 2 pc1, .slice pa2 5 pc2, .slice (some ⟨b, off, none⟩) 4 pc3]] W (SlP [0, 1, 2, 3] W)) := Lib.hid (fun W h => by have q := preach_any ⟨pnm, pa1, 2, pc1, pa2, 5, pc2, some ⟨b, off, none⟩, 4, pc3⟩ smallD W h.pr; rw [small_reach] at q; exact q)
  have QN : Hid (∀ l a1 a3 n1 n3 c1 c3 W, SL W a1 n1 c1 l → SL W a3 n3 c3 l → Calls Tryz.prog 16 #[.slice a1 n1 c1, .slice a3 n3 c3] W (Gives (.bool true) W)) := Lib.hid (fun l a1 a3 n1 n3 c1 c3 W h1 h2 => by have q := pints_any a1 a3 l l n1 n3 c1 c3 W h1 h2; rw [show decide (l = l) = true by simp] at q; exact q)
  have QRt : Hid (∀ W, Calls Tryz.prog 21 #[.agg #[.int .i64 1, .int .i64 0, .int .i64 0, .int .i64 0, .int .i64 0], .int .i64 0] W (Gives (.bool true) W)) := Lib.hid (fun W => by have q := right_any 1 0 0 0 0 0 W; rw [small_right] at q; exact q)
  have QE : Hid (∀ W, Calls Tryz.prog 9 #[.agg #[.string ⟨#[]⟩, .slice none 0 0, .slice none 0 0, .slice none 0 0]] W (Gives (.int .i64 110) W)) := Lib.hid (fun W => by
  have q := pcheck_any ⟨⟨#[]⟩, none, 0, 0, none, 0, 0, none, 0, 0⟩ emptyD W ⟨rfl, ⟨rfl, Nat.le_refl _, by show (0 : Nat) ≤ maxLen; unfold maxLen; omega, .inl rfl⟩, .nil W, .nil W⟩
  rw [empty_chk] at q
  exact q)
  have QM := Lib.hid (fun W => small_any W)
  have QS : Hid (∀ q W, Lv w u1.heap.size pnm pa1 pc1 pa2 pc2 (some ⟨b, off, none⟩) pc3 W → PrA W q smallD → Calls Tryz.prog 10 #[.agg #[.string pnm, .slice pa1 2 pc1, .slice pa2 5 pc2, .slice (some ⟨b, off, none⟩) 4 pc3], .agg #[.string q.nm, .slice q.a1 q.n1 q.c1, .slice q.a2 q.n2 q.c2, .slice q.a3 q.n3 q.c3]] W (Gives (.bool true) W)) := Lib.hid (fun q W h h2 => by have q' := psame'_any _ q smallD smallD W h.pr h2; rw [sameP_refl] at q'; exact q')
  clear L S4
  go_wp2
  refine wp_drawn (by kernel_rfl) (fun hHeld => ?_)
  refine wpAnyH_take (i := 0) (oi := { dst := some 44, op := Go.Op.load 26 (Go.Operand.tmp 1), type := 26, pos := "law.go:34", after := #[], guard := none }) (v := ?v13) rfl (by as_aux_lemma => kernel_rfl) (by as_aux_lemma => kernel_rfl) (by as_aux_lemma => kernel_rfl) (fun _ _ _ h => h) (Or.inl ⟨by kernel_rfl, ?h13⟩) (by assumption) ?r13
  case h13 => (intro w hSw; (try dsimp only at hSw); go_simp; try with_reducible rfl)
  try simp only [Act.put, List.setIfInBounds_toArray, List.set_cons_zero, List.set_cons_succ]
  refine wpAnyH_ready (rs := [1]) (by as_aux_lemma => kernel_rfl) (by simp) ?_
  refine AllReadyH.cons (o := { dst := some 45, op := Go.Op.call { callee := Go.Callee.value (Go.Operand.func 9), args := #[Go.Operand.tmp 44], argTypes := #[26] }, type := 29, pos := "law.go:34", after := #[{ on := 0, ground := Go.Ground.data }], guard := none }) rfl (fun K hK => ?_) AllReadyH.nil
  go_simp
  with_reducible refine (QC.out _ (LF _ hHeld)).mono ?_
  rintro e t1 ⟨rfl, b1⟩
  have hB1 := hHeld.trans (b1.mono hHeld.size)
  go_simp
  refine hK.out _ _ (hB1) (fun hHeld => ?_)
  clear hK K
  try simp only [Act.put, List.setIfInBounds_toArray, List.set_cons_zero, List.set_cons_succ]
  refine wpAnyH_now hHeld (fun hHeld => ?_)
  replace LF := rebase LF (hB1)
  replace z0 := rebase z0 (hB1)
  replace z1 := rebase z1 (hB1)
  replace z2 := rebase z2 (hB1)
  replace z3 := rebase z3 (hB1)
  replace s0 := rebase s0 (hB1)
  replace s1 := rebase s1 (hB1)
  replace s2 := rebase s2 (hB1)
  replace s3 := rebase s3 (hB1)
  replace s4 := rebase s4 (hB1)
  refine wpAnyH_take (i := 2) (oi := { dst := some 46, op := Go.Op.binOp Go.BinOp.eql 29 (Go.Operand.tmp 45) (Go.Operand.const (Go.Value.int Go.IntKind.i64 0)) 29, type := 4, pos := "law.go:34", after := #[{ on := 1, ground := Go.Ground.data }], guard := none }) (v := ?v14) rfl (by as_aux_lemma => kernel_rfl) (by as_aux_lemma => kernel_rfl) (by as_aux_lemma => kernel_rfl) (fun _ _ _ h => h) (Or.inl ⟨by kernel_rfl, ?h14⟩) (by assumption) ?r14
  case h14 => (intro w hSw; (try dsimp only at hSw); go_simp; try with_reducible rfl)
  try simp only [Act.put, List.setIfInBounds_toArray, List.set_cons_zero, List.set_cons_succ]
  refine wpAnyH_take (i := 3) (oi := { dst := some 47, op := Go.Op.move (Go.Operand.tmp 46), type := 4, pos := "law.go:34", after := #[{ on := 2, ground := Go.Ground.data }, { on := 1, ground := Go.Ground.chain }], guard := none }) (v := ?v15) rfl (by as_aux_lemma => kernel_rfl) (by as_aux_lemma => kernel_rfl) (by as_aux_lemma => kernel_rfl) (fun _ _ _ h => h) (Or.inl ⟨by kernel_rfl, ?h15⟩) (by assumption) ?r15
  case h15 => (intro w hSw; (try dsimp only at hSw); go_simp; try with_reducible rfl)
  try simp only [Act.put, List.setIfInBounds_toArray, List.set_cons_zero, List.set_cons_succ]
  refine wpAnyH_take (i := 4) (oi := { dst := some 48, op := Go.Op.move (Go.Operand.tmp 3), type := 29, pos := "law.go:34", after := #[{ on := 3, ground := Go.Ground.guard }], guard := some (3, true) }) (v := ?v16) rfl (by as_aux_lemma => kernel_rfl) (by as_aux_lemma => kernel_rfl) (by as_aux_lemma => kernel_rfl) (fun _ _ _ h => h) (Or.inl ⟨by kernel_rfl, ?h16⟩) (by assumption) ?r16
  case h16 => (intro w hSw; (try dsimp only at hSw); go_simp; try with_reducible rfl)
  try simp only [Act.put, List.setIfInBounds_toArray, List.set_cons_zero, List.set_cons_succ]
  refine wpAnyH_take (i := 5) (oi := { dst := some 49, op := Go.Op.binOp Go.BinOp.eql 29 (Go.Operand.tmp 48) (Go.Operand.const (Go.Value.int Go.IntKind.i64 0)) 29, type := 4, pos := "law.go:34", after := #[{ on := 4, ground := Go.Ground.data }, { on := 3, ground := Go.Ground.guard }], guard := some (3, true) }) (v := ?v17) rfl (by as_aux_lemma => kernel_rfl) (by as_aux_lemma => kernel_rfl) (by as_aux_lemma => kernel_rfl) (fun _ _ _ h => h) (Or.inl ⟨by kernel_rfl, ?h17⟩) (by assumption) ?r17
  case h17 => (intro w hSw; (try dsimp only at hSw); go_simp; try with_reducible rfl)
  try simp only [Act.put, List.setIfInBounds_toArray, List.set_cons_zero, List.set_cons_succ]
  refine wpAnyH_take (i := 6) (oi := { dst := some 50, op := Go.Op.pick (Go.Operand.tmp 47) (Go.Operand.tmp 49) (Go.Operand.const (Go.Value.bool false)), type := 4, pos := "law.go:34", after := #[{ on := 3, ground := Go.Ground.data }, { on := 5, ground := Go.Ground.data }], guard := none }) (v := ?v18) rfl (by as_aux_lemma => kernel_rfl) (by as_aux_lemma => kernel_rfl) (by as_aux_lemma => kernel_rfl) (fun _ _ _ h => h) (Or.inl ⟨by kernel_rfl, ?h18⟩) (by assumption) ?r18
  case h18 => (intro w hSw; (try dsimp only at hSw); go_simp; try with_reducible rfl)
  try simp only [Act.put, List.setIfInBounds_toArray, List.set_cons_zero, List.set_cons_succ]
  refine wpAnyH_take (i := 7) (oi := { dst := some 51, op := Go.Op.move (Go.Operand.tmp 50), type := 4, pos := "law.go:34", after := #[{ on := 6, ground := Go.Ground.data }, { on := 3, ground := Go.Ground.chain }], guard := none }) (v := ?v19) rfl (by as_aux_lemma => kernel_rfl) (by as_aux_lemma => kernel_rfl) (by as_aux_lemma => kernel_rfl) (fun _ _ _ h => h) (Or.inl ⟨by kernel_rfl, ?h19⟩) (by assumption) ?r19
  case h19 => (intro w hSw; (try dsimp only at hSw); go_simp; try with_reducible rfl)
  try simp only [Act.put, List.setIfInBounds_toArray, List.set_cons_zero, List.set_cons_succ]
  refine wpAnyH_take (i := 8) (oi := { dst := some 52, op := Go.Op.move (Go.Operand.tmp 2), type := 9, pos := "law.go:34", after := #[{ on := 7, ground := Go.Ground.guard }], guard := some (7, true) }) (v := ?v20) rfl (by as_aux_lemma => kernel_rfl) (by as_aux_lemma => kernel_rfl) (by as_aux_lemma => kernel_rfl) (fun _ _ _ h => h) (Or.inl ⟨by kernel_rfl, ?h20⟩) (by assumption) ?r20
  case h20 => (intro w hSw; (try dsimp only at hSw); go_simp; try with_reducible rfl)
  try simp only [Act.put, List.setIfInBounds_toArray, List.set_cons_zero, List.set_cons_succ]
  refine wpAnyH_take (i := 9) (oi := { dst := some 53, op := Go.Op.binOp Go.BinOp.eql 9 (Go.Operand.tmp 52) (Go.Operand.const (Go.Value.string { data := #[105, 32, 58, 61, 32, 105, 32, 43, 32, 49] })) 9, type := 4, pos := "law.go:34", after := #[{ on := 8, ground := Go.Ground.data }, { on := 7, ground := Go.Ground.guard }], guard := some (7, true) }) (v := ?v21) rfl (by as_aux_lemma => kernel_rfl) (by as_aux_lemma => kernel_rfl) (by as_aux_lemma => kernel_rfl) (fun _ _ _ h => h) (Or.inl ⟨by kernel_rfl, ?h21⟩) (by assumption) ?r21
  case h21 => (intro w hSw; (try dsimp only at hSw); go_simp; try with_reducible rfl)
  try simp only [Act.put, List.setIfInBounds_toArray, List.set_cons_zero, List.set_cons_succ]
  refine wpAnyH_take (i := 10) (oi := { dst := some 54, op := Go.Op.pick (Go.Operand.tmp 51) (Go.Operand.tmp 53) (Go.Operand.const (Go.Value.bool false)), type := 4, pos := "law.go:34", after := #[{ on := 7, ground := Go.Ground.data }, { on := 9, ground := Go.Ground.data }], guard := none }) (v := ?v22) rfl (by as_aux_lemma => kernel_rfl) (by as_aux_lemma => kernel_rfl) (by as_aux_lemma => kernel_rfl) (fun _ _ _ h => h) (Or.inl ⟨by kernel_rfl, ?h22⟩) (by assumption) ?r22
  case h22 => (intro w hSw; (try dsimp only at hSw); go_simp; try with_reducible rfl)
  try simp only [Act.put, List.setIfInBounds_toArray, List.set_cons_zero, List.set_cons_succ]
  refine wpAnyH_take (i := 11) (oi := { dst := some 55, op := Go.Op.move (Go.Operand.tmp 54), type := 4, pos := "law.go:34", after := #[{ on := 10, ground := Go.Ground.data }, { on := 7, ground := Go.Ground.chain }], guard := none }) (v := ?v23) rfl (by as_aux_lemma => kernel_rfl) (by as_aux_lemma => kernel_rfl) (by as_aux_lemma => kernel_rfl) (fun _ _ _ h => h) (Or.inl ⟨by kernel_rfl, ?h23⟩) (by assumption) ?r23
  case h23 => (intro w hSw; (try dsimp only at hSw); go_simp; try with_reducible rfl)
  try simp only [Act.put, List.setIfInBounds_toArray, List.set_cons_zero, List.set_cons_succ]
  refine wpAnyH_take (i := 12) (oi := { dst := some 56, op := Go.Op.move (Go.Operand.tmp 5), type := 29, pos := "law.go:34", after := #[{ on := 11, ground := Go.Ground.guard }], guard := some (11, true) }) (v := ?v24) rfl (by as_aux_lemma => kernel_rfl) (by as_aux_lemma => kernel_rfl) (by as_aux_lemma => kernel_rfl) (fun _ _ _ h => h) (Or.inl ⟨by kernel_rfl, ?h24⟩) (by assumption) ?r24
  case h24 => (intro w hSw; (try dsimp only at hSw); go_simp; try with_reducible rfl)
  try simp only [Act.put, List.setIfInBounds_toArray, List.set_cons_zero, List.set_cons_succ]
  refine wpAnyH_take (i := 13) (oi := { dst := some 57, op := Go.Op.binOp Go.BinOp.eql 29 (Go.Operand.tmp 56) (Go.Operand.const (Go.Value.int Go.IntKind.i64 0)) 29, type := 4, pos := "law.go:34", after := #[{ on := 12, ground := Go.Ground.data }, { on := 11, ground := Go.Ground.guard }], guard := some (11, true) }) (v := ?v25) rfl (by as_aux_lemma => kernel_rfl) (by as_aux_lemma => kernel_rfl) (by as_aux_lemma => kernel_rfl) (fun _ _ _ h => h) (Or.inl ⟨by kernel_rfl, ?h25⟩) (by assumption) ?r25
  case h25 => (intro w hSw; (try dsimp only at hSw); go_simp; try with_reducible rfl)
  try simp only [Act.put, List.setIfInBounds_toArray, List.set_cons_zero, List.set_cons_succ]
  refine wpAnyH_take (i := 14) (oi := { dst := some 58, op := Go.Op.pick (Go.Operand.tmp 55) (Go.Operand.tmp 57) (Go.Operand.const (Go.Value.bool false)), type := 4, pos := "law.go:34", after := #[{ on := 11, ground := Go.Ground.data }, { on := 13, ground := Go.Ground.data }], guard := none }) (v := ?v26) rfl (by as_aux_lemma => kernel_rfl) (by as_aux_lemma => kernel_rfl) (by as_aux_lemma => kernel_rfl) (fun _ _ _ h => h) (Or.inl ⟨by kernel_rfl, ?h26⟩) (by assumption) ?r26
  case h26 => (intro w hSw; (try dsimp only at hSw); go_simp; try with_reducible rfl)
  try simp only [Act.put, List.setIfInBounds_toArray, List.set_cons_zero, List.set_cons_succ]
  refine wpAnyH_take (i := 15) (oi := { dst := some 59, op := Go.Op.move (Go.Operand.tmp 58), type := 4, pos := "law.go:34", after := #[{ on := 14, ground := Go.Ground.data }, { on := 11, ground := Go.Ground.chain }], guard := none }) (v := ?v27) rfl (by as_aux_lemma => kernel_rfl) (by as_aux_lemma => kernel_rfl) (by as_aux_lemma => kernel_rfl) (fun _ _ _ h => h) (Or.inl ⟨by kernel_rfl, ?h27⟩) (by assumption) ?r27
  case h27 => (intro w hSw; (try dsimp only at hSw); go_simp; try with_reducible rfl)
  try simp only [Act.put, List.setIfInBounds_toArray, List.set_cons_zero, List.set_cons_succ]
  refine wpAnyH_take (i := 16) (oi := { dst := some 60, op := Go.Op.load 38 (Go.Operand.tmp 4), type := 38, pos := "law.go:34", after := #[{ on := 15, ground := Go.Ground.guard }], guard := some (15, true) }) (v := ?v28) rfl (by as_aux_lemma => kernel_rfl) (by as_aux_lemma => kernel_rfl) (by as_aux_lemma => kernel_rfl) (fun _ _ _ h => h) (Or.inl ⟨by kernel_rfl, ?h28⟩) (by assumption) ?r28
  case h28 => (intro w hSw; (try dsimp only at hSw); go_simp; try with_reducible rfl)
  try simp only [Act.put, List.setIfInBounds_toArray, List.set_cons_zero, List.set_cons_succ]
  refine wpAnyH_take (i := 17) (oi := { dst := some 61, op := Go.Op.build 38 #[(0, Go.Operand.const (Go.Value.int Go.IntKind.i64 5)), (1, Go.Operand.const (Go.Value.int Go.IntKind.i64 1)), (2, Go.Operand.const (Go.Value.int Go.IntKind.i64 2)), (3, Go.Operand.const (Go.Value.int Go.IntKind.i64 (-1)))], type := 38, pos := "law.go:34", after := #[{ on := 15, ground := Go.Ground.guard }], guard := some (15, true) }) (v := ?v29) rfl (by as_aux_lemma => kernel_rfl) (by as_aux_lemma => kernel_rfl) (by as_aux_lemma => kernel_rfl) (fun _ _ _ h => h) (Or.inl ⟨by kernel_rfl, ?h29⟩) (by assumption) ?r29
  case h29 => (intro w hSw; (try dsimp only at hSw); go_simp; try with_reducible rfl)
  try simp only [Act.put, List.setIfInBounds_toArray, List.set_cons_zero, List.set_cons_succ]
  refine wpAnyH_take (i := 18) (oi := { dst := some 62, op := Go.Op.binOp Go.BinOp.eql 38 (Go.Operand.tmp 60) (Go.Operand.tmp 61) 38, type := 4, pos := "law.go:34", after := #[{ on := 16, ground := Go.Ground.data }, { on := 17, ground := Go.Ground.data }, { on := 15, ground := Go.Ground.guard }], guard := some (15, true) }) (v := ?v30) rfl (by as_aux_lemma => kernel_rfl) (by as_aux_lemma => kernel_rfl) (by as_aux_lemma => kernel_rfl) (fun _ _ _ h => h) (Or.inl ⟨by kernel_rfl, ?h30⟩) (by assumption) ?r30
  case h30 => (intro w hSw; (try dsimp only at hSw); go_simp; try with_reducible rfl)
  try simp only [Act.put, List.setIfInBounds_toArray, List.set_cons_zero, List.set_cons_succ]
  refine wpAnyH_take (i := 19) (oi := { dst := some 63, op := Go.Op.pick (Go.Operand.tmp 59) (Go.Operand.tmp 62) (Go.Operand.const (Go.Value.bool false)), type := 4, pos := "law.go:34", after := #[{ on := 15, ground := Go.Ground.data }, { on := 18, ground := Go.Ground.data }], guard := none }) (v := ?v31) rfl (by as_aux_lemma => kernel_rfl) (by as_aux_lemma => kernel_rfl) (by as_aux_lemma => kernel_rfl) (fun _ _ _ h => h) (Or.inl ⟨by kernel_rfl, ?h31⟩) (by assumption) ?r31
  case h31 => (intro w hSw; (try dsimp only at hSw); go_simp; try with_reducible rfl)
  try simp only [Act.put, List.setIfInBounds_toArray, List.set_cons_zero, List.set_cons_succ]
  refine wpAnyH_take (i := 20) (oi := { dst := some 64, op := Go.Op.move (Go.Operand.tmp 63), type := 4, pos := "law.go:34", after := #[{ on := 19, ground := Go.Ground.data }, { on := 15, ground := Go.Ground.chain }], guard := none }) (v := ?v32) rfl (by as_aux_lemma => kernel_rfl) (by as_aux_lemma => kernel_rfl) (by as_aux_lemma => kernel_rfl) (fun _ _ _ h => h) (Or.inl ⟨by kernel_rfl, ?h32⟩) (by assumption) ?r32
  case h32 => (intro w hSw; (try dsimp only at hSw); go_simp; try with_reducible rfl)
  try simp only [Act.put, List.setIfInBounds_toArray, List.set_cons_zero, List.set_cons_succ]
  refine wpAnyH_take (i := 21) (oi := { dst := some 65, op := Go.Op.move (Go.Operand.tmp 7), type := 29, pos := "law.go:34", after := #[{ on := 20, ground := Go.Ground.guard }], guard := some (20, true) }) (v := ?v33) rfl (by as_aux_lemma => kernel_rfl) (by as_aux_lemma => kernel_rfl) (by as_aux_lemma => kernel_rfl) (fun _ _ _ h => h) (Or.inl ⟨by kernel_rfl, ?h33⟩) (by assumption) ?r33
  case h33 => (intro w hSw; (try dsimp only at hSw); go_simp; try with_reducible rfl)
  try simp only [Act.put, List.setIfInBounds_toArray, List.set_cons_zero, List.set_cons_succ]
  refine wpAnyH_take (i := 22) (oi := { dst := some 66, op := Go.Op.binOp Go.BinOp.eql 29 (Go.Operand.tmp 65) (Go.Operand.const (Go.Value.int Go.IntKind.i64 111)) 29, type := 4, pos := "law.go:34", after := #[{ on := 21, ground := Go.Ground.data }, { on := 20, ground := Go.Ground.guard }], guard := some (20, true) }) (v := ?v34) rfl (by as_aux_lemma => kernel_rfl) (by as_aux_lemma => kernel_rfl) (by as_aux_lemma => kernel_rfl) (fun _ _ _ h => h) (Or.inl ⟨by kernel_rfl, ?h34⟩) (by assumption) ?r34
  case h34 => (intro w hSw; (try dsimp only at hSw); go_simp; try with_reducible rfl)
  try simp only [Act.put, List.setIfInBounds_toArray, List.set_cons_zero, List.set_cons_succ]
  refine wpAnyH_take (i := 23) (oi := { dst := some 67, op := Go.Op.pick (Go.Operand.tmp 64) (Go.Operand.tmp 66) (Go.Operand.const (Go.Value.bool false)), type := 4, pos := "law.go:34", after := #[{ on := 20, ground := Go.Ground.data }, { on := 22, ground := Go.Ground.data }], guard := none }) (v := ?v35) rfl (by as_aux_lemma => kernel_rfl) (by as_aux_lemma => kernel_rfl) (by as_aux_lemma => kernel_rfl) (fun _ _ _ h => h) (Or.inl ⟨by kernel_rfl, ?h35⟩) (by assumption) ?r35
  case h35 => (intro w hSw; (try dsimp only at hSw); go_simp; try with_reducible rfl)
  try simp only [Act.put, List.setIfInBounds_toArray, List.set_cons_zero, List.set_cons_succ]
  refine wpAnyH_take (i := 24) (oi := { dst := some 68, op := Go.Op.move (Go.Operand.tmp 67), type := 4, pos := "law.go:34", after := #[{ on := 23, ground := Go.Ground.data }, { on := 20, ground := Go.Ground.chain }], guard := none }) (v := ?v36) rfl (by as_aux_lemma => kernel_rfl) (by as_aux_lemma => kernel_rfl) (by as_aux_lemma => kernel_rfl) (fun _ _ _ h => h) (Or.inl ⟨by kernel_rfl, ?h36⟩) (by assumption) ?r36
  case h36 => (intro w hSw; (try dsimp only at hSw); go_simp; try with_reducible rfl)
  try simp only [Act.put, List.setIfInBounds_toArray, List.set_cons_zero, List.set_cons_succ]
  refine wpAnyH_take (i := 25) (oi := { dst := some 69, op := Go.Op.move (Go.Operand.tmp 9), type := 29, pos := "law.go:34", after := #[{ on := 24, ground := Go.Ground.guard }], guard := some (24, true) }) (v := ?v37) rfl (by as_aux_lemma => kernel_rfl) (by as_aux_lemma => kernel_rfl) (by as_aux_lemma => kernel_rfl) (fun _ _ _ h => h) (Or.inl ⟨by kernel_rfl, ?h37⟩) (by assumption) ?r37
  case h37 => (intro w hSw; (try dsimp only at hSw); go_simp; try with_reducible rfl)
  try simp only [Act.put, List.setIfInBounds_toArray, List.set_cons_zero, List.set_cons_succ]
  refine wpAnyH_take (i := 26) (oi := { dst := some 70, op := Go.Op.binOp Go.BinOp.eql 29 (Go.Operand.tmp 69) (Go.Operand.const (Go.Value.int Go.IntKind.i64 110)) 29, type := 4, pos := "law.go:34", after := #[{ on := 25, ground := Go.Ground.data }, { on := 24, ground := Go.Ground.guard }], guard := some (24, true) }) (v := ?v38) rfl (by as_aux_lemma => kernel_rfl) (by as_aux_lemma => kernel_rfl) (by as_aux_lemma => kernel_rfl) (fun _ _ _ h => h) (Or.inl ⟨by kernel_rfl, ?h38⟩) (by assumption) ?r38
  case h38 => (intro w hSw; (try dsimp only at hSw); go_simp; try with_reducible rfl)
  try simp only [Act.put, List.setIfInBounds_toArray, List.set_cons_zero, List.set_cons_succ]
  refine wpAnyH_take (i := 27) (oi := { dst := some 71, op := Go.Op.pick (Go.Operand.tmp 68) (Go.Operand.tmp 70) (Go.Operand.const (Go.Value.bool false)), type := 4, pos := "law.go:34", after := #[{ on := 24, ground := Go.Ground.data }, { on := 26, ground := Go.Ground.data }], guard := none }) (v := ?v39) rfl (by as_aux_lemma => kernel_rfl) (by as_aux_lemma => kernel_rfl) (by as_aux_lemma => kernel_rfl) (fun _ _ _ h => h) (Or.inl ⟨by kernel_rfl, ?h39⟩) (by assumption) ?r39
  case h39 => (intro w hSw; (try dsimp only at hSw); go_simp; try with_reducible rfl)
  try simp only [Act.put, List.setIfInBounds_toArray, List.set_cons_zero, List.set_cons_succ]
  refine wpAnyH_take (i := 28) (oi := { dst := some 72, op := Go.Op.move (Go.Operand.tmp 71), type := 4, pos := "law.go:34", after := #[{ on := 27, ground := Go.Ground.data }, { on := 24, ground := Go.Ground.chain }], guard := none }) (v := ?v40) rfl (by as_aux_lemma => kernel_rfl) (by as_aux_lemma => kernel_rfl) (by as_aux_lemma => kernel_rfl) (fun _ _ _ h => h) (Or.inl ⟨by kernel_rfl, ?h40⟩) (by assumption) ?r40
  case h40 => (intro w hSw; (try dsimp only at hSw); go_simp; try with_reducible rfl)
  try simp only [Act.put, List.setIfInBounds_toArray, List.set_cons_zero, List.set_cons_succ]
  refine wpAnyH_take (i := 29) (oi := { dst := some 73, op := Go.Op.load 26 (Go.Operand.tmp 1), type := 26, pos := "law.go:34", after := #[{ on := 28, ground := Go.Ground.guard }], guard := some (28, true) }) (v := ?v41) rfl (by as_aux_lemma => kernel_rfl) (by as_aux_lemma => kernel_rfl) (by as_aux_lemma => kernel_rfl) (fun _ _ _ h => h) (Or.inl ⟨by kernel_rfl, ?h41⟩) (by assumption) ?r41
  case h41 => (intro w hSw; (try dsimp only at hSw); go_simp; try with_reducible rfl)
  try simp only [Act.put, List.setIfInBounds_toArray, List.set_cons_zero, List.set_cons_succ]
  refine wpAnyH_ready (rs := [30, 31]) (by as_aux_lemma => kernel_rfl) (by simp) ?_
  refine AllReadyH.cons (o := { dst := some 74, op := Go.Op.call { callee := Go.Callee.value (Go.Operand.func 13), args := #[Go.Operand.tmp 73, Go.Operand.const (Go.Value.int Go.IntKind.i64 1)], argTypes := #[26, 3] }, type := 32, pos := "law.go:34", after := #[{ on := 29, ground := Go.Ground.data }, { on := 28, ground := Go.Ground.chain }, { on := 28, ground := Go.Ground.guard }], guard := some (28, true) }) rfl (fun K hK => ?_) (AllReadyH.cons (o := { dst := some 75, op := Go.Op.buildSlice 32 2 #[(0, Go.Operand.const (Go.Value.int Go.IntKind.i64 1)), (1, Go.Operand.const (Go.Value.int Go.IntKind.i64 3))], type := 32, pos := "law.go:34", after := #[{ on := 28, ground := Go.Ground.guard }], guard := some (28, true) }) rfl (fun K hK => ?_) AllReadyH.nil)
  · go_simp
    with_reducible refine (QO.out _ (LF _ hHeld)).mono ?_
    rintro e t30 ⟨aMO, nMO, cMO, rfl, sMO', b30⟩
    have hB30 := hHeld.trans (b30.mono hHeld.size)
    have MO : ∀ W, Below t30.heap.size t30 W → SL W aMO nMO cMO [1, 3] := fun W hW => sMO'.below hW
    go_simp
    refine hK.out _ _ (hB30) (fun hHeld => ?_)
    clear hK K
    try simp only [Act.put, List.setIfInBounds_toArray, List.set_cons_zero, List.set_cons_succ]
    refine wpAnyH_now hHeld (fun hHeld => ?_)
    replace LF := rebase LF (hB30)
    replace z0 := rebase z0 (hB30)
    replace z1 := rebase z1 (hB30)
    replace z2 := rebase z2 (hB30)
    replace z3 := rebase z3 (hB30)
    replace s0 := rebase s0 (hB30)
    replace s1 := rebase s1 (hB30)
    replace s2 := rebase s2 (hB30)
    replace s3 := rebase s3 (hB30)
    replace s4 := rebase s4 (hB30)
    refine wpAnyH_ready (rs := [31]) (by as_aux_lemma => kernel_rfl) (by simp) ?_
    refine AllReadyH.cons (o := { dst := some 75, op := Go.Op.buildSlice 32 2 #[(0, Go.Operand.const (Go.Value.int Go.IntKind.i64 1)), (1, Go.Operand.const (Go.Value.int Go.IntKind.i64 3))], type := 32, pos := "law.go:34", after := #[{ on := 28, ground := Go.Ground.guard }], guard := some (28, true) }) rfl (fun K hK => ?_) AllReadyH.nil
    go_simp
    obtain ⟨t31, ht31⟩ : ∃ t31, t31 = t30.alloc (.cells #[.int .i64 1, .int .i64 3] 3) := ⟨_, rfl⟩
    have sXO' : SL t31 (some ⟨t30.heap.size, 0, none⟩) 2 2 [1, 3] := (by rw [ht31]; exact psl_lit _ _ 2 rfl (by omega) _ rfl)
    have hB31 := hHeld.alloc hHeld.size (.cells #[.int .i64 1, .int .i64 3] 3)
    rw [← ht31] at hB31
    rw [← ht31]
    clear ht31
    have XO : ∀ W, Below t31.heap.size t31 W → SL W (some ⟨t30.heap.size, 0, none⟩) 2 2 [1, 3] := fun W hW => sXO'.below hW
    refine hK.out _ _ (hB31) (fun hHeld => ?_)
    clear hK K
    try simp only [Act.put, List.setIfInBounds_toArray, List.set_cons_zero, List.set_cons_succ]
    refine wpAnyH_now hHeld (fun hHeld => ?_)
    replace LF := rebase LF (hB31)
    replace z0 := rebase z0 (hB31)
    replace z1 := rebase z1 (hB31)
    replace z2 := rebase z2 (hB31)
    replace z3 := rebase z3 (hB31)
    replace s0 := rebase s0 (hB31)
    replace s1 := rebase s1 (hB31)
    replace s2 := rebase s2 (hB31)
    replace s3 := rebase s3 (hB31)
    replace s4 := rebase s4 (hB31)
    replace MO := rebase MO (hB31)
    refine wpAnyH_ready (rs := [32]) (by as_aux_lemma => kernel_rfl) (by simp) ?_
    refine AllReadyH.cons (o := { dst := some 76, op := Go.Op.call { callee := Go.Callee.value (Go.Operand.func 16), args := #[Go.Operand.tmp 74, Go.Operand.tmp 75], argTypes := #[32, 32] }, type := 4, pos := "law.go:34", after := #[{ on := 30, ground := Go.Ground.data }, { on := 31, ground := Go.Ground.data }, { on := 30, ground := Go.Ground.chain }, { on := 28, ground := Go.Ground.guard }], guard := some (28, true) }) rfl (fun K hK => ?_) AllReadyH.nil
    go_simp
    with_reducible refine (QN.out _ _ _ _ _ _ _ _ (MO _ hHeld) (XO _ hHeld)).mono ?_
    rintro e t32 ⟨rfl, b32⟩
    have hB32 := hHeld.trans (b32.mono hHeld.size)
    go_simp
    refine hK.out _ _ (hB32) (fun hHeld => ?_)
    clear hK K
    try simp only [Act.put, List.setIfInBounds_toArray, List.set_cons_zero, List.set_cons_succ]
    refine wpAnyH_now hHeld (fun hHeld => ?_)
    replace LF := rebase LF (hB32)
    replace z0 := rebase z0 (hB32)
    replace z1 := rebase z1 (hB32)
    replace z2 := rebase z2 (hB32)
    replace z3 := rebase z3 (hB32)
    replace s0 := rebase s0 (hB32)
    replace s1 := rebase s1 (hB32)
    replace s2 := rebase s2 (hB32)
    replace s3 := rebase s3 (hB32)
    replace s4 := rebase s4 (hB32)
    replace MO := rebase MO (hB32)
    replace XO := rebase XO (hB32)
    refine wpAnyH_take (i := 33) (oi := { dst := some 77, op := Go.Op.pick (Go.Operand.tmp 72) (Go.Operand.tmp 76) (Go.Operand.const (Go.Value.bool false)), type := 4, pos := "law.go:34", after := #[{ on := 28, ground := Go.Ground.data }, { on := 32, ground := Go.Ground.data }], guard := none }) (v := ?v42) rfl (by as_aux_lemma => kernel_rfl) (by as_aux_lemma => kernel_rfl) (by as_aux_lemma => kernel_rfl) (fun _ _ _ h => h) (Or.inl ⟨by kernel_rfl, ?h42⟩) (by assumption) ?r42
    case h42 => (intro w hSw; (try dsimp only at hSw); go_simp; try with_reducible rfl)
    try simp only [Act.put, List.setIfInBounds_toArray, List.set_cons_zero, List.set_cons_succ]
    refine wpAnyH_take (i := 34) (oi := { dst := some 78, op := Go.Op.move (Go.Operand.tmp 77), type := 4, pos := "law.go:34", after := #[{ on := 33, ground := Go.Ground.data }, { on := 32, ground := Go.Ground.chain }], guard := none }) (v := ?v43) rfl (by as_aux_lemma => kernel_rfl) (by as_aux_lemma => kernel_rfl) (by as_aux_lemma => kernel_rfl) (fun _ _ _ h => h) (Or.inl ⟨by kernel_rfl, ?h43⟩) (by assumption) ?r43
    case h43 => (intro w hSw; (try dsimp only at hSw); go_simp; try with_reducible rfl)
    try simp only [Act.put, List.setIfInBounds_toArray, List.set_cons_zero, List.set_cons_succ]
    refine wpAnyH_take (i := 35) (oi := { dst := some 79, op := Go.Op.load 26 (Go.Operand.tmp 1), type := 26, pos := "law.go:34", after := #[{ on := 34, ground := Go.Ground.guard }], guard := some (34, true) }) (v := ?v44) rfl (by as_aux_lemma => kernel_rfl) (by as_aux_lemma => kernel_rfl) (by as_aux_lemma => kernel_rfl) (fun _ _ _ h => h) (Or.inl ⟨by kernel_rfl, ?h44⟩) (by assumption) ?r44
    case h44 => (intro w hSw; (try dsimp only at hSw); go_simp; try with_reducible rfl)
    try simp only [Act.put, List.setIfInBounds_toArray, List.set_cons_zero, List.set_cons_succ]
    refine wpAnyH_ready (rs := [36, 37]) (by as_aux_lemma => kernel_rfl) (by simp) ?_
    refine AllReadyH.cons (o := { dst := some 80, op := Go.Op.call { callee := Go.Callee.value (Go.Operand.func 14), args := #[Go.Operand.tmp 79, Go.Operand.const (Go.Value.int Go.IntKind.i64 1)], argTypes := #[26, 3] }, type := 32, pos := "law.go:34", after := #[{ on := 35, ground := Go.Ground.data }, { on := 34, ground := Go.Ground.chain }, { on := 34, ground := Go.Ground.guard }], guard := some (34, true) }) rfl (fun K hK => ?_) (AllReadyH.cons (o := { dst := some 81, op := Go.Op.buildSlice 32 2 #[(0, Go.Operand.const (Go.Value.int Go.IntKind.i64 0)), (1, Go.Operand.const (Go.Value.int Go.IntKind.i64 2))], type := 32, pos := "law.go:34", after := #[{ on := 34, ground := Go.Ground.guard }], guard := some (34, true) }) rfl (fun K hK => ?_) AllReadyH.nil)
    · go_simp
      with_reducible refine (QI.out _ (LF _ hHeld)).mono ?_
      rintro e t36 ⟨aMI, nMI, cMI, rfl, sMI', b36⟩
      have hB36 := hHeld.trans (b36.mono hHeld.size)
      have MI : ∀ W, Below t36.heap.size t36 W → SL W aMI nMI cMI [0, 2] := fun W hW => sMI'.below hW
      go_simp
      refine hK.out _ _ (hB36) (fun hHeld => ?_)
      clear hK K
      try simp only [Act.put, List.setIfInBounds_toArray, List.set_cons_zero, List.set_cons_succ]
      refine wpAnyH_now hHeld (fun hHeld => ?_)
      replace LF := rebase LF (hB36)
      replace z0 := rebase z0 (hB36)
      replace z1 := rebase z1 (hB36)
      replace z2 := rebase z2 (hB36)
      replace z3 := rebase z3 (hB36)
      replace s0 := rebase s0 (hB36)
      replace s1 := rebase s1 (hB36)
      replace s2 := rebase s2 (hB36)
      replace s3 := rebase s3 (hB36)
      replace s4 := rebase s4 (hB36)
      replace MO := rebase MO (hB36)
      replace XO := rebase XO (hB36)
      refine wpAnyH_ready (rs := [37]) (by as_aux_lemma => kernel_rfl) (by simp) ?_
      refine AllReadyH.cons (o := { dst := some 81, op := Go.Op.buildSlice 32 2 #[(0, Go.Operand.const (Go.Value.int Go.IntKind.i64 0)), (1, Go.Operand.const (Go.Value.int Go.IntKind.i64 2))], type := 32, pos := "law.go:34", after := #[{ on := 34, ground := Go.Ground.guard }], guard := some (34, true) }) rfl (fun K hK => ?_) AllReadyH.nil
      go_simp
      obtain ⟨t37, ht37⟩ : ∃ t37, t37 = t36.alloc (.cells #[.int .i64 0, .int .i64 2] 3) := ⟨_, rfl⟩
      have sXI' : SL t37 (some ⟨t36.heap.size, 0, none⟩) 2 2 [0, 2] := (by rw [ht37]; exact psl_lit _ _ 2 rfl (by omega) _ rfl)
      have hB37 := hHeld.alloc hHeld.size (.cells #[.int .i64 0, .int .i64 2] 3)
      rw [← ht37] at hB37
      rw [← ht37]
      clear ht37
      have XI : ∀ W, Below t37.heap.size t37 W → SL W (some ⟨t36.heap.size, 0, none⟩) 2 2 [0, 2] := fun W hW => sXI'.below hW
      refine hK.out _ _ (hB37) (fun hHeld => ?_)
      clear hK K
      try simp only [Act.put, List.setIfInBounds_toArray, List.set_cons_zero, List.set_cons_succ]
      refine wpAnyH_now hHeld (fun hHeld => ?_)
      replace LF := rebase LF (hB37)
      replace z0 := rebase z0 (hB37)
      replace z1 := rebase z1 (hB37)
      replace z2 := rebase z2 (hB37)
      replace z3 := rebase z3 (hB37)
      replace s0 := rebase s0 (hB37)
      replace s1 := rebase s1 (hB37)
      replace s2 := rebase s2 (hB37)
      replace s3 := rebase s3 (hB37)
      replace s4 := rebase s4 (hB37)
      replace MO := rebase MO (hB37)
      replace XO := rebase XO (hB37)
      replace MI := rebase MI (hB37)
      refine wpAnyH_ready (rs := [38]) (by as_aux_lemma => kernel_rfl) (by simp) ?_
      refine AllReadyH.cons (o := { dst := some 82, op := Go.Op.call { callee := Go.Callee.value (Go.Operand.func 16), args := #[Go.Operand.tmp 80, Go.Operand.tmp 81], argTypes := #[32, 32] }, type := 4, pos := "law.go:34", after := #[{ on := 36, ground := Go.Ground.data }, { on := 37, ground := Go.Ground.data }, { on := 36, ground := Go.Ground.chain }, { on := 34, ground := Go.Ground.guard }], guard := some (34, true) }) rfl (fun K hK => ?_) AllReadyH.nil
      go_simp
      with_reducible refine (QN.out _ _ _ _ _ _ _ _ (MI _ hHeld) (XI _ hHeld)).mono ?_
      rintro e t38 ⟨rfl, b38⟩
      have hB38 := hHeld.trans (b38.mono hHeld.size)
      go_simp
      refine hK.out _ _ (hB38) (fun hHeld => ?_)
      clear hK K
      try simp only [Act.put, List.setIfInBounds_toArray, List.set_cons_zero, List.set_cons_succ]
      refine wpAnyH_now hHeld (fun hHeld => ?_)
      replace LF := rebase LF (hB38)
      replace z0 := rebase z0 (hB38)
      replace z1 := rebase z1 (hB38)
      replace z2 := rebase z2 (hB38)
      replace z3 := rebase z3 (hB38)
      replace s0 := rebase s0 (hB38)
      replace s1 := rebase s1 (hB38)
      replace s2 := rebase s2 (hB38)
      replace s3 := rebase s3 (hB38)
      replace s4 := rebase s4 (hB38)
      replace MO := rebase MO (hB38)
      replace XO := rebase XO (hB38)
      replace MI := rebase MI (hB38)
      replace XI := rebase XI (hB38)
      refine wpAnyH_take (i := 39) (oi := { dst := some 83, op := Go.Op.pick (Go.Operand.tmp 78) (Go.Operand.tmp 82) (Go.Operand.const (Go.Value.bool false)), type := 4, pos := "law.go:34", after := #[{ on := 34, ground := Go.Ground.data }, { on := 38, ground := Go.Ground.data }], guard := none }) (v := ?v45) rfl (by as_aux_lemma => kernel_rfl) (by as_aux_lemma => kernel_rfl) (by as_aux_lemma => kernel_rfl) (fun _ _ _ h => h) (Or.inl ⟨by kernel_rfl, ?h45⟩) (by assumption) ?r45
      case h45 => (intro w hSw; (try dsimp only at hSw); go_simp; try with_reducible rfl)
      try simp only [Act.put, List.setIfInBounds_toArray, List.set_cons_zero, List.set_cons_succ]
      refine wpAnyH_take (i := 40) (oi := { dst := some 84, op := Go.Op.move (Go.Operand.tmp 83), type := 4, pos := "law.go:34", after := #[{ on := 39, ground := Go.Ground.data }, { on := 38, ground := Go.Ground.chain }], guard := none }) (v := ?v46) rfl (by as_aux_lemma => kernel_rfl) (by as_aux_lemma => kernel_rfl) (by as_aux_lemma => kernel_rfl) (fun _ _ _ h => h) (Or.inl ⟨by kernel_rfl, ?h46⟩) (by assumption) ?r46
      case h46 => (intro w hSw; (try dsimp only at hSw); go_simp; try with_reducible rfl)
      try simp only [Act.put, List.setIfInBounds_toArray, List.set_cons_zero, List.set_cons_succ]
      refine wpAnyH_take (i := 41) (oi := { dst := some 85, op := Go.Op.load 26 (Go.Operand.tmp 1), type := 26, pos := "law.go:34", after := #[{ on := 40, ground := Go.Ground.guard }], guard := some (40, true) }) (v := ?v47) rfl (by as_aux_lemma => kernel_rfl) (by as_aux_lemma => kernel_rfl) (by as_aux_lemma => kernel_rfl) (fun _ _ _ h => h) (Or.inl ⟨by kernel_rfl, ?h47⟩) (by assumption) ?r47
      case h47 => (intro w hSw; (try dsimp only at hSw); go_simp; try with_reducible rfl)
      try simp only [Act.put, List.setIfInBounds_toArray, List.set_cons_zero, List.set_cons_succ]
      refine wpAnyH_ready (rs := [42, 43]) (by as_aux_lemma => kernel_rfl) (by simp) ?_
      refine AllReadyH.cons (o := { dst := some 86, op := Go.Op.call { callee := Go.Callee.value (Go.Operand.func 15), args := #[Go.Operand.tmp 85], argTypes := #[26] }, type := 32, pos := "law.go:34", after := #[{ on := 41, ground := Go.Ground.data }, { on := 40, ground := Go.Ground.chain }, { on := 40, ground := Go.Ground.guard }], guard := some (40, true) }) rfl (fun K hK => ?_) (AllReadyH.cons (o := { dst := some 87, op := Go.Op.buildSlice 32 4 #[(0, Go.Operand.const (Go.Value.int Go.IntKind.i64 0)), (1, Go.Operand.const (Go.Value.int Go.IntKind.i64 1)), (2, Go.Operand.const (Go.Value.int Go.IntKind.i64 2)), (3, Go.Operand.const (Go.Value.int Go.IntKind.i64 3))], type := 32, pos := "law.go:34", after := #[{ on := 40, ground := Go.Ground.guard }], guard := some (40, true) }) rfl (fun K hK => ?_) AllReadyH.nil)
      · go_simp
        with_reducible refine (QR.out _ (LF _ hHeld)).mono ?_
        rintro e t42 ⟨aMR, nMR, cMR, rfl, sMR', b42⟩
        have hB42 := hHeld.trans (b42.mono hHeld.size)
        have MR : ∀ W, Below t42.heap.size t42 W → SL W aMR nMR cMR [0, 1, 2, 3] := fun W hW => sMR'.below hW
        go_simp
        refine hK.out _ _ (hB42) (fun hHeld => ?_)
        clear hK K
        try simp only [Act.put, List.setIfInBounds_toArray, List.set_cons_zero, List.set_cons_succ]
        refine wpAnyH_now hHeld (fun hHeld => ?_)
        replace LF := rebase LF (hB42)
        replace z0 := rebase z0 (hB42)
        replace z1 := rebase z1 (hB42)
        replace z2 := rebase z2 (hB42)
        replace z3 := rebase z3 (hB42)
        replace s0 := rebase s0 (hB42)
        replace s1 := rebase s1 (hB42)
        replace s2 := rebase s2 (hB42)
        replace s3 := rebase s3 (hB42)
        replace s4 := rebase s4 (hB42)
        replace MO := rebase MO (hB42)
        replace XO := rebase XO (hB42)
        replace MI := rebase MI (hB42)
        replace XI := rebase XI (hB42)
        refine wpAnyH_ready (rs := [43]) (by as_aux_lemma => kernel_rfl) (by simp) ?_
        refine AllReadyH.cons (o := { dst := some 87, op := Go.Op.buildSlice 32 4 #[(0, Go.Operand.const (Go.Value.int Go.IntKind.i64 0)), (1, Go.Operand.const (Go.Value.int Go.IntKind.i64 1)), (2, Go.Operand.const (Go.Value.int Go.IntKind.i64 2)), (3, Go.Operand.const (Go.Value.int Go.IntKind.i64 3))], type := 32, pos := "law.go:34", after := #[{ on := 40, ground := Go.Ground.guard }], guard := some (40, true) }) rfl (fun K hK => ?_) AllReadyH.nil
        go_simp
        obtain ⟨t43, ht43⟩ : ∃ t43, t43 = t42.alloc (.cells #[.int .i64 0, .int .i64 1, .int .i64 2, .int .i64 3] 3) := ⟨_, rfl⟩
        have sXR' : SL t43 (some ⟨t42.heap.size, 0, none⟩) 4 4 [0, 1, 2, 3] := (by rw [ht43]; exact psl_lit _ _ 4 rfl (by omega) _ rfl)
        have hB43 := hHeld.alloc hHeld.size (.cells #[.int .i64 0, .int .i64 1, .int .i64 2, .int .i64 3] 3)
        rw [← ht43] at hB43
        rw [← ht43]
        clear ht43
        have XR : ∀ W, Below t43.heap.size t43 W → SL W (some ⟨t42.heap.size, 0, none⟩) 4 4 [0, 1, 2, 3] := fun W hW => sXR'.below hW
        refine hK.out _ _ (hB43) (fun hHeld => ?_)
        clear hK K
        try simp only [Act.put, List.setIfInBounds_toArray, List.set_cons_zero, List.set_cons_succ]
        refine wpAnyH_now hHeld (fun hHeld => ?_)
        replace LF := rebase LF (hB43)
        replace z0 := rebase z0 (hB43)
        replace z1 := rebase z1 (hB43)
        replace z2 := rebase z2 (hB43)
        replace z3 := rebase z3 (hB43)
        replace s0 := rebase s0 (hB43)
        replace s1 := rebase s1 (hB43)
        replace s2 := rebase s2 (hB43)
        replace s3 := rebase s3 (hB43)
        replace s4 := rebase s4 (hB43)
        replace MO := rebase MO (hB43)
        replace XO := rebase XO (hB43)
        replace MI := rebase MI (hB43)
        replace XI := rebase XI (hB43)
        replace MR := rebase MR (hB43)
        refine wpAnyH_ready (rs := [44]) (by as_aux_lemma => kernel_rfl) (by simp) ?_
        refine AllReadyH.cons (o := { dst := some 88, op := Go.Op.call { callee := Go.Callee.value (Go.Operand.func 16), args := #[Go.Operand.tmp 86, Go.Operand.tmp 87], argTypes := #[32, 32] }, type := 4, pos := "law.go:34", after := #[{ on := 42, ground := Go.Ground.data }, { on := 43, ground := Go.Ground.data }, { on := 42, ground := Go.Ground.chain }, { on := 40, ground := Go.Ground.guard }], guard := some (40, true) }) rfl (fun K hK => ?_) AllReadyH.nil
        go_simp
        with_reducible refine (QN.out _ _ _ _ _ _ _ _ (MR _ hHeld) (XR _ hHeld)).mono ?_
        rintro e t44 ⟨rfl, b44⟩
        have hB44 := hHeld.trans (b44.mono hHeld.size)
        go_simp
        refine hK.out _ _ (hB44) (fun hHeld => ?_)
        clear hK K
        try simp only [Act.put, List.setIfInBounds_toArray, List.set_cons_zero, List.set_cons_succ]
        refine wpAnyH_now hHeld (fun hHeld => ?_)
        replace LF := rebase LF (hB44)
        replace z0 := rebase z0 (hB44)
        replace z1 := rebase z1 (hB44)
        replace z2 := rebase z2 (hB44)
        replace z3 := rebase z3 (hB44)
        replace s0 := rebase s0 (hB44)
        replace s1 := rebase s1 (hB44)
        replace s2 := rebase s2 (hB44)
        replace s3 := rebase s3 (hB44)
        replace s4 := rebase s4 (hB44)
        replace MO := rebase MO (hB44)
        replace XO := rebase XO (hB44)
        replace MI := rebase MI (hB44)
        replace XI := rebase XI (hB44)
        replace MR := rebase MR (hB44)
        replace XR := rebase XR (hB44)
        refine wpAnyH_take (i := 45) (oi := { dst := some 89, op := Go.Op.pick (Go.Operand.tmp 84) (Go.Operand.tmp 88) (Go.Operand.const (Go.Value.bool false)), type := 4, pos := "law.go:34", after := #[{ on := 40, ground := Go.Ground.data }, { on := 44, ground := Go.Ground.data }], guard := none }) (v := ?v48) rfl (by as_aux_lemma => kernel_rfl) (by as_aux_lemma => kernel_rfl) (by as_aux_lemma => kernel_rfl) (fun _ _ _ h => h) (Or.inl ⟨by kernel_rfl, ?h48⟩) (by assumption) ?r48
        case h48 => (intro w hSw; (try dsimp only at hSw); go_simp; try with_reducible rfl)
        try simp only [Act.put, List.setIfInBounds_toArray, List.set_cons_zero, List.set_cons_succ]
        refine wpAnyH_take (i := 46) (oi := { dst := some 90, op := Go.Op.move (Go.Operand.tmp 89), type := 4, pos := "law.go:34", after := #[{ on := 45, ground := Go.Ground.data }, { on := 44, ground := Go.Ground.chain }], guard := none }) (v := ?v49) rfl (by as_aux_lemma => kernel_rfl) (by as_aux_lemma => kernel_rfl) (by as_aux_lemma => kernel_rfl) (fun _ _ _ h => h) (Or.inl ⟨by kernel_rfl, ?h49⟩) (by assumption) ?r49
        case h49 => (intro w hSw; (try dsimp only at hSw); go_simp; try with_reducible rfl)
        try simp only [Act.put, List.setIfInBounds_toArray, List.set_cons_zero, List.set_cons_succ]
        refine wpAnyH_take (i := 47) (oi := { dst := some 91, op := Go.Op.build 38 #[(0, Go.Operand.const (Go.Value.int Go.IntKind.i64 1))], type := 38, pos := "law.go:34", after := #[{ on := 46, ground := Go.Ground.guard }], guard := some (46, true) }) (v := ?v50) rfl (by as_aux_lemma => kernel_rfl) (by as_aux_lemma => kernel_rfl) (by as_aux_lemma => kernel_rfl) (fun _ _ _ h => h) (Or.inl ⟨by kernel_rfl, ?h50⟩) (by assumption) ?r50
        case h50 => (intro w hSw; (try dsimp only at hSw); go_simp; try with_reducible rfl)
        try simp only [Act.put, List.setIfInBounds_toArray, List.set_cons_zero, List.set_cons_succ]
        refine wpAnyH_ready (rs := [48]) (by as_aux_lemma => kernel_rfl) (by simp) ?_
        refine AllReadyH.cons (o := { dst := some 92, op := Go.Op.call { callee := Go.Callee.value (Go.Operand.func 21), args := #[Go.Operand.tmp 91, Go.Operand.const (Go.Value.int Go.IntKind.i64 0)], argTypes := #[38, 3] }, type := 4, pos := "law.go:34", after := #[{ on := 47, ground := Go.Ground.data }, { on := 46, ground := Go.Ground.chain }, { on := 46, ground := Go.Ground.guard }], guard := some (46, true) }) rfl (fun K hK => ?_) AllReadyH.nil
        go_simp
        with_reducible refine (QRt.out _).mono ?_
        rintro e t48 ⟨rfl, b48⟩
        have hB48 := hHeld.trans (b48.mono hHeld.size)
        go_simp
        refine hK.out _ _ (hB48) (fun hHeld => ?_)
        clear hK K
        try simp only [Act.put, List.setIfInBounds_toArray, List.set_cons_zero, List.set_cons_succ]
        refine wpAnyH_now hHeld (fun hHeld => ?_)
        replace LF := rebase LF (hB48)
        replace z0 := rebase z0 (hB48)
        replace z1 := rebase z1 (hB48)
        replace z2 := rebase z2 (hB48)
        replace z3 := rebase z3 (hB48)
        replace s0 := rebase s0 (hB48)
        replace s1 := rebase s1 (hB48)
        replace s2 := rebase s2 (hB48)
        replace s3 := rebase s3 (hB48)
        replace s4 := rebase s4 (hB48)
        replace MO := rebase MO (hB48)
        replace XO := rebase XO (hB48)
        replace MI := rebase MI (hB48)
        replace XI := rebase XI (hB48)
        replace MR := rebase MR (hB48)
        replace XR := rebase XR (hB48)
        refine wpAnyH_take (i := 49) (oi := { dst := some 93, op := Go.Op.pick (Go.Operand.tmp 90) (Go.Operand.tmp 92) (Go.Operand.const (Go.Value.bool false)), type := 4, pos := "law.go:34", after := #[{ on := 46, ground := Go.Ground.data }, { on := 48, ground := Go.Ground.data }], guard := none }) (v := ?v51) rfl (by as_aux_lemma => kernel_rfl) (by as_aux_lemma => kernel_rfl) (by as_aux_lemma => kernel_rfl) (fun _ _ _ h => h) (Or.inl ⟨by kernel_rfl, ?h51⟩) (by assumption) ?r51
        case h51 => (intro w hSw; (try dsimp only at hSw); go_simp; try with_reducible rfl)
        try simp only [Act.put, List.setIfInBounds_toArray, List.set_cons_zero, List.set_cons_succ]
        refine wpAnyH_take (i := 50) (oi := { dst := some 94, op := Go.Op.move (Go.Operand.tmp 93), type := 4, pos := "law.go:34", after := #[{ on := 49, ground := Go.Ground.data }, { on := 48, ground := Go.Ground.chain }], guard := none }) (v := ?v52) rfl (by as_aux_lemma => kernel_rfl) (by as_aux_lemma => kernel_rfl) (by as_aux_lemma => kernel_rfl) (fun _ _ _ h => h) (Or.inl ⟨by kernel_rfl, ?h52⟩) (by assumption) ?r52
        case h52 => (intro w hSw; (try dsimp only at hSw); go_simp; try with_reducible rfl)
        try simp only [Act.put, List.setIfInBounds_toArray, List.set_cons_zero, List.set_cons_succ]
        refine wpAnyH_take (i := 51) (oi := { dst := some 95, op := Go.Op.build 26 #[], type := 26, pos := "law.go:34", after := #[{ on := 50, ground := Go.Ground.guard }], guard := some (50, true) }) (v := ?v53) rfl (by as_aux_lemma => kernel_rfl) (by as_aux_lemma => kernel_rfl) (by as_aux_lemma => kernel_rfl) (fun _ _ _ h => h) (Or.inl ⟨by kernel_rfl, ?h53⟩) (by assumption) ?r53
        case h53 => (intro w hSw; (try dsimp only at hSw); go_simp; try with_reducible rfl)
        try simp only [Act.put, List.setIfInBounds_toArray, List.set_cons_zero, List.set_cons_succ]
        refine wpAnyH_ready (rs := [52]) (by as_aux_lemma => kernel_rfl) (by simp) ?_
        refine AllReadyH.cons (o := { dst := some 96, op := Go.Op.call { callee := Go.Callee.value (Go.Operand.func 9), args := #[Go.Operand.tmp 95], argTypes := #[26] }, type := 29, pos := "law.go:34", after := #[{ on := 51, ground := Go.Ground.data }, { on := 50, ground := Go.Ground.chain }, { on := 50, ground := Go.Ground.guard }], guard := some (50, true) }) rfl (fun K hK => ?_) AllReadyH.nil
        go_simp
        with_reducible refine (QE.out _).mono ?_
        rintro e t52 ⟨rfl, b52⟩
        have hB52 := hHeld.trans (b52.mono hHeld.size)
        go_simp
        refine hK.out _ _ (hB52) (fun hHeld => ?_)
        clear hK K
        try simp only [Act.put, List.setIfInBounds_toArray, List.set_cons_zero, List.set_cons_succ]
        refine wpAnyH_now hHeld (fun hHeld => ?_)
        replace LF := rebase LF (hB52)
        replace z0 := rebase z0 (hB52)
        replace z1 := rebase z1 (hB52)
        replace z2 := rebase z2 (hB52)
        replace z3 := rebase z3 (hB52)
        replace s0 := rebase s0 (hB52)
        replace s1 := rebase s1 (hB52)
        replace s2 := rebase s2 (hB52)
        replace s3 := rebase s3 (hB52)
        replace s4 := rebase s4 (hB52)
        replace MO := rebase MO (hB52)
        replace XO := rebase XO (hB52)
        replace MI := rebase MI (hB52)
        replace XI := rebase XI (hB52)
        replace MR := rebase MR (hB52)
        replace XR := rebase XR (hB52)
        refine wpAnyH_take (i := 53) (oi := { dst := some 97, op := Go.Op.binOp Go.BinOp.eql 29 (Go.Operand.tmp 96) (Go.Operand.const (Go.Value.int Go.IntKind.i64 110)) 29, type := 4, pos := "law.go:34", after := #[{ on := 52, ground := Go.Ground.data }, { on := 50, ground := Go.Ground.guard }], guard := some (50, true) }) (v := ?v54) rfl (by as_aux_lemma => kernel_rfl) (by as_aux_lemma => kernel_rfl) (by as_aux_lemma => kernel_rfl) (fun _ _ _ h => h) (Or.inl ⟨by kernel_rfl, ?h54⟩) (by assumption) ?r54
        case h54 => (intro w hSw; (try dsimp only at hSw); go_simp; try with_reducible rfl)
        try simp only [Act.put, List.setIfInBounds_toArray, List.set_cons_zero, List.set_cons_succ]
        refine wpAnyH_take (i := 54) (oi := { dst := some 98, op := Go.Op.pick (Go.Operand.tmp 94) (Go.Operand.tmp 97) (Go.Operand.const (Go.Value.bool false)), type := 4, pos := "law.go:34", after := #[{ on := 50, ground := Go.Ground.data }, { on := 53, ground := Go.Ground.data }], guard := none }) (v := ?v55) rfl (by as_aux_lemma => kernel_rfl) (by as_aux_lemma => kernel_rfl) (by as_aux_lemma => kernel_rfl) (fun _ _ _ h => h) (Or.inl ⟨by kernel_rfl, ?h55⟩) (by assumption) ?r55
        case h55 => (intro w hSw; (try dsimp only at hSw); go_simp; try with_reducible rfl)
        try simp only [Act.put, List.setIfInBounds_toArray, List.set_cons_zero, List.set_cons_succ]
        refine wpAnyH_take (i := 55) (oi := { dst := some 99, op := Go.Op.move (Go.Operand.tmp 98), type := 4, pos := "law.go:34", after := #[{ on := 54, ground := Go.Ground.data }, { on := 52, ground := Go.Ground.chain }], guard := none }) (v := ?v56) rfl (by as_aux_lemma => kernel_rfl) (by as_aux_lemma => kernel_rfl) (by as_aux_lemma => kernel_rfl) (fun _ _ _ h => h) (Or.inl ⟨by kernel_rfl, ?h56⟩) (by assumption) ?r56
        case h56 => (intro w hSw; (try dsimp only at hSw); go_simp; try with_reducible rfl)
        try simp only [Act.put, List.setIfInBounds_toArray, List.set_cons_zero, List.set_cons_succ]
        refine wpAnyH_take (i := 56) (oi := { dst := some 100, op := Go.Op.load 26 (Go.Operand.tmp 1), type := 26, pos := "law.go:34", after := #[{ on := 55, ground := Go.Ground.guard }], guard := some (55, true) }) (v := ?v57) rfl (by as_aux_lemma => kernel_rfl) (by as_aux_lemma => kernel_rfl) (by as_aux_lemma => kernel_rfl) (fun _ _ _ h => h) (Or.inl ⟨by kernel_rfl, ?h57⟩) (by assumption) ?r57
        case h57 => (intro w hSw; (try dsimp only at hSw); go_simp; try with_reducible rfl)
        try simp only [Act.put, List.setIfInBounds_toArray, List.set_cons_zero, List.set_cons_succ]
        refine wpAnyH_ready (rs := [57]) (by as_aux_lemma => kernel_rfl) (by simp) ?_
        refine AllReadyH.cons (o := { dst := some 101, op := Go.Op.call { callee := Go.Callee.value (Go.Operand.func 27), args := #[], argTypes := #[] }, type := 26, pos := "law.go:34", after := #[{ on := 55, ground := Go.Ground.chain }, { on := 55, ground := Go.Ground.guard }], guard := some (55, true) }) rfl (fun K hK => ?_) AllReadyH.nil
        go_simp
        with_reducible refine (QM.out _).mono ?_
        rintro e t57 ⟨⟨qnm, qa1, qn1, qc1, qa2, qn2, qc2, qa3, qn3, qc3⟩, he, hq, b57⟩
        have hB57 := hHeld.trans (b57.mono hHeld.size)
        have MS : ∀ W, Below t57.heap.size t57 W → PrA W ⟨qnm, qa1, qn1, qc1, qa2, qn2, qc2, qa3, qn3, qc3⟩ smallD := fun W hW => hq.below hW
        replace he := show e = .returned (.agg #[.string qnm, .slice qa1 qn1 qc1, .slice qa2 qn2 qc2, .slice qa3 qn3 qc3]) from he
        subst he
        go_simp
        refine hK.out _ _ (hB57) (fun hHeld => ?_)
        clear hK K
        try simp only [Act.put, List.setIfInBounds_toArray, List.set_cons_zero, List.set_cons_succ]
        refine wpAnyH_now hHeld (fun hHeld => ?_)
        replace LF := rebase LF (hB57)
        replace z0 := rebase z0 (hB57)
        replace z1 := rebase z1 (hB57)
        replace z2 := rebase z2 (hB57)
        replace z3 := rebase z3 (hB57)
        replace s0 := rebase s0 (hB57)
        replace s1 := rebase s1 (hB57)
        replace s2 := rebase s2 (hB57)
        replace s3 := rebase s3 (hB57)
        replace s4 := rebase s4 (hB57)
        replace MO := rebase MO (hB57)
        replace XO := rebase XO (hB57)
        replace MI := rebase MI (hB57)
        replace XI := rebase XI (hB57)
        replace MR := rebase MR (hB57)
        replace XR := rebase XR (hB57)
        refine wpAnyH_ready (rs := [58]) (by as_aux_lemma => kernel_rfl) (by simp) ?_
        refine AllReadyH.cons (o := { dst := some 102, op := Go.Op.call { callee := Go.Callee.value (Go.Operand.func 10), args := #[Go.Operand.tmp 100, Go.Operand.tmp 101], argTypes := #[26, 26] }, type := 4, pos := "law.go:34", after := #[{ on := 56, ground := Go.Ground.data }, { on := 57, ground := Go.Ground.data }, { on := 57, ground := Go.Ground.chain }, { on := 55, ground := Go.Ground.guard }], guard := some (55, true) }) rfl (fun K hK => ?_) AllReadyH.nil
        go_simp
        with_reducible refine (QS.out _ _ (LF _ hHeld) (MS _ hHeld)).mono ?_
        rintro e t58 ⟨rfl, b58⟩
        have hB58 := hHeld.trans (b58.mono hHeld.size)
        go_simp
        refine hK.out _ _ (hB58) (fun hHeld => ?_)
        clear hK K
        try simp only [Act.put, List.setIfInBounds_toArray, List.set_cons_zero, List.set_cons_succ]
        refine wpAnyH_now hHeld (fun hHeld => ?_)
        replace LF := rebase LF (hB58)
        replace z0 := rebase z0 (hB58)
        replace z1 := rebase z1 (hB58)
        replace z2 := rebase z2 (hB58)
        replace z3 := rebase z3 (hB58)
        replace s0 := rebase s0 (hB58)
        replace s1 := rebase s1 (hB58)
        replace s2 := rebase s2 (hB58)
        replace s3 := rebase s3 (hB58)
        replace s4 := rebase s4 (hB58)
        replace MO := rebase MO (hB58)
        replace XO := rebase XO (hB58)
        replace MI := rebase MI (hB58)
        replace XI := rebase XI (hB58)
        replace MR := rebase MR (hB58)
        replace XR := rebase XR (hB58)
        replace MS := rebase MS (hB58)
        refine wpAnyH_take (i := 59) (oi := { dst := some 103, op := Go.Op.pick (Go.Operand.tmp 99) (Go.Operand.tmp 102) (Go.Operand.const (Go.Value.bool false)), type := 4, pos := "law.go:34", after := #[{ on := 55, ground := Go.Ground.data }, { on := 58, ground := Go.Ground.data }], guard := none }) (v := ?v58) rfl (by as_aux_lemma => kernel_rfl) (by as_aux_lemma => kernel_rfl) (by as_aux_lemma => kernel_rfl) (fun _ _ _ h => h) (Or.inl ⟨by kernel_rfl, ?h58⟩) (by assumption) ?r58
        case h58 => (intro w hSw; (try dsimp only at hSw); go_simp; try with_reducible rfl)
        try simp only [Act.put, List.setIfInBounds_toArray, List.set_cons_zero, List.set_cons_succ]
        refine wpAnyH_take (i := 60) (oi := { dst := some 0, op := Go.Op.assign (Go.Operand.tmp 103), type := 4, pos := "law.go:34", after := #[{ on := 59, ground := Go.Ground.data }, { on := 58, ground := Go.Ground.chain }, { on := 0, ground := Go.Ground.phase }, { on := 1, ground := Go.Ground.phase }, { on := 2, ground := Go.Ground.phase }, { on := 3, ground := Go.Ground.phase }, { on := 4, ground := Go.Ground.phase }, { on := 5, ground := Go.Ground.phase }, { on := 6, ground := Go.Ground.phase }, { on := 7, ground := Go.Ground.phase }, { on := 8, ground := Go.Ground.phase }, { on := 9, ground := Go.Ground.phase }, { on := 10, ground := Go.Ground.phase }, { on := 11, ground := Go.Ground.phase }, { on := 12, ground := Go.Ground.phase }, { on := 13, ground := Go.Ground.phase }, { on := 14, ground := Go.Ground.phase }, { on := 15, ground := Go.Ground.phase }, { on := 16, ground := Go.Ground.phase }, { on := 17, ground := Go.Ground.phase }, { on := 18, ground := Go.Ground.phase }, { on := 19, ground := Go.Ground.phase }, { on := 20, ground := Go.Ground.phase }, { on := 21, ground := Go.Ground.phase }, { on := 22, ground := Go.Ground.phase }, { on := 23, ground := Go.Ground.phase }, { on := 24, ground := Go.Ground.phase }, { on := 25, ground := Go.Ground.phase }, { on := 26, ground := Go.Ground.phase }, { on := 27, ground := Go.Ground.phase }, { on := 28, ground := Go.Ground.phase }, { on := 29, ground := Go.Ground.phase }, { on := 30, ground := Go.Ground.phase }, { on := 31, ground := Go.Ground.phase }, { on := 32, ground := Go.Ground.phase }, { on := 33, ground := Go.Ground.phase }, { on := 34, ground := Go.Ground.phase }, { on := 35, ground := Go.Ground.phase }, { on := 36, ground := Go.Ground.phase }, { on := 37, ground := Go.Ground.phase }, { on := 38, ground := Go.Ground.phase }, { on := 39, ground := Go.Ground.phase }, { on := 40, ground := Go.Ground.phase }, { on := 41, ground := Go.Ground.phase }, { on := 42, ground := Go.Ground.phase }, { on := 43, ground := Go.Ground.phase }, { on := 44, ground := Go.Ground.phase }, { on := 45, ground := Go.Ground.phase }, { on := 46, ground := Go.Ground.phase }, { on := 47, ground := Go.Ground.phase }, { on := 48, ground := Go.Ground.phase }, { on := 49, ground := Go.Ground.phase }, { on := 50, ground := Go.Ground.phase }, { on := 51, ground := Go.Ground.phase }, { on := 52, ground := Go.Ground.phase }, { on := 53, ground := Go.Ground.phase }, { on := 54, ground := Go.Ground.phase }, { on := 55, ground := Go.Ground.phase }, { on := 56, ground := Go.Ground.phase }, { on := 57, ground := Go.Ground.phase }, { on := 58, ground := Go.Ground.phase }, { on := 59, ground := Go.Ground.phase }], guard := none }) (v := ?v59) rfl (by as_aux_lemma => kernel_rfl) (by as_aux_lemma => kernel_rfl) (by as_aux_lemma => kernel_rfl) (fun _ _ _ h => h) (Or.inl ⟨by kernel_rfl, ?h59⟩) (by assumption) ?r59
        case h59 => (intro w hSw; (try dsimp only at hSw); go_simp; try with_reducible rfl)
        try simp only [Act.put, List.setIfInBounds_toArray, List.set_cons_zero, List.set_cons_succ]
        refine wpAnyH_done (by as_aux_lemma => kernel_rfl) ?_ _
        go_wp2
        go_ret
        exact ⟨rfl, (LF _ hHeld).bel⟩
      · go_simp
        obtain ⟨t43, ht43⟩ : ∃ t43, t43 = t38.alloc (.cells #[.int .i64 0, .int .i64 1, .int .i64 2, .int .i64 3] 3) := ⟨_, rfl⟩
        have sXR' : SL t43 (some ⟨t38.heap.size, 0, none⟩) 4 4 [0, 1, 2, 3] := (by rw [ht43]; exact psl_lit _ _ 4 rfl (by omega) _ rfl)
        have hB43 := hHeld.alloc hHeld.size (.cells #[.int .i64 0, .int .i64 1, .int .i64 2, .int .i64 3] 3)
        rw [← ht43] at hB43
        rw [← ht43]
        clear ht43
        have XR : ∀ W, Below t43.heap.size t43 W → SL W (some ⟨t38.heap.size, 0, none⟩) 4 4 [0, 1, 2, 3] := fun W hW => sXR'.below hW
        refine hK.out _ _ (hB43) (fun hHeld => ?_)
        clear hK K
        try simp only [Act.put, List.setIfInBounds_toArray, List.set_cons_zero, List.set_cons_succ]
        refine wpAnyH_now hHeld (fun hHeld => ?_)
        replace LF := rebase LF (hB43)
        replace z0 := rebase z0 (hB43)
        replace z1 := rebase z1 (hB43)
        replace z2 := rebase z2 (hB43)
        replace z3 := rebase z3 (hB43)
        replace s0 := rebase s0 (hB43)
        replace s1 := rebase s1 (hB43)
        replace s2 := rebase s2 (hB43)
        replace s3 := rebase s3 (hB43)
        replace s4 := rebase s4 (hB43)
        replace MO := rebase MO (hB43)
        replace XO := rebase XO (hB43)
        replace MI := rebase MI (hB43)
        replace XI := rebase XI (hB43)
        refine wpAnyH_ready (rs := [42]) (by as_aux_lemma => kernel_rfl) (by simp) ?_
        refine AllReadyH.cons (o := { dst := some 86, op := Go.Op.call { callee := Go.Callee.value (Go.Operand.func 15), args := #[Go.Operand.tmp 85], argTypes := #[26] }, type := 32, pos := "law.go:34", after := #[{ on := 41, ground := Go.Ground.data }, { on := 40, ground := Go.Ground.chain }, { on := 40, ground := Go.Ground.guard }], guard := some (40, true) }) rfl (fun K hK => ?_) AllReadyH.nil
        go_simp
        with_reducible refine (QR.out _ (LF _ hHeld)).mono ?_
        rintro e t42 ⟨aMR, nMR, cMR, rfl, sMR', b42⟩
        have hB42 := hHeld.trans (b42.mono hHeld.size)
        have MR : ∀ W, Below t42.heap.size t42 W → SL W aMR nMR cMR [0, 1, 2, 3] := fun W hW => sMR'.below hW
        go_simp
        refine hK.out _ _ (hB42) (fun hHeld => ?_)
        clear hK K
        try simp only [Act.put, List.setIfInBounds_toArray, List.set_cons_zero, List.set_cons_succ]
        refine wpAnyH_now hHeld (fun hHeld => ?_)
        replace LF := rebase LF (hB42)
        replace z0 := rebase z0 (hB42)
        replace z1 := rebase z1 (hB42)
        replace z2 := rebase z2 (hB42)
        replace z3 := rebase z3 (hB42)
        replace s0 := rebase s0 (hB42)
        replace s1 := rebase s1 (hB42)
        replace s2 := rebase s2 (hB42)
        replace s3 := rebase s3 (hB42)
        replace s4 := rebase s4 (hB42)
        replace MO := rebase MO (hB42)
        replace XO := rebase XO (hB42)
        replace MI := rebase MI (hB42)
        replace XI := rebase XI (hB42)
        replace XR := rebase XR (hB42)
        refine wpAnyH_ready (rs := [44]) (by as_aux_lemma => kernel_rfl) (by simp) ?_
        refine AllReadyH.cons (o := { dst := some 88, op := Go.Op.call { callee := Go.Callee.value (Go.Operand.func 16), args := #[Go.Operand.tmp 86, Go.Operand.tmp 87], argTypes := #[32, 32] }, type := 4, pos := "law.go:34", after := #[{ on := 42, ground := Go.Ground.data }, { on := 43, ground := Go.Ground.data }, { on := 42, ground := Go.Ground.chain }, { on := 40, ground := Go.Ground.guard }], guard := some (40, true) }) rfl (fun K hK => ?_) AllReadyH.nil
        go_simp
        with_reducible refine (QN.out _ _ _ _ _ _ _ _ (MR _ hHeld) (XR _ hHeld)).mono ?_
        rintro e t44 ⟨rfl, b44⟩
        have hB44 := hHeld.trans (b44.mono hHeld.size)
        go_simp
        refine hK.out _ _ (hB44) (fun hHeld => ?_)
        clear hK K
        try simp only [Act.put, List.setIfInBounds_toArray, List.set_cons_zero, List.set_cons_succ]
        refine wpAnyH_now hHeld (fun hHeld => ?_)
        replace LF := rebase LF (hB44)
        replace z0 := rebase z0 (hB44)
        replace z1 := rebase z1 (hB44)
        replace z2 := rebase z2 (hB44)
        replace z3 := rebase z3 (hB44)
        replace s0 := rebase s0 (hB44)
        replace s1 := rebase s1 (hB44)
        replace s2 := rebase s2 (hB44)
        replace s3 := rebase s3 (hB44)
        replace s4 := rebase s4 (hB44)
        replace MO := rebase MO (hB44)
        replace XO := rebase XO (hB44)
        replace MI := rebase MI (hB44)
        replace XI := rebase XI (hB44)
        replace XR := rebase XR (hB44)
        replace MR := rebase MR (hB44)
        refine wpAnyH_take (i := 45) (oi := { dst := some 89, op := Go.Op.pick (Go.Operand.tmp 84) (Go.Operand.tmp 88) (Go.Operand.const (Go.Value.bool false)), type := 4, pos := "law.go:34", after := #[{ on := 40, ground := Go.Ground.data }, { on := 44, ground := Go.Ground.data }], guard := none }) (v := ?v60) rfl (by as_aux_lemma => kernel_rfl) (by as_aux_lemma => kernel_rfl) (by as_aux_lemma => kernel_rfl) (fun _ _ _ h => h) (Or.inl ⟨by kernel_rfl, ?h60⟩) (by assumption) ?r60
        case h60 => (intro w hSw; (try dsimp only at hSw); go_simp; try with_reducible rfl)
        try simp only [Act.put, List.setIfInBounds_toArray, List.set_cons_zero, List.set_cons_succ]
        refine wpAnyH_take (i := 46) (oi := { dst := some 90, op := Go.Op.move (Go.Operand.tmp 89), type := 4, pos := "law.go:34", after := #[{ on := 45, ground := Go.Ground.data }, { on := 44, ground := Go.Ground.chain }], guard := none }) (v := ?v61) rfl (by as_aux_lemma => kernel_rfl) (by as_aux_lemma => kernel_rfl) (by as_aux_lemma => kernel_rfl) (fun _ _ _ h => h) (Or.inl ⟨by kernel_rfl, ?h61⟩) (by assumption) ?r61
        case h61 => (intro w hSw; (try dsimp only at hSw); go_simp; try with_reducible rfl)
        try simp only [Act.put, List.setIfInBounds_toArray, List.set_cons_zero, List.set_cons_succ]
        refine wpAnyH_take (i := 47) (oi := { dst := some 91, op := Go.Op.build 38 #[(0, Go.Operand.const (Go.Value.int Go.IntKind.i64 1))], type := 38, pos := "law.go:34", after := #[{ on := 46, ground := Go.Ground.guard }], guard := some (46, true) }) (v := ?v62) rfl (by as_aux_lemma => kernel_rfl) (by as_aux_lemma => kernel_rfl) (by as_aux_lemma => kernel_rfl) (fun _ _ _ h => h) (Or.inl ⟨by kernel_rfl, ?h62⟩) (by assumption) ?r62
        case h62 => (intro w hSw; (try dsimp only at hSw); go_simp; try with_reducible rfl)
        try simp only [Act.put, List.setIfInBounds_toArray, List.set_cons_zero, List.set_cons_succ]
        refine wpAnyH_ready (rs := [48]) (by as_aux_lemma => kernel_rfl) (by simp) ?_
        refine AllReadyH.cons (o := { dst := some 92, op := Go.Op.call { callee := Go.Callee.value (Go.Operand.func 21), args := #[Go.Operand.tmp 91, Go.Operand.const (Go.Value.int Go.IntKind.i64 0)], argTypes := #[38, 3] }, type := 4, pos := "law.go:34", after := #[{ on := 47, ground := Go.Ground.data }, { on := 46, ground := Go.Ground.chain }, { on := 46, ground := Go.Ground.guard }], guard := some (46, true) }) rfl (fun K hK => ?_) AllReadyH.nil
        go_simp
        with_reducible refine (QRt.out _).mono ?_
        rintro e t48 ⟨rfl, b48⟩
        have hB48 := hHeld.trans (b48.mono hHeld.size)
        go_simp
        refine hK.out _ _ (hB48) (fun hHeld => ?_)
        clear hK K
        try simp only [Act.put, List.setIfInBounds_toArray, List.set_cons_zero, List.set_cons_succ]
        refine wpAnyH_now hHeld (fun hHeld => ?_)
        replace LF := rebase LF (hB48)
        replace z0 := rebase z0 (hB48)
        replace z1 := rebase z1 (hB48)
        replace z2 := rebase z2 (hB48)
        replace z3 := rebase z3 (hB48)
        replace s0 := rebase s0 (hB48)
        replace s1 := rebase s1 (hB48)
        replace s2 := rebase s2 (hB48)
        replace s3 := rebase s3 (hB48)
        replace s4 := rebase s4 (hB48)
        replace MO := rebase MO (hB48)
        replace XO := rebase XO (hB48)
        replace MI := rebase MI (hB48)
        replace XI := rebase XI (hB48)
        replace XR := rebase XR (hB48)
        replace MR := rebase MR (hB48)
        refine wpAnyH_take (i := 49) (oi := { dst := some 93, op := Go.Op.pick (Go.Operand.tmp 90) (Go.Operand.tmp 92) (Go.Operand.const (Go.Value.bool false)), type := 4, pos := "law.go:34", after := #[{ on := 46, ground := Go.Ground.data }, { on := 48, ground := Go.Ground.data }], guard := none }) (v := ?v63) rfl (by as_aux_lemma => kernel_rfl) (by as_aux_lemma => kernel_rfl) (by as_aux_lemma => kernel_rfl) (fun _ _ _ h => h) (Or.inl ⟨by kernel_rfl, ?h63⟩) (by assumption) ?r63
        case h63 => (intro w hSw; (try dsimp only at hSw); go_simp; try with_reducible rfl)
        try simp only [Act.put, List.setIfInBounds_toArray, List.set_cons_zero, List.set_cons_succ]
        refine wpAnyH_take (i := 50) (oi := { dst := some 94, op := Go.Op.move (Go.Operand.tmp 93), type := 4, pos := "law.go:34", after := #[{ on := 49, ground := Go.Ground.data }, { on := 48, ground := Go.Ground.chain }], guard := none }) (v := ?v64) rfl (by as_aux_lemma => kernel_rfl) (by as_aux_lemma => kernel_rfl) (by as_aux_lemma => kernel_rfl) (fun _ _ _ h => h) (Or.inl ⟨by kernel_rfl, ?h64⟩) (by assumption) ?r64
        case h64 => (intro w hSw; (try dsimp only at hSw); go_simp; try with_reducible rfl)
        try simp only [Act.put, List.setIfInBounds_toArray, List.set_cons_zero, List.set_cons_succ]
        refine wpAnyH_take (i := 51) (oi := { dst := some 95, op := Go.Op.build 26 #[], type := 26, pos := "law.go:34", after := #[{ on := 50, ground := Go.Ground.guard }], guard := some (50, true) }) (v := ?v65) rfl (by as_aux_lemma => kernel_rfl) (by as_aux_lemma => kernel_rfl) (by as_aux_lemma => kernel_rfl) (fun _ _ _ h => h) (Or.inl ⟨by kernel_rfl, ?h65⟩) (by assumption) ?r65
        case h65 => (intro w hSw; (try dsimp only at hSw); go_simp; try with_reducible rfl)
        try simp only [Act.put, List.setIfInBounds_toArray, List.set_cons_zero, List.set_cons_succ]
        refine wpAnyH_ready (rs := [52]) (by as_aux_lemma => kernel_rfl) (by simp) ?_
        refine AllReadyH.cons (o := { dst := some 96, op := Go.Op.call { callee := Go.Callee.value (Go.Operand.func 9), args := #[Go.Operand.tmp 95], argTypes := #[26] }, type := 29, pos := "law.go:34", after := #[{ on := 51, ground := Go.Ground.data }, { on := 50, ground := Go.Ground.chain }, { on := 50, ground := Go.Ground.guard }], guard := some (50, true) }) rfl (fun K hK => ?_) AllReadyH.nil
        go_simp
        with_reducible refine (QE.out _).mono ?_
        rintro e t52 ⟨rfl, b52⟩
        have hB52 := hHeld.trans (b52.mono hHeld.size)
        go_simp
        refine hK.out _ _ (hB52) (fun hHeld => ?_)
        clear hK K
        try simp only [Act.put, List.setIfInBounds_toArray, List.set_cons_zero, List.set_cons_succ]
        refine wpAnyH_now hHeld (fun hHeld => ?_)
        replace LF := rebase LF (hB52)
        replace z0 := rebase z0 (hB52)
        replace z1 := rebase z1 (hB52)
        replace z2 := rebase z2 (hB52)
        replace z3 := rebase z3 (hB52)
        replace s0 := rebase s0 (hB52)
        replace s1 := rebase s1 (hB52)
        replace s2 := rebase s2 (hB52)
        replace s3 := rebase s3 (hB52)
        replace s4 := rebase s4 (hB52)
        replace MO := rebase MO (hB52)
        replace XO := rebase XO (hB52)
        replace MI := rebase MI (hB52)
        replace XI := rebase XI (hB52)
        replace XR := rebase XR (hB52)
        replace MR := rebase MR (hB52)
        refine wpAnyH_take (i := 53) (oi := { dst := some 97, op := Go.Op.binOp Go.BinOp.eql 29 (Go.Operand.tmp 96) (Go.Operand.const (Go.Value.int Go.IntKind.i64 110)) 29, type := 4, pos := "law.go:34", after := #[{ on := 52, ground := Go.Ground.data }, { on := 50, ground := Go.Ground.guard }], guard := some (50, true) }) (v := ?v66) rfl (by as_aux_lemma => kernel_rfl) (by as_aux_lemma => kernel_rfl) (by as_aux_lemma => kernel_rfl) (fun _ _ _ h => h) (Or.inl ⟨by kernel_rfl, ?h66⟩) (by assumption) ?r66
        case h66 => (intro w hSw; (try dsimp only at hSw); go_simp; try with_reducible rfl)
        try simp only [Act.put, List.setIfInBounds_toArray, List.set_cons_zero, List.set_cons_succ]
        refine wpAnyH_take (i := 54) (oi := { dst := some 98, op := Go.Op.pick (Go.Operand.tmp 94) (Go.Operand.tmp 97) (Go.Operand.const (Go.Value.bool false)), type := 4, pos := "law.go:34", after := #[{ on := 50, ground := Go.Ground.data }, { on := 53, ground := Go.Ground.data }], guard := none }) (v := ?v67) rfl (by as_aux_lemma => kernel_rfl) (by as_aux_lemma => kernel_rfl) (by as_aux_lemma => kernel_rfl) (fun _ _ _ h => h) (Or.inl ⟨by kernel_rfl, ?h67⟩) (by assumption) ?r67
        case h67 => (intro w hSw; (try dsimp only at hSw); go_simp; try with_reducible rfl)
        try simp only [Act.put, List.setIfInBounds_toArray, List.set_cons_zero, List.set_cons_succ]
        refine wpAnyH_take (i := 55) (oi := { dst := some 99, op := Go.Op.move (Go.Operand.tmp 98), type := 4, pos := "law.go:34", after := #[{ on := 54, ground := Go.Ground.data }, { on := 52, ground := Go.Ground.chain }], guard := none }) (v := ?v68) rfl (by as_aux_lemma => kernel_rfl) (by as_aux_lemma => kernel_rfl) (by as_aux_lemma => kernel_rfl) (fun _ _ _ h => h) (Or.inl ⟨by kernel_rfl, ?h68⟩) (by assumption) ?r68
        case h68 => (intro w hSw; (try dsimp only at hSw); go_simp; try with_reducible rfl)
        try simp only [Act.put, List.setIfInBounds_toArray, List.set_cons_zero, List.set_cons_succ]
        refine wpAnyH_take (i := 56) (oi := { dst := some 100, op := Go.Op.load 26 (Go.Operand.tmp 1), type := 26, pos := "law.go:34", after := #[{ on := 55, ground := Go.Ground.guard }], guard := some (55, true) }) (v := ?v69) rfl (by as_aux_lemma => kernel_rfl) (by as_aux_lemma => kernel_rfl) (by as_aux_lemma => kernel_rfl) (fun _ _ _ h => h) (Or.inl ⟨by kernel_rfl, ?h69⟩) (by assumption) ?r69
        case h69 => (intro w hSw; (try dsimp only at hSw); go_simp; try with_reducible rfl)
        try simp only [Act.put, List.setIfInBounds_toArray, List.set_cons_zero, List.set_cons_succ]
        refine wpAnyH_ready (rs := [57]) (by as_aux_lemma => kernel_rfl) (by simp) ?_
        refine AllReadyH.cons (o := { dst := some 101, op := Go.Op.call { callee := Go.Callee.value (Go.Operand.func 27), args := #[], argTypes := #[] }, type := 26, pos := "law.go:34", after := #[{ on := 55, ground := Go.Ground.chain }, { on := 55, ground := Go.Ground.guard }], guard := some (55, true) }) rfl (fun K hK => ?_) AllReadyH.nil
        go_simp
        with_reducible refine (QM.out _).mono ?_
        rintro e t57 ⟨⟨qnm, qa1, qn1, qc1, qa2, qn2, qc2, qa3, qn3, qc3⟩, he, hq, b57⟩
        have hB57 := hHeld.trans (b57.mono hHeld.size)
        have MS : ∀ W, Below t57.heap.size t57 W → PrA W ⟨qnm, qa1, qn1, qc1, qa2, qn2, qc2, qa3, qn3, qc3⟩ smallD := fun W hW => hq.below hW
        replace he := show e = .returned (.agg #[.string qnm, .slice qa1 qn1 qc1, .slice qa2 qn2 qc2, .slice qa3 qn3 qc3]) from he
        subst he
        go_simp
        refine hK.out _ _ (hB57) (fun hHeld => ?_)
        clear hK K
        try simp only [Act.put, List.setIfInBounds_toArray, List.set_cons_zero, List.set_cons_succ]
        refine wpAnyH_now hHeld (fun hHeld => ?_)
        replace LF := rebase LF (hB57)
        replace z0 := rebase z0 (hB57)
        replace z1 := rebase z1 (hB57)
        replace z2 := rebase z2 (hB57)
        replace z3 := rebase z3 (hB57)
        replace s0 := rebase s0 (hB57)
        replace s1 := rebase s1 (hB57)
        replace s2 := rebase s2 (hB57)
        replace s3 := rebase s3 (hB57)
        replace s4 := rebase s4 (hB57)
        replace MO := rebase MO (hB57)
        replace XO := rebase XO (hB57)
        replace MI := rebase MI (hB57)
        replace XI := rebase XI (hB57)
        replace XR := rebase XR (hB57)
        replace MR := rebase MR (hB57)
        refine wpAnyH_ready (rs := [58]) (by as_aux_lemma => kernel_rfl) (by simp) ?_
        refine AllReadyH.cons (o := { dst := some 102, op := Go.Op.call { callee := Go.Callee.value (Go.Operand.func 10), args := #[Go.Operand.tmp 100, Go.Operand.tmp 101], argTypes := #[26, 26] }, type := 4, pos := "law.go:34", after := #[{ on := 56, ground := Go.Ground.data }, { on := 57, ground := Go.Ground.data }, { on := 57, ground := Go.Ground.chain }, { on := 55, ground := Go.Ground.guard }], guard := some (55, true) }) rfl (fun K hK => ?_) AllReadyH.nil
        go_simp
        with_reducible refine (QS.out _ _ (LF _ hHeld) (MS _ hHeld)).mono ?_
        rintro e t58 ⟨rfl, b58⟩
        have hB58 := hHeld.trans (b58.mono hHeld.size)
        go_simp
        refine hK.out _ _ (hB58) (fun hHeld => ?_)
        clear hK K
        try simp only [Act.put, List.setIfInBounds_toArray, List.set_cons_zero, List.set_cons_succ]
        refine wpAnyH_now hHeld (fun hHeld => ?_)
        replace LF := rebase LF (hB58)
        replace z0 := rebase z0 (hB58)
        replace z1 := rebase z1 (hB58)
        replace z2 := rebase z2 (hB58)
        replace z3 := rebase z3 (hB58)
        replace s0 := rebase s0 (hB58)
        replace s1 := rebase s1 (hB58)
        replace s2 := rebase s2 (hB58)
        replace s3 := rebase s3 (hB58)
        replace s4 := rebase s4 (hB58)
        replace MO := rebase MO (hB58)
        replace XO := rebase XO (hB58)
        replace MI := rebase MI (hB58)
        replace XI := rebase XI (hB58)
        replace XR := rebase XR (hB58)
        replace MR := rebase MR (hB58)
        replace MS := rebase MS (hB58)
        refine wpAnyH_take (i := 59) (oi := { dst := some 103, op := Go.Op.pick (Go.Operand.tmp 99) (Go.Operand.tmp 102) (Go.Operand.const (Go.Value.bool false)), type := 4, pos := "law.go:34", after := #[{ on := 55, ground := Go.Ground.data }, { on := 58, ground := Go.Ground.data }], guard := none }) (v := ?v70) rfl (by as_aux_lemma => kernel_rfl) (by as_aux_lemma => kernel_rfl) (by as_aux_lemma => kernel_rfl) (fun _ _ _ h => h) (Or.inl ⟨by kernel_rfl, ?h70⟩) (by assumption) ?r70
        case h70 => (intro w hSw; (try dsimp only at hSw); go_simp; try with_reducible rfl)
        try simp only [Act.put, List.setIfInBounds_toArray, List.set_cons_zero, List.set_cons_succ]
        refine wpAnyH_take (i := 60) (oi := { dst := some 0, op := Go.Op.assign (Go.Operand.tmp 103), type := 4, pos := "law.go:34", after := #[{ on := 59, ground := Go.Ground.data }, { on := 58, ground := Go.Ground.chain }, { on := 0, ground := Go.Ground.phase }, { on := 1, ground := Go.Ground.phase }, { on := 2, ground := Go.Ground.phase }, { on := 3, ground := Go.Ground.phase }, { on := 4, ground := Go.Ground.phase }, { on := 5, ground := Go.Ground.phase }, { on := 6, ground := Go.Ground.phase }, { on := 7, ground := Go.Ground.phase }, { on := 8, ground := Go.Ground.phase }, { on := 9, ground := Go.Ground.phase }, { on := 10, ground := Go.Ground.phase }, { on := 11, ground := Go.Ground.phase }, { on := 12, ground := Go.Ground.phase }, { on := 13, ground := Go.Ground.phase }, { on := 14, ground := Go.Ground.phase }, { on := 15, ground := Go.Ground.phase }, { on := 16, ground := Go.Ground.phase }, { on := 17, ground := Go.Ground.phase }, { on := 18, ground := Go.Ground.phase }, { on := 19, ground := Go.Ground.phase }, { on := 20, ground := Go.Ground.phase }, { on := 21, ground := Go.Ground.phase }, { on := 22, ground := Go.Ground.phase }, { on := 23, ground := Go.Ground.phase }, { on := 24, ground := Go.Ground.phase }, { on := 25, ground := Go.Ground.phase }, { on := 26, ground := Go.Ground.phase }, { on := 27, ground := Go.Ground.phase }, { on := 28, ground := Go.Ground.phase }, { on := 29, ground := Go.Ground.phase }, { on := 30, ground := Go.Ground.phase }, { on := 31, ground := Go.Ground.phase }, { on := 32, ground := Go.Ground.phase }, { on := 33, ground := Go.Ground.phase }, { on := 34, ground := Go.Ground.phase }, { on := 35, ground := Go.Ground.phase }, { on := 36, ground := Go.Ground.phase }, { on := 37, ground := Go.Ground.phase }, { on := 38, ground := Go.Ground.phase }, { on := 39, ground := Go.Ground.phase }, { on := 40, ground := Go.Ground.phase }, { on := 41, ground := Go.Ground.phase }, { on := 42, ground := Go.Ground.phase }, { on := 43, ground := Go.Ground.phase }, { on := 44, ground := Go.Ground.phase }, { on := 45, ground := Go.Ground.phase }, { on := 46, ground := Go.Ground.phase }, { on := 47, ground := Go.Ground.phase }, { on := 48, ground := Go.Ground.phase }, { on := 49, ground := Go.Ground.phase }, { on := 50, ground := Go.Ground.phase }, { on := 51, ground := Go.Ground.phase }, { on := 52, ground := Go.Ground.phase }, { on := 53, ground := Go.Ground.phase }, { on := 54, ground := Go.Ground.phase }, { on := 55, ground := Go.Ground.phase }, { on := 56, ground := Go.Ground.phase }, { on := 57, ground := Go.Ground.phase }, { on := 58, ground := Go.Ground.phase }, { on := 59, ground := Go.Ground.phase }], guard := none }) (v := ?v71) rfl (by as_aux_lemma => kernel_rfl) (by as_aux_lemma => kernel_rfl) (by as_aux_lemma => kernel_rfl) (fun _ _ _ h => h) (Or.inl ⟨by kernel_rfl, ?h71⟩) (by assumption) ?r71
        case h71 => (intro w hSw; (try dsimp only at hSw); go_simp; try with_reducible rfl)
        try simp only [Act.put, List.setIfInBounds_toArray, List.set_cons_zero, List.set_cons_succ]
        refine wpAnyH_done (by as_aux_lemma => kernel_rfl) ?_ _
        go_wp2
        go_ret
        exact ⟨rfl, (LF _ hHeld).bel⟩
    · go_simp
      obtain ⟨t37, ht37⟩ : ∃ t37, t37 = t32.alloc (.cells #[.int .i64 0, .int .i64 2] 3) := ⟨_, rfl⟩
      have sXI' : SL t37 (some ⟨t32.heap.size, 0, none⟩) 2 2 [0, 2] := (by rw [ht37]; exact psl_lit _ _ 2 rfl (by omega) _ rfl)
      have hB37 := hHeld.alloc hHeld.size (.cells #[.int .i64 0, .int .i64 2] 3)
      rw [← ht37] at hB37
      rw [← ht37]
      clear ht37
      have XI : ∀ W, Below t37.heap.size t37 W → SL W (some ⟨t32.heap.size, 0, none⟩) 2 2 [0, 2] := fun W hW => sXI'.below hW
      refine hK.out _ _ (hB37) (fun hHeld => ?_)
      clear hK K
      try simp only [Act.put, List.setIfInBounds_toArray, List.set_cons_zero, List.set_cons_succ]
      refine wpAnyH_now hHeld (fun hHeld => ?_)
      replace LF := rebase LF (hB37)
      replace z0 := rebase z0 (hB37)
      replace z1 := rebase z1 (hB37)
      replace z2 := rebase z2 (hB37)
      replace z3 := rebase z3 (hB37)
      replace s0 := rebase s0 (hB37)
      replace s1 := rebase s1 (hB37)
      replace s2 := rebase s2 (hB37)
      replace s3 := rebase s3 (hB37)
      replace s4 := rebase s4 (hB37)
      replace MO := rebase MO (hB37)
      replace XO := rebase XO (hB37)
      refine wpAnyH_ready (rs := [36]) (by as_aux_lemma => kernel_rfl) (by simp) ?_
      refine AllReadyH.cons (o := { dst := some 80, op := Go.Op.call { callee := Go.Callee.value (Go.Operand.func 14), args := #[Go.Operand.tmp 79, Go.Operand.const (Go.Value.int Go.IntKind.i64 1)], argTypes := #[26, 3] }, type := 32, pos := "law.go:34", after := #[{ on := 35, ground := Go.Ground.data }, { on := 34, ground := Go.Ground.chain }, { on := 34, ground := Go.Ground.guard }], guard := some (34, true) }) rfl (fun K hK => ?_) AllReadyH.nil
      go_simp
      with_reducible refine (QI.out _ (LF _ hHeld)).mono ?_
      rintro e t36 ⟨aMI, nMI, cMI, rfl, sMI', b36⟩
      have hB36 := hHeld.trans (b36.mono hHeld.size)
      have MI : ∀ W, Below t36.heap.size t36 W → SL W aMI nMI cMI [0, 2] := fun W hW => sMI'.below hW
      go_simp
      refine hK.out _ _ (hB36) (fun hHeld => ?_)
      clear hK K
      try simp only [Act.put, List.setIfInBounds_toArray, List.set_cons_zero, List.set_cons_succ]
      refine wpAnyH_now hHeld (fun hHeld => ?_)
      replace LF := rebase LF (hB36)
      replace z0 := rebase z0 (hB36)
      replace z1 := rebase z1 (hB36)
      replace z2 := rebase z2 (hB36)
      replace z3 := rebase z3 (hB36)
      replace s0 := rebase s0 (hB36)
      replace s1 := rebase s1 (hB36)
      replace s2 := rebase s2 (hB36)
      replace s3 := rebase s3 (hB36)
      replace s4 := rebase s4 (hB36)
      replace MO := rebase MO (hB36)
      replace XO := rebase XO (hB36)
      replace XI := rebase XI (hB36)
      refine wpAnyH_ready (rs := [38]) (by as_aux_lemma => kernel_rfl) (by simp) ?_
      refine AllReadyH.cons (o := { dst := some 82, op := Go.Op.call { callee := Go.Callee.value (Go.Operand.func 16), args := #[Go.Operand.tmp 80, Go.Operand.tmp 81], argTypes := #[32, 32] }, type := 4, pos := "law.go:34", after := #[{ on := 36, ground := Go.Ground.data }, { on := 37, ground := Go.Ground.data }, { on := 36, ground := Go.Ground.chain }, { on := 34, ground := Go.Ground.guard }], guard := some (34, true) }) rfl (fun K hK => ?_) AllReadyH.nil
      go_simp
      with_reducible refine (QN.out _ _ _ _ _ _ _ _ (MI _ hHeld) (XI _ hHeld)).mono ?_
      rintro e t38 ⟨rfl, b38⟩
      have hB38 := hHeld.trans (b38.mono hHeld.size)
      go_simp
      refine hK.out _ _ (hB38) (fun hHeld => ?_)
      clear hK K
      try simp only [Act.put, List.setIfInBounds_toArray, List.set_cons_zero, List.set_cons_succ]
      refine wpAnyH_now hHeld (fun hHeld => ?_)
      replace LF := rebase LF (hB38)
      replace z0 := rebase z0 (hB38)
      replace z1 := rebase z1 (hB38)
      replace z2 := rebase z2 (hB38)
      replace z3 := rebase z3 (hB38)
      replace s0 := rebase s0 (hB38)
      replace s1 := rebase s1 (hB38)
      replace s2 := rebase s2 (hB38)
      replace s3 := rebase s3 (hB38)
      replace s4 := rebase s4 (hB38)
      replace MO := rebase MO (hB38)
      replace XO := rebase XO (hB38)
      replace XI := rebase XI (hB38)
      replace MI := rebase MI (hB38)
      refine wpAnyH_take (i := 39) (oi := { dst := some 83, op := Go.Op.pick (Go.Operand.tmp 78) (Go.Operand.tmp 82) (Go.Operand.const (Go.Value.bool false)), type := 4, pos := "law.go:34", after := #[{ on := 34, ground := Go.Ground.data }, { on := 38, ground := Go.Ground.data }], guard := none }) (v := ?v72) rfl (by as_aux_lemma => kernel_rfl) (by as_aux_lemma => kernel_rfl) (by as_aux_lemma => kernel_rfl) (fun _ _ _ h => h) (Or.inl ⟨by kernel_rfl, ?h72⟩) (by assumption) ?r72
      case h72 => (intro w hSw; (try dsimp only at hSw); go_simp; try with_reducible rfl)
      try simp only [Act.put, List.setIfInBounds_toArray, List.set_cons_zero, List.set_cons_succ]
      refine wpAnyH_take (i := 40) (oi := { dst := some 84, op := Go.Op.move (Go.Operand.tmp 83), type := 4, pos := "law.go:34", after := #[{ on := 39, ground := Go.Ground.data }, { on := 38, ground := Go.Ground.chain }], guard := none }) (v := ?v73) rfl (by as_aux_lemma => kernel_rfl) (by as_aux_lemma => kernel_rfl) (by as_aux_lemma => kernel_rfl) (fun _ _ _ h => h) (Or.inl ⟨by kernel_rfl, ?h73⟩) (by assumption) ?r73
      case h73 => (intro w hSw; (try dsimp only at hSw); go_simp; try with_reducible rfl)
      try simp only [Act.put, List.setIfInBounds_toArray, List.set_cons_zero, List.set_cons_succ]
      refine wpAnyH_take (i := 41) (oi := { dst := some 85, op := Go.Op.load 26 (Go.Operand.tmp 1), type := 26, pos := "law.go:34", after := #[{ on := 40, ground := Go.Ground.guard }], guard := some (40, true) }) (v := ?v74) rfl (by as_aux_lemma => kernel_rfl) (by as_aux_lemma => kernel_rfl) (by as_aux_lemma => kernel_rfl) (fun _ _ _ h => h) (Or.inl ⟨by kernel_rfl, ?h74⟩) (by assumption) ?r74
      case h74 => (intro w hSw; (try dsimp only at hSw); go_simp; try with_reducible rfl)
      try simp only [Act.put, List.setIfInBounds_toArray, List.set_cons_zero, List.set_cons_succ]
      refine wpAnyH_ready (rs := [42, 43]) (by as_aux_lemma => kernel_rfl) (by simp) ?_
      refine AllReadyH.cons (o := { dst := some 86, op := Go.Op.call { callee := Go.Callee.value (Go.Operand.func 15), args := #[Go.Operand.tmp 85], argTypes := #[26] }, type := 32, pos := "law.go:34", after := #[{ on := 41, ground := Go.Ground.data }, { on := 40, ground := Go.Ground.chain }, { on := 40, ground := Go.Ground.guard }], guard := some (40, true) }) rfl (fun K hK => ?_) (AllReadyH.cons (o := { dst := some 87, op := Go.Op.buildSlice 32 4 #[(0, Go.Operand.const (Go.Value.int Go.IntKind.i64 0)), (1, Go.Operand.const (Go.Value.int Go.IntKind.i64 1)), (2, Go.Operand.const (Go.Value.int Go.IntKind.i64 2)), (3, Go.Operand.const (Go.Value.int Go.IntKind.i64 3))], type := 32, pos := "law.go:34", after := #[{ on := 40, ground := Go.Ground.guard }], guard := some (40, true) }) rfl (fun K hK => ?_) AllReadyH.nil)
      · go_simp
        with_reducible refine (QR.out _ (LF _ hHeld)).mono ?_
        rintro e t42 ⟨aMR, nMR, cMR, rfl, sMR', b42⟩
        have hB42 := hHeld.trans (b42.mono hHeld.size)
        have MR : ∀ W, Below t42.heap.size t42 W → SL W aMR nMR cMR [0, 1, 2, 3] := fun W hW => sMR'.below hW
        go_simp
        refine hK.out _ _ (hB42) (fun hHeld => ?_)
        clear hK K
        try simp only [Act.put, List.setIfInBounds_toArray, List.set_cons_zero, List.set_cons_succ]
        refine wpAnyH_now hHeld (fun hHeld => ?_)
        replace LF := rebase LF (hB42)
        replace z0 := rebase z0 (hB42)
        replace z1 := rebase z1 (hB42)
        replace z2 := rebase z2 (hB42)
        replace z3 := rebase z3 (hB42)
        replace s0 := rebase s0 (hB42)
        replace s1 := rebase s1 (hB42)
        replace s2 := rebase s2 (hB42)
        replace s3 := rebase s3 (hB42)
        replace s4 := rebase s4 (hB42)
        replace MO := rebase MO (hB42)
        replace XO := rebase XO (hB42)
        replace XI := rebase XI (hB42)
        replace MI := rebase MI (hB42)
        refine wpAnyH_ready (rs := [43]) (by as_aux_lemma => kernel_rfl) (by simp) ?_
        refine AllReadyH.cons (o := { dst := some 87, op := Go.Op.buildSlice 32 4 #[(0, Go.Operand.const (Go.Value.int Go.IntKind.i64 0)), (1, Go.Operand.const (Go.Value.int Go.IntKind.i64 1)), (2, Go.Operand.const (Go.Value.int Go.IntKind.i64 2)), (3, Go.Operand.const (Go.Value.int Go.IntKind.i64 3))], type := 32, pos := "law.go:34", after := #[{ on := 40, ground := Go.Ground.guard }], guard := some (40, true) }) rfl (fun K hK => ?_) AllReadyH.nil
        go_simp
        obtain ⟨t43, ht43⟩ : ∃ t43, t43 = t42.alloc (.cells #[.int .i64 0, .int .i64 1, .int .i64 2, .int .i64 3] 3) := ⟨_, rfl⟩
        have sXR' : SL t43 (some ⟨t42.heap.size, 0, none⟩) 4 4 [0, 1, 2, 3] := (by rw [ht43]; exact psl_lit _ _ 4 rfl (by omega) _ rfl)
        have hB43 := hHeld.alloc hHeld.size (.cells #[.int .i64 0, .int .i64 1, .int .i64 2, .int .i64 3] 3)
        rw [← ht43] at hB43
        rw [← ht43]
        clear ht43
        have XR : ∀ W, Below t43.heap.size t43 W → SL W (some ⟨t42.heap.size, 0, none⟩) 4 4 [0, 1, 2, 3] := fun W hW => sXR'.below hW
        refine hK.out _ _ (hB43) (fun hHeld => ?_)
        clear hK K
        try simp only [Act.put, List.setIfInBounds_toArray, List.set_cons_zero, List.set_cons_succ]
        refine wpAnyH_now hHeld (fun hHeld => ?_)
        replace LF := rebase LF (hB43)
        replace z0 := rebase z0 (hB43)
        replace z1 := rebase z1 (hB43)
        replace z2 := rebase z2 (hB43)
        replace z3 := rebase z3 (hB43)
        replace s0 := rebase s0 (hB43)
        replace s1 := rebase s1 (hB43)
        replace s2 := rebase s2 (hB43)
        replace s3 := rebase s3 (hB43)
        replace s4 := rebase s4 (hB43)
        replace MO := rebase MO (hB43)
        replace XO := rebase XO (hB43)
        replace XI := rebase XI (hB43)
        replace MI := rebase MI (hB43)
        replace MR := rebase MR (hB43)
        refine wpAnyH_ready (rs := [44]) (by as_aux_lemma => kernel_rfl) (by simp) ?_
        refine AllReadyH.cons (o := { dst := some 88, op := Go.Op.call { callee := Go.Callee.value (Go.Operand.func 16), args := #[Go.Operand.tmp 86, Go.Operand.tmp 87], argTypes := #[32, 32] }, type := 4, pos := "law.go:34", after := #[{ on := 42, ground := Go.Ground.data }, { on := 43, ground := Go.Ground.data }, { on := 42, ground := Go.Ground.chain }, { on := 40, ground := Go.Ground.guard }], guard := some (40, true) }) rfl (fun K hK => ?_) AllReadyH.nil
        go_simp
        with_reducible refine (QN.out _ _ _ _ _ _ _ _ (MR _ hHeld) (XR _ hHeld)).mono ?_
        rintro e t44 ⟨rfl, b44⟩
        have hB44 := hHeld.trans (b44.mono hHeld.size)
        go_simp
        refine hK.out _ _ (hB44) (fun hHeld => ?_)
        clear hK K
        try simp only [Act.put, List.setIfInBounds_toArray, List.set_cons_zero, List.set_cons_succ]
        refine wpAnyH_now hHeld (fun hHeld => ?_)
        replace LF := rebase LF (hB44)
        replace z0 := rebase z0 (hB44)
        replace z1 := rebase z1 (hB44)
        replace z2 := rebase z2 (hB44)
        replace z3 := rebase z3 (hB44)
        replace s0 := rebase s0 (hB44)
        replace s1 := rebase s1 (hB44)
        replace s2 := rebase s2 (hB44)
        replace s3 := rebase s3 (hB44)
        replace s4 := rebase s4 (hB44)
        replace MO := rebase MO (hB44)
        replace XO := rebase XO (hB44)
        replace XI := rebase XI (hB44)
        replace MI := rebase MI (hB44)
        replace MR := rebase MR (hB44)
        replace XR := rebase XR (hB44)
        refine wpAnyH_take (i := 45) (oi := { dst := some 89, op := Go.Op.pick (Go.Operand.tmp 84) (Go.Operand.tmp 88) (Go.Operand.const (Go.Value.bool false)), type := 4, pos := "law.go:34", after := #[{ on := 40, ground := Go.Ground.data }, { on := 44, ground := Go.Ground.data }], guard := none }) (v := ?v75) rfl (by as_aux_lemma => kernel_rfl) (by as_aux_lemma => kernel_rfl) (by as_aux_lemma => kernel_rfl) (fun _ _ _ h => h) (Or.inl ⟨by kernel_rfl, ?h75⟩) (by assumption) ?r75
        case h75 => (intro w hSw; (try dsimp only at hSw); go_simp; try with_reducible rfl)
        try simp only [Act.put, List.setIfInBounds_toArray, List.set_cons_zero, List.set_cons_succ]
        refine wpAnyH_take (i := 46) (oi := { dst := some 90, op := Go.Op.move (Go.Operand.tmp 89), type := 4, pos := "law.go:34", after := #[{ on := 45, ground := Go.Ground.data }, { on := 44, ground := Go.Ground.chain }], guard := none }) (v := ?v76) rfl (by as_aux_lemma => kernel_rfl) (by as_aux_lemma => kernel_rfl) (by as_aux_lemma => kernel_rfl) (fun _ _ _ h => h) (Or.inl ⟨by kernel_rfl, ?h76⟩) (by assumption) ?r76
        case h76 => (intro w hSw; (try dsimp only at hSw); go_simp; try with_reducible rfl)
        try simp only [Act.put, List.setIfInBounds_toArray, List.set_cons_zero, List.set_cons_succ]
        refine wpAnyH_take (i := 47) (oi := { dst := some 91, op := Go.Op.build 38 #[(0, Go.Operand.const (Go.Value.int Go.IntKind.i64 1))], type := 38, pos := "law.go:34", after := #[{ on := 46, ground := Go.Ground.guard }], guard := some (46, true) }) (v := ?v77) rfl (by as_aux_lemma => kernel_rfl) (by as_aux_lemma => kernel_rfl) (by as_aux_lemma => kernel_rfl) (fun _ _ _ h => h) (Or.inl ⟨by kernel_rfl, ?h77⟩) (by assumption) ?r77
        case h77 => (intro w hSw; (try dsimp only at hSw); go_simp; try with_reducible rfl)
        try simp only [Act.put, List.setIfInBounds_toArray, List.set_cons_zero, List.set_cons_succ]
        refine wpAnyH_ready (rs := [48]) (by as_aux_lemma => kernel_rfl) (by simp) ?_
        refine AllReadyH.cons (o := { dst := some 92, op := Go.Op.call { callee := Go.Callee.value (Go.Operand.func 21), args := #[Go.Operand.tmp 91, Go.Operand.const (Go.Value.int Go.IntKind.i64 0)], argTypes := #[38, 3] }, type := 4, pos := "law.go:34", after := #[{ on := 47, ground := Go.Ground.data }, { on := 46, ground := Go.Ground.chain }, { on := 46, ground := Go.Ground.guard }], guard := some (46, true) }) rfl (fun K hK => ?_) AllReadyH.nil
        go_simp
        with_reducible refine (QRt.out _).mono ?_
        rintro e t48 ⟨rfl, b48⟩
        have hB48 := hHeld.trans (b48.mono hHeld.size)
        go_simp
        refine hK.out _ _ (hB48) (fun hHeld => ?_)
        clear hK K
        try simp only [Act.put, List.setIfInBounds_toArray, List.set_cons_zero, List.set_cons_succ]
        refine wpAnyH_now hHeld (fun hHeld => ?_)
        replace LF := rebase LF (hB48)
        replace z0 := rebase z0 (hB48)
        replace z1 := rebase z1 (hB48)
        replace z2 := rebase z2 (hB48)
        replace z3 := rebase z3 (hB48)
        replace s0 := rebase s0 (hB48)
        replace s1 := rebase s1 (hB48)
        replace s2 := rebase s2 (hB48)
        replace s3 := rebase s3 (hB48)
        replace s4 := rebase s4 (hB48)
        replace MO := rebase MO (hB48)
        replace XO := rebase XO (hB48)
        replace XI := rebase XI (hB48)
        replace MI := rebase MI (hB48)
        replace MR := rebase MR (hB48)
        replace XR := rebase XR (hB48)
        refine wpAnyH_take (i := 49) (oi := { dst := some 93, op := Go.Op.pick (Go.Operand.tmp 90) (Go.Operand.tmp 92) (Go.Operand.const (Go.Value.bool false)), type := 4, pos := "law.go:34", after := #[{ on := 46, ground := Go.Ground.data }, { on := 48, ground := Go.Ground.data }], guard := none }) (v := ?v78) rfl (by as_aux_lemma => kernel_rfl) (by as_aux_lemma => kernel_rfl) (by as_aux_lemma => kernel_rfl) (fun _ _ _ h => h) (Or.inl ⟨by kernel_rfl, ?h78⟩) (by assumption) ?r78
        case h78 => (intro w hSw; (try dsimp only at hSw); go_simp; try with_reducible rfl)
        try simp only [Act.put, List.setIfInBounds_toArray, List.set_cons_zero, List.set_cons_succ]
        refine wpAnyH_take (i := 50) (oi := { dst := some 94, op := Go.Op.move (Go.Operand.tmp 93), type := 4, pos := "law.go:34", after := #[{ on := 49, ground := Go.Ground.data }, { on := 48, ground := Go.Ground.chain }], guard := none }) (v := ?v79) rfl (by as_aux_lemma => kernel_rfl) (by as_aux_lemma => kernel_rfl) (by as_aux_lemma => kernel_rfl) (fun _ _ _ h => h) (Or.inl ⟨by kernel_rfl, ?h79⟩) (by assumption) ?r79
        case h79 => (intro w hSw; (try dsimp only at hSw); go_simp; try with_reducible rfl)
        try simp only [Act.put, List.setIfInBounds_toArray, List.set_cons_zero, List.set_cons_succ]
        refine wpAnyH_take (i := 51) (oi := { dst := some 95, op := Go.Op.build 26 #[], type := 26, pos := "law.go:34", after := #[{ on := 50, ground := Go.Ground.guard }], guard := some (50, true) }) (v := ?v80) rfl (by as_aux_lemma => kernel_rfl) (by as_aux_lemma => kernel_rfl) (by as_aux_lemma => kernel_rfl) (fun _ _ _ h => h) (Or.inl ⟨by kernel_rfl, ?h80⟩) (by assumption) ?r80
        case h80 => (intro w hSw; (try dsimp only at hSw); go_simp; try with_reducible rfl)
        try simp only [Act.put, List.setIfInBounds_toArray, List.set_cons_zero, List.set_cons_succ]
        refine wpAnyH_ready (rs := [52]) (by as_aux_lemma => kernel_rfl) (by simp) ?_
        refine AllReadyH.cons (o := { dst := some 96, op := Go.Op.call { callee := Go.Callee.value (Go.Operand.func 9), args := #[Go.Operand.tmp 95], argTypes := #[26] }, type := 29, pos := "law.go:34", after := #[{ on := 51, ground := Go.Ground.data }, { on := 50, ground := Go.Ground.chain }, { on := 50, ground := Go.Ground.guard }], guard := some (50, true) }) rfl (fun K hK => ?_) AllReadyH.nil
        go_simp
        with_reducible refine (QE.out _).mono ?_
        rintro e t52 ⟨rfl, b52⟩
        have hB52 := hHeld.trans (b52.mono hHeld.size)
        go_simp
        refine hK.out _ _ (hB52) (fun hHeld => ?_)
        clear hK K
        try simp only [Act.put, List.setIfInBounds_toArray, List.set_cons_zero, List.set_cons_succ]
        refine wpAnyH_now hHeld (fun hHeld => ?_)
        replace LF := rebase LF (hB52)
        replace z0 := rebase z0 (hB52)
        replace z1 := rebase z1 (hB52)
        replace z2 := rebase z2 (hB52)
        replace z3 := rebase z3 (hB52)
        replace s0 := rebase s0 (hB52)
        replace s1 := rebase s1 (hB52)
        replace s2 := rebase s2 (hB52)
        replace s3 := rebase s3 (hB52)
        replace s4 := rebase s4 (hB52)
        replace MO := rebase MO (hB52)
        replace XO := rebase XO (hB52)
        replace XI := rebase XI (hB52)
        replace MI := rebase MI (hB52)
        replace MR := rebase MR (hB52)
        replace XR := rebase XR (hB52)
        refine wpAnyH_take (i := 53) (oi := { dst := some 97, op := Go.Op.binOp Go.BinOp.eql 29 (Go.Operand.tmp 96) (Go.Operand.const (Go.Value.int Go.IntKind.i64 110)) 29, type := 4, pos := "law.go:34", after := #[{ on := 52, ground := Go.Ground.data }, { on := 50, ground := Go.Ground.guard }], guard := some (50, true) }) (v := ?v81) rfl (by as_aux_lemma => kernel_rfl) (by as_aux_lemma => kernel_rfl) (by as_aux_lemma => kernel_rfl) (fun _ _ _ h => h) (Or.inl ⟨by kernel_rfl, ?h81⟩) (by assumption) ?r81
        case h81 => (intro w hSw; (try dsimp only at hSw); go_simp; try with_reducible rfl)
        try simp only [Act.put, List.setIfInBounds_toArray, List.set_cons_zero, List.set_cons_succ]
        refine wpAnyH_take (i := 54) (oi := { dst := some 98, op := Go.Op.pick (Go.Operand.tmp 94) (Go.Operand.tmp 97) (Go.Operand.const (Go.Value.bool false)), type := 4, pos := "law.go:34", after := #[{ on := 50, ground := Go.Ground.data }, { on := 53, ground := Go.Ground.data }], guard := none }) (v := ?v82) rfl (by as_aux_lemma => kernel_rfl) (by as_aux_lemma => kernel_rfl) (by as_aux_lemma => kernel_rfl) (fun _ _ _ h => h) (Or.inl ⟨by kernel_rfl, ?h82⟩) (by assumption) ?r82
        case h82 => (intro w hSw; (try dsimp only at hSw); go_simp; try with_reducible rfl)
        try simp only [Act.put, List.setIfInBounds_toArray, List.set_cons_zero, List.set_cons_succ]
        refine wpAnyH_take (i := 55) (oi := { dst := some 99, op := Go.Op.move (Go.Operand.tmp 98), type := 4, pos := "law.go:34", after := #[{ on := 54, ground := Go.Ground.data }, { on := 52, ground := Go.Ground.chain }], guard := none }) (v := ?v83) rfl (by as_aux_lemma => kernel_rfl) (by as_aux_lemma => kernel_rfl) (by as_aux_lemma => kernel_rfl) (fun _ _ _ h => h) (Or.inl ⟨by kernel_rfl, ?h83⟩) (by assumption) ?r83
        case h83 => (intro w hSw; (try dsimp only at hSw); go_simp; try with_reducible rfl)
        try simp only [Act.put, List.setIfInBounds_toArray, List.set_cons_zero, List.set_cons_succ]
        refine wpAnyH_take (i := 56) (oi := { dst := some 100, op := Go.Op.load 26 (Go.Operand.tmp 1), type := 26, pos := "law.go:34", after := #[{ on := 55, ground := Go.Ground.guard }], guard := some (55, true) }) (v := ?v84) rfl (by as_aux_lemma => kernel_rfl) (by as_aux_lemma => kernel_rfl) (by as_aux_lemma => kernel_rfl) (fun _ _ _ h => h) (Or.inl ⟨by kernel_rfl, ?h84⟩) (by assumption) ?r84
        case h84 => (intro w hSw; (try dsimp only at hSw); go_simp; try with_reducible rfl)
        try simp only [Act.put, List.setIfInBounds_toArray, List.set_cons_zero, List.set_cons_succ]
        refine wpAnyH_ready (rs := [57]) (by as_aux_lemma => kernel_rfl) (by simp) ?_
        refine AllReadyH.cons (o := { dst := some 101, op := Go.Op.call { callee := Go.Callee.value (Go.Operand.func 27), args := #[], argTypes := #[] }, type := 26, pos := "law.go:34", after := #[{ on := 55, ground := Go.Ground.chain }, { on := 55, ground := Go.Ground.guard }], guard := some (55, true) }) rfl (fun K hK => ?_) AllReadyH.nil
        go_simp
        with_reducible refine (QM.out _).mono ?_
        rintro e t57 ⟨⟨qnm, qa1, qn1, qc1, qa2, qn2, qc2, qa3, qn3, qc3⟩, he, hq, b57⟩
        have hB57 := hHeld.trans (b57.mono hHeld.size)
        have MS : ∀ W, Below t57.heap.size t57 W → PrA W ⟨qnm, qa1, qn1, qc1, qa2, qn2, qc2, qa3, qn3, qc3⟩ smallD := fun W hW => hq.below hW
        replace he := show e = .returned (.agg #[.string qnm, .slice qa1 qn1 qc1, .slice qa2 qn2 qc2, .slice qa3 qn3 qc3]) from he
        subst he
        go_simp
        refine hK.out _ _ (hB57) (fun hHeld => ?_)
        clear hK K
        try simp only [Act.put, List.setIfInBounds_toArray, List.set_cons_zero, List.set_cons_succ]
        refine wpAnyH_now hHeld (fun hHeld => ?_)
        replace LF := rebase LF (hB57)
        replace z0 := rebase z0 (hB57)
        replace z1 := rebase z1 (hB57)
        replace z2 := rebase z2 (hB57)
        replace z3 := rebase z3 (hB57)
        replace s0 := rebase s0 (hB57)
        replace s1 := rebase s1 (hB57)
        replace s2 := rebase s2 (hB57)
        replace s3 := rebase s3 (hB57)
        replace s4 := rebase s4 (hB57)
        replace MO := rebase MO (hB57)
        replace XO := rebase XO (hB57)
        replace XI := rebase XI (hB57)
        replace MI := rebase MI (hB57)
        replace MR := rebase MR (hB57)
        replace XR := rebase XR (hB57)
        refine wpAnyH_ready (rs := [58]) (by as_aux_lemma => kernel_rfl) (by simp) ?_
        refine AllReadyH.cons (o := { dst := some 102, op := Go.Op.call { callee := Go.Callee.value (Go.Operand.func 10), args := #[Go.Operand.tmp 100, Go.Operand.tmp 101], argTypes := #[26, 26] }, type := 4, pos := "law.go:34", after := #[{ on := 56, ground := Go.Ground.data }, { on := 57, ground := Go.Ground.data }, { on := 57, ground := Go.Ground.chain }, { on := 55, ground := Go.Ground.guard }], guard := some (55, true) }) rfl (fun K hK => ?_) AllReadyH.nil
        go_simp
        with_reducible refine (QS.out _ _ (LF _ hHeld) (MS _ hHeld)).mono ?_
        rintro e t58 ⟨rfl, b58⟩
        have hB58 := hHeld.trans (b58.mono hHeld.size)
        go_simp
        refine hK.out _ _ (hB58) (fun hHeld => ?_)
        clear hK K
        try simp only [Act.put, List.setIfInBounds_toArray, List.set_cons_zero, List.set_cons_succ]
        refine wpAnyH_now hHeld (fun hHeld => ?_)
        replace LF := rebase LF (hB58)
        replace z0 := rebase z0 (hB58)
        replace z1 := rebase z1 (hB58)
        replace z2 := rebase z2 (hB58)
        replace z3 := rebase z3 (hB58)
        replace s0 := rebase s0 (hB58)
        replace s1 := rebase s1 (hB58)
        replace s2 := rebase s2 (hB58)
        replace s3 := rebase s3 (hB58)
        replace s4 := rebase s4 (hB58)
        replace MO := rebase MO (hB58)
        replace XO := rebase XO (hB58)
        replace XI := rebase XI (hB58)
        replace MI := rebase MI (hB58)
        replace MR := rebase MR (hB58)
        replace XR := rebase XR (hB58)
        replace MS := rebase MS (hB58)
        refine wpAnyH_take (i := 59) (oi := { dst := some 103, op := Go.Op.pick (Go.Operand.tmp 99) (Go.Operand.tmp 102) (Go.Operand.const (Go.Value.bool false)), type := 4, pos := "law.go:34", after := #[{ on := 55, ground := Go.Ground.data }, { on := 58, ground := Go.Ground.data }], guard := none }) (v := ?v85) rfl (by as_aux_lemma => kernel_rfl) (by as_aux_lemma => kernel_rfl) (by as_aux_lemma => kernel_rfl) (fun _ _ _ h => h) (Or.inl ⟨by kernel_rfl, ?h85⟩) (by assumption) ?r85
        case h85 => (intro w hSw; (try dsimp only at hSw); go_simp; try with_reducible rfl)
        try simp only [Act.put, List.setIfInBounds_toArray, List.set_cons_zero, List.set_cons_succ]
        refine wpAnyH_take (i := 60) (oi := { dst := some 0, op := Go.Op.assign (Go.Operand.tmp 103), type := 4, pos := "law.go:34", after := #[{ on := 59, ground := Go.Ground.data }, { on := 58, ground := Go.Ground.chain }, { on := 0, ground := Go.Ground.phase }, { on := 1, ground := Go.Ground.phase }, { on := 2, ground := Go.Ground.phase }, { on := 3, ground := Go.Ground.phase }, { on := 4, ground := Go.Ground.phase }, { on := 5, ground := Go.Ground.phase }, { on := 6, ground := Go.Ground.phase }, { on := 7, ground := Go.Ground.phase }, { on := 8, ground := Go.Ground.phase }, { on := 9, ground := Go.Ground.phase }, { on := 10, ground := Go.Ground.phase }, { on := 11, ground := Go.Ground.phase }, { on := 12, ground := Go.Ground.phase }, { on := 13, ground := Go.Ground.phase }, { on := 14, ground := Go.Ground.phase }, { on := 15, ground := Go.Ground.phase }, { on := 16, ground := Go.Ground.phase }, { on := 17, ground := Go.Ground.phase }, { on := 18, ground := Go.Ground.phase }, { on := 19, ground := Go.Ground.phase }, { on := 20, ground := Go.Ground.phase }, { on := 21, ground := Go.Ground.phase }, { on := 22, ground := Go.Ground.phase }, { on := 23, ground := Go.Ground.phase }, { on := 24, ground := Go.Ground.phase }, { on := 25, ground := Go.Ground.phase }, { on := 26, ground := Go.Ground.phase }, { on := 27, ground := Go.Ground.phase }, { on := 28, ground := Go.Ground.phase }, { on := 29, ground := Go.Ground.phase }, { on := 30, ground := Go.Ground.phase }, { on := 31, ground := Go.Ground.phase }, { on := 32, ground := Go.Ground.phase }, { on := 33, ground := Go.Ground.phase }, { on := 34, ground := Go.Ground.phase }, { on := 35, ground := Go.Ground.phase }, { on := 36, ground := Go.Ground.phase }, { on := 37, ground := Go.Ground.phase }, { on := 38, ground := Go.Ground.phase }, { on := 39, ground := Go.Ground.phase }, { on := 40, ground := Go.Ground.phase }, { on := 41, ground := Go.Ground.phase }, { on := 42, ground := Go.Ground.phase }, { on := 43, ground := Go.Ground.phase }, { on := 44, ground := Go.Ground.phase }, { on := 45, ground := Go.Ground.phase }, { on := 46, ground := Go.Ground.phase }, { on := 47, ground := Go.Ground.phase }, { on := 48, ground := Go.Ground.phase }, { on := 49, ground := Go.Ground.phase }, { on := 50, ground := Go.Ground.phase }, { on := 51, ground := Go.Ground.phase }, { on := 52, ground := Go.Ground.phase }, { on := 53, ground := Go.Ground.phase }, { on := 54, ground := Go.Ground.phase }, { on := 55, ground := Go.Ground.phase }, { on := 56, ground := Go.Ground.phase }, { on := 57, ground := Go.Ground.phase }, { on := 58, ground := Go.Ground.phase }, { on := 59, ground := Go.Ground.phase }], guard := none }) (v := ?v86) rfl (by as_aux_lemma => kernel_rfl) (by as_aux_lemma => kernel_rfl) (by as_aux_lemma => kernel_rfl) (fun _ _ _ h => h) (Or.inl ⟨by kernel_rfl, ?h86⟩) (by assumption) ?r86
        case h86 => (intro w hSw; (try dsimp only at hSw); go_simp; try with_reducible rfl)
        try simp only [Act.put, List.setIfInBounds_toArray, List.set_cons_zero, List.set_cons_succ]
        refine wpAnyH_done (by as_aux_lemma => kernel_rfl) ?_ _
        go_wp2
        go_ret
        exact ⟨rfl, (LF _ hHeld).bel⟩
      · go_simp
        obtain ⟨t43, ht43⟩ : ∃ t43, t43 = t38.alloc (.cells #[.int .i64 0, .int .i64 1, .int .i64 2, .int .i64 3] 3) := ⟨_, rfl⟩
        have sXR' : SL t43 (some ⟨t38.heap.size, 0, none⟩) 4 4 [0, 1, 2, 3] := (by rw [ht43]; exact psl_lit _ _ 4 rfl (by omega) _ rfl)
        have hB43 := hHeld.alloc hHeld.size (.cells #[.int .i64 0, .int .i64 1, .int .i64 2, .int .i64 3] 3)
        rw [← ht43] at hB43
        rw [← ht43]
        clear ht43
        have XR : ∀ W, Below t43.heap.size t43 W → SL W (some ⟨t38.heap.size, 0, none⟩) 4 4 [0, 1, 2, 3] := fun W hW => sXR'.below hW
        refine hK.out _ _ (hB43) (fun hHeld => ?_)
        clear hK K
        try simp only [Act.put, List.setIfInBounds_toArray, List.set_cons_zero, List.set_cons_succ]
        refine wpAnyH_now hHeld (fun hHeld => ?_)
        replace LF := rebase LF (hB43)
        replace z0 := rebase z0 (hB43)
        replace z1 := rebase z1 (hB43)
        replace z2 := rebase z2 (hB43)
        replace z3 := rebase z3 (hB43)
        replace s0 := rebase s0 (hB43)
        replace s1 := rebase s1 (hB43)
        replace s2 := rebase s2 (hB43)
        replace s3 := rebase s3 (hB43)
        replace s4 := rebase s4 (hB43)
        replace MO := rebase MO (hB43)
        replace XO := rebase XO (hB43)
        replace XI := rebase XI (hB43)
        replace MI := rebase MI (hB43)
        refine wpAnyH_ready (rs := [42]) (by as_aux_lemma => kernel_rfl) (by simp) ?_
        refine AllReadyH.cons (o := { dst := some 86, op := Go.Op.call { callee := Go.Callee.value (Go.Operand.func 15), args := #[Go.Operand.tmp 85], argTypes := #[26] }, type := 32, pos := "law.go:34", after := #[{ on := 41, ground := Go.Ground.data }, { on := 40, ground := Go.Ground.chain }, { on := 40, ground := Go.Ground.guard }], guard := some (40, true) }) rfl (fun K hK => ?_) AllReadyH.nil
        go_simp
        with_reducible refine (QR.out _ (LF _ hHeld)).mono ?_
        rintro e t42 ⟨aMR, nMR, cMR, rfl, sMR', b42⟩
        have hB42 := hHeld.trans (b42.mono hHeld.size)
        have MR : ∀ W, Below t42.heap.size t42 W → SL W aMR nMR cMR [0, 1, 2, 3] := fun W hW => sMR'.below hW
        go_simp
        refine hK.out _ _ (hB42) (fun hHeld => ?_)
        clear hK K
        try simp only [Act.put, List.setIfInBounds_toArray, List.set_cons_zero, List.set_cons_succ]
        refine wpAnyH_now hHeld (fun hHeld => ?_)
        replace LF := rebase LF (hB42)
        replace z0 := rebase z0 (hB42)
        replace z1 := rebase z1 (hB42)
        replace z2 := rebase z2 (hB42)
        replace z3 := rebase z3 (hB42)
        replace s0 := rebase s0 (hB42)
        replace s1 := rebase s1 (hB42)
        replace s2 := rebase s2 (hB42)
        replace s3 := rebase s3 (hB42)
        replace s4 := rebase s4 (hB42)
        replace MO := rebase MO (hB42)
        replace XO := rebase XO (hB42)
        replace XI := rebase XI (hB42)
        replace MI := rebase MI (hB42)
        replace XR := rebase XR (hB42)
        refine wpAnyH_ready (rs := [44]) (by as_aux_lemma => kernel_rfl) (by simp) ?_
        refine AllReadyH.cons (o := { dst := some 88, op := Go.Op.call { callee := Go.Callee.value (Go.Operand.func 16), args := #[Go.Operand.tmp 86, Go.Operand.tmp 87], argTypes := #[32, 32] }, type := 4, pos := "law.go:34", after := #[{ on := 42, ground := Go.Ground.data }, { on := 43, ground := Go.Ground.data }, { on := 42, ground := Go.Ground.chain }, { on := 40, ground := Go.Ground.guard }], guard := some (40, true) }) rfl (fun K hK => ?_) AllReadyH.nil
        go_simp
        with_reducible refine (QN.out _ _ _ _ _ _ _ _ (MR _ hHeld) (XR _ hHeld)).mono ?_
        rintro e t44 ⟨rfl, b44⟩
        have hB44 := hHeld.trans (b44.mono hHeld.size)
        go_simp
        refine hK.out _ _ (hB44) (fun hHeld => ?_)
        clear hK K
        try simp only [Act.put, List.setIfInBounds_toArray, List.set_cons_zero, List.set_cons_succ]
        refine wpAnyH_now hHeld (fun hHeld => ?_)
        replace LF := rebase LF (hB44)
        replace z0 := rebase z0 (hB44)
        replace z1 := rebase z1 (hB44)
        replace z2 := rebase z2 (hB44)
        replace z3 := rebase z3 (hB44)
        replace s0 := rebase s0 (hB44)
        replace s1 := rebase s1 (hB44)
        replace s2 := rebase s2 (hB44)
        replace s3 := rebase s3 (hB44)
        replace s4 := rebase s4 (hB44)
        replace MO := rebase MO (hB44)
        replace XO := rebase XO (hB44)
        replace XI := rebase XI (hB44)
        replace MI := rebase MI (hB44)
        replace XR := rebase XR (hB44)
        replace MR := rebase MR (hB44)
        refine wpAnyH_take (i := 45) (oi := { dst := some 89, op := Go.Op.pick (Go.Operand.tmp 84) (Go.Operand.tmp 88) (Go.Operand.const (Go.Value.bool false)), type := 4, pos := "law.go:34", after := #[{ on := 40, ground := Go.Ground.data }, { on := 44, ground := Go.Ground.data }], guard := none }) (v := ?v87) rfl (by as_aux_lemma => kernel_rfl) (by as_aux_lemma => kernel_rfl) (by as_aux_lemma => kernel_rfl) (fun _ _ _ h => h) (Or.inl ⟨by kernel_rfl, ?h87⟩) (by assumption) ?r87
        case h87 => (intro w hSw; (try dsimp only at hSw); go_simp; try with_reducible rfl)
        try simp only [Act.put, List.setIfInBounds_toArray, List.set_cons_zero, List.set_cons_succ]
        refine wpAnyH_take (i := 46) (oi := { dst := some 90, op := Go.Op.move (Go.Operand.tmp 89), type := 4, pos := "law.go:34", after := #[{ on := 45, ground := Go.Ground.data }, { on := 44, ground := Go.Ground.chain }], guard := none }) (v := ?v88) rfl (by as_aux_lemma => kernel_rfl) (by as_aux_lemma => kernel_rfl) (by as_aux_lemma => kernel_rfl) (fun _ _ _ h => h) (Or.inl ⟨by kernel_rfl, ?h88⟩) (by assumption) ?r88
        case h88 => (intro w hSw; (try dsimp only at hSw); go_simp; try with_reducible rfl)
        try simp only [Act.put, List.setIfInBounds_toArray, List.set_cons_zero, List.set_cons_succ]
        refine wpAnyH_take (i := 47) (oi := { dst := some 91, op := Go.Op.build 38 #[(0, Go.Operand.const (Go.Value.int Go.IntKind.i64 1))], type := 38, pos := "law.go:34", after := #[{ on := 46, ground := Go.Ground.guard }], guard := some (46, true) }) (v := ?v89) rfl (by as_aux_lemma => kernel_rfl) (by as_aux_lemma => kernel_rfl) (by as_aux_lemma => kernel_rfl) (fun _ _ _ h => h) (Or.inl ⟨by kernel_rfl, ?h89⟩) (by assumption) ?r89
        case h89 => (intro w hSw; (try dsimp only at hSw); go_simp; try with_reducible rfl)
        try simp only [Act.put, List.setIfInBounds_toArray, List.set_cons_zero, List.set_cons_succ]
        refine wpAnyH_ready (rs := [48]) (by as_aux_lemma => kernel_rfl) (by simp) ?_
        refine AllReadyH.cons (o := { dst := some 92, op := Go.Op.call { callee := Go.Callee.value (Go.Operand.func 21), args := #[Go.Operand.tmp 91, Go.Operand.const (Go.Value.int Go.IntKind.i64 0)], argTypes := #[38, 3] }, type := 4, pos := "law.go:34", after := #[{ on := 47, ground := Go.Ground.data }, { on := 46, ground := Go.Ground.chain }, { on := 46, ground := Go.Ground.guard }], guard := some (46, true) }) rfl (fun K hK => ?_) AllReadyH.nil
        go_simp
        with_reducible refine (QRt.out _).mono ?_
        rintro e t48 ⟨rfl, b48⟩
        have hB48 := hHeld.trans (b48.mono hHeld.size)
        go_simp
        refine hK.out _ _ (hB48) (fun hHeld => ?_)
        clear hK K
        try simp only [Act.put, List.setIfInBounds_toArray, List.set_cons_zero, List.set_cons_succ]
        refine wpAnyH_now hHeld (fun hHeld => ?_)
        replace LF := rebase LF (hB48)
        replace z0 := rebase z0 (hB48)
        replace z1 := rebase z1 (hB48)
        replace z2 := rebase z2 (hB48)
        replace z3 := rebase z3 (hB48)
        replace s0 := rebase s0 (hB48)
        replace s1 := rebase s1 (hB48)
        replace s2 := rebase s2 (hB48)
        replace s3 := rebase s3 (hB48)
        replace s4 := rebase s4 (hB48)
        replace MO := rebase MO (hB48)
        replace XO := rebase XO (hB48)
        replace XI := rebase XI (hB48)
        replace MI := rebase MI (hB48)
        replace XR := rebase XR (hB48)
        replace MR := rebase MR (hB48)
        refine wpAnyH_take (i := 49) (oi := { dst := some 93, op := Go.Op.pick (Go.Operand.tmp 90) (Go.Operand.tmp 92) (Go.Operand.const (Go.Value.bool false)), type := 4, pos := "law.go:34", after := #[{ on := 46, ground := Go.Ground.data }, { on := 48, ground := Go.Ground.data }], guard := none }) (v := ?v90) rfl (by as_aux_lemma => kernel_rfl) (by as_aux_lemma => kernel_rfl) (by as_aux_lemma => kernel_rfl) (fun _ _ _ h => h) (Or.inl ⟨by kernel_rfl, ?h90⟩) (by assumption) ?r90
        case h90 => (intro w hSw; (try dsimp only at hSw); go_simp; try with_reducible rfl)
        try simp only [Act.put, List.setIfInBounds_toArray, List.set_cons_zero, List.set_cons_succ]
        refine wpAnyH_take (i := 50) (oi := { dst := some 94, op := Go.Op.move (Go.Operand.tmp 93), type := 4, pos := "law.go:34", after := #[{ on := 49, ground := Go.Ground.data }, { on := 48, ground := Go.Ground.chain }], guard := none }) (v := ?v91) rfl (by as_aux_lemma => kernel_rfl) (by as_aux_lemma => kernel_rfl) (by as_aux_lemma => kernel_rfl) (fun _ _ _ h => h) (Or.inl ⟨by kernel_rfl, ?h91⟩) (by assumption) ?r91
        case h91 => (intro w hSw; (try dsimp only at hSw); go_simp; try with_reducible rfl)
        try simp only [Act.put, List.setIfInBounds_toArray, List.set_cons_zero, List.set_cons_succ]
        refine wpAnyH_take (i := 51) (oi := { dst := some 95, op := Go.Op.build 26 #[], type := 26, pos := "law.go:34", after := #[{ on := 50, ground := Go.Ground.guard }], guard := some (50, true) }) (v := ?v92) rfl (by as_aux_lemma => kernel_rfl) (by as_aux_lemma => kernel_rfl) (by as_aux_lemma => kernel_rfl) (fun _ _ _ h => h) (Or.inl ⟨by kernel_rfl, ?h92⟩) (by assumption) ?r92
        case h92 => (intro w hSw; (try dsimp only at hSw); go_simp; try with_reducible rfl)
        try simp only [Act.put, List.setIfInBounds_toArray, List.set_cons_zero, List.set_cons_succ]
        refine wpAnyH_ready (rs := [52]) (by as_aux_lemma => kernel_rfl) (by simp) ?_
        refine AllReadyH.cons (o := { dst := some 96, op := Go.Op.call { callee := Go.Callee.value (Go.Operand.func 9), args := #[Go.Operand.tmp 95], argTypes := #[26] }, type := 29, pos := "law.go:34", after := #[{ on := 51, ground := Go.Ground.data }, { on := 50, ground := Go.Ground.chain }, { on := 50, ground := Go.Ground.guard }], guard := some (50, true) }) rfl (fun K hK => ?_) AllReadyH.nil
        go_simp
        with_reducible refine (QE.out _).mono ?_
        rintro e t52 ⟨rfl, b52⟩
        have hB52 := hHeld.trans (b52.mono hHeld.size)
        go_simp
        refine hK.out _ _ (hB52) (fun hHeld => ?_)
        clear hK K
        try simp only [Act.put, List.setIfInBounds_toArray, List.set_cons_zero, List.set_cons_succ]
        refine wpAnyH_now hHeld (fun hHeld => ?_)
        replace LF := rebase LF (hB52)
        replace z0 := rebase z0 (hB52)
        replace z1 := rebase z1 (hB52)
        replace z2 := rebase z2 (hB52)
        replace z3 := rebase z3 (hB52)
        replace s0 := rebase s0 (hB52)
        replace s1 := rebase s1 (hB52)
        replace s2 := rebase s2 (hB52)
        replace s3 := rebase s3 (hB52)
        replace s4 := rebase s4 (hB52)
        replace MO := rebase MO (hB52)
        replace XO := rebase XO (hB52)
        replace XI := rebase XI (hB52)
        replace MI := rebase MI (hB52)
        replace XR := rebase XR (hB52)
        replace MR := rebase MR (hB52)
        refine wpAnyH_take (i := 53) (oi := { dst := some 97, op := Go.Op.binOp Go.BinOp.eql 29 (Go.Operand.tmp 96) (Go.Operand.const (Go.Value.int Go.IntKind.i64 110)) 29, type := 4, pos := "law.go:34", after := #[{ on := 52, ground := Go.Ground.data }, { on := 50, ground := Go.Ground.guard }], guard := some (50, true) }) (v := ?v93) rfl (by as_aux_lemma => kernel_rfl) (by as_aux_lemma => kernel_rfl) (by as_aux_lemma => kernel_rfl) (fun _ _ _ h => h) (Or.inl ⟨by kernel_rfl, ?h93⟩) (by assumption) ?r93
        case h93 => (intro w hSw; (try dsimp only at hSw); go_simp; try with_reducible rfl)
        try simp only [Act.put, List.setIfInBounds_toArray, List.set_cons_zero, List.set_cons_succ]
        refine wpAnyH_take (i := 54) (oi := { dst := some 98, op := Go.Op.pick (Go.Operand.tmp 94) (Go.Operand.tmp 97) (Go.Operand.const (Go.Value.bool false)), type := 4, pos := "law.go:34", after := #[{ on := 50, ground := Go.Ground.data }, { on := 53, ground := Go.Ground.data }], guard := none }) (v := ?v94) rfl (by as_aux_lemma => kernel_rfl) (by as_aux_lemma => kernel_rfl) (by as_aux_lemma => kernel_rfl) (fun _ _ _ h => h) (Or.inl ⟨by kernel_rfl, ?h94⟩) (by assumption) ?r94
        case h94 => (intro w hSw; (try dsimp only at hSw); go_simp; try with_reducible rfl)
        try simp only [Act.put, List.setIfInBounds_toArray, List.set_cons_zero, List.set_cons_succ]
        refine wpAnyH_take (i := 55) (oi := { dst := some 99, op := Go.Op.move (Go.Operand.tmp 98), type := 4, pos := "law.go:34", after := #[{ on := 54, ground := Go.Ground.data }, { on := 52, ground := Go.Ground.chain }], guard := none }) (v := ?v95) rfl (by as_aux_lemma => kernel_rfl) (by as_aux_lemma => kernel_rfl) (by as_aux_lemma => kernel_rfl) (fun _ _ _ h => h) (Or.inl ⟨by kernel_rfl, ?h95⟩) (by assumption) ?r95
        case h95 => (intro w hSw; (try dsimp only at hSw); go_simp; try with_reducible rfl)
        try simp only [Act.put, List.setIfInBounds_toArray, List.set_cons_zero, List.set_cons_succ]
        refine wpAnyH_take (i := 56) (oi := { dst := some 100, op := Go.Op.load 26 (Go.Operand.tmp 1), type := 26, pos := "law.go:34", after := #[{ on := 55, ground := Go.Ground.guard }], guard := some (55, true) }) (v := ?v96) rfl (by as_aux_lemma => kernel_rfl) (by as_aux_lemma => kernel_rfl) (by as_aux_lemma => kernel_rfl) (fun _ _ _ h => h) (Or.inl ⟨by kernel_rfl, ?h96⟩) (by assumption) ?r96
        case h96 => (intro w hSw; (try dsimp only at hSw); go_simp; try with_reducible rfl)
        try simp only [Act.put, List.setIfInBounds_toArray, List.set_cons_zero, List.set_cons_succ]
        refine wpAnyH_ready (rs := [57]) (by as_aux_lemma => kernel_rfl) (by simp) ?_
        refine AllReadyH.cons (o := { dst := some 101, op := Go.Op.call { callee := Go.Callee.value (Go.Operand.func 27), args := #[], argTypes := #[] }, type := 26, pos := "law.go:34", after := #[{ on := 55, ground := Go.Ground.chain }, { on := 55, ground := Go.Ground.guard }], guard := some (55, true) }) rfl (fun K hK => ?_) AllReadyH.nil
        go_simp
        with_reducible refine (QM.out _).mono ?_
        rintro e t57 ⟨⟨qnm, qa1, qn1, qc1, qa2, qn2, qc2, qa3, qn3, qc3⟩, he, hq, b57⟩
        have hB57 := hHeld.trans (b57.mono hHeld.size)
        have MS : ∀ W, Below t57.heap.size t57 W → PrA W ⟨qnm, qa1, qn1, qc1, qa2, qn2, qc2, qa3, qn3, qc3⟩ smallD := fun W hW => hq.below hW
        replace he := show e = .returned (.agg #[.string qnm, .slice qa1 qn1 qc1, .slice qa2 qn2 qc2, .slice qa3 qn3 qc3]) from he
        subst he
        go_simp
        refine hK.out _ _ (hB57) (fun hHeld => ?_)
        clear hK K
        try simp only [Act.put, List.setIfInBounds_toArray, List.set_cons_zero, List.set_cons_succ]
        refine wpAnyH_now hHeld (fun hHeld => ?_)
        replace LF := rebase LF (hB57)
        replace z0 := rebase z0 (hB57)
        replace z1 := rebase z1 (hB57)
        replace z2 := rebase z2 (hB57)
        replace z3 := rebase z3 (hB57)
        replace s0 := rebase s0 (hB57)
        replace s1 := rebase s1 (hB57)
        replace s2 := rebase s2 (hB57)
        replace s3 := rebase s3 (hB57)
        replace s4 := rebase s4 (hB57)
        replace MO := rebase MO (hB57)
        replace XO := rebase XO (hB57)
        replace XI := rebase XI (hB57)
        replace MI := rebase MI (hB57)
        replace XR := rebase XR (hB57)
        replace MR := rebase MR (hB57)
        refine wpAnyH_ready (rs := [58]) (by as_aux_lemma => kernel_rfl) (by simp) ?_
        refine AllReadyH.cons (o := { dst := some 102, op := Go.Op.call { callee := Go.Callee.value (Go.Operand.func 10), args := #[Go.Operand.tmp 100, Go.Operand.tmp 101], argTypes := #[26, 26] }, type := 4, pos := "law.go:34", after := #[{ on := 56, ground := Go.Ground.data }, { on := 57, ground := Go.Ground.data }, { on := 57, ground := Go.Ground.chain }, { on := 55, ground := Go.Ground.guard }], guard := some (55, true) }) rfl (fun K hK => ?_) AllReadyH.nil
        go_simp
        with_reducible refine (QS.out _ _ (LF _ hHeld) (MS _ hHeld)).mono ?_
        rintro e t58 ⟨rfl, b58⟩
        have hB58 := hHeld.trans (b58.mono hHeld.size)
        go_simp
        refine hK.out _ _ (hB58) (fun hHeld => ?_)
        clear hK K
        try simp only [Act.put, List.setIfInBounds_toArray, List.set_cons_zero, List.set_cons_succ]
        refine wpAnyH_now hHeld (fun hHeld => ?_)
        replace LF := rebase LF (hB58)
        replace z0 := rebase z0 (hB58)
        replace z1 := rebase z1 (hB58)
        replace z2 := rebase z2 (hB58)
        replace z3 := rebase z3 (hB58)
        replace s0 := rebase s0 (hB58)
        replace s1 := rebase s1 (hB58)
        replace s2 := rebase s2 (hB58)
        replace s3 := rebase s3 (hB58)
        replace s4 := rebase s4 (hB58)
        replace MO := rebase MO (hB58)
        replace XO := rebase XO (hB58)
        replace XI := rebase XI (hB58)
        replace MI := rebase MI (hB58)
        replace XR := rebase XR (hB58)
        replace MR := rebase MR (hB58)
        replace MS := rebase MS (hB58)
        refine wpAnyH_take (i := 59) (oi := { dst := some 103, op := Go.Op.pick (Go.Operand.tmp 99) (Go.Operand.tmp 102) (Go.Operand.const (Go.Value.bool false)), type := 4, pos := "law.go:34", after := #[{ on := 55, ground := Go.Ground.data }, { on := 58, ground := Go.Ground.data }], guard := none }) (v := ?v97) rfl (by as_aux_lemma => kernel_rfl) (by as_aux_lemma => kernel_rfl) (by as_aux_lemma => kernel_rfl) (fun _ _ _ h => h) (Or.inl ⟨by kernel_rfl, ?h97⟩) (by assumption) ?r97
        case h97 => (intro w hSw; (try dsimp only at hSw); go_simp; try with_reducible rfl)
        try simp only [Act.put, List.setIfInBounds_toArray, List.set_cons_zero, List.set_cons_succ]
        refine wpAnyH_take (i := 60) (oi := { dst := some 0, op := Go.Op.assign (Go.Operand.tmp 103), type := 4, pos := "law.go:34", after := #[{ on := 59, ground := Go.Ground.data }, { on := 58, ground := Go.Ground.chain }, { on := 0, ground := Go.Ground.phase }, { on := 1, ground := Go.Ground.phase }, { on := 2, ground := Go.Ground.phase }, { on := 3, ground := Go.Ground.phase }, { on := 4, ground := Go.Ground.phase }, { on := 5, ground := Go.Ground.phase }, { on := 6, ground := Go.Ground.phase }, { on := 7, ground := Go.Ground.phase }, { on := 8, ground := Go.Ground.phase }, { on := 9, ground := Go.Ground.phase }, { on := 10, ground := Go.Ground.phase }, { on := 11, ground := Go.Ground.phase }, { on := 12, ground := Go.Ground.phase }, { on := 13, ground := Go.Ground.phase }, { on := 14, ground := Go.Ground.phase }, { on := 15, ground := Go.Ground.phase }, { on := 16, ground := Go.Ground.phase }, { on := 17, ground := Go.Ground.phase }, { on := 18, ground := Go.Ground.phase }, { on := 19, ground := Go.Ground.phase }, { on := 20, ground := Go.Ground.phase }, { on := 21, ground := Go.Ground.phase }, { on := 22, ground := Go.Ground.phase }, { on := 23, ground := Go.Ground.phase }, { on := 24, ground := Go.Ground.phase }, { on := 25, ground := Go.Ground.phase }, { on := 26, ground := Go.Ground.phase }, { on := 27, ground := Go.Ground.phase }, { on := 28, ground := Go.Ground.phase }, { on := 29, ground := Go.Ground.phase }, { on := 30, ground := Go.Ground.phase }, { on := 31, ground := Go.Ground.phase }, { on := 32, ground := Go.Ground.phase }, { on := 33, ground := Go.Ground.phase }, { on := 34, ground := Go.Ground.phase }, { on := 35, ground := Go.Ground.phase }, { on := 36, ground := Go.Ground.phase }, { on := 37, ground := Go.Ground.phase }, { on := 38, ground := Go.Ground.phase }, { on := 39, ground := Go.Ground.phase }, { on := 40, ground := Go.Ground.phase }, { on := 41, ground := Go.Ground.phase }, { on := 42, ground := Go.Ground.phase }, { on := 43, ground := Go.Ground.phase }, { on := 44, ground := Go.Ground.phase }, { on := 45, ground := Go.Ground.phase }, { on := 46, ground := Go.Ground.phase }, { on := 47, ground := Go.Ground.phase }, { on := 48, ground := Go.Ground.phase }, { on := 49, ground := Go.Ground.phase }, { on := 50, ground := Go.Ground.phase }, { on := 51, ground := Go.Ground.phase }, { on := 52, ground := Go.Ground.phase }, { on := 53, ground := Go.Ground.phase }, { on := 54, ground := Go.Ground.phase }, { on := 55, ground := Go.Ground.phase }, { on := 56, ground := Go.Ground.phase }, { on := 57, ground := Go.Ground.phase }, { on := 58, ground := Go.Ground.phase }, { on := 59, ground := Go.Ground.phase }], guard := none }) (v := ?v98) rfl (by as_aux_lemma => kernel_rfl) (by as_aux_lemma => kernel_rfl) (by as_aux_lemma => kernel_rfl) (fun _ _ _ h => h) (Or.inl ⟨by kernel_rfl, ?h98⟩) (by assumption) ?r98
        case h98 => (intro w hSw; (try dsimp only at hSw); go_simp; try with_reducible rfl)
        try simp only [Act.put, List.setIfInBounds_toArray, List.set_cons_zero, List.set_cons_succ]
        refine wpAnyH_done (by as_aux_lemma => kernel_rfl) ?_ _
        go_wp2
        go_ret
        exact ⟨rfl, (LF _ hHeld).bel⟩
  · go_simp
    obtain ⟨t31, ht31⟩ : ∃ t31, t31 = t1.alloc (.cells #[.int .i64 1, .int .i64 3] 3) := ⟨_, rfl⟩
    have sXO' : SL t31 (some ⟨t1.heap.size, 0, none⟩) 2 2 [1, 3] := (by rw [ht31]; exact psl_lit _ _ 2 rfl (by omega) _ rfl)
    have hB31 := hHeld.alloc hHeld.size (.cells #[.int .i64 1, .int .i64 3] 3)
    rw [← ht31] at hB31
    rw [← ht31]
    clear ht31
    have XO : ∀ W, Below t31.heap.size t31 W → SL W (some ⟨t1.heap.size, 0, none⟩) 2 2 [1, 3] := fun W hW => sXO'.below hW
    refine hK.out _ _ (hB31) (fun hHeld => ?_)
    clear hK K
    try simp only [Act.put, List.setIfInBounds_toArray, List.set_cons_zero, List.set_cons_succ]
    refine wpAnyH_now hHeld (fun hHeld => ?_)
    replace LF := rebase LF (hB31)
    replace z0 := rebase z0 (hB31)
    replace z1 := rebase z1 (hB31)
    replace z2 := rebase z2 (hB31)
    replace z3 := rebase z3 (hB31)
    replace s0 := rebase s0 (hB31)
    replace s1 := rebase s1 (hB31)
    replace s2 := rebase s2 (hB31)
    replace s3 := rebase s3 (hB31)
    replace s4 := rebase s4 (hB31)
    refine wpAnyH_ready (rs := [30]) (by as_aux_lemma => kernel_rfl) (by simp) ?_
    refine AllReadyH.cons (o := { dst := some 74, op := Go.Op.call { callee := Go.Callee.value (Go.Operand.func 13), args := #[Go.Operand.tmp 73, Go.Operand.const (Go.Value.int Go.IntKind.i64 1)], argTypes := #[26, 3] }, type := 32, pos := "law.go:34", after := #[{ on := 29, ground := Go.Ground.data }, { on := 28, ground := Go.Ground.chain }, { on := 28, ground := Go.Ground.guard }], guard := some (28, true) }) rfl (fun K hK => ?_) AllReadyH.nil
    go_simp
    with_reducible refine (QO.out _ (LF _ hHeld)).mono ?_
    rintro e t30 ⟨aMO, nMO, cMO, rfl, sMO', b30⟩
    have hB30 := hHeld.trans (b30.mono hHeld.size)
    have MO : ∀ W, Below t30.heap.size t30 W → SL W aMO nMO cMO [1, 3] := fun W hW => sMO'.below hW
    go_simp
    refine hK.out _ _ (hB30) (fun hHeld => ?_)
    clear hK K
    try simp only [Act.put, List.setIfInBounds_toArray, List.set_cons_zero, List.set_cons_succ]
    refine wpAnyH_now hHeld (fun hHeld => ?_)
    replace LF := rebase LF (hB30)
    replace z0 := rebase z0 (hB30)
    replace z1 := rebase z1 (hB30)
    replace z2 := rebase z2 (hB30)
    replace z3 := rebase z3 (hB30)
    replace s0 := rebase s0 (hB30)
    replace s1 := rebase s1 (hB30)
    replace s2 := rebase s2 (hB30)
    replace s3 := rebase s3 (hB30)
    replace s4 := rebase s4 (hB30)
    replace XO := rebase XO (hB30)
    refine wpAnyH_ready (rs := [32]) (by as_aux_lemma => kernel_rfl) (by simp) ?_
    refine AllReadyH.cons (o := { dst := some 76, op := Go.Op.call { callee := Go.Callee.value (Go.Operand.func 16), args := #[Go.Operand.tmp 74, Go.Operand.tmp 75], argTypes := #[32, 32] }, type := 4, pos := "law.go:34", after := #[{ on := 30, ground := Go.Ground.data }, { on := 31, ground := Go.Ground.data }, { on := 30, ground := Go.Ground.chain }, { on := 28, ground := Go.Ground.guard }], guard := some (28, true) }) rfl (fun K hK => ?_) AllReadyH.nil
    go_simp
    with_reducible refine (QN.out _ _ _ _ _ _ _ _ (MO _ hHeld) (XO _ hHeld)).mono ?_
    rintro e t32 ⟨rfl, b32⟩
    have hB32 := hHeld.trans (b32.mono hHeld.size)
    go_simp
    refine hK.out _ _ (hB32) (fun hHeld => ?_)
    clear hK K
    try simp only [Act.put, List.setIfInBounds_toArray, List.set_cons_zero, List.set_cons_succ]
    refine wpAnyH_now hHeld (fun hHeld => ?_)
    replace LF := rebase LF (hB32)
    replace z0 := rebase z0 (hB32)
    replace z1 := rebase z1 (hB32)
    replace z2 := rebase z2 (hB32)
    replace z3 := rebase z3 (hB32)
    replace s0 := rebase s0 (hB32)
    replace s1 := rebase s1 (hB32)
    replace s2 := rebase s2 (hB32)
    replace s3 := rebase s3 (hB32)
    replace s4 := rebase s4 (hB32)
    replace XO := rebase XO (hB32)
    replace MO := rebase MO (hB32)
    refine wpAnyH_take (i := 33) (oi := { dst := some 77, op := Go.Op.pick (Go.Operand.tmp 72) (Go.Operand.tmp 76) (Go.Operand.const (Go.Value.bool false)), type := 4, pos := "law.go:34", after := #[{ on := 28, ground := Go.Ground.data }, { on := 32, ground := Go.Ground.data }], guard := none }) (v := ?v99) rfl (by as_aux_lemma => kernel_rfl) (by as_aux_lemma => kernel_rfl) (by as_aux_lemma => kernel_rfl) (fun _ _ _ h => h) (Or.inl ⟨by kernel_rfl, ?h99⟩) (by assumption) ?r99
    case h99 => (intro w hSw; (try dsimp only at hSw); go_simp; try with_reducible rfl)
    try simp only [Act.put, List.setIfInBounds_toArray, List.set_cons_zero, List.set_cons_succ]
    refine wpAnyH_take (i := 34) (oi := { dst := some 78, op := Go.Op.move (Go.Operand.tmp 77), type := 4, pos := "law.go:34", after := #[{ on := 33, ground := Go.Ground.data }, { on := 32, ground := Go.Ground.chain }], guard := none }) (v := ?v100) rfl (by as_aux_lemma => kernel_rfl) (by as_aux_lemma => kernel_rfl) (by as_aux_lemma => kernel_rfl) (fun _ _ _ h => h) (Or.inl ⟨by kernel_rfl, ?h100⟩) (by assumption) ?r100
    case h100 => (intro w hSw; (try dsimp only at hSw); go_simp; try with_reducible rfl)
    try simp only [Act.put, List.setIfInBounds_toArray, List.set_cons_zero, List.set_cons_succ]
    refine wpAnyH_take (i := 35) (oi := { dst := some 79, op := Go.Op.load 26 (Go.Operand.tmp 1), type := 26, pos := "law.go:34", after := #[{ on := 34, ground := Go.Ground.guard }], guard := some (34, true) }) (v := ?v101) rfl (by as_aux_lemma => kernel_rfl) (by as_aux_lemma => kernel_rfl) (by as_aux_lemma => kernel_rfl) (fun _ _ _ h => h) (Or.inl ⟨by kernel_rfl, ?h101⟩) (by assumption) ?r101
    case h101 => (intro w hSw; (try dsimp only at hSw); go_simp; try with_reducible rfl)
    try simp only [Act.put, List.setIfInBounds_toArray, List.set_cons_zero, List.set_cons_succ]
    refine wpAnyH_ready (rs := [36, 37]) (by as_aux_lemma => kernel_rfl) (by simp) ?_
    refine AllReadyH.cons (o := { dst := some 80, op := Go.Op.call { callee := Go.Callee.value (Go.Operand.func 14), args := #[Go.Operand.tmp 79, Go.Operand.const (Go.Value.int Go.IntKind.i64 1)], argTypes := #[26, 3] }, type := 32, pos := "law.go:34", after := #[{ on := 35, ground := Go.Ground.data }, { on := 34, ground := Go.Ground.chain }, { on := 34, ground := Go.Ground.guard }], guard := some (34, true) }) rfl (fun K hK => ?_) (AllReadyH.cons (o := { dst := some 81, op := Go.Op.buildSlice 32 2 #[(0, Go.Operand.const (Go.Value.int Go.IntKind.i64 0)), (1, Go.Operand.const (Go.Value.int Go.IntKind.i64 2))], type := 32, pos := "law.go:34", after := #[{ on := 34, ground := Go.Ground.guard }], guard := some (34, true) }) rfl (fun K hK => ?_) AllReadyH.nil)
    · go_simp
      with_reducible refine (QI.out _ (LF _ hHeld)).mono ?_
      rintro e t36 ⟨aMI, nMI, cMI, rfl, sMI', b36⟩
      have hB36 := hHeld.trans (b36.mono hHeld.size)
      have MI : ∀ W, Below t36.heap.size t36 W → SL W aMI nMI cMI [0, 2] := fun W hW => sMI'.below hW
      go_simp
      refine hK.out _ _ (hB36) (fun hHeld => ?_)
      clear hK K
      try simp only [Act.put, List.setIfInBounds_toArray, List.set_cons_zero, List.set_cons_succ]
      refine wpAnyH_now hHeld (fun hHeld => ?_)
      replace LF := rebase LF (hB36)
      replace z0 := rebase z0 (hB36)
      replace z1 := rebase z1 (hB36)
      replace z2 := rebase z2 (hB36)
      replace z3 := rebase z3 (hB36)
      replace s0 := rebase s0 (hB36)
      replace s1 := rebase s1 (hB36)
      replace s2 := rebase s2 (hB36)
      replace s3 := rebase s3 (hB36)
      replace s4 := rebase s4 (hB36)
      replace XO := rebase XO (hB36)
      replace MO := rebase MO (hB36)
      refine wpAnyH_ready (rs := [37]) (by as_aux_lemma => kernel_rfl) (by simp) ?_
      refine AllReadyH.cons (o := { dst := some 81, op := Go.Op.buildSlice 32 2 #[(0, Go.Operand.const (Go.Value.int Go.IntKind.i64 0)), (1, Go.Operand.const (Go.Value.int Go.IntKind.i64 2))], type := 32, pos := "law.go:34", after := #[{ on := 34, ground := Go.Ground.guard }], guard := some (34, true) }) rfl (fun K hK => ?_) AllReadyH.nil
      go_simp
      obtain ⟨t37, ht37⟩ : ∃ t37, t37 = t36.alloc (.cells #[.int .i64 0, .int .i64 2] 3) := ⟨_, rfl⟩
      have sXI' : SL t37 (some ⟨t36.heap.size, 0, none⟩) 2 2 [0, 2] := (by rw [ht37]; exact psl_lit _ _ 2 rfl (by omega) _ rfl)
      have hB37 := hHeld.alloc hHeld.size (.cells #[.int .i64 0, .int .i64 2] 3)
      rw [← ht37] at hB37
      rw [← ht37]
      clear ht37
      have XI : ∀ W, Below t37.heap.size t37 W → SL W (some ⟨t36.heap.size, 0, none⟩) 2 2 [0, 2] := fun W hW => sXI'.below hW
      refine hK.out _ _ (hB37) (fun hHeld => ?_)
      clear hK K
      try simp only [Act.put, List.setIfInBounds_toArray, List.set_cons_zero, List.set_cons_succ]
      refine wpAnyH_now hHeld (fun hHeld => ?_)
      replace LF := rebase LF (hB37)
      replace z0 := rebase z0 (hB37)
      replace z1 := rebase z1 (hB37)
      replace z2 := rebase z2 (hB37)
      replace z3 := rebase z3 (hB37)
      replace s0 := rebase s0 (hB37)
      replace s1 := rebase s1 (hB37)
      replace s2 := rebase s2 (hB37)
      replace s3 := rebase s3 (hB37)
      replace s4 := rebase s4 (hB37)
      replace XO := rebase XO (hB37)
      replace MO := rebase MO (hB37)
      replace MI := rebase MI (hB37)
      refine wpAnyH_ready (rs := [38]) (by as_aux_lemma => kernel_rfl) (by simp) ?_
      refine AllReadyH.cons (o := { dst := some 82, op := Go.Op.call { callee := Go.Callee.value (Go.Operand.func 16), args := #[Go.Operand.tmp 80, Go.Operand.tmp 81], argTypes := #[32, 32] }, type := 4, pos := "law.go:34", after := #[{ on := 36, ground := Go.Ground.data }, { on := 37, ground := Go.Ground.data }, { on := 36, ground := Go.Ground.chain }, { on := 34, ground := Go.Ground.guard }], guard := some (34, true) }) rfl (fun K hK => ?_) AllReadyH.nil
      go_simp
      with_reducible refine (QN.out _ _ _ _ _ _ _ _ (MI _ hHeld) (XI _ hHeld)).mono ?_
      rintro e t38 ⟨rfl, b38⟩
      have hB38 := hHeld.trans (b38.mono hHeld.size)
      go_simp
      refine hK.out _ _ (hB38) (fun hHeld => ?_)
      clear hK K
      try simp only [Act.put, List.setIfInBounds_toArray, List.set_cons_zero, List.set_cons_succ]
      refine wpAnyH_now hHeld (fun hHeld => ?_)
      replace LF := rebase LF (hB38)
      replace z0 := rebase z0 (hB38)
      replace z1 := rebase z1 (hB38)
      replace z2 := rebase z2 (hB38)
      replace z3 := rebase z3 (hB38)
      replace s0 := rebase s0 (hB38)
      replace s1 := rebase s1 (hB38)
      replace s2 := rebase s2 (hB38)
      replace s3 := rebase s3 (hB38)
      replace s4 := rebase s4 (hB38)
      replace XO := rebase XO (hB38)
      replace MO := rebase MO (hB38)
      replace MI := rebase MI (hB38)
      replace XI := rebase XI (hB38)
      refine wpAnyH_take (i := 39) (oi := { dst := some 83, op := Go.Op.pick (Go.Operand.tmp 78) (Go.Operand.tmp 82) (Go.Operand.const (Go.Value.bool false)), type := 4, pos := "law.go:34", after := #[{ on := 34, ground := Go.Ground.data }, { on := 38, ground := Go.Ground.data }], guard := none }) (v := ?v102) rfl (by as_aux_lemma => kernel_rfl) (by as_aux_lemma => kernel_rfl) (by as_aux_lemma => kernel_rfl) (fun _ _ _ h => h) (Or.inl ⟨by kernel_rfl, ?h102⟩) (by assumption) ?r102
      case h102 => (intro w hSw; (try dsimp only at hSw); go_simp; try with_reducible rfl)
      try simp only [Act.put, List.setIfInBounds_toArray, List.set_cons_zero, List.set_cons_succ]
      refine wpAnyH_take (i := 40) (oi := { dst := some 84, op := Go.Op.move (Go.Operand.tmp 83), type := 4, pos := "law.go:34", after := #[{ on := 39, ground := Go.Ground.data }, { on := 38, ground := Go.Ground.chain }], guard := none }) (v := ?v103) rfl (by as_aux_lemma => kernel_rfl) (by as_aux_lemma => kernel_rfl) (by as_aux_lemma => kernel_rfl) (fun _ _ _ h => h) (Or.inl ⟨by kernel_rfl, ?h103⟩) (by assumption) ?r103
      case h103 => (intro w hSw; (try dsimp only at hSw); go_simp; try with_reducible rfl)
      try simp only [Act.put, List.setIfInBounds_toArray, List.set_cons_zero, List.set_cons_succ]
      refine wpAnyH_take (i := 41) (oi := { dst := some 85, op := Go.Op.load 26 (Go.Operand.tmp 1), type := 26, pos := "law.go:34", after := #[{ on := 40, ground := Go.Ground.guard }], guard := some (40, true) }) (v := ?v104) rfl (by as_aux_lemma => kernel_rfl) (by as_aux_lemma => kernel_rfl) (by as_aux_lemma => kernel_rfl) (fun _ _ _ h => h) (Or.inl ⟨by kernel_rfl, ?h104⟩) (by assumption) ?r104
      case h104 => (intro w hSw; (try dsimp only at hSw); go_simp; try with_reducible rfl)
      try simp only [Act.put, List.setIfInBounds_toArray, List.set_cons_zero, List.set_cons_succ]
      refine wpAnyH_ready (rs := [42, 43]) (by as_aux_lemma => kernel_rfl) (by simp) ?_
      refine AllReadyH.cons (o := { dst := some 86, op := Go.Op.call { callee := Go.Callee.value (Go.Operand.func 15), args := #[Go.Operand.tmp 85], argTypes := #[26] }, type := 32, pos := "law.go:34", after := #[{ on := 41, ground := Go.Ground.data }, { on := 40, ground := Go.Ground.chain }, { on := 40, ground := Go.Ground.guard }], guard := some (40, true) }) rfl (fun K hK => ?_) (AllReadyH.cons (o := { dst := some 87, op := Go.Op.buildSlice 32 4 #[(0, Go.Operand.const (Go.Value.int Go.IntKind.i64 0)), (1, Go.Operand.const (Go.Value.int Go.IntKind.i64 1)), (2, Go.Operand.const (Go.Value.int Go.IntKind.i64 2)), (3, Go.Operand.const (Go.Value.int Go.IntKind.i64 3))], type := 32, pos := "law.go:34", after := #[{ on := 40, ground := Go.Ground.guard }], guard := some (40, true) }) rfl (fun K hK => ?_) AllReadyH.nil)
      · go_simp
        with_reducible refine (QR.out _ (LF _ hHeld)).mono ?_
        rintro e t42 ⟨aMR, nMR, cMR, rfl, sMR', b42⟩
        have hB42 := hHeld.trans (b42.mono hHeld.size)
        have MR : ∀ W, Below t42.heap.size t42 W → SL W aMR nMR cMR [0, 1, 2, 3] := fun W hW => sMR'.below hW
        go_simp
        refine hK.out _ _ (hB42) (fun hHeld => ?_)
        clear hK K
        try simp only [Act.put, List.setIfInBounds_toArray, List.set_cons_zero, List.set_cons_succ]
        refine wpAnyH_now hHeld (fun hHeld => ?_)
        replace LF := rebase LF (hB42)
        replace z0 := rebase z0 (hB42)
        replace z1 := rebase z1 (hB42)
        replace z2 := rebase z2 (hB42)
        replace z3 := rebase z3 (hB42)
        replace s0 := rebase s0 (hB42)
        replace s1 := rebase s1 (hB42)
        replace s2 := rebase s2 (hB42)
        replace s3 := rebase s3 (hB42)
        replace s4 := rebase s4 (hB42)
        replace XO := rebase XO (hB42)
        replace MO := rebase MO (hB42)
        replace MI := rebase MI (hB42)
        replace XI := rebase XI (hB42)
        refine wpAnyH_ready (rs := [43]) (by as_aux_lemma => kernel_rfl) (by simp) ?_
        refine AllReadyH.cons (o := { dst := some 87, op := Go.Op.buildSlice 32 4 #[(0, Go.Operand.const (Go.Value.int Go.IntKind.i64 0)), (1, Go.Operand.const (Go.Value.int Go.IntKind.i64 1)), (2, Go.Operand.const (Go.Value.int Go.IntKind.i64 2)), (3, Go.Operand.const (Go.Value.int Go.IntKind.i64 3))], type := 32, pos := "law.go:34", after := #[{ on := 40, ground := Go.Ground.guard }], guard := some (40, true) }) rfl (fun K hK => ?_) AllReadyH.nil
        go_simp
        obtain ⟨t43, ht43⟩ : ∃ t43, t43 = t42.alloc (.cells #[.int .i64 0, .int .i64 1, .int .i64 2, .int .i64 3] 3) := ⟨_, rfl⟩
        have sXR' : SL t43 (some ⟨t42.heap.size, 0, none⟩) 4 4 [0, 1, 2, 3] := (by rw [ht43]; exact psl_lit _ _ 4 rfl (by omega) _ rfl)
        have hB43 := hHeld.alloc hHeld.size (.cells #[.int .i64 0, .int .i64 1, .int .i64 2, .int .i64 3] 3)
        rw [← ht43] at hB43
        rw [← ht43]
        clear ht43
        have XR : ∀ W, Below t43.heap.size t43 W → SL W (some ⟨t42.heap.size, 0, none⟩) 4 4 [0, 1, 2, 3] := fun W hW => sXR'.below hW
        refine hK.out _ _ (hB43) (fun hHeld => ?_)
        clear hK K
        try simp only [Act.put, List.setIfInBounds_toArray, List.set_cons_zero, List.set_cons_succ]
        refine wpAnyH_now hHeld (fun hHeld => ?_)
        replace LF := rebase LF (hB43)
        replace z0 := rebase z0 (hB43)
        replace z1 := rebase z1 (hB43)
        replace z2 := rebase z2 (hB43)
        replace z3 := rebase z3 (hB43)
        replace s0 := rebase s0 (hB43)
        replace s1 := rebase s1 (hB43)
        replace s2 := rebase s2 (hB43)
        replace s3 := rebase s3 (hB43)
        replace s4 := rebase s4 (hB43)
        replace XO := rebase XO (hB43)
        replace MO := rebase MO (hB43)
        replace MI := rebase MI (hB43)
        replace XI := rebase XI (hB43)
        replace MR := rebase MR (hB43)
        refine wpAnyH_ready (rs := [44]) (by as_aux_lemma => kernel_rfl) (by simp) ?_
        refine AllReadyH.cons (o := { dst := some 88, op := Go.Op.call { callee := Go.Callee.value (Go.Operand.func 16), args := #[Go.Operand.tmp 86, Go.Operand.tmp 87], argTypes := #[32, 32] }, type := 4, pos := "law.go:34", after := #[{ on := 42, ground := Go.Ground.data }, { on := 43, ground := Go.Ground.data }, { on := 42, ground := Go.Ground.chain }, { on := 40, ground := Go.Ground.guard }], guard := some (40, true) }) rfl (fun K hK => ?_) AllReadyH.nil
        go_simp
        with_reducible refine (QN.out _ _ _ _ _ _ _ _ (MR _ hHeld) (XR _ hHeld)).mono ?_
        rintro e t44 ⟨rfl, b44⟩
        have hB44 := hHeld.trans (b44.mono hHeld.size)
        go_simp
        refine hK.out _ _ (hB44) (fun hHeld => ?_)
        clear hK K
        try simp only [Act.put, List.setIfInBounds_toArray, List.set_cons_zero, List.set_cons_succ]
        refine wpAnyH_now hHeld (fun hHeld => ?_)
        replace LF := rebase LF (hB44)
        replace z0 := rebase z0 (hB44)
        replace z1 := rebase z1 (hB44)
        replace z2 := rebase z2 (hB44)
        replace z3 := rebase z3 (hB44)
        replace s0 := rebase s0 (hB44)
        replace s1 := rebase s1 (hB44)
        replace s2 := rebase s2 (hB44)
        replace s3 := rebase s3 (hB44)
        replace s4 := rebase s4 (hB44)
        replace XO := rebase XO (hB44)
        replace MO := rebase MO (hB44)
        replace MI := rebase MI (hB44)
        replace XI := rebase XI (hB44)
        replace MR := rebase MR (hB44)
        replace XR := rebase XR (hB44)
        refine wpAnyH_take (i := 45) (oi := { dst := some 89, op := Go.Op.pick (Go.Operand.tmp 84) (Go.Operand.tmp 88) (Go.Operand.const (Go.Value.bool false)), type := 4, pos := "law.go:34", after := #[{ on := 40, ground := Go.Ground.data }, { on := 44, ground := Go.Ground.data }], guard := none }) (v := ?v105) rfl (by as_aux_lemma => kernel_rfl) (by as_aux_lemma => kernel_rfl) (by as_aux_lemma => kernel_rfl) (fun _ _ _ h => h) (Or.inl ⟨by kernel_rfl, ?h105⟩) (by assumption) ?r105
        case h105 => (intro w hSw; (try dsimp only at hSw); go_simp; try with_reducible rfl)
        try simp only [Act.put, List.setIfInBounds_toArray, List.set_cons_zero, List.set_cons_succ]
        refine wpAnyH_take (i := 46) (oi := { dst := some 90, op := Go.Op.move (Go.Operand.tmp 89), type := 4, pos := "law.go:34", after := #[{ on := 45, ground := Go.Ground.data }, { on := 44, ground := Go.Ground.chain }], guard := none }) (v := ?v106) rfl (by as_aux_lemma => kernel_rfl) (by as_aux_lemma => kernel_rfl) (by as_aux_lemma => kernel_rfl) (fun _ _ _ h => h) (Or.inl ⟨by kernel_rfl, ?h106⟩) (by assumption) ?r106
        case h106 => (intro w hSw; (try dsimp only at hSw); go_simp; try with_reducible rfl)
        try simp only [Act.put, List.setIfInBounds_toArray, List.set_cons_zero, List.set_cons_succ]
        refine wpAnyH_take (i := 47) (oi := { dst := some 91, op := Go.Op.build 38 #[(0, Go.Operand.const (Go.Value.int Go.IntKind.i64 1))], type := 38, pos := "law.go:34", after := #[{ on := 46, ground := Go.Ground.guard }], guard := some (46, true) }) (v := ?v107) rfl (by as_aux_lemma => kernel_rfl) (by as_aux_lemma => kernel_rfl) (by as_aux_lemma => kernel_rfl) (fun _ _ _ h => h) (Or.inl ⟨by kernel_rfl, ?h107⟩) (by assumption) ?r107
        case h107 => (intro w hSw; (try dsimp only at hSw); go_simp; try with_reducible rfl)
        try simp only [Act.put, List.setIfInBounds_toArray, List.set_cons_zero, List.set_cons_succ]
        refine wpAnyH_ready (rs := [48]) (by as_aux_lemma => kernel_rfl) (by simp) ?_
        refine AllReadyH.cons (o := { dst := some 92, op := Go.Op.call { callee := Go.Callee.value (Go.Operand.func 21), args := #[Go.Operand.tmp 91, Go.Operand.const (Go.Value.int Go.IntKind.i64 0)], argTypes := #[38, 3] }, type := 4, pos := "law.go:34", after := #[{ on := 47, ground := Go.Ground.data }, { on := 46, ground := Go.Ground.chain }, { on := 46, ground := Go.Ground.guard }], guard := some (46, true) }) rfl (fun K hK => ?_) AllReadyH.nil
        go_simp
        with_reducible refine (QRt.out _).mono ?_
        rintro e t48 ⟨rfl, b48⟩
        have hB48 := hHeld.trans (b48.mono hHeld.size)
        go_simp
        refine hK.out _ _ (hB48) (fun hHeld => ?_)
        clear hK K
        try simp only [Act.put, List.setIfInBounds_toArray, List.set_cons_zero, List.set_cons_succ]
        refine wpAnyH_now hHeld (fun hHeld => ?_)
        replace LF := rebase LF (hB48)
        replace z0 := rebase z0 (hB48)
        replace z1 := rebase z1 (hB48)
        replace z2 := rebase z2 (hB48)
        replace z3 := rebase z3 (hB48)
        replace s0 := rebase s0 (hB48)
        replace s1 := rebase s1 (hB48)
        replace s2 := rebase s2 (hB48)
        replace s3 := rebase s3 (hB48)
        replace s4 := rebase s4 (hB48)
        replace XO := rebase XO (hB48)
        replace MO := rebase MO (hB48)
        replace MI := rebase MI (hB48)
        replace XI := rebase XI (hB48)
        replace MR := rebase MR (hB48)
        replace XR := rebase XR (hB48)
        refine wpAnyH_take (i := 49) (oi := { dst := some 93, op := Go.Op.pick (Go.Operand.tmp 90) (Go.Operand.tmp 92) (Go.Operand.const (Go.Value.bool false)), type := 4, pos := "law.go:34", after := #[{ on := 46, ground := Go.Ground.data }, { on := 48, ground := Go.Ground.data }], guard := none }) (v := ?v108) rfl (by as_aux_lemma => kernel_rfl) (by as_aux_lemma => kernel_rfl) (by as_aux_lemma => kernel_rfl) (fun _ _ _ h => h) (Or.inl ⟨by kernel_rfl, ?h108⟩) (by assumption) ?r108
        case h108 => (intro w hSw; (try dsimp only at hSw); go_simp; try with_reducible rfl)
        try simp only [Act.put, List.setIfInBounds_toArray, List.set_cons_zero, List.set_cons_succ]
        refine wpAnyH_take (i := 50) (oi := { dst := some 94, op := Go.Op.move (Go.Operand.tmp 93), type := 4, pos := "law.go:34", after := #[{ on := 49, ground := Go.Ground.data }, { on := 48, ground := Go.Ground.chain }], guard := none }) (v := ?v109) rfl (by as_aux_lemma => kernel_rfl) (by as_aux_lemma => kernel_rfl) (by as_aux_lemma => kernel_rfl) (fun _ _ _ h => h) (Or.inl ⟨by kernel_rfl, ?h109⟩) (by assumption) ?r109
        case h109 => (intro w hSw; (try dsimp only at hSw); go_simp; try with_reducible rfl)
        try simp only [Act.put, List.setIfInBounds_toArray, List.set_cons_zero, List.set_cons_succ]
        refine wpAnyH_take (i := 51) (oi := { dst := some 95, op := Go.Op.build 26 #[], type := 26, pos := "law.go:34", after := #[{ on := 50, ground := Go.Ground.guard }], guard := some (50, true) }) (v := ?v110) rfl (by as_aux_lemma => kernel_rfl) (by as_aux_lemma => kernel_rfl) (by as_aux_lemma => kernel_rfl) (fun _ _ _ h => h) (Or.inl ⟨by kernel_rfl, ?h110⟩) (by assumption) ?r110
        case h110 => (intro w hSw; (try dsimp only at hSw); go_simp; try with_reducible rfl)
        try simp only [Act.put, List.setIfInBounds_toArray, List.set_cons_zero, List.set_cons_succ]
        refine wpAnyH_ready (rs := [52]) (by as_aux_lemma => kernel_rfl) (by simp) ?_
        refine AllReadyH.cons (o := { dst := some 96, op := Go.Op.call { callee := Go.Callee.value (Go.Operand.func 9), args := #[Go.Operand.tmp 95], argTypes := #[26] }, type := 29, pos := "law.go:34", after := #[{ on := 51, ground := Go.Ground.data }, { on := 50, ground := Go.Ground.chain }, { on := 50, ground := Go.Ground.guard }], guard := some (50, true) }) rfl (fun K hK => ?_) AllReadyH.nil
        go_simp
        with_reducible refine (QE.out _).mono ?_
        rintro e t52 ⟨rfl, b52⟩
        have hB52 := hHeld.trans (b52.mono hHeld.size)
        go_simp
        refine hK.out _ _ (hB52) (fun hHeld => ?_)
        clear hK K
        try simp only [Act.put, List.setIfInBounds_toArray, List.set_cons_zero, List.set_cons_succ]
        refine wpAnyH_now hHeld (fun hHeld => ?_)
        replace LF := rebase LF (hB52)
        replace z0 := rebase z0 (hB52)
        replace z1 := rebase z1 (hB52)
        replace z2 := rebase z2 (hB52)
        replace z3 := rebase z3 (hB52)
        replace s0 := rebase s0 (hB52)
        replace s1 := rebase s1 (hB52)
        replace s2 := rebase s2 (hB52)
        replace s3 := rebase s3 (hB52)
        replace s4 := rebase s4 (hB52)
        replace XO := rebase XO (hB52)
        replace MO := rebase MO (hB52)
        replace MI := rebase MI (hB52)
        replace XI := rebase XI (hB52)
        replace MR := rebase MR (hB52)
        replace XR := rebase XR (hB52)
        refine wpAnyH_take (i := 53) (oi := { dst := some 97, op := Go.Op.binOp Go.BinOp.eql 29 (Go.Operand.tmp 96) (Go.Operand.const (Go.Value.int Go.IntKind.i64 110)) 29, type := 4, pos := "law.go:34", after := #[{ on := 52, ground := Go.Ground.data }, { on := 50, ground := Go.Ground.guard }], guard := some (50, true) }) (v := ?v111) rfl (by as_aux_lemma => kernel_rfl) (by as_aux_lemma => kernel_rfl) (by as_aux_lemma => kernel_rfl) (fun _ _ _ h => h) (Or.inl ⟨by kernel_rfl, ?h111⟩) (by assumption) ?r111
        case h111 => (intro w hSw; (try dsimp only at hSw); go_simp; try with_reducible rfl)
        try simp only [Act.put, List.setIfInBounds_toArray, List.set_cons_zero, List.set_cons_succ]
        refine wpAnyH_take (i := 54) (oi := { dst := some 98, op := Go.Op.pick (Go.Operand.tmp 94) (Go.Operand.tmp 97) (Go.Operand.const (Go.Value.bool false)), type := 4, pos := "law.go:34", after := #[{ on := 50, ground := Go.Ground.data }, { on := 53, ground := Go.Ground.data }], guard := none }) (v := ?v112) rfl (by as_aux_lemma => kernel_rfl) (by as_aux_lemma => kernel_rfl) (by as_aux_lemma => kernel_rfl) (fun _ _ _ h => h) (Or.inl ⟨by kernel_rfl, ?h112⟩) (by assumption) ?r112
        case h112 => (intro w hSw; (try dsimp only at hSw); go_simp; try with_reducible rfl)
        try simp only [Act.put, List.setIfInBounds_toArray, List.set_cons_zero, List.set_cons_succ]
        refine wpAnyH_take (i := 55) (oi := { dst := some 99, op := Go.Op.move (Go.Operand.tmp 98), type := 4, pos := "law.go:34", after := #[{ on := 54, ground := Go.Ground.data }, { on := 52, ground := Go.Ground.chain }], guard := none }) (v := ?v113) rfl (by as_aux_lemma => kernel_rfl) (by as_aux_lemma => kernel_rfl) (by as_aux_lemma => kernel_rfl) (fun _ _ _ h => h) (Or.inl ⟨by kernel_rfl, ?h113⟩) (by assumption) ?r113
        case h113 => (intro w hSw; (try dsimp only at hSw); go_simp; try with_reducible rfl)
        try simp only [Act.put, List.setIfInBounds_toArray, List.set_cons_zero, List.set_cons_succ]
        refine wpAnyH_take (i := 56) (oi := { dst := some 100, op := Go.Op.load 26 (Go.Operand.tmp 1), type := 26, pos := "law.go:34", after := #[{ on := 55, ground := Go.Ground.guard }], guard := some (55, true) }) (v := ?v114) rfl (by as_aux_lemma => kernel_rfl) (by as_aux_lemma => kernel_rfl) (by as_aux_lemma => kernel_rfl) (fun _ _ _ h => h) (Or.inl ⟨by kernel_rfl, ?h114⟩) (by assumption) ?r114
        case h114 => (intro w hSw; (try dsimp only at hSw); go_simp; try with_reducible rfl)
        try simp only [Act.put, List.setIfInBounds_toArray, List.set_cons_zero, List.set_cons_succ]
        refine wpAnyH_ready (rs := [57]) (by as_aux_lemma => kernel_rfl) (by simp) ?_
        refine AllReadyH.cons (o := { dst := some 101, op := Go.Op.call { callee := Go.Callee.value (Go.Operand.func 27), args := #[], argTypes := #[] }, type := 26, pos := "law.go:34", after := #[{ on := 55, ground := Go.Ground.chain }, { on := 55, ground := Go.Ground.guard }], guard := some (55, true) }) rfl (fun K hK => ?_) AllReadyH.nil
        go_simp
        with_reducible refine (QM.out _).mono ?_
        rintro e t57 ⟨⟨qnm, qa1, qn1, qc1, qa2, qn2, qc2, qa3, qn3, qc3⟩, he, hq, b57⟩
        have hB57 := hHeld.trans (b57.mono hHeld.size)
        have MS : ∀ W, Below t57.heap.size t57 W → PrA W ⟨qnm, qa1, qn1, qc1, qa2, qn2, qc2, qa3, qn3, qc3⟩ smallD := fun W hW => hq.below hW
        replace he := show e = .returned (.agg #[.string qnm, .slice qa1 qn1 qc1, .slice qa2 qn2 qc2, .slice qa3 qn3 qc3]) from he
        subst he
        go_simp
        refine hK.out _ _ (hB57) (fun hHeld => ?_)
        clear hK K
        try simp only [Act.put, List.setIfInBounds_toArray, List.set_cons_zero, List.set_cons_succ]
        refine wpAnyH_now hHeld (fun hHeld => ?_)
        replace LF := rebase LF (hB57)
        replace z0 := rebase z0 (hB57)
        replace z1 := rebase z1 (hB57)
        replace z2 := rebase z2 (hB57)
        replace z3 := rebase z3 (hB57)
        replace s0 := rebase s0 (hB57)
        replace s1 := rebase s1 (hB57)
        replace s2 := rebase s2 (hB57)
        replace s3 := rebase s3 (hB57)
        replace s4 := rebase s4 (hB57)
        replace XO := rebase XO (hB57)
        replace MO := rebase MO (hB57)
        replace MI := rebase MI (hB57)
        replace XI := rebase XI (hB57)
        replace MR := rebase MR (hB57)
        replace XR := rebase XR (hB57)
        refine wpAnyH_ready (rs := [58]) (by as_aux_lemma => kernel_rfl) (by simp) ?_
        refine AllReadyH.cons (o := { dst := some 102, op := Go.Op.call { callee := Go.Callee.value (Go.Operand.func 10), args := #[Go.Operand.tmp 100, Go.Operand.tmp 101], argTypes := #[26, 26] }, type := 4, pos := "law.go:34", after := #[{ on := 56, ground := Go.Ground.data }, { on := 57, ground := Go.Ground.data }, { on := 57, ground := Go.Ground.chain }, { on := 55, ground := Go.Ground.guard }], guard := some (55, true) }) rfl (fun K hK => ?_) AllReadyH.nil
        go_simp
        with_reducible refine (QS.out _ _ (LF _ hHeld) (MS _ hHeld)).mono ?_
        rintro e t58 ⟨rfl, b58⟩
        have hB58 := hHeld.trans (b58.mono hHeld.size)
        go_simp
        refine hK.out _ _ (hB58) (fun hHeld => ?_)
        clear hK K
        try simp only [Act.put, List.setIfInBounds_toArray, List.set_cons_zero, List.set_cons_succ]
        refine wpAnyH_now hHeld (fun hHeld => ?_)
        replace LF := rebase LF (hB58)
        replace z0 := rebase z0 (hB58)
        replace z1 := rebase z1 (hB58)
        replace z2 := rebase z2 (hB58)
        replace z3 := rebase z3 (hB58)
        replace s0 := rebase s0 (hB58)
        replace s1 := rebase s1 (hB58)
        replace s2 := rebase s2 (hB58)
        replace s3 := rebase s3 (hB58)
        replace s4 := rebase s4 (hB58)
        replace XO := rebase XO (hB58)
        replace MO := rebase MO (hB58)
        replace MI := rebase MI (hB58)
        replace XI := rebase XI (hB58)
        replace MR := rebase MR (hB58)
        replace XR := rebase XR (hB58)
        replace MS := rebase MS (hB58)
        refine wpAnyH_take (i := 59) (oi := { dst := some 103, op := Go.Op.pick (Go.Operand.tmp 99) (Go.Operand.tmp 102) (Go.Operand.const (Go.Value.bool false)), type := 4, pos := "law.go:34", after := #[{ on := 55, ground := Go.Ground.data }, { on := 58, ground := Go.Ground.data }], guard := none }) (v := ?v115) rfl (by as_aux_lemma => kernel_rfl) (by as_aux_lemma => kernel_rfl) (by as_aux_lemma => kernel_rfl) (fun _ _ _ h => h) (Or.inl ⟨by kernel_rfl, ?h115⟩) (by assumption) ?r115
        case h115 => (intro w hSw; (try dsimp only at hSw); go_simp; try with_reducible rfl)
        try simp only [Act.put, List.setIfInBounds_toArray, List.set_cons_zero, List.set_cons_succ]
        refine wpAnyH_take (i := 60) (oi := { dst := some 0, op := Go.Op.assign (Go.Operand.tmp 103), type := 4, pos := "law.go:34", after := #[{ on := 59, ground := Go.Ground.data }, { on := 58, ground := Go.Ground.chain }, { on := 0, ground := Go.Ground.phase }, { on := 1, ground := Go.Ground.phase }, { on := 2, ground := Go.Ground.phase }, { on := 3, ground := Go.Ground.phase }, { on := 4, ground := Go.Ground.phase }, { on := 5, ground := Go.Ground.phase }, { on := 6, ground := Go.Ground.phase }, { on := 7, ground := Go.Ground.phase }, { on := 8, ground := Go.Ground.phase }, { on := 9, ground := Go.Ground.phase }, { on := 10, ground := Go.Ground.phase }, { on := 11, ground := Go.Ground.phase }, { on := 12, ground := Go.Ground.phase }, { on := 13, ground := Go.Ground.phase }, { on := 14, ground := Go.Ground.phase }, { on := 15, ground := Go.Ground.phase }, { on := 16, ground := Go.Ground.phase }, { on := 17, ground := Go.Ground.phase }, { on := 18, ground := Go.Ground.phase }, { on := 19, ground := Go.Ground.phase }, { on := 20, ground := Go.Ground.phase }, { on := 21, ground := Go.Ground.phase }, { on := 22, ground := Go.Ground.phase }, { on := 23, ground := Go.Ground.phase }, { on := 24, ground := Go.Ground.phase }, { on := 25, ground := Go.Ground.phase }, { on := 26, ground := Go.Ground.phase }, { on := 27, ground := Go.Ground.phase }, { on := 28, ground := Go.Ground.phase }, { on := 29, ground := Go.Ground.phase }, { on := 30, ground := Go.Ground.phase }, { on := 31, ground := Go.Ground.phase }, { on := 32, ground := Go.Ground.phase }, { on := 33, ground := Go.Ground.phase }, { on := 34, ground := Go.Ground.phase }, { on := 35, ground := Go.Ground.phase }, { on := 36, ground := Go.Ground.phase }, { on := 37, ground := Go.Ground.phase }, { on := 38, ground := Go.Ground.phase }, { on := 39, ground := Go.Ground.phase }, { on := 40, ground := Go.Ground.phase }, { on := 41, ground := Go.Ground.phase }, { on := 42, ground := Go.Ground.phase }, { on := 43, ground := Go.Ground.phase }, { on := 44, ground := Go.Ground.phase }, { on := 45, ground := Go.Ground.phase }, { on := 46, ground := Go.Ground.phase }, { on := 47, ground := Go.Ground.phase }, { on := 48, ground := Go.Ground.phase }, { on := 49, ground := Go.Ground.phase }, { on := 50, ground := Go.Ground.phase }, { on := 51, ground := Go.Ground.phase }, { on := 52, ground := Go.Ground.phase }, { on := 53, ground := Go.Ground.phase }, { on := 54, ground := Go.Ground.phase }, { on := 55, ground := Go.Ground.phase }, { on := 56, ground := Go.Ground.phase }, { on := 57, ground := Go.Ground.phase }, { on := 58, ground := Go.Ground.phase }, { on := 59, ground := Go.Ground.phase }], guard := none }) (v := ?v116) rfl (by as_aux_lemma => kernel_rfl) (by as_aux_lemma => kernel_rfl) (by as_aux_lemma => kernel_rfl) (fun _ _ _ h => h) (Or.inl ⟨by kernel_rfl, ?h116⟩) (by assumption) ?r116
        case h116 => (intro w hSw; (try dsimp only at hSw); go_simp; try with_reducible rfl)
        try simp only [Act.put, List.setIfInBounds_toArray, List.set_cons_zero, List.set_cons_succ]
        refine wpAnyH_done (by as_aux_lemma => kernel_rfl) ?_ _
        go_wp2
        go_ret
        exact ⟨rfl, (LF _ hHeld).bel⟩
      · go_simp
        obtain ⟨t43, ht43⟩ : ∃ t43, t43 = t38.alloc (.cells #[.int .i64 0, .int .i64 1, .int .i64 2, .int .i64 3] 3) := ⟨_, rfl⟩
        have sXR' : SL t43 (some ⟨t38.heap.size, 0, none⟩) 4 4 [0, 1, 2, 3] := (by rw [ht43]; exact psl_lit _ _ 4 rfl (by omega) _ rfl)
        have hB43 := hHeld.alloc hHeld.size (.cells #[.int .i64 0, .int .i64 1, .int .i64 2, .int .i64 3] 3)
        rw [← ht43] at hB43
        rw [← ht43]
        clear ht43
        have XR : ∀ W, Below t43.heap.size t43 W → SL W (some ⟨t38.heap.size, 0, none⟩) 4 4 [0, 1, 2, 3] := fun W hW => sXR'.below hW
        refine hK.out _ _ (hB43) (fun hHeld => ?_)
        clear hK K
        try simp only [Act.put, List.setIfInBounds_toArray, List.set_cons_zero, List.set_cons_succ]
        refine wpAnyH_now hHeld (fun hHeld => ?_)
        replace LF := rebase LF (hB43)
        replace z0 := rebase z0 (hB43)
        replace z1 := rebase z1 (hB43)
        replace z2 := rebase z2 (hB43)
        replace z3 := rebase z3 (hB43)
        replace s0 := rebase s0 (hB43)
        replace s1 := rebase s1 (hB43)
        replace s2 := rebase s2 (hB43)
        replace s3 := rebase s3 (hB43)
        replace s4 := rebase s4 (hB43)
        replace XO := rebase XO (hB43)
        replace MO := rebase MO (hB43)
        replace MI := rebase MI (hB43)
        replace XI := rebase XI (hB43)
        refine wpAnyH_ready (rs := [42]) (by as_aux_lemma => kernel_rfl) (by simp) ?_
        refine AllReadyH.cons (o := { dst := some 86, op := Go.Op.call { callee := Go.Callee.value (Go.Operand.func 15), args := #[Go.Operand.tmp 85], argTypes := #[26] }, type := 32, pos := "law.go:34", after := #[{ on := 41, ground := Go.Ground.data }, { on := 40, ground := Go.Ground.chain }, { on := 40, ground := Go.Ground.guard }], guard := some (40, true) }) rfl (fun K hK => ?_) AllReadyH.nil
        go_simp
        with_reducible refine (QR.out _ (LF _ hHeld)).mono ?_
        rintro e t42 ⟨aMR, nMR, cMR, rfl, sMR', b42⟩
        have hB42 := hHeld.trans (b42.mono hHeld.size)
        have MR : ∀ W, Below t42.heap.size t42 W → SL W aMR nMR cMR [0, 1, 2, 3] := fun W hW => sMR'.below hW
        go_simp
        refine hK.out _ _ (hB42) (fun hHeld => ?_)
        clear hK K
        try simp only [Act.put, List.setIfInBounds_toArray, List.set_cons_zero, List.set_cons_succ]
        refine wpAnyH_now hHeld (fun hHeld => ?_)
        replace LF := rebase LF (hB42)
        replace z0 := rebase z0 (hB42)
        replace z1 := rebase z1 (hB42)
        replace z2 := rebase z2 (hB42)
        replace z3 := rebase z3 (hB42)
        replace s0 := rebase s0 (hB42)
        replace s1 := rebase s1 (hB42)
        replace s2 := rebase s2 (hB42)
        replace s3 := rebase s3 (hB42)
        replace s4 := rebase s4 (hB42)
        replace XO := rebase XO (hB42)
        replace MO := rebase MO (hB42)
        replace MI := rebase MI (hB42)
        replace XI := rebase XI (hB42)
        replace XR := rebase XR (hB42)
        refine wpAnyH_ready (rs := [44]) (by as_aux_lemma => kernel_rfl) (by simp) ?_
        refine AllReadyH.cons (o := { dst := some 88, op := Go.Op.call { callee := Go.Callee.value (Go.Operand.func 16), args := #[Go.Operand.tmp 86, Go.Operand.tmp 87], argTypes := #[32, 32] }, type := 4, pos := "law.go:34", after := #[{ on := 42, ground := Go.Ground.data }, { on := 43, ground := Go.Ground.data }, { on := 42, ground := Go.Ground.chain }, { on := 40, ground := Go.Ground.guard }], guard := some (40, true) }) rfl (fun K hK => ?_) AllReadyH.nil
        go_simp
        with_reducible refine (QN.out _ _ _ _ _ _ _ _ (MR _ hHeld) (XR _ hHeld)).mono ?_
        rintro e t44 ⟨rfl, b44⟩
        have hB44 := hHeld.trans (b44.mono hHeld.size)
        go_simp
        refine hK.out _ _ (hB44) (fun hHeld => ?_)
        clear hK K
        try simp only [Act.put, List.setIfInBounds_toArray, List.set_cons_zero, List.set_cons_succ]
        refine wpAnyH_now hHeld (fun hHeld => ?_)
        replace LF := rebase LF (hB44)
        replace z0 := rebase z0 (hB44)
        replace z1 := rebase z1 (hB44)
        replace z2 := rebase z2 (hB44)
        replace z3 := rebase z3 (hB44)
        replace s0 := rebase s0 (hB44)
        replace s1 := rebase s1 (hB44)
        replace s2 := rebase s2 (hB44)
        replace s3 := rebase s3 (hB44)
        replace s4 := rebase s4 (hB44)
        replace XO := rebase XO (hB44)
        replace MO := rebase MO (hB44)
        replace MI := rebase MI (hB44)
        replace XI := rebase XI (hB44)
        replace XR := rebase XR (hB44)
        replace MR := rebase MR (hB44)
        refine wpAnyH_take (i := 45) (oi := { dst := some 89, op := Go.Op.pick (Go.Operand.tmp 84) (Go.Operand.tmp 88) (Go.Operand.const (Go.Value.bool false)), type := 4, pos := "law.go:34", after := #[{ on := 40, ground := Go.Ground.data }, { on := 44, ground := Go.Ground.data }], guard := none }) (v := ?v117) rfl (by as_aux_lemma => kernel_rfl) (by as_aux_lemma => kernel_rfl) (by as_aux_lemma => kernel_rfl) (fun _ _ _ h => h) (Or.inl ⟨by kernel_rfl, ?h117⟩) (by assumption) ?r117
        case h117 => (intro w hSw; (try dsimp only at hSw); go_simp; try with_reducible rfl)
        try simp only [Act.put, List.setIfInBounds_toArray, List.set_cons_zero, List.set_cons_succ]
        refine wpAnyH_take (i := 46) (oi := { dst := some 90, op := Go.Op.move (Go.Operand.tmp 89), type := 4, pos := "law.go:34", after := #[{ on := 45, ground := Go.Ground.data }, { on := 44, ground := Go.Ground.chain }], guard := none }) (v := ?v118) rfl (by as_aux_lemma => kernel_rfl) (by as_aux_lemma => kernel_rfl) (by as_aux_lemma => kernel_rfl) (fun _ _ _ h => h) (Or.inl ⟨by kernel_rfl, ?h118⟩) (by assumption) ?r118
        case h118 => (intro w hSw; (try dsimp only at hSw); go_simp; try with_reducible rfl)
        try simp only [Act.put, List.setIfInBounds_toArray, List.set_cons_zero, List.set_cons_succ]
        refine wpAnyH_take (i := 47) (oi := { dst := some 91, op := Go.Op.build 38 #[(0, Go.Operand.const (Go.Value.int Go.IntKind.i64 1))], type := 38, pos := "law.go:34", after := #[{ on := 46, ground := Go.Ground.guard }], guard := some (46, true) }) (v := ?v119) rfl (by as_aux_lemma => kernel_rfl) (by as_aux_lemma => kernel_rfl) (by as_aux_lemma => kernel_rfl) (fun _ _ _ h => h) (Or.inl ⟨by kernel_rfl, ?h119⟩) (by assumption) ?r119
        case h119 => (intro w hSw; (try dsimp only at hSw); go_simp; try with_reducible rfl)
        try simp only [Act.put, List.setIfInBounds_toArray, List.set_cons_zero, List.set_cons_succ]
        refine wpAnyH_ready (rs := [48]) (by as_aux_lemma => kernel_rfl) (by simp) ?_
        refine AllReadyH.cons (o := { dst := some 92, op := Go.Op.call { callee := Go.Callee.value (Go.Operand.func 21), args := #[Go.Operand.tmp 91, Go.Operand.const (Go.Value.int Go.IntKind.i64 0)], argTypes := #[38, 3] }, type := 4, pos := "law.go:34", after := #[{ on := 47, ground := Go.Ground.data }, { on := 46, ground := Go.Ground.chain }, { on := 46, ground := Go.Ground.guard }], guard := some (46, true) }) rfl (fun K hK => ?_) AllReadyH.nil
        go_simp
        with_reducible refine (QRt.out _).mono ?_
        rintro e t48 ⟨rfl, b48⟩
        have hB48 := hHeld.trans (b48.mono hHeld.size)
        go_simp
        refine hK.out _ _ (hB48) (fun hHeld => ?_)
        clear hK K
        try simp only [Act.put, List.setIfInBounds_toArray, List.set_cons_zero, List.set_cons_succ]
        refine wpAnyH_now hHeld (fun hHeld => ?_)
        replace LF := rebase LF (hB48)
        replace z0 := rebase z0 (hB48)
        replace z1 := rebase z1 (hB48)
        replace z2 := rebase z2 (hB48)
        replace z3 := rebase z3 (hB48)
        replace s0 := rebase s0 (hB48)
        replace s1 := rebase s1 (hB48)
        replace s2 := rebase s2 (hB48)
        replace s3 := rebase s3 (hB48)
        replace s4 := rebase s4 (hB48)
        replace XO := rebase XO (hB48)
        replace MO := rebase MO (hB48)
        replace MI := rebase MI (hB48)
        replace XI := rebase XI (hB48)
        replace XR := rebase XR (hB48)
        replace MR := rebase MR (hB48)
        refine wpAnyH_take (i := 49) (oi := { dst := some 93, op := Go.Op.pick (Go.Operand.tmp 90) (Go.Operand.tmp 92) (Go.Operand.const (Go.Value.bool false)), type := 4, pos := "law.go:34", after := #[{ on := 46, ground := Go.Ground.data }, { on := 48, ground := Go.Ground.data }], guard := none }) (v := ?v120) rfl (by as_aux_lemma => kernel_rfl) (by as_aux_lemma => kernel_rfl) (by as_aux_lemma => kernel_rfl) (fun _ _ _ h => h) (Or.inl ⟨by kernel_rfl, ?h120⟩) (by assumption) ?r120
        case h120 => (intro w hSw; (try dsimp only at hSw); go_simp; try with_reducible rfl)
        try simp only [Act.put, List.setIfInBounds_toArray, List.set_cons_zero, List.set_cons_succ]
        refine wpAnyH_take (i := 50) (oi := { dst := some 94, op := Go.Op.move (Go.Operand.tmp 93), type := 4, pos := "law.go:34", after := #[{ on := 49, ground := Go.Ground.data }, { on := 48, ground := Go.Ground.chain }], guard := none }) (v := ?v121) rfl (by as_aux_lemma => kernel_rfl) (by as_aux_lemma => kernel_rfl) (by as_aux_lemma => kernel_rfl) (fun _ _ _ h => h) (Or.inl ⟨by kernel_rfl, ?h121⟩) (by assumption) ?r121
        case h121 => (intro w hSw; (try dsimp only at hSw); go_simp; try with_reducible rfl)
        try simp only [Act.put, List.setIfInBounds_toArray, List.set_cons_zero, List.set_cons_succ]
        refine wpAnyH_take (i := 51) (oi := { dst := some 95, op := Go.Op.build 26 #[], type := 26, pos := "law.go:34", after := #[{ on := 50, ground := Go.Ground.guard }], guard := some (50, true) }) (v := ?v122) rfl (by as_aux_lemma => kernel_rfl) (by as_aux_lemma => kernel_rfl) (by as_aux_lemma => kernel_rfl) (fun _ _ _ h => h) (Or.inl ⟨by kernel_rfl, ?h122⟩) (by assumption) ?r122
        case h122 => (intro w hSw; (try dsimp only at hSw); go_simp; try with_reducible rfl)
        try simp only [Act.put, List.setIfInBounds_toArray, List.set_cons_zero, List.set_cons_succ]
        refine wpAnyH_ready (rs := [52]) (by as_aux_lemma => kernel_rfl) (by simp) ?_
        refine AllReadyH.cons (o := { dst := some 96, op := Go.Op.call { callee := Go.Callee.value (Go.Operand.func 9), args := #[Go.Operand.tmp 95], argTypes := #[26] }, type := 29, pos := "law.go:34", after := #[{ on := 51, ground := Go.Ground.data }, { on := 50, ground := Go.Ground.chain }, { on := 50, ground := Go.Ground.guard }], guard := some (50, true) }) rfl (fun K hK => ?_) AllReadyH.nil
        go_simp
        with_reducible refine (QE.out _).mono ?_
        rintro e t52 ⟨rfl, b52⟩
        have hB52 := hHeld.trans (b52.mono hHeld.size)
        go_simp
        refine hK.out _ _ (hB52) (fun hHeld => ?_)
        clear hK K
        try simp only [Act.put, List.setIfInBounds_toArray, List.set_cons_zero, List.set_cons_succ]
        refine wpAnyH_now hHeld (fun hHeld => ?_)
        replace LF := rebase LF (hB52)
        replace z0 := rebase z0 (hB52)
        replace z1 := rebase z1 (hB52)
        replace z2 := rebase z2 (hB52)
        replace z3 := rebase z3 (hB52)
        replace s0 := rebase s0 (hB52)
        replace s1 := rebase s1 (hB52)
        replace s2 := rebase s2 (hB52)
        replace s3 := rebase s3 (hB52)
        replace s4 := rebase s4 (hB52)
        replace XO := rebase XO (hB52)
        replace MO := rebase MO (hB52)
        replace MI := rebase MI (hB52)
        replace XI := rebase XI (hB52)
        replace XR := rebase XR (hB52)
        replace MR := rebase MR (hB52)
        refine wpAnyH_take (i := 53) (oi := { dst := some 97, op := Go.Op.binOp Go.BinOp.eql 29 (Go.Operand.tmp 96) (Go.Operand.const (Go.Value.int Go.IntKind.i64 110)) 29, type := 4, pos := "law.go:34", after := #[{ on := 52, ground := Go.Ground.data }, { on := 50, ground := Go.Ground.guard }], guard := some (50, true) }) (v := ?v123) rfl (by as_aux_lemma => kernel_rfl) (by as_aux_lemma => kernel_rfl) (by as_aux_lemma => kernel_rfl) (fun _ _ _ h => h) (Or.inl ⟨by kernel_rfl, ?h123⟩) (by assumption) ?r123
        case h123 => (intro w hSw; (try dsimp only at hSw); go_simp; try with_reducible rfl)
        try simp only [Act.put, List.setIfInBounds_toArray, List.set_cons_zero, List.set_cons_succ]
        refine wpAnyH_take (i := 54) (oi := { dst := some 98, op := Go.Op.pick (Go.Operand.tmp 94) (Go.Operand.tmp 97) (Go.Operand.const (Go.Value.bool false)), type := 4, pos := "law.go:34", after := #[{ on := 50, ground := Go.Ground.data }, { on := 53, ground := Go.Ground.data }], guard := none }) (v := ?v124) rfl (by as_aux_lemma => kernel_rfl) (by as_aux_lemma => kernel_rfl) (by as_aux_lemma => kernel_rfl) (fun _ _ _ h => h) (Or.inl ⟨by kernel_rfl, ?h124⟩) (by assumption) ?r124
        case h124 => (intro w hSw; (try dsimp only at hSw); go_simp; try with_reducible rfl)
        try simp only [Act.put, List.setIfInBounds_toArray, List.set_cons_zero, List.set_cons_succ]
        refine wpAnyH_take (i := 55) (oi := { dst := some 99, op := Go.Op.move (Go.Operand.tmp 98), type := 4, pos := "law.go:34", after := #[{ on := 54, ground := Go.Ground.data }, { on := 52, ground := Go.Ground.chain }], guard := none }) (v := ?v125) rfl (by as_aux_lemma => kernel_rfl) (by as_aux_lemma => kernel_rfl) (by as_aux_lemma => kernel_rfl) (fun _ _ _ h => h) (Or.inl ⟨by kernel_rfl, ?h125⟩) (by assumption) ?r125
        case h125 => (intro w hSw; (try dsimp only at hSw); go_simp; try with_reducible rfl)
        try simp only [Act.put, List.setIfInBounds_toArray, List.set_cons_zero, List.set_cons_succ]
        refine wpAnyH_take (i := 56) (oi := { dst := some 100, op := Go.Op.load 26 (Go.Operand.tmp 1), type := 26, pos := "law.go:34", after := #[{ on := 55, ground := Go.Ground.guard }], guard := some (55, true) }) (v := ?v126) rfl (by as_aux_lemma => kernel_rfl) (by as_aux_lemma => kernel_rfl) (by as_aux_lemma => kernel_rfl) (fun _ _ _ h => h) (Or.inl ⟨by kernel_rfl, ?h126⟩) (by assumption) ?r126
        case h126 => (intro w hSw; (try dsimp only at hSw); go_simp; try with_reducible rfl)
        try simp only [Act.put, List.setIfInBounds_toArray, List.set_cons_zero, List.set_cons_succ]
        refine wpAnyH_ready (rs := [57]) (by as_aux_lemma => kernel_rfl) (by simp) ?_
        refine AllReadyH.cons (o := { dst := some 101, op := Go.Op.call { callee := Go.Callee.value (Go.Operand.func 27), args := #[], argTypes := #[] }, type := 26, pos := "law.go:34", after := #[{ on := 55, ground := Go.Ground.chain }, { on := 55, ground := Go.Ground.guard }], guard := some (55, true) }) rfl (fun K hK => ?_) AllReadyH.nil
        go_simp
        with_reducible refine (QM.out _).mono ?_
        rintro e t57 ⟨⟨qnm, qa1, qn1, qc1, qa2, qn2, qc2, qa3, qn3, qc3⟩, he, hq, b57⟩
        have hB57 := hHeld.trans (b57.mono hHeld.size)
        have MS : ∀ W, Below t57.heap.size t57 W → PrA W ⟨qnm, qa1, qn1, qc1, qa2, qn2, qc2, qa3, qn3, qc3⟩ smallD := fun W hW => hq.below hW
        replace he := show e = .returned (.agg #[.string qnm, .slice qa1 qn1 qc1, .slice qa2 qn2 qc2, .slice qa3 qn3 qc3]) from he
        subst he
        go_simp
        refine hK.out _ _ (hB57) (fun hHeld => ?_)
        clear hK K
        try simp only [Act.put, List.setIfInBounds_toArray, List.set_cons_zero, List.set_cons_succ]
        refine wpAnyH_now hHeld (fun hHeld => ?_)
        replace LF := rebase LF (hB57)
        replace z0 := rebase z0 (hB57)
        replace z1 := rebase z1 (hB57)
        replace z2 := rebase z2 (hB57)
        replace z3 := rebase z3 (hB57)
        replace s0 := rebase s0 (hB57)
        replace s1 := rebase s1 (hB57)
        replace s2 := rebase s2 (hB57)
        replace s3 := rebase s3 (hB57)
        replace s4 := rebase s4 (hB57)
        replace XO := rebase XO (hB57)
        replace MO := rebase MO (hB57)
        replace MI := rebase MI (hB57)
        replace XI := rebase XI (hB57)
        replace XR := rebase XR (hB57)
        replace MR := rebase MR (hB57)
        refine wpAnyH_ready (rs := [58]) (by as_aux_lemma => kernel_rfl) (by simp) ?_
        refine AllReadyH.cons (o := { dst := some 102, op := Go.Op.call { callee := Go.Callee.value (Go.Operand.func 10), args := #[Go.Operand.tmp 100, Go.Operand.tmp 101], argTypes := #[26, 26] }, type := 4, pos := "law.go:34", after := #[{ on := 56, ground := Go.Ground.data }, { on := 57, ground := Go.Ground.data }, { on := 57, ground := Go.Ground.chain }, { on := 55, ground := Go.Ground.guard }], guard := some (55, true) }) rfl (fun K hK => ?_) AllReadyH.nil
        go_simp
        with_reducible refine (QS.out _ _ (LF _ hHeld) (MS _ hHeld)).mono ?_
        rintro e t58 ⟨rfl, b58⟩
        have hB58 := hHeld.trans (b58.mono hHeld.size)
        go_simp
        refine hK.out _ _ (hB58) (fun hHeld => ?_)
        clear hK K
        try simp only [Act.put, List.setIfInBounds_toArray, List.set_cons_zero, List.set_cons_succ]
        refine wpAnyH_now hHeld (fun hHeld => ?_)
        replace LF := rebase LF (hB58)
        replace z0 := rebase z0 (hB58)
        replace z1 := rebase z1 (hB58)
        replace z2 := rebase z2 (hB58)
        replace z3 := rebase z3 (hB58)
        replace s0 := rebase s0 (hB58)
        replace s1 := rebase s1 (hB58)
        replace s2 := rebase s2 (hB58)
        replace s3 := rebase s3 (hB58)
        replace s4 := rebase s4 (hB58)
        replace XO := rebase XO (hB58)
        replace MO := rebase MO (hB58)
        replace MI := rebase MI (hB58)
        replace XI := rebase XI (hB58)
        replace XR := rebase XR (hB58)
        replace MR := rebase MR (hB58)
        replace MS := rebase MS (hB58)
        refine wpAnyH_take (i := 59) (oi := { dst := some 103, op := Go.Op.pick (Go.Operand.tmp 99) (Go.Operand.tmp 102) (Go.Operand.const (Go.Value.bool false)), type := 4, pos := "law.go:34", after := #[{ on := 55, ground := Go.Ground.data }, { on := 58, ground := Go.Ground.data }], guard := none }) (v := ?v127) rfl (by as_aux_lemma => kernel_rfl) (by as_aux_lemma => kernel_rfl) (by as_aux_lemma => kernel_rfl) (fun _ _ _ h => h) (Or.inl ⟨by kernel_rfl, ?h127⟩) (by assumption) ?r127
        case h127 => (intro w hSw; (try dsimp only at hSw); go_simp; try with_reducible rfl)
        try simp only [Act.put, List.setIfInBounds_toArray, List.set_cons_zero, List.set_cons_succ]
        refine wpAnyH_take (i := 60) (oi := { dst := some 0, op := Go.Op.assign (Go.Operand.tmp 103), type := 4, pos := "law.go:34", after := #[{ on := 59, ground := Go.Ground.data }, { on := 58, ground := Go.Ground.chain }, { on := 0, ground := Go.Ground.phase }, { on := 1, ground := Go.Ground.phase }, { on := 2, ground := Go.Ground.phase }, { on := 3, ground := Go.Ground.phase }, { on := 4, ground := Go.Ground.phase }, { on := 5, ground := Go.Ground.phase }, { on := 6, ground := Go.Ground.phase }, { on := 7, ground := Go.Ground.phase }, { on := 8, ground := Go.Ground.phase }, { on := 9, ground := Go.Ground.phase }, { on := 10, ground := Go.Ground.phase }, { on := 11, ground := Go.Ground.phase }, { on := 12, ground := Go.Ground.phase }, { on := 13, ground := Go.Ground.phase }, { on := 14, ground := Go.Ground.phase }, { on := 15, ground := Go.Ground.phase }, { on := 16, ground := Go.Ground.phase }, { on := 17, ground := Go.Ground.phase }, { on := 18, ground := Go.Ground.phase }, { on := 19, ground := Go.Ground.phase }, { on := 20, ground := Go.Ground.phase }, { on := 21, ground := Go.Ground.phase }, { on := 22, ground := Go.Ground.phase }, { on := 23, ground := Go.Ground.phase }, { on := 24, ground := Go.Ground.phase }, { on := 25, ground := Go.Ground.phase }, { on := 26, ground := Go.Ground.phase }, { on := 27, ground := Go.Ground.phase }, { on := 28, ground := Go.Ground.phase }, { on := 29, ground := Go.Ground.phase }, { on := 30, ground := Go.Ground.phase }, { on := 31, ground := Go.Ground.phase }, { on := 32, ground := Go.Ground.phase }, { on := 33, ground := Go.Ground.phase }, { on := 34, ground := Go.Ground.phase }, { on := 35, ground := Go.Ground.phase }, { on := 36, ground := Go.Ground.phase }, { on := 37, ground := Go.Ground.phase }, { on := 38, ground := Go.Ground.phase }, { on := 39, ground := Go.Ground.phase }, { on := 40, ground := Go.Ground.phase }, { on := 41, ground := Go.Ground.phase }, { on := 42, ground := Go.Ground.phase }, { on := 43, ground := Go.Ground.phase }, { on := 44, ground := Go.Ground.phase }, { on := 45, ground := Go.Ground.phase }, { on := 46, ground := Go.Ground.phase }, { on := 47, ground := Go.Ground.phase }, { on := 48, ground := Go.Ground.phase }, { on := 49, ground := Go.Ground.phase }, { on := 50, ground := Go.Ground.phase }, { on := 51, ground := Go.Ground.phase }, { on := 52, ground := Go.Ground.phase }, { on := 53, ground := Go.Ground.phase }, { on := 54, ground := Go.Ground.phase }, { on := 55, ground := Go.Ground.phase }, { on := 56, ground := Go.Ground.phase }, { on := 57, ground := Go.Ground.phase }, { on := 58, ground := Go.Ground.phase }, { on := 59, ground := Go.Ground.phase }], guard := none }) (v := ?v128) rfl (by as_aux_lemma => kernel_rfl) (by as_aux_lemma => kernel_rfl) (by as_aux_lemma => kernel_rfl) (fun _ _ _ h => h) (Or.inl ⟨by kernel_rfl, ?h128⟩) (by assumption) ?r128
        case h128 => (intro w hSw; (try dsimp only at hSw); go_simp; try with_reducible rfl)
        try simp only [Act.put, List.setIfInBounds_toArray, List.set_cons_zero, List.set_cons_succ]
        refine wpAnyH_done (by as_aux_lemma => kernel_rfl) ?_ _
        go_wp2
        go_ret
        exact ⟨rfl, (LF _ hHeld).bel⟩
    · go_simp
      obtain ⟨t37, ht37⟩ : ∃ t37, t37 = t32.alloc (.cells #[.int .i64 0, .int .i64 2] 3) := ⟨_, rfl⟩
      have sXI' : SL t37 (some ⟨t32.heap.size, 0, none⟩) 2 2 [0, 2] := (by rw [ht37]; exact psl_lit _ _ 2 rfl (by omega) _ rfl)
      have hB37 := hHeld.alloc hHeld.size (.cells #[.int .i64 0, .int .i64 2] 3)
      rw [← ht37] at hB37
      rw [← ht37]
      clear ht37
      have XI : ∀ W, Below t37.heap.size t37 W → SL W (some ⟨t32.heap.size, 0, none⟩) 2 2 [0, 2] := fun W hW => sXI'.below hW
      refine hK.out _ _ (hB37) (fun hHeld => ?_)
      clear hK K
      try simp only [Act.put, List.setIfInBounds_toArray, List.set_cons_zero, List.set_cons_succ]
      refine wpAnyH_now hHeld (fun hHeld => ?_)
      replace LF := rebase LF (hB37)
      replace z0 := rebase z0 (hB37)
      replace z1 := rebase z1 (hB37)
      replace z2 := rebase z2 (hB37)
      replace z3 := rebase z3 (hB37)
      replace s0 := rebase s0 (hB37)
      replace s1 := rebase s1 (hB37)
      replace s2 := rebase s2 (hB37)
      replace s3 := rebase s3 (hB37)
      replace s4 := rebase s4 (hB37)
      replace XO := rebase XO (hB37)
      replace MO := rebase MO (hB37)
      refine wpAnyH_ready (rs := [36]) (by as_aux_lemma => kernel_rfl) (by simp) ?_
      refine AllReadyH.cons (o := { dst := some 80, op := Go.Op.call { callee := Go.Callee.value (Go.Operand.func 14), args := #[Go.Operand.tmp 79, Go.Operand.const (Go.Value.int Go.IntKind.i64 1)], argTypes := #[26, 3] }, type := 32, pos := "law.go:34", after := #[{ on := 35, ground := Go.Ground.data }, { on := 34, ground := Go.Ground.chain }, { on := 34, ground := Go.Ground.guard }], guard := some (34, true) }) rfl (fun K hK => ?_) AllReadyH.nil
      go_simp
      with_reducible refine (QI.out _ (LF _ hHeld)).mono ?_
      rintro e t36 ⟨aMI, nMI, cMI, rfl, sMI', b36⟩
      have hB36 := hHeld.trans (b36.mono hHeld.size)
      have MI : ∀ W, Below t36.heap.size t36 W → SL W aMI nMI cMI [0, 2] := fun W hW => sMI'.below hW
      go_simp
      refine hK.out _ _ (hB36) (fun hHeld => ?_)
      clear hK K
      try simp only [Act.put, List.setIfInBounds_toArray, List.set_cons_zero, List.set_cons_succ]
      refine wpAnyH_now hHeld (fun hHeld => ?_)
      replace LF := rebase LF (hB36)
      replace z0 := rebase z0 (hB36)
      replace z1 := rebase z1 (hB36)
      replace z2 := rebase z2 (hB36)
      replace z3 := rebase z3 (hB36)
      replace s0 := rebase s0 (hB36)
      replace s1 := rebase s1 (hB36)
      replace s2 := rebase s2 (hB36)
      replace s3 := rebase s3 (hB36)
      replace s4 := rebase s4 (hB36)
      replace XO := rebase XO (hB36)
      replace MO := rebase MO (hB36)
      replace XI := rebase XI (hB36)
      refine wpAnyH_ready (rs := [38]) (by as_aux_lemma => kernel_rfl) (by simp) ?_
      refine AllReadyH.cons (o := { dst := some 82, op := Go.Op.call { callee := Go.Callee.value (Go.Operand.func 16), args := #[Go.Operand.tmp 80, Go.Operand.tmp 81], argTypes := #[32, 32] }, type := 4, pos := "law.go:34", after := #[{ on := 36, ground := Go.Ground.data }, { on := 37, ground := Go.Ground.data }, { on := 36, ground := Go.Ground.chain }, { on := 34, ground := Go.Ground.guard }], guard := some (34, true) }) rfl (fun K hK => ?_) AllReadyH.nil
      go_simp
      with_reducible refine (QN.out _ _ _ _ _ _ _ _ (MI _ hHeld) (XI _ hHeld)).mono ?_
      rintro e t38 ⟨rfl, b38⟩
      have hB38 := hHeld.trans (b38.mono hHeld.size)
      go_simp
      refine hK.out _ _ (hB38) (fun hHeld => ?_)
      clear hK K
      try simp only [Act.put, List.setIfInBounds_toArray, List.set_cons_zero, List.set_cons_succ]
      refine wpAnyH_now hHeld (fun hHeld => ?_)
      replace LF := rebase LF (hB38)
      replace z0 := rebase z0 (hB38)
      replace z1 := rebase z1 (hB38)
      replace z2 := rebase z2 (hB38)
      replace z3 := rebase z3 (hB38)
      replace s0 := rebase s0 (hB38)
      replace s1 := rebase s1 (hB38)
      replace s2 := rebase s2 (hB38)
      replace s3 := rebase s3 (hB38)
      replace s4 := rebase s4 (hB38)
      replace XO := rebase XO (hB38)
      replace MO := rebase MO (hB38)
      replace XI := rebase XI (hB38)
      replace MI := rebase MI (hB38)
      refine wpAnyH_take (i := 39) (oi := { dst := some 83, op := Go.Op.pick (Go.Operand.tmp 78) (Go.Operand.tmp 82) (Go.Operand.const (Go.Value.bool false)), type := 4, pos := "law.go:34", after := #[{ on := 34, ground := Go.Ground.data }, { on := 38, ground := Go.Ground.data }], guard := none }) (v := ?v129) rfl (by as_aux_lemma => kernel_rfl) (by as_aux_lemma => kernel_rfl) (by as_aux_lemma => kernel_rfl) (fun _ _ _ h => h) (Or.inl ⟨by kernel_rfl, ?h129⟩) (by assumption) ?r129
      case h129 => (intro w hSw; (try dsimp only at hSw); go_simp; try with_reducible rfl)
      try simp only [Act.put, List.setIfInBounds_toArray, List.set_cons_zero, List.set_cons_succ]
      refine wpAnyH_take (i := 40) (oi := { dst := some 84, op := Go.Op.move (Go.Operand.tmp 83), type := 4, pos := "law.go:34", after := #[{ on := 39, ground := Go.Ground.data }, { on := 38, ground := Go.Ground.chain }], guard := none }) (v := ?v130) rfl (by as_aux_lemma => kernel_rfl) (by as_aux_lemma => kernel_rfl) (by as_aux_lemma => kernel_rfl) (fun _ _ _ h => h) (Or.inl ⟨by kernel_rfl, ?h130⟩) (by assumption) ?r130
      case h130 => (intro w hSw; (try dsimp only at hSw); go_simp; try with_reducible rfl)
      try simp only [Act.put, List.setIfInBounds_toArray, List.set_cons_zero, List.set_cons_succ]
      refine wpAnyH_take (i := 41) (oi := { dst := some 85, op := Go.Op.load 26 (Go.Operand.tmp 1), type := 26, pos := "law.go:34", after := #[{ on := 40, ground := Go.Ground.guard }], guard := some (40, true) }) (v := ?v131) rfl (by as_aux_lemma => kernel_rfl) (by as_aux_lemma => kernel_rfl) (by as_aux_lemma => kernel_rfl) (fun _ _ _ h => h) (Or.inl ⟨by kernel_rfl, ?h131⟩) (by assumption) ?r131
      case h131 => (intro w hSw; (try dsimp only at hSw); go_simp; try with_reducible rfl)
      try simp only [Act.put, List.setIfInBounds_toArray, List.set_cons_zero, List.set_cons_succ]
      refine wpAnyH_ready (rs := [42, 43]) (by as_aux_lemma => kernel_rfl) (by simp) ?_
      refine AllReadyH.cons (o := { dst := some 86, op := Go.Op.call { callee := Go.Callee.value (Go.Operand.func 15), args := #[Go.Operand.tmp 85], argTypes := #[26] }, type := 32, pos := "law.go:34", after := #[{ on := 41, ground := Go.Ground.data }, { on := 40, ground := Go.Ground.chain }, { on := 40, ground := Go.Ground.guard }], guard := some (40, true) }) rfl (fun K hK => ?_) (AllReadyH.cons (o := { dst := some 87, op := Go.Op.buildSlice 32 4 #[(0, Go.Operand.const (Go.Value.int Go.IntKind.i64 0)), (1, Go.Operand.const (Go.Value.int Go.IntKind.i64 1)), (2, Go.Operand.const (Go.Value.int Go.IntKind.i64 2)), (3, Go.Operand.const (Go.Value.int Go.IntKind.i64 3))], type := 32, pos := "law.go:34", after := #[{ on := 40, ground := Go.Ground.guard }], guard := some (40, true) }) rfl (fun K hK => ?_) AllReadyH.nil)
      · go_simp
        with_reducible refine (QR.out _ (LF _ hHeld)).mono ?_
        rintro e t42 ⟨aMR, nMR, cMR, rfl, sMR', b42⟩
        have hB42 := hHeld.trans (b42.mono hHeld.size)
        have MR : ∀ W, Below t42.heap.size t42 W → SL W aMR nMR cMR [0, 1, 2, 3] := fun W hW => sMR'.below hW
        go_simp
        refine hK.out _ _ (hB42) (fun hHeld => ?_)
        clear hK K
        try simp only [Act.put, List.setIfInBounds_toArray, List.set_cons_zero, List.set_cons_succ]
        refine wpAnyH_now hHeld (fun hHeld => ?_)
        replace LF := rebase LF (hB42)
        replace z0 := rebase z0 (hB42)
        replace z1 := rebase z1 (hB42)
        replace z2 := rebase z2 (hB42)
        replace z3 := rebase z3 (hB42)
        replace s0 := rebase s0 (hB42)
        replace s1 := rebase s1 (hB42)
        replace s2 := rebase s2 (hB42)
        replace s3 := rebase s3 (hB42)
        replace s4 := rebase s4 (hB42)
        replace XO := rebase XO (hB42)
        replace MO := rebase MO (hB42)
        replace XI := rebase XI (hB42)
        replace MI := rebase MI (hB42)
        refine wpAnyH_ready (rs := [43]) (by as_aux_lemma => kernel_rfl) (by simp) ?_
        refine AllReadyH.cons (o := { dst := some 87, op := Go.Op.buildSlice 32 4 #[(0, Go.Operand.const (Go.Value.int Go.IntKind.i64 0)), (1, Go.Operand.const (Go.Value.int Go.IntKind.i64 1)), (2, Go.Operand.const (Go.Value.int Go.IntKind.i64 2)), (3, Go.Operand.const (Go.Value.int Go.IntKind.i64 3))], type := 32, pos := "law.go:34", after := #[{ on := 40, ground := Go.Ground.guard }], guard := some (40, true) }) rfl (fun K hK => ?_) AllReadyH.nil
        go_simp
        obtain ⟨t43, ht43⟩ : ∃ t43, t43 = t42.alloc (.cells #[.int .i64 0, .int .i64 1, .int .i64 2, .int .i64 3] 3) := ⟨_, rfl⟩
        have sXR' : SL t43 (some ⟨t42.heap.size, 0, none⟩) 4 4 [0, 1, 2, 3] := (by rw [ht43]; exact psl_lit _ _ 4 rfl (by omega) _ rfl)
        have hB43 := hHeld.alloc hHeld.size (.cells #[.int .i64 0, .int .i64 1, .int .i64 2, .int .i64 3] 3)
        rw [← ht43] at hB43
        rw [← ht43]
        clear ht43
        have XR : ∀ W, Below t43.heap.size t43 W → SL W (some ⟨t42.heap.size, 0, none⟩) 4 4 [0, 1, 2, 3] := fun W hW => sXR'.below hW
        refine hK.out _ _ (hB43) (fun hHeld => ?_)
        clear hK K
        try simp only [Act.put, List.setIfInBounds_toArray, List.set_cons_zero, List.set_cons_succ]
        refine wpAnyH_now hHeld (fun hHeld => ?_)
        replace LF := rebase LF (hB43)
        replace z0 := rebase z0 (hB43)
        replace z1 := rebase z1 (hB43)
        replace z2 := rebase z2 (hB43)
        replace z3 := rebase z3 (hB43)
        replace s0 := rebase s0 (hB43)
        replace s1 := rebase s1 (hB43)
        replace s2 := rebase s2 (hB43)
        replace s3 := rebase s3 (hB43)
        replace s4 := rebase s4 (hB43)
        replace XO := rebase XO (hB43)
        replace MO := rebase MO (hB43)
        replace XI := rebase XI (hB43)
        replace MI := rebase MI (hB43)
        replace MR := rebase MR (hB43)
        refine wpAnyH_ready (rs := [44]) (by as_aux_lemma => kernel_rfl) (by simp) ?_
        refine AllReadyH.cons (o := { dst := some 88, op := Go.Op.call { callee := Go.Callee.value (Go.Operand.func 16), args := #[Go.Operand.tmp 86, Go.Operand.tmp 87], argTypes := #[32, 32] }, type := 4, pos := "law.go:34", after := #[{ on := 42, ground := Go.Ground.data }, { on := 43, ground := Go.Ground.data }, { on := 42, ground := Go.Ground.chain }, { on := 40, ground := Go.Ground.guard }], guard := some (40, true) }) rfl (fun K hK => ?_) AllReadyH.nil
        go_simp
        with_reducible refine (QN.out _ _ _ _ _ _ _ _ (MR _ hHeld) (XR _ hHeld)).mono ?_
        rintro e t44 ⟨rfl, b44⟩
        have hB44 := hHeld.trans (b44.mono hHeld.size)
        go_simp
        refine hK.out _ _ (hB44) (fun hHeld => ?_)
        clear hK K
        try simp only [Act.put, List.setIfInBounds_toArray, List.set_cons_zero, List.set_cons_succ]
        refine wpAnyH_now hHeld (fun hHeld => ?_)
        replace LF := rebase LF (hB44)
        replace z0 := rebase z0 (hB44)
        replace z1 := rebase z1 (hB44)
        replace z2 := rebase z2 (hB44)
        replace z3 := rebase z3 (hB44)
        replace s0 := rebase s0 (hB44)
        replace s1 := rebase s1 (hB44)
        replace s2 := rebase s2 (hB44)
        replace s3 := rebase s3 (hB44)
        replace s4 := rebase s4 (hB44)
        replace XO := rebase XO (hB44)
        replace MO := rebase MO (hB44)
        replace XI := rebase XI (hB44)
        replace MI := rebase MI (hB44)
        replace MR := rebase MR (hB44)
        replace XR := rebase XR (hB44)
        refine wpAnyH_take (i := 45) (oi := { dst := some 89, op := Go.Op.pick (Go.Operand.tmp 84) (Go.Operand.tmp 88) (Go.Operand.const (Go.Value.bool false)), type := 4, pos := "law.go:34", after := #[{ on := 40, ground := Go.Ground.data }, { on := 44, ground := Go.Ground.data }], guard := none }) (v := ?v132) rfl (by as_aux_lemma => kernel_rfl) (by as_aux_lemma => kernel_rfl) (by as_aux_lemma => kernel_rfl) (fun _ _ _ h => h) (Or.inl ⟨by kernel_rfl, ?h132⟩) (by assumption) ?r132
        case h132 => (intro w hSw; (try dsimp only at hSw); go_simp; try with_reducible rfl)
        try simp only [Act.put, List.setIfInBounds_toArray, List.set_cons_zero, List.set_cons_succ]
        refine wpAnyH_take (i := 46) (oi := { dst := some 90, op := Go.Op.move (Go.Operand.tmp 89), type := 4, pos := "law.go:34", after := #[{ on := 45, ground := Go.Ground.data }, { on := 44, ground := Go.Ground.chain }], guard := none }) (v := ?v133) rfl (by as_aux_lemma => kernel_rfl) (by as_aux_lemma => kernel_rfl) (by as_aux_lemma => kernel_rfl) (fun _ _ _ h => h) (Or.inl ⟨by kernel_rfl, ?h133⟩) (by assumption) ?r133
        case h133 => (intro w hSw; (try dsimp only at hSw); go_simp; try with_reducible rfl)
        try simp only [Act.put, List.setIfInBounds_toArray, List.set_cons_zero, List.set_cons_succ]
        refine wpAnyH_take (i := 47) (oi := { dst := some 91, op := Go.Op.build 38 #[(0, Go.Operand.const (Go.Value.int Go.IntKind.i64 1))], type := 38, pos := "law.go:34", after := #[{ on := 46, ground := Go.Ground.guard }], guard := some (46, true) }) (v := ?v134) rfl (by as_aux_lemma => kernel_rfl) (by as_aux_lemma => kernel_rfl) (by as_aux_lemma => kernel_rfl) (fun _ _ _ h => h) (Or.inl ⟨by kernel_rfl, ?h134⟩) (by assumption) ?r134
        case h134 => (intro w hSw; (try dsimp only at hSw); go_simp; try with_reducible rfl)
        try simp only [Act.put, List.setIfInBounds_toArray, List.set_cons_zero, List.set_cons_succ]
        refine wpAnyH_ready (rs := [48]) (by as_aux_lemma => kernel_rfl) (by simp) ?_
        refine AllReadyH.cons (o := { dst := some 92, op := Go.Op.call { callee := Go.Callee.value (Go.Operand.func 21), args := #[Go.Operand.tmp 91, Go.Operand.const (Go.Value.int Go.IntKind.i64 0)], argTypes := #[38, 3] }, type := 4, pos := "law.go:34", after := #[{ on := 47, ground := Go.Ground.data }, { on := 46, ground := Go.Ground.chain }, { on := 46, ground := Go.Ground.guard }], guard := some (46, true) }) rfl (fun K hK => ?_) AllReadyH.nil
        go_simp
        with_reducible refine (QRt.out _).mono ?_
        rintro e t48 ⟨rfl, b48⟩
        have hB48 := hHeld.trans (b48.mono hHeld.size)
        go_simp
        refine hK.out _ _ (hB48) (fun hHeld => ?_)
        clear hK K
        try simp only [Act.put, List.setIfInBounds_toArray, List.set_cons_zero, List.set_cons_succ]
        refine wpAnyH_now hHeld (fun hHeld => ?_)
        replace LF := rebase LF (hB48)
        replace z0 := rebase z0 (hB48)
        replace z1 := rebase z1 (hB48)
        replace z2 := rebase z2 (hB48)
        replace z3 := rebase z3 (hB48)
        replace s0 := rebase s0 (hB48)
        replace s1 := rebase s1 (hB48)
        replace s2 := rebase s2 (hB48)
        replace s3 := rebase s3 (hB48)
        replace s4 := rebase s4 (hB48)
        replace XO := rebase XO (hB48)
        replace MO := rebase MO (hB48)
        replace XI := rebase XI (hB48)
        replace MI := rebase MI (hB48)
        replace MR := rebase MR (hB48)
        replace XR := rebase XR (hB48)
        refine wpAnyH_take (i := 49) (oi := { dst := some 93, op := Go.Op.pick (Go.Operand.tmp 90) (Go.Operand.tmp 92) (Go.Operand.const (Go.Value.bool false)), type := 4, pos := "law.go:34", after := #[{ on := 46, ground := Go.Ground.data }, { on := 48, ground := Go.Ground.data }], guard := none }) (v := ?v135) rfl (by as_aux_lemma => kernel_rfl) (by as_aux_lemma => kernel_rfl) (by as_aux_lemma => kernel_rfl) (fun _ _ _ h => h) (Or.inl ⟨by kernel_rfl, ?h135⟩) (by assumption) ?r135
        case h135 => (intro w hSw; (try dsimp only at hSw); go_simp; try with_reducible rfl)
        try simp only [Act.put, List.setIfInBounds_toArray, List.set_cons_zero, List.set_cons_succ]
        refine wpAnyH_take (i := 50) (oi := { dst := some 94, op := Go.Op.move (Go.Operand.tmp 93), type := 4, pos := "law.go:34", after := #[{ on := 49, ground := Go.Ground.data }, { on := 48, ground := Go.Ground.chain }], guard := none }) (v := ?v136) rfl (by as_aux_lemma => kernel_rfl) (by as_aux_lemma => kernel_rfl) (by as_aux_lemma => kernel_rfl) (fun _ _ _ h => h) (Or.inl ⟨by kernel_rfl, ?h136⟩) (by assumption) ?r136
        case h136 => (intro w hSw; (try dsimp only at hSw); go_simp; try with_reducible rfl)
        try simp only [Act.put, List.setIfInBounds_toArray, List.set_cons_zero, List.set_cons_succ]
        refine wpAnyH_take (i := 51) (oi := { dst := some 95, op := Go.Op.build 26 #[], type := 26, pos := "law.go:34", after := #[{ on := 50, ground := Go.Ground.guard }], guard := some (50, true) }) (v := ?v137) rfl (by as_aux_lemma => kernel_rfl) (by as_aux_lemma => kernel_rfl) (by as_aux_lemma => kernel_rfl) (fun _ _ _ h => h) (Or.inl ⟨by kernel_rfl, ?h137⟩) (by assumption) ?r137
        case h137 => (intro w hSw; (try dsimp only at hSw); go_simp; try with_reducible rfl)
        try simp only [Act.put, List.setIfInBounds_toArray, List.set_cons_zero, List.set_cons_succ]
        refine wpAnyH_ready (rs := [52]) (by as_aux_lemma => kernel_rfl) (by simp) ?_
        refine AllReadyH.cons (o := { dst := some 96, op := Go.Op.call { callee := Go.Callee.value (Go.Operand.func 9), args := #[Go.Operand.tmp 95], argTypes := #[26] }, type := 29, pos := "law.go:34", after := #[{ on := 51, ground := Go.Ground.data }, { on := 50, ground := Go.Ground.chain }, { on := 50, ground := Go.Ground.guard }], guard := some (50, true) }) rfl (fun K hK => ?_) AllReadyH.nil
        go_simp
        with_reducible refine (QE.out _).mono ?_
        rintro e t52 ⟨rfl, b52⟩
        have hB52 := hHeld.trans (b52.mono hHeld.size)
        go_simp
        refine hK.out _ _ (hB52) (fun hHeld => ?_)
        clear hK K
        try simp only [Act.put, List.setIfInBounds_toArray, List.set_cons_zero, List.set_cons_succ]
        refine wpAnyH_now hHeld (fun hHeld => ?_)
        replace LF := rebase LF (hB52)
        replace z0 := rebase z0 (hB52)
        replace z1 := rebase z1 (hB52)
        replace z2 := rebase z2 (hB52)
        replace z3 := rebase z3 (hB52)
        replace s0 := rebase s0 (hB52)
        replace s1 := rebase s1 (hB52)
        replace s2 := rebase s2 (hB52)
        replace s3 := rebase s3 (hB52)
        replace s4 := rebase s4 (hB52)
        replace XO := rebase XO (hB52)
        replace MO := rebase MO (hB52)
        replace XI := rebase XI (hB52)
        replace MI := rebase MI (hB52)
        replace MR := rebase MR (hB52)
        replace XR := rebase XR (hB52)
        refine wpAnyH_take (i := 53) (oi := { dst := some 97, op := Go.Op.binOp Go.BinOp.eql 29 (Go.Operand.tmp 96) (Go.Operand.const (Go.Value.int Go.IntKind.i64 110)) 29, type := 4, pos := "law.go:34", after := #[{ on := 52, ground := Go.Ground.data }, { on := 50, ground := Go.Ground.guard }], guard := some (50, true) }) (v := ?v138) rfl (by as_aux_lemma => kernel_rfl) (by as_aux_lemma => kernel_rfl) (by as_aux_lemma => kernel_rfl) (fun _ _ _ h => h) (Or.inl ⟨by kernel_rfl, ?h138⟩) (by assumption) ?r138
        case h138 => (intro w hSw; (try dsimp only at hSw); go_simp; try with_reducible rfl)
        try simp only [Act.put, List.setIfInBounds_toArray, List.set_cons_zero, List.set_cons_succ]
        refine wpAnyH_take (i := 54) (oi := { dst := some 98, op := Go.Op.pick (Go.Operand.tmp 94) (Go.Operand.tmp 97) (Go.Operand.const (Go.Value.bool false)), type := 4, pos := "law.go:34", after := #[{ on := 50, ground := Go.Ground.data }, { on := 53, ground := Go.Ground.data }], guard := none }) (v := ?v139) rfl (by as_aux_lemma => kernel_rfl) (by as_aux_lemma => kernel_rfl) (by as_aux_lemma => kernel_rfl) (fun _ _ _ h => h) (Or.inl ⟨by kernel_rfl, ?h139⟩) (by assumption) ?r139
        case h139 => (intro w hSw; (try dsimp only at hSw); go_simp; try with_reducible rfl)
        try simp only [Act.put, List.setIfInBounds_toArray, List.set_cons_zero, List.set_cons_succ]
        refine wpAnyH_take (i := 55) (oi := { dst := some 99, op := Go.Op.move (Go.Operand.tmp 98), type := 4, pos := "law.go:34", after := #[{ on := 54, ground := Go.Ground.data }, { on := 52, ground := Go.Ground.chain }], guard := none }) (v := ?v140) rfl (by as_aux_lemma => kernel_rfl) (by as_aux_lemma => kernel_rfl) (by as_aux_lemma => kernel_rfl) (fun _ _ _ h => h) (Or.inl ⟨by kernel_rfl, ?h140⟩) (by assumption) ?r140
        case h140 => (intro w hSw; (try dsimp only at hSw); go_simp; try with_reducible rfl)
        try simp only [Act.put, List.setIfInBounds_toArray, List.set_cons_zero, List.set_cons_succ]
        refine wpAnyH_take (i := 56) (oi := { dst := some 100, op := Go.Op.load 26 (Go.Operand.tmp 1), type := 26, pos := "law.go:34", after := #[{ on := 55, ground := Go.Ground.guard }], guard := some (55, true) }) (v := ?v141) rfl (by as_aux_lemma => kernel_rfl) (by as_aux_lemma => kernel_rfl) (by as_aux_lemma => kernel_rfl) (fun _ _ _ h => h) (Or.inl ⟨by kernel_rfl, ?h141⟩) (by assumption) ?r141
        case h141 => (intro w hSw; (try dsimp only at hSw); go_simp; try with_reducible rfl)
        try simp only [Act.put, List.setIfInBounds_toArray, List.set_cons_zero, List.set_cons_succ]
        refine wpAnyH_ready (rs := [57]) (by as_aux_lemma => kernel_rfl) (by simp) ?_
        refine AllReadyH.cons (o := { dst := some 101, op := Go.Op.call { callee := Go.Callee.value (Go.Operand.func 27), args := #[], argTypes := #[] }, type := 26, pos := "law.go:34", after := #[{ on := 55, ground := Go.Ground.chain }, { on := 55, ground := Go.Ground.guard }], guard := some (55, true) }) rfl (fun K hK => ?_) AllReadyH.nil
        go_simp
        with_reducible refine (QM.out _).mono ?_
        rintro e t57 ⟨⟨qnm, qa1, qn1, qc1, qa2, qn2, qc2, qa3, qn3, qc3⟩, he, hq, b57⟩
        have hB57 := hHeld.trans (b57.mono hHeld.size)
        have MS : ∀ W, Below t57.heap.size t57 W → PrA W ⟨qnm, qa1, qn1, qc1, qa2, qn2, qc2, qa3, qn3, qc3⟩ smallD := fun W hW => hq.below hW
        replace he := show e = .returned (.agg #[.string qnm, .slice qa1 qn1 qc1, .slice qa2 qn2 qc2, .slice qa3 qn3 qc3]) from he
        subst he
        go_simp
        refine hK.out _ _ (hB57) (fun hHeld => ?_)
        clear hK K
        try simp only [Act.put, List.setIfInBounds_toArray, List.set_cons_zero, List.set_cons_succ]
        refine wpAnyH_now hHeld (fun hHeld => ?_)
        replace LF := rebase LF (hB57)
        replace z0 := rebase z0 (hB57)
        replace z1 := rebase z1 (hB57)
        replace z2 := rebase z2 (hB57)
        replace z3 := rebase z3 (hB57)
        replace s0 := rebase s0 (hB57)
        replace s1 := rebase s1 (hB57)
        replace s2 := rebase s2 (hB57)
        replace s3 := rebase s3 (hB57)
        replace s4 := rebase s4 (hB57)
        replace XO := rebase XO (hB57)
        replace MO := rebase MO (hB57)
        replace XI := rebase XI (hB57)
        replace MI := rebase MI (hB57)
        replace MR := rebase MR (hB57)
        replace XR := rebase XR (hB57)
        refine wpAnyH_ready (rs := [58]) (by as_aux_lemma => kernel_rfl) (by simp) ?_
        refine AllReadyH.cons (o := { dst := some 102, op := Go.Op.call { callee := Go.Callee.value (Go.Operand.func 10), args := #[Go.Operand.tmp 100, Go.Operand.tmp 101], argTypes := #[26, 26] }, type := 4, pos := "law.go:34", after := #[{ on := 56, ground := Go.Ground.data }, { on := 57, ground := Go.Ground.data }, { on := 57, ground := Go.Ground.chain }, { on := 55, ground := Go.Ground.guard }], guard := some (55, true) }) rfl (fun K hK => ?_) AllReadyH.nil
        go_simp
        with_reducible refine (QS.out _ _ (LF _ hHeld) (MS _ hHeld)).mono ?_
        rintro e t58 ⟨rfl, b58⟩
        have hB58 := hHeld.trans (b58.mono hHeld.size)
        go_simp
        refine hK.out _ _ (hB58) (fun hHeld => ?_)
        clear hK K
        try simp only [Act.put, List.setIfInBounds_toArray, List.set_cons_zero, List.set_cons_succ]
        refine wpAnyH_now hHeld (fun hHeld => ?_)
        replace LF := rebase LF (hB58)
        replace z0 := rebase z0 (hB58)
        replace z1 := rebase z1 (hB58)
        replace z2 := rebase z2 (hB58)
        replace z3 := rebase z3 (hB58)
        replace s0 := rebase s0 (hB58)
        replace s1 := rebase s1 (hB58)
        replace s2 := rebase s2 (hB58)
        replace s3 := rebase s3 (hB58)
        replace s4 := rebase s4 (hB58)
        replace XO := rebase XO (hB58)
        replace MO := rebase MO (hB58)
        replace XI := rebase XI (hB58)
        replace MI := rebase MI (hB58)
        replace MR := rebase MR (hB58)
        replace XR := rebase XR (hB58)
        replace MS := rebase MS (hB58)
        refine wpAnyH_take (i := 59) (oi := { dst := some 103, op := Go.Op.pick (Go.Operand.tmp 99) (Go.Operand.tmp 102) (Go.Operand.const (Go.Value.bool false)), type := 4, pos := "law.go:34", after := #[{ on := 55, ground := Go.Ground.data }, { on := 58, ground := Go.Ground.data }], guard := none }) (v := ?v142) rfl (by as_aux_lemma => kernel_rfl) (by as_aux_lemma => kernel_rfl) (by as_aux_lemma => kernel_rfl) (fun _ _ _ h => h) (Or.inl ⟨by kernel_rfl, ?h142⟩) (by assumption) ?r142
        case h142 => (intro w hSw; (try dsimp only at hSw); go_simp; try with_reducible rfl)
        try simp only [Act.put, List.setIfInBounds_toArray, List.set_cons_zero, List.set_cons_succ]
        refine wpAnyH_take (i := 60) (oi := { dst := some 0, op := Go.Op.assign (Go.Operand.tmp 103), type := 4, pos := "law.go:34", after := #[{ on := 59, ground := Go.Ground.data }, { on := 58, ground := Go.Ground.chain }, { on := 0, ground := Go.Ground.phase }, { on := 1, ground := Go.Ground.phase }, { on := 2, ground := Go.Ground.phase }, { on := 3, ground := Go.Ground.phase }, { on := 4, ground := Go.Ground.phase }, { on := 5, ground := Go.Ground.phase }, { on := 6, ground := Go.Ground.phase }, { on := 7, ground := Go.Ground.phase }, { on := 8, ground := Go.Ground.phase }, { on := 9, ground := Go.Ground.phase }, { on := 10, ground := Go.Ground.phase }, { on := 11, ground := Go.Ground.phase }, { on := 12, ground := Go.Ground.phase }, { on := 13, ground := Go.Ground.phase }, { on := 14, ground := Go.Ground.phase }, { on := 15, ground := Go.Ground.phase }, { on := 16, ground := Go.Ground.phase }, { on := 17, ground := Go.Ground.phase }, { on := 18, ground := Go.Ground.phase }, { on := 19, ground := Go.Ground.phase }, { on := 20, ground := Go.Ground.phase }, { on := 21, ground := Go.Ground.phase }, { on := 22, ground := Go.Ground.phase }, { on := 23, ground := Go.Ground.phase }, { on := 24, ground := Go.Ground.phase }, { on := 25, ground := Go.Ground.phase }, { on := 26, ground := Go.Ground.phase }, { on := 27, ground := Go.Ground.phase }, { on := 28, ground := Go.Ground.phase }, { on := 29, ground := Go.Ground.phase }, { on := 30, ground := Go.Ground.phase }, { on := 31, ground := Go.Ground.phase }, { on := 32, ground := Go.Ground.phase }, { on := 33, ground := Go.Ground.phase }, { on := 34, ground := Go.Ground.phase }, { on := 35, ground := Go.Ground.phase }, { on := 36, ground := Go.Ground.phase }, { on := 37, ground := Go.Ground.phase }, { on := 38, ground := Go.Ground.phase }, { on := 39, ground := Go.Ground.phase }, { on := 40, ground := Go.Ground.phase }, { on := 41, ground := Go.Ground.phase }, { on := 42, ground := Go.Ground.phase }, { on := 43, ground := Go.Ground.phase }, { on := 44, ground := Go.Ground.phase }, { on := 45, ground := Go.Ground.phase }, { on := 46, ground := Go.Ground.phase }, { on := 47, ground := Go.Ground.phase }, { on := 48, ground := Go.Ground.phase }, { on := 49, ground := Go.Ground.phase }, { on := 50, ground := Go.Ground.phase }, { on := 51, ground := Go.Ground.phase }, { on := 52, ground := Go.Ground.phase }, { on := 53, ground := Go.Ground.phase }, { on := 54, ground := Go.Ground.phase }, { on := 55, ground := Go.Ground.phase }, { on := 56, ground := Go.Ground.phase }, { on := 57, ground := Go.Ground.phase }, { on := 58, ground := Go.Ground.phase }, { on := 59, ground := Go.Ground.phase }], guard := none }) (v := ?v143) rfl (by as_aux_lemma => kernel_rfl) (by as_aux_lemma => kernel_rfl) (by as_aux_lemma => kernel_rfl) (fun _ _ _ h => h) (Or.inl ⟨by kernel_rfl, ?h143⟩) (by assumption) ?r143
        case h143 => (intro w hSw; (try dsimp only at hSw); go_simp; try with_reducible rfl)
        try simp only [Act.put, List.setIfInBounds_toArray, List.set_cons_zero, List.set_cons_succ]
        refine wpAnyH_done (by as_aux_lemma => kernel_rfl) ?_ _
        go_wp2
        go_ret
        exact ⟨rfl, (LF _ hHeld).bel⟩
      · go_simp
        obtain ⟨t43, ht43⟩ : ∃ t43, t43 = t38.alloc (.cells #[.int .i64 0, .int .i64 1, .int .i64 2, .int .i64 3] 3) := ⟨_, rfl⟩
        have sXR' : SL t43 (some ⟨t38.heap.size, 0, none⟩) 4 4 [0, 1, 2, 3] := (by rw [ht43]; exact psl_lit _ _ 4 rfl (by omega) _ rfl)
        have hB43 := hHeld.alloc hHeld.size (.cells #[.int .i64 0, .int .i64 1, .int .i64 2, .int .i64 3] 3)
        rw [← ht43] at hB43
        rw [← ht43]
        clear ht43
        have XR : ∀ W, Below t43.heap.size t43 W → SL W (some ⟨t38.heap.size, 0, none⟩) 4 4 [0, 1, 2, 3] := fun W hW => sXR'.below hW
        refine hK.out _ _ (hB43) (fun hHeld => ?_)
        clear hK K
        try simp only [Act.put, List.setIfInBounds_toArray, List.set_cons_zero, List.set_cons_succ]
        refine wpAnyH_now hHeld (fun hHeld => ?_)
        replace LF := rebase LF (hB43)
        replace z0 := rebase z0 (hB43)
        replace z1 := rebase z1 (hB43)
        replace z2 := rebase z2 (hB43)
        replace z3 := rebase z3 (hB43)
        replace s0 := rebase s0 (hB43)
        replace s1 := rebase s1 (hB43)
        replace s2 := rebase s2 (hB43)
        replace s3 := rebase s3 (hB43)
        replace s4 := rebase s4 (hB43)
        replace XO := rebase XO (hB43)
        replace MO := rebase MO (hB43)
        replace XI := rebase XI (hB43)
        replace MI := rebase MI (hB43)
        refine wpAnyH_ready (rs := [42]) (by as_aux_lemma => kernel_rfl) (by simp) ?_
        refine AllReadyH.cons (o := { dst := some 86, op := Go.Op.call { callee := Go.Callee.value (Go.Operand.func 15), args := #[Go.Operand.tmp 85], argTypes := #[26] }, type := 32, pos := "law.go:34", after := #[{ on := 41, ground := Go.Ground.data }, { on := 40, ground := Go.Ground.chain }, { on := 40, ground := Go.Ground.guard }], guard := some (40, true) }) rfl (fun K hK => ?_) AllReadyH.nil
        go_simp
        with_reducible refine (QR.out _ (LF _ hHeld)).mono ?_
        rintro e t42 ⟨aMR, nMR, cMR, rfl, sMR', b42⟩
        have hB42 := hHeld.trans (b42.mono hHeld.size)
        have MR : ∀ W, Below t42.heap.size t42 W → SL W aMR nMR cMR [0, 1, 2, 3] := fun W hW => sMR'.below hW
        go_simp
        refine hK.out _ _ (hB42) (fun hHeld => ?_)
        clear hK K
        try simp only [Act.put, List.setIfInBounds_toArray, List.set_cons_zero, List.set_cons_succ]
        refine wpAnyH_now hHeld (fun hHeld => ?_)
        replace LF := rebase LF (hB42)
        replace z0 := rebase z0 (hB42)
        replace z1 := rebase z1 (hB42)
        replace z2 := rebase z2 (hB42)
        replace z3 := rebase z3 (hB42)
        replace s0 := rebase s0 (hB42)
        replace s1 := rebase s1 (hB42)
        replace s2 := rebase s2 (hB42)
        replace s3 := rebase s3 (hB42)
        replace s4 := rebase s4 (hB42)
        replace XO := rebase XO (hB42)
        replace MO := rebase MO (hB42)
        replace XI := rebase XI (hB42)
        replace MI := rebase MI (hB42)
        replace XR := rebase XR (hB42)
        refine wpAnyH_ready (rs := [44]) (by as_aux_lemma => kernel_rfl) (by simp) ?_
        refine AllReadyH.cons (o := { dst := some 88, op := Go.Op.call { callee := Go.Callee.value (Go.Operand.func 16), args := #[Go.Operand.tmp 86, Go.Operand.tmp 87], argTypes := #[32, 32] }, type := 4, pos := "law.go:34", after := #[{ on := 42, ground := Go.Ground.data }, { on := 43, ground := Go.Ground.data }, { on := 42, ground := Go.Ground.chain }, { on := 40, ground := Go.Ground.guard }], guard := some (40, true) }) rfl (fun K hK => ?_) AllReadyH.nil
        go_simp
        with_reducible refine (QN.out _ _ _ _ _ _ _ _ (MR _ hHeld) (XR _ hHeld)).mono ?_
        rintro e t44 ⟨rfl, b44⟩
        have hB44 := hHeld.trans (b44.mono hHeld.size)
        go_simp
        refine hK.out _ _ (hB44) (fun hHeld => ?_)
        clear hK K
        try simp only [Act.put, List.setIfInBounds_toArray, List.set_cons_zero, List.set_cons_succ]
        refine wpAnyH_now hHeld (fun hHeld => ?_)
        replace LF := rebase LF (hB44)
        replace z0 := rebase z0 (hB44)
        replace z1 := rebase z1 (hB44)
        replace z2 := rebase z2 (hB44)
        replace z3 := rebase z3 (hB44)
        replace s0 := rebase s0 (hB44)
        replace s1 := rebase s1 (hB44)
        replace s2 := rebase s2 (hB44)
        replace s3 := rebase s3 (hB44)
        replace s4 := rebase s4 (hB44)
        replace XO := rebase XO (hB44)
        replace MO := rebase MO (hB44)
        replace XI := rebase XI (hB44)
        replace MI := rebase MI (hB44)
        replace XR := rebase XR (hB44)
        replace MR := rebase MR (hB44)
        refine wpAnyH_take (i := 45) (oi := { dst := some 89, op := Go.Op.pick (Go.Operand.tmp 84) (Go.Operand.tmp 88) (Go.Operand.const (Go.Value.bool false)), type := 4, pos := "law.go:34", after := #[{ on := 40, ground := Go.Ground.data }, { on := 44, ground := Go.Ground.data }], guard := none }) (v := ?v144) rfl (by as_aux_lemma => kernel_rfl) (by as_aux_lemma => kernel_rfl) (by as_aux_lemma => kernel_rfl) (fun _ _ _ h => h) (Or.inl ⟨by kernel_rfl, ?h144⟩) (by assumption) ?r144
        case h144 => (intro w hSw; (try dsimp only at hSw); go_simp; try with_reducible rfl)
        try simp only [Act.put, List.setIfInBounds_toArray, List.set_cons_zero, List.set_cons_succ]
        refine wpAnyH_take (i := 46) (oi := { dst := some 90, op := Go.Op.move (Go.Operand.tmp 89), type := 4, pos := "law.go:34", after := #[{ on := 45, ground := Go.Ground.data }, { on := 44, ground := Go.Ground.chain }], guard := none }) (v := ?v145) rfl (by as_aux_lemma => kernel_rfl) (by as_aux_lemma => kernel_rfl) (by as_aux_lemma => kernel_rfl) (fun _ _ _ h => h) (Or.inl ⟨by kernel_rfl, ?h145⟩) (by assumption) ?r145
        case h145 => (intro w hSw; (try dsimp only at hSw); go_simp; try with_reducible rfl)
        try simp only [Act.put, List.setIfInBounds_toArray, List.set_cons_zero, List.set_cons_succ]
        refine wpAnyH_take (i := 47) (oi := { dst := some 91, op := Go.Op.build 38 #[(0, Go.Operand.const (Go.Value.int Go.IntKind.i64 1))], type := 38, pos := "law.go:34", after := #[{ on := 46, ground := Go.Ground.guard }], guard := some (46, true) }) (v := ?v146) rfl (by as_aux_lemma => kernel_rfl) (by as_aux_lemma => kernel_rfl) (by as_aux_lemma => kernel_rfl) (fun _ _ _ h => h) (Or.inl ⟨by kernel_rfl, ?h146⟩) (by assumption) ?r146
        case h146 => (intro w hSw; (try dsimp only at hSw); go_simp; try with_reducible rfl)
        try simp only [Act.put, List.setIfInBounds_toArray, List.set_cons_zero, List.set_cons_succ]
        refine wpAnyH_ready (rs := [48]) (by as_aux_lemma => kernel_rfl) (by simp) ?_
        refine AllReadyH.cons (o := { dst := some 92, op := Go.Op.call { callee := Go.Callee.value (Go.Operand.func 21), args := #[Go.Operand.tmp 91, Go.Operand.const (Go.Value.int Go.IntKind.i64 0)], argTypes := #[38, 3] }, type := 4, pos := "law.go:34", after := #[{ on := 47, ground := Go.Ground.data }, { on := 46, ground := Go.Ground.chain }, { on := 46, ground := Go.Ground.guard }], guard := some (46, true) }) rfl (fun K hK => ?_) AllReadyH.nil
        go_simp
        with_reducible refine (QRt.out _).mono ?_
        rintro e t48 ⟨rfl, b48⟩
        have hB48 := hHeld.trans (b48.mono hHeld.size)
        go_simp
        refine hK.out _ _ (hB48) (fun hHeld => ?_)
        clear hK K
        try simp only [Act.put, List.setIfInBounds_toArray, List.set_cons_zero, List.set_cons_succ]
        refine wpAnyH_now hHeld (fun hHeld => ?_)
        replace LF := rebase LF (hB48)
        replace z0 := rebase z0 (hB48)
        replace z1 := rebase z1 (hB48)
        replace z2 := rebase z2 (hB48)
        replace z3 := rebase z3 (hB48)
        replace s0 := rebase s0 (hB48)
        replace s1 := rebase s1 (hB48)
        replace s2 := rebase s2 (hB48)
        replace s3 := rebase s3 (hB48)
        replace s4 := rebase s4 (hB48)
        replace XO := rebase XO (hB48)
        replace MO := rebase MO (hB48)
        replace XI := rebase XI (hB48)
        replace MI := rebase MI (hB48)
        replace XR := rebase XR (hB48)
        replace MR := rebase MR (hB48)
        refine wpAnyH_take (i := 49) (oi := { dst := some 93, op := Go.Op.pick (Go.Operand.tmp 90) (Go.Operand.tmp 92) (Go.Operand.const (Go.Value.bool false)), type := 4, pos := "law.go:34", after := #[{ on := 46, ground := Go.Ground.data }, { on := 48, ground := Go.Ground.data }], guard := none }) (v := ?v147) rfl (by as_aux_lemma => kernel_rfl) (by as_aux_lemma => kernel_rfl) (by as_aux_lemma => kernel_rfl) (fun _ _ _ h => h) (Or.inl ⟨by kernel_rfl, ?h147⟩) (by assumption) ?r147
        case h147 => (intro w hSw; (try dsimp only at hSw); go_simp; try with_reducible rfl)
        try simp only [Act.put, List.setIfInBounds_toArray, List.set_cons_zero, List.set_cons_succ]
        refine wpAnyH_take (i := 50) (oi := { dst := some 94, op := Go.Op.move (Go.Operand.tmp 93), type := 4, pos := "law.go:34", after := #[{ on := 49, ground := Go.Ground.data }, { on := 48, ground := Go.Ground.chain }], guard := none }) (v := ?v148) rfl (by as_aux_lemma => kernel_rfl) (by as_aux_lemma => kernel_rfl) (by as_aux_lemma => kernel_rfl) (fun _ _ _ h => h) (Or.inl ⟨by kernel_rfl, ?h148⟩) (by assumption) ?r148
        case h148 => (intro w hSw; (try dsimp only at hSw); go_simp; try with_reducible rfl)
        try simp only [Act.put, List.setIfInBounds_toArray, List.set_cons_zero, List.set_cons_succ]
        refine wpAnyH_take (i := 51) (oi := { dst := some 95, op := Go.Op.build 26 #[], type := 26, pos := "law.go:34", after := #[{ on := 50, ground := Go.Ground.guard }], guard := some (50, true) }) (v := ?v149) rfl (by as_aux_lemma => kernel_rfl) (by as_aux_lemma => kernel_rfl) (by as_aux_lemma => kernel_rfl) (fun _ _ _ h => h) (Or.inl ⟨by kernel_rfl, ?h149⟩) (by assumption) ?r149
        case h149 => (intro w hSw; (try dsimp only at hSw); go_simp; try with_reducible rfl)
        try simp only [Act.put, List.setIfInBounds_toArray, List.set_cons_zero, List.set_cons_succ]
        refine wpAnyH_ready (rs := [52]) (by as_aux_lemma => kernel_rfl) (by simp) ?_
        refine AllReadyH.cons (o := { dst := some 96, op := Go.Op.call { callee := Go.Callee.value (Go.Operand.func 9), args := #[Go.Operand.tmp 95], argTypes := #[26] }, type := 29, pos := "law.go:34", after := #[{ on := 51, ground := Go.Ground.data }, { on := 50, ground := Go.Ground.chain }, { on := 50, ground := Go.Ground.guard }], guard := some (50, true) }) rfl (fun K hK => ?_) AllReadyH.nil
        go_simp
        with_reducible refine (QE.out _).mono ?_
        rintro e t52 ⟨rfl, b52⟩
        have hB52 := hHeld.trans (b52.mono hHeld.size)
        go_simp
        refine hK.out _ _ (hB52) (fun hHeld => ?_)
        clear hK K
        try simp only [Act.put, List.setIfInBounds_toArray, List.set_cons_zero, List.set_cons_succ]
        refine wpAnyH_now hHeld (fun hHeld => ?_)
        replace LF := rebase LF (hB52)
        replace z0 := rebase z0 (hB52)
        replace z1 := rebase z1 (hB52)
        replace z2 := rebase z2 (hB52)
        replace z3 := rebase z3 (hB52)
        replace s0 := rebase s0 (hB52)
        replace s1 := rebase s1 (hB52)
        replace s2 := rebase s2 (hB52)
        replace s3 := rebase s3 (hB52)
        replace s4 := rebase s4 (hB52)
        replace XO := rebase XO (hB52)
        replace MO := rebase MO (hB52)
        replace XI := rebase XI (hB52)
        replace MI := rebase MI (hB52)
        replace XR := rebase XR (hB52)
        replace MR := rebase MR (hB52)
        refine wpAnyH_take (i := 53) (oi := { dst := some 97, op := Go.Op.binOp Go.BinOp.eql 29 (Go.Operand.tmp 96) (Go.Operand.const (Go.Value.int Go.IntKind.i64 110)) 29, type := 4, pos := "law.go:34", after := #[{ on := 52, ground := Go.Ground.data }, { on := 50, ground := Go.Ground.guard }], guard := some (50, true) }) (v := ?v150) rfl (by as_aux_lemma => kernel_rfl) (by as_aux_lemma => kernel_rfl) (by as_aux_lemma => kernel_rfl) (fun _ _ _ h => h) (Or.inl ⟨by kernel_rfl, ?h150⟩) (by assumption) ?r150
        case h150 => (intro w hSw; (try dsimp only at hSw); go_simp; try with_reducible rfl)
        try simp only [Act.put, List.setIfInBounds_toArray, List.set_cons_zero, List.set_cons_succ]
        refine wpAnyH_take (i := 54) (oi := { dst := some 98, op := Go.Op.pick (Go.Operand.tmp 94) (Go.Operand.tmp 97) (Go.Operand.const (Go.Value.bool false)), type := 4, pos := "law.go:34", after := #[{ on := 50, ground := Go.Ground.data }, { on := 53, ground := Go.Ground.data }], guard := none }) (v := ?v151) rfl (by as_aux_lemma => kernel_rfl) (by as_aux_lemma => kernel_rfl) (by as_aux_lemma => kernel_rfl) (fun _ _ _ h => h) (Or.inl ⟨by kernel_rfl, ?h151⟩) (by assumption) ?r151
        case h151 => (intro w hSw; (try dsimp only at hSw); go_simp; try with_reducible rfl)
        try simp only [Act.put, List.setIfInBounds_toArray, List.set_cons_zero, List.set_cons_succ]
        refine wpAnyH_take (i := 55) (oi := { dst := some 99, op := Go.Op.move (Go.Operand.tmp 98), type := 4, pos := "law.go:34", after := #[{ on := 54, ground := Go.Ground.data }, { on := 52, ground := Go.Ground.chain }], guard := none }) (v := ?v152) rfl (by as_aux_lemma => kernel_rfl) (by as_aux_lemma => kernel_rfl) (by as_aux_lemma => kernel_rfl) (fun _ _ _ h => h) (Or.inl ⟨by kernel_rfl, ?h152⟩) (by assumption) ?r152
        case h152 => (intro w hSw; (try dsimp only at hSw); go_simp; try with_reducible rfl)
        try simp only [Act.put, List.setIfInBounds_toArray, List.set_cons_zero, List.set_cons_succ]
        refine wpAnyH_take (i := 56) (oi := { dst := some 100, op := Go.Op.load 26 (Go.Operand.tmp 1), type := 26, pos := "law.go:34", after := #[{ on := 55, ground := Go.Ground.guard }], guard := some (55, true) }) (v := ?v153) rfl (by as_aux_lemma => kernel_rfl) (by as_aux_lemma => kernel_rfl) (by as_aux_lemma => kernel_rfl) (fun _ _ _ h => h) (Or.inl ⟨by kernel_rfl, ?h153⟩) (by assumption) ?r153
        case h153 => (intro w hSw; (try dsimp only at hSw); go_simp; try with_reducible rfl)
        try simp only [Act.put, List.setIfInBounds_toArray, List.set_cons_zero, List.set_cons_succ]
        refine wpAnyH_ready (rs := [57]) (by as_aux_lemma => kernel_rfl) (by simp) ?_
        refine AllReadyH.cons (o := { dst := some 101, op := Go.Op.call { callee := Go.Callee.value (Go.Operand.func 27), args := #[], argTypes := #[] }, type := 26, pos := "law.go:34", after := #[{ on := 55, ground := Go.Ground.chain }, { on := 55, ground := Go.Ground.guard }], guard := some (55, true) }) rfl (fun K hK => ?_) AllReadyH.nil
        go_simp
        with_reducible refine (QM.out _).mono ?_
        rintro e t57 ⟨⟨qnm, qa1, qn1, qc1, qa2, qn2, qc2, qa3, qn3, qc3⟩, he, hq, b57⟩
        have hB57 := hHeld.trans (b57.mono hHeld.size)
        have MS : ∀ W, Below t57.heap.size t57 W → PrA W ⟨qnm, qa1, qn1, qc1, qa2, qn2, qc2, qa3, qn3, qc3⟩ smallD := fun W hW => hq.below hW
        replace he := show e = .returned (.agg #[.string qnm, .slice qa1 qn1 qc1, .slice qa2 qn2 qc2, .slice qa3 qn3 qc3]) from he
        subst he
        go_simp
        refine hK.out _ _ (hB57) (fun hHeld => ?_)
        clear hK K
        try simp only [Act.put, List.setIfInBounds_toArray, List.set_cons_zero, List.set_cons_succ]
        refine wpAnyH_now hHeld (fun hHeld => ?_)
        replace LF := rebase LF (hB57)
        replace z0 := rebase z0 (hB57)
        replace z1 := rebase z1 (hB57)
        replace z2 := rebase z2 (hB57)
        replace z3 := rebase z3 (hB57)
        replace s0 := rebase s0 (hB57)
        replace s1 := rebase s1 (hB57)
        replace s2 := rebase s2 (hB57)
        replace s3 := rebase s3 (hB57)
        replace s4 := rebase s4 (hB57)
        replace XO := rebase XO (hB57)
        replace MO := rebase MO (hB57)
        replace XI := rebase XI (hB57)
        replace MI := rebase MI (hB57)
        replace XR := rebase XR (hB57)
        replace MR := rebase MR (hB57)
        refine wpAnyH_ready (rs := [58]) (by as_aux_lemma => kernel_rfl) (by simp) ?_
        refine AllReadyH.cons (o := { dst := some 102, op := Go.Op.call { callee := Go.Callee.value (Go.Operand.func 10), args := #[Go.Operand.tmp 100, Go.Operand.tmp 101], argTypes := #[26, 26] }, type := 4, pos := "law.go:34", after := #[{ on := 56, ground := Go.Ground.data }, { on := 57, ground := Go.Ground.data }, { on := 57, ground := Go.Ground.chain }, { on := 55, ground := Go.Ground.guard }], guard := some (55, true) }) rfl (fun K hK => ?_) AllReadyH.nil
        go_simp
        with_reducible refine (QS.out _ _ (LF _ hHeld) (MS _ hHeld)).mono ?_
        rintro e t58 ⟨rfl, b58⟩
        have hB58 := hHeld.trans (b58.mono hHeld.size)
        go_simp
        refine hK.out _ _ (hB58) (fun hHeld => ?_)
        clear hK K
        try simp only [Act.put, List.setIfInBounds_toArray, List.set_cons_zero, List.set_cons_succ]
        refine wpAnyH_now hHeld (fun hHeld => ?_)
        replace LF := rebase LF (hB58)
        replace z0 := rebase z0 (hB58)
        replace z1 := rebase z1 (hB58)
        replace z2 := rebase z2 (hB58)
        replace z3 := rebase z3 (hB58)
        replace s0 := rebase s0 (hB58)
        replace s1 := rebase s1 (hB58)
        replace s2 := rebase s2 (hB58)
        replace s3 := rebase s3 (hB58)
        replace s4 := rebase s4 (hB58)
        replace XO := rebase XO (hB58)
        replace MO := rebase MO (hB58)
        replace XI := rebase XI (hB58)
        replace MI := rebase MI (hB58)
        replace XR := rebase XR (hB58)
        replace MR := rebase MR (hB58)
        replace MS := rebase MS (hB58)
        refine wpAnyH_take (i := 59) (oi := { dst := some 103, op := Go.Op.pick (Go.Operand.tmp 99) (Go.Operand.tmp 102) (Go.Operand.const (Go.Value.bool false)), type := 4, pos := "law.go:34", after := #[{ on := 55, ground := Go.Ground.data }, { on := 58, ground := Go.Ground.data }], guard := none }) (v := ?v154) rfl (by as_aux_lemma => kernel_rfl) (by as_aux_lemma => kernel_rfl) (by as_aux_lemma => kernel_rfl) (fun _ _ _ h => h) (Or.inl ⟨by kernel_rfl, ?h154⟩) (by assumption) ?r154
        case h154 => (intro w hSw; (try dsimp only at hSw); go_simp; try with_reducible rfl)
        try simp only [Act.put, List.setIfInBounds_toArray, List.set_cons_zero, List.set_cons_succ]
        refine wpAnyH_take (i := 60) (oi := { dst := some 0, op := Go.Op.assign (Go.Operand.tmp 103), type := 4, pos := "law.go:34", after := #[{ on := 59, ground := Go.Ground.data }, { on := 58, ground := Go.Ground.chain }, { on := 0, ground := Go.Ground.phase }, { on := 1, ground := Go.Ground.phase }, { on := 2, ground := Go.Ground.phase }, { on := 3, ground := Go.Ground.phase }, { on := 4, ground := Go.Ground.phase }, { on := 5, ground := Go.Ground.phase }, { on := 6, ground := Go.Ground.phase }, { on := 7, ground := Go.Ground.phase }, { on := 8, ground := Go.Ground.phase }, { on := 9, ground := Go.Ground.phase }, { on := 10, ground := Go.Ground.phase }, { on := 11, ground := Go.Ground.phase }, { on := 12, ground := Go.Ground.phase }, { on := 13, ground := Go.Ground.phase }, { on := 14, ground := Go.Ground.phase }, { on := 15, ground := Go.Ground.phase }, { on := 16, ground := Go.Ground.phase }, { on := 17, ground := Go.Ground.phase }, { on := 18, ground := Go.Ground.phase }, { on := 19, ground := Go.Ground.phase }, { on := 20, ground := Go.Ground.phase }, { on := 21, ground := Go.Ground.phase }, { on := 22, ground := Go.Ground.phase }, { on := 23, ground := Go.Ground.phase }, { on := 24, ground := Go.Ground.phase }, { on := 25, ground := Go.Ground.phase }, { on := 26, ground := Go.Ground.phase }, { on := 27, ground := Go.Ground.phase }, { on := 28, ground := Go.Ground.phase }, { on := 29, ground := Go.Ground.phase }, { on := 30, ground := Go.Ground.phase }, { on := 31, ground := Go.Ground.phase }, { on := 32, ground := Go.Ground.phase }, { on := 33, ground := Go.Ground.phase }, { on := 34, ground := Go.Ground.phase }, { on := 35, ground := Go.Ground.phase }, { on := 36, ground := Go.Ground.phase }, { on := 37, ground := Go.Ground.phase }, { on := 38, ground := Go.Ground.phase }, { on := 39, ground := Go.Ground.phase }, { on := 40, ground := Go.Ground.phase }, { on := 41, ground := Go.Ground.phase }, { on := 42, ground := Go.Ground.phase }, { on := 43, ground := Go.Ground.phase }, { on := 44, ground := Go.Ground.phase }, { on := 45, ground := Go.Ground.phase }, { on := 46, ground := Go.Ground.phase }, { on := 47, ground := Go.Ground.phase }, { on := 48, ground := Go.Ground.phase }, { on := 49, ground := Go.Ground.phase }, { on := 50, ground := Go.Ground.phase }, { on := 51, ground := Go.Ground.phase }, { on := 52, ground := Go.Ground.phase }, { on := 53, ground := Go.Ground.phase }, { on := 54, ground := Go.Ground.phase }, { on := 55, ground := Go.Ground.phase }, { on := 56, ground := Go.Ground.phase }, { on := 57, ground := Go.Ground.phase }, { on := 58, ground := Go.Ground.phase }, { on := 59, ground := Go.Ground.phase }], guard := none }) (v := ?v155) rfl (by as_aux_lemma => kernel_rfl) (by as_aux_lemma => kernel_rfl) (by as_aux_lemma => kernel_rfl) (fun _ _ _ h => h) (Or.inl ⟨by kernel_rfl, ?h155⟩) (by assumption) ?r155
        case h155 => (intro w hSw; (try dsimp only at hSw); go_simp; try with_reducible rfl)
        try simp only [Act.put, List.setIfInBounds_toArray, List.set_cons_zero, List.set_cons_succ]
        refine wpAnyH_done (by as_aux_lemma => kernel_rfl) ?_ _
        go_wp2
        go_ret
        exact ⟨rfl, (LF _ hHeld).bel⟩
end Go.Proofs.YtgeliikfgnkppaaGreatDoor
