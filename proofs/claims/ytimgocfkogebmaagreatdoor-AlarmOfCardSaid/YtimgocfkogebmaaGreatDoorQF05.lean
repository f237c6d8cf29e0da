/-
  Words and walks under the law's proof.
-/
import Derived.Test.YtimgocfkogebmaaGreatDoorQF04
namespace Go.Proofs.YtimgocfkogebmaaGreatDoor
open Go.RowKit
set_option linter.unusedVariables false
set_option linter.unusedSimpArgs false
theorem mat_at (n i j : Nat) (hn : n ≤ 8) (hi : i ≤ n) (hj : j ≤ n) (a : Option Addr) (m c : Nat) (w : World) :
    Calls Tryz.prog 221 #[.agg #[.int .i64 n, .slice a m c], .int .i64 i, .int .i64 j] w (Gives (.int .i64 ((i * (n + 1) + j : Nat) : Int)) w) := by
  obtain ⟨p, q, u1, u2, u3, hq, -, -, -, -⟩ := place_wraps hn hi hj
  rw [← hq]
  have hB := Lib.hid (box_below w #[.int .i64 n, .slice a m c] 201)
  clear hq
  go_enter Tryz.func221, Tryz.ntmps221
  go_wp2
  go_ret
  exact ⟨rfl, hB.out⟩
def MatS (s g cap base : Nat) (R : List Int) (w : World) (e : Ending) (w' : World) : Prop :=
  e = .returned (.tuple #[]) ∧ w'.ownsRow base 3 1 (.slice (some ⟨g, 0, none⟩) s cap) s (nums .i64 R) ∧ BelowE [g] w.heap.size w w'
def limL (n : Nat) (l : List Int) (i j : Nat) (c : Int) : List Int := l.set (i * (n + 1) + j) (min (l.getD (i * (n + 1) + j) 0) c)
theorem limL_len (n : Nat) (l : List Int) (i j : Nat) (c : Int) : (limL n l i j c).length = l.length := by simp [limL]
set_option maxRecDepth 100000 in
set_option maxHeartbeats 1000000 in
theorem mlimit_any (n : Nat) (hn : n ≤ 8) (i j : Nat) (hi : i ≤ n) (hj : j ≤ n) (c : Int) (g cap base : Nat) (l : List Int) (hl : l.length = sz n) (w : World)
    (hown : w.ownsRow base 3 1 (.slice (some ⟨g, 0, none⟩) (sz n) cap) (sz n) (nums .i64 l)) :
    Calls Tryz.prog 214 #[.agg #[.int .i64 n, .slice (some ⟨g, 0, none⟩) (sz n) cap], .agg #[.int .i64 i, .int .i64 j, .int .i64 c]] w (MatS (sz n) g cap base (limL n l i j c) w) := by
  have hs81 := sz_le hn
  have hq : i * (n + 1) + j < sz n := place_lt hi hj
  have hat := Lib.hid (fun W => mat_at n i j hn hi hj (some ⟨g, 0, none⟩) (sz n) cap W)
  have hR : limL n l i j c = l.set (i * (n + 1) + j) (min (l.getD (i * (n + 1) + j) 0) c) := rfl
  generalize limL n l i j c = R at *
  generalize i * (n + 1) + j = q at *
  generalize sz n = s at *
  have hsi : (q : Int) < (s : Int) := by omega
  have hgl := own_at hown (i := q) (by omega)
  have hglt : g < w.heap.size := World.block_lt_of_cell? _ _ hgl
  obtain ⟨W1, hW1⟩ : ∃ W1, W1 = (w.alloc (.cells #[.int .i64 n, .slice (some ⟨g, 0, none⟩) s cap] 201)).alloc (.cells #[.int .i64 i, .int .i64 j, .int .i64 c] 196) := ⟨_, rfl⟩
  have hB : Below w.heap.size w W1 := by rw [hW1]; exact box2_below _ _ _ _ _
  have Z1 : Holds W1 w.heap.size 201 #[.int .i64 n, .slice (some ⟨g, 0, none⟩) s cap] := by rw [hW1]; exact (Holds.new w _ _).alloc _
  have Z2 : Holds W1 (w.heap.size + 1) 196 #[.int .i64 i, .int .i64 j, .int .i64 c] := by
    rw [hW1]
    have := Holds.new (w.alloc (.cells #[.int .i64 n, .slice (some ⟨g, 0, none⟩) s cap] 201)) 196 #[.int .i64 i, .int .i64 j, .int .i64 c]
    simpa using this
  have hR' := Lib.hid hR
  clear hR
  have O1 := Lib.hid (own_below hown hB)
  have hW1' := Lib.hid hW1
  have hB' := Lib.hid hB
  have Z1' := Lib.hid Z1
  have Z2' := Lib.hid Z2
  have hl' := Lib.hid hl
  have hglt' := Lib.hid hglt
  clear hW1 hB Z1 Z2 hown hl hgl hglt hq
  go_enter Tryz.func214, Tryz.ntmps214
  go_wp2_with fail
  rw [← hW1'.out]
  refine (hat.out _).mono ?_
  rintro e w2 ⟨rfl, b2⟩
  have O2 := Lib.hid (own_below O1.out b2)
  have Y1 := Lib.hid (Z1'.out.below b2 Z1'.out.lt)
  have Y2 := Lib.hid (Z2'.out.below b2 Z2'.out.lt)
  have B2' := Lib.hid (hB'.out.trans (b2.mono hB'.out.size))
  have m0 := own_at O2.out (i := q) (by have := hl'.out; omega)
  have mf := O2.out.frozenAt q
  have hx0 : w.heap.size ∉ [g] := by have := hglt'.out; simp; omega
  have hx1 : w.heap.size + 1 ∉ [g] := by have := hglt'.out; simp; omega
  have f1 : ∀ W, BelowE [g] w2.heap.size w2 W → W.cell? ⟨w.heap.size, 1, none⟩ = some (.slice (some ⟨g, 0, none⟩) s cap) := fun W hW => (Y1.out.belowE hW Y1.out.lt hx0).cell 1
  have f2 : ∀ W, BelowE [g] w2.heap.size w2 W → W.cell? ⟨w.heap.size + 1, 2, none⟩ = some (.int .i64 c) := fun W hW => (Y2.out.belowE hW Y2.out.lt hx1).cell 2
  have hnx : Hid (∀ z, z = min (l.getD q 0) c → MatS s g cap base R w (.returned (.tuple #[])) (w2.setCell ⟨g, q, none⟩ (.int .i64 z)).drew) := Lib.hid (by
    rintro z rfl
    rw [hR'.out]
    exact ⟨rfl, own_put O2.out q _, ((BelowE.of B2'.out).setIn (p := ⟨g, q, none⟩) (by simp) _).drew⟩)
  clear b2 O1 O2 Z1' Z2' Y1 Y2 B2' hat hx0 hx1 hl' hglt' hR'
  generalize l.getD q 0 = x at *
  by_cases hcx : c < x
  · have hfin := Lib.hid (hnx.out c (by omega))
    clear hnx
    go_wp2
    refine wp_drawn_on (fun W => BelowE [g] w2.heap.size w2 W) (by kernel_rfl) ((BelowE.refl _ _ _).drew) (fun hHeld => ?_)
    refine wT 0 (v := ?v1) rfl (by kernel_rfl) (fun _ _ _ h => h) ?h1 (by assumption) ?r1
    case h1 => (intro w hSw; (try dsimp only at hSw); go_simp; try with_reducible rfl)
    refine wT 1 (v := ?v2) rfl (by kernel_rfl) (fun _ _ _ h => h) ?h2 (by assumption) ?r2
    case h2 => (intro w hSw; (try dsimp only at hSw); go_simp; try with_reducible rfl)
    refine wT 2 (v := ?v3) rfl (by kernel_rfl) (fun _ _ _ h => h) ?h3 (by assumption) ?r3
    case h3 => (intro w hSw; (try dsimp only at hSw); go_simp; try with_reducible rfl)
    refine wT 3 (v := ?v4) rfl (by kernel_rfl) (fun _ _ _ h => h) ?h4 (by assumption) ?r4
    case h4 => (intro w hSw; (try dsimp only at hSw); go_simp; try with_reducible rfl)
    refine wT 4 (v := ?v5) rfl (by kernel_rfl) (fun _ _ _ h => h) ?h5 (by assumption) ?r5
    case h5 => (intro w hSw; (try dsimp only at hSw); go_simp; try with_reducible rfl)
    refine wT 5 (v := ?v6) rfl (by kernel_rfl) (fun _ _ _ h => h) ?h6 (by assumption) ?r6
    case h6 => (intro w hSw; (try dsimp only at hSw); go_simp; try with_reducible rfl)
    refine wT 6 (v := ?v7) rfl (by kernel_rfl) (fun _ _ _ h => h) ?h7 (by assumption) ?r7
    case h7 => (intro w hSw; (try dsimp only at hSw); go_simp; try with_reducible rfl)
    refine wT 8 (v := ?v8) rfl (by kernel_rfl) (fun _ _ _ h => h) ?h8 (by assumption) ?r8
    case h8 => (intro w hSw; (try dsimp only at hSw); go_simp; try with_reducible rfl)
    refine wT 9 (v := ?v9) rfl (by kernel_rfl) (fun _ _ _ h => h) ?h9 (by assumption) ?r9
    case h9 => (intro w hSw; (try dsimp only at hSw); go_simp; try with_reducible rfl)
    try simp only [Act.put, List.setIfInBounds_toArray, List.set_cons_zero, List.set_cons_succ]
    refine wpAnyH_ready (rs := [7]) (by kernel_rfl) (by simp) ?_
    refine AllReadyH.cons (o := ⟨_, _, _, _, _, _⟩) rfl (fun K hK => ?_) AllReadyH.nil
    go_simp
    refine hK.out _ _ (hHeld) (fun hHeld => ?_)
    clear hK K
    refine wT 10 (v := ?v10) rfl (by kernel_rfl) (fun _ _ _ h => h) ?h10 (by assumption) ?r10
    case h10 => (intro w hSw; (try dsimp only at hSw); go_simp; try with_reducible rfl)
    refine wT 11 (v := ?v11) rfl (by kernel_rfl) (fun _ _ _ h => h) ?h11 (by assumption) ?r11
    case h11 => (intro w hSw; (try dsimp only at hSw); go_simp; try with_reducible rfl)
    try simp only [Act.put, List.setIfInBounds_toArray, List.set_cons_zero, List.set_cons_succ]
    refine wpAnyH_ready (rs := [12]) (by kernel_rfl) (by simp) ?_
    refine AllReadyH.cons (o := ⟨_, _, _, _, _, _⟩) rfl (fun K hK => ?_) AllReadyH.nil
    go_simp
    refine hK.out _ _ (hHeld.setIn (p := ⟨g, q, none⟩) (by simp) _) (fun hHeld => ?_)
    clear hK K
    try simp only [Act.put, List.setIfInBounds_toArray, List.set_cons_zero, List.set_cons_succ]
    refine wpAnyH_done (by kernel_rfl) ?_ _
    go_wp2
    go_end0
    exact hfin.out
  · have hfin := Lib.hid (hnx.out x (by omega))
    clear hnx
    go_wp2
    refine wp_drawn_on (fun W => BelowE [g] w2.heap.size w2 W) (by kernel_rfl) ((BelowE.refl _ _ _).drew) (fun hHeld => ?_)
    refine wT 0 (v := ?v12) rfl (by kernel_rfl) (fun _ _ _ h => h) ?h12 (by assumption) ?r12
    case h12 => (intro w hSw; (try dsimp only at hSw); go_simp; try with_reducible rfl)
    refine wT 1 (v := ?v13) rfl (by kernel_rfl) (fun _ _ _ h => h) ?h13 (by assumption) ?r13
    case h13 => (intro w hSw; (try dsimp only at hSw); go_simp; try with_reducible rfl)
    refine wT 2 (v := ?v14) rfl (by kernel_rfl) (fun _ _ _ h => h) ?h14 (by assumption) ?r14
    case h14 => (intro w hSw; (try dsimp only at hSw); go_simp; try with_reducible rfl)
    refine wT 3 (v := ?v15) rfl (by kernel_rfl) (fun _ _ _ h => h) ?h15 (by assumption) ?r15
    case h15 => (intro w hSw; (try dsimp only at hSw); go_simp; try with_reducible rfl)
    refine wT 4 (v := ?v16) rfl (by kernel_rfl) (fun _ _ _ h => h) ?h16 (by assumption) ?r16
    case h16 => (intro w hSw; (try dsimp only at hSw); go_simp; try with_reducible rfl)
    refine wT 5 (v := ?v17) rfl (by kernel_rfl) (fun _ _ _ h => h) ?h17 (by assumption) ?r17
    case h17 => (intro w hSw; (try dsimp only at hSw); go_simp; try with_reducible rfl)
    refine wT 6 (v := ?v18) rfl (by kernel_rfl) (fun _ _ _ h => h) ?h18 (by assumption) ?r18
    case h18 => (intro w hSw; (try dsimp only at hSw); go_simp; try with_reducible rfl)
    refine wT 8 (v := ?v19) rfl (by kernel_rfl) (fun _ _ _ h => h) ?h19 (by assumption) ?r19
    case h19 => (intro w hSw; (try dsimp only at hSw); go_simp; try with_reducible rfl)
    refine wT 9 (v := ?v20) rfl (by kernel_rfl) (fun _ _ _ h => h) ?h20 (by assumption) ?r20
    case h20 => (intro w hSw; (try dsimp only at hSw); go_simp; try with_reducible rfl)
    try simp only [Act.put, List.setIfInBounds_toArray, List.set_cons_zero, List.set_cons_succ]
    refine wpAnyH_ready (rs := [7]) (by kernel_rfl) (by simp) ?_
    refine AllReadyH.cons (o := ⟨_, _, _, _, _, _⟩) rfl (fun K hK => ?_) AllReadyH.nil
    go_simp
    refine hK.out _ _ (hHeld) (fun hHeld => ?_)
    clear hK K
    refine wT 10 (v := ?v21) rfl (by kernel_rfl) (fun _ _ _ h => h) ?h21 (by assumption) ?r21
    case h21 => (intro w hSw; (try dsimp only at hSw); go_simp; try with_reducible rfl)
    refine wT 11 (v := ?v22) rfl (by kernel_rfl) (fun _ _ _ h => h) ?h22 (by assumption) ?r22
    case h22 => (intro w hSw; (try dsimp only at hSw); go_simp; try with_reducible rfl)
    try simp only [Act.put, List.setIfInBounds_toArray, List.set_cons_zero, List.set_cons_succ]
    refine wpAnyH_ready (rs := [12]) (by kernel_rfl) (by simp) ?_
    refine AllReadyH.cons (o := ⟨_, _, _, _, _, _⟩) rfl (fun K hK => ?_) AllReadyH.nil
    go_simp
    refine hK.out _ _ (hHeld.setIn (p := ⟨g, q, none⟩) (by simp) _) (fun hHeld => ?_)
    clear hK K
    try simp only [Act.put, List.setIfInBounds_toArray, List.set_cons_zero, List.set_cons_succ]
    refine wpAnyH_done (by kernel_rfl) ?_ _
    go_wp2
    go_end0
    exact hfin.out
def farPair (l : List Int) (p q : Nat) : List Int := (l.set p 4398046511104).set q 4398046511104
theorem fforget_any (g cap base s p q : Nat) (l : List Int) (hl : l.length = s) (hp : p < s) (hq : q < s) (w : World)
    (hown : w.ownsRow base 3 1 (.slice (some ⟨g, 0, none⟩) s cap) s (nums .i64 l)) :
    Calls Tryz.prog 220 #[.pointer (some ⟨g, p, none⟩), .pointer (some ⟨g, q, none⟩)] w (MatS s g cap base (farPair l p q) w) := by
  have o1 := own_put hown p 4398046511104
  have o2 := own_put o1 q 4398046511104
  have m0 := own_at hown (i := p) (by omega)
  have mf := hown.frozenAt p
  have m1 := own_at o1 (i := q) (by rw [List.length_set]; omega)
  have mg := o1.frozenAt q
  have hfin : Hid (MatS s g cap base (farPair l p q) w (.returned (.tuple #[])) ((w.setCell ⟨g, p, none⟩ (.int .i64 4398046511104)).setCell ⟨g, q, none⟩ (.int .i64 4398046511104))) := Lib.hid ⟨rfl, o2, ((BelowE.refl [g] w.heap.size w).setIn (p := ⟨g, p, none⟩) (by simp) (.int .i64 4398046511104)).setIn (p := ⟨g, q, none⟩) (by simp) (.int .i64 4398046511104)⟩
  clear o1 o2 hown hl hp hq
  generalize farPair l p q = R at *
  generalize (l.set p 4398046511104).getD q 0 = y at *
  generalize l.getD p 0 = x at *
  go_enter Tryz.func220, Tryz.ntmps220
  go_wp2
  go_end0
  exact hfin.out
def movPair (l : List Int) (p q : Nat) (c : Int) : List Int := (l.set p (l.getD p 0 + c)).set q (l.getD q 0 - c)
set_option maxRecDepth 100000 in
set_option maxHeartbeats 1000000 in
theorem fmove_any (g cap base s p q gw : Nat) (i0 j0 : Int) (c : Int) (hc : -4398046511104 ≤ c ∧ c ≤ 4398046511104) (l : List Int) (hl : l.length = s) (hp : p < s) (hq : q < s) (hpq : p ≠ q) (hlp : -9000000000000 ≤ l.getD p 0 ∧ l.getD p 0 ≤ 9000000000000) (hlq : -9000000000000 ≤ l.getD q 0 ∧ l.getD q 0 ≤ 9000000000000) (w : World)
    (hw : Holds w gw 196 #[.int .i64 i0, .int .i64 j0, .int .i64 c]) (hgw : gw ≠ g)
    (hown : w.ownsRow base 3 1 (.slice (some ⟨g, 0, none⟩) s cap) s (nums .i64 l)) :
    Calls Tryz.prog 219 #[.pointer (some ⟨g, p, none⟩), .pointer (some ⟨g, q, none⟩), .pointer (some ⟨gw, 0, none⟩)] w (MatS s g cap base (movPair l p q c) w) := by
  have o1 := own_put hown p (l.getD p 0 + c)
  have o2 := own_put o1 q (l.getD q 0 - c)
  have m0 := own_at hown (i := p) (by omega)
  have m1 := own_at hown (i := q) (by omega)
  have mf := hown.frozenAt p
  have m2 := own_at o1 (i := q) (by rw [List.length_set]; omega)
  have mg := o1.frozenAt q
  have hglt := World.block_lt_of_cell? _ _ m0
  have hfin : Hid (MatS s g cap base (movPair l p q c) w (.returned (.tuple #[])) ((w.setCell ⟨g, p, none⟩ (.int .i64 (l.getD p 0 + c))).setCell ⟨g, q, none⟩ (.int .i64 (l.getD q 0 - c))).drew) := Lib.hid ⟨rfl, o2, (((BelowE.refl [g] w.heap.size w).setIn (p := ⟨g, p, none⟩) (by simp) (.int .i64 (l.getD p 0 + c))).setIn (p := ⟨g, q, none⟩) (by simp) (.int .i64 (l.getD q 0 - c))).drew⟩
  have f2 : ∀ W, BelowE [g] w.heap.size w W → W.cell? ⟨gw, 2, none⟩ = some (.int .i64 c) := fun W hW => (hw.belowE hW hw.lt (by simpa using hgw)).cell 2
  clear o1 o2 hown hl hp hq hw hgw hglt
  generalize movPair l p q c = R at *
  generalize (l.set p (l.getD p 0 + c)).getD q 0 = z at *
  generalize l.getD p 0 = x at *
  generalize l.getD q 0 = y at *
  have hwa : IntKind.i64.wrap (x + c) = x + c := wrap_small (by omega) (by omega)
  have hwb : IntKind.i64.wrap (y - c) = y - c := wrap_small (by omega) (by omega)
  go_enter Tryz.func219, Tryz.ntmps219
  go_wp2
  refine wp_drawn_on (fun W => BelowE [g] w.heap.size w W) (by kernel_rfl) ((BelowE.refl _ _ _).drew) (fun hHeld => ?_)
  refine wT 0 (v := ?v23) rfl (by kernel_rfl) (fun _ _ _ h => h) ?h23 (by assumption) ?r23
  case h23 => (intro w hSw; (try dsimp only at hSw); go_simp; try with_reducible rfl)
  refine wT 1 (v := ?v24) rfl (by kernel_rfl) (fun _ _ _ h => h) ?h24 (by assumption) ?r24
  case h24 => (intro w hSw; (try dsimp only at hSw); go_simp; try with_reducible rfl)
  refine wT 2 (v := ?v25) rfl (by kernel_rfl) (fun _ _ _ h => h) ?h25 (by assumption) ?r25
  case h25 => (intro w hSw; (try dsimp only at hSw); go_simp; try with_reducible rfl)
  refine wT 3 (v := ?v26) rfl (by kernel_rfl) (fun _ _ _ h => h) ?h26 (by assumption) ?r26
  case h26 => (intro w hSw; (try dsimp only at hSw); go_simp; try with_reducible rfl)
  refine wT 5 (v := ?v27) rfl (by kernel_rfl) (fun _ _ _ h => h) ?h27 (by assumption) ?r27
  case h27 => (intro w hSw; (try dsimp only at hSw); go_simp; try with_reducible rfl)
  refine wT 6 (v := ?v28) rfl (by kernel_rfl) (fun _ _ _ h => h) ?h28 (by assumption) ?r28
  case h28 => (intro w hSw; (try dsimp only at hSw); go_simp; try with_reducible rfl)
  refine wT 8 (v := ?v29) rfl (by kernel_rfl) (fun _ _ _ h => h) ?h29 (by assumption) ?r29
  case h29 => (intro w hSw; (try dsimp only at hSw); go_simp; try with_reducible rfl)
  refine wT 9 (v := ?v30) rfl (by kernel_rfl) (fun _ _ _ h => h) ?h30 (by assumption) ?r30
  case h30 => (intro w hSw; (try dsimp only at hSw); go_simp; try with_reducible rfl)
  refine wT 11 (v := ?v31) rfl (by kernel_rfl) (fun _ _ _ h => h) ?h31 (by assumption) ?r31
  case h31 => (intro w hSw; (try dsimp only at hSw); go_simp; try with_reducible rfl)
  refine wT 12 (v := ?v32) rfl (by kernel_rfl) (fun _ _ _ h => h) ?h32 (by assumption) ?r32
  case h32 => (intro w hSw; (try dsimp only at hSw); go_simp; try with_reducible rfl)
  try simp only [Act.put, List.setIfInBounds_toArray, List.set_cons_zero, List.set_cons_succ]
  refine wpAnyH_ready (rs := [4, 10]) (by kernel_rfl) (by simp) ?_
  refine AllReadyH.cons (o := ⟨_, _, _, _, _, _⟩) rfl (fun K hK => ?_) (AllReadyH.cons (o := ⟨_, _, _, _, _, _⟩) rfl (fun K hK => ?_) AllReadyH.nil)
  · go_simp
    refine hK.out _ _ (hHeld) (fun hHeld => ?_)
    clear hK K
    refine wT 7 (v := ?v33) rfl (by kernel_rfl) (fun _ _ _ h => h) ?h33 (by assumption) ?r33
    case h33 => (intro w hSw; (try dsimp only at hSw); go_simp; try with_reducible rfl)
    try simp only [Act.put, List.setIfInBounds_toArray, List.set_cons_zero, List.set_cons_succ]
    refine wpAnyH_ready (rs := [10]) (by kernel_rfl) (by simp) ?_
    refine AllReadyH.cons (o := ⟨_, _, _, _, _, _⟩) rfl (fun K hK => ?_) AllReadyH.nil
    go_simp
    refine hK.out _ _ (hHeld) (fun hHeld => ?_)
    clear hK K
    refine wT 13 (v := ?v34) rfl (by kernel_rfl) (fun _ _ _ h => h) ?h34 (by assumption) ?r34
    case h34 => (intro w hSw; (try dsimp only at hSw); go_simp; try with_reducible rfl)
    refine wT 14 (v := ?v35) rfl (by kernel_rfl) (fun _ _ _ h => h) ?h35 (by assumption) ?r35
    case h35 => (intro w hSw; (try dsimp only at hSw); go_simp; try with_reducible rfl)
    try simp only [Act.put, List.setIfInBounds_toArray, List.set_cons_zero, List.set_cons_succ]
    refine wpAnyH_ready (rs := [15]) (by kernel_rfl) (by simp) ?_
    refine AllReadyH.cons (o := ⟨_, _, _, _, _, _⟩) rfl (fun K hK => ?_) AllReadyH.nil
    go_simp
    refine hK.out _ _ (hHeld.setIn (p := ⟨g, p, none⟩) (by simp) _) (fun hHeld => ?_)
    clear hK K
    refine wT 16 (v := ?v36) rfl (by kernel_rfl) (fun _ _ _ h => h) ?h36 (by assumption) ?r36
    case h36 => (intro w hSw; (try dsimp only at hSw); go_simp; try with_reducible rfl)
    try simp only [Act.put, List.setIfInBounds_toArray, List.set_cons_zero, List.set_cons_succ]
    refine wpAnyH_ready (rs := [17]) (by kernel_rfl) (by simp) ?_
    refine AllReadyH.cons (o := ⟨_, _, _, _, _, _⟩) rfl (fun K hK => ?_) AllReadyH.nil
    go_simp
    refine hK.out _ _ (hHeld.setIn (p := ⟨g, q, none⟩) (by simp) _) (fun hHeld => ?_)
    clear hK K
    try simp only [Act.put, List.setIfInBounds_toArray, List.set_cons_zero, List.set_cons_succ]
    refine wpAnyH_done (by kernel_rfl) ?_ _
    go_wp2
    go_end0
    exact hfin.out
  · go_simp
    refine hK.out _ _ (hHeld) (fun hHeld => ?_)
    clear hK K
    refine wT 13 (v := ?v37) rfl (by kernel_rfl) (fun _ _ _ h => h) ?h37 (by assumption) ?r37
    case h37 => (intro w hSw; (try dsimp only at hSw); go_simp; try with_reducible rfl)
    try simp only [Act.put, List.setIfInBounds_toArray, List.set_cons_zero, List.set_cons_succ]
    refine wpAnyH_ready (rs := [4]) (by kernel_rfl) (by simp) ?_
    refine AllReadyH.cons (o := ⟨_, _, _, _, _, _⟩) rfl (fun K hK => ?_) AllReadyH.nil
    go_simp
    refine hK.out _ _ (hHeld) (fun hHeld => ?_)
    clear hK K
    refine wT 7 (v := ?v38) rfl (by kernel_rfl) (fun _ _ _ h => h) ?h38 (by assumption) ?r38
    case h38 => (intro w hSw; (try dsimp only at hSw); go_simp; try with_reducible rfl)
    refine wT 14 (v := ?v39) rfl (by kernel_rfl) (fun _ _ _ h => h) ?h39 (by assumption) ?r39
    case h39 => (intro w hSw; (try dsimp only at hSw); go_simp; try with_reducible rfl)
    try simp only [Act.put, List.setIfInBounds_toArray, List.set_cons_zero, List.set_cons_succ]
    refine wpAnyH_ready (rs := [15]) (by kernel_rfl) (by simp) ?_
    refine AllReadyH.cons (o := ⟨_, _, _, _, _, _⟩) rfl (fun K hK => ?_) AllReadyH.nil
    go_simp
    refine hK.out _ _ (hHeld.setIn (p := ⟨g, p, none⟩) (by simp) _) (fun hHeld => ?_)
    clear hK K
    refine wT 16 (v := ?v40) rfl (by kernel_rfl) (fun _ _ _ h => h) ?h40 (by assumption) ?r40
    case h40 => (intro w hSw; (try dsimp only at hSw); go_simp; try with_reducible rfl)
    try simp only [Act.put, List.setIfInBounds_toArray, List.set_cons_zero, List.set_cons_succ]
    refine wpAnyH_ready (rs := [17]) (by kernel_rfl) (by simp) ?_
    refine AllReadyH.cons (o := ⟨_, _, _, _, _, _⟩) rfl (fun K hK => ?_) AllReadyH.nil
    go_simp
    refine hK.out _ _ (hHeld.setIn (p := ⟨g, q, none⟩) (by simp) _) (fun hHeld => ?_)
    clear hK K
    try simp only [Act.put, List.setIfInBounds_toArray, List.set_cons_zero, List.set_cons_succ]
    refine wpAnyH_done (by kernel_rfl) ?_ _
    go_wp2
    go_end0
    exact hfin.out
end Go.Proofs.YtimgocfkogebmaaGreatDoor
namespace Go.Proofs.YtimgocfkogebmaaGreatDoor
open Go.RowKit
set_option linter.unusedVariables false
set_option linter.unusedSimpArgs false
def pairL (F G : Int → Int) (l : List Int) (p q : Nat) : List Int := (l.set p (F (l.getD p 0))).set q (G (l.getD q 0))
theorem far_pair (l : List Int) (p q : Nat) : farPair l p q = pairL (fun _ => 4398046511104) (fun _ => 4398046511104) l p q := rfl
theorem mov_pair (l : List Int) (p q : Nat) (c : Int) : movPair l p q c = pairL (fun x => x + c) (fun x => x - c) l p q := rfl
theorem pairL_len (F G : Int → Int) (l : List Int) (p q : Nat) : (pairL F G l p q).length = l.length := by simp [pairL]
def othK (F G : Int → Int) (n i : Nat) (l : List Int) : Nat → List Int
  | 0 => l
  | k + 1 => if k = i then othK F G n i l k else pairL F G (othK F G n i l k) (i * (n + 1) + k) (k * (n + 1) + i)
theorem othK_len (F G : Int → Int) (n i : Nat) (l : List Int) (k : Nat) : (othK F G n i l k).length = l.length := by
  induction k with
  | zero => rfl
  | succ k ih =>
    simp only [othK]
    split
    · exact ih
    · rw [pairL_len, ih]
theorem othK_at {F G : Int → Int} {n i : Nat} (hi : i ≤ n) {l : List Int} (hl : l.length = (n + 1) * (n + 1)) : ∀ k, k ≤ n + 1 → ∀ a b, a ≤ n → b ≤ n →
    mat n (othK F G n i l k) a b = if a = i ∧ b ≠ i ∧ b < k then F (mat n l a b) else if b = i ∧ a ≠ i ∧ a < k then G (mat n l a b) else mat n l a b := by
  intro k
  induction k with
  | zero =>
    intro _ a b _ _
    rw [if_neg (by omega), if_neg (by omega)]
    rfl
  | succ k ih =>
    intro hk a b ha hb
    have h1 := ih (by omega)
    have hkn : k ≤ n := by omega
    simp only [othK]
    by_cases hki : k = i
    · rw [if_pos hki, h1 a b ha hb]
      by_cases c1 : a = i ∧ b ≠ i ∧ b < k
      · rw [if_pos c1, if_pos (show a = i ∧ b ≠ i ∧ b < k + 1 by omega)]
      · by_cases c2 : b = i ∧ a ≠ i ∧ a < k
        · rw [if_neg c1, if_pos c2, if_neg (show ¬ (a = i ∧ b ≠ i ∧ b < k + 1) by omega), if_pos (show b = i ∧ a ≠ i ∧ a < k + 1 by omega)]
        · rw [if_neg c1, if_neg c2, if_neg (show ¬ (a = i ∧ b ≠ i ∧ b < k + 1) by omega), if_neg (show ¬ (b = i ∧ a ≠ i ∧ a < k + 1) by omega)]
    · rw [if_neg hki]
      unfold pairL
      have hlk : (othK F G n i l k).length = (n + 1) * (n + 1) := by rw [othK_len, hl]
      rw [mat_set (by rw [List.length_set]; exact hlk) (place_lt hkn hi) _ ha hb, mat_set hlk (place_lt hi hkn) _ ha hb, place_div hi, place_mod hi, place_div hkn, place_mod hkn]
      have e1 : (othK F G n i l k).getD (i * (n + 1) + k) 0 = mat n l i k := by
        have := h1 i k hi hkn
        rw [if_neg (by omega), if_neg (by omega)] at this
        exact this
      have e2 : (othK F G n i l k).getD (k * (n + 1) + i) 0 = mat n l k i := by
        have := h1 k i hkn hi
        rw [if_neg (by omega), if_neg (by omega)] at this
        exact this
      rw [e1, e2, h1 a b ha hb]
      by_cases c1 : a = k ∧ b = i
      · rw [if_pos c1, if_neg (show ¬ (a = i ∧ b ≠ i ∧ b < k + 1) by omega), if_pos (show b = i ∧ a ≠ i ∧ a < k + 1 by omega), c1.1, c1.2]
      · rw [if_neg c1]
        by_cases c2 : a = i ∧ b = k
        · rw [if_pos c2, if_pos (show a = i ∧ b ≠ i ∧ b < k + 1 by omega), c2.1, c2.2]
        · rw [if_neg c2]
          by_cases c3 : a = i ∧ b ≠ i ∧ b < k
          · rw [if_pos c3, if_pos (show a = i ∧ b ≠ i ∧ b < k + 1 by omega)]
          · by_cases c4 : b = i ∧ a ≠ i ∧ a < k
            · rw [if_neg c3, if_pos c4, if_neg (show ¬ (a = i ∧ b ≠ i ∧ b < k + 1) by omega), if_pos (show b = i ∧ a ≠ i ∧ a < k + 1 by omega)]
            · rw [if_neg c3, if_neg c4, if_neg (show ¬ (a = i ∧ b ≠ i ∧ b < k + 1) by omega), if_neg (show ¬ (b = i ∧ a ≠ i ∧ a < k + 1) by omega)]
theorem othK_places {F G : Int → Int} {n i k : Nat} (hi : i ≤ n) (hk : k ≤ n) (hki : k ≠ i) {l : List Int} (hl : l.length = (n + 1) * (n + 1)) : (othK F G n i l k).getD (i * (n + 1) + k) 0 = mat n l i k ∧ (othK F G n i l k).getD (k * (n + 1) + i) 0 = mat n l k i := by
  have h1 := othK_at (F := F) (G := G) hi hl k (by omega)
  constructor
  · have := h1 i k hi hk
    rw [if_neg (by omega), if_neg (by omega)] at this
    exact this
  · have := h1 k i hk hi
    rw [if_neg (by omega), if_neg (by omega)] at this
    exact this
def forL (n : Nat) (l : List Int) (i : Nat) : List Int := othK (fun _ => 4398046511104) (fun _ => 4398046511104) n i l (n + 1)
def movL (n : Nat) (l : List Int) (i : Nat) (c : Int) : List Int := othK (fun x => x + c) (fun x => x - c) n i l (n + 1)
set_option maxRecDepth 100000 in
set_option maxHeartbeats 2000000 in
theorem others_far (n : Nat) (hn : n ≤ 8) (i : Nat) (hi : i ≤ n) (g cap base : Nat) (l : List Int) (hl : l.length = sz n) (w : World) 
    (hown : w.ownsRow base 3 1 (.slice (some ⟨g, 0, none⟩) (sz n) cap) (sz n) (nums .i64 l)) :
    Calls Tryz.prog 218 #[.agg #[.int .i64 n, .slice (some ⟨g, 0, none⟩) (sz n) cap], .int .i64 i, .func (.func 220) #[] #[]] w (MatS (sz n) g cap base (forL n l i) w) := by
  have hs81 := sz_le hn
  have hni : (n : Int) ≤ 8 := by omega
  have v1 : IntKind.i64.wrap ((n : Int) + 1) = (n : Int) + 1 := wrap_small (by omega) (by omega)
  have hat := Lib.hid (fun a b W (h1 : a ≤ n) (h2 : b ≤ n) => mat_at n a b hn h1 h2 (some ⟨g, 0, none⟩) (sz n) cap W)
  have hlen : Hid (∀ k, (othK (fun _ => 4398046511104) (fun _ => 4398046511104) n i l k).length = sz n) := Lib.hid (fun k => by rw [othK_len, hl])
  have hfin : Hid (forL n l i = othK (fun _ => 4398046511104) (fun _ => 4398046511104) n i l (n + 1)) := Lib.hid rfl
  have hstep : Hid (∀ k, othK (fun _ => 4398046511104) (fun _ => 4398046511104) n i l (k + 1) = if k = i then othK (fun _ => 4398046511104) (fun _ => 4398046511104) n i l k else pairL (fun _ => 4398046511104) (fun _ => 4398046511104) (othK (fun _ => 4398046511104) (fun _ => 4398046511104) n i l k) (i * (n + 1) + k) (k * (n + 1) + i)) := Lib.hid (fun k => rfl)
  have hpl : Hid (∀ k, k ≤ n → i * (n + 1) + k < sz n ∧ k * (n + 1) + i < sz n) := Lib.hid (fun k hk => ⟨place_lt hi hk, place_lt hk hi⟩)
  have hst : Hid (othK (fun _ => 4398046511104) (fun _ => 4398046511104) n i l 0 = l) := Lib.hid rfl
  generalize forL n l i = R at *
  generalize hQ : othK (fun _ => 4398046511104) (fun _ => 4398046511104) n i l = Q at *
  clear hQ
  generalize sz n = s at *
  have hglt := (hown.lt g rfl).2
  obtain ⟨W1, hW1⟩ : ∃ W1, W1 = w.alloc (.cells #[.int .i64 n, .slice (some ⟨g, 0, none⟩) s cap] 201) := ⟨_, rfl⟩
  have hB : Below w.heap.size w W1 := by rw [hW1]; exact box_below _ _ _
  have Z1 : Holds W1 w.heap.size 201 #[.int .i64 n, .slice (some ⟨g, 0, none⟩) s cap] := by rw [hW1]; exact Holds.new w _ _
  have O1 : Hid (W1.ownsRow base 3 1 (.slice (some ⟨g, 0, none⟩) s cap) s (nums .i64 (Q 0))) := Lib.hid (by rw [hst.out]; exact own_below hown hB)
  have hx0 : w.heap.size ∉ [g] := by simp; omega
  have hW1' := Lib.hid hW1
  have hB' := Lib.hid hB
  have Z1' := Lib.hid Z1
  clear hW1 hB Z1 hown hl hst hglt hn
  go_enter Tryz.func218, Tryz.ntmps218
  go_wp2
  rw [← hW1'.out]
  go_loopw [10] (fun x wr => ∃ k : Nat, k ≤ n + 1 ∧ x = .int .i64 k ∧ Hid (wr.ownsRow base 3 1 (.slice (some ⟨g, 0, none⟩) s cap) s (nums .i64 (Q k))) ∧ Hid (BelowE [g] W1.heap.size W1 wr)) (fun x _ => n + 1 - (intOf x).toNat)
  case atStart => exact ⟨0, by omega, rfl, O1, Lib.hid (BelowE.refl _ _ _)⟩
  case round =>
    clear O1
    obtain ⟨k, hkn, rfl, hown, hb⟩ := hrel
    by_cases hlt : k < n + 1
    · have hki : (k : Int) < (n : Int) + 1 := by omega
      by_cases hk : k = i
      · subst hk
        have hnx : Hid (wr.ownsRow base 3 1 (.slice (some ⟨g, 0, none⟩) s cap) s (nums .i64 (Q (k + 1)))) := Lib.hid (by rw [hstep.out, if_pos rfl]; exact hown.out)
        clear hown
        go_wp2
        go_roundw
        case rel => exact ⟨k + 1, by omega, by go_num, hnx, hb⟩
        case measure => simp [intOf]; omega
      · have hne : ((k : Int) != (i : Int)) = true := by simp; omega
        have hne2 : ¬ (k : Int) = (i : Int) := by omega
        have Y := Lib.hid (Z1'.out.belowE hb.out Z1'.out.lt hx0)
        have c0 : ∀ W, BelowE [g] wr.heap.size wr W → W.cell? ⟨w.heap.size, 0, none⟩ = some (.int .i64 n) := fun W hW => (Y.out.belowE hW Y.out.lt hx0).cell 0
        have c1 : ∀ W, BelowE [g] wr.heap.size wr W → W.cell? ⟨w.heap.size, 1, none⟩ = some (.slice (some ⟨g, 0, none⟩) s cap) := fun W hW => (Y.out.belowE hW Y.out.lt hx0).cell 1
        have h6 := Lib.hid (fun W => hat.out i k W hi (by omega))
        have h13 := Lib.hid (fun W => hat.out k i W (by omega) hi)
        obtain ⟨q1, q2⟩ := hpl.out k (by omega)
        have hcall := Lib.hid (fun W (hW : W.ownsRow base 3 1 (.slice (some ⟨g, 0, none⟩) s cap) s (nums .i64 (Q k)))  => fforget_any g cap base s (i * (n + 1) + k) (k * (n + 1) + i) (Q k) (hlen.out k) q1 q2 W hW)
        have hnx : Hid (pairL (fun _ => 4398046511104) (fun _ => 4398046511104) (Q k) (i * (n + 1) + k) (k * (n + 1) + i) = Q (k + 1)) := Lib.hid (by rw [hstep.out, if_neg hk])
        have hlk := hlen.out k
        simp only [far_pair] at hcall
        rw [hnx.out] at hcall
        clear hnx hlk Y
        generalize i * (n + 1) + k = p at *
        generalize k * (n + 1) + i = q at *
        have p1 : (p : Int) < (s : Int) := by omega
        have p2 : (q : Int) < (s : Int) := by omega
        go_wp2
        refine wp_drawn_on (fun W => BelowE [g] wr.heap.size wr W) (by kernel_rfl) ((BelowE.refl _ _ _).drew) (fun hHeld => ?_)
        refine wT 0 (v := ?v1) rfl (by kernel_rfl) (fun _ _ _ h => h) ?h1 (by assumption) ?r1
        case h1 => (intro w hSw; (try dsimp only at hSw); go_simp; try with_reducible rfl)
        refine wT 1 (v := ?v2) rfl (by kernel_rfl) (fun _ _ _ h => h) ?h2 (by assumption) ?r2
        case h2 => (intro w hSw; (try dsimp only at hSw); go_simp; try with_reducible rfl)
        refine wT 2 (v := ?v3) rfl (by kernel_rfl) (fun _ _ _ h => h) ?h3 (by assumption) ?r3
        case h3 => (intro w hSw; (try dsimp only at hSw); go_simp; try with_reducible rfl)
        refine wT 3 (v := ?v4) rfl (by kernel_rfl) (fun _ _ _ h => h) ?h4 (by assumption) ?r4
        case h4 => (intro w hSw; (try dsimp only at hSw); go_simp; try with_reducible rfl)
        refine wT 4 (v := ?v5) rfl (by kernel_rfl) (fun _ _ _ h => h) ?h5 (by assumption) ?r5
        case h5 => (intro w hSw; (try dsimp only at hSw); go_simp; try with_reducible rfl)
        refine wT 5 (v := ?v6) rfl (by kernel_rfl) (fun _ _ _ h => h) ?h6 (by assumption) ?r6
        case h6 => (intro w hSw; (try dsimp only at hSw); go_simp; try with_reducible rfl)
        refine wT 8 (v := ?v7) rfl (by kernel_rfl) (fun _ _ _ h => h) ?h7 (by assumption) ?r7
        case h7 => (intro w hSw; (try dsimp only at hSw); go_simp; try with_reducible rfl)
        refine wT 9 (v := ?v8) rfl (by kernel_rfl) (fun _ _ _ h => h) ?h8 (by assumption) ?r8
        case h8 => (intro w hSw; (try dsimp only at hSw); go_simp; try with_reducible rfl)
        refine wT 10 (v := ?v9) rfl (by kernel_rfl) (fun _ _ _ h => h) ?h9 (by assumption) ?r9
        case h9 => (intro w hSw; (try dsimp only at hSw); go_simp; try with_reducible rfl)
        refine wT 11 (v := ?v10) rfl (by kernel_rfl) (fun _ _ _ h => h) ?h10 (by assumption) ?r10
        case h10 => (intro w hSw; (try dsimp only at hSw); go_simp; try with_reducible rfl)
        refine wT 12 (v := ?v11) rfl (by kernel_rfl) (fun _ _ _ h => h) ?h11 (by assumption) ?r11
        case h11 => (intro w hSw; (try dsimp only at hSw); go_simp; try with_reducible rfl)
        try simp only [Act.put, List.setIfInBounds_toArray, List.set_cons_zero, List.set_cons_succ]
        refine wpAnyH_ready (rs := [6]) (by kernel_rfl) (by simp) ?_
        refine AllReadyH.cons (o := ⟨_, _, _, _, _, _⟩) rfl (fun K hK => ?_) AllReadyH.nil
        go_simp
        refine (h6.out _).mono ?_
        rintro e v6 ⟨rfl, b6⟩
        have O6 := Lib.hid (own_below (show (wr.drew).ownsRow base 3 1 (.slice (some ⟨g, 0, none⟩) s cap) s (nums .i64 (Q k)) from hown.out) b6)
        go_simp
        refine hK.out _ _ (hHeld.trans (BelowE.of (b6.mono hHeld.size))) (fun hHeld => ?_)
        clear hK K
        refine wT 7 (v := ?v12) rfl (by kernel_rfl) (fun _ _ _ h => h) ?h12 (by assumption) ?r12
        case h12 => (intro w hSw; (try dsimp only at hSw); go_simp; try with_reducible rfl)
        try simp only [Act.put, List.setIfInBounds_toArray, List.set_cons_zero, List.set_cons_succ]
        refine wpAnyH_ready (rs := [13]) (by kernel_rfl) (by simp) ?_
        refine AllReadyH.cons (o := ⟨_, _, _, _, _, _⟩) rfl (fun K hK => ?_) AllReadyH.nil
        go_simp
        refine (h13.out _).mono ?_
        rintro e v13 ⟨rfl, b13⟩
        have O13 := Lib.hid (own_below O6.out b13)
        go_simp
        refine hK.out _ _ (hHeld.trans (BelowE.of (b13.mono hHeld.size))) (fun hHeld => ?_)
        clear hK K
        refine wT 14 (v := ?v13) rfl (by kernel_rfl) (fun _ _ _ h => h) ?h13 (by assumption) ?r13
        case h13 => (intro w hSw; (try dsimp only at hSw); go_simp; try with_reducible rfl)
        try simp only [Act.put, List.setIfInBounds_toArray, List.set_cons_zero, List.set_cons_succ]
        refine wpAnyH_ready (rs := [15]) (by kernel_rfl) (by simp) ?_
        refine AllReadyH.cons (o := ⟨_, _, _, _, _, _⟩) rfl (fun K hK => ?_) AllReadyH.nil
        go_simp
        refine (hcall.out _ O13.out ).mono ?_
        rintro e v15 ⟨rfl, o15, b15⟩
        have o15' := Lib.hid o15
        clear o15
        go_simp
        refine hK.out _ _ (hHeld.trans (b15.mono hHeld.size)) (fun hHeld => ?_)
        clear hK K
        try simp only [Act.put, List.setIfInBounds_toArray, List.set_cons_zero, List.set_cons_succ]
        refine wpAnyH_done (by kernel_rfl) ?_ _
        have hb2 := Lib.hid (hb.out.trans (hHeld.mono hb.out.size))
        go_wp2
        go_roundw
        case rel => exact ⟨k + 1, by omega, by go_num, o15', hb2⟩
        case measure => simp [intOf]; omega
    · have hke : k = n + 1 := by omega
      have hr : Hid (MatS s g cap base R w (.returned (.tuple #[])) wr) := Lib.hid ⟨rfl, by rw [hfin.out, ← hke]; exact hown.out, (BelowE.of hB'.out).trans (hb.out.mono hB'.out.size)⟩
      clear hown hb
      go_wp2
      go_end0
      exact hr.out
set_option maxRecDepth 100000 in
set_option maxHeartbeats 2000000 in
theorem others_mov (n : Nat) (hn : n ≤ 8) (i : Nat) (hi : i ≤ n) (gw : Nat) (i0 j0 c : Int) (hc : -4398046511104 ≤ c ∧ c ≤ 4398046511104) (g cap base : Nat) (l : List Int) (hl : l.length = sz n) (w : World) (hlb : ∀ p, -2199023255552 ≤ l.getD p 0 ∧ l.getD p 0 ≤ 2199023255552) (hw : Holds w gw 196 #[.int .i64 i0, .int .i64 j0, .int .i64 c]) (hgw : gw ≠ g)
    (hown : w.ownsRow base 3 1 (.slice (some ⟨g, 0, none⟩) (sz n) cap) (sz n) (nums .i64 l)) :
    Calls Tryz.prog 218 #[.agg #[.int .i64 n, .slice (some ⟨g, 0, none⟩) (sz n) cap], .int .i64 i, .func (.func 219) #[] #[.pointer (some ⟨gw, 0, none⟩)]] w (MatS (sz n) g cap base (movL n l i c) w) := by
  have hs81 := sz_le hn
  have hni : (n : Int) ≤ 8 := by omega
  have v1 : IntKind.i64.wrap ((n : Int) + 1) = (n : Int) + 1 := wrap_small (by omega) (by omega)
  have hat := Lib.hid (fun a b W (h1 : a ≤ n) (h2 : b ≤ n) => mat_at n a b hn h1 h2 (some ⟨g, 0, none⟩) (sz n) cap W)
  have hlen : Hid (∀ k, (othK (fun x => x + c) (fun x => x - c) n i l k).length = sz n) := Lib.hid (fun k => by rw [othK_len, hl])
  have hfin : Hid (movL n l i c = othK (fun x => x + c) (fun x => x - c) n i l (n + 1)) := Lib.hid rfl
  have hstep : Hid (∀ k, othK (fun x => x + c) (fun x => x - c) n i l (k + 1) = if k = i then othK (fun x => x + c) (fun x => x - c) n i l k else pairL (fun x => x + c) (fun x => x - c) (othK (fun x => x + c) (fun x => x - c) n i l k) (i * (n + 1) + k) (k * (n + 1) + i)) := Lib.hid (fun k => rfl)
  have hpl : Hid (∀ k, k ≤ n → i * (n + 1) + k < sz n ∧ k * (n + 1) + i < sz n) := Lib.hid (fun k hk => ⟨place_lt hi hk, place_lt hk hi⟩)
  have hpv : Hid (∀ k, k ≤ n → k ≠ i → (-9000000000000 ≤ (othK (fun x => x + c) (fun x => x - c) n i l k).getD (i * (n + 1) + k) 0 ∧ (othK (fun x => x + c) (fun x => x - c) n i l k).getD (i * (n + 1) + k) 0 ≤ 9000000000000) ∧ (-9000000000000 ≤ (othK (fun x => x + c) (fun x => x - c) n i l k).getD (k * (n + 1) + i) 0 ∧ (othK (fun x => x + c) (fun x => x - c) n i l k).getD (k * (n + 1) + i) 0 ≤ 9000000000000)) := Lib.hid (fun k hk hki => by
    obtain ⟨e1, e2⟩ := othK_places (F := fun x => x + c) (G := fun x => x - c) hi hk hki hl
    rw [e1, e2]
    have r1 := hlb (i * (n + 1) + k)
    have r2 := hlb (k * (n + 1) + i)
    unfold mat
    omega)
  have hpd : Hid (∀ k, k ≤ n → k ≠ i → i * (n + 1) + k ≠ k * (n + 1) + i) := Lib.hid (fun k hk hki e => by
    have := congrArg (fun x => x % (n + 1)) e
    simp only [place_mod hk, place_mod hi] at this
    exact hki this)
  have hst : Hid (othK (fun x => x + c) (fun x => x - c) n i l 0 = l) := Lib.hid rfl
  generalize movL n l i c = R at *
  generalize hQ : othK (fun x => x + c) (fun x => x - c) n i l = Q at *
  clear hQ
  generalize sz n = s at *
  have hglt := (hown.lt g rfl).2
  obtain ⟨W1, hW1⟩ : ∃ W1, W1 = w.alloc (.cells #[.int .i64 n, .slice (some ⟨g, 0, none⟩) s cap] 201) := ⟨_, rfl⟩
  have hB : Below w.heap.size w W1 := by rw [hW1]; exact box_below _ _ _
  have Z1 : Holds W1 w.heap.size 201 #[.int .i64 n, .slice (some ⟨g, 0, none⟩) s cap] := by rw [hW1]; exact Holds.new w _ _
  have O1 : Hid (W1.ownsRow base 3 1 (.slice (some ⟨g, 0, none⟩) s cap) s (nums .i64 (Q 0))) := Lib.hid (by rw [hst.out]; exact own_below hown hB)
  have Zw := Lib.hid (hw.below hB hw.lt)
  have hgw2 : gw ∉ [g] := by simpa using hgw
  have hx0 : w.heap.size ∉ [g] := by simp; omega
  have hW1' := Lib.hid hW1
  have hB' := Lib.hid hB
  have Z1' := Lib.hid Z1
  clear hW1 hB Z1 hown hl hst hglt hn
  go_enter Tryz.func218, Tryz.ntmps218
  go_wp2
  rw [← hW1'.out]
  go_loopw [10] (fun x wr => ∃ k : Nat, k ≤ n + 1 ∧ x = .int .i64 k ∧ Hid (wr.ownsRow base 3 1 (.slice (some ⟨g, 0, none⟩) s cap) s (nums .i64 (Q k))) ∧ Hid (BelowE [g] W1.heap.size W1 wr)) (fun x _ => n + 1 - (intOf x).toNat)
  case atStart => exact ⟨0, by omega, rfl, O1, Lib.hid (BelowE.refl _ _ _)⟩
  case round =>
    clear O1
    obtain ⟨k, hkn, rfl, hown, hb⟩ := hrel
    by_cases hlt : k < n + 1
    · have hki : (k : Int) < (n : Int) + 1 := by omega
      by_cases hk : k = i
      · subst hk
        have hnx : Hid (wr.ownsRow base 3 1 (.slice (some ⟨g, 0, none⟩) s cap) s (nums .i64 (Q (k + 1)))) := Lib.hid (by rw [hstep.out, if_pos rfl]; exact hown.out)
        clear hown
        go_wp2
        go_roundw
        case rel => exact ⟨k + 1, by omega, by go_num, hnx, hb⟩
        case measure => simp [intOf]; omega
      · have hne : ((k : Int) != (i : Int)) = true := by simp; omega
        have hne2 : ¬ (k : Int) = (i : Int) := by omega
        have Y := Lib.hid (Z1'.out.belowE hb.out Z1'.out.lt hx0)
        have c0 : ∀ W, BelowE [g] wr.heap.size wr W → W.cell? ⟨w.heap.size, 0, none⟩ = some (.int .i64 n) := fun W hW => (Y.out.belowE hW Y.out.lt hx0).cell 0
        have c1 : ∀ W, BelowE [g] wr.heap.size wr W → W.cell? ⟨w.heap.size, 1, none⟩ = some (.slice (some ⟨g, 0, none⟩) s cap) := fun W hW => (Y.out.belowE hW Y.out.lt hx0).cell 1
        have h6 := Lib.hid (fun W => hat.out i k W hi (by omega))
        have h13 := Lib.hid (fun W => hat.out k i W (by omega) hi)
        obtain ⟨q1, q2⟩ := hpl.out k (by omega)
        have hcall := Lib.hid (fun W (hW : W.ownsRow base 3 1 (.slice (some ⟨g, 0, none⟩) s cap) s (nums .i64 (Q k))) (hH : Holds W gw 196 #[.int .i64 i0, .int .i64 j0, .int .i64 c]) => fmove_any g cap base s (i * (n + 1) + k) (k * (n + 1) + i) gw i0 j0 c hc (Q k) (hlen.out k) q1 q2 (hpd.out k (by omega) hk) (hpv.out k (by omega) hk).1 (hpv.out k (by omega) hk).2 W hH hgw hW)
        have hnx : Hid (pairL (fun x => x + c) (fun x => x - c) (Q k) (i * (n + 1) + k) (k * (n + 1) + i) = Q (k + 1)) := Lib.hid (by rw [hstep.out, if_neg hk])
        have hlk := hlen.out k
        simp only [mov_pair] at hcall
        rw [hnx.out] at hcall
        clear hnx hlk Y
        generalize i * (n + 1) + k = p at *
        generalize k * (n + 1) + i = q at *
        have p1 : (p : Int) < (s : Int) := by omega
        have p2 : (q : Int) < (s : Int) := by omega
        go_wp2
        refine wp_drawn_on (fun W => BelowE [g] wr.heap.size wr W) (by kernel_rfl) ((BelowE.refl _ _ _).drew) (fun hHeld => ?_)
        refine wT 0 (v := ?v14) rfl (by kernel_rfl) (fun _ _ _ h => h) ?h14 (by assumption) ?r14
        case h14 => (intro w hSw; (try dsimp only at hSw); go_simp; try with_reducible rfl)
        refine wT 1 (v := ?v15) rfl (by kernel_rfl) (fun _ _ _ h => h) ?h15 (by assumption) ?r15
        case h15 => (intro w hSw; (try dsimp only at hSw); go_simp; try with_reducible rfl)
        refine wT 2 (v := ?v16) rfl (by kernel_rfl) (fun _ _ _ h => h) ?h16 (by assumption) ?r16
        case h16 => (intro w hSw; (try dsimp only at hSw); go_simp; try with_reducible rfl)
        refine wT 3 (v := ?v17) rfl (by kernel_rfl) (fun _ _ _ h => h) ?h17 (by assumption) ?r17
        case h17 => (intro w hSw; (try dsimp only at hSw); go_simp; try with_reducible rfl)
        refine wT 4 (v := ?v18) rfl (by kernel_rfl) (fun _ _ _ h => h) ?h18 (by assumption) ?r18
        case h18 => (intro w hSw; (try dsimp only at hSw); go_simp; try with_reducible rfl)
        refine wT 5 (v := ?v19) rfl (by kernel_rfl) (fun _ _ _ h => h) ?h19 (by assumption) ?r19
        case h19 => (intro w hSw; (try dsimp only at hSw); go_simp; try with_reducible rfl)
        refine wT 8 (v := ?v20) rfl (by kernel_rfl) (fun _ _ _ h => h) ?h20 (by assumption) ?r20
        case h20 => (intro w hSw; (try dsimp only at hSw); go_simp; try with_reducible rfl)
        refine wT 9 (v := ?v21) rfl (by kernel_rfl) (fun _ _ _ h => h) ?h21 (by assumption) ?r21
        case h21 => (intro w hSw; (try dsimp only at hSw); go_simp; try with_reducible rfl)
        refine wT 10 (v := ?v22) rfl (by kernel_rfl) (fun _ _ _ h => h) ?h22 (by assumption) ?r22
        case h22 => (intro w hSw; (try dsimp only at hSw); go_simp; try with_reducible rfl)
        refine wT 11 (v := ?v23) rfl (by kernel_rfl) (fun _ _ _ h => h) ?h23 (by assumption) ?r23
        case h23 => (intro w hSw; (try dsimp only at hSw); go_simp; try with_reducible rfl)
        refine wT 12 (v := ?v24) rfl (by kernel_rfl) (fun _ _ _ h => h) ?h24 (by assumption) ?r24
        case h24 => (intro w hSw; (try dsimp only at hSw); go_simp; try with_reducible rfl)
        try simp only [Act.put, List.setIfInBounds_toArray, List.set_cons_zero, List.set_cons_succ]
        refine wpAnyH_ready (rs := [6]) (by kernel_rfl) (by simp) ?_
        refine AllReadyH.cons (o := ⟨_, _, _, _, _, _⟩) rfl (fun K hK => ?_) AllReadyH.nil
        go_simp
        refine (h6.out _).mono ?_
        rintro e v6 ⟨rfl, b6⟩
        have O6 := Lib.hid (own_below (show (wr.drew).ownsRow base 3 1 (.slice (some ⟨g, 0, none⟩) s cap) s (nums .i64 (Q k)) from hown.out) b6)
        go_simp
        refine hK.out _ _ (hHeld.trans (BelowE.of (b6.mono hHeld.size))) (fun hHeld => ?_)
        clear hK K
        refine wT 7 (v := ?v25) rfl (by kernel_rfl) (fun _ _ _ h => h) ?h25 (by assumption) ?r25
        case h25 => (intro w hSw; (try dsimp only at hSw); go_simp; try with_reducible rfl)
        try simp only [Act.put, List.setIfInBounds_toArray, List.set_cons_zero, List.set_cons_succ]
        refine wpAnyH_ready (rs := [13]) (by kernel_rfl) (by simp) ?_
        refine AllReadyH.cons (o := ⟨_, _, _, _, _, _⟩) rfl (fun K hK => ?_) AllReadyH.nil
        go_simp
        refine (h13.out _).mono ?_
        rintro e v13 ⟨rfl, b13⟩
        have O13 := Lib.hid (own_below O6.out b13)
        go_simp
        refine hK.out _ _ (hHeld.trans (BelowE.of (b13.mono hHeld.size))) (fun hHeld => ?_)
        clear hK K
        refine wT 14 (v := ?v26) rfl (by kernel_rfl) (fun _ _ _ h => h) ?h26 (by assumption) ?r26
        case h26 => (intro w hSw; (try dsimp only at hSw); go_simp; try with_reducible rfl)
        try simp only [Act.put, List.setIfInBounds_toArray, List.set_cons_zero, List.set_cons_succ]
        refine wpAnyH_ready (rs := [15]) (by kernel_rfl) (by simp) ?_
        refine AllReadyH.cons (o := ⟨_, _, _, _, _, _⟩) rfl (fun K hK => ?_) AllReadyH.nil
        go_simp
        refine (hcall.out _ O13.out (Zw.out.belowE (hb.out.trans (hHeld.mono hb.out.size)) Zw.out.lt hgw2)).mono ?_
        rintro e v15 ⟨rfl, o15, b15⟩
        have o15' := Lib.hid o15
        clear o15
        go_simp
        refine hK.out _ _ (hHeld.trans (b15.mono hHeld.size)) (fun hHeld => ?_)
        clear hK K
        try simp only [Act.put, List.setIfInBounds_toArray, List.set_cons_zero, List.set_cons_succ]
        refine wpAnyH_done (by kernel_rfl) ?_ _
        have hb2 := Lib.hid (hb.out.trans (hHeld.mono hb.out.size))
        go_wp2
        go_roundw
        case rel => exact ⟨k + 1, by omega, by go_num, o15', hb2⟩
        case measure => simp [intOf]; omega
    · have hke : k = n + 1 := by omega
      have hr : Hid (MatS s g cap base R w (.returned (.tuple #[])) wr) := Lib.hid ⟨rfl, by rw [hfin.out, ← hke]; exact hown.out, (BelowE.of hB'.out).trans (hb.out.mono hB'.out.size)⟩
      clear hown hb
      go_wp2
      go_end0
      exact hr.out
theorem mforget_any (n : Nat) (hn : n ≤ 8) (i j : Nat) (hi : i ≤ n) (hj : j ≤ n) (c : Int) (hc : -4398046511104 ≤ c ∧ c ≤ 4398046511104) (g cap base : Nat) (l : List Int) (hl : l.length = sz n) (w : World) (hown : w.ownsRow base 3 1 (.slice (some ⟨g, 0, none⟩) (sz n) cap) (sz n) (nums .i64 l)) : Calls Tryz.prog 212 #[.agg #[.int .i64 n, .slice (some ⟨g, 0, none⟩) (sz n) cap], .agg #[.int .i64 i, .int .i64 j, .int .i64 c]] w (MatS (sz n) g cap base (forL n l i) w) := by
  obtain ⟨W1, hW1⟩ : ∃ W1, W1 = (w.alloc (.cells #[.int .i64 n, .slice (some ⟨g, 0, none⟩) (sz n) cap] 201)).alloc (.cells #[.int .i64 i, .int .i64 j, .int .i64 c] 196) := ⟨_, rfl⟩
  have hB : Below w.heap.size w W1 := by rw [hW1]; exact box2_below _ _ _ _ _
  have Z1 : Holds W1 w.heap.size 201 #[.int .i64 n, .slice (some ⟨g, 0, none⟩) (sz n) cap] := by rw [hW1]; exact (Holds.new w _ _).alloc _
  have Z2 : Holds W1 (w.heap.size + 1) 196 #[.int .i64 i, .int .i64 j, .int .i64 c] := by
    rw [hW1]
    have := Holds.new (w.alloc (.cells #[.int .i64 n, .slice (some ⟨g, 0, none⟩) (sz n) cap] 201)) 196 #[.int .i64 i, .int .i64 j, .int .i64 c]
    simpa using this
  have O1 := own_below hown hB
  have hglt := (hown.lt g rfl).2
  have hW1' := Lib.hid hW1
  have hB' := Lib.hid hB
  have q := Lib.hid (others_far n hn i hi g cap base l hl W1 O1)
  clear hW1 hB Z1 Z2 O1 hown hglt
  go_enter Tryz.func212, Tryz.ntmps212
  go_wp2_with fail
  rw [← hW1'.out]
  refine q.out.mono ?_
  rintro e w2 ⟨rfl, o2, b2⟩
  have hfin := Lib.hid (show MatS (sz n) g cap base (forL n l i) w (.returned (.tuple #[])) w2 from ⟨rfl, o2, (BelowE.of hB'.out).trans (b2.mono hB'.out.size)⟩)
  clear o2 b2
  go_wp2
  go_end0
  exact hfin.out
theorem mmove_any (n : Nat) (hn : n ≤ 8) (i j : Nat) (hi : i ≤ n) (hj : j ≤ n) (c : Int) (hc : -4398046511104 ≤ c ∧ c ≤ 4398046511104) (g cap base : Nat) (l : List Int) (hl : l.length = sz n) (hlb : ∀ p, -2199023255552 ≤ l.getD p 0 ∧ l.getD p 0 ≤ 2199023255552) (w : World) (hown : w.ownsRow base 3 1 (.slice (some ⟨g, 0, none⟩) (sz n) cap) (sz n) (nums .i64 l)) : Calls Tryz.prog 211 #[.agg #[.int .i64 n, .slice (some ⟨g, 0, none⟩) (sz n) cap], .agg #[.int .i64 i, .int .i64 j, .int .i64 c]] w (MatS (sz n) g cap base (movL n l i c) w) := by
  obtain ⟨W1, hW1⟩ : ∃ W1, W1 = (w.alloc (.cells #[.int .i64 n, .slice (some ⟨g, 0, none⟩) (sz n) cap] 201)).alloc (.cells #[.int .i64 i, .int .i64 j, .int .i64 c] 196) := ⟨_, rfl⟩
  have hB : Below w.heap.size w W1 := by rw [hW1]; exact box2_below _ _ _ _ _
  have Z1 : Holds W1 w.heap.size 201 #[.int .i64 n, .slice (some ⟨g, 0, none⟩) (sz n) cap] := by rw [hW1]; exact (Holds.new w _ _).alloc _
  have Z2 : Holds W1 (w.heap.size + 1) 196 #[.int .i64 i, .int .i64 j, .int .i64 c] := by
    rw [hW1]
    have := Holds.new (w.alloc (.cells #[.int .i64 n, .slice (some ⟨g, 0, none⟩) (sz n) cap] 201)) 196 #[.int .i64 i, .int .i64 j, .int .i64 c]
    simpa using this
  have O1 := own_below hown hB
  have hglt := (hown.lt g rfl).2
  have hW1' := Lib.hid hW1
  have hB' := Lib.hid hB
  have q := Lib.hid (others_mov n hn i hi (w.heap.size + 1) i j c hc g cap base l hl W1 hlb Z2 (by omega) O1)
  clear hW1 hB Z1 Z2 O1 hown hglt hlb
  go_enter Tryz.func211, Tryz.ntmps211
  go_wp2_with fail
  rw [← hW1'.out]
  refine q.out.mono ?_
  rintro e w2 ⟨rfl, o2, b2⟩
  have hfin := Lib.hid (show MatS (sz n) g cap base (movL n l i c) w (.returned (.tuple #[])) w2 from ⟨rfl, o2, (BelowE.of hB'.out).trans (b2.mono hB'.out.size)⟩)
  clear o2 b2
  go_wp2
  go_end0
  exact hfin.out
def tieL (n : Nat) (l : List Int) (i j : Nat) (c : Int) : List Int := limL n (limL n l i j c) j i (-c)
theorem mtie_any (n : Nat) (hn : n ≤ 8) (i j : Nat) (hi : i ≤ n) (hj : j ≤ n) (c : Int) (hc : -4398046511104 ≤ c ∧ c ≤ 4398046511104) (g cap base : Nat) (l : List Int) (hl : l.length = sz n) (w : World) (hown : w.ownsRow base 3 1 (.slice (some ⟨g, 0, none⟩) (sz n) cap) (sz n) (nums .i64 l)) : Calls Tryz.prog 213 #[.agg #[.int .i64 n, .slice (some ⟨g, 0, none⟩) (sz n) cap], .agg #[.int .i64 i, .int .i64 j, .int .i64 c]] w (MatS (sz n) g cap base (tieL n l i j c) w) := by
  obtain ⟨W1, hW1⟩ : ∃ W1, W1 = (w.alloc (.cells #[.int .i64 n, .slice (some ⟨g, 0, none⟩) (sz n) cap] 201)).alloc (.cells #[.int .i64 i, .int .i64 j, .int .i64 c] 196) := ⟨_, rfl⟩
  have hB : Below w.heap.size w W1 := by rw [hW1]; exact box2_below _ _ _ _ _
  have Z1 : Holds W1 w.heap.size 201 #[.int .i64 n, .slice (some ⟨g, 0, none⟩) (sz n) cap] := by rw [hW1]; exact (Holds.new w _ _).alloc _
  have Z2 : Holds W1 (w.heap.size + 1) 196 #[.int .i64 i, .int .i64 j, .int .i64 c] := by
    rw [hW1]
    have := Holds.new (w.alloc (.cells #[.int .i64 n, .slice (some ⟨g, 0, none⟩) (sz n) cap] 201)) 196 #[.int .i64 i, .int .i64 j, .int .i64 c]
    simpa using this
  have O1 := own_below hown hB
  have hglt := (hown.lt g rfl).2
  have hW1' := Lib.hid hW1
  have hB' := Lib.hid hB
  have q1 := Lib.hid (mlimit_any n hn i j hi hj c g cap base l hl W1 O1)
  have q2 := Lib.hid (fun W hW => mlimit_any n hn j i hj hi (-c) g cap base (limL n l i j c) (by rw [limL_len, hl]) W hW)
  have Z1' := Lib.hid Z1
  have Z2' := Lib.hid Z2
  have hx0 : w.heap.size ∉ [g] := by simp; omega
  have hx1 : w.heap.size + 1 ∉ [g] := by simp; omega
  have hneg : IntKind.i64.wrap (-c) = -c := wrap_small (by omega) (by omega)
  have hT : Hid (tieL n l i j c = limL n (limL n l i j c) j i (-c)) := Lib.hid rfl
  clear hW1 hB Z1 Z2 O1 hown hglt
  generalize tieL n l i j c = R at *
  go_enter Tryz.func213, Tryz.ntmps213
  go_wp2_with fail
  rw [← hW1'.out]
  refine q1.out.mono ?_
  rintro e w2 ⟨rfl, o2, b2⟩
  have p2 := Lib.hid (q2.out w2 o2)
  rw [← hT.out] at p2
  have Y1 := Z1'.out.belowE b2 Z1'.out.lt hx0
  have Y2 := Z2'.out.belowE b2 Z2'.out.lt hx1
  have b2' := Lib.hid b2
  have k0 := Y1.cell 0
  have k1 := Y1.cell 1
  have j0 := Y2.cell 0
  have j1 := Y2.cell 1
  have j2 := Y2.cell 2
  clear q1 q2 o2 b2 Y1 Y2 hT
  go_wp2_with fail
  refine p2.out.mono ?_
  rintro e w3 ⟨rfl, o3, b3⟩
  have hfin := Lib.hid (show MatS (sz n) g cap base R w (.returned (.tuple #[])) w3 from ⟨rfl, o3, (BelowE.of hB'.out).trans ((b2'.out.trans (b3.mono b2'.out.size)).mono hB'.out.size)⟩)
  clear o3 b3 p2 k0 k1 j0 j1 j2
  go_wp2
  go_end0
  exact hfin.out
end Go.Proofs.YtimgocfkogebmaaGreatDoor
namespace Go.Proofs.YtimgocfkogebmaaGreatDoor
open Go.RowKit
set_option linter.unusedVariables false
set_option linter.unusedSimpArgs false
def ZoneO (n : Int) (l : List Int) (err : Int) (w : World) (e : Ending) (w' : World) : Prop :=
  ∃ a c, e = .returned (.tuple #[.agg #[.int .i64 n, .slice a l.length c], .int .i64 err]) ∧ w'.ownsRow w.heap.size 3 1 (.slice a l.length c) l.length (nums .i64 l) ∧ Below w.heap.size w w'
def ZoneOS (n : Int) (l : List Int) (w : World) (e : Ending) (w' : World) : Prop :=
  ∃ a c, e = .returned (.agg #[.int .i64 n, .slice a l.length c]) ∧ w'.ownsRow w.heap.size 3 1 (.slice a l.length c) l.length (nums .i64 l) ∧ Below w.heap.size w w'
theorem zone_endO {w W1 w3 : World} {g : Nat} {z0 z1 : Value} {R : List Int} {e : Ending} (hB : Below w.heap.size w W1) (hg : w.heap.size ≤ g) (hz : ZH W1 g z0 z1) (hm : Made 3 .i64 W1 R e w3) :
    ∃ a c, e = .returned (.slice a R.length c) ∧ ZH w3 g z0 z1 ∧ ∀ n err : Int, ZH ((w3.setCell ⟨g, 0, none⟩ (.int .i64 n)).setCell ⟨g, 1, none⟩ (.slice a R.length c)) g (.int .i64 n) (.slice a R.length c) ∧
      ZoneO n R err w (.returned (.tuple #[.agg #[.int .i64 n, .slice a R.length c], .int .i64 err])) ((w3.setCell ⟨g, 0, none⟩ (.int .i64 n)).setCell ⟨g, 1, none⟩ (.slice a R.length c)) ∧
      ZoneOS n R w (.returned (.agg #[.int .i64 n, .slice a R.length c])) ((w3.setCell ⟨g, 0, none⟩ (.int .i64 n)).setCell ⟨g, 1, none⟩ (.slice a R.length c)) := by
  obtain ⟨v, rfl, hown, hb⟩ := hm
  have hlt := hz.lt
  obtain ⟨a, c, rfl, -, -⟩ := sees_own hown
  have hz3 := hz.below hb hlt
  refine ⟨a, c, rfl, hz3, fun n err => ?_⟩
  have hE : BelowE [g] w3.heap.size w3 ((w3.setCell ⟨g, 0, none⟩ (.int .i64 n)).setCell ⟨g, 1, none⟩ (.slice a R.length c)) := ((BelowE.refl _ _ _).setIn (p := ⟨g, 0, none⟩) (by simp) _).setIn (p := ⟨g, 1, none⟩) (by simp) _
  have hown2 := own_belowE hown hE (fun k hk => by
    have := (hown.lt k hk).1
    simp only [List.mem_singleton]
    omega)
  have hown3 := own_from (B := w.heap.size) hown2 (fun k hk => by have := (hown.lt k hk).1; have := hB.size; omega)
  have hbb : Below w.heap.size w ((w3.setCell ⟨g, 0, none⟩ (.int .i64 n)).setCell ⟨g, 1, none⟩ (.slice a R.length c)) := ((hB.trans (hb.mono hB.size)).setCell (p := ⟨g, 0, none⟩) hg _).setCell (p := ⟨g, 1, none⟩) hg _
  exact ⟨zh_set hz3 _ _, ⟨a, c, rfl, hown3, hbb⟩, ⟨a, c, rfl, hown3, hbb⟩⟩
theorem dclose_own (n : Nat) (hn : n ≤ 8) (a : Option Addr) (M : List Int) (len c : Nat) (hM : len = M.length) (hl : len = sz n) (w : World) (h : Sees .i64 w.heap.size w a M) :
    Calls Tryz.prog 217 #[.int .i64 n, .slice a len c] w (ZoneO n (closedL n M) 0 w) := by
  obtain ⟨W1, hW1⟩ : ∃ W1, W1 = w.alloc (.cells #[.int .i64 0, .slice none 0 0] 51) := ⟨_, rfl⟩
  have hB : Below w.heap.size w W1 := by rw [hW1]; exact (Below.refl _ _).alloc (Nat.le_refl _) _
  have hz : ZH W1 w.heap.size (.int .i64 0) (.slice none 0 0) := by rw [hW1]; exact Holds.new w _ _
  have hmay := Lib.hid (fun W => may_any n W)
  have hsize := Lib.hid (fun W => zsize_any n hn W)
  have hcl := Lib.hid (closed_any n hn a M len c hM hl W1 ((h.below hB).mono hB.size))
  rw [mayB_nat hn] at hmay
  have hle : ((sz n : Nat) : Int) = (len : Int) := by rw [hl]
  rw [hle] at hsize
  have hB' := Lib.hid hB
  have hz' := Lib.hid hz
  have hW1' := Lib.hid hW1
  clear hW1 hB hz hle h hM hl
  generalize closedL n M = R at *
  go_enter Tryz.func217, Tryz.ntmps217
  go_wp2_with fail
  refine (hmay.out _).mono ?_
  rintro e w2 ⟨rfl, rfl⟩
  go_wp2_with fail
  refine (hsize.out _).mono ?_
  rintro e w2 ⟨rfl, rfl⟩
  go_wp2_with fail
  rw [← hW1'.out]
  refine hcl.out.mono ?_
  intro e w3 hm
  obtain ⟨a3, c3, rfl, hz3, hall⟩ := zone_endO hB'.out (Nat.le_refl _) hz'.out hm
  have hfin := Lib.hid (hall n 0)
  have k0 := hz3.cell 0
  have k1 := hz3.cell 1
  have f0 := hz3.free 0
  have f1 := hz3.free 1
  clear hz3 hm hall
  go_wp2
  exact zone_ret2 hfin.out.1 hfin.out.2.1 _ _ 4 5 rfl rfl rfl rfl
set_option maxRecDepth 100000 in
set_option maxHeartbeats 1000000 in
theorem zclone_own (n : Int) (a : Option Addr) (m c : Nat) (l : List Int) (hm : m ≤ 1000) (w : World) (h : SL w a m c l) :
    Calls Tryz.prog 216 #[.agg #[.int .i64 n, .slice a m c]] w (ZoneOS n l w) := by
  obtain ⟨W1, hW1⟩ : ∃ W1, W1 = (w.alloc (.cells #[.int .i64 n, .slice a m c] 51)).alloc (.cells #[.int .i64 0, .slice none 0 0] 51) := ⟨_, rfl⟩
  have hB : Below w.heap.size w W1 := by rw [hW1]; exact box2_below _ _ _ _ _
  have Z1 : ZH W1 w.heap.size (.int .i64 n) (.slice a m c) := by rw [hW1]; exact (Holds.new w _ _).alloc _
  have Z2 : ZH W1 (w.heap.size + 1) (.int .i64 0) (.slice none 0 0) := by
    rw [hW1]
    have := Holds.new (w.alloc (.cells #[.int .i64 n, .slice a m c] 51)) 51 #[.int .i64 0, .slice none 0 0]
    simpa using this
  have hcl := Lib.hid (fun W (hs : Sees .i64 W.heap.size W a l) => iclone_any a l m c h.len (by have := h.len; omega) W hs)
  have hs1 := Lib.hid ((h.below hB).below (below_drew (Below.refl W1.heap.size W1))).sees
  have hc0 : ∀ W, BelowE [w.heap.size + 1] W1.heap.size W1 W → W.cell? ⟨w.heap.size, 0, none⟩ = some (.int .i64 n) := fun W hW => (Z1.belowE hW Z1.lt (by simp)).cell 0
  have hc1 : ∀ W, BelowE [w.heap.size + 1] W1.heap.size W1 W → W.cell? ⟨w.heap.size, 1, none⟩ = some (.slice a m c) := fun W hW => (Z1.belowE hW Z1.lt (by simp)).cell 1
  have hW1' := Lib.hid hW1
  have hB' := Lib.hid hB
  have Z2' := Lib.hid Z2
  clear hW1 hB Z1 Z2 h
  go_enter Tryz.func216, Tryz.ntmps216
  go_wp2
  rw [← hW1'.out]
  clear hW1'
  refine wp_drawn_on (fun W => BelowE [w.heap.size + 1] W1.heap.size W1 W) (by kernel_rfl) ((BelowE.refl _ _ _).drew) (fun hHeld => ?_)
  refine wT 0 (v := ?v1) rfl (by kernel_rfl) (fun _ _ _ h => h) ?h1 (by assumption) ?r1
  case h1 => (intro w hSw; (try dsimp only at hSw); go_simp; try with_reducible rfl)
  refine wT 1 (v := ?v2) rfl (by kernel_rfl) (fun _ _ _ h => h) ?h2 (by assumption) ?r2
  case h2 => (intro w hSw; (try dsimp only at hSw); go_simp; try with_reducible rfl)
  refine wT 2 (v := ?v3) rfl (by kernel_rfl) (fun _ _ _ h => h) ?h3 (by assumption) ?r3
  case h3 => (intro w hSw; (try dsimp only at hSw); go_simp; try with_reducible rfl)
  refine wT 3 (v := ?v4) rfl (by kernel_rfl) (fun _ _ _ h => h) ?h4 (by assumption) ?r4
  case h4 => (intro w hSw; (try dsimp only at hSw); go_simp; try with_reducible rfl)
  try simp only [Act.put, List.setIfInBounds_toArray, List.set_cons_zero, List.set_cons_succ]
  refine wpAnyH_ready (rs := [4]) (by kernel_rfl) (by simp) ?_
  refine AllReadyH.cons (o := ⟨_, _, _, _, _, _⟩) rfl (fun K hK => ?_) AllReadyH.nil
  go_simp
  refine (hcl.out _ hs1.out).mono ?_
  intro e w3 hmd
  have b3 : Below W1.heap.size W1.drew w3 := by obtain ⟨v3, -, -, b3⟩ := hmd; exact b3
  obtain ⟨a3, c3, rfl, hz3, hall⟩ := zone_endO (hB'.out.trans ((below_drew (Below.refl _ _)).mono hB'.out.size)) (g := w.heap.size + 1) (by omega) (Z2'.out.below (below_drew (Below.refl _ _)) Z2'.out.lt) hmd
  have hfin := Lib.hid (hall n 0)
  have j0 := hz3.cell 0
  have j1 := hz3.cell 1
  have f0 := hz3.free 0
  have f1 := hz3.free 1
  clear hmd hall
  go_simp
  refine hK.out _ _ (hHeld.trans (BelowE.of b3)) (fun hHeld => ?_)
  clear hK K
  refine wT 5 (v := ?v5) rfl (by kernel_rfl) (fun _ _ _ h => h) ?h5 (by assumption) ?r5
  case h5 => (intro w hSw; (try dsimp only at hSw); go_simp; try with_reducible rfl)
  try simp only [Act.put, List.setIfInBounds_toArray, List.set_cons_zero, List.set_cons_succ]
  refine wpAnyH_ready (rs := [6]) (by kernel_rfl) (by simp) ?_
  refine AllReadyH.cons (o := ⟨_, _, _, _, _, _⟩) rfl (fun K hK => ?_) AllReadyH.nil
  go_simp
  refine hK.out _ _ (((hHeld.setIn (p := ⟨w.heap.size + 1, 0, none⟩) (by simp) _).setIn (p := ⟨w.heap.size + 1, 1, none⟩) (by simp) _)) (fun hHeld => ?_)
  clear hK K
  try simp only [Act.put, List.setIfInBounds_toArray, List.set_cons_zero, List.set_cons_succ]
  refine wpAnyH_done (by kernel_rfl) ?_ _
  go_wp2
  exact zone_ret hfin.out.1 hfin.out.2.2 _ _ 2 rfl rfl rfl
end Go.Proofs.YtimgocfkogebmaaGreatDoor
namespace Go.Proofs.YtimgocfkogebmaaGreatDoor
open Go.RowKit
set_option linter.unusedVariables false
set_option linter.unusedSimpArgs false
structure Cg (w W : World) (B n : Nat) (x y : Value) (i j c : Int) : Prop where
  bl : Below w.heap.size w W
  sz : B ≤ W.heap.size
  zb : ZH W w.heap.size x y
  wb : Holds W (w.heap.size + 1) 196 #[.int .i64 i, .int .i64 j, .int .i64 c]
  rb : ZH W (w.heap.size + 1 + 1) (.int .i64 0) (.slice none 0 0)
theorem Cg.on {w W W' : World} {B n : Nat} {x y : Value} {i j c : Int} (h : Cg w W B n x y i j c) (hb : Below W.heap.size W W') : Cg w W' B n x y i j c := ⟨h.bl.trans (hb.mono h.bl.size), Nat.le_trans h.sz hb.size, h.zb.below hb h.zb.lt, h.wb.below hb h.wb.lt, h.rb.below hb h.rb.lt⟩
theorem Cg.onE {w W W' : World} {B n g : Nat} {x y : Value} {i j c : Int} (h : Cg w W B n x y i j c) (hB : w.heap.size + 3 ≤ B) (hg : B ≤ g) (hb : BelowE [g] W.heap.size W W') : Cg w W' B n x y i j c :=
  ⟨h.bl.trans (BelowE.none ((hb.mono h.bl.size).less (by intro x hx hlt; simp at hx; omega))), Nat.le_trans h.sz hb.size, h.zb.belowE hb h.zb.lt (by simp; omega), h.wb.belowE hb h.wb.lt (by simp; omega), h.rb.belowE hb h.rb.lt (by simp; omega)⟩
theorem Cg.set {w W : World} {B n : Nat} {x y : Value} {i j c : Int} (h : Cg w W B n x y i j c) (u v : Value) : Cg w ((W.setCell ⟨w.heap.size, 0, none⟩ u).setCell ⟨w.heap.size, 1, none⟩ v) B n u v i j c :=
  ⟨(h.bl.setCell (p := ⟨w.heap.size, 0, none⟩) (Nat.le_refl _) _).setCell (p := ⟨w.heap.size, 1, none⟩) (Nat.le_refl _) _, by simpa using h.sz, zh_set h.zb _ _, (h.wb.far (p := ⟨w.heap.size, 0, none⟩) (by simp) _).far (p := ⟨w.heap.size, 1, none⟩) (by simp) _, (h.rb.far (p := ⟨w.heap.size, 0, none⟩) (by simp; omega) _).far (p := ⟨w.heap.size, 1, none⟩) (by simp; omega) _⟩
theorem zown_set {w : World} {base g : Nat} {e : TypeId} {m n c : Nat} {a : Option Addr} {xs : List Value} (h : w.ownsRow base e 1 (.slice a m c) n xs) (hg : g < base) (u v : Value) : ((w.setCell ⟨g, 0, none⟩ u).setCell ⟨g, 1, none⟩ v).ownsRow base e 1 (.slice a m c) n xs := by
  have hE : BelowE [g] w.heap.size w ((w.setCell ⟨g, 0, none⟩ u).setCell ⟨g, 1, none⟩ v) := ((BelowE.refl _ _ _).setIn (p := ⟨g, 0, none⟩) (by simp) _).setIn (p := ⟨g, 1, none⟩) (by simp) _
  exact own_belowE h hE (fun k hk => by have := (h.lt k hk).1; simp only [List.mem_singleton]; omega)
def stepL (n : Nat) (f : List Int → List Int) (l : List Int) : List Int := if l = [] then [] else closedL n (f l)
theorem stepL_small (n : Nat) (hn : n ≤ 8) (f : List Int → List Int) (l : List Int) : (stepL n f l).length ≤ 81 := by
  unfold stepL
  split
  · simp
  · exact closed_small hn _
theorem stepL_isz {n : Nat} (hn : n ≤ 8) (f : List Int → List Int) (l : List Int) : IsZ n (stepL n f l) := by
  refine ⟨hn, ?_⟩
  unfold stepL
  split
  · exact .inl rfl
  · by_cases h : closedL n (f l) = []
    · exact .inl h
    · exact .inr (closed_full hn h)
set_option maxRecDepth 100000 in
set_option maxHeartbeats 4000000 in
theorem change_lim (n : Nat) (hn : n ≤ 8) (l : List Int) (hz : IsZ n l) (a : Option Addr) (m ca : Nat) (i j c : Int) (hs0 : ∀ (L : List Int) (g cap base : Nat) (W : World), Full n L → L.length = sz n → W.ownsRow base 3 1 (.slice (some ⟨g, 0, none⟩) (sz n) cap) (sz n) (nums .i64 L) → Calls Tryz.prog 214 #[.agg #[.int .i64 n, .slice (some ⟨g, 0, none⟩) (sz n) cap], .agg #[.int .i64 i, .int .i64 j, .int .i64 c]] W (MatS (sz n) g cap base (limL n L i.toNat j.toNat c) W)) (w : World) (h : SL w a m ca l) (gs : Nat) (hgs : gs < w.heap.size) (hcs : ∀ W, Below w.heap.size w W → W.cell? ⟨gs, 0, none⟩ = some (.func (.func 214) #[] #[])) :
    Calls Tryz.prog 210 #[.agg #[.int .i64 n, .slice a m ca], .agg #[.int .i64 i, .int .i64 j, .int .i64 c], .slice (some ⟨gs, 0, none⟩) 1 1] w (ZoneE n (stepL n (fun l => limL n l i.toNat j.toNat c) l) 0 w) := by
  obtain ⟨W1, hW1⟩ : ∃ W1, W1 = ((w.alloc (.cells #[.int .i64 n, .slice a m ca] 51)).alloc (.cells #[.int .i64 i, .int .i64 j, .int .i64 c] 196)).alloc (.cells #[.int .i64 0, .slice none 0 0] 51) := ⟨_, rfl⟩
  have hsz1 : W1.heap.size = w.heap.size + 3 := by rw [hW1]; simp
  have X1 : Cg w W1 (w.heap.size + 3) n (.int .i64 n) (.slice a m ca) i j c := by
    rw [hW1]
    refine ⟨(box2_below _ _ _ _ _).alloc (by simp; omega) _, by simp, ((Holds.new w _ _).alloc _).alloc _, ?_, ?_⟩
    · have := (Holds.new (w.alloc (.cells #[.int .i64 n, .slice a m ca] 51)) 196 #[.int .i64 i, .int .i64 j, .int .i64 c]).alloc (.cells #[.int .i64 0, .slice none 0 0] 51)
      simpa using this
    · have := Holds.new ((w.alloc (.cells #[.int .i64 n, .slice a m ca] 51)).alloc (.cells #[.int .i64 i, .int .i64 j, .int .i64 c] 196)) 51 #[.int .i64 0, .slice none 0 0]
      simpa using this
  have hsm := hz.small
  have q1 := Lib.hid (zclone_own n a m ca l (by have := h.len; omega) W1 (h.below X1.bl))
  have hcl := Lib.hid (fun (L : List Int) (W : World) (g cap : Nat) (hL : L.length = sz n) (hs : Sees .i64 W.heap.size W (some ⟨g, 0, none⟩) L) => dclose_own n hn (some ⟨g, 0, none⟩) L (sz n) cap hL.symm rfl W hs)
  have hem := Lib.hid (fun (L : List Int) (W : World) (b : Option Addr) (cb : Nat) (hs : SL W b L.length cb L) => zempty_any n b L.length cb L W hs)
  have hW1' := Lib.hid hW1
  have X1' := Lib.hid X1
  have hn' := Lib.hid hn
  have hgs' := Lib.hid hgs
  have hcs' := Lib.hid hcs
  have hz' := Lib.hid hz
  have hsz1' := Lib.hid hsz1
  have hfinal : Hid (∀ (L : List Int) (W : World) (b : Option Addr) (cb : Nat), Cg w W (w.heap.size + 3) n (.int .i64 n) (.slice b L.length cb) i j c → W.ownsRow (w.heap.size + 3) 3 1 (.slice b L.length cb) L.length (nums .i64 L) →
      ZH ((W.setCell ⟨w.heap.size + 1 + 1, 0, none⟩ (.int .i64 n)).setCell ⟨w.heap.size + 1 + 1, 1, none⟩ (.slice b L.length cb)) (w.heap.size + 1 + 1) (.int .i64 n) (.slice b L.length cb) ∧ ZoneE n L 0 w (.returned (.tuple #[.agg #[.int .i64 n, .slice b L.length cb], .int .i64 0])) ((W.setCell ⟨w.heap.size + 1 + 1, 0, none⟩ (.int .i64 n)).setCell ⟨w.heap.size + 1 + 1, 1, none⟩ (.slice b L.length cb))) := Lib.hid (fun L W b cb hC hO => by
    have hO2 := zown_set hO (g := w.heap.size + 1 + 1) (by omega) (.int .i64 n) (.slice b L.length cb)
    obtain ⟨b2, c2, hv, -, ss⟩ := sees_own hO2
    injection hv with e1 _ e3
    subst e1 e3
    exact ⟨zh_set hC.rb _ _, b, cb, rfl, own_cap hO, ss, (hC.bl.setCell (p := ⟨w.heap.size + 1 + 1, 0, none⟩) (by show _ ≤ _ + 1 + 1; omega) _).setCell (p := ⟨w.heap.size + 1 + 1, 1, none⟩) (by show _ ≤ _ + 1 + 1; omega) _, New.own hO (by omega)⟩)
  have hs0' := Lib.hid hs0
  obtain ⟨Q, hQ⟩ : ∃ Q : Nat → List Int, Q 0 = l ∧ Q 1 = (stepL n (fun l => limL n l i.toNat j.toNat c) l) := ⟨fun k => match k with | 0 => l | _ => (stepL n (fun l => limL n l i.toNat j.toNat c) l), rfl, rfl⟩
  have hQ0 : Hid (Q 0 = l) := Lib.hid hQ.1
  have hQ1 : Hid (Q 1 = if Q 0 = [] then [] else closedL n (limL n (Q 0) i.toNat j.toNat c)) := Lib.hid (by rw [hQ.2, hQ.1]; rfl)
  have hZ : Hid (∀ k, k ≤ 1 → IsZ n (Q k)) := Lib.hid (fun k hk => by
    match k, hk with
    | 0, _ => rw [hQ.1]; exact hz
    | 1, _ => rw [hQ.2]; exact stepL_isz hn _ _
    | k + 2, hk => omega)
  have hres : Hid ((stepL n (fun l => limL n l i.toNat j.toNat c) l) = Q 1) := Lib.hid hQ.2.symm
  rw [hres.out]
  clear hW1 X1 h hgs hcs hz hsz1 hn hQ hs0 hres
  go_enter Tryz.func210, Tryz.ntmps210
  go_wp2_with fail
  rw [← hW1'.out]
  refine q1.out.mono ?_
  rintro e w2 ⟨a2, c2, rfl, o2, b2⟩
  have C2 := X1'.out.on b2
  have z0 := C2.zb.cell 0
  have z1 := C2.zb.cell 1
  have f0 := C2.zb.free 0
  have f1 := C2.zb.free 1
  have C3 := Lib.hid (C2.set (.int .i64 n) (.slice a2 l.length c2))
  have O3 := Lib.hid (zown_set (own_from (B := w.heap.size + 3) o2 (fun k hk => by have := (o2.lt k hk).1; have := hsz1'.out; omega)) (g := w.heap.size) (by omega) (.int .i64 n) (.slice a2 l.length c2))
  rw [← hQ0.out] at C3 O3
  rw [← hQ0.out]
  clear C2 o2 b2 q1
  generalize hG : ((w2.setCell ⟨w.heap.size, 0, none⟩ (.int .i64 n)).setCell ⟨w.heap.size, 1, none⟩ (.slice a2 (Q 0).length c2)) = w3 at C3 O3
  have hG' := Lib.hid hG
  clear hG
  go_wp2
  rw [hG'.out]
  clear z0 z1 f0 f1 hG'
  go_loopw [14] (fun x wr => ∃ (k : Nat) (b : Option Addr) (cb : Nat), k ≤ 1 ∧ x = .int .i64 k ∧ Hid (Cg w wr (w.heap.size + 3) n (.int .i64 n) (.slice b (Q k).length cb) i j c) ∧ Hid (wr.ownsRow (w.heap.size + 3) 3 1 (.slice b (Q k).length cb) (Q k).length (nums .i64 (Q k)))) (fun x _ => 1 - (intOf x).toNat)
  case atStart => exact ⟨0, a2, c2, by omega, rfl, C3, O3⟩
  case round =>
    clear C3 O3
    obtain ⟨k, b, cb, hk, rfl, hC, hO⟩ := hrel
    by_cases hlt : k < 1
    · have hki : (k : Int) < 1 := by omega
      obtain rfl : k = 0 := by omega
      have hcell := (hcs'.out wr hC.out.bl)
      obtain ⟨b', cb', hv, -, ss⟩ := sees_own hO.out
      injection hv with e1 _ e3
      subst e1 e3
      have hcap := own_cap hO.out
      have hsmk := (hZ.out 0 (by omega)).small
      have S : Hid (SL wr b (Q 0).length cb (Q 0)) := Lib.hid ⟨rfl, hcap, by omega, ss⟩
      have z0 := hC.out.zb.cell 0
      have z1 := hC.out.zb.cell 1
      have p1 := Lib.hid (hem.out (Q 0) wr b cb S.out)
      clear ss hcap
      by_cases hnil : Q 0 = []
      · have hend : Hid (Q 1 = Q 0) := Lib.hid (by rw [hQ1.out, if_pos hnil, hnil])
        rw [decide_eq_true hnil] at p1
        clear hnil
        go_wp2_with fail
        refine p1.out.mono ?_
        rintro e w5 ⟨rfl, b5⟩
        have C5 := hC.out.on b5
        have O5 := own_below hO.out b5
        have y0 := C5.zb.cell 0
        have y1 := C5.zb.cell 1
        have r0 := C5.rb.cell 0
        have r1 := C5.rb.cell 1
        have g0 := C5.rb.free 0
        have g1 := C5.rb.free 1
        have hfin := Lib.hid (hfinal.out _ _ _ _ C5 O5)
        clear C5 O5 b5 p1 z0 z1
        go_wp2
        rw [hend.out]
        exact zone_ret2 hfin.out.1 hfin.out.2 _ _ 6 7 rfl rfl rfl rfl
      · have hF := ((hZ.out 0 (by omega)).2).resolve_left hnil
        rw [decide_eq_false hnil] at p1
        have hlk := hF.len
        obtain ⟨g, cap, hv, hg⟩ := own_some hO.out (by rw [hlk]; exact sz_pos n)
        injection hv with e1 _ e3
        subst e1 e3
        have hnx : Hid (closedL n (limL n (Q 0) i.toNat j.toNat c) = Q 1) := Lib.hid (by rw [hQ1.out, if_neg hnil])
        rw [hlk] at p1 z1 S hO hC
        try rw [hlk]
        have hst := Lib.hid (fun W hW => hs0'.out (Q 0) g cb (w.heap.size + 3) W hF hlk hW)
        have hflen : Hid ((limL n (Q 0) i.toNat j.toNat c).length = sz n) := Lib.hid (by unfold limL; rw [List.length_set]; exact hlk)
        have hcl2 := Lib.hid (fun W cap hs => hcl.out (limL n (Q 0) i.toNat j.toNat c) W g cap hflen.out hs)
        rw [hnx.out] at hcl2
        go_wp2_with fail
        refine p1.out.mono ?_
        rintro e w5 ⟨rfl, b5⟩
        have C5 := Lib.hid (hC.out.on b5)
        have O5 := Lib.hid (own_below hO.out b5)
        clear b5 p1 z0 z1 hcell
        have z0 := C5.out.zb.cell 0
        have z1 := C5.out.zb.cell 1
        have w0 := C5.out.wb.cell 0
        have w1 := C5.out.wb.cell 1
        have w2' := C5.out.wb.cell 2
        have p5 := Lib.hid (hst.out w5 O5.out)
        go_wp2_with fail
        refine p5.out.mono ?_
        rintro e w6 ⟨rfl, o6, b6⟩
        have C6 := Lib.hid (C5.out.onE (by omega) hg b6)
        obtain ⟨b7, c7, hv7, -, ss⟩ := sees_own o6
        have hlen6 := hflen.out
        rw [hlen6] at hv7
        injection hv7 with e1 _ e3
        subst e1 e3
        clear z0 z1 w0 w1 w2' b6 p5
        have z0 := C6.out.zb.cell 0
        have z1 := C6.out.zb.cell 1
        have p6 := Lib.hid (hcl2.out w6 cb ss)
        go_wp2_with fail
        refine p6.out.mono ?_
        rintro e w8 ⟨a8, c8, rfl, o8, b8⟩
        have C8 := C6.out.on b8
        have y0 := C8.zb.cell 0
        have y1 := C8.zb.cell 1
        have f0 := C8.zb.free 0
        have f1 := C8.zb.free 1
        have C9 := Lib.hid (C8.set (.int .i64 n) (.slice a8 (Q 1).length c8))
        have O9 := Lib.hid (zown_set (own_from (B := w.heap.size + 3) o8 (fun kk hk => by have := (o8.lt kk hk).1; have := C6.out.sz; omega)) (g := w.heap.size) (by omega) (.int .i64 n) (.slice a8 (Q 1).length c8))
        clear C8 o8 b8 p6 z0 z1
        go_wp2
        go_roundw
        case rel => exact ⟨1, a8, c8, by omega, by go_num, C9, O9⟩
        case measure => simp [intOf]
    · have hke : k = 1 := by omega
      subst hke
      have y0 := hC.out.zb.cell 0
      have y1 := hC.out.zb.cell 1
      have r0 := hC.out.rb.cell 0
      have r1 := hC.out.rb.cell 1
      have g0 := hC.out.rb.free 0
      have g1 := hC.out.rb.free 1
      have hfin := Lib.hid (hfinal.out _ _ _ _ hC.out hO.out)
      go_wp2
      exact zone_ret2 hfin.out.1 hfin.out.2 _ _ 6 7 rfl rfl rfl rfl
set_option maxRecDepth 100000 in
set_option maxHeartbeats 4000000 in
theorem change_for (n : Nat) (hn : n ≤ 8) (l : List Int) (hz : IsZ n l) (a : Option Addr) (m ca : Nat) (i j c : Int) (hs0 : ∀ (L : List Int) (g cap base : Nat) (W : World), Full n L → L.length = sz n → W.ownsRow base 3 1 (.slice (some ⟨g, 0, none⟩) (sz n) cap) (sz n) (nums .i64 L) → Calls Tryz.prog 212 #[.agg #[.int .i64 n, .slice (some ⟨g, 0, none⟩) (sz n) cap], .agg #[.int .i64 i, .int .i64 j, .int .i64 c]] W (MatS (sz n) g cap base (forL n L i.toNat) W)) (w : World) (h : SL w a m ca l) (gs : Nat) (hgs : gs < w.heap.size) (hcs : ∀ W, Below w.heap.size w W → W.cell? ⟨gs, 0, none⟩ = some (.func (.func 212) #[] #[])) :
    Calls Tryz.prog 210 #[.agg #[.int .i64 n, .slice a m ca], .agg #[.int .i64 i, .int .i64 j, .int .i64 c], .slice (some ⟨gs, 0, none⟩) 1 1] w (ZoneE n (stepL n (fun l => forL n l i.toNat) l) 0 w) := by
  obtain ⟨W1, hW1⟩ : ∃ W1, W1 = ((w.alloc (.cells #[.int .i64 n, .slice a m ca] 51)).alloc (.cells #[.int .i64 i, .int .i64 j, .int .i64 c] 196)).alloc (.cells #[.int .i64 0, .slice none 0 0] 51) := ⟨_, rfl⟩
  have hsz1 : W1.heap.size = w.heap.size + 3 := by rw [hW1]; simp
  have X1 : Cg w W1 (w.heap.size + 3) n (.int .i64 n) (.slice a m ca) i j c := by
    rw [hW1]
    refine ⟨(box2_below _ _ _ _ _).alloc (by simp; omega) _, by simp, ((Holds.new w _ _).alloc _).alloc _, ?_, ?_⟩
    · have := (Holds.new (w.alloc (.cells #[.int .i64 n, .slice a m ca] 51)) 196 #[.int .i64 i, .int .i64 j, .int .i64 c]).alloc (.cells #[.int .i64 0, .slice none 0 0] 51)
      simpa using this
    · have := Holds.new ((w.alloc (.cells #[.int .i64 n, .slice a m ca] 51)).alloc (.cells #[.int .i64 i, .int .i64 j, .int .i64 c] 196)) 51 #[.int .i64 0, .slice none 0 0]
      simpa using this
  have hsm := hz.small
  have q1 := Lib.hid (zclone_own n a m ca l (by have := h.len; omega) W1 (h.below X1.bl))
  have hcl := Lib.hid (fun (L : List Int) (W : World) (g cap : Nat) (hL : L.length = sz n) (hs : Sees .i64 W.heap.size W (some ⟨g, 0, none⟩) L) => dclose_own n hn (some ⟨g, 0, none⟩) L (sz n) cap hL.symm rfl W hs)
  have hem := Lib.hid (fun (L : List Int) (W : World) (b : Option Addr) (cb : Nat) (hs : SL W b L.length cb L) => zempty_any n b L.length cb L W hs)
  have hW1' := Lib.hid hW1
  have X1' := Lib.hid X1
  have hn' := Lib.hid hn
  have hgs' := Lib.hid hgs
  have hcs' := Lib.hid hcs
  have hz' := Lib.hid hz
  have hsz1' := Lib.hid hsz1
  have hfinal : Hid (∀ (L : List Int) (W : World) (b : Option Addr) (cb : Nat), Cg w W (w.heap.size + 3) n (.int .i64 n) (.slice b L.length cb) i j c → W.ownsRow (w.heap.size + 3) 3 1 (.slice b L.length cb) L.length (nums .i64 L) →
      ZH ((W.setCell ⟨w.heap.size + 1 + 1, 0, none⟩ (.int .i64 n)).setCell ⟨w.heap.size + 1 + 1, 1, none⟩ (.slice b L.length cb)) (w.heap.size + 1 + 1) (.int .i64 n) (.slice b L.length cb) ∧ ZoneE n L 0 w (.returned (.tuple #[.agg #[.int .i64 n, .slice b L.length cb], .int .i64 0])) ((W.setCell ⟨w.heap.size + 1 + 1, 0, none⟩ (.int .i64 n)).setCell ⟨w.heap.size + 1 + 1, 1, none⟩ (.slice b L.length cb))) := Lib.hid (fun L W b cb hC hO => by
    have hO2 := zown_set hO (g := w.heap.size + 1 + 1) (by omega) (.int .i64 n) (.slice b L.length cb)
    obtain ⟨b2, c2, hv, -, ss⟩ := sees_own hO2
    injection hv with e1 _ e3
    subst e1 e3
    exact ⟨zh_set hC.rb _ _, b, cb, rfl, own_cap hO, ss, (hC.bl.setCell (p := ⟨w.heap.size + 1 + 1, 0, none⟩) (by show _ ≤ _ + 1 + 1; omega) _).setCell (p := ⟨w.heap.size + 1 + 1, 1, none⟩) (by show _ ≤ _ + 1 + 1; omega) _, New.own hO (by omega)⟩)
  have hs0' := Lib.hid hs0
  obtain ⟨Q, hQ⟩ : ∃ Q : Nat → List Int, Q 0 = l ∧ Q 1 = (stepL n (fun l => forL n l i.toNat) l) := ⟨fun k => match k with | 0 => l | _ => (stepL n (fun l => forL n l i.toNat) l), rfl, rfl⟩
  have hQ0 : Hid (Q 0 = l) := Lib.hid hQ.1
  have hQ1 : Hid (Q 1 = if Q 0 = [] then [] else closedL n (forL n (Q 0) i.toNat)) := Lib.hid (by rw [hQ.2, hQ.1]; rfl)
  have hZ : Hid (∀ k, k ≤ 1 → IsZ n (Q k)) := Lib.hid (fun k hk => by
    match k, hk with
    | 0, _ => rw [hQ.1]; exact hz
    | 1, _ => rw [hQ.2]; exact stepL_isz hn _ _
    | k + 2, hk => omega)
  have hres : Hid ((stepL n (fun l => forL n l i.toNat) l) = Q 1) := Lib.hid hQ.2.symm
  rw [hres.out]
  clear hW1 X1 h hgs hcs hz hsz1 hn hQ hs0 hres
  go_enter Tryz.func210, Tryz.ntmps210
  go_wp2_with fail
  rw [← hW1'.out]
  refine q1.out.mono ?_
  rintro e w2 ⟨a2, c2, rfl, o2, b2⟩
  have C2 := X1'.out.on b2
  have z0 := C2.zb.cell 0
  have z1 := C2.zb.cell 1
  have f0 := C2.zb.free 0
  have f1 := C2.zb.free 1
  have C3 := Lib.hid (C2.set (.int .i64 n) (.slice a2 l.length c2))
  have O3 := Lib.hid (zown_set (own_from (B := w.heap.size + 3) o2 (fun k hk => by have := (o2.lt k hk).1; have := hsz1'.out; omega)) (g := w.heap.size) (by omega) (.int .i64 n) (.slice a2 l.length c2))
  rw [← hQ0.out] at C3 O3
  rw [← hQ0.out]
  clear C2 o2 b2 q1
  generalize hG : ((w2.setCell ⟨w.heap.size, 0, none⟩ (.int .i64 n)).setCell ⟨w.heap.size, 1, none⟩ (.slice a2 (Q 0).length c2)) = w3 at C3 O3
  have hG' := Lib.hid hG
  clear hG
  go_wp2
  rw [hG'.out]
  clear z0 z1 f0 f1 hG'
  go_loopw [14] (fun x wr => ∃ (k : Nat) (b : Option Addr) (cb : Nat), k ≤ 1 ∧ x = .int .i64 k ∧ Hid (Cg w wr (w.heap.size + 3) n (.int .i64 n) (.slice b (Q k).length cb) i j c) ∧ Hid (wr.ownsRow (w.heap.size + 3) 3 1 (.slice b (Q k).length cb) (Q k).length (nums .i64 (Q k)))) (fun x _ => 1 - (intOf x).toNat)
  case atStart => exact ⟨0, a2, c2, by omega, rfl, C3, O3⟩
  case round =>
    clear C3 O3
    obtain ⟨k, b, cb, hk, rfl, hC, hO⟩ := hrel
    by_cases hlt : k < 1
    · have hki : (k : Int) < 1 := by omega
      obtain rfl : k = 0 := by omega
      have hcell := (hcs'.out wr hC.out.bl)
      obtain ⟨b', cb', hv, -, ss⟩ := sees_own hO.out
      injection hv with e1 _ e3
      subst e1 e3
      have hcap := own_cap hO.out
      have hsmk := (hZ.out 0 (by omega)).small
      have S : Hid (SL wr b (Q 0).length cb (Q 0)) := Lib.hid ⟨rfl, hcap, by omega, ss⟩
      have z0 := hC.out.zb.cell 0
      have z1 := hC.out.zb.cell 1
      have p1 := Lib.hid (hem.out (Q 0) wr b cb S.out)
      clear ss hcap
      by_cases hnil : Q 0 = []
      · have hend : Hid (Q 1 = Q 0) := Lib.hid (by rw [hQ1.out, if_pos hnil, hnil])
        rw [decide_eq_true hnil] at p1
        clear hnil
        go_wp2_with fail
        refine p1.out.mono ?_
        rintro e w5 ⟨rfl, b5⟩
        have C5 := hC.out.on b5
        have O5 := own_below hO.out b5
        have y0 := C5.zb.cell 0
        have y1 := C5.zb.cell 1
        have r0 := C5.rb.cell 0
        have r1 := C5.rb.cell 1
        have g0 := C5.rb.free 0
        have g1 := C5.rb.free 1
        have hfin := Lib.hid (hfinal.out _ _ _ _ C5 O5)
        clear C5 O5 b5 p1 z0 z1
        go_wp2
        rw [hend.out]
        exact zone_ret2 hfin.out.1 hfin.out.2 _ _ 6 7 rfl rfl rfl rfl
      · have hF := ((hZ.out 0 (by omega)).2).resolve_left hnil
        rw [decide_eq_false hnil] at p1
        have hlk := hF.len
        obtain ⟨g, cap, hv, hg⟩ := own_some hO.out (by rw [hlk]; exact sz_pos n)
        injection hv with e1 _ e3
        subst e1 e3
        have hnx : Hid (closedL n (forL n (Q 0) i.toNat) = Q 1) := Lib.hid (by rw [hQ1.out, if_neg hnil])
        rw [hlk] at p1 z1 S hO hC
        try rw [hlk]
        have hst := Lib.hid (fun W hW => hs0'.out (Q 0) g cb (w.heap.size + 3) W hF hlk hW)
        have hflen : Hid ((forL n (Q 0) i.toNat).length = sz n) := Lib.hid (by unfold forL; rw [othK_len]; exact hlk)
        have hcl2 := Lib.hid (fun W cap hs => hcl.out (forL n (Q 0) i.toNat) W g cap hflen.out hs)
        rw [hnx.out] at hcl2
        go_wp2_with fail
        refine p1.out.mono ?_
        rintro e w5 ⟨rfl, b5⟩
        have C5 := Lib.hid (hC.out.on b5)
        have O5 := Lib.hid (own_below hO.out b5)
        clear b5 p1 z0 z1 hcell
        have z0 := C5.out.zb.cell 0
        have z1 := C5.out.zb.cell 1
        have w0 := C5.out.wb.cell 0
        have w1 := C5.out.wb.cell 1
        have w2' := C5.out.wb.cell 2
        have p5 := Lib.hid (hst.out w5 O5.out)
        go_wp2_with fail
        refine p5.out.mono ?_
        rintro e w6 ⟨rfl, o6, b6⟩
        have C6 := Lib.hid (C5.out.onE (by omega) hg b6)
        obtain ⟨b7, c7, hv7, -, ss⟩ := sees_own o6
        have hlen6 := hflen.out
        rw [hlen6] at hv7
        injection hv7 with e1 _ e3
        subst e1 e3
        clear z0 z1 w0 w1 w2' b6 p5
        have z0 := C6.out.zb.cell 0
        have z1 := C6.out.zb.cell 1
        have p6 := Lib.hid (hcl2.out w6 cb ss)
        go_wp2_with fail
        refine p6.out.mono ?_
        rintro e w8 ⟨a8, c8, rfl, o8, b8⟩
        have C8 := C6.out.on b8
        have y0 := C8.zb.cell 0
        have y1 := C8.zb.cell 1
        have f0 := C8.zb.free 0
        have f1 := C8.zb.free 1
        have C9 := Lib.hid (C8.set (.int .i64 n) (.slice a8 (Q 1).length c8))
        have O9 := Lib.hid (zown_set (own_from (B := w.heap.size + 3) o8 (fun kk hk => by have := (o8.lt kk hk).1; have := C6.out.sz; omega)) (g := w.heap.size) (by omega) (.int .i64 n) (.slice a8 (Q 1).length c8))
        clear C8 o8 b8 p6 z0 z1
        go_wp2
        go_roundw
        case rel => exact ⟨1, a8, c8, by omega, by go_num, C9, O9⟩
        case measure => simp [intOf]
    · have hke : k = 1 := by omega
      subst hke
      have y0 := hC.out.zb.cell 0
      have y1 := hC.out.zb.cell 1
      have r0 := hC.out.rb.cell 0
      have r1 := hC.out.rb.cell 1
      have g0 := hC.out.rb.free 0
      have g1 := hC.out.rb.free 1
      have hfin := Lib.hid (hfinal.out _ _ _ _ hC.out hO.out)
      go_wp2
      exact zone_ret2 hfin.out.1 hfin.out.2 _ _ 6 7 rfl rfl rfl rfl
set_option maxRecDepth 100000 in
set_option maxHeartbeats 4000000 in
theorem change_mov (n : Nat) (hn : n ≤ 8) (l : List Int) (hz : IsZ n l) (a : Option Addr) (m ca : Nat) (i j c : Int) (hs0 : ∀ (L : List Int) (g cap base : Nat) (W : World), Full n L → L.length = sz n → W.ownsRow base 3 1 (.slice (some ⟨g, 0, none⟩) (sz n) cap) (sz n) (nums .i64 L) → Calls Tryz.prog 211 #[.agg #[.int .i64 n, .slice (some ⟨g, 0, none⟩) (sz n) cap], .agg #[.int .i64 i, .int .i64 j, .int .i64 c]] W (MatS (sz n) g cap base (movL n L i.toNat c) W)) (w : World) (h : SL w a m ca l) (gs : Nat) (hgs : gs < w.heap.size) (hcs : ∀ W, Below w.heap.size w W → W.cell? ⟨gs, 0, none⟩ = some (.func (.func 211) #[] #[])) :
    Calls Tryz.prog 210 #[.agg #[.int .i64 n, .slice a m ca], .agg #[.int .i64 i, .int .i64 j, .int .i64 c], .slice (some ⟨gs, 0, none⟩) 1 1] w (ZoneE n (stepL n (fun l => movL n l i.toNat c) l) 0 w) := by
  obtain ⟨W1, hW1⟩ : ∃ W1, W1 = ((w.alloc (.cells #[.int .i64 n, .slice a m ca] 51)).alloc (.cells #[.int .i64 i, .int .i64 j, .int .i64 c] 196)).alloc (.cells #[.int .i64 0, .slice none 0 0] 51) := ⟨_, rfl⟩
  have hsz1 : W1.heap.size = w.heap.size + 3 := by rw [hW1]; simp
  have X1 : Cg w W1 (w.heap.size + 3) n (.int .i64 n) (.slice a m ca) i j c := by
    rw [hW1]
    refine ⟨(box2_below _ _ _ _ _).alloc (by simp; omega) _, by simp, ((Holds.new w _ _).alloc _).alloc _, ?_, ?_⟩
    · have := (Holds.new (w.alloc (.cells #[.int .i64 n, .slice a m ca] 51)) 196 #[.int .i64 i, .int .i64 j, .int .i64 c]).alloc (.cells #[.int .i64 0, .slice none 0 0] 51)
      simpa using this
    · have := Holds.new ((w.alloc (.cells #[.int .i64 n, .slice a m ca] 51)).alloc (.cells #[.int .i64 i, .int .i64 j, .int .i64 c] 196)) 51 #[.int .i64 0, .slice none 0 0]
      simpa using this
  have hsm := hz.small
  have q1 := Lib.hid (zclone_own n a m ca l (by have := h.len; omega) W1 (h.below X1.bl))
  have hcl := Lib.hid (fun (L : List Int) (W : World) (g cap : Nat) (hL : L.length = sz n) (hs : Sees .i64 W.heap.size W (some ⟨g, 0, none⟩) L) => dclose_own n hn (some ⟨g, 0, none⟩) L (sz n) cap hL.symm rfl W hs)
  have hem := Lib.hid (fun (L : List Int) (W : World) (b : Option Addr) (cb : Nat) (hs : SL W b L.length cb L) => zempty_any n b L.length cb L W hs)
  have hW1' := Lib.hid hW1
  have X1' := Lib.hid X1
  have hn' := Lib.hid hn
  have hgs' := Lib.hid hgs
  have hcs' := Lib.hid hcs
  have hz' := Lib.hid hz
  have hsz1' := Lib.hid hsz1
  have hfinal : Hid (∀ (L : List Int) (W : World) (b : Option Addr) (cb : Nat), Cg w W (w.heap.size + 3) n (.int .i64 n) (.slice b L.length cb) i j c → W.ownsRow (w.heap.size + 3) 3 1 (.slice b L.length cb) L.length (nums .i64 L) →
      ZH ((W.setCell ⟨w.heap.size + 1 + 1, 0, none⟩ (.int .i64 n)).setCell ⟨w.heap.size + 1 + 1, 1, none⟩ (.slice b L.length cb)) (w.heap.size + 1 + 1) (.int .i64 n) (.slice b L.length cb) ∧ ZoneE n L 0 w (.returned (.tuple #[.agg #[.int .i64 n, .slice b L.length cb], .int .i64 0])) ((W.setCell ⟨w.heap.size + 1 + 1, 0, none⟩ (.int .i64 n)).setCell ⟨w.heap.size + 1 + 1, 1, none⟩ (.slice b L.length cb))) := Lib.hid (fun L W b cb hC hO => by
    have hO2 := zown_set hO (g := w.heap.size + 1 + 1) (by omega) (.int .i64 n) (.slice b L.length cb)
    obtain ⟨b2, c2, hv, -, ss⟩ := sees_own hO2
    injection hv with e1 _ e3
    subst e1 e3
    exact ⟨zh_set hC.rb _ _, b, cb, rfl, own_cap hO, ss, (hC.bl.setCell (p := ⟨w.heap.size + 1 + 1, 0, none⟩) (by show _ ≤ _ + 1 + 1; omega) _).setCell (p := ⟨w.heap.size + 1 + 1, 1, none⟩) (by show _ ≤ _ + 1 + 1; omega) _, New.own hO (by omega)⟩)
  have hs0' := Lib.hid hs0
  obtain ⟨Q, hQ⟩ : ∃ Q : Nat → List Int, Q 0 = l ∧ Q 1 = (stepL n (fun l => movL n l i.toNat c) l) := ⟨fun k => match k with | 0 => l | _ => (stepL n (fun l => movL n l i.toNat c) l), rfl, rfl⟩
  have hQ0 : Hid (Q 0 = l) := Lib.hid hQ.1
  have hQ1 : Hid (Q 1 = if Q 0 = [] then [] else closedL n (movL n (Q 0) i.toNat c)) := Lib.hid (by rw [hQ.2, hQ.1]; rfl)
  have hZ : Hid (∀ k, k ≤ 1 → IsZ n (Q k)) := Lib.hid (fun k hk => by
    match k, hk with
    | 0, _ => rw [hQ.1]; exact hz
    | 1, _ => rw [hQ.2]; exact stepL_isz hn _ _
    | k + 2, hk => omega)
  have hres : Hid ((stepL n (fun l => movL n l i.toNat c) l) = Q 1) := Lib.hid hQ.2.symm
  rw [hres.out]
  clear hW1 X1 h hgs hcs hz hsz1 hn hQ hs0 hres
  go_enter Tryz.func210, Tryz.ntmps210
  go_wp2_with fail
  rw [← hW1'.out]
  refine q1.out.mono ?_
  rintro e w2 ⟨a2, c2, rfl, o2, b2⟩
  have C2 := X1'.out.on b2
  have z0 := C2.zb.cell 0
  have z1 := C2.zb.cell 1
  have f0 := C2.zb.free 0
  have f1 := C2.zb.free 1
  have C3 := Lib.hid (C2.set (.int .i64 n) (.slice a2 l.length c2))
  have O3 := Lib.hid (zown_set (own_from (B := w.heap.size + 3) o2 (fun k hk => by have := (o2.lt k hk).1; have := hsz1'.out; omega)) (g := w.heap.size) (by omega) (.int .i64 n) (.slice a2 l.length c2))
  rw [← hQ0.out] at C3 O3
  rw [← hQ0.out]
  clear C2 o2 b2 q1
  generalize hG : ((w2.setCell ⟨w.heap.size, 0, none⟩ (.int .i64 n)).setCell ⟨w.heap.size, 1, none⟩ (.slice a2 (Q 0).length c2)) = w3 at C3 O3
  have hG' := Lib.hid hG
  clear hG
  go_wp2
  rw [hG'.out]
  clear z0 z1 f0 f1 hG'
  go_loopw [14] (fun x wr => ∃ (k : Nat) (b : Option Addr) (cb : Nat), k ≤ 1 ∧ x = .int .i64 k ∧ Hid (Cg w wr (w.heap.size + 3) n (.int .i64 n) (.slice b (Q k).length cb) i j c) ∧ Hid (wr.ownsRow (w.heap.size + 3) 3 1 (.slice b (Q k).length cb) (Q k).length (nums .i64 (Q k)))) (fun x _ => 1 - (intOf x).toNat)
  case atStart => exact ⟨0, a2, c2, by omega, rfl, C3, O3⟩
  case round =>
    clear C3 O3
    obtain ⟨k, b, cb, hk, rfl, hC, hO⟩ := hrel
    by_cases hlt : k < 1
    · have hki : (k : Int) < 1 := by omega
      obtain rfl : k = 0 := by omega
      have hcell := (hcs'.out wr hC.out.bl)
      obtain ⟨b', cb', hv, -, ss⟩ := sees_own hO.out
      injection hv with e1 _ e3
      subst e1 e3
      have hcap := own_cap hO.out
      have hsmk := (hZ.out 0 (by omega)).small
      have S : Hid (SL wr b (Q 0).length cb (Q 0)) := Lib.hid ⟨rfl, hcap, by omega, ss⟩
      have z0 := hC.out.zb.cell 0
      have z1 := hC.out.zb.cell 1
      have p1 := Lib.hid (hem.out (Q 0) wr b cb S.out)
      clear ss hcap
      by_cases hnil : Q 0 = []
      · have hend : Hid (Q 1 = Q 0) := Lib.hid (by rw [hQ1.out, if_pos hnil, hnil])
        rw [decide_eq_true hnil] at p1
        clear hnil
        go_wp2_with fail
        refine p1.out.mono ?_
        rintro e w5 ⟨rfl, b5⟩
        have C5 := hC.out.on b5
        have O5 := own_below hO.out b5
        have y0 := C5.zb.cell 0
        have y1 := C5.zb.cell 1
        have r0 := C5.rb.cell 0
        have r1 := C5.rb.cell 1
        have g0 := C5.rb.free 0
        have g1 := C5.rb.free 1
        have hfin := Lib.hid (hfinal.out _ _ _ _ C5 O5)
        clear C5 O5 b5 p1 z0 z1
        go_wp2
        rw [hend.out]
        exact zone_ret2 hfin.out.1 hfin.out.2 _ _ 6 7 rfl rfl rfl rfl
      · have hF := ((hZ.out 0 (by omega)).2).resolve_left hnil
        rw [decide_eq_false hnil] at p1
        have hlk := hF.len
        obtain ⟨g, cap, hv, hg⟩ := own_some hO.out (by rw [hlk]; exact sz_pos n)
        injection hv with e1 _ e3
        subst e1 e3
        have hnx : Hid (closedL n (movL n (Q 0) i.toNat c) = Q 1) := Lib.hid (by rw [hQ1.out, if_neg hnil])
        rw [hlk] at p1 z1 S hO hC
        try rw [hlk]
        have hst := Lib.hid (fun W hW => hs0'.out (Q 0) g cb (w.heap.size + 3) W hF hlk hW)
        have hflen : Hid ((movL n (Q 0) i.toNat c).length = sz n) := Lib.hid (by unfold movL; rw [othK_len]; exact hlk)
        have hcl2 := Lib.hid (fun W cap hs => hcl.out (movL n (Q 0) i.toNat c) W g cap hflen.out hs)
        rw [hnx.out] at hcl2
        go_wp2_with fail
        refine p1.out.mono ?_
        rintro e w5 ⟨rfl, b5⟩
        have C5 := Lib.hid (hC.out.on b5)
        have O5 := Lib.hid (own_below hO.out b5)
        clear b5 p1 z0 z1 hcell
        have z0 := C5.out.zb.cell 0
        have z1 := C5.out.zb.cell 1
        have w0 := C5.out.wb.cell 0
        have w1 := C5.out.wb.cell 1
        have w2' := C5.out.wb.cell 2
        have p5 := Lib.hid (hst.out w5 O5.out)
        go_wp2_with fail
        refine p5.out.mono ?_
        rintro e w6 ⟨rfl, o6, b6⟩
        have C6 := Lib.hid (C5.out.onE (by omega) hg b6)
        obtain ⟨b7, c7, hv7, -, ss⟩ := sees_own o6
        have hlen6 := hflen.out
        rw [hlen6] at hv7
        injection hv7 with e1 _ e3
        subst e1 e3
        clear z0 z1 w0 w1 w2' b6 p5
        have z0 := C6.out.zb.cell 0
        have z1 := C6.out.zb.cell 1
        have p6 := Lib.hid (hcl2.out w6 cb ss)
        go_wp2_with fail
        refine p6.out.mono ?_
        rintro e w8 ⟨a8, c8, rfl, o8, b8⟩
        have C8 := C6.out.on b8
        have y0 := C8.zb.cell 0
        have y1 := C8.zb.cell 1
        have f0 := C8.zb.free 0
        have f1 := C8.zb.free 1
        have C9 := Lib.hid (C8.set (.int .i64 n) (.slice a8 (Q 1).length c8))
        have O9 := Lib.hid (zown_set (own_from (B := w.heap.size + 3) o8 (fun kk hk => by have := (o8.lt kk hk).1; have := C6.out.sz; omega)) (g := w.heap.size) (by omega) (.int .i64 n) (.slice a8 (Q 1).length c8))
        clear C8 o8 b8 p6 z0 z1
        go_wp2
        go_roundw
        case rel => exact ⟨1, a8, c8, by omega, by go_num, C9, O9⟩
        case measure => simp [intOf]
    · have hke : k = 1 := by omega
      subst hke
      have y0 := hC.out.zb.cell 0
      have y1 := hC.out.zb.cell 1
      have r0 := hC.out.rb.cell 0
      have r1 := hC.out.rb.cell 1
      have g0 := hC.out.rb.free 0
      have g1 := hC.out.rb.free 1
      have hfin := Lib.hid (hfinal.out _ _ _ _ hC.out hO.out)
      go_wp2
      exact zone_ret2 hfin.out.1 hfin.out.2 _ _ 6 7 rfl rfl rfl rfl
set_option maxRecDepth 100000 in
set_option maxHeartbeats 4000000 in
theorem change_tie (n : Nat) (hn : n ≤ 8) (l : List Int) (hz : IsZ n l) (a : Option Addr) (m ca : Nat) (i j c : Int) (hs0 : ∀ (L : List Int) (g cap base : Nat) (W : World), Full n L → L.length = sz n → W.ownsRow base 3 1 (.slice (some ⟨g, 0, none⟩) (sz n) cap) (sz n) (nums .i64 L) → Calls Tryz.prog 212 #[.agg #[.int .i64 n, .slice (some ⟨g, 0, none⟩) (sz n) cap], .agg #[.int .i64 i, .int .i64 j, .int .i64 c]] W (MatS (sz n) g cap base (forL n L i.toNat) W)) (hs1 : ∀ (L : List Int) (g cap base : Nat) (W : World), Full n L → L.length = sz n → W.ownsRow base 3 1 (.slice (some ⟨g, 0, none⟩) (sz n) cap) (sz n) (nums .i64 L) → Calls Tryz.prog 213 #[.agg #[.int .i64 n, .slice (some ⟨g, 0, none⟩) (sz n) cap], .agg #[.int .i64 i, .int .i64 j, .int .i64 c]] W (MatS (sz n) g cap base (tieL n L i.toNat j.toNat c) W)) (w : World) (h : SL w a m ca l) (gs : Nat) (hgs : gs < w.heap.size) (hcs : ∀ W, Below w.heap.size w W → W.cell? ⟨gs, 0, none⟩ = some (.func (.func 212) #[] #[]) ∧ W.cell? ⟨gs, 1, none⟩ = some (.func (.func 213) #[] #[])) :
    Calls Tryz.prog 210 #[.agg #[.int .i64 n, .slice a m ca], .agg #[.int .i64 i, .int .i64 j, .int .i64 c], .slice (some ⟨gs, 0, none⟩) 2 2] w (ZoneE n (stepL n (fun l => tieL n l i.toNat j.toNat c) (stepL n (fun l => forL n l i.toNat) l)) 0 w) := by
  obtain ⟨W1, hW1⟩ : ∃ W1, W1 = ((w.alloc (.cells #[.int .i64 n, .slice a m ca] 51)).alloc (.cells #[.int .i64 i, .int .i64 j, .int .i64 c] 196)).alloc (.cells #[.int .i64 0, .slice none 0 0] 51) := ⟨_, rfl⟩
  have hsz1 : W1.heap.size = w.heap.size + 3 := by rw [hW1]; simp
  have X1 : Cg w W1 (w.heap.size + 3) n (.int .i64 n) (.slice a m ca) i j c := by
    rw [hW1]
    refine ⟨(box2_below _ _ _ _ _).alloc (by simp; omega) _, by simp, ((Holds.new w _ _).alloc _).alloc _, ?_, ?_⟩
    · have := (Holds.new (w.alloc (.cells #[.int .i64 n, .slice a m ca] 51)) 196 #[.int .i64 i, .int .i64 j, .int .i64 c]).alloc (.cells #[.int .i64 0, .slice none 0 0] 51)
      simpa using this
    · have := Holds.new ((w.alloc (.cells #[.int .i64 n, .slice a m ca] 51)).alloc (.cells #[.int .i64 i, .int .i64 j, .int .i64 c] 196)) 51 #[.int .i64 0, .slice none 0 0]
      simpa using this
  have hsm := hz.small
  have q1 := Lib.hid (zclone_own n a m ca l (by have := h.len; omega) W1 (h.below X1.bl))
  have hcl := Lib.hid (fun (L : List Int) (W : World) (g cap : Nat) (hL : L.length = sz n) (hs : Sees .i64 W.heap.size W (some ⟨g, 0, none⟩) L) => dclose_own n hn (some ⟨g, 0, none⟩) L (sz n) cap hL.symm rfl W hs)
  have hem := Lib.hid (fun (L : List Int) (W : World) (b : Option Addr) (cb : Nat) (hs : SL W b L.length cb L) => zempty_any n b L.length cb L W hs)
  have hW1' := Lib.hid hW1
  have X1' := Lib.hid X1
  have hn' := Lib.hid hn
  have hgs' := Lib.hid hgs
  have hcs' := Lib.hid hcs
  have hz' := Lib.hid hz
  have hsz1' := Lib.hid hsz1
  have hfinal : Hid (∀ (L : List Int) (W : World) (b : Option Addr) (cb : Nat), Cg w W (w.heap.size + 3) n (.int .i64 n) (.slice b L.length cb) i j c → W.ownsRow (w.heap.size + 3) 3 1 (.slice b L.length cb) L.length (nums .i64 L) →
      ZH ((W.setCell ⟨w.heap.size + 1 + 1, 0, none⟩ (.int .i64 n)).setCell ⟨w.heap.size + 1 + 1, 1, none⟩ (.slice b L.length cb)) (w.heap.size + 1 + 1) (.int .i64 n) (.slice b L.length cb) ∧ ZoneE n L 0 w (.returned (.tuple #[.agg #[.int .i64 n, .slice b L.length cb], .int .i64 0])) ((W.setCell ⟨w.heap.size + 1 + 1, 0, none⟩ (.int .i64 n)).setCell ⟨w.heap.size + 1 + 1, 1, none⟩ (.slice b L.length cb))) := Lib.hid (fun L W b cb hC hO => by
    have hO2 := zown_set hO (g := w.heap.size + 1 + 1) (by omega) (.int .i64 n) (.slice b L.length cb)
    obtain ⟨b2, c2, hv, -, ss⟩ := sees_own hO2
    injection hv with e1 _ e3
    subst e1 e3
    exact ⟨zh_set hC.rb _ _, b, cb, rfl, own_cap hO, ss, (hC.bl.setCell (p := ⟨w.heap.size + 1 + 1, 0, none⟩) (by show _ ≤ _ + 1 + 1; omega) _).setCell (p := ⟨w.heap.size + 1 + 1, 1, none⟩) (by show _ ≤ _ + 1 + 1; omega) _, New.own hO (by omega)⟩)
  have hs0' := Lib.hid hs0
  have hs1' := Lib.hid hs1
  obtain ⟨Q, hQ⟩ : ∃ Q : Nat → List Int, Q 0 = l ∧ Q 1 = (stepL n (fun l => forL n l i.toNat) l) ∧ Q 2 = (stepL n (fun l => tieL n l i.toNat j.toNat c) (stepL n (fun l => forL n l i.toNat) l)) := ⟨fun k => match k with | 0 => l | 1 => (stepL n (fun l => forL n l i.toNat) l) | _ => (stepL n (fun l => tieL n l i.toNat j.toNat c) (stepL n (fun l => forL n l i.toNat) l)), rfl, rfl, rfl⟩
  have hQ0 : Hid (Q 0 = l) := Lib.hid hQ.1
  have hQ1 : Hid (Q 1 = if Q 0 = [] then [] else closedL n (forL n (Q 0) i.toNat)) := Lib.hid (by rw [hQ.2.1, hQ.1]; rfl)
  have hQ2 : Hid (Q 2 = if Q 1 = [] then [] else closedL n (tieL n (Q 1) i.toNat j.toNat c)) := Lib.hid (by rw [hQ.2.2, hQ.2.1]; rfl)
  have hZ : Hid (∀ k, k ≤ 2 → IsZ n (Q k)) := Lib.hid (fun k hk => by
    match k, hk with
    | 0, _ => rw [hQ.1]; exact hz
    | 1, _ => rw [hQ.2.1]; exact stepL_isz hn _ _
    | 2, _ => rw [hQ.2.2]; exact stepL_isz hn _ _
    | k + 3, hk => omega)
  have hres : Hid ((stepL n (fun l => tieL n l i.toNat j.toNat c) (stepL n (fun l => forL n l i.toNat) l)) = Q 2) := Lib.hid hQ.2.2.symm
  rw [hres.out]
  clear hW1 X1 h hgs hcs hz hsz1 hn hQ hs0 hs1 hres
  go_enter Tryz.func210, Tryz.ntmps210
  go_wp2_with fail
  rw [← hW1'.out]
  refine q1.out.mono ?_
  rintro e w2 ⟨a2, c2, rfl, o2, b2⟩
  have C2 := X1'.out.on b2
  have z0 := C2.zb.cell 0
  have z1 := C2.zb.cell 1
  have f0 := C2.zb.free 0
  have f1 := C2.zb.free 1
  have C3 := Lib.hid (C2.set (.int .i64 n) (.slice a2 l.length c2))
  have O3 := Lib.hid (zown_set (own_from (B := w.heap.size + 3) o2 (fun k hk => by have := (o2.lt k hk).1; have := hsz1'.out; omega)) (g := w.heap.size) (by omega) (.int .i64 n) (.slice a2 l.length c2))
  rw [← hQ0.out] at C3 O3
  rw [← hQ0.out]
  clear C2 o2 b2 q1
  generalize hG : ((w2.setCell ⟨w.heap.size, 0, none⟩ (.int .i64 n)).setCell ⟨w.heap.size, 1, none⟩ (.slice a2 (Q 0).length c2)) = w3 at C3 O3
  have hG' := Lib.hid hG
  clear hG
  go_wp2
  rw [hG'.out]
  clear z0 z1 f0 f1 hG'
  go_loopw [14] (fun x wr => ∃ (k : Nat) (b : Option Addr) (cb : Nat), k ≤ 2 ∧ x = .int .i64 k ∧ Hid (Cg w wr (w.heap.size + 3) n (.int .i64 n) (.slice b (Q k).length cb) i j c) ∧ Hid (wr.ownsRow (w.heap.size + 3) 3 1 (.slice b (Q k).length cb) (Q k).length (nums .i64 (Q k)))) (fun x _ => 2 - (intOf x).toNat)
  case atStart => exact ⟨0, a2, c2, by omega, rfl, C3, O3⟩
  case round =>
    clear C3 O3
    obtain ⟨k, b, cb, hk, rfl, hC, hO⟩ := hrel
    by_cases hlt : k < 2
    · have hki : (k : Int) < 2 := by omega
      obtain rfl | rfl : k = 0 ∨ k = 1 := by omega
      · have hcell := (hcs'.out wr hC.out.bl).1
        obtain ⟨b', cb', hv, -, ss⟩ := sees_own hO.out
        injection hv with e1 _ e3
        subst e1 e3
        have hcap := own_cap hO.out
        have hsmk := (hZ.out 0 (by omega)).small
        have S : Hid (SL wr b (Q 0).length cb (Q 0)) := Lib.hid ⟨rfl, hcap, by omega, ss⟩
        have z0 := hC.out.zb.cell 0
        have z1 := hC.out.zb.cell 1
        have p1 := Lib.hid (hem.out (Q 0) wr b cb S.out)
        clear ss hcap
        by_cases hnil : Q 0 = []
        · have hend : Hid (Q 2 = Q 0) := Lib.hid (by rw [hQ2.out, hQ1.out, if_pos hnil, if_pos rfl, hnil])
          rw [decide_eq_true hnil] at p1
          clear hnil
          go_wp2_with fail
          refine p1.out.mono ?_
          rintro e w5 ⟨rfl, b5⟩
          have C5 := hC.out.on b5
          have O5 := own_below hO.out b5
          have y0 := C5.zb.cell 0
          have y1 := C5.zb.cell 1
          have r0 := C5.rb.cell 0
          have r1 := C5.rb.cell 1
          have g0 := C5.rb.free 0
          have g1 := C5.rb.free 1
          have hfin := Lib.hid (hfinal.out _ _ _ _ C5 O5)
          clear C5 O5 b5 p1 z0 z1
          go_wp2
          rw [hend.out]
          exact zone_ret2 hfin.out.1 hfin.out.2 _ _ 6 7 rfl rfl rfl rfl
        · have hF := ((hZ.out 0 (by omega)).2).resolve_left hnil
          rw [decide_eq_false hnil] at p1
          have hlk := hF.len
          obtain ⟨g, cap, hv, hg⟩ := own_some hO.out (by rw [hlk]; exact sz_pos n)
          injection hv with e1 _ e3
          subst e1 e3
          have hnx : Hid (closedL n (forL n (Q 0) i.toNat) = Q 1) := Lib.hid (by rw [hQ1.out, if_neg hnil])
          rw [hlk] at p1 z1 S hO hC
          try rw [hlk]
          have hst := Lib.hid (fun W hW => hs0'.out (Q 0) g cb (w.heap.size + 3) W hF hlk hW)
          have hflen : Hid ((forL n (Q 0) i.toNat).length = sz n) := Lib.hid (by unfold forL; rw [othK_len]; exact hlk)
          have hcl2 := Lib.hid (fun W cap hs => hcl.out (forL n (Q 0) i.toNat) W g cap hflen.out hs)
          rw [hnx.out] at hcl2
          go_wp2_with fail
          refine p1.out.mono ?_
          rintro e w5 ⟨rfl, b5⟩
          have C5 := Lib.hid (hC.out.on b5)
          have O5 := Lib.hid (own_below hO.out b5)
          clear b5 p1 z0 z1 hcell
          have z0 := C5.out.zb.cell 0
          have z1 := C5.out.zb.cell 1
          have w0 := C5.out.wb.cell 0
          have w1 := C5.out.wb.cell 1
          have w2' := C5.out.wb.cell 2
          have p5 := Lib.hid (hst.out w5 O5.out)
          go_wp2_with fail
          refine p5.out.mono ?_
          rintro e w6 ⟨rfl, o6, b6⟩
          have C6 := Lib.hid (C5.out.onE (by omega) hg b6)
          obtain ⟨b7, c7, hv7, -, ss⟩ := sees_own o6
          have hlen6 := hflen.out
          rw [hlen6] at hv7
          injection hv7 with e1 _ e3
          subst e1 e3
          clear z0 z1 w0 w1 w2' b6 p5
          have z0 := C6.out.zb.cell 0
          have z1 := C6.out.zb.cell 1
          have p6 := Lib.hid (hcl2.out w6 cb ss)
          go_wp2_with fail
          refine p6.out.mono ?_
          rintro e w8 ⟨a8, c8, rfl, o8, b8⟩
          have C8 := C6.out.on b8
          have y0 := C8.zb.cell 0
          have y1 := C8.zb.cell 1
          have f0 := C8.zb.free 0
          have f1 := C8.zb.free 1
          have C9 := Lib.hid (C8.set (.int .i64 n) (.slice a8 (Q 1).length c8))
          have O9 := Lib.hid (zown_set (own_from (B := w.heap.size + 3) o8 (fun kk hk => by have := (o8.lt kk hk).1; have := C6.out.sz; omega)) (g := w.heap.size) (by omega) (.int .i64 n) (.slice a8 (Q 1).length c8))
          clear C8 o8 b8 p6 z0 z1
          go_wp2
          go_roundw
          case rel => exact ⟨1, a8, c8, by omega, by go_num, C9, O9⟩
          case measure => simp [intOf]
      · have hcell := (hcs'.out wr hC.out.bl).2
        obtain ⟨b', cb', hv, -, ss⟩ := sees_own hO.out
        injection hv with e1 _ e3
        subst e1 e3
        have hcap := own_cap hO.out
        have hsmk := (hZ.out 1 (by omega)).small
        have S : Hid (SL wr b (Q 1).length cb (Q 1)) := Lib.hid ⟨rfl, hcap, by omega, ss⟩
        have z0 := hC.out.zb.cell 0
        have z1 := hC.out.zb.cell 1
        have p1 := Lib.hid (hem.out (Q 1) wr b cb S.out)
        clear ss hcap
        by_cases hnil : Q 1 = []
        · have hend : Hid (Q 2 = Q 1) := Lib.hid (by rw [hQ2.out, if_pos hnil, hnil])
          rw [decide_eq_true hnil] at p1
          clear hnil
          go_wp2_with fail
          refine p1.out.mono ?_
          rintro e w5 ⟨rfl, b5⟩
          have C5 := hC.out.on b5
          have O5 := own_below hO.out b5
          have y0 := C5.zb.cell 0
          have y1 := C5.zb.cell 1
          have r0 := C5.rb.cell 0
          have r1 := C5.rb.cell 1
          have g0 := C5.rb.free 0
          have g1 := C5.rb.free 1
          have hfin := Lib.hid (hfinal.out _ _ _ _ C5 O5)
          clear C5 O5 b5 p1 z0 z1
          go_wp2
          rw [hend.out]
          exact zone_ret2 hfin.out.1 hfin.out.2 _ _ 6 7 rfl rfl rfl rfl
        · have hF := ((hZ.out 1 (by omega)).2).resolve_left hnil
          rw [decide_eq_false hnil] at p1
          have hlk := hF.len
          obtain ⟨g, cap, hv, hg⟩ := own_some hO.out (by rw [hlk]; exact sz_pos n)
          injection hv with e1 _ e3
          subst e1 e3
          have hnx : Hid (closedL n (tieL n (Q 1) i.toNat j.toNat c) = Q 2) := Lib.hid (by rw [hQ2.out, if_neg hnil])
          rw [hlk] at p1 z1 S hO hC
          try rw [hlk]
          have hst := Lib.hid (fun W hW => hs1'.out (Q 1) g cb (w.heap.size + 3) W hF hlk hW)
          have hflen : Hid ((tieL n (Q 1) i.toNat j.toNat c).length = sz n) := Lib.hid (by unfold tieL; rw [limL_len, limL_len]; exact hlk)
          have hcl2 := Lib.hid (fun W cap hs => hcl.out (tieL n (Q 1) i.toNat j.toNat c) W g cap hflen.out hs)
          rw [hnx.out] at hcl2
          go_wp2_with fail
          refine p1.out.mono ?_
          rintro e w5 ⟨rfl, b5⟩
          have C5 := Lib.hid (hC.out.on b5)
          have O5 := Lib.hid (own_below hO.out b5)
          clear b5 p1 z0 z1 hcell
          have z0 := C5.out.zb.cell 0
          have z1 := C5.out.zb.cell 1
          have w0 := C5.out.wb.cell 0
          have w1 := C5.out.wb.cell 1
          have w2' := C5.out.wb.cell 2
          have p5 := Lib.hid (hst.out w5 O5.out)
          go_wp2_with fail
          refine p5.out.mono ?_
          rintro e w6 ⟨rfl, o6, b6⟩
          have C6 := Lib.hid (C5.out.onE (by omega) hg b6)
          obtain ⟨b7, c7, hv7, -, ss⟩ := sees_own o6
          have hlen6 := hflen.out
          rw [hlen6] at hv7
          injection hv7 with e1 _ e3
          subst e1 e3
          clear z0 z1 w0 w1 w2' b6 p5
          have z0 := C6.out.zb.cell 0
          have z1 := C6.out.zb.cell 1
          have p6 := Lib.hid (hcl2.out w6 cb ss)
          go_wp2_with fail
          refine p6.out.mono ?_
          rintro e w8 ⟨a8, c8, rfl, o8, b8⟩
          have C8 := C6.out.on b8
          have y0 := C8.zb.cell 0
          have y1 := C8.zb.cell 1
          have f0 := C8.zb.free 0
          have f1 := C8.zb.free 1
          have C9 := Lib.hid (C8.set (.int .i64 n) (.slice a8 (Q 2).length c8))
          have O9 := Lib.hid (zown_set (own_from (B := w.heap.size + 3) o8 (fun kk hk => by have := (o8.lt kk hk).1; have := C6.out.sz; omega)) (g := w.heap.size) (by omega) (.int .i64 n) (.slice a8 (Q 2).length c8))
          clear C8 o8 b8 p6 z0 z1
          go_wp2
          go_roundw
          case rel => exact ⟨2, a8, c8, by omega, by go_num, C9, O9⟩
          case measure => simp [intOf]
    · have hke : k = 2 := by omega
      subst hke
      have y0 := hC.out.zb.cell 0
      have y1 := hC.out.zb.cell 1
      have r0 := hC.out.rb.cell 0
      have r1 := hC.out.rb.cell 1
      have g0 := hC.out.rb.free 0
      have g1 := hC.out.rb.free 1
      have hfin := Lib.hid (hfinal.out _ _ _ _ hC.out hO.out)
      go_wp2
      exact zone_ret2 hfin.out.1 hfin.out.2 _ _ 6 7 rfl rfl rfl rfl
end Go.Proofs.YtimgocfkogebmaaGreatDoor
