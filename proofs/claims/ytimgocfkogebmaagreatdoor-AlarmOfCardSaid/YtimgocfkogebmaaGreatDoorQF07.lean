/-
  Words and walks under the law's proof.
-/
import Derived.Test.YtimgocfkogebmaaGreatDoorQF06
namespace Go.Proofs.YtimgocfkogebmaaGreatDoor
open Go.RowKit
set_option linter.unusedVariables false
set_option linter.unusedSimpArgs false
def postL (n : Nat) (l : List Int) (k x y c d : Int) : List Int := if k = 1 then l else if k = 2 then letL n l x.toNat y.toNat c else if k = 3 then limitL n (limitL n (forgetL n l x.toNat) x.toNat 0 d) 0 x.toNat (-c) else limitL n l x.toNat y.toNat c
def faultL (n : Nat) (l : List Int) (k x y c : Int) : List Int := if k = 5 then limitL n l y.toNat x.toNat (-c - 1) else []
theorem info_steps : (Tryz.prog.info? 167).map (·.size) = some 6 := by kernel_rfl
def stepsA : Array Value := #[.nilFunc, .func (.func 184) #[] #[], .func (.func 185) #[] #[], .func (.func 186) #[] #[], .func (.func 187) #[] #[], .func (.func 187) #[] #[]]
theorem steps_any (w : World) : Calls Tryz.prog 145 #[] w (Gives (.agg stepsA) w) := by
  go_enter Tryz.func145, Tryz.ntmps145
  go_wp2
  exact bodyPost_ret (v := .agg stepsA) (results_cell_row rfl _ _ w.heap.size 167 stepsA (0, 0) _ rfl (heap_alloc_new w (.cells stepsA 167)) Tryz.underlying167 rfl (by rw [info_steps]; rfl)) rfl ⟨rfl, (Below.refl _ _).alloc (Nat.le_refl _) _⟩
def faultsA : Array Value := #[.nilFunc, .func (.func 198) #[] #[], .func (.func 198) #[] #[], .func (.func 198) #[] #[], .func (.func 198) #[] #[], .func (.func 199) #[] #[]]
theorem faults_any (w : World) : Calls Tryz.prog 173 #[] w (Gives (.agg faultsA) w) := by
  go_enter Tryz.func173, Tryz.ntmps173
  go_wp2
  exact bodyPost_ret (v := .agg faultsA) (results_cell_row rfl _ _ w.heap.size 167 faultsA (0, 0) _ rfl (heap_alloc_new w (.cells faultsA 167)) Tryz.underlying167 rfl (by rw [info_steps]; rfl)) rfl ⟨rfl, (Below.refl _ _).alloc (Nat.le_refl _) _⟩
structure P4 (w W : World) (zn zm : Value) (st tab : Array Value) (rn rm : Value) : Prop where
  bl : Below w.heap.size w W
  z : ZH W w.heap.size zn zm
  s : Holds W (w.heap.size + 1) 73 st
  t : Holds W (w.heap.size + 2) 167 tab
  r : ZH W (w.heap.size + 3) rn rm
theorem P4.on {w W W' : World} {zn zm rn rm : Value} {st tab : Array Value} (h : P4 w W zn zm st tab rn rm) (hb : Below W.heap.size W W') : P4 w W' zn zm st tab rn rm :=
  ⟨h.bl.trans (hb.mono h.bl.size), h.z.below hb h.z.lt, h.s.below hb h.s.lt, h.t.below hb h.t.lt, h.r.below hb h.r.lt⟩
theorem p4_new (w : World) (zn zm : Value) (st tab : Array Value) : P4 w ((((w.alloc (.cells #[zn, zm] 51)).alloc (.cells st 73)).alloc (.cells tab 167)).alloc (.cells #[.int .i64 0, .slice none 0 0] 51)) zn zm st tab (.int .i64 0) (.slice none 0 0) := by
  refine ⟨(((box_below _ _ _).alloc (by simp) _).alloc (by simp; omega) _).alloc (by simp; omega) _, (((Holds.new w _ _).alloc _).alloc _).alloc _, ?_, ?_, ?_⟩
  · have := ((Holds.new (w.alloc (.cells #[zn, zm] 51)) 73 st).alloc (.cells tab 167)).alloc (.cells #[.int .i64 0, .slice none 0 0] 51)
    simpa using this
  · have := (Holds.new ((w.alloc (.cells #[zn, zm] 51)).alloc (.cells st 73)) 167 tab).alloc (.cells #[.int .i64 0, .slice none 0 0] 51)
    simpa using this
  · have := Holds.new (((w.alloc (.cells #[zn, zm] 51)).alloc (.cells st 73)).alloc (.cells tab 167)) 51 #[.int .i64 0, .slice none 0 0]
    simpa using this
set_option maxRecDepth 100000 in
set_option maxHeartbeats 400000 in
theorem do_steps_1 (n : Nat) (x y c d : Int) (l R : List Int) (hz : IsZ n l) (hr : rightB 1 x y c d n = true) (a : Option Addr) (m ca : Nat)
    (hq : ∀ W, SL W a m ca l → Calls Tryz.prog 184 #[.agg #[.int .i64 n, .slice a m ca], .agg #[.int .i64 1, .int .i64 x, .int .i64 y, .int .i64 c, .int .i64 d]] W (ZoneE n R 0 W)) (w : World) (h : SL w a m ca l) : Calls Tryz.prog 144 #[.agg #[.int .i64 n, .slice a m ca], .agg #[.int .i64 1, .int .i64 x, .int .i64 y, .int .i64 c, .int .i64 d], .agg #[.nilFunc, .func (.func 184) #[] #[], .func (.func 185) #[] #[], .func (.func 186) #[] #[], .func (.func 187) #[] #[], .func (.func 187) #[] #[]]] w (ZoneE n R 0 w) := by
  obtain ⟨W1, hW1⟩ : ∃ W1, W1 = (((w.alloc (.cells #[.int .i64 n, .slice a m ca] 51)).alloc (.cells #[.int .i64 1, .int .i64 x, .int .i64 y, .int .i64 c, .int .i64 d] 73)).alloc (.cells #[.nilFunc, .func (.func 184) #[] #[], .func (.func 185) #[] #[], .func (.func 186) #[] #[], .func (.func 187) #[] #[], .func (.func 187) #[] #[]] 167)).alloc (.cells #[.int .i64 0, .slice none 0 0] 51) := ⟨_, rfl⟩
  have X1 : P4 w W1 (.int .i64 n) (.slice a m ca) #[.int .i64 1, .int .i64 x, .int .i64 y, .int .i64 c, .int .i64 d] #[.nilFunc, .func (.func 184) #[] #[], .func (.func 185) #[] #[], .func (.func 186) #[] #[], .func (.func 187) #[] #[], .func (.func 187) #[] #[]] (.int .i64 0) (.slice none 0 0) := by rw [hW1]; exact p4_new _ _ _ _ _
  have hW1' := Lib.hid hW1
  have XP := Lib.hid X1
  have k0 := X1.z.cell 0
  have k1 := X1.z.cell 1
  have s0 := X1.s.cell 0
  have s1 := X1.s.cell 1
  have s2 := X1.s.cell 2
  have s3 := X1.s.cell 3
  have s4 := X1.s.cell 4
  have kl := X1.z.lt
  have q1 := Lib.hid (dcheck_any n a m ca l W1 (h.below X1.bl))
  rw [show chk n l = 0 by unfold chk; rw [hz.check]; rfl] at q1
  have q2 := Lib.hid (fun W => right_any 1 x y c d n W)
  rw [hr] at q2
  have hq' := Lib.hid hq
  have hS := Lib.hid h
  clear hW1 X1 h hz hq hr
  go_enter Tryz.func144, Tryz.ntmps144
  go_wp2_with fail
  rw [← hW1'.out]
  refine q1.out.mono ?_
  rintro e w2 ⟨rfl, b2⟩
  have X2 := Lib.hid (XP.out.on b2)
  clear b2 q1 k0 k1 s0 s1 s2 s3 s4 kl XP hW1'
  have k0 := X2.out.z.cell 0
  have s0 := X2.out.s.cell 0
  have s1 := X2.out.s.cell 1
  have s2 := X2.out.s.cell 2
  have s3 := X2.out.s.cell 3
  have s4 := X2.out.s.cell 4
  go_wp2_with fail
  refine (q2.out _).mono ?_
  rintro e w3 ⟨rfl, b3⟩
  have X3 := Lib.hid (X2.out.on b3)
  clear b3 q2 k0 s0 s1 s2 s3 s4 X2
  have D : ∀ W, P4 w W (.int .i64 n) (.slice a m ca) #[.int .i64 1, .int .i64 x, .int .i64 y, .int .i64 c, .int .i64 d] #[.nilFunc, .func (.func 184) #[] #[], .func (.func 185) #[] #[], .func (.func 186) #[] #[], .func (.func 187) #[] #[], .func (.func 187) #[] #[]] (.int .i64 0) (.slice none 0 0) → W.cell? ⟨w.heap.size + 1, 0, none⟩ = some (.int .i64 1) := fun W hW => hW.s.cell 0
  go_wp2
  have g0 : ∀ W, (∃ u v, P4 w W (.int .i64 n) (.slice a m ca) #[.int .i64 1, .int .i64 x, .int .i64 y, .int .i64 c, .int .i64 d] #[.nilFunc, .func (.func 184) #[] #[], .func (.func 185) #[] #[], .func (.func 186) #[] #[], .func (.func 187) #[] #[], .func (.func 187) #[] #[]] u v) → W.cell? ⟨w.heap.size, 0, none⟩ = some (.int .i64 n) := fun W hW => by obtain ⟨_, _, hP⟩ := hW; exact hP.z.cell 0
  have g1 : ∀ W, (∃ u v, P4 w W (.int .i64 n) (.slice a m ca) #[.int .i64 1, .int .i64 x, .int .i64 y, .int .i64 c, .int .i64 d] #[.nilFunc, .func (.func 184) #[] #[], .func (.func 185) #[] #[], .func (.func 186) #[] #[], .func (.func 187) #[] #[], .func (.func 187) #[] #[]] u v) → W.cell? ⟨w.heap.size, 1, none⟩ = some (.slice a m ca) := fun W hW => by obtain ⟨_, _, hP⟩ := hW; exact hP.z.cell 1
  have gt : ∀ W, (∃ u v, P4 w W (.int .i64 n) (.slice a m ca) #[.int .i64 1, .int .i64 x, .int .i64 y, .int .i64 c, .int .i64 d] #[.nilFunc, .func (.func 184) #[] #[], .func (.func 185) #[] #[], .func (.func 186) #[] #[], .func (.func 187) #[] #[], .func (.func 187) #[] #[]] u v) → W.cell? ⟨w.heap.size + 2, 1, none⟩ = some (.func (.func 184) #[] #[]) := fun W hW => by obtain ⟨_, _, hP⟩ := hW; exact hP.t.cell 1
  have r0 : ∀ W, (∃ u v, P4 w W (.int .i64 n) (.slice a m ca) #[.int .i64 1, .int .i64 x, .int .i64 y, .int .i64 c, .int .i64 d] #[.nilFunc, .func (.func 184) #[] #[], .func (.func 185) #[] #[], .func (.func 186) #[] #[], .func (.func 187) #[] #[], .func (.func 187) #[] #[]] u v) → W.cell? ⟨w.heap.size + 1, 0, none⟩ = some (.int .i64 1) := fun W hW => by obtain ⟨_, _, hP⟩ := hW; exact hP.s.cell 0
  have r1 : ∀ W, (∃ u v, P4 w W (.int .i64 n) (.slice a m ca) #[.int .i64 1, .int .i64 x, .int .i64 y, .int .i64 c, .int .i64 d] #[.nilFunc, .func (.func 184) #[] #[], .func (.func 185) #[] #[], .func (.func 186) #[] #[], .func (.func 187) #[] #[], .func (.func 187) #[] #[]] u v) → W.cell? ⟨w.heap.size + 1, 1, none⟩ = some (.int .i64 x) := fun W hW => by obtain ⟨_, _, hP⟩ := hW; exact hP.s.cell 1
  have r2 : ∀ W, (∃ u v, P4 w W (.int .i64 n) (.slice a m ca) #[.int .i64 1, .int .i64 x, .int .i64 y, .int .i64 c, .int .i64 d] #[.nilFunc, .func (.func 184) #[] #[], .func (.func 185) #[] #[], .func (.func 186) #[] #[], .func (.func 187) #[] #[], .func (.func 187) #[] #[]] u v) → W.cell? ⟨w.heap.size + 1, 2, none⟩ = some (.int .i64 y) := fun W hW => by obtain ⟨_, _, hP⟩ := hW; exact hP.s.cell 2
  have r3 : ∀ W, (∃ u v, P4 w W (.int .i64 n) (.slice a m ca) #[.int .i64 1, .int .i64 x, .int .i64 y, .int .i64 c, .int .i64 d] #[.nilFunc, .func (.func 184) #[] #[], .func (.func 185) #[] #[], .func (.func 186) #[] #[], .func (.func 187) #[] #[], .func (.func 187) #[] #[]] u v) → W.cell? ⟨w.heap.size + 1, 3, none⟩ = some (.int .i64 c) := fun W hW => by obtain ⟨_, _, hP⟩ := hW; exact hP.s.cell 3
  have r4 : ∀ W, (∃ u v, P4 w W (.int .i64 n) (.slice a m ca) #[.int .i64 1, .int .i64 x, .int .i64 y, .int .i64 c, .int .i64 d] #[.nilFunc, .func (.func 184) #[] #[], .func (.func 185) #[] #[], .func (.func 186) #[] #[], .func (.func 187) #[] #[], .func (.func 187) #[] #[]] u v) → W.cell? ⟨w.heap.size + 1, 4, none⟩ = some (.int .i64 d) := fun W hW => by obtain ⟨_, _, hP⟩ := hW; exact hP.s.cell 4
  clear D
  refine wp_drawn_on (fun W => ∃ u v, P4 w W (.int .i64 n) (.slice a m ca) #[.int .i64 1, .int .i64 x, .int .i64 y, .int .i64 c, .int .i64 d] #[.nilFunc, .func (.func 184) #[] #[], .func (.func 185) #[] #[], .func (.func 186) #[] #[], .func (.func 187) #[] #[], .func (.func 187) #[] #[]] u v) (by kernel_rfl) (⟨_, _, X3.out.on (Below.refl _ _).drew⟩) (fun hHeld => ?_)
  refine wT 0 (v := ?v1) rfl (by kernel_rfl) (fun _ _ _ h => h) ?h1 (by assumption) ?r1
  case h1 => (intro w hSw; (try dsimp only at hSw); go_simp; try with_reducible rfl)
  refine wT 1 (v := ?v2) rfl (by kernel_rfl) (fun _ _ _ h => h) ?h2 (by assumption) ?r2
  case h2 => (intro w hSw; (try dsimp only at hSw); go_simp; try with_reducible rfl)
  refine wT 2 (v := ?v3) rfl (by kernel_rfl) (fun _ _ _ h => h) ?h3 (by assumption) ?r3
  case h3 => (intro w hSw; (try dsimp only at hSw); go_simp; try with_reducible rfl)
  refine wT 3 (v := ?v4) rfl (by kernel_rfl) (fun _ _ _ h => h) ?h4 (by assumption) ?r4
  case h4 => (intro w hSw; (try dsimp only at hSw); go_simp; try with_reducible rfl)
  refine wT 4 (v := ?v5) rfl (by kernel_rfl) (fun _ _ _ h => h) ?h5 (by assumption) ?r5
  case h5 => (intro w hSw; (try dsimp only at hSw); go_simp; try with_reducible rfl)
  refine wT 5 (v := ?v6) rfl (by kernel_rfl) (fun _ _ _ h => h) ?h6 (by assumption) ?r6
  case h6 => (intro w hSw; (try dsimp only at hSw); go_simp; try with_reducible rfl)
  try simp only [Act.put, List.setIfInBounds_toArray, List.set_cons_zero, List.set_cons_succ]
  refine wpAnyH_ready (rs := [6]) (by kernel_rfl) (by simp) ?_
  refine AllReadyH.cons (o := ⟨_, _, _, _, _, _⟩) rfl (fun K hK => ?_) AllReadyH.nil
  go_simp
  refine (hq'.out _ (hS.out.below (X3.out.on (Below.refl _ _).drew).bl)).mono ?_
  rintro e u6 ⟨a7, c7, rfl, hc7, s7, b7, nw7⟩
  have Q6 := (X3.out.on (Below.refl _ _).drew).on b7
  have hx6 : ∃ u v, P4 w u6 (.int .i64 n) (.slice a m ca) #[.int .i64 1, .int .i64 x, .int .i64 y, .int .i64 c, .int .i64 d] #[.nilFunc, .func (.func 184) #[] #[], .func (.func 185) #[] #[], .func (.func 186) #[] #[], .func (.func 187) #[] #[], .func (.func 187) #[] #[]] u v := ⟨_, _, Q6⟩
  have y0 := Q6.r.cell 0
  have y1 := Q6.r.cell 1
  have f0 := Q6.r.free 0
  have f1 := Q6.r.free 1
  go_simp
  refine hK.out _ _ (hx6) (fun hHeld => ?_)
  clear hK K
  refine wT 7 (v := ?v7) rfl (by kernel_rfl) (fun _ _ _ h => h) ?h7 (by assumption) ?r7
  case h7 => (intro w hSw; (try dsimp only at hSw); go_simp; try with_reducible rfl)
  refine wT 8 (v := ?v8) rfl (by kernel_rfl) (fun _ _ _ h => h) ?h8 (by assumption) ?r8
  case h8 => (intro w hSw; (try dsimp only at hSw); go_simp; try with_reducible rfl)
  try simp only [Act.put, List.setIfInBounds_toArray, List.set_cons_zero, List.set_cons_succ]
  refine wpAnyH_ready (rs := [9]) (by kernel_rfl) (by simp) ?_
  refine AllReadyH.cons (o := ⟨_, _, _, _, _, _⟩) rfl (fun K hK => ?_) AllReadyH.nil
  go_simp
  have hx9 : ∃ u v, P4 w ((u6.setCell ⟨w.heap.size + 3, 0, none⟩ (.int .i64 n)).setCell ⟨w.heap.size + 3, 1, none⟩ (.slice a7 R.length c7)) (.int .i64 n) (.slice a m ca) #[.int .i64 1, .int .i64 x, .int .i64 y, .int .i64 c, .int .i64 d] #[.nilFunc, .func (.func 184) #[] #[], .func (.func 185) #[] #[], .func (.func 186) #[] #[], .func (.func 187) #[] #[], .func (.func 187) #[] #[]] u v := ⟨_, _, ⟨(Q6.bl.setCell (p := ⟨w.heap.size + 3, 0, none⟩) (by show w.heap.size ≤ w.heap.size + 3; omega) _).setCell (p := ⟨w.heap.size + 3, 1, none⟩) (by show w.heap.size ≤ w.heap.size + 3; omega) _, (Q6.z.far (p := ⟨w.heap.size + 3, 0, none⟩) (by simp) _).far (p := ⟨w.heap.size + 3, 1, none⟩) (by simp) _, (Q6.s.far (p := ⟨w.heap.size + 3, 0, none⟩) (by simp) _).far (p := ⟨w.heap.size + 3, 1, none⟩) (by simp) _, (Q6.t.far (p := ⟨w.heap.size + 3, 0, none⟩) (by simp) _).far (p := ⟨w.heap.size + 3, 1, none⟩) (by simp) _, zh_set Q6.r _ _⟩⟩
  refine hK.out _ _ (hx9) (fun hHeld => ?_)
  clear hK K
  refine wT 10 (v := ?v9) rfl (by kernel_rfl) (fun _ _ _ h => h) ?h9 (by assumption) ?r9
  case h9 => (intro w hSw; (try dsimp only at hSw); go_simp; try with_reducible rfl)
  try simp only [Act.put, List.setIfInBounds_toArray, List.set_cons_zero, List.set_cons_succ]
  refine wpAnyH_done (by kernel_rfl) ?_ _
  have hfin := Lib.hid (zone_put (n := n) (err := 0) (X3.out.on (Below.refl _ _).drew).bl (by omega) (X3.out.on (Below.refl _ _).drew).r hc7 s7 b7 nw7)
  clear g0 g1 gt r0 r1 r2 r3 r4 y0 y1 f0 f1 hx6 hx9 hHeld Q6
  go_wp2
  exact zone_ret2 hfin.out.1 hfin.out.2.1 _ _ 6 7 rfl rfl rfl rfl
set_option maxRecDepth 100000 in
set_option maxHeartbeats 400000 in
theorem do_steps_2 (n : Nat) (x y c d : Int) (l R : List Int) (hz : IsZ n l) (hr : rightB 2 x y c d n = true) (a : Option Addr) (m ca : Nat)
    (hq : ∀ W, SL W a m ca l → Calls Tryz.prog 185 #[.agg #[.int .i64 n, .slice a m ca], .agg #[.int .i64 2, .int .i64 x, .int .i64 y, .int .i64 c, .int .i64 d]] W (ZoneE n R 0 W)) (w : World) (h : SL w a m ca l) : Calls Tryz.prog 144 #[.agg #[.int .i64 n, .slice a m ca], .agg #[.int .i64 2, .int .i64 x, .int .i64 y, .int .i64 c, .int .i64 d], .agg #[.nilFunc, .func (.func 184) #[] #[], .func (.func 185) #[] #[], .func (.func 186) #[] #[], .func (.func 187) #[] #[], .func (.func 187) #[] #[]]] w (ZoneE n R 0 w) := by
  obtain ⟨W1, hW1⟩ : ∃ W1, W1 = (((w.alloc (.cells #[.int .i64 n, .slice a m ca] 51)).alloc (.cells #[.int .i64 2, .int .i64 x, .int .i64 y, .int .i64 c, .int .i64 d] 73)).alloc (.cells #[.nilFunc, .func (.func 184) #[] #[], .func (.func 185) #[] #[], .func (.func 186) #[] #[], .func (.func 187) #[] #[], .func (.func 187) #[] #[]] 167)).alloc (.cells #[.int .i64 0, .slice none 0 0] 51) := ⟨_, rfl⟩
  have X1 : P4 w W1 (.int .i64 n) (.slice a m ca) #[.int .i64 2, .int .i64 x, .int .i64 y, .int .i64 c, .int .i64 d] #[.nilFunc, .func (.func 184) #[] #[], .func (.func 185) #[] #[], .func (.func 186) #[] #[], .func (.func 187) #[] #[], .func (.func 187) #[] #[]] (.int .i64 0) (.slice none 0 0) := by rw [hW1]; exact p4_new _ _ _ _ _
  have hW1' := Lib.hid hW1
  have XP := Lib.hid X1
  have k0 := X1.z.cell 0
  have k1 := X1.z.cell 1
  have s0 := X1.s.cell 0
  have s1 := X1.s.cell 1
  have s2 := X1.s.cell 2
  have s3 := X1.s.cell 3
  have s4 := X1.s.cell 4
  have kl := X1.z.lt
  have q1 := Lib.hid (dcheck_any n a m ca l W1 (h.below X1.bl))
  rw [show chk n l = 0 by unfold chk; rw [hz.check]; rfl] at q1
  have q2 := Lib.hid (fun W => right_any 2 x y c d n W)
  rw [hr] at q2
  have hq' := Lib.hid hq
  have hS := Lib.hid h
  clear hW1 X1 h hz hq hr
  go_enter Tryz.func144, Tryz.ntmps144
  go_wp2_with fail
  rw [← hW1'.out]
  refine q1.out.mono ?_
  rintro e w2 ⟨rfl, b2⟩
  have X2 := Lib.hid (XP.out.on b2)
  clear b2 q1 k0 k1 s0 s1 s2 s3 s4 kl XP hW1'
  have k0 := X2.out.z.cell 0
  have s0 := X2.out.s.cell 0
  have s1 := X2.out.s.cell 1
  have s2 := X2.out.s.cell 2
  have s3 := X2.out.s.cell 3
  have s4 := X2.out.s.cell 4
  go_wp2_with fail
  refine (q2.out _).mono ?_
  rintro e w3 ⟨rfl, b3⟩
  have X3 := Lib.hid (X2.out.on b3)
  clear b3 q2 k0 s0 s1 s2 s3 s4 X2
  have D : ∀ W, P4 w W (.int .i64 n) (.slice a m ca) #[.int .i64 2, .int .i64 x, .int .i64 y, .int .i64 c, .int .i64 d] #[.nilFunc, .func (.func 184) #[] #[], .func (.func 185) #[] #[], .func (.func 186) #[] #[], .func (.func 187) #[] #[], .func (.func 187) #[] #[]] (.int .i64 0) (.slice none 0 0) → W.cell? ⟨w.heap.size + 1, 0, none⟩ = some (.int .i64 2) := fun W hW => hW.s.cell 0
  go_wp2
  have g0 : ∀ W, (∃ u v, P4 w W (.int .i64 n) (.slice a m ca) #[.int .i64 2, .int .i64 x, .int .i64 y, .int .i64 c, .int .i64 d] #[.nilFunc, .func (.func 184) #[] #[], .func (.func 185) #[] #[], .func (.func 186) #[] #[], .func (.func 187) #[] #[], .func (.func 187) #[] #[]] u v) → W.cell? ⟨w.heap.size, 0, none⟩ = some (.int .i64 n) := fun W hW => by obtain ⟨_, _, hP⟩ := hW; exact hP.z.cell 0
  have g1 : ∀ W, (∃ u v, P4 w W (.int .i64 n) (.slice a m ca) #[.int .i64 2, .int .i64 x, .int .i64 y, .int .i64 c, .int .i64 d] #[.nilFunc, .func (.func 184) #[] #[], .func (.func 185) #[] #[], .func (.func 186) #[] #[], .func (.func 187) #[] #[], .func (.func 187) #[] #[]] u v) → W.cell? ⟨w.heap.size, 1, none⟩ = some (.slice a m ca) := fun W hW => by obtain ⟨_, _, hP⟩ := hW; exact hP.z.cell 1
  have gt : ∀ W, (∃ u v, P4 w W (.int .i64 n) (.slice a m ca) #[.int .i64 2, .int .i64 x, .int .i64 y, .int .i64 c, .int .i64 d] #[.nilFunc, .func (.func 184) #[] #[], .func (.func 185) #[] #[], .func (.func 186) #[] #[], .func (.func 187) #[] #[], .func (.func 187) #[] #[]] u v) → W.cell? ⟨w.heap.size + 2, 2, none⟩ = some (.func (.func 185) #[] #[]) := fun W hW => by obtain ⟨_, _, hP⟩ := hW; exact hP.t.cell 2
  have r0 : ∀ W, (∃ u v, P4 w W (.int .i64 n) (.slice a m ca) #[.int .i64 2, .int .i64 x, .int .i64 y, .int .i64 c, .int .i64 d] #[.nilFunc, .func (.func 184) #[] #[], .func (.func 185) #[] #[], .func (.func 186) #[] #[], .func (.func 187) #[] #[], .func (.func 187) #[] #[]] u v) → W.cell? ⟨w.heap.size + 1, 0, none⟩ = some (.int .i64 2) := fun W hW => by obtain ⟨_, _, hP⟩ := hW; exact hP.s.cell 0
  have r1 : ∀ W, (∃ u v, P4 w W (.int .i64 n) (.slice a m ca) #[.int .i64 2, .int .i64 x, .int .i64 y, .int .i64 c, .int .i64 d] #[.nilFunc, .func (.func 184) #[] #[], .func (.func 185) #[] #[], .func (.func 186) #[] #[], .func (.func 187) #[] #[], .func (.func 187) #[] #[]] u v) → W.cell? ⟨w.heap.size + 1, 1, none⟩ = some (.int .i64 x) := fun W hW => by obtain ⟨_, _, hP⟩ := hW; exact hP.s.cell 1
  have r2 : ∀ W, (∃ u v, P4 w W (.int .i64 n) (.slice a m ca) #[.int .i64 2, .int .i64 x, .int .i64 y, .int .i64 c, .int .i64 d] #[.nilFunc, .func (.func 184) #[] #[], .func (.func 185) #[] #[], .func (.func 186) #[] #[], .func (.func 187) #[] #[], .func (.func 187) #[] #[]] u v) → W.cell? ⟨w.heap.size + 1, 2, none⟩ = some (.int .i64 y) := fun W hW => by obtain ⟨_, _, hP⟩ := hW; exact hP.s.cell 2
  have r3 : ∀ W, (∃ u v, P4 w W (.int .i64 n) (.slice a m ca) #[.int .i64 2, .int .i64 x, .int .i64 y, .int .i64 c, .int .i64 d] #[.nilFunc, .func (.func 184) #[] #[], .func (.func 185) #[] #[], .func (.func 186) #[] #[], .func (.func 187) #[] #[], .func (.func 187) #[] #[]] u v) → W.cell? ⟨w.heap.size + 1, 3, none⟩ = some (.int .i64 c) := fun W hW => by obtain ⟨_, _, hP⟩ := hW; exact hP.s.cell 3
  have r4 : ∀ W, (∃ u v, P4 w W (.int .i64 n) (.slice a m ca) #[.int .i64 2, .int .i64 x, .int .i64 y, .int .i64 c, .int .i64 d] #[.nilFunc, .func (.func 184) #[] #[], .func (.func 185) #[] #[], .func (.func 186) #[] #[], .func (.func 187) #[] #[], .func (.func 187) #[] #[]] u v) → W.cell? ⟨w.heap.size + 1, 4, none⟩ = some (.int .i64 d) := fun W hW => by obtain ⟨_, _, hP⟩ := hW; exact hP.s.cell 4
  clear D
  refine wp_drawn_on (fun W => ∃ u v, P4 w W (.int .i64 n) (.slice a m ca) #[.int .i64 2, .int .i64 x, .int .i64 y, .int .i64 c, .int .i64 d] #[.nilFunc, .func (.func 184) #[] #[], .func (.func 185) #[] #[], .func (.func 186) #[] #[], .func (.func 187) #[] #[], .func (.func 187) #[] #[]] u v) (by kernel_rfl) (⟨_, _, X3.out.on (Below.refl _ _).drew⟩) (fun hHeld => ?_)
  refine wT 0 (v := ?v10) rfl (by kernel_rfl) (fun _ _ _ h => h) ?h10 (by assumption) ?r10
  case h10 => (intro w hSw; (try dsimp only at hSw); go_simp; try with_reducible rfl)
  refine wT 1 (v := ?v11) rfl (by kernel_rfl) (fun _ _ _ h => h) ?h11 (by assumption) ?r11
  case h11 => (intro w hSw; (try dsimp only at hSw); go_simp; try with_reducible rfl)
  refine wT 2 (v := ?v12) rfl (by kernel_rfl) (fun _ _ _ h => h) ?h12 (by assumption) ?r12
  case h12 => (intro w hSw; (try dsimp only at hSw); go_simp; try with_reducible rfl)
  refine wT 3 (v := ?v13) rfl (by kernel_rfl) (fun _ _ _ h => h) ?h13 (by assumption) ?r13
  case h13 => (intro w hSw; (try dsimp only at hSw); go_simp; try with_reducible rfl)
  refine wT 4 (v := ?v14) rfl (by kernel_rfl) (fun _ _ _ h => h) ?h14 (by assumption) ?r14
  case h14 => (intro w hSw; (try dsimp only at hSw); go_simp; try with_reducible rfl)
  refine wT 5 (v := ?v15) rfl (by kernel_rfl) (fun _ _ _ h => h) ?h15 (by assumption) ?r15
  case h15 => (intro w hSw; (try dsimp only at hSw); go_simp; try with_reducible rfl)
  try simp only [Act.put, List.setIfInBounds_toArray, List.set_cons_zero, List.set_cons_succ]
  refine wpAnyH_ready (rs := [6]) (by kernel_rfl) (by simp) ?_
  refine AllReadyH.cons (o := ⟨_, _, _, _, _, _⟩) rfl (fun K hK => ?_) AllReadyH.nil
  go_simp
  refine (hq'.out _ (hS.out.below (X3.out.on (Below.refl _ _).drew).bl)).mono ?_
  rintro e u6 ⟨a7, c7, rfl, hc7, s7, b7, nw7⟩
  have Q6 := (X3.out.on (Below.refl _ _).drew).on b7
  have hx6 : ∃ u v, P4 w u6 (.int .i64 n) (.slice a m ca) #[.int .i64 2, .int .i64 x, .int .i64 y, .int .i64 c, .int .i64 d] #[.nilFunc, .func (.func 184) #[] #[], .func (.func 185) #[] #[], .func (.func 186) #[] #[], .func (.func 187) #[] #[], .func (.func 187) #[] #[]] u v := ⟨_, _, Q6⟩
  have y0 := Q6.r.cell 0
  have y1 := Q6.r.cell 1
  have f0 := Q6.r.free 0
  have f1 := Q6.r.free 1
  go_simp
  refine hK.out _ _ (hx6) (fun hHeld => ?_)
  clear hK K
  refine wT 7 (v := ?v16) rfl (by kernel_rfl) (fun _ _ _ h => h) ?h16 (by assumption) ?r16
  case h16 => (intro w hSw; (try dsimp only at hSw); go_simp; try with_reducible rfl)
  refine wT 8 (v := ?v17) rfl (by kernel_rfl) (fun _ _ _ h => h) ?h17 (by assumption) ?r17
  case h17 => (intro w hSw; (try dsimp only at hSw); go_simp; try with_reducible rfl)
  try simp only [Act.put, List.setIfInBounds_toArray, List.set_cons_zero, List.set_cons_succ]
  refine wpAnyH_ready (rs := [9]) (by kernel_rfl) (by simp) ?_
  refine AllReadyH.cons (o := ⟨_, _, _, _, _, _⟩) rfl (fun K hK => ?_) AllReadyH.nil
  go_simp
  have hx9 : ∃ u v, P4 w ((u6.setCell ⟨w.heap.size + 3, 0, none⟩ (.int .i64 n)).setCell ⟨w.heap.size + 3, 1, none⟩ (.slice a7 R.length c7)) (.int .i64 n) (.slice a m ca) #[.int .i64 2, .int .i64 x, .int .i64 y, .int .i64 c, .int .i64 d] #[.nilFunc, .func (.func 184) #[] #[], .func (.func 185) #[] #[], .func (.func 186) #[] #[], .func (.func 187) #[] #[], .func (.func 187) #[] #[]] u v := ⟨_, _, ⟨(Q6.bl.setCell (p := ⟨w.heap.size + 3, 0, none⟩) (by show w.heap.size ≤ w.heap.size + 3; omega) _).setCell (p := ⟨w.heap.size + 3, 1, none⟩) (by show w.heap.size ≤ w.heap.size + 3; omega) _, (Q6.z.far (p := ⟨w.heap.size + 3, 0, none⟩) (by simp) _).far (p := ⟨w.heap.size + 3, 1, none⟩) (by simp) _, (Q6.s.far (p := ⟨w.heap.size + 3, 0, none⟩) (by simp) _).far (p := ⟨w.heap.size + 3, 1, none⟩) (by simp) _, (Q6.t.far (p := ⟨w.heap.size + 3, 0, none⟩) (by simp) _).far (p := ⟨w.heap.size + 3, 1, none⟩) (by simp) _, zh_set Q6.r _ _⟩⟩
  refine hK.out _ _ (hx9) (fun hHeld => ?_)
  clear hK K
  refine wT 10 (v := ?v18) rfl (by kernel_rfl) (fun _ _ _ h => h) ?h18 (by assumption) ?r18
  case h18 => (intro w hSw; (try dsimp only at hSw); go_simp; try with_reducible rfl)
  try simp only [Act.put, List.setIfInBounds_toArray, List.set_cons_zero, List.set_cons_succ]
  refine wpAnyH_done (by kernel_rfl) ?_ _
  have hfin := Lib.hid (zone_put (n := n) (err := 0) (X3.out.on (Below.refl _ _).drew).bl (by omega) (X3.out.on (Below.refl _ _).drew).r hc7 s7 b7 nw7)
  clear g0 g1 gt r0 r1 r2 r3 r4 y0 y1 f0 f1 hx6 hx9 hHeld Q6
  go_wp2
  exact zone_ret2 hfin.out.1 hfin.out.2.1 _ _ 6 7 rfl rfl rfl rfl
set_option maxRecDepth 100000 in
set_option maxHeartbeats 400000 in
theorem do_steps_3 (n : Nat) (x y c d : Int) (l R : List Int) (hz : IsZ n l) (hr : rightB 3 x y c d n = true) (a : Option Addr) (m ca : Nat)
    (hq : ∀ W, SL W a m ca l → Calls Tryz.prog 186 #[.agg #[.int .i64 n, .slice a m ca], .agg #[.int .i64 3, .int .i64 x, .int .i64 y, .int .i64 c, .int .i64 d]] W (ZoneE n R 0 W)) (w : World) (h : SL w a m ca l) : Calls Tryz.prog 144 #[.agg #[.int .i64 n, .slice a m ca], .agg #[.int .i64 3, .int .i64 x, .int .i64 y, .int .i64 c, .int .i64 d], .agg #[.nilFunc, .func (.func 184) #[] #[], .func (.func 185) #[] #[], .func (.func 186) #[] #[], .func (.func 187) #[] #[], .func (.func 187) #[] #[]]] w (ZoneE n R 0 w) := by
  obtain ⟨W1, hW1⟩ : ∃ W1, W1 = (((w.alloc (.cells #[.int .i64 n, .slice a m ca] 51)).alloc (.cells #[.int .i64 3, .int .i64 x, .int .i64 y, .int .i64 c, .int .i64 d] 73)).alloc (.cells #[.nilFunc, .func (.func 184) #[] #[], .func (.func 185) #[] #[], .func (.func 186) #[] #[], .func (.func 187) #[] #[], .func (.func 187) #[] #[]] 167)).alloc (.cells #[.int .i64 0, .slice none 0 0] 51) := ⟨_, rfl⟩
  have X1 : P4 w W1 (.int .i64 n) (.slice a m ca) #[.int .i64 3, .int .i64 x, .int .i64 y, .int .i64 c, .int .i64 d] #[.nilFunc, .func (.func 184) #[] #[], .func (.func 185) #[] #[], .func (.func 186) #[] #[], .func (.func 187) #[] #[], .func (.func 187) #[] #[]] (.int .i64 0) (.slice none 0 0) := by rw [hW1]; exact p4_new _ _ _ _ _
  have hW1' := Lib.hid hW1
  have XP := Lib.hid X1
  have k0 := X1.z.cell 0
  have k1 := X1.z.cell 1
  have s0 := X1.s.cell 0
  have s1 := X1.s.cell 1
  have s2 := X1.s.cell 2
  have s3 := X1.s.cell 3
  have s4 := X1.s.cell 4
  have kl := X1.z.lt
  have q1 := Lib.hid (dcheck_any n a m ca l W1 (h.below X1.bl))
  rw [show chk n l = 0 by unfold chk; rw [hz.check]; rfl] at q1
  have q2 := Lib.hid (fun W => right_any 3 x y c d n W)
  rw [hr] at q2
  have hq' := Lib.hid hq
  have hS := Lib.hid h
  clear hW1 X1 h hz hq hr
  go_enter Tryz.func144, Tryz.ntmps144
  go_wp2_with fail
  rw [← hW1'.out]
  refine q1.out.mono ?_
  rintro e w2 ⟨rfl, b2⟩
  have X2 := Lib.hid (XP.out.on b2)
  clear b2 q1 k0 k1 s0 s1 s2 s3 s4 kl XP hW1'
  have k0 := X2.out.z.cell 0
  have s0 := X2.out.s.cell 0
  have s1 := X2.out.s.cell 1
  have s2 := X2.out.s.cell 2
  have s3 := X2.out.s.cell 3
  have s4 := X2.out.s.cell 4
  go_wp2_with fail
  refine (q2.out _).mono ?_
  rintro e w3 ⟨rfl, b3⟩
  have X3 := Lib.hid (X2.out.on b3)
  clear b3 q2 k0 s0 s1 s2 s3 s4 X2
  have D : ∀ W, P4 w W (.int .i64 n) (.slice a m ca) #[.int .i64 3, .int .i64 x, .int .i64 y, .int .i64 c, .int .i64 d] #[.nilFunc, .func (.func 184) #[] #[], .func (.func 185) #[] #[], .func (.func 186) #[] #[], .func (.func 187) #[] #[], .func (.func 187) #[] #[]] (.int .i64 0) (.slice none 0 0) → W.cell? ⟨w.heap.size + 1, 0, none⟩ = some (.int .i64 3) := fun W hW => hW.s.cell 0
  go_wp2
  have g0 : ∀ W, (∃ u v, P4 w W (.int .i64 n) (.slice a m ca) #[.int .i64 3, .int .i64 x, .int .i64 y, .int .i64 c, .int .i64 d] #[.nilFunc, .func (.func 184) #[] #[], .func (.func 185) #[] #[], .func (.func 186) #[] #[], .func (.func 187) #[] #[], .func (.func 187) #[] #[]] u v) → W.cell? ⟨w.heap.size, 0, none⟩ = some (.int .i64 n) := fun W hW => by obtain ⟨_, _, hP⟩ := hW; exact hP.z.cell 0
  have g1 : ∀ W, (∃ u v, P4 w W (.int .i64 n) (.slice a m ca) #[.int .i64 3, .int .i64 x, .int .i64 y, .int .i64 c, .int .i64 d] #[.nilFunc, .func (.func 184) #[] #[], .func (.func 185) #[] #[], .func (.func 186) #[] #[], .func (.func 187) #[] #[], .func (.func 187) #[] #[]] u v) → W.cell? ⟨w.heap.size, 1, none⟩ = some (.slice a m ca) := fun W hW => by obtain ⟨_, _, hP⟩ := hW; exact hP.z.cell 1
  have gt : ∀ W, (∃ u v, P4 w W (.int .i64 n) (.slice a m ca) #[.int .i64 3, .int .i64 x, .int .i64 y, .int .i64 c, .int .i64 d] #[.nilFunc, .func (.func 184) #[] #[], .func (.func 185) #[] #[], .func (.func 186) #[] #[], .func (.func 187) #[] #[], .func (.func 187) #[] #[]] u v) → W.cell? ⟨w.heap.size + 2, 3, none⟩ = some (.func (.func 186) #[] #[]) := fun W hW => by obtain ⟨_, _, hP⟩ := hW; exact hP.t.cell 3
  have r0 : ∀ W, (∃ u v, P4 w W (.int .i64 n) (.slice a m ca) #[.int .i64 3, .int .i64 x, .int .i64 y, .int .i64 c, .int .i64 d] #[.nilFunc, .func (.func 184) #[] #[], .func (.func 185) #[] #[], .func (.func 186) #[] #[], .func (.func 187) #[] #[], .func (.func 187) #[] #[]] u v) → W.cell? ⟨w.heap.size + 1, 0, none⟩ = some (.int .i64 3) := fun W hW => by obtain ⟨_, _, hP⟩ := hW; exact hP.s.cell 0
  have r1 : ∀ W, (∃ u v, P4 w W (.int .i64 n) (.slice a m ca) #[.int .i64 3, .int .i64 x, .int .i64 y, .int .i64 c, .int .i64 d] #[.nilFunc, .func (.func 184) #[] #[], .func (.func 185) #[] #[], .func (.func 186) #[] #[], .func (.func 187) #[] #[], .func (.func 187) #[] #[]] u v) → W.cell? ⟨w.heap.size + 1, 1, none⟩ = some (.int .i64 x) := fun W hW => by obtain ⟨_, _, hP⟩ := hW; exact hP.s.cell 1
  have r2 : ∀ W, (∃ u v, P4 w W (.int .i64 n) (.slice a m ca) #[.int .i64 3, .int .i64 x, .int .i64 y, .int .i64 c, .int .i64 d] #[.nilFunc, .func (.func 184) #[] #[], .func (.func 185) #[] #[], .func (.func 186) #[] #[], .func (.func 187) #[] #[], .func (.func 187) #[] #[]] u v) → W.cell? ⟨w.heap.size + 1, 2, none⟩ = some (.int .i64 y) := fun W hW => by obtain ⟨_, _, hP⟩ := hW; exact hP.s.cell 2
  have r3 : ∀ W, (∃ u v, P4 w W (.int .i64 n) (.slice a m ca) #[.int .i64 3, .int .i64 x, .int .i64 y, .int .i64 c, .int .i64 d] #[.nilFunc, .func (.func 184) #[] #[], .func (.func 185) #[] #[], .func (.func 186) #[] #[], .func (.func 187) #[] #[], .func (.func 187) #[] #[]] u v) → W.cell? ⟨w.heap.size + 1, 3, none⟩ = some (.int .i64 c) := fun W hW => by obtain ⟨_, _, hP⟩ := hW; exact hP.s.cell 3
  have r4 : ∀ W, (∃ u v, P4 w W (.int .i64 n) (.slice a m ca) #[.int .i64 3, .int .i64 x, .int .i64 y, .int .i64 c, .int .i64 d] #[.nilFunc, .func (.func 184) #[] #[], .func (.func 185) #[] #[], .func (.func 186) #[] #[], .func (.func 187) #[] #[], .func (.func 187) #[] #[]] u v) → W.cell? ⟨w.heap.size + 1, 4, none⟩ = some (.int .i64 d) := fun W hW => by obtain ⟨_, _, hP⟩ := hW; exact hP.s.cell 4
  clear D
  refine wp_drawn_on (fun W => ∃ u v, P4 w W (.int .i64 n) (.slice a m ca) #[.int .i64 3, .int .i64 x, .int .i64 y, .int .i64 c, .int .i64 d] #[.nilFunc, .func (.func 184) #[] #[], .func (.func 185) #[] #[], .func (.func 186) #[] #[], .func (.func 187) #[] #[], .func (.func 187) #[] #[]] u v) (by kernel_rfl) (⟨_, _, X3.out.on (Below.refl _ _).drew⟩) (fun hHeld => ?_)
  refine wT 0 (v := ?v19) rfl (by kernel_rfl) (fun _ _ _ h => h) ?h19 (by assumption) ?r19
  case h19 => (intro w hSw; (try dsimp only at hSw); go_simp; try with_reducible rfl)
  refine wT 1 (v := ?v20) rfl (by kernel_rfl) (fun _ _ _ h => h) ?h20 (by assumption) ?r20
  case h20 => (intro w hSw; (try dsimp only at hSw); go_simp; try with_reducible rfl)
  refine wT 2 (v := ?v21) rfl (by kernel_rfl) (fun _ _ _ h => h) ?h21 (by assumption) ?r21
  case h21 => (intro w hSw; (try dsimp only at hSw); go_simp; try with_reducible rfl)
  refine wT 3 (v := ?v22) rfl (by kernel_rfl) (fun _ _ _ h => h) ?h22 (by assumption) ?r22
  case h22 => (intro w hSw; (try dsimp only at hSw); go_simp; try with_reducible rfl)
  refine wT 4 (v := ?v23) rfl (by kernel_rfl) (fun _ _ _ h => h) ?h23 (by assumption) ?r23
  case h23 => (intro w hSw; (try dsimp only at hSw); go_simp; try with_reducible rfl)
  refine wT 5 (v := ?v24) rfl (by kernel_rfl) (fun _ _ _ h => h) ?h24 (by assumption) ?r24
  case h24 => (intro w hSw; (try dsimp only at hSw); go_simp; try with_reducible rfl)
  try simp only [Act.put, List.setIfInBounds_toArray, List.set_cons_zero, List.set_cons_succ]
  refine wpAnyH_ready (rs := [6]) (by kernel_rfl) (by simp) ?_
  refine AllReadyH.cons (o := ⟨_, _, _, _, _, _⟩) rfl (fun K hK => ?_) AllReadyH.nil
  go_simp
  refine (hq'.out _ (hS.out.below (X3.out.on (Below.refl _ _).drew).bl)).mono ?_
  rintro e u6 ⟨a7, c7, rfl, hc7, s7, b7, nw7⟩
  have Q6 := (X3.out.on (Below.refl _ _).drew).on b7
  have hx6 : ∃ u v, P4 w u6 (.int .i64 n) (.slice a m ca) #[.int .i64 3, .int .i64 x, .int .i64 y, .int .i64 c, .int .i64 d] #[.nilFunc, .func (.func 184) #[] #[], .func (.func 185) #[] #[], .func (.func 186) #[] #[], .func (.func 187) #[] #[], .func (.func 187) #[] #[]] u v := ⟨_, _, Q6⟩
  have y0 := Q6.r.cell 0
  have y1 := Q6.r.cell 1
  have f0 := Q6.r.free 0
  have f1 := Q6.r.free 1
  go_simp
  refine hK.out _ _ (hx6) (fun hHeld => ?_)
  clear hK K
  refine wT 7 (v := ?v25) rfl (by kernel_rfl) (fun _ _ _ h => h) ?h25 (by assumption) ?r25
  case h25 => (intro w hSw; (try dsimp only at hSw); go_simp; try with_reducible rfl)
  refine wT 8 (v := ?v26) rfl (by kernel_rfl) (fun _ _ _ h => h) ?h26 (by assumption) ?r26
  case h26 => (intro w hSw; (try dsimp only at hSw); go_simp; try with_reducible rfl)
  try simp only [Act.put, List.setIfInBounds_toArray, List.set_cons_zero, List.set_cons_succ]
  refine wpAnyH_ready (rs := [9]) (by kernel_rfl) (by simp) ?_
  refine AllReadyH.cons (o := ⟨_, _, _, _, _, _⟩) rfl (fun K hK => ?_) AllReadyH.nil
  go_simp
  have hx9 : ∃ u v, P4 w ((u6.setCell ⟨w.heap.size + 3, 0, none⟩ (.int .i64 n)).setCell ⟨w.heap.size + 3, 1, none⟩ (.slice a7 R.length c7)) (.int .i64 n) (.slice a m ca) #[.int .i64 3, .int .i64 x, .int .i64 y, .int .i64 c, .int .i64 d] #[.nilFunc, .func (.func 184) #[] #[], .func (.func 185) #[] #[], .func (.func 186) #[] #[], .func (.func 187) #[] #[], .func (.func 187) #[] #[]] u v := ⟨_, _, ⟨(Q6.bl.setCell (p := ⟨w.heap.size + 3, 0, none⟩) (by show w.heap.size ≤ w.heap.size + 3; omega) _).setCell (p := ⟨w.heap.size + 3, 1, none⟩) (by show w.heap.size ≤ w.heap.size + 3; omega) _, (Q6.z.far (p := ⟨w.heap.size + 3, 0, none⟩) (by simp) _).far (p := ⟨w.heap.size + 3, 1, none⟩) (by simp) _, (Q6.s.far (p := ⟨w.heap.size + 3, 0, none⟩) (by simp) _).far (p := ⟨w.heap.size + 3, 1, none⟩) (by simp) _, (Q6.t.far (p := ⟨w.heap.size + 3, 0, none⟩) (by simp) _).far (p := ⟨w.heap.size + 3, 1, none⟩) (by simp) _, zh_set Q6.r _ _⟩⟩
  refine hK.out _ _ (hx9) (fun hHeld => ?_)
  clear hK K
  refine wT 10 (v := ?v27) rfl (by kernel_rfl) (fun _ _ _ h => h) ?h27 (by assumption) ?r27
  case h27 => (intro w hSw; (try dsimp only at hSw); go_simp; try with_reducible rfl)
  try simp only [Act.put, List.setIfInBounds_toArray, List.set_cons_zero, List.set_cons_succ]
  refine wpAnyH_done (by kernel_rfl) ?_ _
  have hfin := Lib.hid (zone_put (n := n) (err := 0) (X3.out.on (Below.refl _ _).drew).bl (by omega) (X3.out.on (Below.refl _ _).drew).r hc7 s7 b7 nw7)
  clear g0 g1 gt r0 r1 r2 r3 r4 y0 y1 f0 f1 hx6 hx9 hHeld Q6
  go_wp2
  exact zone_ret2 hfin.out.1 hfin.out.2.1 _ _ 6 7 rfl rfl rfl rfl
set_option maxRecDepth 100000 in
set_option maxHeartbeats 400000 in
theorem do_steps_4 (n : Nat) (x y c d : Int) (l R : List Int) (hz : IsZ n l) (hr : rightB 4 x y c d n = true) (a : Option Addr) (m ca : Nat)
    (hq : ∀ W, SL W a m ca l → Calls Tryz.prog 187 #[.agg #[.int .i64 n, .slice a m ca], .agg #[.int .i64 4, .int .i64 x, .int .i64 y, .int .i64 c, .int .i64 d]] W (ZoneE n R 0 W)) (w : World) (h : SL w a m ca l) : Calls Tryz.prog 144 #[.agg #[.int .i64 n, .slice a m ca], .agg #[.int .i64 4, .int .i64 x, .int .i64 y, .int .i64 c, .int .i64 d], .agg #[.nilFunc, .func (.func 184) #[] #[], .func (.func 185) #[] #[], .func (.func 186) #[] #[], .func (.func 187) #[] #[], .func (.func 187) #[] #[]]] w (ZoneE n R 0 w) := by
  obtain ⟨W1, hW1⟩ : ∃ W1, W1 = (((w.alloc (.cells #[.int .i64 n, .slice a m ca] 51)).alloc (.cells #[.int .i64 4, .int .i64 x, .int .i64 y, .int .i64 c, .int .i64 d] 73)).alloc (.cells #[.nilFunc, .func (.func 184) #[] #[], .func (.func 185) #[] #[], .func (.func 186) #[] #[], .func (.func 187) #[] #[], .func (.func 187) #[] #[]] 167)).alloc (.cells #[.int .i64 0, .slice none 0 0] 51) := ⟨_, rfl⟩
  have X1 : P4 w W1 (.int .i64 n) (.slice a m ca) #[.int .i64 4, .int .i64 x, .int .i64 y, .int .i64 c, .int .i64 d] #[.nilFunc, .func (.func 184) #[] #[], .func (.func 185) #[] #[], .func (.func 186) #[] #[], .func (.func 187) #[] #[], .func (.func 187) #[] #[]] (.int .i64 0) (.slice none 0 0) := by rw [hW1]; exact p4_new _ _ _ _ _
  have hW1' := Lib.hid hW1
  have XP := Lib.hid X1
  have k0 := X1.z.cell 0
  have k1 := X1.z.cell 1
  have s0 := X1.s.cell 0
  have s1 := X1.s.cell 1
  have s2 := X1.s.cell 2
  have s3 := X1.s.cell 3
  have s4 := X1.s.cell 4
  have kl := X1.z.lt
  have q1 := Lib.hid (dcheck_any n a m ca l W1 (h.below X1.bl))
  rw [show chk n l = 0 by unfold chk; rw [hz.check]; rfl] at q1
  have q2 := Lib.hid (fun W => right_any 4 x y c d n W)
  rw [hr] at q2
  have hq' := Lib.hid hq
  have hS := Lib.hid h
  clear hW1 X1 h hz hq hr
  go_enter Tryz.func144, Tryz.ntmps144
  go_wp2_with fail
  rw [← hW1'.out]
  refine q1.out.mono ?_
  rintro e w2 ⟨rfl, b2⟩
  have X2 := Lib.hid (XP.out.on b2)
  clear b2 q1 k0 k1 s0 s1 s2 s3 s4 kl XP hW1'
  have k0 := X2.out.z.cell 0
  have s0 := X2.out.s.cell 0
  have s1 := X2.out.s.cell 1
  have s2 := X2.out.s.cell 2
  have s3 := X2.out.s.cell 3
  have s4 := X2.out.s.cell 4
  go_wp2_with fail
  refine (q2.out _).mono ?_
  rintro e w3 ⟨rfl, b3⟩
  have X3 := Lib.hid (X2.out.on b3)
  clear b3 q2 k0 s0 s1 s2 s3 s4 X2
  have D : ∀ W, P4 w W (.int .i64 n) (.slice a m ca) #[.int .i64 4, .int .i64 x, .int .i64 y, .int .i64 c, .int .i64 d] #[.nilFunc, .func (.func 184) #[] #[], .func (.func 185) #[] #[], .func (.func 186) #[] #[], .func (.func 187) #[] #[], .func (.func 187) #[] #[]] (.int .i64 0) (.slice none 0 0) → W.cell? ⟨w.heap.size + 1, 0, none⟩ = some (.int .i64 4) := fun W hW => hW.s.cell 0
  go_wp2
  have g0 : ∀ W, (∃ u v, P4 w W (.int .i64 n) (.slice a m ca) #[.int .i64 4, .int .i64 x, .int .i64 y, .int .i64 c, .int .i64 d] #[.nilFunc, .func (.func 184) #[] #[], .func (.func 185) #[] #[], .func (.func 186) #[] #[], .func (.func 187) #[] #[], .func (.func 187) #[] #[]] u v) → W.cell? ⟨w.heap.size, 0, none⟩ = some (.int .i64 n) := fun W hW => by obtain ⟨_, _, hP⟩ := hW; exact hP.z.cell 0
  have g1 : ∀ W, (∃ u v, P4 w W (.int .i64 n) (.slice a m ca) #[.int .i64 4, .int .i64 x, .int .i64 y, .int .i64 c, .int .i64 d] #[.nilFunc, .func (.func 184) #[] #[], .func (.func 185) #[] #[], .func (.func 186) #[] #[], .func (.func 187) #[] #[], .func (.func 187) #[] #[]] u v) → W.cell? ⟨w.heap.size, 1, none⟩ = some (.slice a m ca) := fun W hW => by obtain ⟨_, _, hP⟩ := hW; exact hP.z.cell 1
  have gt : ∀ W, (∃ u v, P4 w W (.int .i64 n) (.slice a m ca) #[.int .i64 4, .int .i64 x, .int .i64 y, .int .i64 c, .int .i64 d] #[.nilFunc, .func (.func 184) #[] #[], .func (.func 185) #[] #[], .func (.func 186) #[] #[], .func (.func 187) #[] #[], .func (.func 187) #[] #[]] u v) → W.cell? ⟨w.heap.size + 2, 4, none⟩ = some (.func (.func 187) #[] #[]) := fun W hW => by obtain ⟨_, _, hP⟩ := hW; exact hP.t.cell 4
  have r0 : ∀ W, (∃ u v, P4 w W (.int .i64 n) (.slice a m ca) #[.int .i64 4, .int .i64 x, .int .i64 y, .int .i64 c, .int .i64 d] #[.nilFunc, .func (.func 184) #[] #[], .func (.func 185) #[] #[], .func (.func 186) #[] #[], .func (.func 187) #[] #[], .func (.func 187) #[] #[]] u v) → W.cell? ⟨w.heap.size + 1, 0, none⟩ = some (.int .i64 4) := fun W hW => by obtain ⟨_, _, hP⟩ := hW; exact hP.s.cell 0
  have r1 : ∀ W, (∃ u v, P4 w W (.int .i64 n) (.slice a m ca) #[.int .i64 4, .int .i64 x, .int .i64 y, .int .i64 c, .int .i64 d] #[.nilFunc, .func (.func 184) #[] #[], .func (.func 185) #[] #[], .func (.func 186) #[] #[], .func (.func 187) #[] #[], .func (.func 187) #[] #[]] u v) → W.cell? ⟨w.heap.size + 1, 1, none⟩ = some (.int .i64 x) := fun W hW => by obtain ⟨_, _, hP⟩ := hW; exact hP.s.cell 1
  have r2 : ∀ W, (∃ u v, P4 w W (.int .i64 n) (.slice a m ca) #[.int .i64 4, .int .i64 x, .int .i64 y, .int .i64 c, .int .i64 d] #[.nilFunc, .func (.func 184) #[] #[], .func (.func 185) #[] #[], .func (.func 186) #[] #[], .func (.func 187) #[] #[], .func (.func 187) #[] #[]] u v) → W.cell? ⟨w.heap.size + 1, 2, none⟩ = some (.int .i64 y) := fun W hW => by obtain ⟨_, _, hP⟩ := hW; exact hP.s.cell 2
  have r3 : ∀ W, (∃ u v, P4 w W (.int .i64 n) (.slice a m ca) #[.int .i64 4, .int .i64 x, .int .i64 y, .int .i64 c, .int .i64 d] #[.nilFunc, .func (.func 184) #[] #[], .func (.func 185) #[] #[], .func (.func 186) #[] #[], .func (.func 187) #[] #[], .func (.func 187) #[] #[]] u v) → W.cell? ⟨w.heap.size + 1, 3, none⟩ = some (.int .i64 c) := fun W hW => by obtain ⟨_, _, hP⟩ := hW; exact hP.s.cell 3
  have r4 : ∀ W, (∃ u v, P4 w W (.int .i64 n) (.slice a m ca) #[.int .i64 4, .int .i64 x, .int .i64 y, .int .i64 c, .int .i64 d] #[.nilFunc, .func (.func 184) #[] #[], .func (.func 185) #[] #[], .func (.func 186) #[] #[], .func (.func 187) #[] #[], .func (.func 187) #[] #[]] u v) → W.cell? ⟨w.heap.size + 1, 4, none⟩ = some (.int .i64 d) := fun W hW => by obtain ⟨_, _, hP⟩ := hW; exact hP.s.cell 4
  clear D
  refine wp_drawn_on (fun W => ∃ u v, P4 w W (.int .i64 n) (.slice a m ca) #[.int .i64 4, .int .i64 x, .int .i64 y, .int .i64 c, .int .i64 d] #[.nilFunc, .func (.func 184) #[] #[], .func (.func 185) #[] #[], .func (.func 186) #[] #[], .func (.func 187) #[] #[], .func (.func 187) #[] #[]] u v) (by kernel_rfl) (⟨_, _, X3.out.on (Below.refl _ _).drew⟩) (fun hHeld => ?_)
  refine wT 0 (v := ?v28) rfl (by kernel_rfl) (fun _ _ _ h => h) ?h28 (by assumption) ?r28
  case h28 => (intro w hSw; (try dsimp only at hSw); go_simp; try with_reducible rfl)
  refine wT 1 (v := ?v29) rfl (by kernel_rfl) (fun _ _ _ h => h) ?h29 (by assumption) ?r29
  case h29 => (intro w hSw; (try dsimp only at hSw); go_simp; try with_reducible rfl)
  refine wT 2 (v := ?v30) rfl (by kernel_rfl) (fun _ _ _ h => h) ?h30 (by assumption) ?r30
  case h30 => (intro w hSw; (try dsimp only at hSw); go_simp; try with_reducible rfl)
  refine wT 3 (v := ?v31) rfl (by kernel_rfl) (fun _ _ _ h => h) ?h31 (by assumption) ?r31
  case h31 => (intro w hSw; (try dsimp only at hSw); go_simp; try with_reducible rfl)
  refine wT 4 (v := ?v32) rfl (by kernel_rfl) (fun _ _ _ h => h) ?h32 (by assumption) ?r32
  case h32 => (intro w hSw; (try dsimp only at hSw); go_simp; try with_reducible rfl)
  refine wT 5 (v := ?v33) rfl (by kernel_rfl) (fun _ _ _ h => h) ?h33 (by assumption) ?r33
  case h33 => (intro w hSw; (try dsimp only at hSw); go_simp; try with_reducible rfl)
  try simp only [Act.put, List.setIfInBounds_toArray, List.set_cons_zero, List.set_cons_succ]
  refine wpAnyH_ready (rs := [6]) (by kernel_rfl) (by simp) ?_
  refine AllReadyH.cons (o := ⟨_, _, _, _, _, _⟩) rfl (fun K hK => ?_) AllReadyH.nil
  go_simp
  refine (hq'.out _ (hS.out.below (X3.out.on (Below.refl _ _).drew).bl)).mono ?_
  rintro e u6 ⟨a7, c7, rfl, hc7, s7, b7, nw7⟩
  have Q6 := (X3.out.on (Below.refl _ _).drew).on b7
  have hx6 : ∃ u v, P4 w u6 (.int .i64 n) (.slice a m ca) #[.int .i64 4, .int .i64 x, .int .i64 y, .int .i64 c, .int .i64 d] #[.nilFunc, .func (.func 184) #[] #[], .func (.func 185) #[] #[], .func (.func 186) #[] #[], .func (.func 187) #[] #[], .func (.func 187) #[] #[]] u v := ⟨_, _, Q6⟩
  have y0 := Q6.r.cell 0
  have y1 := Q6.r.cell 1
  have f0 := Q6.r.free 0
  have f1 := Q6.r.free 1
  go_simp
  refine hK.out _ _ (hx6) (fun hHeld => ?_)
  clear hK K
  refine wT 7 (v := ?v34) rfl (by kernel_rfl) (fun _ _ _ h => h) ?h34 (by assumption) ?r34
  case h34 => (intro w hSw; (try dsimp only at hSw); go_simp; try with_reducible rfl)
  refine wT 8 (v := ?v35) rfl (by kernel_rfl) (fun _ _ _ h => h) ?h35 (by assumption) ?r35
  case h35 => (intro w hSw; (try dsimp only at hSw); go_simp; try with_reducible rfl)
  try simp only [Act.put, List.setIfInBounds_toArray, List.set_cons_zero, List.set_cons_succ]
  refine wpAnyH_ready (rs := [9]) (by kernel_rfl) (by simp) ?_
  refine AllReadyH.cons (o := ⟨_, _, _, _, _, _⟩) rfl (fun K hK => ?_) AllReadyH.nil
  go_simp
  have hx9 : ∃ u v, P4 w ((u6.setCell ⟨w.heap.size + 3, 0, none⟩ (.int .i64 n)).setCell ⟨w.heap.size + 3, 1, none⟩ (.slice a7 R.length c7)) (.int .i64 n) (.slice a m ca) #[.int .i64 4, .int .i64 x, .int .i64 y, .int .i64 c, .int .i64 d] #[.nilFunc, .func (.func 184) #[] #[], .func (.func 185) #[] #[], .func (.func 186) #[] #[], .func (.func 187) #[] #[], .func (.func 187) #[] #[]] u v := ⟨_, _, ⟨(Q6.bl.setCell (p := ⟨w.heap.size + 3, 0, none⟩) (by show w.heap.size ≤ w.heap.size + 3; omega) _).setCell (p := ⟨w.heap.size + 3, 1, none⟩) (by show w.heap.size ≤ w.heap.size + 3; omega) _, (Q6.z.far (p := ⟨w.heap.size + 3, 0, none⟩) (by simp) _).far (p := ⟨w.heap.size + 3, 1, none⟩) (by simp) _, (Q6.s.far (p := ⟨w.heap.size + 3, 0, none⟩) (by simp) _).far (p := ⟨w.heap.size + 3, 1, none⟩) (by simp) _, (Q6.t.far (p := ⟨w.heap.size + 3, 0, none⟩) (by simp) _).far (p := ⟨w.heap.size + 3, 1, none⟩) (by simp) _, zh_set Q6.r _ _⟩⟩
  refine hK.out _ _ (hx9) (fun hHeld => ?_)
  clear hK K
  refine wT 10 (v := ?v36) rfl (by kernel_rfl) (fun _ _ _ h => h) ?h36 (by assumption) ?r36
  case h36 => (intro w hSw; (try dsimp only at hSw); go_simp; try with_reducible rfl)
  try simp only [Act.put, List.setIfInBounds_toArray, List.set_cons_zero, List.set_cons_succ]
  refine wpAnyH_done (by kernel_rfl) ?_ _
  have hfin := Lib.hid (zone_put (n := n) (err := 0) (X3.out.on (Below.refl _ _).drew).bl (by omega) (X3.out.on (Below.refl _ _).drew).r hc7 s7 b7 nw7)
  clear g0 g1 gt r0 r1 r2 r3 r4 y0 y1 f0 f1 hx6 hx9 hHeld Q6
  go_wp2
  exact zone_ret2 hfin.out.1 hfin.out.2.1 _ _ 6 7 rfl rfl rfl rfl
set_option maxRecDepth 100000 in
set_option maxHeartbeats 400000 in
theorem do_steps_5 (n : Nat) (x y c d : Int) (l R : List Int) (hz : IsZ n l) (hr : rightB 5 x y c d n = true) (a : Option Addr) (m ca : Nat)
    (hq : ∀ W, SL W a m ca l → Calls Tryz.prog 187 #[.agg #[.int .i64 n, .slice a m ca], .agg #[.int .i64 5, .int .i64 x, .int .i64 y, .int .i64 c, .int .i64 d]] W (ZoneE n R 0 W)) (w : World) (h : SL w a m ca l) : Calls Tryz.prog 144 #[.agg #[.int .i64 n, .slice a m ca], .agg #[.int .i64 5, .int .i64 x, .int .i64 y, .int .i64 c, .int .i64 d], .agg #[.nilFunc, .func (.func 184) #[] #[], .func (.func 185) #[] #[], .func (.func 186) #[] #[], .func (.func 187) #[] #[], .func (.func 187) #[] #[]]] w (ZoneE n R 0 w) := by
  obtain ⟨W1, hW1⟩ : ∃ W1, W1 = (((w.alloc (.cells #[.int .i64 n, .slice a m ca] 51)).alloc (.cells #[.int .i64 5, .int .i64 x, .int .i64 y, .int .i64 c, .int .i64 d] 73)).alloc (.cells #[.nilFunc, .func (.func 184) #[] #[], .func (.func 185) #[] #[], .func (.func 186) #[] #[], .func (.func 187) #[] #[], .func (.func 187) #[] #[]] 167)).alloc (.cells #[.int .i64 0, .slice none 0 0] 51) := ⟨_, rfl⟩
  have X1 : P4 w W1 (.int .i64 n) (.slice a m ca) #[.int .i64 5, .int .i64 x, .int .i64 y, .int .i64 c, .int .i64 d] #[.nilFunc, .func (.func 184) #[] #[], .func (.func 185) #[] #[], .func (.func 186) #[] #[], .func (.func 187) #[] #[], .func (.func 187) #[] #[]] (.int .i64 0) (.slice none 0 0) := by rw [hW1]; exact p4_new _ _ _ _ _
  have hW1' := Lib.hid hW1
  have XP := Lib.hid X1
  have k0 := X1.z.cell 0
  have k1 := X1.z.cell 1
  have s0 := X1.s.cell 0
  have s1 := X1.s.cell 1
  have s2 := X1.s.cell 2
  have s3 := X1.s.cell 3
  have s4 := X1.s.cell 4
  have kl := X1.z.lt
  have q1 := Lib.hid (dcheck_any n a m ca l W1 (h.below X1.bl))
  rw [show chk n l = 0 by unfold chk; rw [hz.check]; rfl] at q1
  have q2 := Lib.hid (fun W => right_any 5 x y c d n W)
  rw [hr] at q2
  have hq' := Lib.hid hq
  have hS := Lib.hid h
  clear hW1 X1 h hz hq hr
  go_enter Tryz.func144, Tryz.ntmps144
  go_wp2_with fail
  rw [← hW1'.out]
  refine q1.out.mono ?_
  rintro e w2 ⟨rfl, b2⟩
  have X2 := Lib.hid (XP.out.on b2)
  clear b2 q1 k0 k1 s0 s1 s2 s3 s4 kl XP hW1'
  have k0 := X2.out.z.cell 0
  have s0 := X2.out.s.cell 0
  have s1 := X2.out.s.cell 1
  have s2 := X2.out.s.cell 2
  have s3 := X2.out.s.cell 3
  have s4 := X2.out.s.cell 4
  go_wp2_with fail
  refine (q2.out _).mono ?_
  rintro e w3 ⟨rfl, b3⟩
  have X3 := Lib.hid (X2.out.on b3)
  clear b3 q2 k0 s0 s1 s2 s3 s4 X2
  have D : ∀ W, P4 w W (.int .i64 n) (.slice a m ca) #[.int .i64 5, .int .i64 x, .int .i64 y, .int .i64 c, .int .i64 d] #[.nilFunc, .func (.func 184) #[] #[], .func (.func 185) #[] #[], .func (.func 186) #[] #[], .func (.func 187) #[] #[], .func (.func 187) #[] #[]] (.int .i64 0) (.slice none 0 0) → W.cell? ⟨w.heap.size + 1, 0, none⟩ = some (.int .i64 5) := fun W hW => hW.s.cell 0
  go_wp2
  have g0 : ∀ W, (∃ u v, P4 w W (.int .i64 n) (.slice a m ca) #[.int .i64 5, .int .i64 x, .int .i64 y, .int .i64 c, .int .i64 d] #[.nilFunc, .func (.func 184) #[] #[], .func (.func 185) #[] #[], .func (.func 186) #[] #[], .func (.func 187) #[] #[], .func (.func 187) #[] #[]] u v) → W.cell? ⟨w.heap.size, 0, none⟩ = some (.int .i64 n) := fun W hW => by obtain ⟨_, _, hP⟩ := hW; exact hP.z.cell 0
  have g1 : ∀ W, (∃ u v, P4 w W (.int .i64 n) (.slice a m ca) #[.int .i64 5, .int .i64 x, .int .i64 y, .int .i64 c, .int .i64 d] #[.nilFunc, .func (.func 184) #[] #[], .func (.func 185) #[] #[], .func (.func 186) #[] #[], .func (.func 187) #[] #[], .func (.func 187) #[] #[]] u v) → W.cell? ⟨w.heap.size, 1, none⟩ = some (.slice a m ca) := fun W hW => by obtain ⟨_, _, hP⟩ := hW; exact hP.z.cell 1
  have gt : ∀ W, (∃ u v, P4 w W (.int .i64 n) (.slice a m ca) #[.int .i64 5, .int .i64 x, .int .i64 y, .int .i64 c, .int .i64 d] #[.nilFunc, .func (.func 184) #[] #[], .func (.func 185) #[] #[], .func (.func 186) #[] #[], .func (.func 187) #[] #[], .func (.func 187) #[] #[]] u v) → W.cell? ⟨w.heap.size + 2, 5, none⟩ = some (.func (.func 187) #[] #[]) := fun W hW => by obtain ⟨_, _, hP⟩ := hW; exact hP.t.cell 5
  have r0 : ∀ W, (∃ u v, P4 w W (.int .i64 n) (.slice a m ca) #[.int .i64 5, .int .i64 x, .int .i64 y, .int .i64 c, .int .i64 d] #[.nilFunc, .func (.func 184) #[] #[], .func (.func 185) #[] #[], .func (.func 186) #[] #[], .func (.func 187) #[] #[], .func (.func 187) #[] #[]] u v) → W.cell? ⟨w.heap.size + 1, 0, none⟩ = some (.int .i64 5) := fun W hW => by obtain ⟨_, _, hP⟩ := hW; exact hP.s.cell 0
  have r1 : ∀ W, (∃ u v, P4 w W (.int .i64 n) (.slice a m ca) #[.int .i64 5, .int .i64 x, .int .i64 y, .int .i64 c, .int .i64 d] #[.nilFunc, .func (.func 184) #[] #[], .func (.func 185) #[] #[], .func (.func 186) #[] #[], .func (.func 187) #[] #[], .func (.func 187) #[] #[]] u v) → W.cell? ⟨w.heap.size + 1, 1, none⟩ = some (.int .i64 x) := fun W hW => by obtain ⟨_, _, hP⟩ := hW; exact hP.s.cell 1
  have r2 : ∀ W, (∃ u v, P4 w W (.int .i64 n) (.slice a m ca) #[.int .i64 5, .int .i64 x, .int .i64 y, .int .i64 c, .int .i64 d] #[.nilFunc, .func (.func 184) #[] #[], .func (.func 185) #[] #[], .func (.func 186) #[] #[], .func (.func 187) #[] #[], .func (.func 187) #[] #[]] u v) → W.cell? ⟨w.heap.size + 1, 2, none⟩ = some (.int .i64 y) := fun W hW => by obtain ⟨_, _, hP⟩ := hW; exact hP.s.cell 2
  have r3 : ∀ W, (∃ u v, P4 w W (.int .i64 n) (.slice a m ca) #[.int .i64 5, .int .i64 x, .int .i64 y, .int .i64 c, .int .i64 d] #[.nilFunc, .func (.func 184) #[] #[], .func (.func 185) #[] #[], .func (.func 186) #[] #[], .func (.func 187) #[] #[], .func (.func 187) #[] #[]] u v) → W.cell? ⟨w.heap.size + 1, 3, none⟩ = some (.int .i64 c) := fun W hW => by obtain ⟨_, _, hP⟩ := hW; exact hP.s.cell 3
  have r4 : ∀ W, (∃ u v, P4 w W (.int .i64 n) (.slice a m ca) #[.int .i64 5, .int .i64 x, .int .i64 y, .int .i64 c, .int .i64 d] #[.nilFunc, .func (.func 184) #[] #[], .func (.func 185) #[] #[], .func (.func 186) #[] #[], .func (.func 187) #[] #[], .func (.func 187) #[] #[]] u v) → W.cell? ⟨w.heap.size + 1, 4, none⟩ = some (.int .i64 d) := fun W hW => by obtain ⟨_, _, hP⟩ := hW; exact hP.s.cell 4
  clear D
  refine wp_drawn_on (fun W => ∃ u v, P4 w W (.int .i64 n) (.slice a m ca) #[.int .i64 5, .int .i64 x, .int .i64 y, .int .i64 c, .int .i64 d] #[.nilFunc, .func (.func 184) #[] #[], .func (.func 185) #[] #[], .func (.func 186) #[] #[], .func (.func 187) #[] #[], .func (.func 187) #[] #[]] u v) (by kernel_rfl) (⟨_, _, X3.out.on (Below.refl _ _).drew⟩) (fun hHeld => ?_)
  refine wT 0 (v := ?v37) rfl (by kernel_rfl) (fun _ _ _ h => h) ?h37 (by assumption) ?r37
  case h37 => (intro w hSw; (try dsimp only at hSw); go_simp; try with_reducible rfl)
  refine wT 1 (v := ?v38) rfl (by kernel_rfl) (fun _ _ _ h => h) ?h38 (by assumption) ?r38
  case h38 => (intro w hSw; (try dsimp only at hSw); go_simp; try with_reducible rfl)
  refine wT 2 (v := ?v39) rfl (by kernel_rfl) (fun _ _ _ h => h) ?h39 (by assumption) ?r39
  case h39 => (intro w hSw; (try dsimp only at hSw); go_simp; try with_reducible rfl)
  refine wT 3 (v := ?v40) rfl (by kernel_rfl) (fun _ _ _ h => h) ?h40 (by assumption) ?r40
  case h40 => (intro w hSw; (try dsimp only at hSw); go_simp; try with_reducible rfl)
  refine wT 4 (v := ?v41) rfl (by kernel_rfl) (fun _ _ _ h => h) ?h41 (by assumption) ?r41
  case h41 => (intro w hSw; (try dsimp only at hSw); go_simp; try with_reducible rfl)
  refine wT 5 (v := ?v42) rfl (by kernel_rfl) (fun _ _ _ h => h) ?h42 (by assumption) ?r42
  case h42 => (intro w hSw; (try dsimp only at hSw); go_simp; try with_reducible rfl)
  try simp only [Act.put, List.setIfInBounds_toArray, List.set_cons_zero, List.set_cons_succ]
  refine wpAnyH_ready (rs := [6]) (by kernel_rfl) (by simp) ?_
  refine AllReadyH.cons (o := ⟨_, _, _, _, _, _⟩) rfl (fun K hK => ?_) AllReadyH.nil
  go_simp
  refine (hq'.out _ (hS.out.below (X3.out.on (Below.refl _ _).drew).bl)).mono ?_
  rintro e u6 ⟨a7, c7, rfl, hc7, s7, b7, nw7⟩
  have Q6 := (X3.out.on (Below.refl _ _).drew).on b7
  have hx6 : ∃ u v, P4 w u6 (.int .i64 n) (.slice a m ca) #[.int .i64 5, .int .i64 x, .int .i64 y, .int .i64 c, .int .i64 d] #[.nilFunc, .func (.func 184) #[] #[], .func (.func 185) #[] #[], .func (.func 186) #[] #[], .func (.func 187) #[] #[], .func (.func 187) #[] #[]] u v := ⟨_, _, Q6⟩
  have y0 := Q6.r.cell 0
  have y1 := Q6.r.cell 1
  have f0 := Q6.r.free 0
  have f1 := Q6.r.free 1
  go_simp
  refine hK.out _ _ (hx6) (fun hHeld => ?_)
  clear hK K
  refine wT 7 (v := ?v43) rfl (by kernel_rfl) (fun _ _ _ h => h) ?h43 (by assumption) ?r43
  case h43 => (intro w hSw; (try dsimp only at hSw); go_simp; try with_reducible rfl)
  refine wT 8 (v := ?v44) rfl (by kernel_rfl) (fun _ _ _ h => h) ?h44 (by assumption) ?r44
  case h44 => (intro w hSw; (try dsimp only at hSw); go_simp; try with_reducible rfl)
  try simp only [Act.put, List.setIfInBounds_toArray, List.set_cons_zero, List.set_cons_succ]
  refine wpAnyH_ready (rs := [9]) (by kernel_rfl) (by simp) ?_
  refine AllReadyH.cons (o := ⟨_, _, _, _, _, _⟩) rfl (fun K hK => ?_) AllReadyH.nil
  go_simp
  have hx9 : ∃ u v, P4 w ((u6.setCell ⟨w.heap.size + 3, 0, none⟩ (.int .i64 n)).setCell ⟨w.heap.size + 3, 1, none⟩ (.slice a7 R.length c7)) (.int .i64 n) (.slice a m ca) #[.int .i64 5, .int .i64 x, .int .i64 y, .int .i64 c, .int .i64 d] #[.nilFunc, .func (.func 184) #[] #[], .func (.func 185) #[] #[], .func (.func 186) #[] #[], .func (.func 187) #[] #[], .func (.func 187) #[] #[]] u v := ⟨_, _, ⟨(Q6.bl.setCell (p := ⟨w.heap.size + 3, 0, none⟩) (by show w.heap.size ≤ w.heap.size + 3; omega) _).setCell (p := ⟨w.heap.size + 3, 1, none⟩) (by show w.heap.size ≤ w.heap.size + 3; omega) _, (Q6.z.far (p := ⟨w.heap.size + 3, 0, none⟩) (by simp) _).far (p := ⟨w.heap.size + 3, 1, none⟩) (by simp) _, (Q6.s.far (p := ⟨w.heap.size + 3, 0, none⟩) (by simp) _).far (p := ⟨w.heap.size + 3, 1, none⟩) (by simp) _, (Q6.t.far (p := ⟨w.heap.size + 3, 0, none⟩) (by simp) _).far (p := ⟨w.heap.size + 3, 1, none⟩) (by simp) _, zh_set Q6.r _ _⟩⟩
  refine hK.out _ _ (hx9) (fun hHeld => ?_)
  clear hK K
  refine wT 10 (v := ?v45) rfl (by kernel_rfl) (fun _ _ _ h => h) ?h45 (by assumption) ?r45
  case h45 => (intro w hSw; (try dsimp only at hSw); go_simp; try with_reducible rfl)
  try simp only [Act.put, List.setIfInBounds_toArray, List.set_cons_zero, List.set_cons_succ]
  refine wpAnyH_done (by kernel_rfl) ?_ _
  have hfin := Lib.hid (zone_put (n := n) (err := 0) (X3.out.on (Below.refl _ _).drew).bl (by omega) (X3.out.on (Below.refl _ _).drew).r hc7 s7 b7 nw7)
  clear g0 g1 gt r0 r1 r2 r3 r4 y0 y1 f0 f1 hx6 hx9 hHeld Q6
  go_wp2
  exact zone_ret2 hfin.out.1 hfin.out.2.1 _ _ 6 7 rfl rfl rfl rfl
set_option maxRecDepth 100000 in
set_option maxHeartbeats 400000 in
theorem do_faults_1 (n : Nat) (x y c d : Int) (l R : List Int) (hz : IsZ n l) (hr : rightB 1 x y c d n = true) (a : Option Addr) (m ca : Nat)
    (hq : ∀ W, SL W a m ca l → Calls Tryz.prog 198 #[.agg #[.int .i64 n, .slice a m ca], .agg #[.int .i64 1, .int .i64 x, .int .i64 y, .int .i64 c, .int .i64 d]] W (ZoneE n R 0 W)) (w : World) (h : SL w a m ca l) : Calls Tryz.prog 144 #[.agg #[.int .i64 n, .slice a m ca], .agg #[.int .i64 1, .int .i64 x, .int .i64 y, .int .i64 c, .int .i64 d], .agg #[.nilFunc, .func (.func 198) #[] #[], .func (.func 198) #[] #[], .func (.func 198) #[] #[], .func (.func 198) #[] #[], .func (.func 199) #[] #[]]] w (ZoneE n R 0 w) := by
  obtain ⟨W1, hW1⟩ : ∃ W1, W1 = (((w.alloc (.cells #[.int .i64 n, .slice a m ca] 51)).alloc (.cells #[.int .i64 1, .int .i64 x, .int .i64 y, .int .i64 c, .int .i64 d] 73)).alloc (.cells #[.nilFunc, .func (.func 198) #[] #[], .func (.func 198) #[] #[], .func (.func 198) #[] #[], .func (.func 198) #[] #[], .func (.func 199) #[] #[]] 167)).alloc (.cells #[.int .i64 0, .slice none 0 0] 51) := ⟨_, rfl⟩
  have X1 : P4 w W1 (.int .i64 n) (.slice a m ca) #[.int .i64 1, .int .i64 x, .int .i64 y, .int .i64 c, .int .i64 d] #[.nilFunc, .func (.func 198) #[] #[], .func (.func 198) #[] #[], .func (.func 198) #[] #[], .func (.func 198) #[] #[], .func (.func 199) #[] #[]] (.int .i64 0) (.slice none 0 0) := by rw [hW1]; exact p4_new _ _ _ _ _
  have hW1' := Lib.hid hW1
  have XP := Lib.hid X1
  have k0 := X1.z.cell 0
  have k1 := X1.z.cell 1
  have s0 := X1.s.cell 0
  have s1 := X1.s.cell 1
  have s2 := X1.s.cell 2
  have s3 := X1.s.cell 3
  have s4 := X1.s.cell 4
  have kl := X1.z.lt
  have q1 := Lib.hid (dcheck_any n a m ca l W1 (h.below X1.bl))
  rw [show chk n l = 0 by unfold chk; rw [hz.check]; rfl] at q1
  have q2 := Lib.hid (fun W => right_any 1 x y c d n W)
  rw [hr] at q2
  have hq' := Lib.hid hq
  have hS := Lib.hid h
  clear hW1 X1 h hz hq hr
  go_enter Tryz.func144, Tryz.ntmps144
  go_wp2_with fail
  rw [← hW1'.out]
  refine q1.out.mono ?_
  rintro e w2 ⟨rfl, b2⟩
  have X2 := Lib.hid (XP.out.on b2)
  clear b2 q1 k0 k1 s0 s1 s2 s3 s4 kl XP hW1'
  have k0 := X2.out.z.cell 0
  have s0 := X2.out.s.cell 0
  have s1 := X2.out.s.cell 1
  have s2 := X2.out.s.cell 2
  have s3 := X2.out.s.cell 3
  have s4 := X2.out.s.cell 4
  go_wp2_with fail
  refine (q2.out _).mono ?_
  rintro e w3 ⟨rfl, b3⟩
  have X3 := Lib.hid (X2.out.on b3)
  clear b3 q2 k0 s0 s1 s2 s3 s4 X2
  have D : ∀ W, P4 w W (.int .i64 n) (.slice a m ca) #[.int .i64 1, .int .i64 x, .int .i64 y, .int .i64 c, .int .i64 d] #[.nilFunc, .func (.func 198) #[] #[], .func (.func 198) #[] #[], .func (.func 198) #[] #[], .func (.func 198) #[] #[], .func (.func 199) #[] #[]] (.int .i64 0) (.slice none 0 0) → W.cell? ⟨w.heap.size + 1, 0, none⟩ = some (.int .i64 1) := fun W hW => hW.s.cell 0
  go_wp2
  have g0 : ∀ W, (∃ u v, P4 w W (.int .i64 n) (.slice a m ca) #[.int .i64 1, .int .i64 x, .int .i64 y, .int .i64 c, .int .i64 d] #[.nilFunc, .func (.func 198) #[] #[], .func (.func 198) #[] #[], .func (.func 198) #[] #[], .func (.func 198) #[] #[], .func (.func 199) #[] #[]] u v) → W.cell? ⟨w.heap.size, 0, none⟩ = some (.int .i64 n) := fun W hW => by obtain ⟨_, _, hP⟩ := hW; exact hP.z.cell 0
  have g1 : ∀ W, (∃ u v, P4 w W (.int .i64 n) (.slice a m ca) #[.int .i64 1, .int .i64 x, .int .i64 y, .int .i64 c, .int .i64 d] #[.nilFunc, .func (.func 198) #[] #[], .func (.func 198) #[] #[], .func (.func 198) #[] #[], .func (.func 198) #[] #[], .func (.func 199) #[] #[]] u v) → W.cell? ⟨w.heap.size, 1, none⟩ = some (.slice a m ca) := fun W hW => by obtain ⟨_, _, hP⟩ := hW; exact hP.z.cell 1
  have gt : ∀ W, (∃ u v, P4 w W (.int .i64 n) (.slice a m ca) #[.int .i64 1, .int .i64 x, .int .i64 y, .int .i64 c, .int .i64 d] #[.nilFunc, .func (.func 198) #[] #[], .func (.func 198) #[] #[], .func (.func 198) #[] #[], .func (.func 198) #[] #[], .func (.func 199) #[] #[]] u v) → W.cell? ⟨w.heap.size + 2, 1, none⟩ = some (.func (.func 198) #[] #[]) := fun W hW => by obtain ⟨_, _, hP⟩ := hW; exact hP.t.cell 1
  have r0 : ∀ W, (∃ u v, P4 w W (.int .i64 n) (.slice a m ca) #[.int .i64 1, .int .i64 x, .int .i64 y, .int .i64 c, .int .i64 d] #[.nilFunc, .func (.func 198) #[] #[], .func (.func 198) #[] #[], .func (.func 198) #[] #[], .func (.func 198) #[] #[], .func (.func 199) #[] #[]] u v) → W.cell? ⟨w.heap.size + 1, 0, none⟩ = some (.int .i64 1) := fun W hW => by obtain ⟨_, _, hP⟩ := hW; exact hP.s.cell 0
  have r1 : ∀ W, (∃ u v, P4 w W (.int .i64 n) (.slice a m ca) #[.int .i64 1, .int .i64 x, .int .i64 y, .int .i64 c, .int .i64 d] #[.nilFunc, .func (.func 198) #[] #[], .func (.func 198) #[] #[], .func (.func 198) #[] #[], .func (.func 198) #[] #[], .func (.func 199) #[] #[]] u v) → W.cell? ⟨w.heap.size + 1, 1, none⟩ = some (.int .i64 x) := fun W hW => by obtain ⟨_, _, hP⟩ := hW; exact hP.s.cell 1
  have r2 : ∀ W, (∃ u v, P4 w W (.int .i64 n) (.slice a m ca) #[.int .i64 1, .int .i64 x, .int .i64 y, .int .i64 c, .int .i64 d] #[.nilFunc, .func (.func 198) #[] #[], .func (.func 198) #[] #[], .func (.func 198) #[] #[], .func (.func 198) #[] #[], .func (.func 199) #[] #[]] u v) → W.cell? ⟨w.heap.size + 1, 2, none⟩ = some (.int .i64 y) := fun W hW => by obtain ⟨_, _, hP⟩ := hW; exact hP.s.cell 2
  have r3 : ∀ W, (∃ u v, P4 w W (.int .i64 n) (.slice a m ca) #[.int .i64 1, .int .i64 x, .int .i64 y, .int .i64 c, .int .i64 d] #[.nilFunc, .func (.func 198) #[] #[], .func (.func 198) #[] #[], .func (.func 198) #[] #[], .func (.func 198) #[] #[], .func (.func 199) #[] #[]] u v) → W.cell? ⟨w.heap.size + 1, 3, none⟩ = some (.int .i64 c) := fun W hW => by obtain ⟨_, _, hP⟩ := hW; exact hP.s.cell 3
  have r4 : ∀ W, (∃ u v, P4 w W (.int .i64 n) (.slice a m ca) #[.int .i64 1, .int .i64 x, .int .i64 y, .int .i64 c, .int .i64 d] #[.nilFunc, .func (.func 198) #[] #[], .func (.func 198) #[] #[], .func (.func 198) #[] #[], .func (.func 198) #[] #[], .func (.func 199) #[] #[]] u v) → W.cell? ⟨w.heap.size + 1, 4, none⟩ = some (.int .i64 d) := fun W hW => by obtain ⟨_, _, hP⟩ := hW; exact hP.s.cell 4
  clear D
  refine wp_drawn_on (fun W => ∃ u v, P4 w W (.int .i64 n) (.slice a m ca) #[.int .i64 1, .int .i64 x, .int .i64 y, .int .i64 c, .int .i64 d] #[.nilFunc, .func (.func 198) #[] #[], .func (.func 198) #[] #[], .func (.func 198) #[] #[], .func (.func 198) #[] #[], .func (.func 199) #[] #[]] u v) (by kernel_rfl) (⟨_, _, X3.out.on (Below.refl _ _).drew⟩) (fun hHeld => ?_)
  refine wT 0 (v := ?v46) rfl (by kernel_rfl) (fun _ _ _ h => h) ?h46 (by assumption) ?r46
  case h46 => (intro w hSw; (try dsimp only at hSw); go_simp; try with_reducible rfl)
  refine wT 1 (v := ?v47) rfl (by kernel_rfl) (fun _ _ _ h => h) ?h47 (by assumption) ?r47
  case h47 => (intro w hSw; (try dsimp only at hSw); go_simp; try with_reducible rfl)
  refine wT 2 (v := ?v48) rfl (by kernel_rfl) (fun _ _ _ h => h) ?h48 (by assumption) ?r48
  case h48 => (intro w hSw; (try dsimp only at hSw); go_simp; try with_reducible rfl)
  refine wT 3 (v := ?v49) rfl (by kernel_rfl) (fun _ _ _ h => h) ?h49 (by assumption) ?r49
  case h49 => (intro w hSw; (try dsimp only at hSw); go_simp; try with_reducible rfl)
  refine wT 4 (v := ?v50) rfl (by kernel_rfl) (fun _ _ _ h => h) ?h50 (by assumption) ?r50
  case h50 => (intro w hSw; (try dsimp only at hSw); go_simp; try with_reducible rfl)
  refine wT 5 (v := ?v51) rfl (by kernel_rfl) (fun _ _ _ h => h) ?h51 (by assumption) ?r51
  case h51 => (intro w hSw; (try dsimp only at hSw); go_simp; try with_reducible rfl)
  try simp only [Act.put, List.setIfInBounds_toArray, List.set_cons_zero, List.set_cons_succ]
  refine wpAnyH_ready (rs := [6]) (by kernel_rfl) (by simp) ?_
  refine AllReadyH.cons (o := ⟨_, _, _, _, _, _⟩) rfl (fun K hK => ?_) AllReadyH.nil
  go_simp
  refine (hq'.out _ (hS.out.below (X3.out.on (Below.refl _ _).drew).bl)).mono ?_
  rintro e u6 ⟨a7, c7, rfl, hc7, s7, b7, nw7⟩
  have Q6 := (X3.out.on (Below.refl _ _).drew).on b7
  have hx6 : ∃ u v, P4 w u6 (.int .i64 n) (.slice a m ca) #[.int .i64 1, .int .i64 x, .int .i64 y, .int .i64 c, .int .i64 d] #[.nilFunc, .func (.func 198) #[] #[], .func (.func 198) #[] #[], .func (.func 198) #[] #[], .func (.func 198) #[] #[], .func (.func 199) #[] #[]] u v := ⟨_, _, Q6⟩
  have y0 := Q6.r.cell 0
  have y1 := Q6.r.cell 1
  have f0 := Q6.r.free 0
  have f1 := Q6.r.free 1
  go_simp
  refine hK.out _ _ (hx6) (fun hHeld => ?_)
  clear hK K
  refine wT 7 (v := ?v52) rfl (by kernel_rfl) (fun _ _ _ h => h) ?h52 (by assumption) ?r52
  case h52 => (intro w hSw; (try dsimp only at hSw); go_simp; try with_reducible rfl)
  refine wT 8 (v := ?v53) rfl (by kernel_rfl) (fun _ _ _ h => h) ?h53 (by assumption) ?r53
  case h53 => (intro w hSw; (try dsimp only at hSw); go_simp; try with_reducible rfl)
  try simp only [Act.put, List.setIfInBounds_toArray, List.set_cons_zero, List.set_cons_succ]
  refine wpAnyH_ready (rs := [9]) (by kernel_rfl) (by simp) ?_
  refine AllReadyH.cons (o := ⟨_, _, _, _, _, _⟩) rfl (fun K hK => ?_) AllReadyH.nil
  go_simp
  have hx9 : ∃ u v, P4 w ((u6.setCell ⟨w.heap.size + 3, 0, none⟩ (.int .i64 n)).setCell ⟨w.heap.size + 3, 1, none⟩ (.slice a7 R.length c7)) (.int .i64 n) (.slice a m ca) #[.int .i64 1, .int .i64 x, .int .i64 y, .int .i64 c, .int .i64 d] #[.nilFunc, .func (.func 198) #[] #[], .func (.func 198) #[] #[], .func (.func 198) #[] #[], .func (.func 198) #[] #[], .func (.func 199) #[] #[]] u v := ⟨_, _, ⟨(Q6.bl.setCell (p := ⟨w.heap.size + 3, 0, none⟩) (by show w.heap.size ≤ w.heap.size + 3; omega) _).setCell (p := ⟨w.heap.size + 3, 1, none⟩) (by show w.heap.size ≤ w.heap.size + 3; omega) _, (Q6.z.far (p := ⟨w.heap.size + 3, 0, none⟩) (by simp) _).far (p := ⟨w.heap.size + 3, 1, none⟩) (by simp) _, (Q6.s.far (p := ⟨w.heap.size + 3, 0, none⟩) (by simp) _).far (p := ⟨w.heap.size + 3, 1, none⟩) (by simp) _, (Q6.t.far (p := ⟨w.heap.size + 3, 0, none⟩) (by simp) _).far (p := ⟨w.heap.size + 3, 1, none⟩) (by simp) _, zh_set Q6.r _ _⟩⟩
  refine hK.out _ _ (hx9) (fun hHeld => ?_)
  clear hK K
  refine wT 10 (v := ?v54) rfl (by kernel_rfl) (fun _ _ _ h => h) ?h54 (by assumption) ?r54
  case h54 => (intro w hSw; (try dsimp only at hSw); go_simp; try with_reducible rfl)
  try simp only [Act.put, List.setIfInBounds_toArray, List.set_cons_zero, List.set_cons_succ]
  refine wpAnyH_done (by kernel_rfl) ?_ _
  have hfin := Lib.hid (zone_put (n := n) (err := 0) (X3.out.on (Below.refl _ _).drew).bl (by omega) (X3.out.on (Below.refl _ _).drew).r hc7 s7 b7 nw7)
  clear g0 g1 gt r0 r1 r2 r3 r4 y0 y1 f0 f1 hx6 hx9 hHeld Q6
  go_wp2
  exact zone_ret2 hfin.out.1 hfin.out.2.1 _ _ 6 7 rfl rfl rfl rfl
set_option maxRecDepth 100000 in
set_option maxHeartbeats 400000 in
theorem do_faults_2 (n : Nat) (x y c d : Int) (l R : List Int) (hz : IsZ n l) (hr : rightB 2 x y c d n = true) (a : Option Addr) (m ca : Nat)
    (hq : ∀ W, SL W a m ca l → Calls Tryz.prog 198 #[.agg #[.int .i64 n, .slice a m ca], .agg #[.int .i64 2, .int .i64 x, .int .i64 y, .int .i64 c, .int .i64 d]] W (ZoneE n R 0 W)) (w : World) (h : SL w a m ca l) : Calls Tryz.prog 144 #[.agg #[.int .i64 n, .slice a m ca], .agg #[.int .i64 2, .int .i64 x, .int .i64 y, .int .i64 c, .int .i64 d], .agg #[.nilFunc, .func (.func 198) #[] #[], .func (.func 198) #[] #[], .func (.func 198) #[] #[], .func (.func 198) #[] #[], .func (.func 199) #[] #[]]] w (ZoneE n R 0 w) := by
  obtain ⟨W1, hW1⟩ : ∃ W1, W1 = (((w.alloc (.cells #[.int .i64 n, .slice a m ca] 51)).alloc (.cells #[.int .i64 2, .int .i64 x, .int .i64 y, .int .i64 c, .int .i64 d] 73)).alloc (.cells #[.nilFunc, .func (.func 198) #[] #[], .func (.func 198) #[] #[], .func (.func 198) #[] #[], .func (.func 198) #[] #[], .func (.func 199) #[] #[]] 167)).alloc (.cells #[.int .i64 0, .slice none 0 0] 51) := ⟨_, rfl⟩
  have X1 : P4 w W1 (.int .i64 n) (.slice a m ca) #[.int .i64 2, .int .i64 x, .int .i64 y, .int .i64 c, .int .i64 d] #[.nilFunc, .func (.func 198) #[] #[], .func (.func 198) #[] #[], .func (.func 198) #[] #[], .func (.func 198) #[] #[], .func (.func 199) #[] #[]] (.int .i64 0) (.slice none 0 0) := by rw [hW1]; exact p4_new _ _ _ _ _
  have hW1' := Lib.hid hW1
  have XP := Lib.hid X1
  have k0 := X1.z.cell 0
  have k1 := X1.z.cell 1
  have s0 := X1.s.cell 0
  have s1 := X1.s.cell 1
  have s2 := X1.s.cell 2
  have s3 := X1.s.cell 3
  have s4 := X1.s.cell 4
  have kl := X1.z.lt
  have q1 := Lib.hid (dcheck_any n a m ca l W1 (h.below X1.bl))
  rw [show chk n l = 0 by unfold chk; rw [hz.check]; rfl] at q1
  have q2 := Lib.hid (fun W => right_any 2 x y c d n W)
  rw [hr] at q2
  have hq' := Lib.hid hq
  have hS := Lib.hid h
  clear hW1 X1 h hz hq hr
  go_enter Tryz.func144, Tryz.ntmps144
  go_wp2_with fail
  rw [← hW1'.out]
  refine q1.out.mono ?_
  rintro e w2 ⟨rfl, b2⟩
  have X2 := Lib.hid (XP.out.on b2)
  clear b2 q1 k0 k1 s0 s1 s2 s3 s4 kl XP hW1'
  have k0 := X2.out.z.cell 0
  have s0 := X2.out.s.cell 0
  have s1 := X2.out.s.cell 1
  have s2 := X2.out.s.cell 2
  have s3 := X2.out.s.cell 3
  have s4 := X2.out.s.cell 4
  go_wp2_with fail
  refine (q2.out _).mono ?_
  rintro e w3 ⟨rfl, b3⟩
  have X3 := Lib.hid (X2.out.on b3)
  clear b3 q2 k0 s0 s1 s2 s3 s4 X2
  have D : ∀ W, P4 w W (.int .i64 n) (.slice a m ca) #[.int .i64 2, .int .i64 x, .int .i64 y, .int .i64 c, .int .i64 d] #[.nilFunc, .func (.func 198) #[] #[], .func (.func 198) #[] #[], .func (.func 198) #[] #[], .func (.func 198) #[] #[], .func (.func 199) #[] #[]] (.int .i64 0) (.slice none 0 0) → W.cell? ⟨w.heap.size + 1, 0, none⟩ = some (.int .i64 2) := fun W hW => hW.s.cell 0
  go_wp2
  have g0 : ∀ W, (∃ u v, P4 w W (.int .i64 n) (.slice a m ca) #[.int .i64 2, .int .i64 x, .int .i64 y, .int .i64 c, .int .i64 d] #[.nilFunc, .func (.func 198) #[] #[], .func (.func 198) #[] #[], .func (.func 198) #[] #[], .func (.func 198) #[] #[], .func (.func 199) #[] #[]] u v) → W.cell? ⟨w.heap.size, 0, none⟩ = some (.int .i64 n) := fun W hW => by obtain ⟨_, _, hP⟩ := hW; exact hP.z.cell 0
  have g1 : ∀ W, (∃ u v, P4 w W (.int .i64 n) (.slice a m ca) #[.int .i64 2, .int .i64 x, .int .i64 y, .int .i64 c, .int .i64 d] #[.nilFunc, .func (.func 198) #[] #[], .func (.func 198) #[] #[], .func (.func 198) #[] #[], .func (.func 198) #[] #[], .func (.func 199) #[] #[]] u v) → W.cell? ⟨w.heap.size, 1, none⟩ = some (.slice a m ca) := fun W hW => by obtain ⟨_, _, hP⟩ := hW; exact hP.z.cell 1
  have gt : ∀ W, (∃ u v, P4 w W (.int .i64 n) (.slice a m ca) #[.int .i64 2, .int .i64 x, .int .i64 y, .int .i64 c, .int .i64 d] #[.nilFunc, .func (.func 198) #[] #[], .func (.func 198) #[] #[], .func (.func 198) #[] #[], .func (.func 198) #[] #[], .func (.func 199) #[] #[]] u v) → W.cell? ⟨w.heap.size + 2, 2, none⟩ = some (.func (.func 198) #[] #[]) := fun W hW => by obtain ⟨_, _, hP⟩ := hW; exact hP.t.cell 2
  have r0 : ∀ W, (∃ u v, P4 w W (.int .i64 n) (.slice a m ca) #[.int .i64 2, .int .i64 x, .int .i64 y, .int .i64 c, .int .i64 d] #[.nilFunc, .func (.func 198) #[] #[], .func (.func 198) #[] #[], .func (.func 198) #[] #[], .func (.func 198) #[] #[], .func (.func 199) #[] #[]] u v) → W.cell? ⟨w.heap.size + 1, 0, none⟩ = some (.int .i64 2) := fun W hW => by obtain ⟨_, _, hP⟩ := hW; exact hP.s.cell 0
  have r1 : ∀ W, (∃ u v, P4 w W (.int .i64 n) (.slice a m ca) #[.int .i64 2, .int .i64 x, .int .i64 y, .int .i64 c, .int .i64 d] #[.nilFunc, .func (.func 198) #[] #[], .func (.func 198) #[] #[], .func (.func 198) #[] #[], .func (.func 198) #[] #[], .func (.func 199) #[] #[]] u v) → W.cell? ⟨w.heap.size + 1, 1, none⟩ = some (.int .i64 x) := fun W hW => by obtain ⟨_, _, hP⟩ := hW; exact hP.s.cell 1
  have r2 : ∀ W, (∃ u v, P4 w W (.int .i64 n) (.slice a m ca) #[.int .i64 2, .int .i64 x, .int .i64 y, .int .i64 c, .int .i64 d] #[.nilFunc, .func (.func 198) #[] #[], .func (.func 198) #[] #[], .func (.func 198) #[] #[], .func (.func 198) #[] #[], .func (.func 199) #[] #[]] u v) → W.cell? ⟨w.heap.size + 1, 2, none⟩ = some (.int .i64 y) := fun W hW => by obtain ⟨_, _, hP⟩ := hW; exact hP.s.cell 2
  have r3 : ∀ W, (∃ u v, P4 w W (.int .i64 n) (.slice a m ca) #[.int .i64 2, .int .i64 x, .int .i64 y, .int .i64 c, .int .i64 d] #[.nilFunc, .func (.func 198) #[] #[], .func (.func 198) #[] #[], .func (.func 198) #[] #[], .func (.func 198) #[] #[], .func (.func 199) #[] #[]] u v) → W.cell? ⟨w.heap.size + 1, 3, none⟩ = some (.int .i64 c) := fun W hW => by obtain ⟨_, _, hP⟩ := hW; exact hP.s.cell 3
  have r4 : ∀ W, (∃ u v, P4 w W (.int .i64 n) (.slice a m ca) #[.int .i64 2, .int .i64 x, .int .i64 y, .int .i64 c, .int .i64 d] #[.nilFunc, .func (.func 198) #[] #[], .func (.func 198) #[] #[], .func (.func 198) #[] #[], .func (.func 198) #[] #[], .func (.func 199) #[] #[]] u v) → W.cell? ⟨w.heap.size + 1, 4, none⟩ = some (.int .i64 d) := fun W hW => by obtain ⟨_, _, hP⟩ := hW; exact hP.s.cell 4
  clear D
  refine wp_drawn_on (fun W => ∃ u v, P4 w W (.int .i64 n) (.slice a m ca) #[.int .i64 2, .int .i64 x, .int .i64 y, .int .i64 c, .int .i64 d] #[.nilFunc, .func (.func 198) #[] #[], .func (.func 198) #[] #[], .func (.func 198) #[] #[], .func (.func 198) #[] #[], .func (.func 199) #[] #[]] u v) (by kernel_rfl) (⟨_, _, X3.out.on (Below.refl _ _).drew⟩) (fun hHeld => ?_)
  refine wT 0 (v := ?v55) rfl (by kernel_rfl) (fun _ _ _ h => h) ?h55 (by assumption) ?r55
  case h55 => (intro w hSw; (try dsimp only at hSw); go_simp; try with_reducible rfl)
  refine wT 1 (v := ?v56) rfl (by kernel_rfl) (fun _ _ _ h => h) ?h56 (by assumption) ?r56
  case h56 => (intro w hSw; (try dsimp only at hSw); go_simp; try with_reducible rfl)
  refine wT 2 (v := ?v57) rfl (by kernel_rfl) (fun _ _ _ h => h) ?h57 (by assumption) ?r57
  case h57 => (intro w hSw; (try dsimp only at hSw); go_simp; try with_reducible rfl)
  refine wT 3 (v := ?v58) rfl (by kernel_rfl) (fun _ _ _ h => h) ?h58 (by assumption) ?r58
  case h58 => (intro w hSw; (try dsimp only at hSw); go_simp; try with_reducible rfl)
  refine wT 4 (v := ?v59) rfl (by kernel_rfl) (fun _ _ _ h => h) ?h59 (by assumption) ?r59
  case h59 => (intro w hSw; (try dsimp only at hSw); go_simp; try with_reducible rfl)
  refine wT 5 (v := ?v60) rfl (by kernel_rfl) (fun _ _ _ h => h) ?h60 (by assumption) ?r60
  case h60 => (intro w hSw; (try dsimp only at hSw); go_simp; try with_reducible rfl)
  try simp only [Act.put, List.setIfInBounds_toArray, List.set_cons_zero, List.set_cons_succ]
  refine wpAnyH_ready (rs := [6]) (by kernel_rfl) (by simp) ?_
  refine AllReadyH.cons (o := ⟨_, _, _, _, _, _⟩) rfl (fun K hK => ?_) AllReadyH.nil
  go_simp
  refine (hq'.out _ (hS.out.below (X3.out.on (Below.refl _ _).drew).bl)).mono ?_
  rintro e u6 ⟨a7, c7, rfl, hc7, s7, b7, nw7⟩
  have Q6 := (X3.out.on (Below.refl _ _).drew).on b7
  have hx6 : ∃ u v, P4 w u6 (.int .i64 n) (.slice a m ca) #[.int .i64 2, .int .i64 x, .int .i64 y, .int .i64 c, .int .i64 d] #[.nilFunc, .func (.func 198) #[] #[], .func (.func 198) #[] #[], .func (.func 198) #[] #[], .func (.func 198) #[] #[], .func (.func 199) #[] #[]] u v := ⟨_, _, Q6⟩
  have y0 := Q6.r.cell 0
  have y1 := Q6.r.cell 1
  have f0 := Q6.r.free 0
  have f1 := Q6.r.free 1
  go_simp
  refine hK.out _ _ (hx6) (fun hHeld => ?_)
  clear hK K
  refine wT 7 (v := ?v61) rfl (by kernel_rfl) (fun _ _ _ h => h) ?h61 (by assumption) ?r61
  case h61 => (intro w hSw; (try dsimp only at hSw); go_simp; try with_reducible rfl)
  refine wT 8 (v := ?v62) rfl (by kernel_rfl) (fun _ _ _ h => h) ?h62 (by assumption) ?r62
  case h62 => (intro w hSw; (try dsimp only at hSw); go_simp; try with_reducible rfl)
  try simp only [Act.put, List.setIfInBounds_toArray, List.set_cons_zero, List.set_cons_succ]
  refine wpAnyH_ready (rs := [9]) (by kernel_rfl) (by simp) ?_
  refine AllReadyH.cons (o := ⟨_, _, _, _, _, _⟩) rfl (fun K hK => ?_) AllReadyH.nil
  go_simp
  have hx9 : ∃ u v, P4 w ((u6.setCell ⟨w.heap.size + 3, 0, none⟩ (.int .i64 n)).setCell ⟨w.heap.size + 3, 1, none⟩ (.slice a7 R.length c7)) (.int .i64 n) (.slice a m ca) #[.int .i64 2, .int .i64 x, .int .i64 y, .int .i64 c, .int .i64 d] #[.nilFunc, .func (.func 198) #[] #[], .func (.func 198) #[] #[], .func (.func 198) #[] #[], .func (.func 198) #[] #[], .func (.func 199) #[] #[]] u v := ⟨_, _, ⟨(Q6.bl.setCell (p := ⟨w.heap.size + 3, 0, none⟩) (by show w.heap.size ≤ w.heap.size + 3; omega) _).setCell (p := ⟨w.heap.size + 3, 1, none⟩) (by show w.heap.size ≤ w.heap.size + 3; omega) _, (Q6.z.far (p := ⟨w.heap.size + 3, 0, none⟩) (by simp) _).far (p := ⟨w.heap.size + 3, 1, none⟩) (by simp) _, (Q6.s.far (p := ⟨w.heap.size + 3, 0, none⟩) (by simp) _).far (p := ⟨w.heap.size + 3, 1, none⟩) (by simp) _, (Q6.t.far (p := ⟨w.heap.size + 3, 0, none⟩) (by simp) _).far (p := ⟨w.heap.size + 3, 1, none⟩) (by simp) _, zh_set Q6.r _ _⟩⟩
  refine hK.out _ _ (hx9) (fun hHeld => ?_)
  clear hK K
  refine wT 10 (v := ?v63) rfl (by kernel_rfl) (fun _ _ _ h => h) ?h63 (by assumption) ?r63
  case h63 => (intro w hSw; (try dsimp only at hSw); go_simp; try with_reducible rfl)
  try simp only [Act.put, List.setIfInBounds_toArray, List.set_cons_zero, List.set_cons_succ]
  refine wpAnyH_done (by kernel_rfl) ?_ _
  have hfin := Lib.hid (zone_put (n := n) (err := 0) (X3.out.on (Below.refl _ _).drew).bl (by omega) (X3.out.on (Below.refl _ _).drew).r hc7 s7 b7 nw7)
  clear g0 g1 gt r0 r1 r2 r3 r4 y0 y1 f0 f1 hx6 hx9 hHeld Q6
  go_wp2
  exact zone_ret2 hfin.out.1 hfin.out.2.1 _ _ 6 7 rfl rfl rfl rfl
set_option maxRecDepth 100000 in
set_option maxHeartbeats 400000 in
theorem do_faults_3 (n : Nat) (x y c d : Int) (l R : List Int) (hz : IsZ n l) (hr : rightB 3 x y c d n = true) (a : Option Addr) (m ca : Nat)
    (hq : ∀ W, SL W a m ca l → Calls Tryz.prog 198 #[.agg #[.int .i64 n, .slice a m ca], .agg #[.int .i64 3, .int .i64 x, .int .i64 y, .int .i64 c, .int .i64 d]] W (ZoneE n R 0 W)) (w : World) (h : SL w a m ca l) : Calls Tryz.prog 144 #[.agg #[.int .i64 n, .slice a m ca], .agg #[.int .i64 3, .int .i64 x, .int .i64 y, .int .i64 c, .int .i64 d], .agg #[.nilFunc, .func (.func 198) #[] #[], .func (.func 198) #[] #[], .func (.func 198) #[] #[], .func (.func 198) #[] #[], .func (.func 199) #[] #[]]] w (ZoneE n R 0 w) := by
  obtain ⟨W1, hW1⟩ : ∃ W1, W1 = (((w.alloc (.cells #[.int .i64 n, .slice a m ca] 51)).alloc (.cells #[.int .i64 3, .int .i64 x, .int .i64 y, .int .i64 c, .int .i64 d] 73)).alloc (.cells #[.nilFunc, .func (.func 198) #[] #[], .func (.func 198) #[] #[], .func (.func 198) #[] #[], .func (.func 198) #[] #[], .func (.func 199) #[] #[]] 167)).alloc (.cells #[.int .i64 0, .slice none 0 0] 51) := ⟨_, rfl⟩
  have X1 : P4 w W1 (.int .i64 n) (.slice a m ca) #[.int .i64 3, .int .i64 x, .int .i64 y, .int .i64 c, .int .i64 d] #[.nilFunc, .func (.func 198) #[] #[], .func (.func 198) #[] #[], .func (.func 198) #[] #[], .func (.func 198) #[] #[], .func (.func 199) #[] #[]] (.int .i64 0) (.slice none 0 0) := by rw [hW1]; exact p4_new _ _ _ _ _
  have hW1' := Lib.hid hW1
  have XP := Lib.hid X1
  have k0 := X1.z.cell 0
  have k1 := X1.z.cell 1
  have s0 := X1.s.cell 0
  have s1 := X1.s.cell 1
  have s2 := X1.s.cell 2
  have s3 := X1.s.cell 3
  have s4 := X1.s.cell 4
  have kl := X1.z.lt
  have q1 := Lib.hid (dcheck_any n a m ca l W1 (h.below X1.bl))
  rw [show chk n l = 0 by unfold chk; rw [hz.check]; rfl] at q1
  have q2 := Lib.hid (fun W => right_any 3 x y c d n W)
  rw [hr] at q2
  have hq' := Lib.hid hq
  have hS := Lib.hid h
  clear hW1 X1 h hz hq hr
  go_enter Tryz.func144, Tryz.ntmps144
  go_wp2_with fail
  rw [← hW1'.out]
  refine q1.out.mono ?_
  rintro e w2 ⟨rfl, b2⟩
  have X2 := Lib.hid (XP.out.on b2)
  clear b2 q1 k0 k1 s0 s1 s2 s3 s4 kl XP hW1'
  have k0 := X2.out.z.cell 0
  have s0 := X2.out.s.cell 0
  have s1 := X2.out.s.cell 1
  have s2 := X2.out.s.cell 2
  have s3 := X2.out.s.cell 3
  have s4 := X2.out.s.cell 4
  go_wp2_with fail
  refine (q2.out _).mono ?_
  rintro e w3 ⟨rfl, b3⟩
  have X3 := Lib.hid (X2.out.on b3)
  clear b3 q2 k0 s0 s1 s2 s3 s4 X2
  have D : ∀ W, P4 w W (.int .i64 n) (.slice a m ca) #[.int .i64 3, .int .i64 x, .int .i64 y, .int .i64 c, .int .i64 d] #[.nilFunc, .func (.func 198) #[] #[], .func (.func 198) #[] #[], .func (.func 198) #[] #[], .func (.func 198) #[] #[], .func (.func 199) #[] #[]] (.int .i64 0) (.slice none 0 0) → W.cell? ⟨w.heap.size + 1, 0, none⟩ = some (.int .i64 3) := fun W hW => hW.s.cell 0
  go_wp2
  have g0 : ∀ W, (∃ u v, P4 w W (.int .i64 n) (.slice a m ca) #[.int .i64 3, .int .i64 x, .int .i64 y, .int .i64 c, .int .i64 d] #[.nilFunc, .func (.func 198) #[] #[], .func (.func 198) #[] #[], .func (.func 198) #[] #[], .func (.func 198) #[] #[], .func (.func 199) #[] #[]] u v) → W.cell? ⟨w.heap.size, 0, none⟩ = some (.int .i64 n) := fun W hW => by obtain ⟨_, _, hP⟩ := hW; exact hP.z.cell 0
  have g1 : ∀ W, (∃ u v, P4 w W (.int .i64 n) (.slice a m ca) #[.int .i64 3, .int .i64 x, .int .i64 y, .int .i64 c, .int .i64 d] #[.nilFunc, .func (.func 198) #[] #[], .func (.func 198) #[] #[], .func (.func 198) #[] #[], .func (.func 198) #[] #[], .func (.func 199) #[] #[]] u v) → W.cell? ⟨w.heap.size, 1, none⟩ = some (.slice a m ca) := fun W hW => by obtain ⟨_, _, hP⟩ := hW; exact hP.z.cell 1
  have gt : ∀ W, (∃ u v, P4 w W (.int .i64 n) (.slice a m ca) #[.int .i64 3, .int .i64 x, .int .i64 y, .int .i64 c, .int .i64 d] #[.nilFunc, .func (.func 198) #[] #[], .func (.func 198) #[] #[], .func (.func 198) #[] #[], .func (.func 198) #[] #[], .func (.func 199) #[] #[]] u v) → W.cell? ⟨w.heap.size + 2, 3, none⟩ = some (.func (.func 198) #[] #[]) := fun W hW => by obtain ⟨_, _, hP⟩ := hW; exact hP.t.cell 3
  have r0 : ∀ W, (∃ u v, P4 w W (.int .i64 n) (.slice a m ca) #[.int .i64 3, .int .i64 x, .int .i64 y, .int .i64 c, .int .i64 d] #[.nilFunc, .func (.func 198) #[] #[], .func (.func 198) #[] #[], .func (.func 198) #[] #[], .func (.func 198) #[] #[], .func (.func 199) #[] #[]] u v) → W.cell? ⟨w.heap.size + 1, 0, none⟩ = some (.int .i64 3) := fun W hW => by obtain ⟨_, _, hP⟩ := hW; exact hP.s.cell 0
  have r1 : ∀ W, (∃ u v, P4 w W (.int .i64 n) (.slice a m ca) #[.int .i64 3, .int .i64 x, .int .i64 y, .int .i64 c, .int .i64 d] #[.nilFunc, .func (.func 198) #[] #[], .func (.func 198) #[] #[], .func (.func 198) #[] #[], .func (.func 198) #[] #[], .func (.func 199) #[] #[]] u v) → W.cell? ⟨w.heap.size + 1, 1, none⟩ = some (.int .i64 x) := fun W hW => by obtain ⟨_, _, hP⟩ := hW; exact hP.s.cell 1
  have r2 : ∀ W, (∃ u v, P4 w W (.int .i64 n) (.slice a m ca) #[.int .i64 3, .int .i64 x, .int .i64 y, .int .i64 c, .int .i64 d] #[.nilFunc, .func (.func 198) #[] #[], .func (.func 198) #[] #[], .func (.func 198) #[] #[], .func (.func 198) #[] #[], .func (.func 199) #[] #[]] u v) → W.cell? ⟨w.heap.size + 1, 2, none⟩ = some (.int .i64 y) := fun W hW => by obtain ⟨_, _, hP⟩ := hW; exact hP.s.cell 2
  have r3 : ∀ W, (∃ u v, P4 w W (.int .i64 n) (.slice a m ca) #[.int .i64 3, .int .i64 x, .int .i64 y, .int .i64 c, .int .i64 d] #[.nilFunc, .func (.func 198) #[] #[], .func (.func 198) #[] #[], .func (.func 198) #[] #[], .func (.func 198) #[] #[], .func (.func 199) #[] #[]] u v) → W.cell? ⟨w.heap.size + 1, 3, none⟩ = some (.int .i64 c) := fun W hW => by obtain ⟨_, _, hP⟩ := hW; exact hP.s.cell 3
  have r4 : ∀ W, (∃ u v, P4 w W (.int .i64 n) (.slice a m ca) #[.int .i64 3, .int .i64 x, .int .i64 y, .int .i64 c, .int .i64 d] #[.nilFunc, .func (.func 198) #[] #[], .func (.func 198) #[] #[], .func (.func 198) #[] #[], .func (.func 198) #[] #[], .func (.func 199) #[] #[]] u v) → W.cell? ⟨w.heap.size + 1, 4, none⟩ = some (.int .i64 d) := fun W hW => by obtain ⟨_, _, hP⟩ := hW; exact hP.s.cell 4
  clear D
  refine wp_drawn_on (fun W => ∃ u v, P4 w W (.int .i64 n) (.slice a m ca) #[.int .i64 3, .int .i64 x, .int .i64 y, .int .i64 c, .int .i64 d] #[.nilFunc, .func (.func 198) #[] #[], .func (.func 198) #[] #[], .func (.func 198) #[] #[], .func (.func 198) #[] #[], .func (.func 199) #[] #[]] u v) (by kernel_rfl) (⟨_, _, X3.out.on (Below.refl _ _).drew⟩) (fun hHeld => ?_)
  refine wT 0 (v := ?v64) rfl (by kernel_rfl) (fun _ _ _ h => h) ?h64 (by assumption) ?r64
  case h64 => (intro w hSw; (try dsimp only at hSw); go_simp; try with_reducible rfl)
  refine wT 1 (v := ?v65) rfl (by kernel_rfl) (fun _ _ _ h => h) ?h65 (by assumption) ?r65
  case h65 => (intro w hSw; (try dsimp only at hSw); go_simp; try with_reducible rfl)
  refine wT 2 (v := ?v66) rfl (by kernel_rfl) (fun _ _ _ h => h) ?h66 (by assumption) ?r66
  case h66 => (intro w hSw; (try dsimp only at hSw); go_simp; try with_reducible rfl)
  refine wT 3 (v := ?v67) rfl (by kernel_rfl) (fun _ _ _ h => h) ?h67 (by assumption) ?r67
  case h67 => (intro w hSw; (try dsimp only at hSw); go_simp; try with_reducible rfl)
  refine wT 4 (v := ?v68) rfl (by kernel_rfl) (fun _ _ _ h => h) ?h68 (by assumption) ?r68
  case h68 => (intro w hSw; (try dsimp only at hSw); go_simp; try with_reducible rfl)
  refine wT 5 (v := ?v69) rfl (by kernel_rfl) (fun _ _ _ h => h) ?h69 (by assumption) ?r69
  case h69 => (intro w hSw; (try dsimp only at hSw); go_simp; try with_reducible rfl)
  try simp only [Act.put, List.setIfInBounds_toArray, List.set_cons_zero, List.set_cons_succ]
  refine wpAnyH_ready (rs := [6]) (by kernel_rfl) (by simp) ?_
  refine AllReadyH.cons (o := ⟨_, _, _, _, _, _⟩) rfl (fun K hK => ?_) AllReadyH.nil
  go_simp
  refine (hq'.out _ (hS.out.below (X3.out.on (Below.refl _ _).drew).bl)).mono ?_
  rintro e u6 ⟨a7, c7, rfl, hc7, s7, b7, nw7⟩
  have Q6 := (X3.out.on (Below.refl _ _).drew).on b7
  have hx6 : ∃ u v, P4 w u6 (.int .i64 n) (.slice a m ca) #[.int .i64 3, .int .i64 x, .int .i64 y, .int .i64 c, .int .i64 d] #[.nilFunc, .func (.func 198) #[] #[], .func (.func 198) #[] #[], .func (.func 198) #[] #[], .func (.func 198) #[] #[], .func (.func 199) #[] #[]] u v := ⟨_, _, Q6⟩
  have y0 := Q6.r.cell 0
  have y1 := Q6.r.cell 1
  have f0 := Q6.r.free 0
  have f1 := Q6.r.free 1
  go_simp
  refine hK.out _ _ (hx6) (fun hHeld => ?_)
  clear hK K
  refine wT 7 (v := ?v70) rfl (by kernel_rfl) (fun _ _ _ h => h) ?h70 (by assumption) ?r70
  case h70 => (intro w hSw; (try dsimp only at hSw); go_simp; try with_reducible rfl)
  refine wT 8 (v := ?v71) rfl (by kernel_rfl) (fun _ _ _ h => h) ?h71 (by assumption) ?r71
  case h71 => (intro w hSw; (try dsimp only at hSw); go_simp; try with_reducible rfl)
  try simp only [Act.put, List.setIfInBounds_toArray, List.set_cons_zero, List.set_cons_succ]
  refine wpAnyH_ready (rs := [9]) (by kernel_rfl) (by simp) ?_
  refine AllReadyH.cons (o := ⟨_, _, _, _, _, _⟩) rfl (fun K hK => ?_) AllReadyH.nil
  go_simp
  have hx9 : ∃ u v, P4 w ((u6.setCell ⟨w.heap.size + 3, 0, none⟩ (.int .i64 n)).setCell ⟨w.heap.size + 3, 1, none⟩ (.slice a7 R.length c7)) (.int .i64 n) (.slice a m ca) #[.int .i64 3, .int .i64 x, .int .i64 y, .int .i64 c, .int .i64 d] #[.nilFunc, .func (.func 198) #[] #[], .func (.func 198) #[] #[], .func (.func 198) #[] #[], .func (.func 198) #[] #[], .func (.func 199) #[] #[]] u v := ⟨_, _, ⟨(Q6.bl.setCell (p := ⟨w.heap.size + 3, 0, none⟩) (by show w.heap.size ≤ w.heap.size + 3; omega) _).setCell (p := ⟨w.heap.size + 3, 1, none⟩) (by show w.heap.size ≤ w.heap.size + 3; omega) _, (Q6.z.far (p := ⟨w.heap.size + 3, 0, none⟩) (by simp) _).far (p := ⟨w.heap.size + 3, 1, none⟩) (by simp) _, (Q6.s.far (p := ⟨w.heap.size + 3, 0, none⟩) (by simp) _).far (p := ⟨w.heap.size + 3, 1, none⟩) (by simp) _, (Q6.t.far (p := ⟨w.heap.size + 3, 0, none⟩) (by simp) _).far (p := ⟨w.heap.size + 3, 1, none⟩) (by simp) _, zh_set Q6.r _ _⟩⟩
  refine hK.out _ _ (hx9) (fun hHeld => ?_)
  clear hK K
  refine wT 10 (v := ?v72) rfl (by kernel_rfl) (fun _ _ _ h => h) ?h72 (by assumption) ?r72
  case h72 => (intro w hSw; (try dsimp only at hSw); go_simp; try with_reducible rfl)
  try simp only [Act.put, List.setIfInBounds_toArray, List.set_cons_zero, List.set_cons_succ]
  refine wpAnyH_done (by kernel_rfl) ?_ _
  have hfin := Lib.hid (zone_put (n := n) (err := 0) (X3.out.on (Below.refl _ _).drew).bl (by omega) (X3.out.on (Below.refl _ _).drew).r hc7 s7 b7 nw7)
  clear g0 g1 gt r0 r1 r2 r3 r4 y0 y1 f0 f1 hx6 hx9 hHeld Q6
  go_wp2
  exact zone_ret2 hfin.out.1 hfin.out.2.1 _ _ 6 7 rfl rfl rfl rfl
set_option maxRecDepth 100000 in
set_option maxHeartbeats 400000 in
theorem do_faults_4 (n : Nat) (x y c d : Int) (l R : List Int) (hz : IsZ n l) (hr : rightB 4 x y c d n = true) (a : Option Addr) (m ca : Nat)
    (hq : ∀ W, SL W a m ca l → Calls Tryz.prog 198 #[.agg #[.int .i64 n, .slice a m ca], .agg #[.int .i64 4, .int .i64 x, .int .i64 y, .int .i64 c, .int .i64 d]] W (ZoneE n R 0 W)) (w : World) (h : SL w a m ca l) : Calls Tryz.prog 144 #[.agg #[.int .i64 n, .slice a m ca], .agg #[.int .i64 4, .int .i64 x, .int .i64 y, .int .i64 c, .int .i64 d], .agg #[.nilFunc, .func (.func 198) #[] #[], .func (.func 198) #[] #[], .func (.func 198) #[] #[], .func (.func 198) #[] #[], .func (.func 199) #[] #[]]] w (ZoneE n R 0 w) := by
  obtain ⟨W1, hW1⟩ : ∃ W1, W1 = (((w.alloc (.cells #[.int .i64 n, .slice a m ca] 51)).alloc (.cells #[.int .i64 4, .int .i64 x, .int .i64 y, .int .i64 c, .int .i64 d] 73)).alloc (.cells #[.nilFunc, .func (.func 198) #[] #[], .func (.func 198) #[] #[], .func (.func 198) #[] #[], .func (.func 198) #[] #[], .func (.func 199) #[] #[]] 167)).alloc (.cells #[.int .i64 0, .slice none 0 0] 51) := ⟨_, rfl⟩
  have X1 : P4 w W1 (.int .i64 n) (.slice a m ca) #[.int .i64 4, .int .i64 x, .int .i64 y, .int .i64 c, .int .i64 d] #[.nilFunc, .func (.func 198) #[] #[], .func (.func 198) #[] #[], .func (.func 198) #[] #[], .func (.func 198) #[] #[], .func (.func 199) #[] #[]] (.int .i64 0) (.slice none 0 0) := by rw [hW1]; exact p4_new _ _ _ _ _
  have hW1' := Lib.hid hW1
  have XP := Lib.hid X1
  have k0 := X1.z.cell 0
  have k1 := X1.z.cell 1
  have s0 := X1.s.cell 0
  have s1 := X1.s.cell 1
  have s2 := X1.s.cell 2
  have s3 := X1.s.cell 3
  have s4 := X1.s.cell 4
  have kl := X1.z.lt
  have q1 := Lib.hid (dcheck_any n a m ca l W1 (h.below X1.bl))
  rw [show chk n l = 0 by unfold chk; rw [hz.check]; rfl] at q1
  have q2 := Lib.hid (fun W => right_any 4 x y c d n W)
  rw [hr] at q2
  have hq' := Lib.hid hq
  have hS := Lib.hid h
  clear hW1 X1 h hz hq hr
  go_enter Tryz.func144, Tryz.ntmps144
  go_wp2_with fail
  rw [← hW1'.out]
  refine q1.out.mono ?_
  rintro e w2 ⟨rfl, b2⟩
  have X2 := Lib.hid (XP.out.on b2)
  clear b2 q1 k0 k1 s0 s1 s2 s3 s4 kl XP hW1'
  have k0 := X2.out.z.cell 0
  have s0 := X2.out.s.cell 0
  have s1 := X2.out.s.cell 1
  have s2 := X2.out.s.cell 2
  have s3 := X2.out.s.cell 3
  have s4 := X2.out.s.cell 4
  go_wp2_with fail
  refine (q2.out _).mono ?_
  rintro e w3 ⟨rfl, b3⟩
  have X3 := Lib.hid (X2.out.on b3)
  clear b3 q2 k0 s0 s1 s2 s3 s4 X2
  have D : ∀ W, P4 w W (.int .i64 n) (.slice a m ca) #[.int .i64 4, .int .i64 x, .int .i64 y, .int .i64 c, .int .i64 d] #[.nilFunc, .func (.func 198) #[] #[], .func (.func 198) #[] #[], .func (.func 198) #[] #[], .func (.func 198) #[] #[], .func (.func 199) #[] #[]] (.int .i64 0) (.slice none 0 0) → W.cell? ⟨w.heap.size + 1, 0, none⟩ = some (.int .i64 4) := fun W hW => hW.s.cell 0
  go_wp2
  have g0 : ∀ W, (∃ u v, P4 w W (.int .i64 n) (.slice a m ca) #[.int .i64 4, .int .i64 x, .int .i64 y, .int .i64 c, .int .i64 d] #[.nilFunc, .func (.func 198) #[] #[], .func (.func 198) #[] #[], .func (.func 198) #[] #[], .func (.func 198) #[] #[], .func (.func 199) #[] #[]] u v) → W.cell? ⟨w.heap.size, 0, none⟩ = some (.int .i64 n) := fun W hW => by obtain ⟨_, _, hP⟩ := hW; exact hP.z.cell 0
  have g1 : ∀ W, (∃ u v, P4 w W (.int .i64 n) (.slice a m ca) #[.int .i64 4, .int .i64 x, .int .i64 y, .int .i64 c, .int .i64 d] #[.nilFunc, .func (.func 198) #[] #[], .func (.func 198) #[] #[], .func (.func 198) #[] #[], .func (.func 198) #[] #[], .func (.func 199) #[] #[]] u v) → W.cell? ⟨w.heap.size, 1, none⟩ = some (.slice a m ca) := fun W hW => by obtain ⟨_, _, hP⟩ := hW; exact hP.z.cell 1
  have gt : ∀ W, (∃ u v, P4 w W (.int .i64 n) (.slice a m ca) #[.int .i64 4, .int .i64 x, .int .i64 y, .int .i64 c, .int .i64 d] #[.nilFunc, .func (.func 198) #[] #[], .func (.func 198) #[] #[], .func (.func 198) #[] #[], .func (.func 198) #[] #[], .func (.func 199) #[] #[]] u v) → W.cell? ⟨w.heap.size + 2, 4, none⟩ = some (.func (.func 198) #[] #[]) := fun W hW => by obtain ⟨_, _, hP⟩ := hW; exact hP.t.cell 4
  have r0 : ∀ W, (∃ u v, P4 w W (.int .i64 n) (.slice a m ca) #[.int .i64 4, .int .i64 x, .int .i64 y, .int .i64 c, .int .i64 d] #[.nilFunc, .func (.func 198) #[] #[], .func (.func 198) #[] #[], .func (.func 198) #[] #[], .func (.func 198) #[] #[], .func (.func 199) #[] #[]] u v) → W.cell? ⟨w.heap.size + 1, 0, none⟩ = some (.int .i64 4) := fun W hW => by obtain ⟨_, _, hP⟩ := hW; exact hP.s.cell 0
  have r1 : ∀ W, (∃ u v, P4 w W (.int .i64 n) (.slice a m ca) #[.int .i64 4, .int .i64 x, .int .i64 y, .int .i64 c, .int .i64 d] #[.nilFunc, .func (.func 198) #[] #[], .func (.func 198) #[] #[], .func (.func 198) #[] #[], .func (.func 198) #[] #[], .func (.func 199) #[] #[]] u v) → W.cell? ⟨w.heap.size + 1, 1, none⟩ = some (.int .i64 x) := fun W hW => by obtain ⟨_, _, hP⟩ := hW; exact hP.s.cell 1
  have r2 : ∀ W, (∃ u v, P4 w W (.int .i64 n) (.slice a m ca) #[.int .i64 4, .int .i64 x, .int .i64 y, .int .i64 c, .int .i64 d] #[.nilFunc, .func (.func 198) #[] #[], .func (.func 198) #[] #[], .func (.func 198) #[] #[], .func (.func 198) #[] #[], .func (.func 199) #[] #[]] u v) → W.cell? ⟨w.heap.size + 1, 2, none⟩ = some (.int .i64 y) := fun W hW => by obtain ⟨_, _, hP⟩ := hW; exact hP.s.cell 2
  have r3 : ∀ W, (∃ u v, P4 w W (.int .i64 n) (.slice a m ca) #[.int .i64 4, .int .i64 x, .int .i64 y, .int .i64 c, .int .i64 d] #[.nilFunc, .func (.func 198) #[] #[], .func (.func 198) #[] #[], .func (.func 198) #[] #[], .func (.func 198) #[] #[], .func (.func 199) #[] #[]] u v) → W.cell? ⟨w.heap.size + 1, 3, none⟩ = some (.int .i64 c) := fun W hW => by obtain ⟨_, _, hP⟩ := hW; exact hP.s.cell 3
  have r4 : ∀ W, (∃ u v, P4 w W (.int .i64 n) (.slice a m ca) #[.int .i64 4, .int .i64 x, .int .i64 y, .int .i64 c, .int .i64 d] #[.nilFunc, .func (.func 198) #[] #[], .func (.func 198) #[] #[], .func (.func 198) #[] #[], .func (.func 198) #[] #[], .func (.func 199) #[] #[]] u v) → W.cell? ⟨w.heap.size + 1, 4, none⟩ = some (.int .i64 d) := fun W hW => by obtain ⟨_, _, hP⟩ := hW; exact hP.s.cell 4
  clear D
  refine wp_drawn_on (fun W => ∃ u v, P4 w W (.int .i64 n) (.slice a m ca) #[.int .i64 4, .int .i64 x, .int .i64 y, .int .i64 c, .int .i64 d] #[.nilFunc, .func (.func 198) #[] #[], .func (.func 198) #[] #[], .func (.func 198) #[] #[], .func (.func 198) #[] #[], .func (.func 199) #[] #[]] u v) (by kernel_rfl) (⟨_, _, X3.out.on (Below.refl _ _).drew⟩) (fun hHeld => ?_)
  refine wT 0 (v := ?v73) rfl (by kernel_rfl) (fun _ _ _ h => h) ?h73 (by assumption) ?r73
  case h73 => (intro w hSw; (try dsimp only at hSw); go_simp; try with_reducible rfl)
  refine wT 1 (v := ?v74) rfl (by kernel_rfl) (fun _ _ _ h => h) ?h74 (by assumption) ?r74
  case h74 => (intro w hSw; (try dsimp only at hSw); go_simp; try with_reducible rfl)
  refine wT 2 (v := ?v75) rfl (by kernel_rfl) (fun _ _ _ h => h) ?h75 (by assumption) ?r75
  case h75 => (intro w hSw; (try dsimp only at hSw); go_simp; try with_reducible rfl)
  refine wT 3 (v := ?v76) rfl (by kernel_rfl) (fun _ _ _ h => h) ?h76 (by assumption) ?r76
  case h76 => (intro w hSw; (try dsimp only at hSw); go_simp; try with_reducible rfl)
  refine wT 4 (v := ?v77) rfl (by kernel_rfl) (fun _ _ _ h => h) ?h77 (by assumption) ?r77
  case h77 => (intro w hSw; (try dsimp only at hSw); go_simp; try with_reducible rfl)
  refine wT 5 (v := ?v78) rfl (by kernel_rfl) (fun _ _ _ h => h) ?h78 (by assumption) ?r78
  case h78 => (intro w hSw; (try dsimp only at hSw); go_simp; try with_reducible rfl)
  try simp only [Act.put, List.setIfInBounds_toArray, List.set_cons_zero, List.set_cons_succ]
  refine wpAnyH_ready (rs := [6]) (by kernel_rfl) (by simp) ?_
  refine AllReadyH.cons (o := ⟨_, _, _, _, _, _⟩) rfl (fun K hK => ?_) AllReadyH.nil
  go_simp
  refine (hq'.out _ (hS.out.below (X3.out.on (Below.refl _ _).drew).bl)).mono ?_
  rintro e u6 ⟨a7, c7, rfl, hc7, s7, b7, nw7⟩
  have Q6 := (X3.out.on (Below.refl _ _).drew).on b7
  have hx6 : ∃ u v, P4 w u6 (.int .i64 n) (.slice a m ca) #[.int .i64 4, .int .i64 x, .int .i64 y, .int .i64 c, .int .i64 d] #[.nilFunc, .func (.func 198) #[] #[], .func (.func 198) #[] #[], .func (.func 198) #[] #[], .func (.func 198) #[] #[], .func (.func 199) #[] #[]] u v := ⟨_, _, Q6⟩
  have y0 := Q6.r.cell 0
  have y1 := Q6.r.cell 1
  have f0 := Q6.r.free 0
  have f1 := Q6.r.free 1
  go_simp
  refine hK.out _ _ (hx6) (fun hHeld => ?_)
  clear hK K
  refine wT 7 (v := ?v79) rfl (by kernel_rfl) (fun _ _ _ h => h) ?h79 (by assumption) ?r79
  case h79 => (intro w hSw; (try dsimp only at hSw); go_simp; try with_reducible rfl)
  refine wT 8 (v := ?v80) rfl (by kernel_rfl) (fun _ _ _ h => h) ?h80 (by assumption) ?r80
  case h80 => (intro w hSw; (try dsimp only at hSw); go_simp; try with_reducible rfl)
  try simp only [Act.put, List.setIfInBounds_toArray, List.set_cons_zero, List.set_cons_succ]
  refine wpAnyH_ready (rs := [9]) (by kernel_rfl) (by simp) ?_
  refine AllReadyH.cons (o := ⟨_, _, _, _, _, _⟩) rfl (fun K hK => ?_) AllReadyH.nil
  go_simp
  have hx9 : ∃ u v, P4 w ((u6.setCell ⟨w.heap.size + 3, 0, none⟩ (.int .i64 n)).setCell ⟨w.heap.size + 3, 1, none⟩ (.slice a7 R.length c7)) (.int .i64 n) (.slice a m ca) #[.int .i64 4, .int .i64 x, .int .i64 y, .int .i64 c, .int .i64 d] #[.nilFunc, .func (.func 198) #[] #[], .func (.func 198) #[] #[], .func (.func 198) #[] #[], .func (.func 198) #[] #[], .func (.func 199) #[] #[]] u v := ⟨_, _, ⟨(Q6.bl.setCell (p := ⟨w.heap.size + 3, 0, none⟩) (by show w.heap.size ≤ w.heap.size + 3; omega) _).setCell (p := ⟨w.heap.size + 3, 1, none⟩) (by show w.heap.size ≤ w.heap.size + 3; omega) _, (Q6.z.far (p := ⟨w.heap.size + 3, 0, none⟩) (by simp) _).far (p := ⟨w.heap.size + 3, 1, none⟩) (by simp) _, (Q6.s.far (p := ⟨w.heap.size + 3, 0, none⟩) (by simp) _).far (p := ⟨w.heap.size + 3, 1, none⟩) (by simp) _, (Q6.t.far (p := ⟨w.heap.size + 3, 0, none⟩) (by simp) _).far (p := ⟨w.heap.size + 3, 1, none⟩) (by simp) _, zh_set Q6.r _ _⟩⟩
  refine hK.out _ _ (hx9) (fun hHeld => ?_)
  clear hK K
  refine wT 10 (v := ?v81) rfl (by kernel_rfl) (fun _ _ _ h => h) ?h81 (by assumption) ?r81
  case h81 => (intro w hSw; (try dsimp only at hSw); go_simp; try with_reducible rfl)
  try simp only [Act.put, List.setIfInBounds_toArray, List.set_cons_zero, List.set_cons_succ]
  refine wpAnyH_done (by kernel_rfl) ?_ _
  have hfin := Lib.hid (zone_put (n := n) (err := 0) (X3.out.on (Below.refl _ _).drew).bl (by omega) (X3.out.on (Below.refl _ _).drew).r hc7 s7 b7 nw7)
  clear g0 g1 gt r0 r1 r2 r3 r4 y0 y1 f0 f1 hx6 hx9 hHeld Q6
  go_wp2
  exact zone_ret2 hfin.out.1 hfin.out.2.1 _ _ 6 7 rfl rfl rfl rfl
set_option maxRecDepth 100000 in
set_option maxHeartbeats 400000 in
theorem do_faults_5 (n : Nat) (x y c d : Int) (l R : List Int) (hz : IsZ n l) (hr : rightB 5 x y c d n = true) (a : Option Addr) (m ca : Nat)
    (hq : ∀ W, SL W a m ca l → Calls Tryz.prog 199 #[.agg #[.int .i64 n, .slice a m ca], .agg #[.int .i64 5, .int .i64 x, .int .i64 y, .int .i64 c, .int .i64 d]] W (ZoneE n R 0 W)) (w : World) (h : SL w a m ca l) : Calls Tryz.prog 144 #[.agg #[.int .i64 n, .slice a m ca], .agg #[.int .i64 5, .int .i64 x, .int .i64 y, .int .i64 c, .int .i64 d], .agg #[.nilFunc, .func (.func 198) #[] #[], .func (.func 198) #[] #[], .func (.func 198) #[] #[], .func (.func 198) #[] #[], .func (.func 199) #[] #[]]] w (ZoneE n R 0 w) := by
  obtain ⟨W1, hW1⟩ : ∃ W1, W1 = (((w.alloc (.cells #[.int .i64 n, .slice a m ca] 51)).alloc (.cells #[.int .i64 5, .int .i64 x, .int .i64 y, .int .i64 c, .int .i64 d] 73)).alloc (.cells #[.nilFunc, .func (.func 198) #[] #[], .func (.func 198) #[] #[], .func (.func 198) #[] #[], .func (.func 198) #[] #[], .func (.func 199) #[] #[]] 167)).alloc (.cells #[.int .i64 0, .slice none 0 0] 51) := ⟨_, rfl⟩
  have X1 : P4 w W1 (.int .i64 n) (.slice a m ca) #[.int .i64 5, .int .i64 x, .int .i64 y, .int .i64 c, .int .i64 d] #[.nilFunc, .func (.func 198) #[] #[], .func (.func 198) #[] #[], .func (.func 198) #[] #[], .func (.func 198) #[] #[], .func (.func 199) #[] #[]] (.int .i64 0) (.slice none 0 0) := by rw [hW1]; exact p4_new _ _ _ _ _
  have hW1' := Lib.hid hW1
  have XP := Lib.hid X1
  have k0 := X1.z.cell 0
  have k1 := X1.z.cell 1
  have s0 := X1.s.cell 0
  have s1 := X1.s.cell 1
  have s2 := X1.s.cell 2
  have s3 := X1.s.cell 3
  have s4 := X1.s.cell 4
  have kl := X1.z.lt
  have q1 := Lib.hid (dcheck_any n a m ca l W1 (h.below X1.bl))
  rw [show chk n l = 0 by unfold chk; rw [hz.check]; rfl] at q1
  have q2 := Lib.hid (fun W => right_any 5 x y c d n W)
  rw [hr] at q2
  have hq' := Lib.hid hq
  have hS := Lib.hid h
  clear hW1 X1 h hz hq hr
  go_enter Tryz.func144, Tryz.ntmps144
  go_wp2_with fail
  rw [← hW1'.out]
  refine q1.out.mono ?_
  rintro e w2 ⟨rfl, b2⟩
  have X2 := Lib.hid (XP.out.on b2)
  clear b2 q1 k0 k1 s0 s1 s2 s3 s4 kl XP hW1'
  have k0 := X2.out.z.cell 0
  have s0 := X2.out.s.cell 0
  have s1 := X2.out.s.cell 1
  have s2 := X2.out.s.cell 2
  have s3 := X2.out.s.cell 3
  have s4 := X2.out.s.cell 4
  go_wp2_with fail
  refine (q2.out _).mono ?_
  rintro e w3 ⟨rfl, b3⟩
  have X3 := Lib.hid (X2.out.on b3)
  clear b3 q2 k0 s0 s1 s2 s3 s4 X2
  have D : ∀ W, P4 w W (.int .i64 n) (.slice a m ca) #[.int .i64 5, .int .i64 x, .int .i64 y, .int .i64 c, .int .i64 d] #[.nilFunc, .func (.func 198) #[] #[], .func (.func 198) #[] #[], .func (.func 198) #[] #[], .func (.func 198) #[] #[], .func (.func 199) #[] #[]] (.int .i64 0) (.slice none 0 0) → W.cell? ⟨w.heap.size + 1, 0, none⟩ = some (.int .i64 5) := fun W hW => hW.s.cell 0
  go_wp2
  have g0 : ∀ W, (∃ u v, P4 w W (.int .i64 n) (.slice a m ca) #[.int .i64 5, .int .i64 x, .int .i64 y, .int .i64 c, .int .i64 d] #[.nilFunc, .func (.func 198) #[] #[], .func (.func 198) #[] #[], .func (.func 198) #[] #[], .func (.func 198) #[] #[], .func (.func 199) #[] #[]] u v) → W.cell? ⟨w.heap.size, 0, none⟩ = some (.int .i64 n) := fun W hW => by obtain ⟨_, _, hP⟩ := hW; exact hP.z.cell 0
  have g1 : ∀ W, (∃ u v, P4 w W (.int .i64 n) (.slice a m ca) #[.int .i64 5, .int .i64 x, .int .i64 y, .int .i64 c, .int .i64 d] #[.nilFunc, .func (.func 198) #[] #[], .func (.func 198) #[] #[], .func (.func 198) #[] #[], .func (.func 198) #[] #[], .func (.func 199) #[] #[]] u v) → W.cell? ⟨w.heap.size, 1, none⟩ = some (.slice a m ca) := fun W hW => by obtain ⟨_, _, hP⟩ := hW; exact hP.z.cell 1
  have gt : ∀ W, (∃ u v, P4 w W (.int .i64 n) (.slice a m ca) #[.int .i64 5, .int .i64 x, .int .i64 y, .int .i64 c, .int .i64 d] #[.nilFunc, .func (.func 198) #[] #[], .func (.func 198) #[] #[], .func (.func 198) #[] #[], .func (.func 198) #[] #[], .func (.func 199) #[] #[]] u v) → W.cell? ⟨w.heap.size + 2, 5, none⟩ = some (.func (.func 199) #[] #[]) := fun W hW => by obtain ⟨_, _, hP⟩ := hW; exact hP.t.cell 5
  have r0 : ∀ W, (∃ u v, P4 w W (.int .i64 n) (.slice a m ca) #[.int .i64 5, .int .i64 x, .int .i64 y, .int .i64 c, .int .i64 d] #[.nilFunc, .func (.func 198) #[] #[], .func (.func 198) #[] #[], .func (.func 198) #[] #[], .func (.func 198) #[] #[], .func (.func 199) #[] #[]] u v) → W.cell? ⟨w.heap.size + 1, 0, none⟩ = some (.int .i64 5) := fun W hW => by obtain ⟨_, _, hP⟩ := hW; exact hP.s.cell 0
  have r1 : ∀ W, (∃ u v, P4 w W (.int .i64 n) (.slice a m ca) #[.int .i64 5, .int .i64 x, .int .i64 y, .int .i64 c, .int .i64 d] #[.nilFunc, .func (.func 198) #[] #[], .func (.func 198) #[] #[], .func (.func 198) #[] #[], .func (.func 198) #[] #[], .func (.func 199) #[] #[]] u v) → W.cell? ⟨w.heap.size + 1, 1, none⟩ = some (.int .i64 x) := fun W hW => by obtain ⟨_, _, hP⟩ := hW; exact hP.s.cell 1
  have r2 : ∀ W, (∃ u v, P4 w W (.int .i64 n) (.slice a m ca) #[.int .i64 5, .int .i64 x, .int .i64 y, .int .i64 c, .int .i64 d] #[.nilFunc, .func (.func 198) #[] #[], .func (.func 198) #[] #[], .func (.func 198) #[] #[], .func (.func 198) #[] #[], .func (.func 199) #[] #[]] u v) → W.cell? ⟨w.heap.size + 1, 2, none⟩ = some (.int .i64 y) := fun W hW => by obtain ⟨_, _, hP⟩ := hW; exact hP.s.cell 2
  have r3 : ∀ W, (∃ u v, P4 w W (.int .i64 n) (.slice a m ca) #[.int .i64 5, .int .i64 x, .int .i64 y, .int .i64 c, .int .i64 d] #[.nilFunc, .func (.func 198) #[] #[], .func (.func 198) #[] #[], .func (.func 198) #[] #[], .func (.func 198) #[] #[], .func (.func 199) #[] #[]] u v) → W.cell? ⟨w.heap.size + 1, 3, none⟩ = some (.int .i64 c) := fun W hW => by obtain ⟨_, _, hP⟩ := hW; exact hP.s.cell 3
  have r4 : ∀ W, (∃ u v, P4 w W (.int .i64 n) (.slice a m ca) #[.int .i64 5, .int .i64 x, .int .i64 y, .int .i64 c, .int .i64 d] #[.nilFunc, .func (.func 198) #[] #[], .func (.func 198) #[] #[], .func (.func 198) #[] #[], .func (.func 198) #[] #[], .func (.func 199) #[] #[]] u v) → W.cell? ⟨w.heap.size + 1, 4, none⟩ = some (.int .i64 d) := fun W hW => by obtain ⟨_, _, hP⟩ := hW; exact hP.s.cell 4
  clear D
  refine wp_drawn_on (fun W => ∃ u v, P4 w W (.int .i64 n) (.slice a m ca) #[.int .i64 5, .int .i64 x, .int .i64 y, .int .i64 c, .int .i64 d] #[.nilFunc, .func (.func 198) #[] #[], .func (.func 198) #[] #[], .func (.func 198) #[] #[], .func (.func 198) #[] #[], .func (.func 199) #[] #[]] u v) (by kernel_rfl) (⟨_, _, X3.out.on (Below.refl _ _).drew⟩) (fun hHeld => ?_)
  refine wT 0 (v := ?v82) rfl (by kernel_rfl) (fun _ _ _ h => h) ?h82 (by assumption) ?r82
  case h82 => (intro w hSw; (try dsimp only at hSw); go_simp; try with_reducible rfl)
  refine wT 1 (v := ?v83) rfl (by kernel_rfl) (fun _ _ _ h => h) ?h83 (by assumption) ?r83
  case h83 => (intro w hSw; (try dsimp only at hSw); go_simp; try with_reducible rfl)
  refine wT 2 (v := ?v84) rfl (by kernel_rfl) (fun _ _ _ h => h) ?h84 (by assumption) ?r84
  case h84 => (intro w hSw; (try dsimp only at hSw); go_simp; try with_reducible rfl)
  refine wT 3 (v := ?v85) rfl (by kernel_rfl) (fun _ _ _ h => h) ?h85 (by assumption) ?r85
  case h85 => (intro w hSw; (try dsimp only at hSw); go_simp; try with_reducible rfl)
  refine wT 4 (v := ?v86) rfl (by kernel_rfl) (fun _ _ _ h => h) ?h86 (by assumption) ?r86
  case h86 => (intro w hSw; (try dsimp only at hSw); go_simp; try with_reducible rfl)
  refine wT 5 (v := ?v87) rfl (by kernel_rfl) (fun _ _ _ h => h) ?h87 (by assumption) ?r87
  case h87 => (intro w hSw; (try dsimp only at hSw); go_simp; try with_reducible rfl)
  try simp only [Act.put, List.setIfInBounds_toArray, List.set_cons_zero, List.set_cons_succ]
  refine wpAnyH_ready (rs := [6]) (by kernel_rfl) (by simp) ?_
  refine AllReadyH.cons (o := ⟨_, _, _, _, _, _⟩) rfl (fun K hK => ?_) AllReadyH.nil
  go_simp
  refine (hq'.out _ (hS.out.below (X3.out.on (Below.refl _ _).drew).bl)).mono ?_
  rintro e u6 ⟨a7, c7, rfl, hc7, s7, b7, nw7⟩
  have Q6 := (X3.out.on (Below.refl _ _).drew).on b7
  have hx6 : ∃ u v, P4 w u6 (.int .i64 n) (.slice a m ca) #[.int .i64 5, .int .i64 x, .int .i64 y, .int .i64 c, .int .i64 d] #[.nilFunc, .func (.func 198) #[] #[], .func (.func 198) #[] #[], .func (.func 198) #[] #[], .func (.func 198) #[] #[], .func (.func 199) #[] #[]] u v := ⟨_, _, Q6⟩
  have y0 := Q6.r.cell 0
  have y1 := Q6.r.cell 1
  have f0 := Q6.r.free 0
  have f1 := Q6.r.free 1
  go_simp
  refine hK.out _ _ (hx6) (fun hHeld => ?_)
  clear hK K
  refine wT 7 (v := ?v88) rfl (by kernel_rfl) (fun _ _ _ h => h) ?h88 (by assumption) ?r88
  case h88 => (intro w hSw; (try dsimp only at hSw); go_simp; try with_reducible rfl)
  refine wT 8 (v := ?v89) rfl (by kernel_rfl) (fun _ _ _ h => h) ?h89 (by assumption) ?r89
  case h89 => (intro w hSw; (try dsimp only at hSw); go_simp; try with_reducible rfl)
  try simp only [Act.put, List.setIfInBounds_toArray, List.set_cons_zero, List.set_cons_succ]
  refine wpAnyH_ready (rs := [9]) (by kernel_rfl) (by simp) ?_
  refine AllReadyH.cons (o := ⟨_, _, _, _, _, _⟩) rfl (fun K hK => ?_) AllReadyH.nil
  go_simp
  have hx9 : ∃ u v, P4 w ((u6.setCell ⟨w.heap.size + 3, 0, none⟩ (.int .i64 n)).setCell ⟨w.heap.size + 3, 1, none⟩ (.slice a7 R.length c7)) (.int .i64 n) (.slice a m ca) #[.int .i64 5, .int .i64 x, .int .i64 y, .int .i64 c, .int .i64 d] #[.nilFunc, .func (.func 198) #[] #[], .func (.func 198) #[] #[], .func (.func 198) #[] #[], .func (.func 198) #[] #[], .func (.func 199) #[] #[]] u v := ⟨_, _, ⟨(Q6.bl.setCell (p := ⟨w.heap.size + 3, 0, none⟩) (by show w.heap.size ≤ w.heap.size + 3; omega) _).setCell (p := ⟨w.heap.size + 3, 1, none⟩) (by show w.heap.size ≤ w.heap.size + 3; omega) _, (Q6.z.far (p := ⟨w.heap.size + 3, 0, none⟩) (by simp) _).far (p := ⟨w.heap.size + 3, 1, none⟩) (by simp) _, (Q6.s.far (p := ⟨w.heap.size + 3, 0, none⟩) (by simp) _).far (p := ⟨w.heap.size + 3, 1, none⟩) (by simp) _, (Q6.t.far (p := ⟨w.heap.size + 3, 0, none⟩) (by simp) _).far (p := ⟨w.heap.size + 3, 1, none⟩) (by simp) _, zh_set Q6.r _ _⟩⟩
  refine hK.out _ _ (hx9) (fun hHeld => ?_)
  clear hK K
  refine wT 10 (v := ?v90) rfl (by kernel_rfl) (fun _ _ _ h => h) ?h90 (by assumption) ?r90
  case h90 => (intro w hSw; (try dsimp only at hSw); go_simp; try with_reducible rfl)
  try simp only [Act.put, List.setIfInBounds_toArray, List.set_cons_zero, List.set_cons_succ]
  refine wpAnyH_done (by kernel_rfl) ?_ _
  have hfin := Lib.hid (zone_put (n := n) (err := 0) (X3.out.on (Below.refl _ _).drew).bl (by omega) (X3.out.on (Below.refl _ _).drew).r hc7 s7 b7 nw7)
  clear g0 g1 gt r0 r1 r2 r3 r4 y0 y1 f0 f1 hx6 hx9 hHeld Q6
  go_wp2
  exact zone_ret2 hfin.out.1 hfin.out.2.1 _ _ 6 7 rfl rfl rfl rfl
set_option maxRecDepth 100000 in
set_option maxHeartbeats 400000 in
theorem Post_of (n k x y c d nr E : Int) (R : List Int) (a : Option Addr) (m ca : Nat) (w : World) (hq : ∀ W, Below w.heap.size w W → Calls Tryz.prog 144 #[.agg #[.int .i64 n, .slice a m ca], .agg #[.int .i64 k, .int .i64 x, .int .i64 y, .int .i64 c, .int .i64 d], .agg #[.nilFunc, .func (.func 184) #[] #[], .func (.func 185) #[] #[], .func (.func 186) #[] #[], .func (.func 187) #[] #[], .func (.func 187) #[] #[]]] W (ZoneE nr R E W)) : Calls Tryz.prog 100 #[.agg #[.int .i64 n, .slice a m ca], .agg #[.int .i64 k, .int .i64 x, .int .i64 y, .int .i64 c, .int .i64 d]] w (ZoneE nr R E w) := by
  obtain ⟨W1, hW1⟩ : ∃ W1, W1 = ((w.alloc (.cells #[.int .i64 n, .slice a m ca] 51)).alloc (.cells #[.int .i64 k, .int .i64 x, .int .i64 y, .int .i64 c, .int .i64 d] 73)).alloc (.cells #[.int .i64 0, .slice none 0 0] 51) := ⟨_, rfl⟩
  have X1 : P3 w W1 (.int .i64 n) (.slice a m ca) #[.int .i64 k, .int .i64 x, .int .i64 y, .int .i64 c, .int .i64 d] (.int .i64 0) (.slice none 0 0) := by rw [hW1]; exact p3_new _ _ _ _
  have hW1' := Lib.hid hW1
  have XP := Lib.hid X1
  have hq' := Lib.hid hq
  clear hW1 X1 hq
  go_enter Tryz.func100, Tryz.ntmps100
  go_wp2
  rw [← hW1'.out]
  have g0 : ∀ W, (∃ u v, P3 w W (.int .i64 n) (.slice a m ca) #[.int .i64 k, .int .i64 x, .int .i64 y, .int .i64 c, .int .i64 d] u v) → W.cell? ⟨w.heap.size, 0, none⟩ = some (.int .i64 n) := fun W hW => by obtain ⟨_, _, hP⟩ := hW; exact hP.z.cell 0
  have g1 : ∀ W, (∃ u v, P3 w W (.int .i64 n) (.slice a m ca) #[.int .i64 k, .int .i64 x, .int .i64 y, .int .i64 c, .int .i64 d] u v) → W.cell? ⟨w.heap.size, 1, none⟩ = some (.slice a m ca) := fun W hW => by obtain ⟨_, _, hP⟩ := hW; exact hP.z.cell 1
  have r0 : ∀ W, (∃ u v, P3 w W (.int .i64 n) (.slice a m ca) #[.int .i64 k, .int .i64 x, .int .i64 y, .int .i64 c, .int .i64 d] u v) → W.cell? ⟨w.heap.size + 1, 0, none⟩ = some (.int .i64 k) := fun W hW => by obtain ⟨_, _, hP⟩ := hW; exact hP.s.cell 0
  have r1 : ∀ W, (∃ u v, P3 w W (.int .i64 n) (.slice a m ca) #[.int .i64 k, .int .i64 x, .int .i64 y, .int .i64 c, .int .i64 d] u v) → W.cell? ⟨w.heap.size + 1, 1, none⟩ = some (.int .i64 x) := fun W hW => by obtain ⟨_, _, hP⟩ := hW; exact hP.s.cell 1
  have r2 : ∀ W, (∃ u v, P3 w W (.int .i64 n) (.slice a m ca) #[.int .i64 k, .int .i64 x, .int .i64 y, .int .i64 c, .int .i64 d] u v) → W.cell? ⟨w.heap.size + 1, 2, none⟩ = some (.int .i64 y) := fun W hW => by obtain ⟨_, _, hP⟩ := hW; exact hP.s.cell 2
  have r3 : ∀ W, (∃ u v, P3 w W (.int .i64 n) (.slice a m ca) #[.int .i64 k, .int .i64 x, .int .i64 y, .int .i64 c, .int .i64 d] u v) → W.cell? ⟨w.heap.size + 1, 3, none⟩ = some (.int .i64 c) := fun W hW => by obtain ⟨_, _, hP⟩ := hW; exact hP.s.cell 3
  have r4 : ∀ W, (∃ u v, P3 w W (.int .i64 n) (.slice a m ca) #[.int .i64 k, .int .i64 x, .int .i64 y, .int .i64 c, .int .i64 d] u v) → W.cell? ⟨w.heap.size + 1, 4, none⟩ = some (.int .i64 d) := fun W hW => by obtain ⟨_, _, hP⟩ := hW; exact hP.s.cell 4
  refine wp_drawn_on (fun W => ∃ u v, P3 w W (.int .i64 n) (.slice a m ca) #[.int .i64 k, .int .i64 x, .int .i64 y, .int .i64 c, .int .i64 d] u v) (by kernel_rfl) (⟨_, _, XP.out.on (Below.refl _ _).drew⟩) (fun hHeld => ?_)
  refine wT 0 (v := ?v91) rfl (by kernel_rfl) (fun _ _ _ h => h) ?h91 (by assumption) ?r91
  case h91 => (intro w hSw; (try dsimp only at hSw); go_simp; try with_reducible rfl)
  refine wT 1 (v := ?v92) rfl (by kernel_rfl) (fun _ _ _ h => h) ?h92 (by assumption) ?r92
  case h92 => (intro w hSw; (try dsimp only at hSw); go_simp; try with_reducible rfl)
  try simp only [Act.put, List.setIfInBounds_toArray, List.set_cons_zero, List.set_cons_succ]
  refine wpAnyH_ready (rs := [2]) (by kernel_rfl) (by simp) ?_
  refine AllReadyH.cons (o := ⟨_, _, _, _, _, _⟩) rfl (fun K hK => ?_) AllReadyH.nil
  go_simp
  refine (steps_any _).mono ?_
  rintro e u2 ⟨rfl, b2⟩
  have Q2 := (XP.out.on (Below.refl _ _).drew).on b2
  have hx2 : ∃ u v, P3 w u2 (.int .i64 n) (.slice a m ca) #[.int .i64 k, .int .i64 x, .int .i64 y, .int .i64 c, .int .i64 d] u v := ⟨_, _, Q2⟩
  go_simp
  refine hK.out _ _ (hx2) (fun hHeld => ?_)
  clear hK K
  try simp only [Act.put, List.setIfInBounds_toArray, List.set_cons_zero, List.set_cons_succ]
  refine wpAnyH_ready (rs := [3]) (by kernel_rfl) (by simp) ?_
  refine AllReadyH.cons (o := ⟨_, _, _, _, _, _⟩) rfl (fun K hK => ?_) AllReadyH.nil
  go_simp
  refine (hq'.out _ Q2.bl).mono ?_
  rintro e u6 ⟨a7, c7, rfl, hc7, s7, b7, nw7⟩
  have Q6 := Q2.on b7
  have hx6 : ∃ u v, P3 w u6 (.int .i64 n) (.slice a m ca) #[.int .i64 k, .int .i64 x, .int .i64 y, .int .i64 c, .int .i64 d] u v := ⟨_, _, Q6⟩
  have y0 := Q6.r.cell 0
  have y1 := Q6.r.cell 1
  have f0 := Q6.r.free 0
  have f1 := Q6.r.free 1
  go_simp
  refine hK.out _ _ (hx6) (fun hHeld => ?_)
  clear hK K
  refine wT 4 (v := ?v93) rfl (by kernel_rfl) (fun _ _ _ h => h) ?h93 (by assumption) ?r93
  case h93 => (intro w hSw; (try dsimp only at hSw); go_simp; try with_reducible rfl)
  refine wT 5 (v := ?v94) rfl (by kernel_rfl) (fun _ _ _ h => h) ?h94 (by assumption) ?r94
  case h94 => (intro w hSw; (try dsimp only at hSw); go_simp; try with_reducible rfl)
  try simp only [Act.put, List.setIfInBounds_toArray, List.set_cons_zero, List.set_cons_succ]
  refine wpAnyH_ready (rs := [6]) (by kernel_rfl) (by simp) ?_
  refine AllReadyH.cons (o := ⟨_, _, _, _, _, _⟩) rfl (fun K hK => ?_) AllReadyH.nil
  go_simp
  have hx9 : ∃ u v, P3 w ((u6.setCell ⟨w.heap.size + 2, 0, none⟩ (.int .i64 nr)).setCell ⟨w.heap.size + 2, 1, none⟩ (.slice a7 R.length c7)) (.int .i64 n) (.slice a m ca) #[.int .i64 k, .int .i64 x, .int .i64 y, .int .i64 c, .int .i64 d] u v := ⟨_, _, ⟨(Q6.bl.setCell (p := ⟨w.heap.size + 2, 0, none⟩) (by show w.heap.size ≤ w.heap.size + 2; omega) _).setCell (p := ⟨w.heap.size + 2, 1, none⟩) (by show w.heap.size ≤ w.heap.size + 2; omega) _, (Q6.z.far (p := ⟨w.heap.size + 2, 0, none⟩) (by simp) _).far (p := ⟨w.heap.size + 2, 1, none⟩) (by simp) _, (Q6.s.far (p := ⟨w.heap.size + 2, 0, none⟩) (by simp) _).far (p := ⟨w.heap.size + 2, 1, none⟩) (by simp) _, zh_set Q6.r _ _⟩⟩
  refine hK.out _ _ (hx9) (fun hHeld => ?_)
  clear hK K
  refine wT 7 (v := ?v95) rfl (by kernel_rfl) (fun _ _ _ h => h) ?h95 (by assumption) ?r95
  case h95 => (intro w hSw; (try dsimp only at hSw); go_simp; try with_reducible rfl)
  try simp only [Act.put, List.setIfInBounds_toArray, List.set_cons_zero, List.set_cons_succ]
  refine wpAnyH_done (by kernel_rfl) ?_ _
  have hfin := Lib.hid (zone_put (n := nr) (err := E) Q2.bl (by omega) Q2.r hc7 s7 b7 nw7)
  clear g0 g1 r0 r1 r2 r3 r4 y0 y1 f0 f1 hx6 hx9 hx2 hHeld Q6 Q2
  go_wp2
  exact zone_ret2 hfin.out.1 hfin.out.2.1 _ _ 4 5 rfl rfl rfl rfl
set_option maxRecDepth 100000 in
set_option maxHeartbeats 400000 in
theorem Fault_of (n k x y c d nr E : Int) (R : List Int) (a : Option Addr) (m ca : Nat) (w : World) (hq : ∀ W, Below w.heap.size w W → Calls Tryz.prog 144 #[.agg #[.int .i64 n, .slice a m ca], .agg #[.int .i64 k, .int .i64 x, .int .i64 y, .int .i64 c, .int .i64 d], .agg #[.nilFunc, .func (.func 198) #[] #[], .func (.func 198) #[] #[], .func (.func 198) #[] #[], .func (.func 198) #[] #[], .func (.func 199) #[] #[]]] W (ZoneE nr R E W)) : Calls Tryz.prog 134 #[.agg #[.int .i64 n, .slice a m ca], .agg #[.int .i64 k, .int .i64 x, .int .i64 y, .int .i64 c, .int .i64 d]] w (ZoneE nr R E w) := by
  obtain ⟨W1, hW1⟩ : ∃ W1, W1 = ((w.alloc (.cells #[.int .i64 n, .slice a m ca] 51)).alloc (.cells #[.int .i64 k, .int .i64 x, .int .i64 y, .int .i64 c, .int .i64 d] 73)).alloc (.cells #[.int .i64 0, .slice none 0 0] 51) := ⟨_, rfl⟩
  have X1 : P3 w W1 (.int .i64 n) (.slice a m ca) #[.int .i64 k, .int .i64 x, .int .i64 y, .int .i64 c, .int .i64 d] (.int .i64 0) (.slice none 0 0) := by rw [hW1]; exact p3_new _ _ _ _
  have hW1' := Lib.hid hW1
  have XP := Lib.hid X1
  have hq' := Lib.hid hq
  clear hW1 X1 hq
  go_enter Tryz.func134, Tryz.ntmps134
  go_wp2
  rw [← hW1'.out]
  have g0 : ∀ W, (∃ u v, P3 w W (.int .i64 n) (.slice a m ca) #[.int .i64 k, .int .i64 x, .int .i64 y, .int .i64 c, .int .i64 d] u v) → W.cell? ⟨w.heap.size, 0, none⟩ = some (.int .i64 n) := fun W hW => by obtain ⟨_, _, hP⟩ := hW; exact hP.z.cell 0
  have g1 : ∀ W, (∃ u v, P3 w W (.int .i64 n) (.slice a m ca) #[.int .i64 k, .int .i64 x, .int .i64 y, .int .i64 c, .int .i64 d] u v) → W.cell? ⟨w.heap.size, 1, none⟩ = some (.slice a m ca) := fun W hW => by obtain ⟨_, _, hP⟩ := hW; exact hP.z.cell 1
  have r0 : ∀ W, (∃ u v, P3 w W (.int .i64 n) (.slice a m ca) #[.int .i64 k, .int .i64 x, .int .i64 y, .int .i64 c, .int .i64 d] u v) → W.cell? ⟨w.heap.size + 1, 0, none⟩ = some (.int .i64 k) := fun W hW => by obtain ⟨_, _, hP⟩ := hW; exact hP.s.cell 0
  have r1 : ∀ W, (∃ u v, P3 w W (.int .i64 n) (.slice a m ca) #[.int .i64 k, .int .i64 x, .int .i64 y, .int .i64 c, .int .i64 d] u v) → W.cell? ⟨w.heap.size + 1, 1, none⟩ = some (.int .i64 x) := fun W hW => by obtain ⟨_, _, hP⟩ := hW; exact hP.s.cell 1
  have r2 : ∀ W, (∃ u v, P3 w W (.int .i64 n) (.slice a m ca) #[.int .i64 k, .int .i64 x, .int .i64 y, .int .i64 c, .int .i64 d] u v) → W.cell? ⟨w.heap.size + 1, 2, none⟩ = some (.int .i64 y) := fun W hW => by obtain ⟨_, _, hP⟩ := hW; exact hP.s.cell 2
  have r3 : ∀ W, (∃ u v, P3 w W (.int .i64 n) (.slice a m ca) #[.int .i64 k, .int .i64 x, .int .i64 y, .int .i64 c, .int .i64 d] u v) → W.cell? ⟨w.heap.size + 1, 3, none⟩ = some (.int .i64 c) := fun W hW => by obtain ⟨_, _, hP⟩ := hW; exact hP.s.cell 3
  have r4 : ∀ W, (∃ u v, P3 w W (.int .i64 n) (.slice a m ca) #[.int .i64 k, .int .i64 x, .int .i64 y, .int .i64 c, .int .i64 d] u v) → W.cell? ⟨w.heap.size + 1, 4, none⟩ = some (.int .i64 d) := fun W hW => by obtain ⟨_, _, hP⟩ := hW; exact hP.s.cell 4
  refine wp_drawn_on (fun W => ∃ u v, P3 w W (.int .i64 n) (.slice a m ca) #[.int .i64 k, .int .i64 x, .int .i64 y, .int .i64 c, .int .i64 d] u v) (by kernel_rfl) (⟨_, _, XP.out.on (Below.refl _ _).drew⟩) (fun hHeld => ?_)
  refine wT 0 (v := ?v96) rfl (by kernel_rfl) (fun _ _ _ h => h) ?h96 (by assumption) ?r96
  case h96 => (intro w hSw; (try dsimp only at hSw); go_simp; try with_reducible rfl)
  refine wT 1 (v := ?v97) rfl (by kernel_rfl) (fun _ _ _ h => h) ?h97 (by assumption) ?r97
  case h97 => (intro w hSw; (try dsimp only at hSw); go_simp; try with_reducible rfl)
  try simp only [Act.put, List.setIfInBounds_toArray, List.set_cons_zero, List.set_cons_succ]
  refine wpAnyH_ready (rs := [2]) (by kernel_rfl) (by simp) ?_
  refine AllReadyH.cons (o := ⟨_, _, _, _, _, _⟩) rfl (fun K hK => ?_) AllReadyH.nil
  go_simp
  refine (faults_any _).mono ?_
  rintro e u2 ⟨rfl, b2⟩
  have Q2 := (XP.out.on (Below.refl _ _).drew).on b2
  have hx2 : ∃ u v, P3 w u2 (.int .i64 n) (.slice a m ca) #[.int .i64 k, .int .i64 x, .int .i64 y, .int .i64 c, .int .i64 d] u v := ⟨_, _, Q2⟩
  go_simp
  refine hK.out _ _ (hx2) (fun hHeld => ?_)
  clear hK K
  try simp only [Act.put, List.setIfInBounds_toArray, List.set_cons_zero, List.set_cons_succ]
  refine wpAnyH_ready (rs := [3]) (by kernel_rfl) (by simp) ?_
  refine AllReadyH.cons (o := ⟨_, _, _, _, _, _⟩) rfl (fun K hK => ?_) AllReadyH.nil
  go_simp
  refine (hq'.out _ Q2.bl).mono ?_
  rintro e u6 ⟨a7, c7, rfl, hc7, s7, b7, nw7⟩
  have Q6 := Q2.on b7
  have hx6 : ∃ u v, P3 w u6 (.int .i64 n) (.slice a m ca) #[.int .i64 k, .int .i64 x, .int .i64 y, .int .i64 c, .int .i64 d] u v := ⟨_, _, Q6⟩
  have y0 := Q6.r.cell 0
  have y1 := Q6.r.cell 1
  have f0 := Q6.r.free 0
  have f1 := Q6.r.free 1
  go_simp
  refine hK.out _ _ (hx6) (fun hHeld => ?_)
  clear hK K
  refine wT 4 (v := ?v98) rfl (by kernel_rfl) (fun _ _ _ h => h) ?h98 (by assumption) ?r98
  case h98 => (intro w hSw; (try dsimp only at hSw); go_simp; try with_reducible rfl)
  refine wT 5 (v := ?v99) rfl (by kernel_rfl) (fun _ _ _ h => h) ?h99 (by assumption) ?r99
  case h99 => (intro w hSw; (try dsimp only at hSw); go_simp; try with_reducible rfl)
  try simp only [Act.put, List.setIfInBounds_toArray, List.set_cons_zero, List.set_cons_succ]
  refine wpAnyH_ready (rs := [6]) (by kernel_rfl) (by simp) ?_
  refine AllReadyH.cons (o := ⟨_, _, _, _, _, _⟩) rfl (fun K hK => ?_) AllReadyH.nil
  go_simp
  have hx9 : ∃ u v, P3 w ((u6.setCell ⟨w.heap.size + 2, 0, none⟩ (.int .i64 nr)).setCell ⟨w.heap.size + 2, 1, none⟩ (.slice a7 R.length c7)) (.int .i64 n) (.slice a m ca) #[.int .i64 k, .int .i64 x, .int .i64 y, .int .i64 c, .int .i64 d] u v := ⟨_, _, ⟨(Q6.bl.setCell (p := ⟨w.heap.size + 2, 0, none⟩) (by show w.heap.size ≤ w.heap.size + 2; omega) _).setCell (p := ⟨w.heap.size + 2, 1, none⟩) (by show w.heap.size ≤ w.heap.size + 2; omega) _, (Q6.z.far (p := ⟨w.heap.size + 2, 0, none⟩) (by simp) _).far (p := ⟨w.heap.size + 2, 1, none⟩) (by simp) _, (Q6.s.far (p := ⟨w.heap.size + 2, 0, none⟩) (by simp) _).far (p := ⟨w.heap.size + 2, 1, none⟩) (by simp) _, zh_set Q6.r _ _⟩⟩
  refine hK.out _ _ (hx9) (fun hHeld => ?_)
  clear hK K
  refine wT 7 (v := ?v100) rfl (by kernel_rfl) (fun _ _ _ h => h) ?h100 (by assumption) ?r100
  case h100 => (intro w hSw; (try dsimp only at hSw); go_simp; try with_reducible rfl)
  try simp only [Act.put, List.setIfInBounds_toArray, List.set_cons_zero, List.set_cons_succ]
  refine wpAnyH_done (by kernel_rfl) ?_ _
  have hfin := Lib.hid (zone_put (n := nr) (err := E) Q2.bl (by omega) Q2.r hc7 s7 b7 nw7)
  clear g0 g1 r0 r1 r2 r3 r4 y0 y1 f0 f1 hx6 hx9 hx2 hHeld Q6 Q2
  go_wp2
  exact zone_ret2 hfin.out.1 hfin.out.2.1 _ _ 4 5 rfl rfl rfl rfl
end Go.Proofs.YtimgocfkogebmaaGreatDoor
