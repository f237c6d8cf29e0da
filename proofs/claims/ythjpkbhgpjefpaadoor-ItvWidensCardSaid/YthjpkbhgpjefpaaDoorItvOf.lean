/- itv.Of, None, All, plain, Is, Has, Size. -/
import Derived.Test.YthjpkbhgpjefpaaDoorValClip
import Derived.Test.YthjpkbhgpjefpaaDoorDrawn
import Derived.Deep.RegionWith
namespace Go.Proofs.YthjpkbhgpjefpaaDoor
open Go.RowKit
set_option linter.unusedVariables false
set_option linter.unusedSimpArgs false

/-- The plain interval of two numbers: its ends. -/
def ofL (a b : Int) : Int := if b < a ∨ 1099511627776 < a ∨ b < -1099511627776 then 1 else clip a
def ofH (a b : Int) : Int := if b < a ∨ 1099511627776 < a ∨ b < -1099511627776 then 0 else clip b
theorem info_iv : (Tryd.prog.info? 23).map (·.size) = some 2 := by kernel_rfl

/-- A block that holds an interval. -/
def Held (w : World) (g : Nat) (a b : Int) : Prop := w.heap[g]? = some (.cells #[.int .i64 a, .int .i64 b] 23 (0, 0))
theorem Held.c0 {w : World} {g : Nat} {a b : Int} (h : Held w g a b) : w.cell? ⟨g, 0, none⟩ = some (.int .i64 a) := by rw [cell_of_row w _ _ _ _ _ h]; rfl
theorem Held.c1 {w : World} {g : Nat} {a b : Int} (h : Held w g a b) : w.cell? ⟨g, 1, none⟩ = some (.int .i64 b) := by rw [cell_of_row w _ _ _ _ _ h]; rfl
theorem Held.f0 {w : World} {g : Nat} {a b : Int} (h : Held w g a b) : w.frozen? ⟨g, 0, none⟩ = false := frozen_of_row w g 0 _ _ h
theorem Held.f1 {w : World} {g : Nat} {a b : Int} (h : Held w g a b) : w.frozen? ⟨g, 1, none⟩ = false := frozen_of_row w g 1 _ _ h
theorem Held.on {w w' : World} {g B : Nat} {a b : Int} (h : Held w g a b) (hb : Below B w w') (hg : g < B) : Held w' g a b := (hb.block g hg).trans h
theorem Held.set {w : World} {g : Nat} {a b : Int} (h : Held w g a b) (x y : Int) : Held ((w.setCell ⟨g, 0, none⟩ (.int .i64 x)).setCell ⟨g, 1, none⟩ (.int .i64 y)) g x y := by
  have h1 := heap_setCell_same w g 0 _ _ (.int .i64 x) h
  exact heap_setCell_same _ g 1 _ _ (.int .i64 y) h1
theorem Held.other {w : World} {g h : Nat} {a b : Int} (k : Held w h a b) (n : h ≠ g) (i : Nat) (v : Value) : Held (w.setCell ⟨g, i, none⟩ v) h a b := (heap_setCell_other w ⟨g, i, none⟩ h v n).trans k
theorem Held.new (w : World) (a b : Int) : Held (w.alloc (.cells #[.int .i64 a, .int .i64 b] 23)) w.heap.size a b := heap_alloc_new w _
theorem Held.alloc {w : World} {g : Nat} {a b : Int} (h : Held w g a b) (hg : g < w.heap.size) (o : Obj) : Held (w.alloc o) g a b := h.on ((Below.refl _ w).alloc (Nat.le_refl _) o) hg
theorem size_alloc1 (w : World) (o : Obj) : (w.alloc o).heap.size = w.heap.size + 1 := by simp
theorem held_ret {w0 w : World} {g : Nat} {a b x y : Int} (h : Held w g x y) (hx : x = a) (hy : y = b) (hb : Below w0.heap.size w0 w) (act : Act) (f : Func) (n : Nat) (hf : f.results = #[.cell n 23]) (ha : act.tmps.getD n undef = .pointer (some ⟨g, 0, none⟩)) (hd : act.defers = []) :
    bodyPost Tryd.prog f (Gives (.agg #[.int .i64 a, .int .i64 b]) w0) Exit.ret act w := by
  subst hx hy
  exact bodyPost_ret (results_cell_row hf _ _ g 23 #[.int .i64 x, .int .i64 y] (0, 0) _ ha h Tryd.underlying23 rfl (by rw [info_iv]; rfl)) hd ⟨rfl, hb⟩

theorem none_any (w : World) : Calls Tryd.prog 33 #[] w (Gives (.agg #[.int .i64 1, .int .i64 0]) w) := by
  go_enter Tryd.func33, Tryd.ntmps33
  go_wp2
  exact held_ret (Held.new w 1 0) rfl rfl ((Below.refl _ w).alloc (Nat.le_refl _) _) _ _ 0 rfl rfl rfl
theorem ofL_out {a b : Int} (h : b < a ∨ 1099511627776 < a ∨ b < -1099511627776) : ofL a b = 1 ∧ ofH a b = 0 := by unfold ofL ofH; rw [if_pos h, if_pos h]; exact ⟨rfl, rfl⟩
theorem ofL_in {a b : Int} (h : ¬ (b < a ∨ 1099511627776 < a ∨ b < -1099511627776)) : ofL a b = clip a ∧ ofH a b = clip b := by unfold ofL ofH; rw [if_neg h, if_neg h]; exact ⟨rfl, rfl⟩
theorem of_any (a b : Int) (w : World) : Calls Tryd.prog 9 #[.int .i64 a, .int .i64 b] w (Gives (.agg #[.int .i64 (ofL a b), .int .i64 (ofH a b)]) w) := by
  have hn := Lib.hid (fun w => none_any w)
  have c1 := Lib.hid (fun w => clip_any a w)
  have c2 := Lib.hid (fun w => clip_any b w)
  have hr := Held.new w 0 0
  have hB : Below w.heap.size w (w.alloc (.cells #[.int .i64 0, .int .i64 0] 23)) := (Below.refl _ w).alloc (Nat.le_refl _) _
  by_cases h : b < a ∨ 1099511627776 < a ∨ b < -1099511627776
  · obtain ⟨e1, e2⟩ := ofL_out h
    rw [e1, e2]
    have hd : (decide (b < a) || decide (1099511627776 < a) || decide (b < -1099511627776)) = true := by simp; omega
    clear e1 e2 h
    go_enter Tryd.func9, Tryd.ntmps9
    go_wp2_with fail
    all_goals (
      refine (hn.out _).mono ?_
      rintro e w1 ⟨rfl, h1⟩
      have k := hr.on h1 (by simp)
      have c0 := k.c0
      have c1 := k.c1
      have f0 := k.f0
      have f1 := k.f1
      have kk := Lib.hid (k.set 1 0)
      have kb := Lib.hid (((hB.trans (h1.mono (by simp))).setCell (p := ⟨w.heap.size, 0, none⟩) (Nat.le_refl _) (.int .i64 1)).setCell (p := ⟨w.heap.size, 1, none⟩) (Nat.le_refl _) (.int .i64 0))
      clear k hr h1 hB hd
      go_wp2
      exact held_ret kk.out rfl rfl kb.out _ _ 4 rfl rfl rfl)
  · obtain ⟨e1, e2⟩ := ofL_in h
    rw [e1, e2]
    have d1 : decide (b < a) = false := by simp; omega
    have d2 : decide (1099511627776 < a) = false := by simp; omega
    have d3 : decide (b < -1099511627776) = false := by simp; omega
    generalize clip a = x at *
    generalize clip b = y at *
    clear e1 e2 h
    go_enter Tryd.func9, Tryd.ntmps9
    go_wp2_with fail
    refine (c1.out _).mono ?_
    rintro e w' ⟨rfl, rfl⟩
    go_wp2_with fail
    refine (c2.out _).mono ?_
    rintro e w' ⟨rfl, rfl⟩
    go_wp2
    exact held_ret (Held.new w x y) rfl rfl ((Below.refl _ w).alloc (Nat.le_refl _) _) _ _ 4 rfl rfl rfl
theorem two_below (w : World) (o1 o2 : Obj) : Below w.heap.size w ((w.alloc o1).alloc o2) := ((Below.refl _ w).alloc (Nat.le_refl _) o1).alloc (by simp) o2
theorem three_below (w : World) (o1 o2 o3 : Obj) : Below w.heap.size w (((w.alloc o1).alloc o2).alloc o3) := (two_below w o1 o2).alloc (by simp; omega) o3
theorem plain_any (a b : Int) (w : World) : Calls Tryd.prog 40 #[.agg #[.int .i64 a, .int .i64 b]] w (Gives (.agg #[.int .i64 (ofL a b), .int .i64 (ofH a b)]) w) := by
  have hn := Lib.hid (fun w => of_any a b w)
  generalize ofL a b = x at *
  generalize ofH a b = y at *
  go_enter Tryd.func40, Tryd.ntmps40
  go_wp2_with fail
  refine (hn.out _).mono ?_
  rintro e w1 ⟨rfl, h1⟩
  have hr := Held.new (w.alloc (.cells #[.int .i64 a, .int .i64 b] 23)) 0 0
  have k := hr.on h1 (by simp)
  rw [size_alloc1] at k
  have c0 := k.c0
  have c1 := k.c1
  have f0 := k.f0
  have f1 := k.f1
  have kk := Lib.hid (k.set x y)
  have kb := Lib.hid ((((two_below w _ _).trans (h1.mono (by simp; omega))).setCell (p := ⟨w.heap.size + 1, 0, none⟩) (by show _ ≤ _ + 1; omega) (.int .i64 x)).setCell (p := ⟨w.heap.size + 1, 1, none⟩) (by show _ ≤ _ + 1; omega) (.int .i64 y))
  clear k hr h1
  go_wp2
  exact held_ret kk.out rfl rfl kb.out _ _ 2 rfl rfl rfl
theorem has_any (a b v : Int) (w : World) : Calls Tryd.prog 14 #[.agg #[.int .i64 a, .int .i64 b], .int .i64 v] w (Gives (.bool (isV v && decide (a ≤ v) && decide (v ≤ b))) w) := by
  have hn := Lib.hid (fun w => is_any v w)
  generalize isV v = I at *
  go_enter Tryd.func14, Tryd.ntmps14
  go_wp2_with fail
  refine (hn.out _).mono ?_
  rintro e w1 ⟨rfl, rfl⟩
  go_wp2
  all_goals (go_ret; exact ⟨ret_bool (by simp_all <;> try omega), (Below.refl _ w).alloc (Nat.le_refl _) _⟩)
theorem is_itv (a b : Int) (w : World) : Calls Tryd.prog 11 #[.agg #[.int .i64 a, .int .i64 b]] w (Gives (.bool ((a == ofL a b) && (b == ofH a b))) w) := by
  have hn := Lib.hid (fun w => plain_any a b w)
  generalize ofL a b = x at *
  generalize ofH a b = y at *
  go_enter Tryd.func11, Tryd.ntmps11
  go_wp2
  have k := Held.new w a b
  have hB : Below w.heap.size w (w.alloc (.cells #[.int .i64 a, .int .i64 b] 23)) := (Below.refl _ w).alloc (Nat.le_refl _) _
  have hlt : w.heap.size < (w.alloc (.cells #[.int .i64 a, .int .i64 b] 23)).heap.size := by simp
  generalize w.alloc (.cells #[.int .i64 a, .int .i64 b] 23) = w0 at *
  generalize hg : w.heap.size = g at k hB hlt ⊢
  have hc0 : ∀ W, Below w0.heap.size w0 W → W.cell? ⟨g, 0, none⟩ = some (.int .i64 a) := fun W hW => (k.on hW hlt).c0
  have hc1 : ∀ W, Below w0.heap.size w0 W → W.cell? ⟨g, 1, none⟩ = some (.int .i64 b) := fun W hW => (k.on hW hlt).c1
  clear k
  refine wp_drawn (by kernel_rfl) (fun hHeld => ?_)
  refine wpAnyH_take (i := 0) (oi := { dst := some 3, op := Go.Op.load 23 (Go.Operand.tmp 1), type := 23, pos := "itv.go:37", after := #[], guard := none }) (v := ?v1) rfl (by kernel_rfl) (by kernel_rfl) (by kernel_rfl) (fun _ _ _ h => h) (Or.inl ⟨by kernel_rfl, ?h1⟩) (by assumption) ?r1
  case h1 => (intro w hSw; (try dsimp only at hSw); go_simp; try with_reducible rfl)
  try simp only [Act.put, List.setIfInBounds_toArray, List.set_cons_zero, List.set_cons_succ]
  refine wpAnyH_take (i := 1) (oi := { dst := some 4, op := Go.Op.load 23 (Go.Operand.tmp 1), type := 23, pos := "itv.go:37", after := #[], guard := none }) (v := ?v2) rfl (by kernel_rfl) (by kernel_rfl) (by kernel_rfl) (fun _ _ _ h => h) (Or.inl ⟨by kernel_rfl, ?h2⟩) (by assumption) ?r2
  case h2 => (intro w hSw; (try dsimp only at hSw); go_simp; try with_reducible rfl)
  try simp only [Act.put, List.setIfInBounds_toArray, List.set_cons_zero, List.set_cons_succ]
  refine wpAnyH_ready (rs := [2]) (by kernel_rfl) (by simp) ?_
  refine AllReadyH.cons (o := { dst := some 5, op := Go.Op.call { callee := Go.Callee.value (Go.Operand.func 40), args := #[Go.Operand.tmp 4], argTypes := #[23] }, type := 23, pos := "itv.go:37", after := #[{ on := 1, ground := Go.Ground.data }], guard := none }) rfl (fun K hK => ?_) AllReadyH.nil
  go_simp
  refine (hn.out _).mono ?_
  rintro e w1 ⟨rfl, h1⟩
  have hw1 : Below w0.heap.size w0 w1 := hHeld.trans (h1.mono (Nat.le_refl _))
  go_simp
  refine hK.out _ _ (hw1) (fun hHeld => ?_)
  clear hK K
  try simp only [Act.put, List.setIfInBounds_toArray, List.set_cons_zero, List.set_cons_succ]
  refine wpAnyH_now hHeld (fun hHeld => ?_)
  replace hc0 := rebase hc0 (hw1)
  replace hc1 := rebase hc1 (hw1)
  refine wpAnyH_take (i := 3) (oi := { dst := some 6, op := Go.Op.binOp Go.BinOp.eql 23 (Go.Operand.tmp 3) (Go.Operand.tmp 5) 23, type := 4, pos := "itv.go:37", after := #[{ on := 0, ground := Go.Ground.data }, { on := 2, ground := Go.Ground.data }], guard := none }) (v := ?v3) rfl (by kernel_rfl) (by kernel_rfl) (by kernel_rfl) (fun _ _ _ h => h) (Or.inl ⟨by kernel_rfl, ?h3⟩) (by assumption) ?r3
  case h3 => (intro w hSw; (try dsimp only at hSw); refine Eq.trans (b := Result.ok (Next.value (.bool (a == x && b == y))) w) (by go_simp; by_cases h1 : a = x <;> by_cases h2 : b = y <;> simp [h1, h2]) ?_; with_reducible rfl)
  try simp only [Act.put, List.setIfInBounds_toArray, List.set_cons_zero, List.set_cons_succ]
  refine wpAnyH_take (i := 4) (oi := { dst := some 2, op := Go.Op.assign (Go.Operand.tmp 6), type := 4, pos := "itv.go:37", after := #[{ on := 3, ground := Go.Ground.data }, { on := 2, ground := Go.Ground.chain }, { on := 0, ground := Go.Ground.phase }, { on := 1, ground := Go.Ground.phase }, { on := 2, ground := Go.Ground.phase }, { on := 3, ground := Go.Ground.phase }], guard := none }) (v := ?v4) rfl (by kernel_rfl) (by kernel_rfl) (by kernel_rfl) (fun _ _ _ h => h) (Or.inl ⟨by kernel_rfl, ?h4⟩) (by assumption) ?r4
  case h4 => (intro w hSw; (try dsimp only at hSw); go_simp; try with_reducible rfl)
  try simp only [Act.put, List.setIfInBounds_toArray, List.set_cons_zero, List.set_cons_succ]
  refine wpAnyH_done (by kernel_rfl) ?_ _
  go_wp2
  go_ret
  exact ⟨rfl, hg ▸ hB.trans (hw1.mono (by omega))⟩
end Go.Proofs.YthjpkbhgpjefpaaDoor
