/- Zones changed: what Close and clone hand back is the caller's own. -/
import Derived.Test.YtacbkddkjlnklaaZoneOth
namespace Go.Proofs.Ytacbkddkjlnklaa
open Go.RowKit
set_option linter.unusedVariables false
set_option linter.unusedSimpArgs false

def ZoneO (n : Int) (l : List Int) (err : Int) (w : World) (e : Ending) (w' : World) : Prop :=
  ∃ a c, e = .returned (.tuple #[.agg #[.int .i64 n, .slice a l.length c], .int .i64 err]) ∧ w'.ownsRow w.heap.size 3 1 (.slice a l.length c) l.length (nums .i64 l) ∧ Below w.heap.size w w'
def ZoneOS (n : Int) (l : List Int) (w : World) (e : Ending) (w' : World) : Prop :=
  ∃ a c, e = .returned (.agg #[.int .i64 n, .slice a l.length c]) ∧ w'.ownsRow w.heap.size 3 1 (.slice a l.length c) l.length (nums .i64 l) ∧ Below w.heap.size w w'
theorem zone_endO {w W1 w3 : World} {g : Nat} {z0 z1 : Value} {R : List Int} {e : Ending} (hB : Below w.heap.size w W1) (hg : w.heap.size ≤ g) (hz : ZH W1 g z0 z1) (hm : Made 3 .i64 W1 R e w3) :
    ∃ a c, e = .returned (.slice a R.length c) ∧ ZH w3 g z0 z1 ∧ ∀ n err : Int, ZH ((w3.setCell ⟨g, 0, none⟩ (.int .i64 n)).setCell ⟨g, 1, none⟩ (.slice a R.length c)) g (.int .i64 n) (.slice a R.length c) ∧
      ZoneO n R err w (.returned (.tuple #[.agg #[.int .i64 n, .slice a R.length c], .int .i64 err])) ((w3.setCell ⟨g, 0, none⟩ (.int .i64 n)).setCell ⟨g, 1, none⟩ (.slice a R.length c)) ∧
      ZoneOS n R w (.returned (.agg #[.int .i64 n, .slice a R.length c])) ((w3.setCell ⟨g, 0, none⟩ (.int .i64 n)).setCell ⟨g, 1, none⟩ (.slice a R.length c)) := by
  obtain ⟨v, rfl, hown, hb⟩ := hm
  have hlt := hz.lt
  obtain ⟨a, c, rfl, -, -⟩ := sees_own hown
  have hz3 := hz.below hb hlt
  refine ⟨a, c, rfl, hz3, fun n err => ?_⟩
  have hE : BelowE [g] w3.heap.size w3 ((w3.setCell ⟨g, 0, none⟩ (.int .i64 n)).setCell ⟨g, 1, none⟩ (.slice a R.length c)) := ((BelowE.refl _ _ _).setIn (p := ⟨g, 0, none⟩) (by simp) _).setIn (p := ⟨g, 1, none⟩) (by simp) _
  have hown2 := own_belowE hown hE (fun k hk => by
    have := (hown.lt k hk).1
    simp only [List.mem_singleton]
    omega)
  have hown3 := own_from (B := w.heap.size) hown2 (fun k hk => by have := (hown.lt k hk).1; have := hB.size; omega)
  have hbb : Below w.heap.size w ((w3.setCell ⟨g, 0, none⟩ (.int .i64 n)).setCell ⟨g, 1, none⟩ (.slice a R.length c)) := ((hB.trans (hb.mono hB.size)).setCell (p := ⟨g, 0, none⟩) hg _).setCell (p := ⟨g, 1, none⟩) hg _
  exact ⟨zh_set hz3 _ _, ⟨a, c, rfl, hown3, hbb⟩, ⟨a, c, rfl, hown3, hbb⟩⟩
theorem dclose_own (n : Nat) (hn : n ≤ 8) (a : Option Addr) (M : List Int) (len c : Nat) (hM : len = M.length) (hl : len = sz n) (w : World) (h : Sees .i64 w.heap.size w a M) :
    Calls Try.prog 67 #[.int .i64 n, .slice a len c] w (ZoneO n (closedL n M) 0 w) := by
  obtain ⟨W1, hW1⟩ : ∃ W1, W1 = w.alloc (.cells #[.int .i64 0, .slice none 0 0] 24) := ⟨_, rfl⟩
  have hB : Below w.heap.size w W1 := by rw [hW1]; exact (Below.refl _ _).alloc (Nat.le_refl _) _
  have hz : ZH W1 w.heap.size (.int .i64 0) (.slice none 0 0) := by rw [hW1]; exact Holds.new w _ _
  have hmay := Lib.hid (fun W => may_any n W)
  have hsize := Lib.hid (fun W => size_any n hn W)
  have hcl := Lib.hid (closed_any n hn a M len c hM hl W1 ((h.below hB).mono hB.size))
  rw [mayB_nat hn] at hmay
  have hle : ((sz n : Nat) : Int) = (len : Int) := by rw [hl]
  rw [hle] at hsize
  have hB' := Lib.hid hB
  have hz' := Lib.hid hz
  have hW1' := Lib.hid hW1
  clear hW1 hB hz hle h hM hl
  generalize closedL n M = R at *
  go_enter Try.func67, Try.ntmps67
  go_wp2_with fail
  refine (hmay.out _).mono ?_
  rintro e w2 ⟨rfl, rfl⟩
  go_wp2_with fail
  refine (hsize.out _).mono ?_
  rintro e w2 ⟨rfl, rfl⟩
  go_wp2_with fail
  rw [← hW1'.out]
  refine hcl.out.mono ?_
  intro e w3 hm
  obtain ⟨a3, c3, rfl, hz3, hall⟩ := zone_endO hB'.out (Nat.le_refl _) hz'.out hm
  have hfin := Lib.hid (hall n 0)
  have k0 := hz3.cell 0
  have k1 := hz3.cell 1
  have f0 := hz3.free 0
  have f1 := hz3.free 1
  clear hz3 hm hall
  go_wp2
  exact zone_ret2 hfin.out.1 hfin.out.2.1 _ _ 4 5 rfl rfl rfl rfl
set_option maxRecDepth 100000 in
set_option maxHeartbeats 1000000 in
theorem zclone_own (n : Int) (a : Option Addr) (m c : Nat) (l : List Int) (hm : m ≤ 1000) (w : World) (h : SL w a m c l) :
    Calls Try.prog 80 #[.agg #[.int .i64 n, .slice a m c]] w (ZoneOS n l w) := by
  obtain ⟨W1, hW1⟩ : ∃ W1, W1 = (w.alloc (.cells #[.int .i64 n, .slice a m c] 24)).alloc (.cells #[.int .i64 0, .slice none 0 0] 24) := ⟨_, rfl⟩
  have hB : Below w.heap.size w W1 := by rw [hW1]; exact box2_below _ _ _ _ _
  have Z1 : ZH W1 w.heap.size (.int .i64 n) (.slice a m c) := by rw [hW1]; exact (Holds.new w _ _).alloc _
  have Z2 : ZH W1 (w.heap.size + 1) (.int .i64 0) (.slice none 0 0) := by
    rw [hW1]
    have := Holds.new (w.alloc (.cells #[.int .i64 n, .slice a m c] 24)) 24 #[.int .i64 0, .slice none 0 0]
    simpa using this
  have hcl := Lib.hid (fun W (hs : Sees .i64 W.heap.size W a l) => iclone_any a l m c h.len (by have := h.len; omega) W hs)
  have hs1 := Lib.hid ((h.below hB).below (below_drew (Below.refl W1.heap.size W1))).sees
  have hc0 : ∀ W, BelowE [w.heap.size + 1] W1.heap.size W1 W → W.cell? ⟨w.heap.size, 0, none⟩ = some (.int .i64 n) := fun W hW => (Z1.belowE hW Z1.lt (by simp)).cell 0
  have hc1 : ∀ W, BelowE [w.heap.size + 1] W1.heap.size W1 W → W.cell? ⟨w.heap.size, 1, none⟩ = some (.slice a m c) := fun W hW => (Z1.belowE hW Z1.lt (by simp)).cell 1
  have hW1' := Lib.hid hW1
  have hB' := Lib.hid hB
  have Z2' := Lib.hid Z2
  clear hW1 hB Z1 Z2 h
  go_enter Try.func80, Try.ntmps80
  go_wp2
  rw [← hW1'.out]
  clear hW1'
  refine wp_drawn_on (fun W => BelowE [w.heap.size + 1] W1.heap.size W1 W) (by kernel_rfl) ((BelowE.refl _ _ _).drew) (fun hHeld => ?_)
  refine wpAnyH_take (i := 0) (oi := { dst := some 3, op := Go.Op.fieldAddr 24 (Go.Operand.tmp 1) 0, type := 0, pos := "zone.go:31", after := #[], guard := none }) (v := ?v1) rfl (by kernel_rfl) (by kernel_rfl) (by kernel_rfl) (fun _ _ _ h => h) (Or.inl ⟨by kernel_rfl, ?h1⟩) (by assumption) ?r1
  case h1 => (intro w hSw; (try dsimp only at hSw); go_simp; try with_reducible rfl)
  try simp only [Act.put, List.setIfInBounds_toArray, List.set_cons_zero, List.set_cons_succ]
  refine wpAnyH_take (i := 1) (oi := { dst := some 4, op := Go.Op.load 3 (Go.Operand.tmp 3), type := 3, pos := "zone.go:31", after := #[{ on := 0, ground := Go.Ground.data }], guard := none }) (v := ?v2) rfl (by kernel_rfl) (by kernel_rfl) (by kernel_rfl) (fun _ _ _ h => h) (Or.inl ⟨by kernel_rfl, ?h2⟩) (by assumption) ?r2
  case h2 => (intro w hSw; (try dsimp only at hSw); go_simp; try with_reducible rfl)
  try simp only [Act.put, List.setIfInBounds_toArray, List.set_cons_zero, List.set_cons_succ]
  refine wpAnyH_take (i := 2) (oi := { dst := some 5, op := Go.Op.fieldAddr 24 (Go.Operand.tmp 1) 1, type := 0, pos := "zone.go:31", after := #[], guard := none }) (v := ?v3) rfl (by kernel_rfl) (by kernel_rfl) (by kernel_rfl) (fun _ _ _ h => h) (Or.inl ⟨by kernel_rfl, ?h3⟩) (by assumption) ?r3
  case h3 => (intro w hSw; (try dsimp only at hSw); go_simp; try with_reducible rfl)
  try simp only [Act.put, List.setIfInBounds_toArray, List.set_cons_zero, List.set_cons_succ]
  refine wpAnyH_take (i := 3) (oi := { dst := some 6, op := Go.Op.load 22 (Go.Operand.tmp 5), type := 22, pos := "zone.go:31", after := #[{ on := 2, ground := Go.Ground.data }], guard := none }) (v := ?v4) rfl (by kernel_rfl) (by kernel_rfl) (by kernel_rfl) (fun _ _ _ h => h) (Or.inl ⟨by kernel_rfl, ?h4⟩) (by assumption) ?r4
  case h4 => (intro w hSw; (try dsimp only at hSw); go_simp; try with_reducible rfl)
  try simp only [Act.put, List.setIfInBounds_toArray, List.set_cons_zero, List.set_cons_succ]
  refine wpAnyH_ready (rs := [4]) (by kernel_rfl) (by simp) ?_
  refine AllReadyH.cons (o := { dst := some 7, op := Go.Op.call { callee := Go.Callee.value (Go.Operand.func 93), args := #[Go.Operand.tmp 6], argTypes := #[22] }, type := 22, pos := "zone.go:31", after := #[{ on := 3, ground := Go.Ground.data }], guard := none }) rfl (fun K hK => ?_) AllReadyH.nil
  go_simp
  refine (hcl.out _ hs1.out).mono ?_
  intro e w3 hmd
  have b3 : Below W1.heap.size W1.drew w3 := by obtain ⟨v3, -, -, b3⟩ := hmd; exact b3
  obtain ⟨a3, c3, rfl, hz3, hall⟩ := zone_endO (hB'.out.trans ((below_drew (Below.refl _ _)).mono hB'.out.size)) (g := w.heap.size + 1) (by omega) (Z2'.out.below (below_drew (Below.refl _ _)) Z2'.out.lt) hmd
  have hfin := Lib.hid (hall n 0)
  have j0 := hz3.cell 0
  have j1 := hz3.cell 1
  have f0 := hz3.free 0
  have f1 := hz3.free 1
  clear hmd hall
  go_simp
  refine hK.out _ _ (hHeld.trans (BelowE.of b3)) (fun hHeld => ?_)
  clear hK K
  try simp only [Act.put, List.setIfInBounds_toArray, List.set_cons_zero, List.set_cons_succ]
  refine wpAnyH_take (i := 5) (oi := { dst := some 8, op := Go.Op.build 24 #[(0, Go.Operand.tmp 4), (1, Go.Operand.tmp 7)], type := 24, pos := "zone.go:31", after := #[{ on := 1, ground := Go.Ground.data }, { on := 4, ground := Go.Ground.data }], guard := none }) (v := ?v5) rfl (by kernel_rfl) (by kernel_rfl) (by kernel_rfl) (fun _ _ _ h => h) (Or.inl ⟨by kernel_rfl, ?h5⟩) (by assumption) ?r5
  case h5 => (intro w hSw; (try dsimp only at hSw); go_simp; try with_reducible rfl)
  try simp only [Act.put, List.setIfInBounds_toArray, List.set_cons_zero, List.set_cons_succ]
  refine wpAnyH_ready (rs := [6]) (by kernel_rfl) (by simp) ?_
  refine AllReadyH.cons (o := { dst := none, op := Go.Op.store 24 (Go.Operand.tmp 2) (Go.Operand.tmp 8), type := 0, pos := "zone.go:31", after := #[{ on := 5, ground := Go.Ground.data }, { on := 4, ground := Go.Ground.chain }, { on := 0, ground := Go.Ground.phase }, { on := 1, ground := Go.Ground.phase }, { on := 2, ground := Go.Ground.phase }, { on := 3, ground := Go.Ground.phase }, { on := 4, ground := Go.Ground.phase }, { on := 5, ground := Go.Ground.phase }], guard := none }) rfl (fun K hK => ?_) AllReadyH.nil
  go_simp
  refine hK.out _ _ (((hHeld.setIn (p := ⟨w.heap.size + 1, 0, none⟩) (by simp) _).setIn (p := ⟨w.heap.size + 1, 1, none⟩) (by simp) _)) (fun hHeld => ?_)
  clear hK K
  try simp only [Act.put, List.setIfInBounds_toArray, List.set_cons_zero, List.set_cons_succ]
  refine wpAnyH_done (by kernel_rfl) ?_ _
  go_wp2
  exact zone_ret hfin.out.1 hfin.out.2.2 _ _ 2 rfl rfl rfl

end Go.Proofs.Ytacbkddkjlnklaa
