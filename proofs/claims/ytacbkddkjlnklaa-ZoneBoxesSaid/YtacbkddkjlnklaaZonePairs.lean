/- Zones put together: clone, pairs. -/
import Derived.Test.YtacbkddkjlnklaaZoneTwo
import Derived.OwnWalk
namespace Go.Proofs.Ytacbkddkjlnklaa
open Go.RowKit
set_option linter.unusedVariables false
set_option linter.unusedSimpArgs false

/-- A zone that a call has handed back, put into a zone's block. -/
theorem zone_put {n : Int} {R : List Int} {err : Int} {w W1 w3 : World} {g a c : _} {z0 z1 : Value} (hB : Below w.heap.size w W1) (hg : w.heap.size ≤ g) (hz : ZH W1 g z0 z1) (hc : R.length ≤ c) (hs : Sees .i64 w3.heap.size w3 a R) (hb : Below W1.heap.size W1 w3) (hnw : New W1 a) :
    ZH ((w3.setCell ⟨g, 0, none⟩ (.int .i64 n)).setCell ⟨g, 1, none⟩ (.slice a R.length c)) g (.int .i64 n) (.slice a R.length c) ∧
      ZoneE n R err w (.returned (.tuple #[.agg #[.int .i64 n, .slice a R.length c], .int .i64 err])) ((w3.setCell ⟨g, 0, none⟩ (.int .i64 n)).setCell ⟨g, 1, none⟩ (.slice a R.length c)) ∧
      ZoneS n R w (.returned (.agg #[.int .i64 n, .slice a R.length c])) ((w3.setCell ⟨g, 0, none⟩ (.int .i64 n)).setCell ⟨g, 1, none⟩ (.slice a R.length c)) := by
  have hlt := hz.lt
  have hne : ∀ p, a = some p → g ≠ p.block := fun p hp => by have := hnw p hp; omega
  have hs2 : Sees .i64 ((w3.setCell ⟨g, 0, none⟩ (.int .i64 n)).setCell ⟨g, 1, none⟩ (.slice a R.length c)).heap.size ((w3.setCell ⟨g, 0, none⟩ (.int .i64 n)).setCell ⟨g, 1, none⟩ (.slice a R.length c)) a R := by
    have := sees_other (sees_other hs g hne 0 (.int .i64 n)) g hne 1 (.slice a R.length c)
    simpa using this
  have hbb : Below w.heap.size w ((w3.setCell ⟨g, 0, none⟩ (.int .i64 n)).setCell ⟨g, 1, none⟩ (.slice a R.length c)) := ((hB.trans (hb.mono hB.size)).setCell (p := ⟨g, 0, none⟩) hg _).setCell (p := ⟨g, 1, none⟩) hg _
  have hnew : New w a := fun p hp => Nat.le_trans hB.size (hnw p hp)
  exact ⟨zh_set (hz.below hb hlt) _ _, ⟨a, c, rfl, hc, hs2, hbb, hnew⟩, ⟨a, c, rfl, hc, hs2, hbb, hnew⟩⟩
set_option maxRecDepth 100000 in
set_option maxHeartbeats 1000000 in
theorem zclone_any (n : Int) (a : Option Addr) (m c : Nat) (l : List Int) (hm : m ≤ 1000) (w : World) (h : SL w a m c l) :
    Calls Try.prog 80 #[.agg #[.int .i64 n, .slice a m c]] w (ZoneS n l w) := by
  obtain ⟨W1, hW1⟩ : ∃ W1, W1 = (w.alloc (.cells #[.int .i64 n, .slice a m c] 24)).alloc (.cells #[.int .i64 0, .slice none 0 0] 24) := ⟨_, rfl⟩
  have hB : Below w.heap.size w W1 := by rw [hW1]; exact box2_below _ _ _ _ _
  have Z1 : ZH W1 w.heap.size (.int .i64 n) (.slice a m c) := by rw [hW1]; exact (Holds.new w _ _).alloc _
  have Z2 : ZH W1 (w.heap.size + 1) (.int .i64 0) (.slice none 0 0) := by
    rw [hW1]
    have := Holds.new (w.alloc (.cells #[.int .i64 n, .slice a m c] 24)) 24 #[.int .i64 0, .slice none 0 0]
    simpa using this
  have hcl := Lib.hid (fun W (hs : Sees .i64 W.heap.size W a l) => iclone_any a l m c h.len (by have := h.len; omega) W hs)
  have hs1 := Lib.hid ((h.below hB).below (below_drew (Below.refl W1.heap.size W1))).sees
  have hc0 : ∀ W, BelowE [w.heap.size + 1] W1.heap.size W1 W → W.cell? ⟨w.heap.size, 0, none⟩ = some (.int .i64 n) := fun W hW => (Z1.belowE hW Z1.lt (by simp)).cell 0
  have hc1 : ∀ W, BelowE [w.heap.size + 1] W1.heap.size W1 W → W.cell? ⟨w.heap.size, 1, none⟩ = some (.slice a m c) := fun W hW => (Z1.belowE hW Z1.lt (by simp)).cell 1
  have hW1' := Lib.hid hW1
  have hB' := Lib.hid hB
  have Z2' := Lib.hid Z2
  clear hW1 hB Z1 Z2 h
  go_enter Try.func80, Try.ntmps80
  go_wp2
  rw [← hW1'.out]
  clear hW1'
  refine wp_drawn_on (fun W => BelowE [w.heap.size + 1] W1.heap.size W1 W) (by kernel_rfl) ((BelowE.refl _ _ _).drew) (fun hHeld => ?_)
  refine wpAnyH_take (i := 0) (oi := { dst := some 3, op := Go.Op.fieldAddr 24 (Go.Operand.tmp 1) 0, type := 0, pos := "zone.go:31", after := #[], guard := none }) (v := ?v1) rfl (by kernel_rfl) (by kernel_rfl) (by kernel_rfl) (fun _ _ _ h => h) (Or.inl ⟨by kernel_rfl, ?h1⟩) (by assumption) ?r1
  case h1 => (intro w hSw; (try dsimp only at hSw); go_simp; try with_reducible rfl)
  try simp only [Act.put, List.setIfInBounds_toArray, List.set_cons_zero, List.set_cons_succ]
  refine wpAnyH_take (i := 1) (oi := { dst := some 4, op := Go.Op.load 3 (Go.Operand.tmp 3), type := 3, pos := "zone.go:31", after := #[{ on := 0, ground := Go.Ground.data }], guard := none }) (v := ?v2) rfl (by kernel_rfl) (by kernel_rfl) (by kernel_rfl) (fun _ _ _ h => h) (Or.inl ⟨by kernel_rfl, ?h2⟩) (by assumption) ?r2
  case h2 => (intro w hSw; (try dsimp only at hSw); go_simp; try with_reducible rfl)
  try simp only [Act.put, List.setIfInBounds_toArray, List.set_cons_zero, List.set_cons_succ]
  refine wpAnyH_take (i := 2) (oi := { dst := some 5, op := Go.Op.fieldAddr 24 (Go.Operand.tmp 1) 1, type := 0, pos := "zone.go:31", after := #[], guard := none }) (v := ?v3) rfl (by kernel_rfl) (by kernel_rfl) (by kernel_rfl) (fun _ _ _ h => h) (Or.inl ⟨by kernel_rfl, ?h3⟩) (by assumption) ?r3
  case h3 => (intro w hSw; (try dsimp only at hSw); go_simp; try with_reducible rfl)
  try simp only [Act.put, List.setIfInBounds_toArray, List.set_cons_zero, List.set_cons_succ]
  refine wpAnyH_take (i := 3) (oi := { dst := some 6, op := Go.Op.load 22 (Go.Operand.tmp 5), type := 22, pos := "zone.go:31", after := #[{ on := 2, ground := Go.Ground.data }], guard := none }) (v := ?v4) rfl (by kernel_rfl) (by kernel_rfl) (by kernel_rfl) (fun _ _ _ h => h) (Or.inl ⟨by kernel_rfl, ?h4⟩) (by assumption) ?r4
  case h4 => (intro w hSw; (try dsimp only at hSw); go_simp; try with_reducible rfl)
  try simp only [Act.put, List.setIfInBounds_toArray, List.set_cons_zero, List.set_cons_succ]
  refine wpAnyH_ready (rs := [4]) (by kernel_rfl) (by simp) ?_
  refine AllReadyH.cons (o := { dst := some 7, op := Go.Op.call { callee := Go.Callee.value (Go.Operand.func 93), args := #[Go.Operand.tmp 6], argTypes := #[22] }, type := 22, pos := "zone.go:31", after := #[{ on := 3, ground := Go.Ground.data }], guard := none }) rfl (fun K hK => ?_) AllReadyH.nil
  go_simp
  refine (hcl.out _ hs1.out).mono ?_
  intro e w3 hmd
  have b3 : Below W1.heap.size W1.drew w3 := by obtain ⟨v3, -, -, b3⟩ := hmd; exact b3
  obtain ⟨a3, c3, rfl, hz3, hall⟩ := zone_end (hB'.out.trans ((below_drew (Below.refl _ _)).mono hB'.out.size)) (g := w.heap.size + 1) (by omega) (Z2'.out.below (below_drew (Below.refl _ _)) Z2'.out.lt) hmd
  have hfin := Lib.hid (hall n 0)
  have j0 := hz3.cell 0
  have j1 := hz3.cell 1
  have f0 := hz3.free 0
  have f1 := hz3.free 1
  clear hmd hall
  go_simp
  refine hK.out _ _ (hHeld.trans (BelowE.of b3)) (fun hHeld => ?_)
  clear hK K
  try simp only [Act.put, List.setIfInBounds_toArray, List.set_cons_zero, List.set_cons_succ]
  refine wpAnyH_take (i := 5) (oi := { dst := some 8, op := Go.Op.build 24 #[(0, Go.Operand.tmp 4), (1, Go.Operand.tmp 7)], type := 24, pos := "zone.go:31", after := #[{ on := 1, ground := Go.Ground.data }, { on := 4, ground := Go.Ground.data }], guard := none }) (v := ?v5) rfl (by kernel_rfl) (by kernel_rfl) (by kernel_rfl) (fun _ _ _ h => h) (Or.inl ⟨by kernel_rfl, ?h5⟩) (by assumption) ?r5
  case h5 => (intro w hSw; (try dsimp only at hSw); go_simp; try with_reducible rfl)
  try simp only [Act.put, List.setIfInBounds_toArray, List.set_cons_zero, List.set_cons_succ]
  refine wpAnyH_ready (rs := [6]) (by kernel_rfl) (by simp) ?_
  refine AllReadyH.cons (o := { dst := none, op := Go.Op.store 24 (Go.Operand.tmp 2) (Go.Operand.tmp 8), type := 0, pos := "zone.go:31", after := #[{ on := 5, ground := Go.Ground.data }, { on := 4, ground := Go.Ground.chain }, { on := 0, ground := Go.Ground.phase }, { on := 1, ground := Go.Ground.phase }, { on := 2, ground := Go.Ground.phase }, { on := 3, ground := Go.Ground.phase }, { on := 4, ground := Go.Ground.phase }, { on := 5, ground := Go.Ground.phase }], guard := none }) rfl (fun K hK => ?_) AllReadyH.nil
  go_simp
  refine hK.out _ _ (((hHeld.setIn (p := ⟨w.heap.size + 1, 0, none⟩) (by simp) _).setIn (p := ⟨w.heap.size + 1, 1, none⟩) (by simp) _)) (fun hHeld => ?_)
  clear hK K
  try simp only [Act.put, List.setIfInBounds_toArray, List.set_cons_zero, List.set_cons_succ]
  refine wpAnyH_done (by kernel_rfl) ?_ _
  go_wp2
  exact zone_ret hfin.out.1 hfin.out.2.2 _ _ 2 rfl rfl rfl

def pw (F : Int → Int → Int) (la lb : List Int) : List Int := (List.range la.length).map fun t => F (la.getD t 0) (lb.getD t 0)
theorem pw_len (F : Int → Int → Int) (la lb : List Int) : (pw F la lb).length = la.length := by simp [pw]
theorem pw_at (F : Int → Int → Int) (la lb : List Int) {t : Nat} (ht : t < la.length) : (pw F la lb).getD t 0 = F (la.getD t 0) (lb.getD t 0) := by simp [pw, List.getD, ht]
theorem pw_ext {F : Int → Int → Int} {la lb L : List Int} (hl : L.length = la.length) (h : ∀ t, t < la.length → L.getD t 0 = F (la.getD t 0) (lb.getD t 0)) : L = pw F la lb := by
  apply List.ext_getElem (by rw [pw_len, hl])
  intro t h1 h2
  have := h t (by omega)
  rw [← pw_at F la lb (by omega)] at this
  simpa [List.getD, h1, h2] using this
set_option maxRecDepth 100000 in
set_option maxHeartbeats 4000000 in
theorem pairs_meet (F : Int → Int → Int) (hf : ∀ x y W, Calls Try.prog 50 #[.int .i64 x, .int .i64 y] W (Tells (.int .i64 (F x y)) W))
    (n : Nat) (hn : n ≤ 8) (a1 a2 : Option Addr) (m1 m2 c1 c2 : Nat) (l1 l2 : List Int) (hl1 : l1.length = sz n) (hl2 : l2.length = sz n) (w : World) (h1 : SL w a1 m1 c1 l1) (h2 : SL w a2 m2 c2 l2) :
    Calls Try.prog 49 #[.agg #[.int .i64 n, .slice a1 m1 c1], .agg #[.int .i64 n, .slice a2 m2 c2], .func (.func 50) #[] #[]] w (ZoneE n (closedL n (pw F l1 l2)) 0 w) := by
  obtain ⟨i0, hi, hz0, hz1, hz2⟩ := info_parts infoInt
  obtain ⟨W1, hW1⟩ : ∃ W1, W1 = ((w.alloc (.cells #[.int .i64 n, .slice a1 m1 c1] 24)).alloc (.cells #[.int .i64 n, .slice a2 m2 c2] 24)).alloc (.cells #[.int .i64 0, .slice none 0 0] 24) := ⟨_, rfl⟩
  have hB : Below w.heap.size w W1 := by rw [hW1]; exact (box2_below _ _ _ _ _).alloc (by simp; omega) _
  have hs1 : W1.heap.size = w.heap.size + 3 := by rw [hW1]; simp
  have Z1 : ZH W1 w.heap.size (.int .i64 n) (.slice a1 m1 c1) := by rw [hW1]; exact ((Holds.new w _ _).alloc _).alloc _
  have Z2 : ZH W1 (w.heap.size + 1) (.int .i64 n) (.slice a2 m2 c2) := by
    rw [hW1]
    have := (Holds.new (w.alloc (.cells #[.int .i64 n, .slice a1 m1 c1] 24)) 24 #[.int .i64 n, .slice a2 m2 c2]).alloc (.cells #[.int .i64 0, .slice none 0 0] 24)
    simpa using this
  have Z3 : ZH W1 (w.heap.size + 1 + 1) (.int .i64 0) (.slice none 0 0) := by
    rw [hW1]
    have := Holds.new ((w.alloc (.cells #[.int .i64 n, .slice a1 m1 c1] 24)).alloc (.cells #[.int .i64 n, .slice a2 m2 c2] 24)) 24 #[.int .i64 0, .slice none 0 0]
    simpa using this
  have hs81 := sz_le hn
  have hm1 : m1 = sz n := by rw [h1.len, hl1]
  have hm2 : m2 = sz n := by rw [h2.len, hl2]
  obtain ⟨gm, w5, hmk, hgm, own5, gr5⟩ : ∃ gm w5, (Instr.makeSlice 22 (.int .i64 (m1 : Int)) (.int .i64 (m1 : Int))).run Try.prog W1 = .ok (.slice (some ⟨gm, 0, none⟩) m1 m1) w5 ∧ gm = W1.heap.size ∧ w5.ownsRow W1.heap.size 3 1 (.slice (some ⟨gm, 0, none⟩) m1 m1) m1 (nums .i64 (List.replicate m1 0)) ∧ W1.grownBy w5 none := by
    obtain ⟨w', hrun, r1, r2⟩ := run_make_full (P := Try.prog) W1 W1.heap.size 22 3 i0 (.int .i64 0) 1 Try.underlying22 hi hz0 hz1 .i64 .i64 m1 (by rw [hz2]; omega) (by unfold maxLen; omega) (Nat.le_refl _)
    rw [made_zero] at r1
    exact ⟨W1.heap.size, w', hrun, rfl, r1, r2⟩
  have b5 : Below W1.heap.size W1 w5 := (Below.refl _ _).grown gr5 (Nat.le_refl _) (by intro k hk; simp at hk)
  rw [hW1] at hmk
  have own5' := Lib.hid own5
  have b5' := Lib.hid b5
  have hW1' := Lib.hid hW1
  have hB' := Lib.hid hB
  have Z1' := Lib.hid (Z1.below b5 Z1.lt)
  have Z2' := Lib.hid (Z2.below b5 Z2.lt)
  have Z3' := Lib.hid (Z3.below b5 Z3.lt)
  have S1' := Lib.hid (h1.sees.below hB)
  have S2' := Lib.hid (h2.sees.below hB)
  have hgm' := Lib.hid hgm
  have hs1' := Lib.hid hs1
  have hl1' := Lib.hid hl1
  have hl2' := Lib.hid hl2
  have hm1' := Lib.hid hm1
  have hf' := Lib.hid hf
  have hn' := Lib.hid hn
  have hmi : (m1 : Int) ≤ 81 := by omega
  have hm12 : m2 = m1 := by omega
  subst hm12
  have z0 := Z1'.out.cell 0
  have z1 := Z1'.out.cell 1
  clear hW1 hB Z1 Z2 Z3 own5 b5 gr5 h1 h2 hgm hs1 hl1 hl2 hf hn hm1 hm2
  go_enter Try.func49, Try.ntmps49
  go_wp2
  go_loopw [16] (fun x wr => ∃ (k : Nat) (L : List Int), k ≤ m2 ∧ x = .int .i64 k ∧ Hid (L.length = m2 ∧ ∀ t, t < k → L.getD t 0 = F (l1.getD t 0) (l2.getD t 0)) ∧ Hid (wr.ownsRow W1.heap.size 3 1 (.slice (some ⟨gm, 0, none⟩) m2 m2) m2 (nums .i64 L)) ∧ Hid (BelowE [gm] w5.heap.size w5 wr)) (fun x _ => m2 - (intOf x).toNat)
  case atStart => exact ⟨0, List.replicate m2 0, Nat.zero_le _, rfl, Lib.hid ⟨by simp, by intro t ht; omega⟩, own5', Lib.hid (BelowE.refl _ _ _)⟩
  case round =>
    clear z0 z1
    obtain ⟨k, L, hk, rfl, hL, hown, hb⟩ := hrel
    have hx0 : w.heap.size ∉ [gm] := by have := hgm'.out; have := hs1'.out; simp; omega
    have hx1 : w.heap.size + 1 ∉ [gm] := by have := hgm'.out; have := hs1'.out; simp; omega
    have hx2 : w.heap.size + 1 + 1 ∉ [gm] := by have := hgm'.out; have := hs1'.out; simp; omega
    by_cases hlt : k < m2
    · have hki : (k : Int) < (m2 : Int) := by omega
      have Za := Lib.hid (Z1'.out.belowE hb.out Z1'.out.lt hx0)
      have Zb := Lib.hid (Z2'.out.belowE hb.out Z2'.out.lt hx1)
      have hg1 : ∀ x ∈ [gm], w.heap.size ≤ x := by intro x hx; have := hgm'.out; have := hs1'.out; simp at hx; omega
      have T1 := Lib.hid (((S1'.out.below (b5'.out.mono hB'.out.size)).out hg1).belowE (hb.out.mono (by have := hB'.out.size; have := b5'.out.size; omega)))
      have T2 := Lib.hid (((S2'.out.below (b5'.out.mono hB'.out.size)).out hg1).belowE (hb.out.mono (by have := hB'.out.size; have := b5'.out.size; omega)))
      have hszr : w.heap.size ≤ wr.heap.size := by have := hB'.out.size; have := b5'.out.size; have := hb.out.size; omega
      obtain ⟨q1, o1, rfl, hq1, e1⟩ := sees_at' T1.out.sees (i := k) (by have := hl1'.out; have := hm1'.out; omega)
      obtain ⟨q2, o2, rfl, hq2, e2⟩ := sees_at' T2.out.sees (i := k) (by have := hl2'.out; have := hm1'.out; omega)
      have f0 : ∀ W, BelowE [gm] wr.heap.size wr W → W.cell? ⟨w.heap.size, 1, none⟩ = some (.slice (some ⟨q1, o1, none⟩) m2 c1) := fun W hW => (Za.out.belowE hW Za.out.lt hx0).cell 1
      have f1 : ∀ W, BelowE [gm] wr.heap.size wr W → W.cell? ⟨w.heap.size + 1, 1, none⟩ = some (.slice (some ⟨q2, o2, none⟩) m2 c2) := fun W hW => (Zb.out.belowE hW Zb.out.lt hx1).cell 1
      have f2 : ∀ W, BelowE [gm] wr.heap.size wr W → W.cell? ⟨q1, o1 + k, none⟩ = some (.int .i64 (l1.getD k 0)) := fun W hW => (hW.cell (p := ⟨q1, o1 + k, none⟩) (by show q1 < _; omega) (by have := hg1 gm (by simp); simp; omega)).trans e1
      have f3 : ∀ W, BelowE [gm] wr.heap.size wr W → W.cell? ⟨q2, o2 + k, none⟩ = some (.int .i64 (l2.getD k 0)) := fun W hW => (hW.cell (p := ⟨q2, o2 + k, none⟩) (by show q2 < _; omega) (by have := hg1 gm (by simp); simp; omega)).trans e2
      have m0 := own_at hown.out (i := k) (by rw [hL.out.1]; exact hlt)
      have mf := hown.out.frozenAt k
      have hcall := Lib.hid (fun W => hf'.out (l1.getD k 0) (l2.getD k 0) W)
      have hL2 : Hid ((L.set k (F (l1.getD k 0) (l2.getD k 0))).length = m2 ∧ ∀ t, t < k + 1 → (L.set k (F (l1.getD k 0) (l2.getD k 0))).getD t 0 = F (l1.getD t 0) (l2.getD t 0)) := Lib.hid ⟨by rw [List.length_set]; exact hL.out.1, fun t ht => by
        rw [getD_set _ _ _ _ (by rw [hL.out.1]; exact hlt)]
        by_cases e : t = k
        · rw [if_pos e, e]
        · rw [if_neg e]; exact hL.out.2 t (by omega)⟩
      have hnx : Hid ((wr.setCell ⟨gm, k, none⟩ (.int .i64 (F (l1.getD k 0) (l2.getD k 0)))).drew.ownsRow W1.heap.size 3 1 (.slice (some ⟨gm, 0, none⟩) m2 m2) m2 (nums .i64 (L.set k (F (l1.getD k 0) (l2.getD k 0))))) := Lib.hid (own_put hown.out k _)
      have hbx : Hid (BelowE [gm] w5.heap.size w5 (wr.setCell ⟨gm, k, none⟩ (.int .i64 (F (l1.getD k 0) (l2.getD k 0)))).drew) := Lib.hid ((hb.out.setIn (p := ⟨gm, k, none⟩) (by simp) _).drew)
      clear hL hown hb Za Zb T1 T2 hq1 hq2 e1 e2 hg1
      generalize F (l1.getD k 0) (l2.getD k 0) = u at *
      generalize l1.getD k 0 = x at *
      generalize l2.getD k 0 = y at *
      generalize L.getD k 0 = z at *
      go_wp2
      refine wp_drawn_on (fun W => BelowE [gm] wr.heap.size wr W) (by kernel_rfl) ((BelowE.refl _ _ _).drew) (fun hHeld => ?_)
      refine wpAnyH_take (i := 0) (oi := { dst := some 19, op := Go.Op.move (Go.Operand.tmp 8), type := 22, pos := "zone.go:64", after := #[], guard := none }) (v := ?v6) rfl (by kernel_rfl) (by kernel_rfl) (by kernel_rfl) (fun _ _ _ h => h) (Or.inl ⟨by kernel_rfl, ?h6⟩) (by assumption) ?r6
      case h6 => (intro w hSw; (try dsimp only at hSw); go_simp; try with_reducible rfl)
      try simp only [Act.put, List.setIfInBounds_toArray, List.set_cons_zero, List.set_cons_succ]
      refine wpAnyH_take (i := 1) (oi := { dst := some 20, op := Go.Op.move (Go.Operand.tmp 9), type := 3, pos := "zone.go:64", after := #[], guard := none }) (v := ?v7) rfl (by kernel_rfl) (by kernel_rfl) (by kernel_rfl) (fun _ _ _ h => h) (Or.inl ⟨by kernel_rfl, ?h7⟩) (by assumption) ?r7
      case h7 => (intro w hSw; (try dsimp only at hSw); go_simp; try with_reducible rfl)
      try simp only [Act.put, List.setIfInBounds_toArray, List.set_cons_zero, List.set_cons_succ]
      refine wpAnyH_take (i := 2) (oi := { dst := some 21, op := Go.Op.move (Go.Operand.tmp 2), type := 67, pos := "zone.go:64", after := #[], guard := none }) (v := ?v8) rfl (by kernel_rfl) (by kernel_rfl) (by kernel_rfl) (fun _ _ _ h => h) (Or.inl ⟨by kernel_rfl, ?h8⟩) (by assumption) ?r8
      case h8 => (intro w hSw; (try dsimp only at hSw); go_simp; try with_reducible rfl)
      try simp only [Act.put, List.setIfInBounds_toArray, List.set_cons_zero, List.set_cons_succ]
      refine wpAnyH_take (i := 3) (oi := { dst := some 22, op := Go.Op.fieldAddr 24 (Go.Operand.tmp 3) 1, type := 0, pos := "zone.go:64", after := #[], guard := none }) (v := ?v9) rfl (by kernel_rfl) (by kernel_rfl) (by kernel_rfl) (fun _ _ _ h => h) (Or.inl ⟨by kernel_rfl, ?h9⟩) (by assumption) ?r9
      case h9 => (intro w hSw; (try dsimp only at hSw); go_simp; try with_reducible rfl)
      try simp only [Act.put, List.setIfInBounds_toArray, List.set_cons_zero, List.set_cons_succ]
      refine wpAnyH_take (i := 4) (oi := { dst := some 23, op := Go.Op.load 22 (Go.Operand.tmp 22), type := 22, pos := "zone.go:64", after := #[{ on := 3, ground := Go.Ground.data }], guard := none }) (v := ?v10) rfl (by kernel_rfl) (by kernel_rfl) (by kernel_rfl) (fun _ _ _ h => h) (Or.inl ⟨by kernel_rfl, ?h10⟩) (by assumption) ?r10
      case h10 => (intro w hSw; (try dsimp only at hSw); go_simp; try with_reducible rfl)
      try simp only [Act.put, List.setIfInBounds_toArray, List.set_cons_zero, List.set_cons_succ]
      refine wpAnyH_take (i := 5) (oi := { dst := some 24, op := Go.Op.move (Go.Operand.tmp 9), type := 3, pos := "zone.go:64", after := #[], guard := none }) (v := ?v11) rfl (by kernel_rfl) (by kernel_rfl) (by kernel_rfl) (fun _ _ _ h => h) (Or.inl ⟨by kernel_rfl, ?h11⟩) (by assumption) ?r11
      case h11 => (intro w hSw; (try dsimp only at hSw); go_simp; try with_reducible rfl)
      try simp only [Act.put, List.setIfInBounds_toArray, List.set_cons_zero, List.set_cons_succ]
      refine wpAnyH_take (i := 6) (oi := { dst := some 25, op := Go.Op.indexAddr 22 (Go.Operand.tmp 23) (Go.Operand.tmp 24), type := 0, pos := "zone.go:64", after := #[{ on := 4, ground := Go.Ground.data }, { on := 5, ground := Go.Ground.data }], guard := none }) (v := ?v12) rfl (by kernel_rfl) (by kernel_rfl) (by kernel_rfl) (fun _ _ _ h => h) (Or.inl ⟨by kernel_rfl, ?h12⟩) (by assumption) ?r12
      case h12 => (intro w hSw; (try dsimp only at hSw); go_simp; try with_reducible rfl)
      try simp only [Act.put, List.setIfInBounds_toArray, List.set_cons_zero, List.set_cons_succ]
      refine wpAnyH_take (i := 7) (oi := { dst := some 26, op := Go.Op.load 3 (Go.Operand.tmp 25), type := 3, pos := "zone.go:64", after := #[{ on := 6, ground := Go.Ground.data }], guard := none }) (v := ?v13) rfl (by kernel_rfl) (by kernel_rfl) (by kernel_rfl) (fun _ _ _ h => h) (Or.inl ⟨by kernel_rfl, ?h13⟩) (by assumption) ?r13
      case h13 => (intro w hSw; (try dsimp only at hSw); go_simp; try with_reducible rfl)
      try simp only [Act.put, List.setIfInBounds_toArray, List.set_cons_zero, List.set_cons_succ]
      refine wpAnyH_take (i := 8) (oi := { dst := some 27, op := Go.Op.fieldAddr 24 (Go.Operand.tmp 4) 1, type := 0, pos := "zone.go:64", after := #[], guard := none }) (v := ?v14) rfl (by kernel_rfl) (by kernel_rfl) (by kernel_rfl) (fun _ _ _ h => h) (Or.inl ⟨by kernel_rfl, ?h14⟩) (by assumption) ?r14
      case h14 => (intro w hSw; (try dsimp only at hSw); go_simp; try with_reducible rfl)
      try simp only [Act.put, List.setIfInBounds_toArray, List.set_cons_zero, List.set_cons_succ]
      refine wpAnyH_take (i := 9) (oi := { dst := some 28, op := Go.Op.load 22 (Go.Operand.tmp 27), type := 22, pos := "zone.go:64", after := #[{ on := 8, ground := Go.Ground.data }], guard := none }) (v := ?v15) rfl (by kernel_rfl) (by kernel_rfl) (by kernel_rfl) (fun _ _ _ h => h) (Or.inl ⟨by kernel_rfl, ?h15⟩) (by assumption) ?r15
      case h15 => (intro w hSw; (try dsimp only at hSw); go_simp; try with_reducible rfl)
      try simp only [Act.put, List.setIfInBounds_toArray, List.set_cons_zero, List.set_cons_succ]
      refine wpAnyH_take (i := 10) (oi := { dst := some 29, op := Go.Op.move (Go.Operand.tmp 9), type := 3, pos := "zone.go:64", after := #[], guard := none }) (v := ?v16) rfl (by kernel_rfl) (by kernel_rfl) (by kernel_rfl) (fun _ _ _ h => h) (Or.inl ⟨by kernel_rfl, ?h16⟩) (by assumption) ?r16
      case h16 => (intro w hSw; (try dsimp only at hSw); go_simp; try with_reducible rfl)
      try simp only [Act.put, List.setIfInBounds_toArray, List.set_cons_zero, List.set_cons_succ]
      refine wpAnyH_take (i := 11) (oi := { dst := some 30, op := Go.Op.indexAddr 22 (Go.Operand.tmp 28) (Go.Operand.tmp 29), type := 0, pos := "zone.go:64", after := #[{ on := 9, ground := Go.Ground.data }, { on := 10, ground := Go.Ground.data }], guard := none }) (v := ?v17) rfl (by kernel_rfl) (by kernel_rfl) (by kernel_rfl) (fun _ _ _ h => h) (Or.inl ⟨by kernel_rfl, ?h17⟩) (by assumption) ?r17
      case h17 => (intro w hSw; (try dsimp only at hSw); go_simp; try with_reducible rfl)
      try simp only [Act.put, List.setIfInBounds_toArray, List.set_cons_zero, List.set_cons_succ]
      refine wpAnyH_take (i := 12) (oi := { dst := some 31, op := Go.Op.load 3 (Go.Operand.tmp 30), type := 3, pos := "zone.go:64", after := #[{ on := 11, ground := Go.Ground.data }], guard := none }) (v := ?v18) rfl (by kernel_rfl) (by kernel_rfl) (by kernel_rfl) (fun _ _ _ h => h) (Or.inl ⟨by kernel_rfl, ?h18⟩) (by assumption) ?r18
      case h18 => (intro w hSw; (try dsimp only at hSw); go_simp; try with_reducible rfl)
      try simp only [Act.put, List.setIfInBounds_toArray, List.set_cons_zero, List.set_cons_succ]
      refine wpAnyH_ready (rs := [13]) (by kernel_rfl) (by simp) ?_
      refine AllReadyH.cons (o := { dst := some 32, op := Go.Op.call { callee := Go.Callee.value (Go.Operand.tmp 21), args := #[Go.Operand.tmp 26, Go.Operand.tmp 31], argTypes := #[3, 3] }, type := 3, pos := "zone.go:64", after := #[{ on := 2, ground := Go.Ground.data }, { on := 7, ground := Go.Ground.data }, { on := 12, ground := Go.Ground.data }], guard := none }) rfl (fun K hK => ?_) AllReadyH.nil
      go_simp
      refine (hcall.out _).mono ?_
      rintro e w6 ⟨rfl, rfl⟩
      go_simp
      refine hK.out _ _ (hHeld) (fun hHeld => ?_)
      clear hK K
      try simp only [Act.put, List.setIfInBounds_toArray, List.set_cons_zero, List.set_cons_succ]
      refine wpAnyH_take (i := 14) (oi := { dst := some 33, op := Go.Op.indexAddr 22 (Go.Operand.tmp 19) (Go.Operand.tmp 20), type := 0, pos := "zone.go:64", after := #[{ on := 0, ground := Go.Ground.data }, { on := 1, ground := Go.Ground.data }, { on := 0, ground := Go.Ground.phase }, { on := 1, ground := Go.Ground.phase }, { on := 2, ground := Go.Ground.phase }, { on := 3, ground := Go.Ground.phase }, { on := 4, ground := Go.Ground.phase }, { on := 5, ground := Go.Ground.phase }, { on := 6, ground := Go.Ground.phase }, { on := 7, ground := Go.Ground.phase }, { on := 8, ground := Go.Ground.phase }, { on := 9, ground := Go.Ground.phase }, { on := 10, ground := Go.Ground.phase }, { on := 11, ground := Go.Ground.phase }, { on := 12, ground := Go.Ground.phase }, { on := 13, ground := Go.Ground.phase }], guard := none }) (v := ?v19) rfl (by kernel_rfl) (by kernel_rfl) (by kernel_rfl) (fun _ _ _ h => h) (Or.inl ⟨by kernel_rfl, ?h19⟩) (by assumption) ?r19
      case h19 => (intro w hSw; (try dsimp only at hSw); go_simp; try with_reducible rfl)
      try simp only [Act.put, List.setIfInBounds_toArray, List.set_cons_zero, List.set_cons_succ]
      refine wpAnyH_ready (rs := [15]) (by kernel_rfl) (by simp) ?_
      refine AllReadyH.cons (o := { dst := none, op := Go.Op.store 3 (Go.Operand.tmp 33) (Go.Operand.tmp 32), type := 0, pos := "zone.go:64", after := #[{ on := 14, ground := Go.Ground.data }, { on := 13, ground := Go.Ground.data }, { on := 13, ground := Go.Ground.chain }, { on := 0, ground := Go.Ground.phase }, { on := 1, ground := Go.Ground.phase }, { on := 2, ground := Go.Ground.phase }, { on := 3, ground := Go.Ground.phase }, { on := 4, ground := Go.Ground.phase }, { on := 5, ground := Go.Ground.phase }, { on := 6, ground := Go.Ground.phase }, { on := 7, ground := Go.Ground.phase }, { on := 8, ground := Go.Ground.phase }, { on := 9, ground := Go.Ground.phase }, { on := 10, ground := Go.Ground.phase }, { on := 11, ground := Go.Ground.phase }, { on := 12, ground := Go.Ground.phase }, { on := 13, ground := Go.Ground.phase }], guard := none }) rfl (fun K hK => ?_) AllReadyH.nil
      go_simp
      refine hK.out _ _ (hHeld.setIn (p := ⟨gm, k, none⟩) (by simp) _) (fun hHeld => ?_)
      clear hK K
      try simp only [Act.put, List.setIfInBounds_toArray, List.set_cons_zero, List.set_cons_succ]
      refine wpAnyH_done (by kernel_rfl) ?_ _
      go_wp2
      go_roundw
      case rel => exact ⟨k + 1, _, by omega, by go_num, hL2, hnx, hbx⟩
      case measure => simp [intOf]; omega
    · have hke : k = m2 := by omega
      have hLp : L = pw F l1 l2 := pw_ext (by have := hL.out.1; have := hl1'.out; have := hm1'.out; omega) (fun t ht => hL.out.2 t (by have := hl1'.out; have := hm1'.out; omega))
      have Za := Lib.hid (Z1'.out.belowE hb.out Z1'.out.lt hx0)
      have Zc := Lib.hid (Z3'.out.belowE hb.out Z3'.out.lt hx2)
      have hown2 := hown.out
      rw [hLp] at hown2
      obtain ⟨ga, gc, hv, -, ss⟩ := sees_own hown2
      injection hv with e1 e2 e3
      subst e1
      have hbB : Below w.heap.size w wr := hB'.out.trans ((b5'.out.mono hB'.out.size).trans (BelowE.none ((hb.out.mono (by have := hB'.out.size; have := b5'.out.size; omega)).less (by intro x hx hlt; have := hgm'.out; have := hs1'.out; simp at hx; omega))))
      have hcl := Lib.hid (dclose_ok n hn'.out (some ⟨gm, 0, none⟩) (pw F l1 l2) m2 m2 e2 hm1'.out wr ss)
      have hbB' := Lib.hid hbB
      have z0 := Za.out.cell 0
      have z1 := Za.out.cell 1
      clear hL hown hb hown2 e2 e3 ss hLp hbB
      generalize closedL n (pw F l1 l2) = R at *
      go_wp2_with fail
      refine hcl.out.mono ?_
      rintro e w7 ⟨a7, c7, rfl, hc7, s7, b7, nw7⟩
      have Zd := Zc.out.below b7 Zc.out.lt
      have y0 := Zd.cell 0
      have y1 := Zd.cell 1
      have f0 := Zd.free 0
      have f1 := Zd.free 1
      have hfin := Lib.hid (zone_put (n := n) (err := 0) hbB'.out (by omega) Zc.out hc7 s7 b7 nw7)
      clear Zd hcl
      go_wp2
      exact zone_ret2 hfin.out.1 hfin.out.2.1 _ _ 6 7 rfl rfl rfl rfl
set_option maxRecDepth 100000 in
set_option maxHeartbeats 4000000 in
theorem pairs_join (F : Int → Int → Int) (hf : ∀ x y W, Calls Try.prog 52 #[.int .i64 x, .int .i64 y] W (Tells (.int .i64 (F x y)) W))
    (n : Nat) (hn : n ≤ 8) (a1 a2 : Option Addr) (m1 m2 c1 c2 : Nat) (l1 l2 : List Int) (hl1 : l1.length = sz n) (hl2 : l2.length = sz n) (w : World) (h1 : SL w a1 m1 c1 l1) (h2 : SL w a2 m2 c2 l2) :
    Calls Try.prog 49 #[.agg #[.int .i64 n, .slice a1 m1 c1], .agg #[.int .i64 n, .slice a2 m2 c2], .func (.func 52) #[] #[]] w (ZoneE n (closedL n (pw F l1 l2)) 0 w) := by
  obtain ⟨i0, hi, hz0, hz1, hz2⟩ := info_parts infoInt
  obtain ⟨W1, hW1⟩ : ∃ W1, W1 = ((w.alloc (.cells #[.int .i64 n, .slice a1 m1 c1] 24)).alloc (.cells #[.int .i64 n, .slice a2 m2 c2] 24)).alloc (.cells #[.int .i64 0, .slice none 0 0] 24) := ⟨_, rfl⟩
  have hB : Below w.heap.size w W1 := by rw [hW1]; exact (box2_below _ _ _ _ _).alloc (by simp; omega) _
  have hs1 : W1.heap.size = w.heap.size + 3 := by rw [hW1]; simp
  have Z1 : ZH W1 w.heap.size (.int .i64 n) (.slice a1 m1 c1) := by rw [hW1]; exact ((Holds.new w _ _).alloc _).alloc _
  have Z2 : ZH W1 (w.heap.size + 1) (.int .i64 n) (.slice a2 m2 c2) := by
    rw [hW1]
    have := (Holds.new (w.alloc (.cells #[.int .i64 n, .slice a1 m1 c1] 24)) 24 #[.int .i64 n, .slice a2 m2 c2]).alloc (.cells #[.int .i64 0, .slice none 0 0] 24)
    simpa using this
  have Z3 : ZH W1 (w.heap.size + 1 + 1) (.int .i64 0) (.slice none 0 0) := by
    rw [hW1]
    have := Holds.new ((w.alloc (.cells #[.int .i64 n, .slice a1 m1 c1] 24)).alloc (.cells #[.int .i64 n, .slice a2 m2 c2] 24)) 24 #[.int .i64 0, .slice none 0 0]
    simpa using this
  have hs81 := sz_le hn
  have hm1 : m1 = sz n := by rw [h1.len, hl1]
  have hm2 : m2 = sz n := by rw [h2.len, hl2]
  obtain ⟨gm, w5, hmk, hgm, own5, gr5⟩ : ∃ gm w5, (Instr.makeSlice 22 (.int .i64 (m1 : Int)) (.int .i64 (m1 : Int))).run Try.prog W1 = .ok (.slice (some ⟨gm, 0, none⟩) m1 m1) w5 ∧ gm = W1.heap.size ∧ w5.ownsRow W1.heap.size 3 1 (.slice (some ⟨gm, 0, none⟩) m1 m1) m1 (nums .i64 (List.replicate m1 0)) ∧ W1.grownBy w5 none := by
    obtain ⟨w', hrun, r1, r2⟩ := run_make_full (P := Try.prog) W1 W1.heap.size 22 3 i0 (.int .i64 0) 1 Try.underlying22 hi hz0 hz1 .i64 .i64 m1 (by rw [hz2]; omega) (by unfold maxLen; omega) (Nat.le_refl _)
    rw [made_zero] at r1
    exact ⟨W1.heap.size, w', hrun, rfl, r1, r2⟩
  have b5 : Below W1.heap.size W1 w5 := (Below.refl _ _).grown gr5 (Nat.le_refl _) (by intro k hk; simp at hk)
  rw [hW1] at hmk
  have own5' := Lib.hid own5
  have b5' := Lib.hid b5
  have hW1' := Lib.hid hW1
  have hB' := Lib.hid hB
  have Z1' := Lib.hid (Z1.below b5 Z1.lt)
  have Z2' := Lib.hid (Z2.below b5 Z2.lt)
  have Z3' := Lib.hid (Z3.below b5 Z3.lt)
  have S1' := Lib.hid (h1.sees.below hB)
  have S2' := Lib.hid (h2.sees.below hB)
  have hgm' := Lib.hid hgm
  have hs1' := Lib.hid hs1
  have hl1' := Lib.hid hl1
  have hl2' := Lib.hid hl2
  have hm1' := Lib.hid hm1
  have hf' := Lib.hid hf
  have hn' := Lib.hid hn
  have hmi : (m1 : Int) ≤ 81 := by omega
  have hm12 : m2 = m1 := by omega
  subst hm12
  have z0 := Z1'.out.cell 0
  have z1 := Z1'.out.cell 1
  clear hW1 hB Z1 Z2 Z3 own5 b5 gr5 h1 h2 hgm hs1 hl1 hl2 hf hn hm1 hm2
  go_enter Try.func49, Try.ntmps49
  go_wp2
  go_loopw [16] (fun x wr => ∃ (k : Nat) (L : List Int), k ≤ m2 ∧ x = .int .i64 k ∧ Hid (L.length = m2 ∧ ∀ t, t < k → L.getD t 0 = F (l1.getD t 0) (l2.getD t 0)) ∧ Hid (wr.ownsRow W1.heap.size 3 1 (.slice (some ⟨gm, 0, none⟩) m2 m2) m2 (nums .i64 L)) ∧ Hid (BelowE [gm] w5.heap.size w5 wr)) (fun x _ => m2 - (intOf x).toNat)
  case atStart => exact ⟨0, List.replicate m2 0, Nat.zero_le _, rfl, Lib.hid ⟨by simp, by intro t ht; omega⟩, own5', Lib.hid (BelowE.refl _ _ _)⟩
  case round =>
    clear z0 z1
    obtain ⟨k, L, hk, rfl, hL, hown, hb⟩ := hrel
    have hx0 : w.heap.size ∉ [gm] := by have := hgm'.out; have := hs1'.out; simp; omega
    have hx1 : w.heap.size + 1 ∉ [gm] := by have := hgm'.out; have := hs1'.out; simp; omega
    have hx2 : w.heap.size + 1 + 1 ∉ [gm] := by have := hgm'.out; have := hs1'.out; simp; omega
    by_cases hlt : k < m2
    · have hki : (k : Int) < (m2 : Int) := by omega
      have Za := Lib.hid (Z1'.out.belowE hb.out Z1'.out.lt hx0)
      have Zb := Lib.hid (Z2'.out.belowE hb.out Z2'.out.lt hx1)
      have hg1 : ∀ x ∈ [gm], w.heap.size ≤ x := by intro x hx; have := hgm'.out; have := hs1'.out; simp at hx; omega
      have T1 := Lib.hid (((S1'.out.below (b5'.out.mono hB'.out.size)).out hg1).belowE (hb.out.mono (by have := hB'.out.size; have := b5'.out.size; omega)))
      have T2 := Lib.hid (((S2'.out.below (b5'.out.mono hB'.out.size)).out hg1).belowE (hb.out.mono (by have := hB'.out.size; have := b5'.out.size; omega)))
      have hszr : w.heap.size ≤ wr.heap.size := by have := hB'.out.size; have := b5'.out.size; have := hb.out.size; omega
      obtain ⟨q1, o1, rfl, hq1, e1⟩ := sees_at' T1.out.sees (i := k) (by have := hl1'.out; have := hm1'.out; omega)
      obtain ⟨q2, o2, rfl, hq2, e2⟩ := sees_at' T2.out.sees (i := k) (by have := hl2'.out; have := hm1'.out; omega)
      have f0 : ∀ W, BelowE [gm] wr.heap.size wr W → W.cell? ⟨w.heap.size, 1, none⟩ = some (.slice (some ⟨q1, o1, none⟩) m2 c1) := fun W hW => (Za.out.belowE hW Za.out.lt hx0).cell 1
      have f1 : ∀ W, BelowE [gm] wr.heap.size wr W → W.cell? ⟨w.heap.size + 1, 1, none⟩ = some (.slice (some ⟨q2, o2, none⟩) m2 c2) := fun W hW => (Zb.out.belowE hW Zb.out.lt hx1).cell 1
      have f2 : ∀ W, BelowE [gm] wr.heap.size wr W → W.cell? ⟨q1, o1 + k, none⟩ = some (.int .i64 (l1.getD k 0)) := fun W hW => (hW.cell (p := ⟨q1, o1 + k, none⟩) (by show q1 < _; omega) (by have := hg1 gm (by simp); simp; omega)).trans e1
      have f3 : ∀ W, BelowE [gm] wr.heap.size wr W → W.cell? ⟨q2, o2 + k, none⟩ = some (.int .i64 (l2.getD k 0)) := fun W hW => (hW.cell (p := ⟨q2, o2 + k, none⟩) (by show q2 < _; omega) (by have := hg1 gm (by simp); simp; omega)).trans e2
      have m0 := own_at hown.out (i := k) (by rw [hL.out.1]; exact hlt)
      have mf := hown.out.frozenAt k
      have hcall := Lib.hid (fun W => hf'.out (l1.getD k 0) (l2.getD k 0) W)
      have hL2 : Hid ((L.set k (F (l1.getD k 0) (l2.getD k 0))).length = m2 ∧ ∀ t, t < k + 1 → (L.set k (F (l1.getD k 0) (l2.getD k 0))).getD t 0 = F (l1.getD t 0) (l2.getD t 0)) := Lib.hid ⟨by rw [List.length_set]; exact hL.out.1, fun t ht => by
        rw [getD_set _ _ _ _ (by rw [hL.out.1]; exact hlt)]
        by_cases e : t = k
        · rw [if_pos e, e]
        · rw [if_neg e]; exact hL.out.2 t (by omega)⟩
      have hnx : Hid ((wr.setCell ⟨gm, k, none⟩ (.int .i64 (F (l1.getD k 0) (l2.getD k 0)))).drew.ownsRow W1.heap.size 3 1 (.slice (some ⟨gm, 0, none⟩) m2 m2) m2 (nums .i64 (L.set k (F (l1.getD k 0) (l2.getD k 0))))) := Lib.hid (own_put hown.out k _)
      have hbx : Hid (BelowE [gm] w5.heap.size w5 (wr.setCell ⟨gm, k, none⟩ (.int .i64 (F (l1.getD k 0) (l2.getD k 0)))).drew) := Lib.hid ((hb.out.setIn (p := ⟨gm, k, none⟩) (by simp) _).drew)
      clear hL hown hb Za Zb T1 T2 hq1 hq2 e1 e2 hg1
      generalize F (l1.getD k 0) (l2.getD k 0) = u at *
      generalize l1.getD k 0 = x at *
      generalize l2.getD k 0 = y at *
      generalize L.getD k 0 = z at *
      go_wp2
      refine wp_drawn_on (fun W => BelowE [gm] wr.heap.size wr W) (by kernel_rfl) ((BelowE.refl _ _ _).drew) (fun hHeld => ?_)
      refine wpAnyH_take (i := 0) (oi := { dst := some 19, op := Go.Op.move (Go.Operand.tmp 8), type := 22, pos := "zone.go:64", after := #[], guard := none }) (v := ?v20) rfl (by kernel_rfl) (by kernel_rfl) (by kernel_rfl) (fun _ _ _ h => h) (Or.inl ⟨by kernel_rfl, ?h20⟩) (by assumption) ?r20
      case h20 => (intro w hSw; (try dsimp only at hSw); go_simp; try with_reducible rfl)
      try simp only [Act.put, List.setIfInBounds_toArray, List.set_cons_zero, List.set_cons_succ]
      refine wpAnyH_take (i := 1) (oi := { dst := some 20, op := Go.Op.move (Go.Operand.tmp 9), type := 3, pos := "zone.go:64", after := #[], guard := none }) (v := ?v21) rfl (by kernel_rfl) (by kernel_rfl) (by kernel_rfl) (fun _ _ _ h => h) (Or.inl ⟨by kernel_rfl, ?h21⟩) (by assumption) ?r21
      case h21 => (intro w hSw; (try dsimp only at hSw); go_simp; try with_reducible rfl)
      try simp only [Act.put, List.setIfInBounds_toArray, List.set_cons_zero, List.set_cons_succ]
      refine wpAnyH_take (i := 2) (oi := { dst := some 21, op := Go.Op.move (Go.Operand.tmp 2), type := 67, pos := "zone.go:64", after := #[], guard := none }) (v := ?v22) rfl (by kernel_rfl) (by kernel_rfl) (by kernel_rfl) (fun _ _ _ h => h) (Or.inl ⟨by kernel_rfl, ?h22⟩) (by assumption) ?r22
      case h22 => (intro w hSw; (try dsimp only at hSw); go_simp; try with_reducible rfl)
      try simp only [Act.put, List.setIfInBounds_toArray, List.set_cons_zero, List.set_cons_succ]
      refine wpAnyH_take (i := 3) (oi := { dst := some 22, op := Go.Op.fieldAddr 24 (Go.Operand.tmp 3) 1, type := 0, pos := "zone.go:64", after := #[], guard := none }) (v := ?v23) rfl (by kernel_rfl) (by kernel_rfl) (by kernel_rfl) (fun _ _ _ h => h) (Or.inl ⟨by kernel_rfl, ?h23⟩) (by assumption) ?r23
      case h23 => (intro w hSw; (try dsimp only at hSw); go_simp; try with_reducible rfl)
      try simp only [Act.put, List.setIfInBounds_toArray, List.set_cons_zero, List.set_cons_succ]
      refine wpAnyH_take (i := 4) (oi := { dst := some 23, op := Go.Op.load 22 (Go.Operand.tmp 22), type := 22, pos := "zone.go:64", after := #[{ on := 3, ground := Go.Ground.data }], guard := none }) (v := ?v24) rfl (by kernel_rfl) (by kernel_rfl) (by kernel_rfl) (fun _ _ _ h => h) (Or.inl ⟨by kernel_rfl, ?h24⟩) (by assumption) ?r24
      case h24 => (intro w hSw; (try dsimp only at hSw); go_simp; try with_reducible rfl)
      try simp only [Act.put, List.setIfInBounds_toArray, List.set_cons_zero, List.set_cons_succ]
      refine wpAnyH_take (i := 5) (oi := { dst := some 24, op := Go.Op.move (Go.Operand.tmp 9), type := 3, pos := "zone.go:64", after := #[], guard := none }) (v := ?v25) rfl (by kernel_rfl) (by kernel_rfl) (by kernel_rfl) (fun _ _ _ h => h) (Or.inl ⟨by kernel_rfl, ?h25⟩) (by assumption) ?r25
      case h25 => (intro w hSw; (try dsimp only at hSw); go_simp; try with_reducible rfl)
      try simp only [Act.put, List.setIfInBounds_toArray, List.set_cons_zero, List.set_cons_succ]
      refine wpAnyH_take (i := 6) (oi := { dst := some 25, op := Go.Op.indexAddr 22 (Go.Operand.tmp 23) (Go.Operand.tmp 24), type := 0, pos := "zone.go:64", after := #[{ on := 4, ground := Go.Ground.data }, { on := 5, ground := Go.Ground.data }], guard := none }) (v := ?v26) rfl (by kernel_rfl) (by kernel_rfl) (by kernel_rfl) (fun _ _ _ h => h) (Or.inl ⟨by kernel_rfl, ?h26⟩) (by assumption) ?r26
      case h26 => (intro w hSw; (try dsimp only at hSw); go_simp; try with_reducible rfl)
      try simp only [Act.put, List.setIfInBounds_toArray, List.set_cons_zero, List.set_cons_succ]
      refine wpAnyH_take (i := 7) (oi := { dst := some 26, op := Go.Op.load 3 (Go.Operand.tmp 25), type := 3, pos := "zone.go:64", after := #[{ on := 6, ground := Go.Ground.data }], guard := none }) (v := ?v27) rfl (by kernel_rfl) (by kernel_rfl) (by kernel_rfl) (fun _ _ _ h => h) (Or.inl ⟨by kernel_rfl, ?h27⟩) (by assumption) ?r27
      case h27 => (intro w hSw; (try dsimp only at hSw); go_simp; try with_reducible rfl)
      try simp only [Act.put, List.setIfInBounds_toArray, List.set_cons_zero, List.set_cons_succ]
      refine wpAnyH_take (i := 8) (oi := { dst := some 27, op := Go.Op.fieldAddr 24 (Go.Operand.tmp 4) 1, type := 0, pos := "zone.go:64", after := #[], guard := none }) (v := ?v28) rfl (by kernel_rfl) (by kernel_rfl) (by kernel_rfl) (fun _ _ _ h => h) (Or.inl ⟨by kernel_rfl, ?h28⟩) (by assumption) ?r28
      case h28 => (intro w hSw; (try dsimp only at hSw); go_simp; try with_reducible rfl)
      try simp only [Act.put, List.setIfInBounds_toArray, List.set_cons_zero, List.set_cons_succ]
      refine wpAnyH_take (i := 9) (oi := { dst := some 28, op := Go.Op.load 22 (Go.Operand.tmp 27), type := 22, pos := "zone.go:64", after := #[{ on := 8, ground := Go.Ground.data }], guard := none }) (v := ?v29) rfl (by kernel_rfl) (by kernel_rfl) (by kernel_rfl) (fun _ _ _ h => h) (Or.inl ⟨by kernel_rfl, ?h29⟩) (by assumption) ?r29
      case h29 => (intro w hSw; (try dsimp only at hSw); go_simp; try with_reducible rfl)
      try simp only [Act.put, List.setIfInBounds_toArray, List.set_cons_zero, List.set_cons_succ]
      refine wpAnyH_take (i := 10) (oi := { dst := some 29, op := Go.Op.move (Go.Operand.tmp 9), type := 3, pos := "zone.go:64", after := #[], guard := none }) (v := ?v30) rfl (by kernel_rfl) (by kernel_rfl) (by kernel_rfl) (fun _ _ _ h => h) (Or.inl ⟨by kernel_rfl, ?h30⟩) (by assumption) ?r30
      case h30 => (intro w hSw; (try dsimp only at hSw); go_simp; try with_reducible rfl)
      try simp only [Act.put, List.setIfInBounds_toArray, List.set_cons_zero, List.set_cons_succ]
      refine wpAnyH_take (i := 11) (oi := { dst := some 30, op := Go.Op.indexAddr 22 (Go.Operand.tmp 28) (Go.Operand.tmp 29), type := 0, pos := "zone.go:64", after := #[{ on := 9, ground := Go.Ground.data }, { on := 10, ground := Go.Ground.data }], guard := none }) (v := ?v31) rfl (by kernel_rfl) (by kernel_rfl) (by kernel_rfl) (fun _ _ _ h => h) (Or.inl ⟨by kernel_rfl, ?h31⟩) (by assumption) ?r31
      case h31 => (intro w hSw; (try dsimp only at hSw); go_simp; try with_reducible rfl)
      try simp only [Act.put, List.setIfInBounds_toArray, List.set_cons_zero, List.set_cons_succ]
      refine wpAnyH_take (i := 12) (oi := { dst := some 31, op := Go.Op.load 3 (Go.Operand.tmp 30), type := 3, pos := "zone.go:64", after := #[{ on := 11, ground := Go.Ground.data }], guard := none }) (v := ?v32) rfl (by kernel_rfl) (by kernel_rfl) (by kernel_rfl) (fun _ _ _ h => h) (Or.inl ⟨by kernel_rfl, ?h32⟩) (by assumption) ?r32
      case h32 => (intro w hSw; (try dsimp only at hSw); go_simp; try with_reducible rfl)
      try simp only [Act.put, List.setIfInBounds_toArray, List.set_cons_zero, List.set_cons_succ]
      refine wpAnyH_ready (rs := [13]) (by kernel_rfl) (by simp) ?_
      refine AllReadyH.cons (o := { dst := some 32, op := Go.Op.call { callee := Go.Callee.value (Go.Operand.tmp 21), args := #[Go.Operand.tmp 26, Go.Operand.tmp 31], argTypes := #[3, 3] }, type := 3, pos := "zone.go:64", after := #[{ on := 2, ground := Go.Ground.data }, { on := 7, ground := Go.Ground.data }, { on := 12, ground := Go.Ground.data }], guard := none }) rfl (fun K hK => ?_) AllReadyH.nil
      go_simp
      refine (hcall.out _).mono ?_
      rintro e w6 ⟨rfl, rfl⟩
      go_simp
      refine hK.out _ _ (hHeld) (fun hHeld => ?_)
      clear hK K
      try simp only [Act.put, List.setIfInBounds_toArray, List.set_cons_zero, List.set_cons_succ]
      refine wpAnyH_take (i := 14) (oi := { dst := some 33, op := Go.Op.indexAddr 22 (Go.Operand.tmp 19) (Go.Operand.tmp 20), type := 0, pos := "zone.go:64", after := #[{ on := 0, ground := Go.Ground.data }, { on := 1, ground := Go.Ground.data }, { on := 0, ground := Go.Ground.phase }, { on := 1, ground := Go.Ground.phase }, { on := 2, ground := Go.Ground.phase }, { on := 3, ground := Go.Ground.phase }, { on := 4, ground := Go.Ground.phase }, { on := 5, ground := Go.Ground.phase }, { on := 6, ground := Go.Ground.phase }, { on := 7, ground := Go.Ground.phase }, { on := 8, ground := Go.Ground.phase }, { on := 9, ground := Go.Ground.phase }, { on := 10, ground := Go.Ground.phase }, { on := 11, ground := Go.Ground.phase }, { on := 12, ground := Go.Ground.phase }, { on := 13, ground := Go.Ground.phase }], guard := none }) (v := ?v33) rfl (by kernel_rfl) (by kernel_rfl) (by kernel_rfl) (fun _ _ _ h => h) (Or.inl ⟨by kernel_rfl, ?h33⟩) (by assumption) ?r33
      case h33 => (intro w hSw; (try dsimp only at hSw); go_simp; try with_reducible rfl)
      try simp only [Act.put, List.setIfInBounds_toArray, List.set_cons_zero, List.set_cons_succ]
      refine wpAnyH_ready (rs := [15]) (by kernel_rfl) (by simp) ?_
      refine AllReadyH.cons (o := { dst := none, op := Go.Op.store 3 (Go.Operand.tmp 33) (Go.Operand.tmp 32), type := 0, pos := "zone.go:64", after := #[{ on := 14, ground := Go.Ground.data }, { on := 13, ground := Go.Ground.data }, { on := 13, ground := Go.Ground.chain }, { on := 0, ground := Go.Ground.phase }, { on := 1, ground := Go.Ground.phase }, { on := 2, ground := Go.Ground.phase }, { on := 3, ground := Go.Ground.phase }, { on := 4, ground := Go.Ground.phase }, { on := 5, ground := Go.Ground.phase }, { on := 6, ground := Go.Ground.phase }, { on := 7, ground := Go.Ground.phase }, { on := 8, ground := Go.Ground.phase }, { on := 9, ground := Go.Ground.phase }, { on := 10, ground := Go.Ground.phase }, { on := 11, ground := Go.Ground.phase }, { on := 12, ground := Go.Ground.phase }, { on := 13, ground := Go.Ground.phase }], guard := none }) rfl (fun K hK => ?_) AllReadyH.nil
      go_simp
      refine hK.out _ _ (hHeld.setIn (p := ⟨gm, k, none⟩) (by simp) _) (fun hHeld => ?_)
      clear hK K
      try simp only [Act.put, List.setIfInBounds_toArray, List.set_cons_zero, List.set_cons_succ]
      refine wpAnyH_done (by kernel_rfl) ?_ _
      go_wp2
      go_roundw
      case rel => exact ⟨k + 1, _, by omega, by go_num, hL2, hnx, hbx⟩
      case measure => simp [intOf]; omega
    · have hke : k = m2 := by omega
      have hLp : L = pw F l1 l2 := pw_ext (by have := hL.out.1; have := hl1'.out; have := hm1'.out; omega) (fun t ht => hL.out.2 t (by have := hl1'.out; have := hm1'.out; omega))
      have Za := Lib.hid (Z1'.out.belowE hb.out Z1'.out.lt hx0)
      have Zc := Lib.hid (Z3'.out.belowE hb.out Z3'.out.lt hx2)
      have hown2 := hown.out
      rw [hLp] at hown2
      obtain ⟨ga, gc, hv, -, ss⟩ := sees_own hown2
      injection hv with e1 e2 e3
      subst e1
      have hbB : Below w.heap.size w wr := hB'.out.trans ((b5'.out.mono hB'.out.size).trans (BelowE.none ((hb.out.mono (by have := hB'.out.size; have := b5'.out.size; omega)).less (by intro x hx hlt; have := hgm'.out; have := hs1'.out; simp at hx; omega))))
      have hcl := Lib.hid (dclose_ok n hn'.out (some ⟨gm, 0, none⟩) (pw F l1 l2) m2 m2 e2 hm1'.out wr ss)
      have hbB' := Lib.hid hbB
      have z0 := Za.out.cell 0
      have z1 := Za.out.cell 1
      clear hL hown hb hown2 e2 e3 ss hLp hbB
      generalize closedL n (pw F l1 l2) = R at *
      go_wp2_with fail
      refine hcl.out.mono ?_
      rintro e w7 ⟨a7, c7, rfl, hc7, s7, b7, nw7⟩
      have Zd := Zc.out.below b7 Zc.out.lt
      have y0 := Zd.cell 0
      have y1 := Zd.cell 1
      have f0 := Zd.free 0
      have f1 := Zd.free 1
      have hfin := Lib.hid (zone_put (n := n) (err := 0) hbB'.out (by omega) Zc.out hc7 s7 b7 nw7)
      clear Zd hcl
      go_wp2
      exact zone_ret2 hfin.out.1 hfin.out.2.1 _ _ 6 7 rfl rfl rfl rfl
set_option maxRecDepth 100000 in
set_option maxHeartbeats 4000000 in
theorem pairs_widen (F : Int → Int → Int) (hf : ∀ x y W, Calls Try.prog 53 #[.int .i64 x, .int .i64 y] W (Tells (.int .i64 (F x y)) W))
    (n : Nat) (hn : n ≤ 8) (a1 a2 : Option Addr) (m1 m2 c1 c2 : Nat) (l1 l2 : List Int) (hl1 : l1.length = sz n) (hl2 : l2.length = sz n) (w : World) (h1 : SL w a1 m1 c1 l1) (h2 : SL w a2 m2 c2 l2) :
    Calls Try.prog 49 #[.agg #[.int .i64 n, .slice a1 m1 c1], .agg #[.int .i64 n, .slice a2 m2 c2], .func (.func 53) #[] #[]] w (ZoneE n (closedL n (pw F l1 l2)) 0 w) := by
  obtain ⟨i0, hi, hz0, hz1, hz2⟩ := info_parts infoInt
  obtain ⟨W1, hW1⟩ : ∃ W1, W1 = ((w.alloc (.cells #[.int .i64 n, .slice a1 m1 c1] 24)).alloc (.cells #[.int .i64 n, .slice a2 m2 c2] 24)).alloc (.cells #[.int .i64 0, .slice none 0 0] 24) := ⟨_, rfl⟩
  have hB : Below w.heap.size w W1 := by rw [hW1]; exact (box2_below _ _ _ _ _).alloc (by simp; omega) _
  have hs1 : W1.heap.size = w.heap.size + 3 := by rw [hW1]; simp
  have Z1 : ZH W1 w.heap.size (.int .i64 n) (.slice a1 m1 c1) := by rw [hW1]; exact ((Holds.new w _ _).alloc _).alloc _
  have Z2 : ZH W1 (w.heap.size + 1) (.int .i64 n) (.slice a2 m2 c2) := by
    rw [hW1]
    have := (Holds.new (w.alloc (.cells #[.int .i64 n, .slice a1 m1 c1] 24)) 24 #[.int .i64 n, .slice a2 m2 c2]).alloc (.cells #[.int .i64 0, .slice none 0 0] 24)
    simpa using this
  have Z3 : ZH W1 (w.heap.size + 1 + 1) (.int .i64 0) (.slice none 0 0) := by
    rw [hW1]
    have := Holds.new ((w.alloc (.cells #[.int .i64 n, .slice a1 m1 c1] 24)).alloc (.cells #[.int .i64 n, .slice a2 m2 c2] 24)) 24 #[.int .i64 0, .slice none 0 0]
    simpa using this
  have hs81 := sz_le hn
  have hm1 : m1 = sz n := by rw [h1.len, hl1]
  have hm2 : m2 = sz n := by rw [h2.len, hl2]
  obtain ⟨gm, w5, hmk, hgm, own5, gr5⟩ : ∃ gm w5, (Instr.makeSlice 22 (.int .i64 (m1 : Int)) (.int .i64 (m1 : Int))).run Try.prog W1 = .ok (.slice (some ⟨gm, 0, none⟩) m1 m1) w5 ∧ gm = W1.heap.size ∧ w5.ownsRow W1.heap.size 3 1 (.slice (some ⟨gm, 0, none⟩) m1 m1) m1 (nums .i64 (List.replicate m1 0)) ∧ W1.grownBy w5 none := by
    obtain ⟨w', hrun, r1, r2⟩ := run_make_full (P := Try.prog) W1 W1.heap.size 22 3 i0 (.int .i64 0) 1 Try.underlying22 hi hz0 hz1 .i64 .i64 m1 (by rw [hz2]; omega) (by unfold maxLen; omega) (Nat.le_refl _)
    rw [made_zero] at r1
    exact ⟨W1.heap.size, w', hrun, rfl, r1, r2⟩
  have b5 : Below W1.heap.size W1 w5 := (Below.refl _ _).grown gr5 (Nat.le_refl _) (by intro k hk; simp at hk)
  rw [hW1] at hmk
  have own5' := Lib.hid own5
  have b5' := Lib.hid b5
  have hW1' := Lib.hid hW1
  have hB' := Lib.hid hB
  have Z1' := Lib.hid (Z1.below b5 Z1.lt)
  have Z2' := Lib.hid (Z2.below b5 Z2.lt)
  have Z3' := Lib.hid (Z3.below b5 Z3.lt)
  have S1' := Lib.hid (h1.sees.below hB)
  have S2' := Lib.hid (h2.sees.below hB)
  have hgm' := Lib.hid hgm
  have hs1' := Lib.hid hs1
  have hl1' := Lib.hid hl1
  have hl2' := Lib.hid hl2
  have hm1' := Lib.hid hm1
  have hf' := Lib.hid hf
  have hn' := Lib.hid hn
  have hmi : (m1 : Int) ≤ 81 := by omega
  have hm12 : m2 = m1 := by omega
  subst hm12
  have z0 := Z1'.out.cell 0
  have z1 := Z1'.out.cell 1
  clear hW1 hB Z1 Z2 Z3 own5 b5 gr5 h1 h2 hgm hs1 hl1 hl2 hf hn hm1 hm2
  go_enter Try.func49, Try.ntmps49
  go_wp2
  go_loopw [16] (fun x wr => ∃ (k : Nat) (L : List Int), k ≤ m2 ∧ x = .int .i64 k ∧ Hid (L.length = m2 ∧ ∀ t, t < k → L.getD t 0 = F (l1.getD t 0) (l2.getD t 0)) ∧ Hid (wr.ownsRow W1.heap.size 3 1 (.slice (some ⟨gm, 0, none⟩) m2 m2) m2 (nums .i64 L)) ∧ Hid (BelowE [gm] w5.heap.size w5 wr)) (fun x _ => m2 - (intOf x).toNat)
  case atStart => exact ⟨0, List.replicate m2 0, Nat.zero_le _, rfl, Lib.hid ⟨by simp, by intro t ht; omega⟩, own5', Lib.hid (BelowE.refl _ _ _)⟩
  case round =>
    clear z0 z1
    obtain ⟨k, L, hk, rfl, hL, hown, hb⟩ := hrel
    have hx0 : w.heap.size ∉ [gm] := by have := hgm'.out; have := hs1'.out; simp; omega
    have hx1 : w.heap.size + 1 ∉ [gm] := by have := hgm'.out; have := hs1'.out; simp; omega
    have hx2 : w.heap.size + 1 + 1 ∉ [gm] := by have := hgm'.out; have := hs1'.out; simp; omega
    by_cases hlt : k < m2
    · have hki : (k : Int) < (m2 : Int) := by omega
      have Za := Lib.hid (Z1'.out.belowE hb.out Z1'.out.lt hx0)
      have Zb := Lib.hid (Z2'.out.belowE hb.out Z2'.out.lt hx1)
      have hg1 : ∀ x ∈ [gm], w.heap.size ≤ x := by intro x hx; have := hgm'.out; have := hs1'.out; simp at hx; omega
      have T1 := Lib.hid (((S1'.out.below (b5'.out.mono hB'.out.size)).out hg1).belowE (hb.out.mono (by have := hB'.out.size; have := b5'.out.size; omega)))
      have T2 := Lib.hid (((S2'.out.below (b5'.out.mono hB'.out.size)).out hg1).belowE (hb.out.mono (by have := hB'.out.size; have := b5'.out.size; omega)))
      have hszr : w.heap.size ≤ wr.heap.size := by have := hB'.out.size; have := b5'.out.size; have := hb.out.size; omega
      obtain ⟨q1, o1, rfl, hq1, e1⟩ := sees_at' T1.out.sees (i := k) (by have := hl1'.out; have := hm1'.out; omega)
      obtain ⟨q2, o2, rfl, hq2, e2⟩ := sees_at' T2.out.sees (i := k) (by have := hl2'.out; have := hm1'.out; omega)
      have f0 : ∀ W, BelowE [gm] wr.heap.size wr W → W.cell? ⟨w.heap.size, 1, none⟩ = some (.slice (some ⟨q1, o1, none⟩) m2 c1) := fun W hW => (Za.out.belowE hW Za.out.lt hx0).cell 1
      have f1 : ∀ W, BelowE [gm] wr.heap.size wr W → W.cell? ⟨w.heap.size + 1, 1, none⟩ = some (.slice (some ⟨q2, o2, none⟩) m2 c2) := fun W hW => (Zb.out.belowE hW Zb.out.lt hx1).cell 1
      have f2 : ∀ W, BelowE [gm] wr.heap.size wr W → W.cell? ⟨q1, o1 + k, none⟩ = some (.int .i64 (l1.getD k 0)) := fun W hW => (hW.cell (p := ⟨q1, o1 + k, none⟩) (by show q1 < _; omega) (by have := hg1 gm (by simp); simp; omega)).trans e1
      have f3 : ∀ W, BelowE [gm] wr.heap.size wr W → W.cell? ⟨q2, o2 + k, none⟩ = some (.int .i64 (l2.getD k 0)) := fun W hW => (hW.cell (p := ⟨q2, o2 + k, none⟩) (by show q2 < _; omega) (by have := hg1 gm (by simp); simp; omega)).trans e2
      have m0 := own_at hown.out (i := k) (by rw [hL.out.1]; exact hlt)
      have mf := hown.out.frozenAt k
      have hcall := Lib.hid (fun W => hf'.out (l1.getD k 0) (l2.getD k 0) W)
      have hL2 : Hid ((L.set k (F (l1.getD k 0) (l2.getD k 0))).length = m2 ∧ ∀ t, t < k + 1 → (L.set k (F (l1.getD k 0) (l2.getD k 0))).getD t 0 = F (l1.getD t 0) (l2.getD t 0)) := Lib.hid ⟨by rw [List.length_set]; exact hL.out.1, fun t ht => by
        rw [getD_set _ _ _ _ (by rw [hL.out.1]; exact hlt)]
        by_cases e : t = k
        · rw [if_pos e, e]
        · rw [if_neg e]; exact hL.out.2 t (by omega)⟩
      have hnx : Hid ((wr.setCell ⟨gm, k, none⟩ (.int .i64 (F (l1.getD k 0) (l2.getD k 0)))).drew.ownsRow W1.heap.size 3 1 (.slice (some ⟨gm, 0, none⟩) m2 m2) m2 (nums .i64 (L.set k (F (l1.getD k 0) (l2.getD k 0))))) := Lib.hid (own_put hown.out k _)
      have hbx : Hid (BelowE [gm] w5.heap.size w5 (wr.setCell ⟨gm, k, none⟩ (.int .i64 (F (l1.getD k 0) (l2.getD k 0)))).drew) := Lib.hid ((hb.out.setIn (p := ⟨gm, k, none⟩) (by simp) _).drew)
      clear hL hown hb Za Zb T1 T2 hq1 hq2 e1 e2 hg1
      generalize F (l1.getD k 0) (l2.getD k 0) = u at *
      generalize l1.getD k 0 = x at *
      generalize l2.getD k 0 = y at *
      generalize L.getD k 0 = z at *
      go_wp2
      refine wp_drawn_on (fun W => BelowE [gm] wr.heap.size wr W) (by kernel_rfl) ((BelowE.refl _ _ _).drew) (fun hHeld => ?_)
      refine wpAnyH_take (i := 0) (oi := { dst := some 19, op := Go.Op.move (Go.Operand.tmp 8), type := 22, pos := "zone.go:64", after := #[], guard := none }) (v := ?v34) rfl (by kernel_rfl) (by kernel_rfl) (by kernel_rfl) (fun _ _ _ h => h) (Or.inl ⟨by kernel_rfl, ?h34⟩) (by assumption) ?r34
      case h34 => (intro w hSw; (try dsimp only at hSw); go_simp; try with_reducible rfl)
      try simp only [Act.put, List.setIfInBounds_toArray, List.set_cons_zero, List.set_cons_succ]
      refine wpAnyH_take (i := 1) (oi := { dst := some 20, op := Go.Op.move (Go.Operand.tmp 9), type := 3, pos := "zone.go:64", after := #[], guard := none }) (v := ?v35) rfl (by kernel_rfl) (by kernel_rfl) (by kernel_rfl) (fun _ _ _ h => h) (Or.inl ⟨by kernel_rfl, ?h35⟩) (by assumption) ?r35
      case h35 => (intro w hSw; (try dsimp only at hSw); go_simp; try with_reducible rfl)
      try simp only [Act.put, List.setIfInBounds_toArray, List.set_cons_zero, List.set_cons_succ]
      refine wpAnyH_take (i := 2) (oi := { dst := some 21, op := Go.Op.move (Go.Operand.tmp 2), type := 67, pos := "zone.go:64", after := #[], guard := none }) (v := ?v36) rfl (by kernel_rfl) (by kernel_rfl) (by kernel_rfl) (fun _ _ _ h => h) (Or.inl ⟨by kernel_rfl, ?h36⟩) (by assumption) ?r36
      case h36 => (intro w hSw; (try dsimp only at hSw); go_simp; try with_reducible rfl)
      try simp only [Act.put, List.setIfInBounds_toArray, List.set_cons_zero, List.set_cons_succ]
      refine wpAnyH_take (i := 3) (oi := { dst := some 22, op := Go.Op.fieldAddr 24 (Go.Operand.tmp 3) 1, type := 0, pos := "zone.go:64", after := #[], guard := none }) (v := ?v37) rfl (by kernel_rfl) (by kernel_rfl) (by kernel_rfl) (fun _ _ _ h => h) (Or.inl ⟨by kernel_rfl, ?h37⟩) (by assumption) ?r37
      case h37 => (intro w hSw; (try dsimp only at hSw); go_simp; try with_reducible rfl)
      try simp only [Act.put, List.setIfInBounds_toArray, List.set_cons_zero, List.set_cons_succ]
      refine wpAnyH_take (i := 4) (oi := { dst := some 23, op := Go.Op.load 22 (Go.Operand.tmp 22), type := 22, pos := "zone.go:64", after := #[{ on := 3, ground := Go.Ground.data }], guard := none }) (v := ?v38) rfl (by kernel_rfl) (by kernel_rfl) (by kernel_rfl) (fun _ _ _ h => h) (Or.inl ⟨by kernel_rfl, ?h38⟩) (by assumption) ?r38
      case h38 => (intro w hSw; (try dsimp only at hSw); go_simp; try with_reducible rfl)
      try simp only [Act.put, List.setIfInBounds_toArray, List.set_cons_zero, List.set_cons_succ]
      refine wpAnyH_take (i := 5) (oi := { dst := some 24, op := Go.Op.move (Go.Operand.tmp 9), type := 3, pos := "zone.go:64", after := #[], guard := none }) (v := ?v39) rfl (by kernel_rfl) (by kernel_rfl) (by kernel_rfl) (fun _ _ _ h => h) (Or.inl ⟨by kernel_rfl, ?h39⟩) (by assumption) ?r39
      case h39 => (intro w hSw; (try dsimp only at hSw); go_simp; try with_reducible rfl)
      try simp only [Act.put, List.setIfInBounds_toArray, List.set_cons_zero, List.set_cons_succ]
      refine wpAnyH_take (i := 6) (oi := { dst := some 25, op := Go.Op.indexAddr 22 (Go.Operand.tmp 23) (Go.Operand.tmp 24), type := 0, pos := "zone.go:64", after := #[{ on := 4, ground := Go.Ground.data }, { on := 5, ground := Go.Ground.data }], guard := none }) (v := ?v40) rfl (by kernel_rfl) (by kernel_rfl) (by kernel_rfl) (fun _ _ _ h => h) (Or.inl ⟨by kernel_rfl, ?h40⟩) (by assumption) ?r40
      case h40 => (intro w hSw; (try dsimp only at hSw); go_simp; try with_reducible rfl)
      try simp only [Act.put, List.setIfInBounds_toArray, List.set_cons_zero, List.set_cons_succ]
      refine wpAnyH_take (i := 7) (oi := { dst := some 26, op := Go.Op.load 3 (Go.Operand.tmp 25), type := 3, pos := "zone.go:64", after := #[{ on := 6, ground := Go.Ground.data }], guard := none }) (v := ?v41) rfl (by kernel_rfl) (by kernel_rfl) (by kernel_rfl) (fun _ _ _ h => h) (Or.inl ⟨by kernel_rfl, ?h41⟩) (by assumption) ?r41
      case h41 => (intro w hSw; (try dsimp only at hSw); go_simp; try with_reducible rfl)
      try simp only [Act.put, List.setIfInBounds_toArray, List.set_cons_zero, List.set_cons_succ]
      refine wpAnyH_take (i := 8) (oi := { dst := some 27, op := Go.Op.fieldAddr 24 (Go.Operand.tmp 4) 1, type := 0, pos := "zone.go:64", after := #[], guard := none }) (v := ?v42) rfl (by kernel_rfl) (by kernel_rfl) (by kernel_rfl) (fun _ _ _ h => h) (Or.inl ⟨by kernel_rfl, ?h42⟩) (by assumption) ?r42
      case h42 => (intro w hSw; (try dsimp only at hSw); go_simp; try with_reducible rfl)
      try simp only [Act.put, List.setIfInBounds_toArray, List.set_cons_zero, List.set_cons_succ]
      refine wpAnyH_take (i := 9) (oi := { dst := some 28, op := Go.Op.load 22 (Go.Operand.tmp 27), type := 22, pos := "zone.go:64", after := #[{ on := 8, ground := Go.Ground.data }], guard := none }) (v := ?v43) rfl (by kernel_rfl) (by kernel_rfl) (by kernel_rfl) (fun _ _ _ h => h) (Or.inl ⟨by kernel_rfl, ?h43⟩) (by assumption) ?r43
      case h43 => (intro w hSw; (try dsimp only at hSw); go_simp; try with_reducible rfl)
      try simp only [Act.put, List.setIfInBounds_toArray, List.set_cons_zero, List.set_cons_succ]
      refine wpAnyH_take (i := 10) (oi := { dst := some 29, op := Go.Op.move (Go.Operand.tmp 9), type := 3, pos := "zone.go:64", after := #[], guard := none }) (v := ?v44) rfl (by kernel_rfl) (by kernel_rfl) (by kernel_rfl) (fun _ _ _ h => h) (Or.inl ⟨by kernel_rfl, ?h44⟩) (by assumption) ?r44
      case h44 => (intro w hSw; (try dsimp only at hSw); go_simp; try with_reducible rfl)
      try simp only [Act.put, List.setIfInBounds_toArray, List.set_cons_zero, List.set_cons_succ]
      refine wpAnyH_take (i := 11) (oi := { dst := some 30, op := Go.Op.indexAddr 22 (Go.Operand.tmp 28) (Go.Operand.tmp 29), type := 0, pos := "zone.go:64", after := #[{ on := 9, ground := Go.Ground.data }, { on := 10, ground := Go.Ground.data }], guard := none }) (v := ?v45) rfl (by kernel_rfl) (by kernel_rfl) (by kernel_rfl) (fun _ _ _ h => h) (Or.inl ⟨by kernel_rfl, ?h45⟩) (by assumption) ?r45
      case h45 => (intro w hSw; (try dsimp only at hSw); go_simp; try with_reducible rfl)
      try simp only [Act.put, List.setIfInBounds_toArray, List.set_cons_zero, List.set_cons_succ]
      refine wpAnyH_take (i := 12) (oi := { dst := some 31, op := Go.Op.load 3 (Go.Operand.tmp 30), type := 3, pos := "zone.go:64", after := #[{ on := 11, ground := Go.Ground.data }], guard := none }) (v := ?v46) rfl (by kernel_rfl) (by kernel_rfl) (by kernel_rfl) (fun _ _ _ h => h) (Or.inl ⟨by kernel_rfl, ?h46⟩) (by assumption) ?r46
      case h46 => (intro w hSw; (try dsimp only at hSw); go_simp; try with_reducible rfl)
      try simp only [Act.put, List.setIfInBounds_toArray, List.set_cons_zero, List.set_cons_succ]
      refine wpAnyH_ready (rs := [13]) (by kernel_rfl) (by simp) ?_
      refine AllReadyH.cons (o := { dst := some 32, op := Go.Op.call { callee := Go.Callee.value (Go.Operand.tmp 21), args := #[Go.Operand.tmp 26, Go.Operand.tmp 31], argTypes := #[3, 3] }, type := 3, pos := "zone.go:64", after := #[{ on := 2, ground := Go.Ground.data }, { on := 7, ground := Go.Ground.data }, { on := 12, ground := Go.Ground.data }], guard := none }) rfl (fun K hK => ?_) AllReadyH.nil
      go_simp
      refine (hcall.out _).mono ?_
      rintro e w6 ⟨rfl, rfl⟩
      go_simp
      refine hK.out _ _ (hHeld) (fun hHeld => ?_)
      clear hK K
      try simp only [Act.put, List.setIfInBounds_toArray, List.set_cons_zero, List.set_cons_succ]
      refine wpAnyH_take (i := 14) (oi := { dst := some 33, op := Go.Op.indexAddr 22 (Go.Operand.tmp 19) (Go.Operand.tmp 20), type := 0, pos := "zone.go:64", after := #[{ on := 0, ground := Go.Ground.data }, { on := 1, ground := Go.Ground.data }, { on := 0, ground := Go.Ground.phase }, { on := 1, ground := Go.Ground.phase }, { on := 2, ground := Go.Ground.phase }, { on := 3, ground := Go.Ground.phase }, { on := 4, ground := Go.Ground.phase }, { on := 5, ground := Go.Ground.phase }, { on := 6, ground := Go.Ground.phase }, { on := 7, ground := Go.Ground.phase }, { on := 8, ground := Go.Ground.phase }, { on := 9, ground := Go.Ground.phase }, { on := 10, ground := Go.Ground.phase }, { on := 11, ground := Go.Ground.phase }, { on := 12, ground := Go.Ground.phase }, { on := 13, ground := Go.Ground.phase }], guard := none }) (v := ?v47) rfl (by kernel_rfl) (by kernel_rfl) (by kernel_rfl) (fun _ _ _ h => h) (Or.inl ⟨by kernel_rfl, ?h47⟩) (by assumption) ?r47
      case h47 => (intro w hSw; (try dsimp only at hSw); go_simp; try with_reducible rfl)
      try simp only [Act.put, List.setIfInBounds_toArray, List.set_cons_zero, List.set_cons_succ]
      refine wpAnyH_ready (rs := [15]) (by kernel_rfl) (by simp) ?_
      refine AllReadyH.cons (o := { dst := none, op := Go.Op.store 3 (Go.Operand.tmp 33) (Go.Operand.tmp 32), type := 0, pos := "zone.go:64", after := #[{ on := 14, ground := Go.Ground.data }, { on := 13, ground := Go.Ground.data }, { on := 13, ground := Go.Ground.chain }, { on := 0, ground := Go.Ground.phase }, { on := 1, ground := Go.Ground.phase }, { on := 2, ground := Go.Ground.phase }, { on := 3, ground := Go.Ground.phase }, { on := 4, ground := Go.Ground.phase }, { on := 5, ground := Go.Ground.phase }, { on := 6, ground := Go.Ground.phase }, { on := 7, ground := Go.Ground.phase }, { on := 8, ground := Go.Ground.phase }, { on := 9, ground := Go.Ground.phase }, { on := 10, ground := Go.Ground.phase }, { on := 11, ground := Go.Ground.phase }, { on := 12, ground := Go.Ground.phase }, { on := 13, ground := Go.Ground.phase }], guard := none }) rfl (fun K hK => ?_) AllReadyH.nil
      go_simp
      refine hK.out _ _ (hHeld.setIn (p := ⟨gm, k, none⟩) (by simp) _) (fun hHeld => ?_)
      clear hK K
      try simp only [Act.put, List.setIfInBounds_toArray, List.set_cons_zero, List.set_cons_succ]
      refine wpAnyH_done (by kernel_rfl) ?_ _
      go_wp2
      go_roundw
      case rel => exact ⟨k + 1, _, by omega, by go_num, hL2, hnx, hbx⟩
      case measure => simp [intOf]; omega
    · have hke : k = m2 := by omega
      have hLp : L = pw F l1 l2 := pw_ext (by have := hL.out.1; have := hl1'.out; have := hm1'.out; omega) (fun t ht => hL.out.2 t (by have := hl1'.out; have := hm1'.out; omega))
      have Za := Lib.hid (Z1'.out.belowE hb.out Z1'.out.lt hx0)
      have Zc := Lib.hid (Z3'.out.belowE hb.out Z3'.out.lt hx2)
      have hown2 := hown.out
      rw [hLp] at hown2
      obtain ⟨ga, gc, hv, -, ss⟩ := sees_own hown2
      injection hv with e1 e2 e3
      subst e1
      have hbB : Below w.heap.size w wr := hB'.out.trans ((b5'.out.mono hB'.out.size).trans (BelowE.none ((hb.out.mono (by have := hB'.out.size; have := b5'.out.size; omega)).less (by intro x hx hlt; have := hgm'.out; have := hs1'.out; simp at hx; omega))))
      have hcl := Lib.hid (dclose_ok n hn'.out (some ⟨gm, 0, none⟩) (pw F l1 l2) m2 m2 e2 hm1'.out wr ss)
      have hbB' := Lib.hid hbB
      have z0 := Za.out.cell 0
      have z1 := Za.out.cell 1
      clear hL hown hb hown2 e2 e3 ss hLp hbB
      generalize closedL n (pw F l1 l2) = R at *
      go_wp2_with fail
      refine hcl.out.mono ?_
      rintro e w7 ⟨a7, c7, rfl, hc7, s7, b7, nw7⟩
      have Zd := Zc.out.below b7 Zc.out.lt
      have y0 := Zd.cell 0
      have y1 := Zd.cell 1
      have f0 := Zd.free 0
      have f1 := Zd.free 1
      have hfin := Lib.hid (zone_put (n := n) (err := 0) hbB'.out (by omega) Zc.out hc7 s7 b7 nw7)
      clear Zd hcl
      go_wp2
      exact zone_ret2 hfin.out.1 hfin.out.2.1 _ _ 6 7 rfl rfl rfl rfl
end Go.Proofs.Ytacbkddkjlnklaa
