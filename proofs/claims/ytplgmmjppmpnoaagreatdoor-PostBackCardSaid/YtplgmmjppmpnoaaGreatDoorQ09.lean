import Derived.Test.YtplgmmjppmpnoaaGreatDoorQ08
/- Zones changed: what Close and clone hand back is the caller's own. -/
namespace Go.Proofs.YtplgmmjppmpnoaaGreatDoor
open Go.RowKit
set_option linter.unusedVariables false
set_option linter.unusedSimpArgs false

def ZoneO (n : Int) (l : List Int) (err : Int) (w : World) (e : Ending) (w' : World) : Prop :=
  ∃ a c, e = .returned (.tuple #[.agg #[.int .i64 n, .slice a l.length c], .int .i64 err]) ∧ w'.ownsRow w.heap.size 3 1 (.slice a l.length c) l.length (nums .i64 l) ∧ Below w.heap.size w w'
def ZoneOS (n : Int) (l : List Int) (w : World) (e : Ending) (w' : World) : Prop :=
  ∃ a c, e = .returned (.agg #[.int .i64 n, .slice a l.length c]) ∧ w'.ownsRow w.heap.size 3 1 (.slice a l.length c) l.length (nums .i64 l) ∧ Below w.heap.size w w'
theorem zone_endO {w W1 w3 : World} {g : Nat} {z0 z1 : Value} {R : List Int} {e : Ending} (hB : Below w.heap.size w W1) (hg : w.heap.size ≤ g) (hz : ZH W1 g z0 z1) (hm : Made 3 .i64 W1 R e w3) :
    ∃ a c, e = .returned (.slice a R.length c) ∧ ZH w3 g z0 z1 ∧ ∀ n err : Int, ZH ((w3.setCell ⟨g, 0, none⟩ (.int .i64 n)).setCell ⟨g, 1, none⟩ (.slice a R.length c)) g (.int .i64 n) (.slice a R.length c) ∧
      ZoneO n R err w (.returned (.tuple #[.agg #[.int .i64 n, .slice a R.length c], .int .i64 err])) ((w3.setCell ⟨g, 0, none⟩ (.int .i64 n)).setCell ⟨g, 1, none⟩ (.slice a R.length c)) ∧
      ZoneOS n R w (.returned (.agg #[.int .i64 n, .slice a R.length c])) ((w3.setCell ⟨g, 0, none⟩ (.int .i64 n)).setCell ⟨g, 1, none⟩ (.slice a R.length c)) := by
  obtain ⟨v, rfl, hown, hb⟩ := hm
  have hlt := hz.lt
  obtain ⟨a, c, rfl, -, -⟩ := sees_own hown
  have hz3 := hz.below hb hlt
  refine ⟨a, c, rfl, hz3, fun n err => ?_⟩
  have hE : BelowE [g] w3.heap.size w3 ((w3.setCell ⟨g, 0, none⟩ (.int .i64 n)).setCell ⟨g, 1, none⟩ (.slice a R.length c)) := ((BelowE.refl _ _ _).setIn (p := ⟨g, 0, none⟩) (by simp) _).setIn (p := ⟨g, 1, none⟩) (by simp) _
  have hown2 := own_belowE hown hE (fun k hk => by
    have := (hown.lt k hk).1
    simp only [List.mem_singleton]
    omega)
  have hown3 := own_from (B := w.heap.size) hown2 (fun k hk => by have := (hown.lt k hk).1; have := hB.size; omega)
  have hbb : Below w.heap.size w ((w3.setCell ⟨g, 0, none⟩ (.int .i64 n)).setCell ⟨g, 1, none⟩ (.slice a R.length c)) := ((hB.trans (hb.mono hB.size)).setCell (p := ⟨g, 0, none⟩) hg _).setCell (p := ⟨g, 1, none⟩) hg _
  exact ⟨zh_set hz3 _ _, ⟨a, c, rfl, hown3, hbb⟩, ⟨a, c, rfl, hown3, hbb⟩⟩
theorem dclose_own (n : Nat) (hn : n ≤ 8) (a : Option Addr) (M : List Int) (len c : Nat) (hM : len = M.length) (hl : len = sz n) (w : World) (h : Sees .i64 w.heap.size w a M) :
    Calls Tryz.prog 70 #[.int .i64 n, .slice a len c] w (ZoneO n (closedL n M) 0 w) := by
  obtain ⟨W1, hW1⟩ : ∃ W1, W1 = w.alloc (.cells #[.int .i64 0, .slice none 0 0] 24) := ⟨_, rfl⟩
  have hB : Below w.heap.size w W1 := by rw [hW1]; exact (Below.refl _ _).alloc (Nat.le_refl _) _
  have hz : ZH W1 w.heap.size (.int .i64 0) (.slice none 0 0) := by rw [hW1]; exact Holds.new w _ _
  have hmay := Lib.hid (fun W => may_any n W)
  have hsize := Lib.hid (fun W => size_any n hn W)
  have hcl := Lib.hid (closed_any n hn a M len c hM hl W1 ((h.below hB).mono hB.size))
  rw [mayB_nat hn] at hmay
  have hle : ((sz n : Nat) : Int) = (len : Int) := by rw [hl]
  rw [hle] at hsize
  have hB' := Lib.hid hB
  have hz' := Lib.hid hz
  have hW1' := Lib.hid hW1
  clear hW1 hB hz hle h hM hl
  generalize closedL n M = R at *
  go_enter Tryz.func70, Tryz.ntmps70
  go_wp2_with fail
  refine (hmay.out _).mono ?_
  rintro e w2 ⟨rfl, rfl⟩
  go_wp2_with fail
  refine (hsize.out _).mono ?_
  rintro e w2 ⟨rfl, rfl⟩
  go_wp2_with fail
  rw [← hW1'.out]
  refine hcl.out.mono ?_
  intro e w3 hm
  obtain ⟨a3, c3, rfl, hz3, hall⟩ := zone_endO hB'.out (Nat.le_refl _) hz'.out hm
  have hfin := Lib.hid (hall n 0)
  have k0 := hz3.cell 0
  have k1 := hz3.cell 1
  have f0 := hz3.free 0
  have f1 := hz3.free 1
  clear hz3 hm hall
  go_wp2
  exact zone_ret2 hfin.out.1 hfin.out.2.1 _ _ 4 5 rfl rfl rfl rfl
set_option maxRecDepth 100000 in
set_option maxHeartbeats 1000000 in
theorem zclone_own (n : Int) (a : Option Addr) (m c : Nat) (l : List Int) (hm : m ≤ 1000) (w : World) (h : SL w a m c l) :
    Calls Tryz.prog 57 #[.agg #[.int .i64 n, .slice a m c]] w (ZoneOS n l w) := by
  obtain ⟨W1, hW1⟩ : ∃ W1, W1 = (w.alloc (.cells #[.int .i64 n, .slice a m c] 24)).alloc (.cells #[.int .i64 0, .slice none 0 0] 24) := ⟨_, rfl⟩
  have hB : Below w.heap.size w W1 := by rw [hW1]; exact box2_below _ _ _ _ _
  have Z1 : ZH W1 w.heap.size (.int .i64 n) (.slice a m c) := by rw [hW1]; exact (Holds.new w _ _).alloc _
  have Z2 : ZH W1 (w.heap.size + 1) (.int .i64 0) (.slice none 0 0) := by
    rw [hW1]
    have := Holds.new (w.alloc (.cells #[.int .i64 n, .slice a m c] 24)) 24 #[.int .i64 0, .slice none 0 0]
    simpa using this
  have hcl := Lib.hid (fun W (hs : Sees .i64 W.heap.size W a l) => iclone_any a l m c h.len (by have := h.len; omega) W hs)
  have hs1 := Lib.hid ((h.below hB).below (below_drew (Below.refl W1.heap.size W1))).sees
  have hc0 : ∀ W, BelowE [w.heap.size + 1] W1.heap.size W1 W → W.cell? ⟨w.heap.size, 0, none⟩ = some (.int .i64 n) := fun W hW => (Z1.belowE hW Z1.lt (by simp)).cell 0
  have hc1 : ∀ W, BelowE [w.heap.size + 1] W1.heap.size W1 W → W.cell? ⟨w.heap.size, 1, none⟩ = some (.slice a m c) := fun W hW => (Z1.belowE hW Z1.lt (by simp)).cell 1
  have hW1' := Lib.hid hW1
  have hB' := Lib.hid hB
  have Z2' := Lib.hid Z2
  clear hW1 hB Z1 Z2 h
  go_enter Tryz.func57, Tryz.ntmps57
  go_wp2
  rw [← hW1'.out]
  clear hW1'
  refine wp_drawn_on (fun W => BelowE [w.heap.size + 1] W1.heap.size W1 W) (by kernel_rfl) ((BelowE.refl _ _ _).drew) (fun hHeld => ?_)
  refine wpAnyH_take (i := 0) (oi := { dst := some 3, op := Go.Op.fieldAddr 24 (Go.Operand.tmp 1) 0, type := 0, pos := "zone.go:31", after := #[], guard := none }) (v := ?v1) rfl (by kernel_rfl) (by kernel_rfl) (by kernel_rfl) (fun _ _ _ h => h) (Or.inl ⟨by kernel_rfl, ?h1⟩) (by assumption) ?r1
  case h1 => (intro w hSw; (try dsimp only at hSw); go_simp; try with_reducible rfl)
  try simp only [Act.put, List.setIfInBounds_toArray, List.set_cons_zero, List.set_cons_succ]
  refine wpAnyH_take (i := 1) (oi := { dst := some 4, op := Go.Op.load 3 (Go.Operand.tmp 3), type := 3, pos := "zone.go:31", after := #[{ on := 0, ground := Go.Ground.data }], guard := none }) (v := ?v2) rfl (by kernel_rfl) (by kernel_rfl) (by kernel_rfl) (fun _ _ _ h => h) (Or.inl ⟨by kernel_rfl, ?h2⟩) (by assumption) ?r2
  case h2 => (intro w hSw; (try dsimp only at hSw); go_simp; try with_reducible rfl)
  try simp only [Act.put, List.setIfInBounds_toArray, List.set_cons_zero, List.set_cons_succ]
  refine wpAnyH_take (i := 2) (oi := { dst := some 5, op := Go.Op.fieldAddr 24 (Go.Operand.tmp 1) 1, type := 0, pos := "zone.go:31", after := #[], guard := none }) (v := ?v3) rfl (by kernel_rfl) (by kernel_rfl) (by kernel_rfl) (fun _ _ _ h => h) (Or.inl ⟨by kernel_rfl, ?h3⟩) (by assumption) ?r3
  case h3 => (intro w hSw; (try dsimp only at hSw); go_simp; try with_reducible rfl)
  try simp only [Act.put, List.setIfInBounds_toArray, List.set_cons_zero, List.set_cons_succ]
  refine wpAnyH_take (i := 3) (oi := { dst := some 6, op := Go.Op.load 22 (Go.Operand.tmp 5), type := 22, pos := "zone.go:31", after := #[{ on := 2, ground := Go.Ground.data }], guard := none }) (v := ?v4) rfl (by kernel_rfl) (by kernel_rfl) (by kernel_rfl) (fun _ _ _ h => h) (Or.inl ⟨by kernel_rfl, ?h4⟩) (by assumption) ?r4
  case h4 => (intro w hSw; (try dsimp only at hSw); go_simp; try with_reducible rfl)
  try simp only [Act.put, List.setIfInBounds_toArray, List.set_cons_zero, List.set_cons_succ]
  refine wpAnyH_ready (rs := [4]) (by kernel_rfl) (by simp) ?_
  refine AllReadyH.cons (o := { dst := some 7, op := Go.Op.call { callee := Go.Callee.value (Go.Operand.func 66), args := #[Go.Operand.tmp 6], argTypes := #[22] }, type := 22, pos := "zone.go:31", after := #[{ on := 3, ground := Go.Ground.data }], guard := none }) rfl (fun K hK => ?_) AllReadyH.nil
  go_simp
  refine (hcl.out _ hs1.out).mono ?_
  intro e w3 hmd
  have b3 : Below W1.heap.size W1.drew w3 := by obtain ⟨v3, -, -, b3⟩ := hmd; exact b3
  obtain ⟨a3, c3, rfl, hz3, hall⟩ := zone_endO (hB'.out.trans ((below_drew (Below.refl _ _)).mono hB'.out.size)) (g := w.heap.size + 1) (by omega) (Z2'.out.below (below_drew (Below.refl _ _)) Z2'.out.lt) hmd
  have hfin := Lib.hid (hall n 0)
  have j0 := hz3.cell 0
  have j1 := hz3.cell 1
  have f0 := hz3.free 0
  have f1 := hz3.free 1
  clear hmd hall
  go_simp
  refine hK.out _ _ (hHeld.trans (BelowE.of b3)) (fun hHeld => ?_)
  clear hK K
  try simp only [Act.put, List.setIfInBounds_toArray, List.set_cons_zero, List.set_cons_succ]
  refine wpAnyH_take (i := 5) (oi := { dst := some 8, op := Go.Op.build 24 #[(0, Go.Operand.tmp 4), (1, Go.Operand.tmp 7)], type := 24, pos := "zone.go:31", after := #[{ on := 1, ground := Go.Ground.data }, { on := 4, ground := Go.Ground.data }], guard := none }) (v := ?v5) rfl (by kernel_rfl) (by kernel_rfl) (by kernel_rfl) (fun _ _ _ h => h) (Or.inl ⟨by kernel_rfl, ?h5⟩) (by assumption) ?r5
  case h5 => (intro w hSw; (try dsimp only at hSw); go_simp; try with_reducible rfl)
  try simp only [Act.put, List.setIfInBounds_toArray, List.set_cons_zero, List.set_cons_succ]
  refine wpAnyH_ready (rs := [6]) (by kernel_rfl) (by simp) ?_
  refine AllReadyH.cons (o := { dst := none, op := Go.Op.store 24 (Go.Operand.tmp 2) (Go.Operand.tmp 8), type := 0, pos := "zone.go:31", after := #[{ on := 5, ground := Go.Ground.data }, { on := 4, ground := Go.Ground.chain }, { on := 0, ground := Go.Ground.phase }, { on := 1, ground := Go.Ground.phase }, { on := 2, ground := Go.Ground.phase }, { on := 3, ground := Go.Ground.phase }, { on := 4, ground := Go.Ground.phase }, { on := 5, ground := Go.Ground.phase }], guard := none }) rfl (fun K hK => ?_) AllReadyH.nil
  go_simp
  refine hK.out _ _ (((hHeld.setIn (p := ⟨w.heap.size + 1, 0, none⟩) (by simp) _).setIn (p := ⟨w.heap.size + 1, 1, none⟩) (by simp) _)) (fun hHeld => ?_)
  clear hK K
  try simp only [Act.put, List.setIfInBounds_toArray, List.set_cons_zero, List.set_cons_succ]
  refine wpAnyH_done (by kernel_rfl) ?_ _
  go_wp2
  exact zone_ret hfin.out.1 hfin.out.2.2 _ _ 2 rfl rfl rfl

end Go.Proofs.YtplgmmjppmpnoaaGreatDoor
/- Zones changed: change. (Written by gen-zone-change.py.) -/
namespace Go.Proofs.YtplgmmjppmpnoaaGreatDoor
open Go.RowKit
set_option linter.unusedVariables false
set_option linter.unusedSimpArgs false

/-- What change has in hand: the zone, the numbers, the answer's block. -/
structure Cg (w W : World) (B n : Nat) (x y : Value) (i j c : Int) : Prop where
  bl : Below w.heap.size w W
  sz : B ≤ W.heap.size
  zb : ZH W w.heap.size x y
  wb : Holds W (w.heap.size + 1) 92 #[.int .i64 i, .int .i64 j, .int .i64 c]
  rb : ZH W (w.heap.size + 1 + 1) (.int .i64 0) (.slice none 0 0)
theorem Cg.on {w W W' : World} {B n : Nat} {x y : Value} {i j c : Int} (h : Cg w W B n x y i j c) (hb : Below W.heap.size W W') : Cg w W' B n x y i j c := ⟨h.bl.trans (hb.mono h.bl.size), Nat.le_trans h.sz hb.size, h.zb.below hb h.zb.lt, h.wb.below hb h.wb.lt, h.rb.below hb h.rb.lt⟩
theorem Cg.onE {w W W' : World} {B n g : Nat} {x y : Value} {i j c : Int} (h : Cg w W B n x y i j c) (hB : w.heap.size + 3 ≤ B) (hg : B ≤ g) (hb : BelowE [g] W.heap.size W W') : Cg w W' B n x y i j c :=
  ⟨h.bl.trans (BelowE.none ((hb.mono h.bl.size).less (by intro x hx hlt; simp at hx; omega))), Nat.le_trans h.sz hb.size, h.zb.belowE hb h.zb.lt (by simp; omega), h.wb.belowE hb h.wb.lt (by simp; omega), h.rb.belowE hb h.rb.lt (by simp; omega)⟩
theorem Cg.set {w W : World} {B n : Nat} {x y : Value} {i j c : Int} (h : Cg w W B n x y i j c) (u v : Value) : Cg w ((W.setCell ⟨w.heap.size, 0, none⟩ u).setCell ⟨w.heap.size, 1, none⟩ v) B n u v i j c :=
  ⟨(h.bl.setCell (p := ⟨w.heap.size, 0, none⟩) (Nat.le_refl _) _).setCell (p := ⟨w.heap.size, 1, none⟩) (Nat.le_refl _) _, by simpa using h.sz, zh_set h.zb _ _, (h.wb.far (p := ⟨w.heap.size, 0, none⟩) (by simp) _).far (p := ⟨w.heap.size, 1, none⟩) (by simp) _, (h.rb.far (p := ⟨w.heap.size, 0, none⟩) (by simp; omega) _).far (p := ⟨w.heap.size, 1, none⟩) (by simp; omega) _⟩
theorem own_set {w : World} {base g : Nat} {e : TypeId} {m n c : Nat} {a : Option Addr} {xs : List Value} (h : w.ownsRow base e 1 (.slice a m c) n xs) (hg : g < base) (u v : Value) : ((w.setCell ⟨g, 0, none⟩ u).setCell ⟨g, 1, none⟩ v).ownsRow base e 1 (.slice a m c) n xs := by
  have hE : BelowE [g] w.heap.size w ((w.setCell ⟨g, 0, none⟩ u).setCell ⟨g, 1, none⟩ v) := ((BelowE.refl _ _ _).setIn (p := ⟨g, 0, none⟩) (by simp) _).setIn (p := ⟨g, 1, none⟩) (by simp) _
  exact own_belowE h hE (fun k hk => by have := (h.lt k hk).1; simp only [List.mem_singleton]; omega)
/-- One step, and what is closed of it. -/
def stepL (n : Nat) (f : List Int → List Int) (l : List Int) : List Int := if l = [] then [] else closedL n (f l)
theorem stepL_small (n : Nat) (hn : n ≤ 8) (f : List Int → List Int) (l : List Int) : (stepL n f l).length ≤ 81 := by
  unfold stepL
  split
  · simp
  · exact closed_small hn _
theorem stepL_isz {n : Nat} (hn : n ≤ 8) (f : List Int → List Int) (l : List Int) : IsZ n (stepL n f l) := by
  refine ⟨hn, ?_⟩
  unfold stepL
  split
  · exact .inl rfl
  · by_cases h : closedL n (f l) = []
    · exact .inl h
    · exact .inr (closed_full hn h)
set_option maxRecDepth 100000 in
set_option maxHeartbeats 4000000 in
theorem change_lim (n : Nat) (hn : n ≤ 8) (l : List Int) (hz : IsZ n l) (a : Option Addr) (m ca : Nat) (i j c : Int) (hs0 : ∀ (L : List Int) (g cap base : Nat) (W : World), Full n L → L.length = sz n → W.ownsRow base 3 1 (.slice (some ⟨g, 0, none⟩) (sz n) cap) (sz n) (nums .i64 L) → Calls Tryz.prog 93 #[.agg #[.int .i64 n, .slice (some ⟨g, 0, none⟩) (sz n) cap], .agg #[.int .i64 i, .int .i64 j, .int .i64 c]] W (MatS (sz n) g cap base (limL n L i.toNat j.toNat c) W)) (w : World) (h : SL w a m ca l) (gs : Nat) (hgs : gs < w.heap.size) (hcs : ∀ W, Below w.heap.size w W → W.cell? ⟨gs, 0, none⟩ = some (.func (.func 93) #[] #[])) :
    Calls Tryz.prog 89 #[.agg #[.int .i64 n, .slice a m ca], .agg #[.int .i64 i, .int .i64 j, .int .i64 c], .slice (some ⟨gs, 0, none⟩) 1 1] w (ZoneE n (stepL n (fun l => limL n l i.toNat j.toNat c) l) 0 w) := by
  obtain ⟨W1, hW1⟩ : ∃ W1, W1 = ((w.alloc (.cells #[.int .i64 n, .slice a m ca] 24)).alloc (.cells #[.int .i64 i, .int .i64 j, .int .i64 c] 92)).alloc (.cells #[.int .i64 0, .slice none 0 0] 24) := ⟨_, rfl⟩
  have hsz1 : W1.heap.size = w.heap.size + 3 := by rw [hW1]; simp
  have X1 : Cg w W1 (w.heap.size + 3) n (.int .i64 n) (.slice a m ca) i j c := by
    rw [hW1]
    refine ⟨(box2_below _ _ _ _ _).alloc (by simp; omega) _, by simp, ((Holds.new w _ _).alloc _).alloc _, ?_, ?_⟩
    · have := (Holds.new (w.alloc (.cells #[.int .i64 n, .slice a m ca] 24)) 92 #[.int .i64 i, .int .i64 j, .int .i64 c]).alloc (.cells #[.int .i64 0, .slice none 0 0] 24)
      simpa using this
    · have := Holds.new ((w.alloc (.cells #[.int .i64 n, .slice a m ca] 24)).alloc (.cells #[.int .i64 i, .int .i64 j, .int .i64 c] 92)) 24 #[.int .i64 0, .slice none 0 0]
      simpa using this
  have hsm := hz.small
  have q1 := Lib.hid (zclone_own n a m ca l (by have := h.len; omega) W1 (h.below X1.bl))
  have hcl := Lib.hid (fun (L : List Int) (W : World) (g cap : Nat) (hL : L.length = sz n) (hs : Sees .i64 W.heap.size W (some ⟨g, 0, none⟩) L) => dclose_own n hn (some ⟨g, 0, none⟩) L (sz n) cap hL.symm rfl W hs)
  have hem := Lib.hid (fun (L : List Int) (W : World) (b : Option Addr) (cb : Nat) (hs : SL W b L.length cb L) => zempty_any n b L.length cb L W hs)
  have hW1' := Lib.hid hW1
  have X1' := Lib.hid X1
  have hn' := Lib.hid hn
  have hgs' := Lib.hid hgs
  have hcs' := Lib.hid hcs
  have hz' := Lib.hid hz
  have hsz1' := Lib.hid hsz1
  have hfinal : Hid (∀ (L : List Int) (W : World) (b : Option Addr) (cb : Nat), Cg w W (w.heap.size + 3) n (.int .i64 n) (.slice b L.length cb) i j c → W.ownsRow (w.heap.size + 3) 3 1 (.slice b L.length cb) L.length (nums .i64 L) →
      ZH ((W.setCell ⟨w.heap.size + 1 + 1, 0, none⟩ (.int .i64 n)).setCell ⟨w.heap.size + 1 + 1, 1, none⟩ (.slice b L.length cb)) (w.heap.size + 1 + 1) (.int .i64 n) (.slice b L.length cb) ∧ ZoneE n L 0 w (.returned (.tuple #[.agg #[.int .i64 n, .slice b L.length cb], .int .i64 0])) ((W.setCell ⟨w.heap.size + 1 + 1, 0, none⟩ (.int .i64 n)).setCell ⟨w.heap.size + 1 + 1, 1, none⟩ (.slice b L.length cb))) := Lib.hid (fun L W b cb hC hO => by
    have hO2 := own_set hO (g := w.heap.size + 1 + 1) (by omega) (.int .i64 n) (.slice b L.length cb)
    obtain ⟨b2, c2, hv, -, ss⟩ := sees_own hO2
    injection hv with e1 _ e3
    subst e1 e3
    exact ⟨zh_set hC.rb _ _, b, cb, rfl, own_cap hO, ss, (hC.bl.setCell (p := ⟨w.heap.size + 1 + 1, 0, none⟩) (by show _ ≤ _ + 1 + 1; omega) _).setCell (p := ⟨w.heap.size + 1 + 1, 1, none⟩) (by show _ ≤ _ + 1 + 1; omega) _, New.own hO (by omega)⟩)
  have hs0' := Lib.hid hs0
  obtain ⟨Q, hQ⟩ : ∃ Q : Nat → List Int, Q 0 = l ∧ Q 1 = (stepL n (fun l => limL n l i.toNat j.toNat c) l) := ⟨fun k => match k with | 0 => l | _ => (stepL n (fun l => limL n l i.toNat j.toNat c) l), rfl, rfl⟩
  have hQ0 : Hid (Q 0 = l) := Lib.hid hQ.1
  have hQ1 : Hid (Q 1 = if Q 0 = [] then [] else closedL n (limL n (Q 0) i.toNat j.toNat c)) := Lib.hid (by rw [hQ.2, hQ.1]; rfl)
  have hZ : Hid (∀ k, k ≤ 1 → IsZ n (Q k)) := Lib.hid (fun k hk => by
    match k, hk with
    | 0, _ => rw [hQ.1]; exact hz
    | 1, _ => rw [hQ.2]; exact stepL_isz hn _ _
    | k + 2, hk => omega)
  have hres : Hid ((stepL n (fun l => limL n l i.toNat j.toNat c) l) = Q 1) := Lib.hid hQ.2.symm
  rw [hres.out]
  clear hW1 X1 h hgs hcs hz hsz1 hn hQ hs0 hres
  go_enter Tryz.func89, Tryz.ntmps89
  go_wp2_with fail
  rw [← hW1'.out]
  refine q1.out.mono ?_
  rintro e w2 ⟨a2, c2, rfl, o2, b2⟩
  have C2 := X1'.out.on b2
  have z0 := C2.zb.cell 0
  have z1 := C2.zb.cell 1
  have f0 := C2.zb.free 0
  have f1 := C2.zb.free 1
  have C3 := Lib.hid (C2.set (.int .i64 n) (.slice a2 l.length c2))
  have O3 := Lib.hid (own_set (own_from (B := w.heap.size + 3) o2 (fun k hk => by have := (o2.lt k hk).1; have := hsz1'.out; omega)) (g := w.heap.size) (by omega) (.int .i64 n) (.slice a2 l.length c2))
  rw [← hQ0.out] at C3 O3
  rw [← hQ0.out]
  clear C2 o2 b2 q1
  generalize hG : ((w2.setCell ⟨w.heap.size, 0, none⟩ (.int .i64 n)).setCell ⟨w.heap.size, 1, none⟩ (.slice a2 (Q 0).length c2)) = w3 at C3 O3
  have hG' := Lib.hid hG
  clear hG
  go_wp2
  rw [hG'.out]
  clear z0 z1 f0 f1 hG'
  go_loopw [14] (fun x wr => ∃ (k : Nat) (b : Option Addr) (cb : Nat), k ≤ 1 ∧ x = .int .i64 k ∧ Hid (Cg w wr (w.heap.size + 3) n (.int .i64 n) (.slice b (Q k).length cb) i j c) ∧ Hid (wr.ownsRow (w.heap.size + 3) 3 1 (.slice b (Q k).length cb) (Q k).length (nums .i64 (Q k)))) (fun x _ => 1 - (intOf x).toNat)
  case atStart => exact ⟨0, a2, c2, by omega, rfl, C3, O3⟩
  case round =>
    clear C3 O3
    obtain ⟨k, b, cb, hk, rfl, hC, hO⟩ := hrel
    by_cases hlt : k < 1
    · have hki : (k : Int) < 1 := by omega
      obtain rfl : k = 0 := by omega
      have hcell := (hcs'.out wr hC.out.bl)
      obtain ⟨b', cb', hv, -, ss⟩ := sees_own hO.out
      injection hv with e1 _ e3
      subst e1 e3
      have hcap := own_cap hO.out
      have hsmk := (hZ.out 0 (by omega)).small
      have S : Hid (SL wr b (Q 0).length cb (Q 0)) := Lib.hid ⟨rfl, hcap, by omega, ss⟩
      have z0 := hC.out.zb.cell 0
      have z1 := hC.out.zb.cell 1
      have p1 := Lib.hid (hem.out (Q 0) wr b cb S.out)
      clear ss hcap
      by_cases hnil : Q 0 = []
      · have hend : Hid (Q 1 = Q 0) := Lib.hid (by rw [hQ1.out, if_pos hnil, hnil])
        rw [decide_eq_true hnil] at p1
        clear hnil
        go_wp2_with fail
        refine p1.out.mono ?_
        rintro e w5 ⟨rfl, b5⟩
        have C5 := hC.out.on b5
        have O5 := own_below hO.out b5
        have y0 := C5.zb.cell 0
        have y1 := C5.zb.cell 1
        have r0 := C5.rb.cell 0
        have r1 := C5.rb.cell 1
        have g0 := C5.rb.free 0
        have g1 := C5.rb.free 1
        have hfin := Lib.hid (hfinal.out _ _ _ _ C5 O5)
        clear C5 O5 b5 p1 z0 z1
        go_wp2
        rw [hend.out]
        exact zone_ret2 hfin.out.1 hfin.out.2 _ _ 6 7 rfl rfl rfl rfl
      · have hF := ((hZ.out 0 (by omega)).2).resolve_left hnil
        rw [decide_eq_false hnil] at p1
        have hlk := hF.len
        obtain ⟨g, cap, hv, hg⟩ := own_some hO.out (by rw [hlk]; exact sz_pos n)
        injection hv with e1 _ e3
        subst e1 e3
        have hnx : Hid (closedL n (limL n (Q 0) i.toNat j.toNat c) = Q 1) := Lib.hid (by rw [hQ1.out, if_neg hnil])
        rw [hlk] at p1 z1 S hO hC
        try rw [hlk]
        have hst := Lib.hid (fun W hW => hs0'.out (Q 0) g cb (w.heap.size + 3) W hF hlk hW)
        have hflen : Hid ((limL n (Q 0) i.toNat j.toNat c).length = sz n) := Lib.hid (by unfold limL; rw [List.length_set]; exact hlk)
        have hcl2 := Lib.hid (fun W cap hs => hcl.out (limL n (Q 0) i.toNat j.toNat c) W g cap hflen.out hs)
        rw [hnx.out] at hcl2
        go_wp2_with fail
        refine p1.out.mono ?_
        rintro e w5 ⟨rfl, b5⟩
        have C5 := Lib.hid (hC.out.on b5)
        have O5 := Lib.hid (own_below hO.out b5)
        clear b5 p1 z0 z1 hcell
        have z0 := C5.out.zb.cell 0
        have z1 := C5.out.zb.cell 1
        have w0 := C5.out.wb.cell 0
        have w1 := C5.out.wb.cell 1
        have w2' := C5.out.wb.cell 2
        have p5 := Lib.hid (hst.out w5 O5.out)
        go_wp2_with fail
        refine p5.out.mono ?_
        rintro e w6 ⟨rfl, o6, b6⟩
        have C6 := Lib.hid (C5.out.onE (by omega) hg b6)
        obtain ⟨b7, c7, hv7, -, ss⟩ := sees_own o6
        have hlen6 := hflen.out
        rw [hlen6] at hv7
        injection hv7 with e1 _ e3
        subst e1 e3
        clear z0 z1 w0 w1 w2' b6 p5
        have z0 := C6.out.zb.cell 0
        have z1 := C6.out.zb.cell 1
        have p6 := Lib.hid (hcl2.out w6 cb ss)
        go_wp2_with fail
        refine p6.out.mono ?_
        rintro e w8 ⟨a8, c8, rfl, o8, b8⟩
        have C8 := C6.out.on b8
        have y0 := C8.zb.cell 0
        have y1 := C8.zb.cell 1
        have f0 := C8.zb.free 0
        have f1 := C8.zb.free 1
        have C9 := Lib.hid (C8.set (.int .i64 n) (.slice a8 (Q 1).length c8))
        have O9 := Lib.hid (own_set (own_from (B := w.heap.size + 3) o8 (fun kk hk => by have := (o8.lt kk hk).1; have := C6.out.sz; omega)) (g := w.heap.size) (by omega) (.int .i64 n) (.slice a8 (Q 1).length c8))
        clear C8 o8 b8 p6 z0 z1
        go_wp2
        go_roundw
        case rel => exact ⟨1, a8, c8, by omega, by go_num, C9, O9⟩
        case measure => simp [intOf]
    · have hke : k = 1 := by omega
      subst hke
      have y0 := hC.out.zb.cell 0
      have y1 := hC.out.zb.cell 1
      have r0 := hC.out.rb.cell 0
      have r1 := hC.out.rb.cell 1
      have g0 := hC.out.rb.free 0
      have g1 := hC.out.rb.free 1
      have hfin := Lib.hid (hfinal.out _ _ _ _ hC.out hO.out)
      go_wp2
      exact zone_ret2 hfin.out.1 hfin.out.2 _ _ 6 7 rfl rfl rfl rfl
set_option maxRecDepth 100000 in
set_option maxHeartbeats 4000000 in
theorem change_for (n : Nat) (hn : n ≤ 8) (l : List Int) (hz : IsZ n l) (a : Option Addr) (m ca : Nat) (i j c : Int) (hs0 : ∀ (L : List Int) (g cap base : Nat) (W : World), Full n L → L.length = sz n → W.ownsRow base 3 1 (.slice (some ⟨g, 0, none⟩) (sz n) cap) (sz n) (nums .i64 L) → Calls Tryz.prog 91 #[.agg #[.int .i64 n, .slice (some ⟨g, 0, none⟩) (sz n) cap], .agg #[.int .i64 i, .int .i64 j, .int .i64 c]] W (MatS (sz n) g cap base (forL n L i.toNat) W)) (w : World) (h : SL w a m ca l) (gs : Nat) (hgs : gs < w.heap.size) (hcs : ∀ W, Below w.heap.size w W → W.cell? ⟨gs, 0, none⟩ = some (.func (.func 91) #[] #[])) :
    Calls Tryz.prog 89 #[.agg #[.int .i64 n, .slice a m ca], .agg #[.int .i64 i, .int .i64 j, .int .i64 c], .slice (some ⟨gs, 0, none⟩) 1 1] w (ZoneE n (stepL n (fun l => forL n l i.toNat) l) 0 w) := by
  obtain ⟨W1, hW1⟩ : ∃ W1, W1 = ((w.alloc (.cells #[.int .i64 n, .slice a m ca] 24)).alloc (.cells #[.int .i64 i, .int .i64 j, .int .i64 c] 92)).alloc (.cells #[.int .i64 0, .slice none 0 0] 24) := ⟨_, rfl⟩
  have hsz1 : W1.heap.size = w.heap.size + 3 := by rw [hW1]; simp
  have X1 : Cg w W1 (w.heap.size + 3) n (.int .i64 n) (.slice a m ca) i j c := by
    rw [hW1]
    refine ⟨(box2_below _ _ _ _ _).alloc (by simp; omega) _, by simp, ((Holds.new w _ _).alloc _).alloc _, ?_, ?_⟩
    · have := (Holds.new (w.alloc (.cells #[.int .i64 n, .slice a m ca] 24)) 92 #[.int .i64 i, .int .i64 j, .int .i64 c]).alloc (.cells #[.int .i64 0, .slice none 0 0] 24)
      simpa using this
    · have := Holds.new ((w.alloc (.cells #[.int .i64 n, .slice a m ca] 24)).alloc (.cells #[.int .i64 i, .int .i64 j, .int .i64 c] 92)) 24 #[.int .i64 0, .slice none 0 0]
      simpa using this
  have hsm := hz.small
  have q1 := Lib.hid (zclone_own n a m ca l (by have := h.len; omega) W1 (h.below X1.bl))
  have hcl := Lib.hid (fun (L : List Int) (W : World) (g cap : Nat) (hL : L.length = sz n) (hs : Sees .i64 W.heap.size W (some ⟨g, 0, none⟩) L) => dclose_own n hn (some ⟨g, 0, none⟩) L (sz n) cap hL.symm rfl W hs)
  have hem := Lib.hid (fun (L : List Int) (W : World) (b : Option Addr) (cb : Nat) (hs : SL W b L.length cb L) => zempty_any n b L.length cb L W hs)
  have hW1' := Lib.hid hW1
  have X1' := Lib.hid X1
  have hn' := Lib.hid hn
  have hgs' := Lib.hid hgs
  have hcs' := Lib.hid hcs
  have hz' := Lib.hid hz
  have hsz1' := Lib.hid hsz1
  have hfinal : Hid (∀ (L : List Int) (W : World) (b : Option Addr) (cb : Nat), Cg w W (w.heap.size + 3) n (.int .i64 n) (.slice b L.length cb) i j c → W.ownsRow (w.heap.size + 3) 3 1 (.slice b L.length cb) L.length (nums .i64 L) →
      ZH ((W.setCell ⟨w.heap.size + 1 + 1, 0, none⟩ (.int .i64 n)).setCell ⟨w.heap.size + 1 + 1, 1, none⟩ (.slice b L.length cb)) (w.heap.size + 1 + 1) (.int .i64 n) (.slice b L.length cb) ∧ ZoneE n L 0 w (.returned (.tuple #[.agg #[.int .i64 n, .slice b L.length cb], .int .i64 0])) ((W.setCell ⟨w.heap.size + 1 + 1, 0, none⟩ (.int .i64 n)).setCell ⟨w.heap.size + 1 + 1, 1, none⟩ (.slice b L.length cb))) := Lib.hid (fun L W b cb hC hO => by
    have hO2 := own_set hO (g := w.heap.size + 1 + 1) (by omega) (.int .i64 n) (.slice b L.length cb)
    obtain ⟨b2, c2, hv, -, ss⟩ := sees_own hO2
    injection hv with e1 _ e3
    subst e1 e3
    exact ⟨zh_set hC.rb _ _, b, cb, rfl, own_cap hO, ss, (hC.bl.setCell (p := ⟨w.heap.size + 1 + 1, 0, none⟩) (by show _ ≤ _ + 1 + 1; omega) _).setCell (p := ⟨w.heap.size + 1 + 1, 1, none⟩) (by show _ ≤ _ + 1 + 1; omega) _, New.own hO (by omega)⟩)
  have hs0' := Lib.hid hs0
  obtain ⟨Q, hQ⟩ : ∃ Q : Nat → List Int, Q 0 = l ∧ Q 1 = (stepL n (fun l => forL n l i.toNat) l) := ⟨fun k => match k with | 0 => l | _ => (stepL n (fun l => forL n l i.toNat) l), rfl, rfl⟩
  have hQ0 : Hid (Q 0 = l) := Lib.hid hQ.1
  have hQ1 : Hid (Q 1 = if Q 0 = [] then [] else closedL n (forL n (Q 0) i.toNat)) := Lib.hid (by rw [hQ.2, hQ.1]; rfl)
  have hZ : Hid (∀ k, k ≤ 1 → IsZ n (Q k)) := Lib.hid (fun k hk => by
    match k, hk with
    | 0, _ => rw [hQ.1]; exact hz
    | 1, _ => rw [hQ.2]; exact stepL_isz hn _ _
    | k + 2, hk => omega)
  have hres : Hid ((stepL n (fun l => forL n l i.toNat) l) = Q 1) := Lib.hid hQ.2.symm
  rw [hres.out]
  clear hW1 X1 h hgs hcs hz hsz1 hn hQ hs0 hres
  go_enter Tryz.func89, Tryz.ntmps89
  go_wp2_with fail
  rw [← hW1'.out]
  refine q1.out.mono ?_
  rintro e w2 ⟨a2, c2, rfl, o2, b2⟩
  have C2 := X1'.out.on b2
  have z0 := C2.zb.cell 0
  have z1 := C2.zb.cell 1
  have f0 := C2.zb.free 0
  have f1 := C2.zb.free 1
  have C3 := Lib.hid (C2.set (.int .i64 n) (.slice a2 l.length c2))
  have O3 := Lib.hid (own_set (own_from (B := w.heap.size + 3) o2 (fun k hk => by have := (o2.lt k hk).1; have := hsz1'.out; omega)) (g := w.heap.size) (by omega) (.int .i64 n) (.slice a2 l.length c2))
  rw [← hQ0.out] at C3 O3
  rw [← hQ0.out]
  clear C2 o2 b2 q1
  generalize hG : ((w2.setCell ⟨w.heap.size, 0, none⟩ (.int .i64 n)).setCell ⟨w.heap.size, 1, none⟩ (.slice a2 (Q 0).length c2)) = w3 at C3 O3
  have hG' := Lib.hid hG
  clear hG
  go_wp2
  rw [hG'.out]
  clear z0 z1 f0 f1 hG'
  go_loopw [14] (fun x wr => ∃ (k : Nat) (b : Option Addr) (cb : Nat), k ≤ 1 ∧ x = .int .i64 k ∧ Hid (Cg w wr (w.heap.size + 3) n (.int .i64 n) (.slice b (Q k).length cb) i j c) ∧ Hid (wr.ownsRow (w.heap.size + 3) 3 1 (.slice b (Q k).length cb) (Q k).length (nums .i64 (Q k)))) (fun x _ => 1 - (intOf x).toNat)
  case atStart => exact ⟨0, a2, c2, by omega, rfl, C3, O3⟩
  case round =>
    clear C3 O3
    obtain ⟨k, b, cb, hk, rfl, hC, hO⟩ := hrel
    by_cases hlt : k < 1
    · have hki : (k : Int) < 1 := by omega
      obtain rfl : k = 0 := by omega
      have hcell := (hcs'.out wr hC.out.bl)
      obtain ⟨b', cb', hv, -, ss⟩ := sees_own hO.out
      injection hv with e1 _ e3
      subst e1 e3
      have hcap := own_cap hO.out
      have hsmk := (hZ.out 0 (by omega)).small
      have S : Hid (SL wr b (Q 0).length cb (Q 0)) := Lib.hid ⟨rfl, hcap, by omega, ss⟩
      have z0 := hC.out.zb.cell 0
      have z1 := hC.out.zb.cell 1
      have p1 := Lib.hid (hem.out (Q 0) wr b cb S.out)
      clear ss hcap
      by_cases hnil : Q 0 = []
      · have hend : Hid (Q 1 = Q 0) := Lib.hid (by rw [hQ1.out, if_pos hnil, hnil])
        rw [decide_eq_true hnil] at p1
        clear hnil
        go_wp2_with fail
        refine p1.out.mono ?_
        rintro e w5 ⟨rfl, b5⟩
        have C5 := hC.out.on b5
        have O5 := own_below hO.out b5
        have y0 := C5.zb.cell 0
        have y1 := C5.zb.cell 1
        have r0 := C5.rb.cell 0
        have r1 := C5.rb.cell 1
        have g0 := C5.rb.free 0
        have g1 := C5.rb.free 1
        have hfin := Lib.hid (hfinal.out _ _ _ _ C5 O5)
        clear C5 O5 b5 p1 z0 z1
        go_wp2
        rw [hend.out]
        exact zone_ret2 hfin.out.1 hfin.out.2 _ _ 6 7 rfl rfl rfl rfl
      · have hF := ((hZ.out 0 (by omega)).2).resolve_left hnil
        rw [decide_eq_false hnil] at p1
        have hlk := hF.len
        obtain ⟨g, cap, hv, hg⟩ := own_some hO.out (by rw [hlk]; exact sz_pos n)
        injection hv with e1 _ e3
        subst e1 e3
        have hnx : Hid (closedL n (forL n (Q 0) i.toNat) = Q 1) := Lib.hid (by rw [hQ1.out, if_neg hnil])
        rw [hlk] at p1 z1 S hO hC
        try rw [hlk]
        have hst := Lib.hid (fun W hW => hs0'.out (Q 0) g cb (w.heap.size + 3) W hF hlk hW)
        have hflen : Hid ((forL n (Q 0) i.toNat).length = sz n) := Lib.hid (by unfold forL; rw [othK_len]; exact hlk)
        have hcl2 := Lib.hid (fun W cap hs => hcl.out (forL n (Q 0) i.toNat) W g cap hflen.out hs)
        rw [hnx.out] at hcl2
        go_wp2_with fail
        refine p1.out.mono ?_
        rintro e w5 ⟨rfl, b5⟩
        have C5 := Lib.hid (hC.out.on b5)
        have O5 := Lib.hid (own_below hO.out b5)
        clear b5 p1 z0 z1 hcell
        have z0 := C5.out.zb.cell 0
        have z1 := C5.out.zb.cell 1
        have w0 := C5.out.wb.cell 0
        have w1 := C5.out.wb.cell 1
        have w2' := C5.out.wb.cell 2
        have p5 := Lib.hid (hst.out w5 O5.out)
        go_wp2_with fail
        refine p5.out.mono ?_
        rintro e w6 ⟨rfl, o6, b6⟩
        have C6 := Lib.hid (C5.out.onE (by omega) hg b6)
        obtain ⟨b7, c7, hv7, -, ss⟩ := sees_own o6
        have hlen6 := hflen.out
        rw [hlen6] at hv7
        injection hv7 with e1 _ e3
        subst e1 e3
        clear z0 z1 w0 w1 w2' b6 p5
        have z0 := C6.out.zb.cell 0
        have z1 := C6.out.zb.cell 1
        have p6 := Lib.hid (hcl2.out w6 cb ss)
        go_wp2_with fail
        refine p6.out.mono ?_
        rintro e w8 ⟨a8, c8, rfl, o8, b8⟩
        have C8 := C6.out.on b8
        have y0 := C8.zb.cell 0
        have y1 := C8.zb.cell 1
        have f0 := C8.zb.free 0
        have f1 := C8.zb.free 1
        have C9 := Lib.hid (C8.set (.int .i64 n) (.slice a8 (Q 1).length c8))
        have O9 := Lib.hid (own_set (own_from (B := w.heap.size + 3) o8 (fun kk hk => by have := (o8.lt kk hk).1; have := C6.out.sz; omega)) (g := w.heap.size) (by omega) (.int .i64 n) (.slice a8 (Q 1).length c8))
        clear C8 o8 b8 p6 z0 z1
        go_wp2
        go_roundw
        case rel => exact ⟨1, a8, c8, by omega, by go_num, C9, O9⟩
        case measure => simp [intOf]
    · have hke : k = 1 := by omega
      subst hke
      have y0 := hC.out.zb.cell 0
      have y1 := hC.out.zb.cell 1
      have r0 := hC.out.rb.cell 0
      have r1 := hC.out.rb.cell 1
      have g0 := hC.out.rb.free 0
      have g1 := hC.out.rb.free 1
      have hfin := Lib.hid (hfinal.out _ _ _ _ hC.out hO.out)
      go_wp2
      exact zone_ret2 hfin.out.1 hfin.out.2 _ _ 6 7 rfl rfl rfl rfl
set_option maxRecDepth 100000 in
set_option maxHeartbeats 4000000 in
theorem change_mov (n : Nat) (hn : n ≤ 8) (l : List Int) (hz : IsZ n l) (a : Option Addr) (m ca : Nat) (i j c : Int) (hs0 : ∀ (L : List Int) (g cap base : Nat) (W : World), Full n L → L.length = sz n → W.ownsRow base 3 1 (.slice (some ⟨g, 0, none⟩) (sz n) cap) (sz n) (nums .i64 L) → Calls Tryz.prog 90 #[.agg #[.int .i64 n, .slice (some ⟨g, 0, none⟩) (sz n) cap], .agg #[.int .i64 i, .int .i64 j, .int .i64 c]] W (MatS (sz n) g cap base (movL n L i.toNat c) W)) (w : World) (h : SL w a m ca l) (gs : Nat) (hgs : gs < w.heap.size) (hcs : ∀ W, Below w.heap.size w W → W.cell? ⟨gs, 0, none⟩ = some (.func (.func 90) #[] #[])) :
    Calls Tryz.prog 89 #[.agg #[.int .i64 n, .slice a m ca], .agg #[.int .i64 i, .int .i64 j, .int .i64 c], .slice (some ⟨gs, 0, none⟩) 1 1] w (ZoneE n (stepL n (fun l => movL n l i.toNat c) l) 0 w) := by
  obtain ⟨W1, hW1⟩ : ∃ W1, W1 = ((w.alloc (.cells #[.int .i64 n, .slice a m ca] 24)).alloc (.cells #[.int .i64 i, .int .i64 j, .int .i64 c] 92)).alloc (.cells #[.int .i64 0, .slice none 0 0] 24) := ⟨_, rfl⟩
  have hsz1 : W1.heap.size = w.heap.size + 3 := by rw [hW1]; simp
  have X1 : Cg w W1 (w.heap.size + 3) n (.int .i64 n) (.slice a m ca) i j c := by
    rw [hW1]
    refine ⟨(box2_below _ _ _ _ _).alloc (by simp; omega) _, by simp, ((Holds.new w _ _).alloc _).alloc _, ?_, ?_⟩
    · have := (Holds.new (w.alloc (.cells #[.int .i64 n, .slice a m ca] 24)) 92 #[.int .i64 i, .int .i64 j, .int .i64 c]).alloc (.cells #[.int .i64 0, .slice none 0 0] 24)
      simpa using this
    · have := Holds.new ((w.alloc (.cells #[.int .i64 n, .slice a m ca] 24)).alloc (.cells #[.int .i64 i, .int .i64 j, .int .i64 c] 92)) 24 #[.int .i64 0, .slice none 0 0]
      simpa using this
  have hsm := hz.small
  have q1 := Lib.hid (zclone_own n a m ca l (by have := h.len; omega) W1 (h.below X1.bl))
  have hcl := Lib.hid (fun (L : List Int) (W : World) (g cap : Nat) (hL : L.length = sz n) (hs : Sees .i64 W.heap.size W (some ⟨g, 0, none⟩) L) => dclose_own n hn (some ⟨g, 0, none⟩) L (sz n) cap hL.symm rfl W hs)
  have hem := Lib.hid (fun (L : List Int) (W : World) (b : Option Addr) (cb : Nat) (hs : SL W b L.length cb L) => zempty_any n b L.length cb L W hs)
  have hW1' := Lib.hid hW1
  have X1' := Lib.hid X1
  have hn' := Lib.hid hn
  have hgs' := Lib.hid hgs
  have hcs' := Lib.hid hcs
  have hz' := Lib.hid hz
  have hsz1' := Lib.hid hsz1
  have hfinal : Hid (∀ (L : List Int) (W : World) (b : Option Addr) (cb : Nat), Cg w W (w.heap.size + 3) n (.int .i64 n) (.slice b L.length cb) i j c → W.ownsRow (w.heap.size + 3) 3 1 (.slice b L.length cb) L.length (nums .i64 L) →
      ZH ((W.setCell ⟨w.heap.size + 1 + 1, 0, none⟩ (.int .i64 n)).setCell ⟨w.heap.size + 1 + 1, 1, none⟩ (.slice b L.length cb)) (w.heap.size + 1 + 1) (.int .i64 n) (.slice b L.length cb) ∧ ZoneE n L 0 w (.returned (.tuple #[.agg #[.int .i64 n, .slice b L.length cb], .int .i64 0])) ((W.setCell ⟨w.heap.size + 1 + 1, 0, none⟩ (.int .i64 n)).setCell ⟨w.heap.size + 1 + 1, 1, none⟩ (.slice b L.length cb))) := Lib.hid (fun L W b cb hC hO => by
    have hO2 := own_set hO (g := w.heap.size + 1 + 1) (by omega) (.int .i64 n) (.slice b L.length cb)
    obtain ⟨b2, c2, hv, -, ss⟩ := sees_own hO2
    injection hv with e1 _ e3
    subst e1 e3
    exact ⟨zh_set hC.rb _ _, b, cb, rfl, own_cap hO, ss, (hC.bl.setCell (p := ⟨w.heap.size + 1 + 1, 0, none⟩) (by show _ ≤ _ + 1 + 1; omega) _).setCell (p := ⟨w.heap.size + 1 + 1, 1, none⟩) (by show _ ≤ _ + 1 + 1; omega) _, New.own hO (by omega)⟩)
  have hs0' := Lib.hid hs0
  obtain ⟨Q, hQ⟩ : ∃ Q : Nat → List Int, Q 0 = l ∧ Q 1 = (stepL n (fun l => movL n l i.toNat c) l) := ⟨fun k => match k with | 0 => l | _ => (stepL n (fun l => movL n l i.toNat c) l), rfl, rfl⟩
  have hQ0 : Hid (Q 0 = l) := Lib.hid hQ.1
  have hQ1 : Hid (Q 1 = if Q 0 = [] then [] else closedL n (movL n (Q 0) i.toNat c)) := Lib.hid (by rw [hQ.2, hQ.1]; rfl)
  have hZ : Hid (∀ k, k ≤ 1 → IsZ n (Q k)) := Lib.hid (fun k hk => by
    match k, hk with
    | 0, _ => rw [hQ.1]; exact hz
    | 1, _ => rw [hQ.2]; exact stepL_isz hn _ _
    | k + 2, hk => omega)
  have hres : Hid ((stepL n (fun l => movL n l i.toNat c) l) = Q 1) := Lib.hid hQ.2.symm
  rw [hres.out]
  clear hW1 X1 h hgs hcs hz hsz1 hn hQ hs0 hres
  go_enter Tryz.func89, Tryz.ntmps89
  go_wp2_with fail
  rw [← hW1'.out]
  refine q1.out.mono ?_
  rintro e w2 ⟨a2, c2, rfl, o2, b2⟩
  have C2 := X1'.out.on b2
  have z0 := C2.zb.cell 0
  have z1 := C2.zb.cell 1
  have f0 := C2.zb.free 0
  have f1 := C2.zb.free 1
  have C3 := Lib.hid (C2.set (.int .i64 n) (.slice a2 l.length c2))
  have O3 := Lib.hid (own_set (own_from (B := w.heap.size + 3) o2 (fun k hk => by have := (o2.lt k hk).1; have := hsz1'.out; omega)) (g := w.heap.size) (by omega) (.int .i64 n) (.slice a2 l.length c2))
  rw [← hQ0.out] at C3 O3
  rw [← hQ0.out]
  clear C2 o2 b2 q1
  generalize hG : ((w2.setCell ⟨w.heap.size, 0, none⟩ (.int .i64 n)).setCell ⟨w.heap.size, 1, none⟩ (.slice a2 (Q 0).length c2)) = w3 at C3 O3
  have hG' := Lib.hid hG
  clear hG
  go_wp2
  rw [hG'.out]
  clear z0 z1 f0 f1 hG'
  go_loopw [14] (fun x wr => ∃ (k : Nat) (b : Option Addr) (cb : Nat), k ≤ 1 ∧ x = .int .i64 k ∧ Hid (Cg w wr (w.heap.size + 3) n (.int .i64 n) (.slice b (Q k).length cb) i j c) ∧ Hid (wr.ownsRow (w.heap.size + 3) 3 1 (.slice b (Q k).length cb) (Q k).length (nums .i64 (Q k)))) (fun x _ => 1 - (intOf x).toNat)
  case atStart => exact ⟨0, a2, c2, by omega, rfl, C3, O3⟩
  case round =>
    clear C3 O3
    obtain ⟨k, b, cb, hk, rfl, hC, hO⟩ := hrel
    by_cases hlt : k < 1
    · have hki : (k : Int) < 1 := by omega
      obtain rfl : k = 0 := by omega
      have hcell := (hcs'.out wr hC.out.bl)
      obtain ⟨b', cb', hv, -, ss⟩ := sees_own hO.out
      injection hv with e1 _ e3
      subst e1 e3
      have hcap := own_cap hO.out
      have hsmk := (hZ.out 0 (by omega)).small
      have S : Hid (SL wr b (Q 0).length cb (Q 0)) := Lib.hid ⟨rfl, hcap, by omega, ss⟩
      have z0 := hC.out.zb.cell 0
      have z1 := hC.out.zb.cell 1
      have p1 := Lib.hid (hem.out (Q 0) wr b cb S.out)
      clear ss hcap
      by_cases hnil : Q 0 = []
      · have hend : Hid (Q 1 = Q 0) := Lib.hid (by rw [hQ1.out, if_pos hnil, hnil])
        rw [decide_eq_true hnil] at p1
        clear hnil
        go_wp2_with fail
        refine p1.out.mono ?_
        rintro e w5 ⟨rfl, b5⟩
        have C5 := hC.out.on b5
        have O5 := own_below hO.out b5
        have y0 := C5.zb.cell 0
        have y1 := C5.zb.cell 1
        have r0 := C5.rb.cell 0
        have r1 := C5.rb.cell 1
        have g0 := C5.rb.free 0
        have g1 := C5.rb.free 1
        have hfin := Lib.hid (hfinal.out _ _ _ _ C5 O5)
        clear C5 O5 b5 p1 z0 z1
        go_wp2
        rw [hend.out]
        exact zone_ret2 hfin.out.1 hfin.out.2 _ _ 6 7 rfl rfl rfl rfl
      · have hF := ((hZ.out 0 (by omega)).2).resolve_left hnil
        rw [decide_eq_false hnil] at p1
        have hlk := hF.len
        obtain ⟨g, cap, hv, hg⟩ := own_some hO.out (by rw [hlk]; exact sz_pos n)
        injection hv with e1 _ e3
        subst e1 e3
        have hnx : Hid (closedL n (movL n (Q 0) i.toNat c) = Q 1) := Lib.hid (by rw [hQ1.out, if_neg hnil])
        rw [hlk] at p1 z1 S hO hC
        try rw [hlk]
        have hst := Lib.hid (fun W hW => hs0'.out (Q 0) g cb (w.heap.size + 3) W hF hlk hW)
        have hflen : Hid ((movL n (Q 0) i.toNat c).length = sz n) := Lib.hid (by unfold movL; rw [othK_len]; exact hlk)
        have hcl2 := Lib.hid (fun W cap hs => hcl.out (movL n (Q 0) i.toNat c) W g cap hflen.out hs)
        rw [hnx.out] at hcl2
        go_wp2_with fail
        refine p1.out.mono ?_
        rintro e w5 ⟨rfl, b5⟩
        have C5 := Lib.hid (hC.out.on b5)
        have O5 := Lib.hid (own_below hO.out b5)
        clear b5 p1 z0 z1 hcell
        have z0 := C5.out.zb.cell 0
        have z1 := C5.out.zb.cell 1
        have w0 := C5.out.wb.cell 0
        have w1 := C5.out.wb.cell 1
        have w2' := C5.out.wb.cell 2
        have p5 := Lib.hid (hst.out w5 O5.out)
        go_wp2_with fail
        refine p5.out.mono ?_
        rintro e w6 ⟨rfl, o6, b6⟩
        have C6 := Lib.hid (C5.out.onE (by omega) hg b6)
        obtain ⟨b7, c7, hv7, -, ss⟩ := sees_own o6
        have hlen6 := hflen.out
        rw [hlen6] at hv7
        injection hv7 with e1 _ e3
        subst e1 e3
        clear z0 z1 w0 w1 w2' b6 p5
        have z0 := C6.out.zb.cell 0
        have z1 := C6.out.zb.cell 1
        have p6 := Lib.hid (hcl2.out w6 cb ss)
        go_wp2_with fail
        refine p6.out.mono ?_
        rintro e w8 ⟨a8, c8, rfl, o8, b8⟩
        have C8 := C6.out.on b8
        have y0 := C8.zb.cell 0
        have y1 := C8.zb.cell 1
        have f0 := C8.zb.free 0
        have f1 := C8.zb.free 1
        have C9 := Lib.hid (C8.set (.int .i64 n) (.slice a8 (Q 1).length c8))
        have O9 := Lib.hid (own_set (own_from (B := w.heap.size + 3) o8 (fun kk hk => by have := (o8.lt kk hk).1; have := C6.out.sz; omega)) (g := w.heap.size) (by omega) (.int .i64 n) (.slice a8 (Q 1).length c8))
        clear C8 o8 b8 p6 z0 z1
        go_wp2
        go_roundw
        case rel => exact ⟨1, a8, c8, by omega, by go_num, C9, O9⟩
        case measure => simp [intOf]
    · have hke : k = 1 := by omega
      subst hke
      have y0 := hC.out.zb.cell 0
      have y1 := hC.out.zb.cell 1
      have r0 := hC.out.rb.cell 0
      have r1 := hC.out.rb.cell 1
      have g0 := hC.out.rb.free 0
      have g1 := hC.out.rb.free 1
      have hfin := Lib.hid (hfinal.out _ _ _ _ hC.out hO.out)
      go_wp2
      exact zone_ret2 hfin.out.1 hfin.out.2 _ _ 6 7 rfl rfl rfl rfl
set_option maxRecDepth 100000 in
set_option maxHeartbeats 4000000 in
theorem change_tie (n : Nat) (hn : n ≤ 8) (l : List Int) (hz : IsZ n l) (a : Option Addr) (m ca : Nat) (i j c : Int) (hs0 : ∀ (L : List Int) (g cap base : Nat) (W : World), Full n L → L.length = sz n → W.ownsRow base 3 1 (.slice (some ⟨g, 0, none⟩) (sz n) cap) (sz n) (nums .i64 L) → Calls Tryz.prog 91 #[.agg #[.int .i64 n, .slice (some ⟨g, 0, none⟩) (sz n) cap], .agg #[.int .i64 i, .int .i64 j, .int .i64 c]] W (MatS (sz n) g cap base (forL n L i.toNat) W)) (hs1 : ∀ (L : List Int) (g cap base : Nat) (W : World), Full n L → L.length = sz n → W.ownsRow base 3 1 (.slice (some ⟨g, 0, none⟩) (sz n) cap) (sz n) (nums .i64 L) → Calls Tryz.prog 92 #[.agg #[.int .i64 n, .slice (some ⟨g, 0, none⟩) (sz n) cap], .agg #[.int .i64 i, .int .i64 j, .int .i64 c]] W (MatS (sz n) g cap base (tieL n L i.toNat j.toNat c) W)) (w : World) (h : SL w a m ca l) (gs : Nat) (hgs : gs < w.heap.size) (hcs : ∀ W, Below w.heap.size w W → W.cell? ⟨gs, 0, none⟩ = some (.func (.func 91) #[] #[]) ∧ W.cell? ⟨gs, 1, none⟩ = some (.func (.func 92) #[] #[])) :
    Calls Tryz.prog 89 #[.agg #[.int .i64 n, .slice a m ca], .agg #[.int .i64 i, .int .i64 j, .int .i64 c], .slice (some ⟨gs, 0, none⟩) 2 2] w (ZoneE n (stepL n (fun l => tieL n l i.toNat j.toNat c) (stepL n (fun l => forL n l i.toNat) l)) 0 w) := by
  obtain ⟨W1, hW1⟩ : ∃ W1, W1 = ((w.alloc (.cells #[.int .i64 n, .slice a m ca] 24)).alloc (.cells #[.int .i64 i, .int .i64 j, .int .i64 c] 92)).alloc (.cells #[.int .i64 0, .slice none 0 0] 24) := ⟨_, rfl⟩
  have hsz1 : W1.heap.size = w.heap.size + 3 := by rw [hW1]; simp
  have X1 : Cg w W1 (w.heap.size + 3) n (.int .i64 n) (.slice a m ca) i j c := by
    rw [hW1]
    refine ⟨(box2_below _ _ _ _ _).alloc (by simp; omega) _, by simp, ((Holds.new w _ _).alloc _).alloc _, ?_, ?_⟩
    · have := (Holds.new (w.alloc (.cells #[.int .i64 n, .slice a m ca] 24)) 92 #[.int .i64 i, .int .i64 j, .int .i64 c]).alloc (.cells #[.int .i64 0, .slice none 0 0] 24)
      simpa using this
    · have := Holds.new ((w.alloc (.cells #[.int .i64 n, .slice a m ca] 24)).alloc (.cells #[.int .i64 i, .int .i64 j, .int .i64 c] 92)) 24 #[.int .i64 0, .slice none 0 0]
      simpa using this
  have hsm := hz.small
  have q1 := Lib.hid (zclone_own n a m ca l (by have := h.len; omega) W1 (h.below X1.bl))
  have hcl := Lib.hid (fun (L : List Int) (W : World) (g cap : Nat) (hL : L.length = sz n) (hs : Sees .i64 W.heap.size W (some ⟨g, 0, none⟩) L) => dclose_own n hn (some ⟨g, 0, none⟩) L (sz n) cap hL.symm rfl W hs)
  have hem := Lib.hid (fun (L : List Int) (W : World) (b : Option Addr) (cb : Nat) (hs : SL W b L.length cb L) => zempty_any n b L.length cb L W hs)
  have hW1' := Lib.hid hW1
  have X1' := Lib.hid X1
  have hn' := Lib.hid hn
  have hgs' := Lib.hid hgs
  have hcs' := Lib.hid hcs
  have hz' := Lib.hid hz
  have hsz1' := Lib.hid hsz1
  have hfinal : Hid (∀ (L : List Int) (W : World) (b : Option Addr) (cb : Nat), Cg w W (w.heap.size + 3) n (.int .i64 n) (.slice b L.length cb) i j c → W.ownsRow (w.heap.size + 3) 3 1 (.slice b L.length cb) L.length (nums .i64 L) →
      ZH ((W.setCell ⟨w.heap.size + 1 + 1, 0, none⟩ (.int .i64 n)).setCell ⟨w.heap.size + 1 + 1, 1, none⟩ (.slice b L.length cb)) (w.heap.size + 1 + 1) (.int .i64 n) (.slice b L.length cb) ∧ ZoneE n L 0 w (.returned (.tuple #[.agg #[.int .i64 n, .slice b L.length cb], .int .i64 0])) ((W.setCell ⟨w.heap.size + 1 + 1, 0, none⟩ (.int .i64 n)).setCell ⟨w.heap.size + 1 + 1, 1, none⟩ (.slice b L.length cb))) := Lib.hid (fun L W b cb hC hO => by
    have hO2 := own_set hO (g := w.heap.size + 1 + 1) (by omega) (.int .i64 n) (.slice b L.length cb)
    obtain ⟨b2, c2, hv, -, ss⟩ := sees_own hO2
    injection hv with e1 _ e3
    subst e1 e3
    exact ⟨zh_set hC.rb _ _, b, cb, rfl, own_cap hO, ss, (hC.bl.setCell (p := ⟨w.heap.size + 1 + 1, 0, none⟩) (by show _ ≤ _ + 1 + 1; omega) _).setCell (p := ⟨w.heap.size + 1 + 1, 1, none⟩) (by show _ ≤ _ + 1 + 1; omega) _, New.own hO (by omega)⟩)
  have hs0' := Lib.hid hs0
  have hs1' := Lib.hid hs1
  obtain ⟨Q, hQ⟩ : ∃ Q : Nat → List Int, Q 0 = l ∧ Q 1 = (stepL n (fun l => forL n l i.toNat) l) ∧ Q 2 = (stepL n (fun l => tieL n l i.toNat j.toNat c) (stepL n (fun l => forL n l i.toNat) l)) := ⟨fun k => match k with | 0 => l | 1 => (stepL n (fun l => forL n l i.toNat) l) | _ => (stepL n (fun l => tieL n l i.toNat j.toNat c) (stepL n (fun l => forL n l i.toNat) l)), rfl, rfl, rfl⟩
  have hQ0 : Hid (Q 0 = l) := Lib.hid hQ.1
  have hQ1 : Hid (Q 1 = if Q 0 = [] then [] else closedL n (forL n (Q 0) i.toNat)) := Lib.hid (by rw [hQ.2.1, hQ.1]; rfl)
  have hQ2 : Hid (Q 2 = if Q 1 = [] then [] else closedL n (tieL n (Q 1) i.toNat j.toNat c)) := Lib.hid (by rw [hQ.2.2, hQ.2.1]; rfl)
  have hZ : Hid (∀ k, k ≤ 2 → IsZ n (Q k)) := Lib.hid (fun k hk => by
    match k, hk with
    | 0, _ => rw [hQ.1]; exact hz
    | 1, _ => rw [hQ.2.1]; exact stepL_isz hn _ _
    | 2, _ => rw [hQ.2.2]; exact stepL_isz hn _ _
    | k + 3, hk => omega)
  have hres : Hid ((stepL n (fun l => tieL n l i.toNat j.toNat c) (stepL n (fun l => forL n l i.toNat) l)) = Q 2) := Lib.hid hQ.2.2.symm
  rw [hres.out]
  clear hW1 X1 h hgs hcs hz hsz1 hn hQ hs0 hs1 hres
  go_enter Tryz.func89, Tryz.ntmps89
  go_wp2_with fail
  rw [← hW1'.out]
  refine q1.out.mono ?_
  rintro e w2 ⟨a2, c2, rfl, o2, b2⟩
  have C2 := X1'.out.on b2
  have z0 := C2.zb.cell 0
  have z1 := C2.zb.cell 1
  have f0 := C2.zb.free 0
  have f1 := C2.zb.free 1
  have C3 := Lib.hid (C2.set (.int .i64 n) (.slice a2 l.length c2))
  have O3 := Lib.hid (own_set (own_from (B := w.heap.size + 3) o2 (fun k hk => by have := (o2.lt k hk).1; have := hsz1'.out; omega)) (g := w.heap.size) (by omega) (.int .i64 n) (.slice a2 l.length c2))
  rw [← hQ0.out] at C3 O3
  rw [← hQ0.out]
  clear C2 o2 b2 q1
  generalize hG : ((w2.setCell ⟨w.heap.size, 0, none⟩ (.int .i64 n)).setCell ⟨w.heap.size, 1, none⟩ (.slice a2 (Q 0).length c2)) = w3 at C3 O3
  have hG' := Lib.hid hG
  clear hG
  go_wp2
  rw [hG'.out]
  clear z0 z1 f0 f1 hG'
  go_loopw [14] (fun x wr => ∃ (k : Nat) (b : Option Addr) (cb : Nat), k ≤ 2 ∧ x = .int .i64 k ∧ Hid (Cg w wr (w.heap.size + 3) n (.int .i64 n) (.slice b (Q k).length cb) i j c) ∧ Hid (wr.ownsRow (w.heap.size + 3) 3 1 (.slice b (Q k).length cb) (Q k).length (nums .i64 (Q k)))) (fun x _ => 2 - (intOf x).toNat)
  case atStart => exact ⟨0, a2, c2, by omega, rfl, C3, O3⟩
  case round =>
    clear C3 O3
    obtain ⟨k, b, cb, hk, rfl, hC, hO⟩ := hrel
    by_cases hlt : k < 2
    · have hki : (k : Int) < 2 := by omega
      obtain rfl | rfl : k = 0 ∨ k = 1 := by omega
      · have hcell := (hcs'.out wr hC.out.bl).1
        obtain ⟨b', cb', hv, -, ss⟩ := sees_own hO.out
        injection hv with e1 _ e3
        subst e1 e3
        have hcap := own_cap hO.out
        have hsmk := (hZ.out 0 (by omega)).small
        have S : Hid (SL wr b (Q 0).length cb (Q 0)) := Lib.hid ⟨rfl, hcap, by omega, ss⟩
        have z0 := hC.out.zb.cell 0
        have z1 := hC.out.zb.cell 1
        have p1 := Lib.hid (hem.out (Q 0) wr b cb S.out)
        clear ss hcap
        by_cases hnil : Q 0 = []
        · have hend : Hid (Q 2 = Q 0) := Lib.hid (by rw [hQ2.out, hQ1.out, if_pos hnil, if_pos rfl, hnil])
          rw [decide_eq_true hnil] at p1
          clear hnil
          go_wp2_with fail
          refine p1.out.mono ?_
          rintro e w5 ⟨rfl, b5⟩
          have C5 := hC.out.on b5
          have O5 := own_below hO.out b5
          have y0 := C5.zb.cell 0
          have y1 := C5.zb.cell 1
          have r0 := C5.rb.cell 0
          have r1 := C5.rb.cell 1
          have g0 := C5.rb.free 0
          have g1 := C5.rb.free 1
          have hfin := Lib.hid (hfinal.out _ _ _ _ C5 O5)
          clear C5 O5 b5 p1 z0 z1
          go_wp2
          rw [hend.out]
          exact zone_ret2 hfin.out.1 hfin.out.2 _ _ 6 7 rfl rfl rfl rfl
        · have hF := ((hZ.out 0 (by omega)).2).resolve_left hnil
          rw [decide_eq_false hnil] at p1
          have hlk := hF.len
          obtain ⟨g, cap, hv, hg⟩ := own_some hO.out (by rw [hlk]; exact sz_pos n)
          injection hv with e1 _ e3
          subst e1 e3
          have hnx : Hid (closedL n (forL n (Q 0) i.toNat) = Q 1) := Lib.hid (by rw [hQ1.out, if_neg hnil])
          rw [hlk] at p1 z1 S hO hC
          try rw [hlk]
          have hst := Lib.hid (fun W hW => hs0'.out (Q 0) g cb (w.heap.size + 3) W hF hlk hW)
          have hflen : Hid ((forL n (Q 0) i.toNat).length = sz n) := Lib.hid (by unfold forL; rw [othK_len]; exact hlk)
          have hcl2 := Lib.hid (fun W cap hs => hcl.out (forL n (Q 0) i.toNat) W g cap hflen.out hs)
          rw [hnx.out] at hcl2
          go_wp2_with fail
          refine p1.out.mono ?_
          rintro e w5 ⟨rfl, b5⟩
          have C5 := Lib.hid (hC.out.on b5)
          have O5 := Lib.hid (own_below hO.out b5)
          clear b5 p1 z0 z1 hcell
          have z0 := C5.out.zb.cell 0
          have z1 := C5.out.zb.cell 1
          have w0 := C5.out.wb.cell 0
          have w1 := C5.out.wb.cell 1
          have w2' := C5.out.wb.cell 2
          have p5 := Lib.hid (hst.out w5 O5.out)
          go_wp2_with fail
          refine p5.out.mono ?_
          rintro e w6 ⟨rfl, o6, b6⟩
          have C6 := Lib.hid (C5.out.onE (by omega) hg b6)
          obtain ⟨b7, c7, hv7, -, ss⟩ := sees_own o6
          have hlen6 := hflen.out
          rw [hlen6] at hv7
          injection hv7 with e1 _ e3
          subst e1 e3
          clear z0 z1 w0 w1 w2' b6 p5
          have z0 := C6.out.zb.cell 0
          have z1 := C6.out.zb.cell 1
          have p6 := Lib.hid (hcl2.out w6 cb ss)
          go_wp2_with fail
          refine p6.out.mono ?_
          rintro e w8 ⟨a8, c8, rfl, o8, b8⟩
          have C8 := C6.out.on b8
          have y0 := C8.zb.cell 0
          have y1 := C8.zb.cell 1
          have f0 := C8.zb.free 0
          have f1 := C8.zb.free 1
          have C9 := Lib.hid (C8.set (.int .i64 n) (.slice a8 (Q 1).length c8))
          have O9 := Lib.hid (own_set (own_from (B := w.heap.size + 3) o8 (fun kk hk => by have := (o8.lt kk hk).1; have := C6.out.sz; omega)) (g := w.heap.size) (by omega) (.int .i64 n) (.slice a8 (Q 1).length c8))
          clear C8 o8 b8 p6 z0 z1
          go_wp2
          go_roundw
          case rel => exact ⟨1, a8, c8, by omega, by go_num, C9, O9⟩
          case measure => simp [intOf]
      · have hcell := (hcs'.out wr hC.out.bl).2
        obtain ⟨b', cb', hv, -, ss⟩ := sees_own hO.out
        injection hv with e1 _ e3
        subst e1 e3
        have hcap := own_cap hO.out
        have hsmk := (hZ.out 1 (by omega)).small
        have S : Hid (SL wr b (Q 1).length cb (Q 1)) := Lib.hid ⟨rfl, hcap, by omega, ss⟩
        have z0 := hC.out.zb.cell 0
        have z1 := hC.out.zb.cell 1
        have p1 := Lib.hid (hem.out (Q 1) wr b cb S.out)
        clear ss hcap
        by_cases hnil : Q 1 = []
        · have hend : Hid (Q 2 = Q 1) := Lib.hid (by rw [hQ2.out, if_pos hnil, hnil])
          rw [decide_eq_true hnil] at p1
          clear hnil
          go_wp2_with fail
          refine p1.out.mono ?_
          rintro e w5 ⟨rfl, b5⟩
          have C5 := hC.out.on b5
          have O5 := own_below hO.out b5
          have y0 := C5.zb.cell 0
          have y1 := C5.zb.cell 1
          have r0 := C5.rb.cell 0
          have r1 := C5.rb.cell 1
          have g0 := C5.rb.free 0
          have g1 := C5.rb.free 1
          have hfin := Lib.hid (hfinal.out _ _ _ _ C5 O5)
          clear C5 O5 b5 p1 z0 z1
          go_wp2
          rw [hend.out]
          exact zone_ret2 hfin.out.1 hfin.out.2 _ _ 6 7 rfl rfl rfl rfl
        · have hF := ((hZ.out 1 (by omega)).2).resolve_left hnil
          rw [decide_eq_false hnil] at p1
          have hlk := hF.len
          obtain ⟨g, cap, hv, hg⟩ := own_some hO.out (by rw [hlk]; exact sz_pos n)
          injection hv with e1 _ e3
          subst e1 e3
          have hnx : Hid (closedL n (tieL n (Q 1) i.toNat j.toNat c) = Q 2) := Lib.hid (by rw [hQ2.out, if_neg hnil])
          rw [hlk] at p1 z1 S hO hC
          try rw [hlk]
          have hst := Lib.hid (fun W hW => hs1'.out (Q 1) g cb (w.heap.size + 3) W hF hlk hW)
          have hflen : Hid ((tieL n (Q 1) i.toNat j.toNat c).length = sz n) := Lib.hid (by unfold tieL; rw [limL_len, limL_len]; exact hlk)
          have hcl2 := Lib.hid (fun W cap hs => hcl.out (tieL n (Q 1) i.toNat j.toNat c) W g cap hflen.out hs)
          rw [hnx.out] at hcl2
          go_wp2_with fail
          refine p1.out.mono ?_
          rintro e w5 ⟨rfl, b5⟩
          have C5 := Lib.hid (hC.out.on b5)
          have O5 := Lib.hid (own_below hO.out b5)
          clear b5 p1 z0 z1 hcell
          have z0 := C5.out.zb.cell 0
          have z1 := C5.out.zb.cell 1
          have w0 := C5.out.wb.cell 0
          have w1 := C5.out.wb.cell 1
          have w2' := C5.out.wb.cell 2
          have p5 := Lib.hid (hst.out w5 O5.out)
          go_wp2_with fail
          refine p5.out.mono ?_
          rintro e w6 ⟨rfl, o6, b6⟩
          have C6 := Lib.hid (C5.out.onE (by omega) hg b6)
          obtain ⟨b7, c7, hv7, -, ss⟩ := sees_own o6
          have hlen6 := hflen.out
          rw [hlen6] at hv7
          injection hv7 with e1 _ e3
          subst e1 e3
          clear z0 z1 w0 w1 w2' b6 p5
          have z0 := C6.out.zb.cell 0
          have z1 := C6.out.zb.cell 1
          have p6 := Lib.hid (hcl2.out w6 cb ss)
          go_wp2_with fail
          refine p6.out.mono ?_
          rintro e w8 ⟨a8, c8, rfl, o8, b8⟩
          have C8 := C6.out.on b8
          have y0 := C8.zb.cell 0
          have y1 := C8.zb.cell 1
          have f0 := C8.zb.free 0
          have f1 := C8.zb.free 1
          have C9 := Lib.hid (C8.set (.int .i64 n) (.slice a8 (Q 2).length c8))
          have O9 := Lib.hid (own_set (own_from (B := w.heap.size + 3) o8 (fun kk hk => by have := (o8.lt kk hk).1; have := C6.out.sz; omega)) (g := w.heap.size) (by omega) (.int .i64 n) (.slice a8 (Q 2).length c8))
          clear C8 o8 b8 p6 z0 z1
          go_wp2
          go_roundw
          case rel => exact ⟨2, a8, c8, by omega, by go_num, C9, O9⟩
          case measure => simp [intOf]
    · have hke : k = 2 := by omega
      subst hke
      have y0 := hC.out.zb.cell 0
      have y1 := hC.out.zb.cell 1
      have r0 := hC.out.rb.cell 0
      have r1 := hC.out.rb.cell 1
      have g0 := hC.out.rb.free 0
      have g1 := hC.out.rb.free 1
      have hfin := Lib.hid (hfinal.out _ _ _ _ hC.out hO.out)
      go_wp2
      exact zone_ret2 hfin.out.1 hfin.out.2 _ _ 6 7 rfl rfl rfl rfl
end Go.Proofs.YtplgmmjppmpnoaaGreatDoor
/- Zones changed: check, Limit, Forget, Let. (Written by gen-zone-limit.py.) -/
namespace Go.Proofs.YtplgmmjppmpnoaaGreatDoor
open Go.RowKit
set_option linter.unusedVariables false
set_option linter.unusedSimpArgs false

theorem full_near {n : Nat} {l : List Int} (hF : Full n l) {p : Nat} (hp : p < sz n) : -2199023255552 ≤ l.getD p 0 ∧ l.getD p 0 ≤ 2199023255552 := by
  obtain ⟨q1, q2, q3⟩ := place_of hp
  have e : l.getD p 0 = mat n l (p / (n + 1)) (p % (n + 1)) := by unfold mat; rw [q3]
  have h1 := hF.up q1 q2
  have h2 := hF.low q1 q2
  have h3 := widestF_le (p / (n + 1)) (p % (n + 1))
  have h4 := widestF_le (p % (n + 1)) (p / (n + 1))
  omega
/-- What is wrong with a zone, or the numbers of its variables. -/
def chkE (n : Int) (l : List Int) (least i j : Int) : Int := if checkB n l = false then 80 else if i < least ∨ n < i ∨ j < 0 ∨ n < j then 1 else 0
theorem zcheck_bad (n least i j : Int) (a : Option Addr) (m c : Nat) (l : List Int) (w : World) (h : SL w a m c l) (hk : checkB n l = false) : Calls Tryz.prog 88 #[.agg #[.int .i64 n, .slice a m c], .int .i64 least, .int .i64 i, .int .i64 j] w (Gives (.int .i64 80) w) := by
  obtain ⟨W1, hW1⟩ : ∃ W1, W1 = w.alloc (.cells #[.int .i64 n, .slice a m c] 24) := ⟨_, rfl⟩
  have hB : Below w.heap.size w W1 := by rw [hW1]; exact box_below _ _ _
  have Z1 : ZH W1 w.heap.size (.int .i64 n) (.slice a m c) := by rw [hW1]; exact Holds.new w _ _
  have q1 := Lib.hid (dcheck_any n a m c l W1 (h.below hB))
  have hW1' := Lib.hid hW1
  have hB' := Lib.hid hB
  have Z1' := Lib.hid Z1
  clear hW1 hB Z1 h
  rw [show chk n l = 80 by unfold chk; rw [hk]; rfl] at q1
  clear hk
  go_enter Tryz.func88, Tryz.ntmps88
  go_wp2_with fail
  rw [← hW1'.out]
  refine q1.out.mono ?_
  rintro e w2 ⟨rfl, b2⟩
  have k0 := (Z1'.out.below b2 Z1'.out.lt).cell 0
  have bl := Lib.hid (hB'.out.trans (b2.mono hB'.out.size))
  clear b2 q1 Z1' hW1'
  go_wp2
  go_ret
  exact ⟨rfl, bl.out⟩
theorem zcheck_c0 (n least i j : Int) (a : Option Addr) (m c : Nat) (l : List Int) (w : World) (h : SL w a m c l) (hk : checkB n l = true) (d1 : i < least) : Calls Tryz.prog 88 #[.agg #[.int .i64 n, .slice a m c], .int .i64 least, .int .i64 i, .int .i64 j] w (Gives (.int .i64 1) w) := by
  obtain ⟨W1, hW1⟩ : ∃ W1, W1 = w.alloc (.cells #[.int .i64 n, .slice a m c] 24) := ⟨_, rfl⟩
  have hB : Below w.heap.size w W1 := by rw [hW1]; exact box_below _ _ _
  have Z1 : ZH W1 w.heap.size (.int .i64 n) (.slice a m c) := by rw [hW1]; exact Holds.new w _ _
  have q1 := Lib.hid (dcheck_any n a m c l W1 (h.below hB))
  have hW1' := Lib.hid hW1
  have hB' := Lib.hid hB
  have Z1' := Lib.hid Z1
  clear hW1 hB Z1 h
  rw [show chk n l = 0 by unfold chk; rw [hk]; rfl] at q1
  clear hk
  go_enter Tryz.func88, Tryz.ntmps88
  go_wp2_with fail
  rw [← hW1'.out]
  refine q1.out.mono ?_
  rintro e w2 ⟨rfl, b2⟩
  have k0 := (Z1'.out.below b2 Z1'.out.lt).cell 0
  have bl := Lib.hid (hB'.out.trans (b2.mono hB'.out.size))
  clear b2 q1 Z1' hW1'
  go_wp2
  go_ret
  exact ⟨rfl, bl.out⟩
theorem zcheck_c1 (n least i j : Int) (a : Option Addr) (m c : Nat) (l : List Int) (w : World) (h : SL w a m c l) (hk : checkB n l = true) (d1 : ¬ i < least) (d2 : n < i) : Calls Tryz.prog 88 #[.agg #[.int .i64 n, .slice a m c], .int .i64 least, .int .i64 i, .int .i64 j] w (Gives (.int .i64 1) w) := by
  obtain ⟨W1, hW1⟩ : ∃ W1, W1 = w.alloc (.cells #[.int .i64 n, .slice a m c] 24) := ⟨_, rfl⟩
  have hB : Below w.heap.size w W1 := by rw [hW1]; exact box_below _ _ _
  have Z1 : ZH W1 w.heap.size (.int .i64 n) (.slice a m c) := by rw [hW1]; exact Holds.new w _ _
  have q1 := Lib.hid (dcheck_any n a m c l W1 (h.below hB))
  have hW1' := Lib.hid hW1
  have hB' := Lib.hid hB
  have Z1' := Lib.hid Z1
  clear hW1 hB Z1 h
  rw [show chk n l = 0 by unfold chk; rw [hk]; rfl] at q1
  clear hk
  go_enter Tryz.func88, Tryz.ntmps88
  go_wp2_with fail
  rw [← hW1'.out]
  refine q1.out.mono ?_
  rintro e w2 ⟨rfl, b2⟩
  have k0 := (Z1'.out.below b2 Z1'.out.lt).cell 0
  have bl := Lib.hid (hB'.out.trans (b2.mono hB'.out.size))
  clear b2 q1 Z1' hW1'
  go_wp2
  go_ret
  exact ⟨rfl, bl.out⟩
theorem zcheck_c2 (n least i j : Int) (a : Option Addr) (m c : Nat) (l : List Int) (w : World) (h : SL w a m c l) (hk : checkB n l = true) (d1 : ¬ i < least) (d2 : ¬ n < i) (d3 : j < 0) : Calls Tryz.prog 88 #[.agg #[.int .i64 n, .slice a m c], .int .i64 least, .int .i64 i, .int .i64 j] w (Gives (.int .i64 1) w) := by
  obtain ⟨W1, hW1⟩ : ∃ W1, W1 = w.alloc (.cells #[.int .i64 n, .slice a m c] 24) := ⟨_, rfl⟩
  have hB : Below w.heap.size w W1 := by rw [hW1]; exact box_below _ _ _
  have Z1 : ZH W1 w.heap.size (.int .i64 n) (.slice a m c) := by rw [hW1]; exact Holds.new w _ _
  have q1 := Lib.hid (dcheck_any n a m c l W1 (h.below hB))
  have hW1' := Lib.hid hW1
  have hB' := Lib.hid hB
  have Z1' := Lib.hid Z1
  clear hW1 hB Z1 h
  rw [show chk n l = 0 by unfold chk; rw [hk]; rfl] at q1
  clear hk
  go_enter Tryz.func88, Tryz.ntmps88
  go_wp2_with fail
  rw [← hW1'.out]
  refine q1.out.mono ?_
  rintro e w2 ⟨rfl, b2⟩
  have k0 := (Z1'.out.below b2 Z1'.out.lt).cell 0
  have bl := Lib.hid (hB'.out.trans (b2.mono hB'.out.size))
  clear b2 q1 Z1' hW1'
  go_wp2
  go_ret
  exact ⟨rfl, bl.out⟩
theorem zcheck_c3 (n least i j : Int) (a : Option Addr) (m c : Nat) (l : List Int) (w : World) (h : SL w a m c l) (hk : checkB n l = true) (d1 : ¬ i < least) (d2 : ¬ n < i) (d3 : ¬ j < 0) (d4 : n < j) : Calls Tryz.prog 88 #[.agg #[.int .i64 n, .slice a m c], .int .i64 least, .int .i64 i, .int .i64 j] w (Gives (.int .i64 1) w) := by
  obtain ⟨W1, hW1⟩ : ∃ W1, W1 = w.alloc (.cells #[.int .i64 n, .slice a m c] 24) := ⟨_, rfl⟩
  have hB : Below w.heap.size w W1 := by rw [hW1]; exact box_below _ _ _
  have Z1 : ZH W1 w.heap.size (.int .i64 n) (.slice a m c) := by rw [hW1]; exact Holds.new w _ _
  have q1 := Lib.hid (dcheck_any n a m c l W1 (h.below hB))
  have hW1' := Lib.hid hW1
  have hB' := Lib.hid hB
  have Z1' := Lib.hid Z1
  clear hW1 hB Z1 h
  rw [show chk n l = 0 by unfold chk; rw [hk]; rfl] at q1
  clear hk
  go_enter Tryz.func88, Tryz.ntmps88
  go_wp2_with fail
  rw [← hW1'.out]
  refine q1.out.mono ?_
  rintro e w2 ⟨rfl, b2⟩
  have k0 := (Z1'.out.below b2 Z1'.out.lt).cell 0
  have bl := Lib.hid (hB'.out.trans (b2.mono hB'.out.size))
  clear b2 q1 Z1' hW1'
  go_wp2
  go_ret
  exact ⟨rfl, bl.out⟩
theorem zcheck_ok (n least i j : Int) (a : Option Addr) (m c : Nat) (l : List Int) (w : World) (h : SL w a m c l) (hk : checkB n l = true) (d1 : ¬ i < least) (d2 : ¬ n < i) (d3 : ¬ j < 0) (d4 : ¬ n < j) : Calls Tryz.prog 88 #[.agg #[.int .i64 n, .slice a m c], .int .i64 least, .int .i64 i, .int .i64 j] w (Gives (.int .i64 0) w) := by
  obtain ⟨W1, hW1⟩ : ∃ W1, W1 = w.alloc (.cells #[.int .i64 n, .slice a m c] 24) := ⟨_, rfl⟩
  have hB : Below w.heap.size w W1 := by rw [hW1]; exact box_below _ _ _
  have Z1 : ZH W1 w.heap.size (.int .i64 n) (.slice a m c) := by rw [hW1]; exact Holds.new w _ _
  have q1 := Lib.hid (dcheck_any n a m c l W1 (h.below hB))
  have hW1' := Lib.hid hW1
  have hB' := Lib.hid hB
  have Z1' := Lib.hid Z1
  clear hW1 hB Z1 h
  rw [show chk n l = 0 by unfold chk; rw [hk]; rfl] at q1
  clear hk
  go_enter Tryz.func88, Tryz.ntmps88
  go_wp2_with fail
  rw [← hW1'.out]
  refine q1.out.mono ?_
  rintro e w2 ⟨rfl, b2⟩
  have k0 := (Z1'.out.below b2 Z1'.out.lt).cell 0
  have bl := Lib.hid (hB'.out.trans (b2.mono hB'.out.size))
  clear b2 q1 Z1' hW1'
  go_wp2
  go_ret
  exact ⟨rfl, bl.out⟩
theorem zcheck_any (n least i j : Int) (a : Option Addr) (m c : Nat) (l : List Int) (w : World) (h : SL w a m c l) : Calls Tryz.prog 88 #[.agg #[.int .i64 n, .slice a m c], .int .i64 least, .int .i64 i, .int .i64 j] w (Gives (.int .i64 (chkE n l least i j)) w) := by
  unfold chkE
  cases hk : checkB n l
  · rw [if_pos rfl]; exact zcheck_bad n least i j a m c l w h hk
  · rw [if_neg (by decide)]
    by_cases d1 : i < least
    · rw [if_pos (.inl d1)]; exact zcheck_c0 n least i j a m c l w h hk d1
    by_cases d2 : n < i
    · rw [if_pos (.inr (.inl d2))]; exact zcheck_c1 n least i j a m c l w h hk d1 d2
    by_cases d3 : j < 0
    · rw [if_pos (.inr (.inr (.inl d3)))]; exact zcheck_c2 n least i j a m c l w h hk d1 d2 d3
    by_cases d4 : n < j
    · rw [if_pos (.inr (.inr (.inr d4)))]; exact zcheck_c3 n least i j a m c l w h hk d1 d2 d3 d4
    · rw [if_neg (by omega)]; exact zcheck_ok n least i j a m c l w h hk d1 d2 d3 d4
theorem chkE_ok {n : Nat} {l : List Int} (hz : IsZ n l) {least i j : Int} (h1 : least ≤ i) (h2 : i ≤ n) (h3 : 0 ≤ j) (h4 : j ≤ n) : chkE n l least i j = 0 := by
  unfold chkE
  rw [hz.check, if_neg (by decide), if_neg (by omega)]
/-- Two blocks: a zone, and the answer's. -/
structure B1 (w W : World) (x y : Value) : Prop where
  bl : Below w.heap.size w W
  z1 : ZH W w.heap.size x y
  z2 : ZH W (w.heap.size + 1) (.int .i64 0) (.slice none 0 0)
theorem B1.on {w W W' : World} {x y : Value} (h : B1 w W x y) (hb : Below W.heap.size W W') : B1 w W' x y := ⟨h.bl.trans (hb.mono h.bl.size), h.z1.below hb h.z1.lt, h.z2.below hb h.z2.lt⟩
theorem b1_new (w : World) (x y : Value) : B1 w ((w.alloc (.cells #[x, y] 24)).alloc (.cells #[.int .i64 0, .slice none 0 0] 24)) x y := by
  refine ⟨box2_below _ _ _ _ _, (Holds.new w _ _).alloc _, ?_⟩
  have := Holds.new (w.alloc (.cells #[x, y] 24)) 24 #[.int .i64 0, .slice none 0 0]
  simpa using this
theorem fun_row (W : World) (t : TypeId) (cs : Array Value) : ∀ W', Below (W.alloc (.cells cs t)).heap.size (W.alloc (.cells cs t)) W' → ∀ k v, cs[k]? = some v → W'.cell? ⟨W.heap.size, k, none⟩ = some v := by
  intro W' hW' k v hk
  have := ((Holds.new W t cs).below hW' (by simp)).cell k
  rw [this, hk]
set_option maxRecDepth 100000 in
set_option maxHeartbeats 400000 in
theorem zlimit_bad (n i j c : Int) (a : Option Addr) (m ca : Nat) (l : List Int) (w : World) (h : SL w a m ca l) (hne : chkE n l 0 i j ≠ 0) : Calls Tryz.prog 69 #[.agg #[.int .i64 n, .slice a m ca], .int .i64 i, .int .i64 j, .int .i64 c] w (ZoneE 0 [] (chkE n l 0 i j) w) := by
  obtain ⟨W1, hW1⟩ : ∃ W1, W1 = (w.alloc (.cells #[.int .i64 n, .slice a m ca] 24)).alloc (.cells #[.int .i64 0, .slice none 0 0] 24) := ⟨_, rfl⟩
  have X1 : B1 w W1 (.int .i64 n) (.slice a m ca) := by rw [hW1]; exact b1_new _ _ _
  have q1 := Lib.hid (zcheck_any n 0 i j a m ca l W1 (h.below X1.bl))
  have hW1' := Lib.hid hW1
  have X1' := Lib.hid X1
  clear hW1 X1 h
  generalize chkE n l 0 i j = E at *
  have e1 : (E != 0) = true := by simpa using hne
  go_enter Tryz.func69, Tryz.ntmps69
  go_wp2_with fail
  rw [← hW1'.out]
  refine q1.out.mono ?_
  rintro e w2 ⟨rfl, b2⟩
  have X2 := Lib.hid (X1'.out.on b2)
  clear b2 X1' q1
  have y0 := X2.out.z2.cell 0
  have y1 := X2.out.z2.cell 1
  have f0 := X2.out.z2.free 0
  have f1 := X2.out.z2.free 1
  have hfin := Lib.hid (zone_none X2.out.bl (by omega) X2.out.z2 0 E)
  go_wp2
  exact zone_ret2 hfin.out.1 hfin.out.2.1 _ _ 8 9 rfl rfl rfl rfl
set_option maxRecDepth 100000 in
set_option maxHeartbeats 400000 in
theorem zforget_bad (n i : Int) (a : Option Addr) (m ca : Nat) (l : List Int) (w : World) (h : SL w a m ca l) (hne : chkE n l 1 i 0 ≠ 0) : Calls Tryz.prog 68 #[.agg #[.int .i64 n, .slice a m ca], .int .i64 i] w (ZoneE 0 [] (chkE n l 1 i 0) w) := by
  obtain ⟨W1, hW1⟩ : ∃ W1, W1 = (w.alloc (.cells #[.int .i64 n, .slice a m ca] 24)).alloc (.cells #[.int .i64 0, .slice none 0 0] 24) := ⟨_, rfl⟩
  have X1 : B1 w W1 (.int .i64 n) (.slice a m ca) := by rw [hW1]; exact b1_new _ _ _
  have q1 := Lib.hid (zcheck_any n 1 i 0 a m ca l W1 (h.below X1.bl))
  have hW1' := Lib.hid hW1
  have X1' := Lib.hid X1
  clear hW1 X1 h
  generalize chkE n l 1 i 0 = E at *
  have e1 : (E != 0) = true := by simpa using hne
  go_enter Tryz.func68, Tryz.ntmps68
  go_wp2_with fail
  rw [← hW1'.out]
  refine q1.out.mono ?_
  rintro e w2 ⟨rfl, b2⟩
  have X2 := Lib.hid (X1'.out.on b2)
  clear b2 X1' q1
  have y0 := X2.out.z2.cell 0
  have y1 := X2.out.z2.cell 1
  have f0 := X2.out.z2.free 0
  have f1 := X2.out.z2.free 1
  have hfin := Lib.hid (zone_none X2.out.bl (by omega) X2.out.z2 0 E)
  go_wp2
  exact zone_ret2 hfin.out.1 hfin.out.2.1 _ _ 4 5 rfl rfl rfl rfl
set_option maxRecDepth 100000 in
set_option maxHeartbeats 400000 in
theorem zlet_bad (n i j c : Int) (a : Option Addr) (m ca : Nat) (l : List Int) (w : World) (h : SL w a m ca l) (hne : chkE n l 1 i j ≠ 0) : Calls Tryz.prog 67 #[.agg #[.int .i64 n, .slice a m ca], .int .i64 i, .int .i64 j, .int .i64 c] w (ZoneE 0 [] (chkE n l 1 i j) w) := by
  obtain ⟨W1, hW1⟩ : ∃ W1, W1 = (w.alloc (.cells #[.int .i64 n, .slice a m ca] 24)).alloc (.cells #[.int .i64 0, .slice none 0 0] 24) := ⟨_, rfl⟩
  have X1 : B1 w W1 (.int .i64 n) (.slice a m ca) := by rw [hW1]; exact b1_new _ _ _
  have q1 := Lib.hid (zcheck_any n 1 i j a m ca l W1 (h.below X1.bl))
  have hW1' := Lib.hid hW1
  have X1' := Lib.hid X1
  clear hW1 X1 h
  generalize chkE n l 1 i j = E at *
  have e1 : (E != 0) = true := by simpa using hne
  go_enter Tryz.func67, Tryz.ntmps67
  go_wp2_with fail
  rw [← hW1'.out]
  refine q1.out.mono ?_
  rintro e w2 ⟨rfl, b2⟩
  have X2 := Lib.hid (X1'.out.on b2)
  clear b2 X1' q1
  have y0 := X2.out.z2.cell 0
  have y1 := X2.out.z2.cell 1
  have f0 := X2.out.z2.free 0
  have f1 := X2.out.z2.free 1
  have hfin := Lib.hid (zone_none X2.out.bl (by omega) X2.out.z2 0 E)
  go_wp2
  exact zone_ret2 hfin.out.1 hfin.out.2.1 _ _ 8 9 rfl rfl rfl rfl
def limitL (n : Nat) (l : List Int) (i j : Nat) (c : Int) : List Int := stepL n (fun l => limL n l i j c) l
set_option maxRecDepth 100000 in
set_option maxHeartbeats 400000 in
theorem zlimit_ok (n : Nat) (l : List Int) (hz : IsZ n l) (i j : Nat) (hi : i ≤ n) (hj : j ≤ n) (c : Int) (a : Option Addr) (m ca : Nat) (w : World) (h : SL w a m ca l)  : Calls Tryz.prog 69 #[.agg #[.int .i64 n, .slice a m ca], .int .i64 i, .int .i64 j, .int .i64 c] w (ZoneE n (limitL n l i j c) 0 w) := by
  obtain ⟨W1, hW1⟩ : ∃ W1, W1 = (w.alloc (.cells #[.int .i64 n, .slice a m ca] 24)).alloc (.cells #[.int .i64 0, .slice none 0 0] 24) := ⟨_, rfl⟩
  have X1 : B1 w W1 (.int .i64 n) (.slice a m ca) := by rw [hW1]; exact b1_new _ _ _
  have q1 := Lib.hid (zcheck_any n 0 i j a m ca l W1 (h.below X1.bl))
  rw [chkE_ok hz (by omega) (by omega) (by omega) (by omega)] at q1
  have hn := hz.1
  have hS := Lib.hid h
  have q2 := Lib.hid (fun W (hW : Below w.heap.size w W) => change_lim n hn l hz a m ca i j c (fun L g cap base W hF hl ho => by simpa using mlimit_any n hn i j hi hj c g cap base L hl W ho) (W.alloc (.cells #[.func (.func 93) #[] #[]] 94)) ((hS.out.below hW).below (box_below _ _ _)) W.heap.size (by simp) (fun W2 hW2 => fun_row _ _ _ W2 hW2 0 _ rfl))
  rw [show stepL n (fun l => limL n l ((i : Int)).toNat ((j : Int)).toNat c) l = limitL n l i j c from rfl] at q2
  have hW1' := Lib.hid hW1
  have X1' := Lib.hid X1
  have hbb := Lib.hid (fun (W : World) => box_below W #[.func (.func 93) #[] #[]] 94)
  clear hW1 X1 h hz
  generalize (limitL n l i j c) = R at *
  go_enter Tryz.func69, Tryz.ntmps69
  go_wp2_with fail
  rw [← hW1'.out]
  refine q1.out.mono ?_
  rintro e w2 ⟨rfl, b2⟩
  have X2 := Lib.hid (X1'.out.on b2)
  clear b2 X1' q1
  have k0 := X2.out.z1.cell 0
  have k1 := X2.out.z1.cell 1
  have kl := X2.out.z1.lt
  have p2 := Lib.hid (q2.out w2 X2.out.bl)
  go_wp2_with fail
  refine p2.out.mono ?_
  rintro e w7 ⟨a7, c7, rfl, hc7, s7, b7, nw7⟩
  have X3 := X2.out.on (hbb.out w2)
  have Zd := X3.z2.below b7 X3.z2.lt
  have y0 := Zd.cell 0
  have y1 := Zd.cell 1
  have f0 := Zd.free 0
  have f1 := Zd.free 1
  have hfin := Lib.hid (zone_put (n := n) (err := 0) X3.bl (by omega) X3.z2 hc7 s7 b7 nw7)
  clear Zd X3 p2
  go_wp2
  exact zone_ret2 hfin.out.1 hfin.out.2.1 _ _ 8 9 rfl rfl rfl rfl
def forgetL (n : Nat) (l : List Int) (i : Nat) : List Int := stepL n (fun l => forL n l i) l
set_option maxRecDepth 100000 in
set_option maxHeartbeats 400000 in
theorem zforget_ok (n : Nat) (l : List Int) (hz : IsZ n l) (i : Nat) (hi0 : 1 ≤ i) (hi : i ≤ n) (a : Option Addr) (m ca : Nat) (w : World) (h : SL w a m ca l)  : Calls Tryz.prog 68 #[.agg #[.int .i64 n, .slice a m ca], .int .i64 i] w (ZoneE n (forgetL n l i) 0 w) := by
  obtain ⟨W1, hW1⟩ : ∃ W1, W1 = (w.alloc (.cells #[.int .i64 n, .slice a m ca] 24)).alloc (.cells #[.int .i64 0, .slice none 0 0] 24) := ⟨_, rfl⟩
  have X1 : B1 w W1 (.int .i64 n) (.slice a m ca) := by rw [hW1]; exact b1_new _ _ _
  have q1 := Lib.hid (zcheck_any n 1 i 0 a m ca l W1 (h.below X1.bl))
  rw [chkE_ok hz (by omega) (by omega) (by omega) (by omega)] at q1
  have hn := hz.1
  have hS := Lib.hid h
  have q2 := Lib.hid (fun W (hW : Below w.heap.size w W) => change_for n hn l hz a m ca i 0 0 (fun L g cap base W hF hl ho => by simpa using mforget_any n hn i 0 hi (Nat.zero_le _) 0 (by omega) g cap base L hl W ho) (W.alloc (.cells #[.func (.func 91) #[] #[]] 94)) ((hS.out.below hW).below (box_below _ _ _)) W.heap.size (by simp) (fun W2 hW2 => fun_row _ _ _ W2 hW2 0 _ rfl))
  rw [show stepL n (fun l => forL n l ((i : Int)).toNat) l = forgetL n l i from rfl] at q2
  have hW1' := Lib.hid hW1
  have X1' := Lib.hid X1
  have hbb := Lib.hid (fun (W : World) => box_below W #[.func (.func 91) #[] #[]] 94)
  clear hW1 X1 h hz
  generalize (forgetL n l i) = R at *
  go_enter Tryz.func68, Tryz.ntmps68
  go_wp2_with fail
  rw [← hW1'.out]
  refine q1.out.mono ?_
  rintro e w2 ⟨rfl, b2⟩
  have X2 := Lib.hid (X1'.out.on b2)
  clear b2 X1' q1
  have k0 := X2.out.z1.cell 0
  have k1 := X2.out.z1.cell 1
  have kl := X2.out.z1.lt
  have p2 := Lib.hid (q2.out w2 X2.out.bl)
  go_wp2_with fail
  refine p2.out.mono ?_
  rintro e w7 ⟨a7, c7, rfl, hc7, s7, b7, nw7⟩
  have X3 := X2.out.on (hbb.out w2)
  have Zd := X3.z2.below b7 X3.z2.lt
  have y0 := Zd.cell 0
  have y1 := Zd.cell 1
  have f0 := Zd.free 0
  have f1 := Zd.free 1
  have hfin := Lib.hid (zone_put (n := n) (err := 0) X3.bl (by omega) X3.z2 hc7 s7 b7 nw7)
  clear Zd X3 p2
  go_wp2
  exact zone_ret2 hfin.out.1 hfin.out.2.1 _ _ 4 5 rfl rfl rfl rfl
def clampL (c : Int) : Int := max (-4398046511104) (min 4398046511104 c)
def letMovL (n : Nat) (l : List Int) (i : Nat) (c : Int) : List Int := stepL n (fun l => movL n l i c) l
def letTieL (n : Nat) (l : List Int) (i j : Nat) (c : Int) : List Int := stepL n (fun l => tieL n l i j c) (stepL n (fun l => forL n l i) l)
theorem full_all {n : Nat} {l : List Int} (hF : Full n l) (p : Nat) : -2199023255552 ≤ l.getD p 0 ∧ l.getD p 0 ≤ 2199023255552 := by
  by_cases hp : p < sz n
  · have := full_near hF hp; exact this
  · have e : l.getD p 0 = 0 := by simp only [List.getD]; rw [List.getElem?_eq_none (by rw [hF.len]; omega)]; rfl
    rw [e]; omega
set_option maxRecDepth 100000 in
set_option maxHeartbeats 400000 in
theorem zlet_mov_lo (n : Nat) (l : List Int) (hz : IsZ n l) (i : Nat) (hi0 : 1 ≤ i) (hi : i ≤ n) (c : Int) (a : Option Addr) (m ca : Nat) (w : World) (h : SL w a m ca l) (hc1 : c ≤ -4398046511104) : Calls Tryz.prog 67 #[.agg #[.int .i64 n, .slice a m ca], .int .i64 i, .int .i64 i, .int .i64 c] w (ZoneE n (letMovL n l i (-4398046511104)) 0 w) := by
  obtain ⟨W1, hW1⟩ : ∃ W1, W1 = (w.alloc (.cells #[.int .i64 n, .slice a m ca] 24)).alloc (.cells #[.int .i64 0, .slice none 0 0] 24) := ⟨_, rfl⟩
  have X1 : B1 w W1 (.int .i64 n) (.slice a m ca) := by rw [hW1]; exact b1_new _ _ _
  have q1 := Lib.hid (zcheck_any n 1 i i a m ca l W1 (h.below X1.bl))
  rw [chkE_ok hz (by omega) (by omega) (by omega) (by omega)] at q1
  have hn := hz.1
  have hS := Lib.hid h
  have q2 := Lib.hid (fun W (hW : Below w.heap.size w W) => change_mov n hn l hz a m ca i i (-4398046511104) (fun L g cap base W hF hl ho => by simpa using mmove_any n hn i i hi hi (-4398046511104) (by omega) g cap base L hl (full_all hF) W ho) (W.alloc (.cells #[.func (.func 90) #[] #[]] 94)) ((hS.out.below hW).below (box_below _ _ _)) W.heap.size (by simp) (fun W2 hW2 => fun_row _ _ _ W2 hW2 0 _ rfl))
  rw [show stepL n (fun l => movL n l ((i : Int)).toNat (-4398046511104)) l = letMovL n l i (-4398046511104) from rfl] at q2
  have hW1' := Lib.hid hW1
  have X1' := Lib.hid X1
  have hbb := Lib.hid (fun (W : World) => box_below W #[.func (.func 90) #[] #[]] 94)
  clear hW1 X1 h hz
  generalize (letMovL n l i (-4398046511104)) = R at *
  go_enter Tryz.func67, Tryz.ntmps67
  go_wp2_with fail
  rw [← hW1'.out]
  refine q1.out.mono ?_
  rintro e w2 ⟨rfl, b2⟩
  have X2 := Lib.hid (X1'.out.on b2)
  clear b2 X1' q1
  have k0 := X2.out.z1.cell 0
  have k1 := X2.out.z1.cell 1
  have kl := X2.out.z1.lt
  have hwb := Lib.hid (box_below w2 #[.int .i64 i, .int .i64 i, .int .i64 (-4398046511104)] 92)
  have X2b := Lib.hid (X2.out.on hwb.out)
  have p2 := Lib.hid (q2.out _ X2b.out.bl)
  rw [show (w2.alloc (.cells #[.int .i64 i, .int .i64 i, .int .i64 (-4398046511104)] 92)).heap.size = w2.heap.size + 1 by simp] at p2
  clear q2
  go_wp2_with fail
  refine p2.out.mono ?_
  rintro e w7 ⟨a7, c7, rfl, hc7, s7, b7, nw7⟩
  have X3 := X2b.out.on (hbb.out _)
  have Zd := X3.z2.below b7 X3.z2.lt
  have y0 := Zd.cell 0
  have y1 := Zd.cell 1
  have f0 := Zd.free 0
  have f1 := Zd.free 1
  have hfin := Lib.hid (zone_put (n := n) (err := 0) X3.bl (by omega) X3.z2 hc7 s7 b7 nw7)
  clear Zd X3 p2
  go_wp2
  exact zone_ret2 hfin.out.1 hfin.out.2.1 _ _ 8 9 rfl rfl rfl rfl
set_option maxRecDepth 100000 in
set_option maxHeartbeats 400000 in
theorem zlet_tie_lo (n : Nat) (l : List Int) (hz : IsZ n l) (i j : Nat) (hi0 : 1 ≤ i) (hi : i ≤ n) (hj : j ≤ n) (c : Int) (a : Option Addr) (m ca : Nat) (w : World) (h : SL w a m ca l) (hij : i ≠ j) (hc1 : c ≤ -4398046511104) : Calls Tryz.prog 67 #[.agg #[.int .i64 n, .slice a m ca], .int .i64 i, .int .i64 j, .int .i64 c] w (ZoneE n (letTieL n l i j (-4398046511104)) 0 w) := by
  obtain ⟨W1, hW1⟩ : ∃ W1, W1 = (w.alloc (.cells #[.int .i64 n, .slice a m ca] 24)).alloc (.cells #[.int .i64 0, .slice none 0 0] 24) := ⟨_, rfl⟩
  have X1 : B1 w W1 (.int .i64 n) (.slice a m ca) := by rw [hW1]; exact b1_new _ _ _
  have q1 := Lib.hid (zcheck_any n 1 i j a m ca l W1 (h.below X1.bl))
  rw [chkE_ok hz (by omega) (by omega) (by omega) (by omega)] at q1
  have hn := hz.1
  have hij1 : ((i : Int) == (j : Int)) = false := by simp; omega
  have hij2 : ¬ (i : Int) = (j : Int) := by omega
  have hS := Lib.hid h
  have q2 := Lib.hid (fun W (hW : Below w.heap.size w W) => change_tie n hn l hz a m ca i j (-4398046511104) (fun L g cap base W hF hl ho => by simpa using mforget_any n hn i j hi hj (-4398046511104) (by omega) g cap base L hl W ho) (fun L g cap base W hF hl ho => by simpa using mtie_any n hn i j hi hj (-4398046511104) (by omega) g cap base L hl W ho) (W.alloc (.cells #[.func (.func 91) #[] #[], .func (.func 92) #[] #[]] 94)) ((hS.out.below hW).below (box_below _ _ _)) W.heap.size (by simp) (fun W2 hW2 => ⟨fun_row _ _ _ W2 hW2 0 _ rfl, fun_row _ _ _ W2 hW2 1 _ rfl⟩))
  rw [show stepL n (fun l => tieL n l ((i : Int)).toNat ((j : Int)).toNat (-4398046511104)) (stepL n (fun l => forL n l ((i : Int)).toNat) l) = letTieL n l i j (-4398046511104) from rfl] at q2
  have hW1' := Lib.hid hW1
  have X1' := Lib.hid X1
  have hbb := Lib.hid (fun (W : World) => box_below W #[.func (.func 91) #[] #[], .func (.func 92) #[] #[]] 94)
  clear hW1 X1 h hz
  generalize (letTieL n l i j (-4398046511104)) = R at *
  go_enter Tryz.func67, Tryz.ntmps67
  go_wp2_with fail
  rw [← hW1'.out]
  refine q1.out.mono ?_
  rintro e w2 ⟨rfl, b2⟩
  have X2 := Lib.hid (X1'.out.on b2)
  clear b2 X1' q1
  have k0 := X2.out.z1.cell 0
  have k1 := X2.out.z1.cell 1
  have kl := X2.out.z1.lt
  have hwb := Lib.hid (box_below w2 #[.int .i64 i, .int .i64 j, .int .i64 (-4398046511104)] 92)
  have X2b := Lib.hid (X2.out.on hwb.out)
  have p2 := Lib.hid (q2.out _ X2b.out.bl)
  rw [show (w2.alloc (.cells #[.int .i64 i, .int .i64 j, .int .i64 (-4398046511104)] 92)).heap.size = w2.heap.size + 1 by simp] at p2
  clear q2
  go_wp2_with fail
  refine p2.out.mono ?_
  rintro e w7 ⟨a7, c7, rfl, hc7, s7, b7, nw7⟩
  have X3 := X2b.out.on (hbb.out _)
  have Zd := X3.z2.below b7 X3.z2.lt
  have y0 := Zd.cell 0
  have y1 := Zd.cell 1
  have f0 := Zd.free 0
  have f1 := Zd.free 1
  have hfin := Lib.hid (zone_put (n := n) (err := 0) X3.bl (by omega) X3.z2 hc7 s7 b7 nw7)
  clear Zd X3 p2
  go_wp2
  exact zone_ret2 hfin.out.1 hfin.out.2.1 _ _ 8 9 rfl rfl rfl rfl
set_option maxRecDepth 100000 in
set_option maxHeartbeats 400000 in
theorem zlet_mov_hi (n : Nat) (l : List Int) (hz : IsZ n l) (i : Nat) (hi0 : 1 ≤ i) (hi : i ≤ n) (c : Int) (a : Option Addr) (m ca : Nat) (w : World) (h : SL w a m ca l) (hc1 : 4398046511104 ≤ c) : Calls Tryz.prog 67 #[.agg #[.int .i64 n, .slice a m ca], .int .i64 i, .int .i64 i, .int .i64 c] w (ZoneE n (letMovL n l i 4398046511104) 0 w) := by
  obtain ⟨W1, hW1⟩ : ∃ W1, W1 = (w.alloc (.cells #[.int .i64 n, .slice a m ca] 24)).alloc (.cells #[.int .i64 0, .slice none 0 0] 24) := ⟨_, rfl⟩
  have X1 : B1 w W1 (.int .i64 n) (.slice a m ca) := by rw [hW1]; exact b1_new _ _ _
  have q1 := Lib.hid (zcheck_any n 1 i i a m ca l W1 (h.below X1.bl))
  rw [chkE_ok hz (by omega) (by omega) (by omega) (by omega)] at q1
  have hn := hz.1
  have hS := Lib.hid h
  have q2 := Lib.hid (fun W (hW : Below w.heap.size w W) => change_mov n hn l hz a m ca i i 4398046511104 (fun L g cap base W hF hl ho => by simpa using mmove_any n hn i i hi hi 4398046511104 (by omega) g cap base L hl (full_all hF) W ho) (W.alloc (.cells #[.func (.func 90) #[] #[]] 94)) ((hS.out.below hW).below (box_below _ _ _)) W.heap.size (by simp) (fun W2 hW2 => fun_row _ _ _ W2 hW2 0 _ rfl))
  rw [show stepL n (fun l => movL n l ((i : Int)).toNat 4398046511104) l = letMovL n l i 4398046511104 from rfl] at q2
  have hW1' := Lib.hid hW1
  have X1' := Lib.hid X1
  have hbb := Lib.hid (fun (W : World) => box_below W #[.func (.func 90) #[] #[]] 94)
  clear hW1 X1 h hz
  generalize (letMovL n l i 4398046511104) = R at *
  go_enter Tryz.func67, Tryz.ntmps67
  go_wp2_with fail
  rw [← hW1'.out]
  refine q1.out.mono ?_
  rintro e w2 ⟨rfl, b2⟩
  have X2 := Lib.hid (X1'.out.on b2)
  clear b2 X1' q1
  have k0 := X2.out.z1.cell 0
  have k1 := X2.out.z1.cell 1
  have kl := X2.out.z1.lt
  have hwb := Lib.hid (box_below w2 #[.int .i64 i, .int .i64 i, .int .i64 4398046511104] 92)
  have X2b := Lib.hid (X2.out.on hwb.out)
  have p2 := Lib.hid (q2.out _ X2b.out.bl)
  rw [show (w2.alloc (.cells #[.int .i64 i, .int .i64 i, .int .i64 4398046511104] 92)).heap.size = w2.heap.size + 1 by simp] at p2
  clear q2
  go_wp2_with fail
  refine p2.out.mono ?_
  rintro e w7 ⟨a7, c7, rfl, hc7, s7, b7, nw7⟩
  have X3 := X2b.out.on (hbb.out _)
  have Zd := X3.z2.below b7 X3.z2.lt
  have y0 := Zd.cell 0
  have y1 := Zd.cell 1
  have f0 := Zd.free 0
  have f1 := Zd.free 1
  have hfin := Lib.hid (zone_put (n := n) (err := 0) X3.bl (by omega) X3.z2 hc7 s7 b7 nw7)
  clear Zd X3 p2
  go_wp2
  exact zone_ret2 hfin.out.1 hfin.out.2.1 _ _ 8 9 rfl rfl rfl rfl
set_option maxRecDepth 100000 in
set_option maxHeartbeats 400000 in
theorem zlet_tie_hi (n : Nat) (l : List Int) (hz : IsZ n l) (i j : Nat) (hi0 : 1 ≤ i) (hi : i ≤ n) (hj : j ≤ n) (c : Int) (a : Option Addr) (m ca : Nat) (w : World) (h : SL w a m ca l) (hij : i ≠ j) (hc1 : 4398046511104 ≤ c) : Calls Tryz.prog 67 #[.agg #[.int .i64 n, .slice a m ca], .int .i64 i, .int .i64 j, .int .i64 c] w (ZoneE n (letTieL n l i j 4398046511104) 0 w) := by
  obtain ⟨W1, hW1⟩ : ∃ W1, W1 = (w.alloc (.cells #[.int .i64 n, .slice a m ca] 24)).alloc (.cells #[.int .i64 0, .slice none 0 0] 24) := ⟨_, rfl⟩
  have X1 : B1 w W1 (.int .i64 n) (.slice a m ca) := by rw [hW1]; exact b1_new _ _ _
  have q1 := Lib.hid (zcheck_any n 1 i j a m ca l W1 (h.below X1.bl))
  rw [chkE_ok hz (by omega) (by omega) (by omega) (by omega)] at q1
  have hn := hz.1
  have hij1 : ((i : Int) == (j : Int)) = false := by simp; omega
  have hij2 : ¬ (i : Int) = (j : Int) := by omega
  have hS := Lib.hid h
  have q2 := Lib.hid (fun W (hW : Below w.heap.size w W) => change_tie n hn l hz a m ca i j 4398046511104 (fun L g cap base W hF hl ho => by simpa using mforget_any n hn i j hi hj 4398046511104 (by omega) g cap base L hl W ho) (fun L g cap base W hF hl ho => by simpa using mtie_any n hn i j hi hj 4398046511104 (by omega) g cap base L hl W ho) (W.alloc (.cells #[.func (.func 91) #[] #[], .func (.func 92) #[] #[]] 94)) ((hS.out.below hW).below (box_below _ _ _)) W.heap.size (by simp) (fun W2 hW2 => ⟨fun_row _ _ _ W2 hW2 0 _ rfl, fun_row _ _ _ W2 hW2 1 _ rfl⟩))
  rw [show stepL n (fun l => tieL n l ((i : Int)).toNat ((j : Int)).toNat 4398046511104) (stepL n (fun l => forL n l ((i : Int)).toNat) l) = letTieL n l i j 4398046511104 from rfl] at q2
  have hW1' := Lib.hid hW1
  have X1' := Lib.hid X1
  have hbb := Lib.hid (fun (W : World) => box_below W #[.func (.func 91) #[] #[], .func (.func 92) #[] #[]] 94)
  clear hW1 X1 h hz
  generalize (letTieL n l i j 4398046511104) = R at *
  go_enter Tryz.func67, Tryz.ntmps67
  go_wp2_with fail
  rw [← hW1'.out]
  refine q1.out.mono ?_
  rintro e w2 ⟨rfl, b2⟩
  have X2 := Lib.hid (X1'.out.on b2)
  clear b2 X1' q1
  have k0 := X2.out.z1.cell 0
  have k1 := X2.out.z1.cell 1
  have kl := X2.out.z1.lt
  have hwb := Lib.hid (box_below w2 #[.int .i64 i, .int .i64 j, .int .i64 4398046511104] 92)
  have X2b := Lib.hid (X2.out.on hwb.out)
  have p2 := Lib.hid (q2.out _ X2b.out.bl)
  rw [show (w2.alloc (.cells #[.int .i64 i, .int .i64 j, .int .i64 4398046511104] 92)).heap.size = w2.heap.size + 1 by simp] at p2
  clear q2
  go_wp2_with fail
  refine p2.out.mono ?_
  rintro e w7 ⟨a7, c7, rfl, hc7, s7, b7, nw7⟩
  have X3 := X2b.out.on (hbb.out _)
  have Zd := X3.z2.below b7 X3.z2.lt
  have y0 := Zd.cell 0
  have y1 := Zd.cell 1
  have f0 := Zd.free 0
  have f1 := Zd.free 1
  have hfin := Lib.hid (zone_put (n := n) (err := 0) X3.bl (by omega) X3.z2 hc7 s7 b7 nw7)
  clear Zd X3 p2
  go_wp2
  exact zone_ret2 hfin.out.1 hfin.out.2.1 _ _ 8 9 rfl rfl rfl rfl
set_option maxRecDepth 100000 in
set_option maxHeartbeats 400000 in
theorem zlet_mov_in (n : Nat) (l : List Int) (hz : IsZ n l) (i : Nat) (hi0 : 1 ≤ i) (hi : i ≤ n) (c : Int) (a : Option Addr) (m ca : Nat) (w : World) (h : SL w a m ca l) (hc1 : -4398046511104 < c) (hc2 : c < 4398046511104) : Calls Tryz.prog 67 #[.agg #[.int .i64 n, .slice a m ca], .int .i64 i, .int .i64 i, .int .i64 c] w (ZoneE n (letMovL n l i c) 0 w) := by
  obtain ⟨W1, hW1⟩ : ∃ W1, W1 = (w.alloc (.cells #[.int .i64 n, .slice a m ca] 24)).alloc (.cells #[.int .i64 0, .slice none 0 0] 24) := ⟨_, rfl⟩
  have X1 : B1 w W1 (.int .i64 n) (.slice a m ca) := by rw [hW1]; exact b1_new _ _ _
  have q1 := Lib.hid (zcheck_any n 1 i i a m ca l W1 (h.below X1.bl))
  rw [chkE_ok hz (by omega) (by omega) (by omega) (by omega)] at q1
  have hn := hz.1
  have hS := Lib.hid h
  have q2 := Lib.hid (fun W (hW : Below w.heap.size w W) => change_mov n hn l hz a m ca i i c (fun L g cap base W hF hl ho => by simpa using mmove_any n hn i i hi hi c (by omega) g cap base L hl (full_all hF) W ho) (W.alloc (.cells #[.func (.func 90) #[] #[]] 94)) ((hS.out.below hW).below (box_below _ _ _)) W.heap.size (by simp) (fun W2 hW2 => fun_row _ _ _ W2 hW2 0 _ rfl))
  rw [show stepL n (fun l => movL n l ((i : Int)).toNat c) l = letMovL n l i c from rfl] at q2
  have hW1' := Lib.hid hW1
  have X1' := Lib.hid X1
  have hbb := Lib.hid (fun (W : World) => box_below W #[.func (.func 90) #[] #[]] 94)
  clear hW1 X1 h hz
  generalize (letMovL n l i c) = R at *
  go_enter Tryz.func67, Tryz.ntmps67
  go_wp2_with fail
  rw [← hW1'.out]
  refine q1.out.mono ?_
  rintro e w2 ⟨rfl, b2⟩
  have X2 := Lib.hid (X1'.out.on b2)
  clear b2 X1' q1
  have k0 := X2.out.z1.cell 0
  have k1 := X2.out.z1.cell 1
  have kl := X2.out.z1.lt
  have hwb := Lib.hid (box_below w2 #[.int .i64 i, .int .i64 i, .int .i64 c] 92)
  have X2b := Lib.hid (X2.out.on hwb.out)
  have p2 := Lib.hid (q2.out _ X2b.out.bl)
  rw [show (w2.alloc (.cells #[.int .i64 i, .int .i64 i, .int .i64 c] 92)).heap.size = w2.heap.size + 1 by simp] at p2
  clear q2
  go_wp2_with fail
  refine p2.out.mono ?_
  rintro e w7 ⟨a7, c7, rfl, hc7, s7, b7, nw7⟩
  have X3 := X2b.out.on (hbb.out _)
  have Zd := X3.z2.below b7 X3.z2.lt
  have y0 := Zd.cell 0
  have y1 := Zd.cell 1
  have f0 := Zd.free 0
  have f1 := Zd.free 1
  have hfin := Lib.hid (zone_put (n := n) (err := 0) X3.bl (by omega) X3.z2 hc7 s7 b7 nw7)
  clear Zd X3 p2
  go_wp2
  exact zone_ret2 hfin.out.1 hfin.out.2.1 _ _ 8 9 rfl rfl rfl rfl
set_option maxRecDepth 100000 in
set_option maxHeartbeats 400000 in
theorem zlet_tie_in (n : Nat) (l : List Int) (hz : IsZ n l) (i j : Nat) (hi0 : 1 ≤ i) (hi : i ≤ n) (hj : j ≤ n) (c : Int) (a : Option Addr) (m ca : Nat) (w : World) (h : SL w a m ca l) (hij : i ≠ j) (hc1 : -4398046511104 < c) (hc2 : c < 4398046511104) : Calls Tryz.prog 67 #[.agg #[.int .i64 n, .slice a m ca], .int .i64 i, .int .i64 j, .int .i64 c] w (ZoneE n (letTieL n l i j c) 0 w) := by
  obtain ⟨W1, hW1⟩ : ∃ W1, W1 = (w.alloc (.cells #[.int .i64 n, .slice a m ca] 24)).alloc (.cells #[.int .i64 0, .slice none 0 0] 24) := ⟨_, rfl⟩
  have X1 : B1 w W1 (.int .i64 n) (.slice a m ca) := by rw [hW1]; exact b1_new _ _ _
  have q1 := Lib.hid (zcheck_any n 1 i j a m ca l W1 (h.below X1.bl))
  rw [chkE_ok hz (by omega) (by omega) (by omega) (by omega)] at q1
  have hn := hz.1
  have hij1 : ((i : Int) == (j : Int)) = false := by simp; omega
  have hij2 : ¬ (i : Int) = (j : Int) := by omega
  have hS := Lib.hid h
  have q2 := Lib.hid (fun W (hW : Below w.heap.size w W) => change_tie n hn l hz a m ca i j c (fun L g cap base W hF hl ho => by simpa using mforget_any n hn i j hi hj c (by omega) g cap base L hl W ho) (fun L g cap base W hF hl ho => by simpa using mtie_any n hn i j hi hj c (by omega) g cap base L hl W ho) (W.alloc (.cells #[.func (.func 91) #[] #[], .func (.func 92) #[] #[]] 94)) ((hS.out.below hW).below (box_below _ _ _)) W.heap.size (by simp) (fun W2 hW2 => ⟨fun_row _ _ _ W2 hW2 0 _ rfl, fun_row _ _ _ W2 hW2 1 _ rfl⟩))
  rw [show stepL n (fun l => tieL n l ((i : Int)).toNat ((j : Int)).toNat c) (stepL n (fun l => forL n l ((i : Int)).toNat) l) = letTieL n l i j c from rfl] at q2
  have hW1' := Lib.hid hW1
  have X1' := Lib.hid X1
  have hbb := Lib.hid (fun (W : World) => box_below W #[.func (.func 91) #[] #[], .func (.func 92) #[] #[]] 94)
  clear hW1 X1 h hz
  generalize (letTieL n l i j c) = R at *
  go_enter Tryz.func67, Tryz.ntmps67
  go_wp2_with fail
  rw [← hW1'.out]
  refine q1.out.mono ?_
  rintro e w2 ⟨rfl, b2⟩
  have X2 := Lib.hid (X1'.out.on b2)
  clear b2 X1' q1
  have k0 := X2.out.z1.cell 0
  have k1 := X2.out.z1.cell 1
  have kl := X2.out.z1.lt
  have hwb := Lib.hid (box_below w2 #[.int .i64 i, .int .i64 j, .int .i64 c] 92)
  have X2b := Lib.hid (X2.out.on hwb.out)
  have p2 := Lib.hid (q2.out _ X2b.out.bl)
  rw [show (w2.alloc (.cells #[.int .i64 i, .int .i64 j, .int .i64 c] 92)).heap.size = w2.heap.size + 1 by simp] at p2
  clear q2
  go_wp2_with fail
  refine p2.out.mono ?_
  rintro e w7 ⟨a7, c7, rfl, hc7, s7, b7, nw7⟩
  have X3 := X2b.out.on (hbb.out _)
  have Zd := X3.z2.below b7 X3.z2.lt
  have y0 := Zd.cell 0
  have y1 := Zd.cell 1
  have f0 := Zd.free 0
  have f1 := Zd.free 1
  have hfin := Lib.hid (zone_put (n := n) (err := 0) X3.bl (by omega) X3.z2 hc7 s7 b7 nw7)
  clear Zd X3 p2
  go_wp2
  exact zone_ret2 hfin.out.1 hfin.out.2.1 _ _ 8 9 rfl rfl rfl rfl
end Go.Proofs.YtplgmmjppmpnoaaGreatDoor
/- Zones and intervals: val.Clip, Neg; itv.None, All, Of, Meet; zone.Itv. -/
namespace Go.Proofs.YtplgmmjppmpnoaaGreatDoor
open Go.RowKit
set_option linter.unusedVariables false
set_option linter.unusedSimpArgs false

def clipV (n : Int) : Int := if 1099511627776 < n then 1099511627776 else if n < -1099511627776 then -1099511627776 else n
theorem clipV_id {n : Int} (h0 : -1099511627776 ≤ n) (h1 : n ≤ 1099511627776) : clipV n = n := by unfold clipV; rw [if_neg (by omega), if_neg (by omega)]
theorem clipV_in (n : Int) : -1099511627776 ≤ clipV n ∧ clipV n ≤ 1099511627776 := by unfold clipV; split <;> (try split) <;> omega
theorem vclip_any (n : Int) (w : World) : Calls Tryz.prog 103 #[.int .i64 n] w (Tells (.int .i64 (clipV n)) w) := by
  have hf : Hid (clipV n = if 1099511627776 < n then 1099511627776 else if n < -1099511627776 then -1099511627776 else n) := Lib.hid rfl
  generalize clipV n = F at *
  go_enter Tryz.func103, Tryz.ntmps103
  go_wp2
  all_goals (go_ret; refine ⟨ret_int ?_, rfl⟩; rw [hf.out]; clear hf; grind)
theorem info_itv : (Tryz.prog.info? 58).map (·.size) = some 2 := by kernel_rfl
abbrev HI (w : World) (g : Nat) (x y : Int) : Prop := Holds w g 58 #[.int .i64 x, .int .i64 y]
theorem hi_set {w : World} {g : Nat} {a b : Int} (h : HI w g a b) (x y : Int) : HI ((w.setCell ⟨g, 0, none⟩ (.int .i64 x)).setCell ⟨g, 1, none⟩ (.int .i64 y)) g x y := by
  have h1 := (h.set 0 (.int .i64 x)).set 1 (.int .i64 y)
  simpa using h1
theorem itv_ret {Q : Ending → World → Prop} {w : World} {g : Nat} {x y : Int} (hg : HI w g x y) (hQ : Q (.returned (.agg #[.int .i64 x, .int .i64 y])) w) (act : Act) (f : Func) (n : Nat) (hf : f.results = #[.cell n 58]) (ha : act.tmps.getD n undef = .pointer (some ⟨g, 0, none⟩)) (hd : act.defers = []) :
    bodyPost Tryz.prog f Q Exit.ret act w :=
  bodyPost_ret (results_cell_row hf _ _ g 58 #[.int .i64 x, .int .i64 y] (0, 0) _ ha hg Tryz.underlying58 rfl (by rw [info_itv]; rfl)) hd hQ
theorem itv_ret2 {Q : Ending → World → Prop} {w : World} {g : Nat} {x y : Int} {u : Value} (hg : HI w g x y) (hQ : Q (.returned (.tuple #[.agg #[.int .i64 x, .int .i64 y], u])) w) (act : Act) (f : Func) (n m : Nat) (hf : f.results = #[.cell n 58, .tmp m]) (ha : act.tmps.getD n undef = .pointer (some ⟨g, 0, none⟩)) (hm : act.tmps.getD m undef = u) (hd : act.defers = []) :
    bodyPost Tryz.prog f Q Exit.ret act w := by
  refine bodyPost_ret (v := .tuple #[.agg #[.int .i64 x, .int .i64 y], u]) ?_ hd hQ
  rw [results_cell_tmp hf, ha, hm]
  simp [asAddr, run_loadVar_row w g 58 58 #[.int .i64 x, .int .i64 y] (0, 0) _ hg Tryz.underlying58 rfl (by rw [info_itv]; rfl), Result.andThen]
def ofP (a b : Int) : Int × Int := if b < a ∨ 1099511627776 < a ∨ b < -1099511627776 then (1, 0) else (clipV a, clipV b)
def itvL (n : Nat) (l : List Int) (i : Nat) : Int × Int := if l = [] then (1, 0) else (-(mat n l 0 i), mat n l i 0)
theorem of_near {a b : Int} (h : a ≤ b) (h1 : -1099511627776 ≤ a) (h2 : b ≤ 1099511627776) : ofP a b = (a, b) := by
  unfold ofP
  rw [if_neg (by omega), clipV_id h1 (by omega), clipV_id (by omega) h2]
/-- Blocks of a zone and of an interval. -/
structure B1i (w W : World) (x y : Value) : Prop where
  bl : Below w.heap.size w W
  z1 : ZH W w.heap.size x y
  z2 : HI W (w.heap.size + 1) 0 0
theorem B1i.on {w W W' : World} {x y : Value} (h : B1i w W x y) (hb : Below W.heap.size W W') : B1i w W' x y := ⟨h.bl.trans (hb.mono h.bl.size), h.z1.below hb h.z1.lt, h.z2.below hb h.z2.lt⟩
theorem b1i_new (w : World) (x y : Value) : B1i w ((w.alloc (.cells #[x, y] 24)).alloc (.cells #[.int .i64 0, .int .i64 0] 58)) x y := by
  refine ⟨box2_below _ _ _ _ _, (Holds.new w _ _).alloc _, ?_⟩
  have := Holds.new (w.alloc (.cells #[x, y] 24)) 58 #[.int .i64 0, .int .i64 0]
  simpa using this
theorem hi_fin {w W : World} {x y : Value} (h : B1i w W x y) (a b : Int) (E : Value) : HI ((W.setCell ⟨w.heap.size + 1, 0, none⟩ (.int .i64 a)).setCell ⟨w.heap.size + 1, 1, none⟩ (.int .i64 b)) (w.heap.size + 1) a b ∧ Gives (.tuple #[.agg #[.int .i64 a, .int .i64 b], E]) w (.returned (.tuple #[.agg #[.int .i64 a, .int .i64 b], E])) ((W.setCell ⟨w.heap.size + 1, 0, none⟩ (.int .i64 a)).setCell ⟨w.heap.size + 1, 1, none⟩ (.int .i64 b)) :=
  ⟨hi_set h.z2 a b, rfl, (h.bl.setCell (p := ⟨w.heap.size + 1, 0, none⟩) (by show _ ≤ _ + 1; omega) _).setCell (p := ⟨w.heap.size + 1, 1, none⟩) (by show _ ≤ _ + 1; omega) _⟩
end Go.Proofs.YtplgmmjppmpnoaaGreatDoor
/- Zones and intervals: Box. (Written by gen-zone-box.py.) -/
namespace Go.Proofs.YtplgmmjppmpnoaaGreatDoor
open Go.RowKit
set_option linter.unusedVariables false
set_option linter.unusedSimpArgs false

/-- A slice of intervals. -/
def ItS (B : Nat) (w : World) (a : Option Addr) (xs : List (Int × Int)) : Prop :=
  xs = [] ∨ ∃ b off, a = some ⟨b, off, none⟩ ∧ b < B ∧ ∀ k, k < xs.length → w.cell? ⟨b, off + k * 2, none⟩ = some (.int .i64 (xs.getD k (0, 0)).1) ∧ w.cell? ⟨b, off + k * 2 + 1, none⟩ = some (.int .i64 (xs.getD k (0, 0)).2)
theorem ItS.below {B : Nat} {w w' : World} {a : Option Addr} {xs : List (Int × Int)} (h : ItS B w a xs) (hb : Below B w w') : ItS B w' a xs := by
  rcases h with h | ⟨b, off, e, hB, h⟩
  · exact .inl h
  · exact .inr ⟨b, off, e, hB, fun k hk => ⟨(hb.cell (p := ⟨b, _, none⟩) hB).trans (h k hk).1, (hb.cell (p := ⟨b, _, none⟩) hB).trans (h k hk).2⟩⟩
theorem ItS.at_ {B : Nat} {w : World} {a : Option Addr} {xs : List (Int × Int)} (h : ItS B w a xs) {k : Nat} (hk : k < xs.length) : ∃ b off, a = some ⟨b, off, none⟩ ∧ b < B ∧ w.cell? ⟨b, off + k * 2, none⟩ = some (.int .i64 (xs.getD k (0, 0)).1) ∧ w.cell? ⟨b, off + k * 2 + 1, none⟩ = some (.int .i64 (xs.getD k (0, 0)).2) := by
  rcases h with h | ⟨b, off, e, hB, h⟩
  · rw [h] at hk; simp at hk
  · exact ⟨b, off, e, hB, (h k hk).1, (h k hk).2⟩
def boxP (xs : List (Int × Int)) (k : Nat) : Int × Int := ofP (xs.getD k (0, 0)).1 (xs.getD k (0, 0)).2
def boxK (n : Nat) (xs : List (Int × Int)) : Nat → List Int
  | 0 => allL n
  | k + 1 => limL n (limL n (boxK n xs k) (k + 1) 0 (boxP xs k).2) 0 (k + 1) (-(clipV (boxP xs k).1))
theorem boxK_len (n : Nat) (xs : List (Int × Int)) (k : Nat) : (boxK n xs k).length = sz n := by
  induction k with
  | zero => exact matL_len _ _
  | succ k ih => simp only [boxK]; rw [limL_len, limL_len, ih]
/-- What Box has in hand. -/
structure Bq (w W : World) (g gz : Nat) (n : Nat) (s cap : Nat) : Prop where
  bl : Below w.heap.size w W
  hgz : w.heap.size < gz
  hsz : gz + 2 ≤ W.heap.size
  rb : ZH W w.heap.size (.int .i64 0) (.slice none 0 0)
  zb : ZH W gz (.int .i64 n) (.slice (some ⟨g, 0, none⟩) s cap)
  mb : Holds W (gz + 1) 97 #[.int .i64 n, .slice (some ⟨g, 0, none⟩) s cap]
theorem Bq.on {w W W' : World} {g gz n s cap : Nat} (h : Bq w W g gz n s cap) (hb : Below W.heap.size W W') : Bq w W' g gz n s cap := ⟨h.bl.trans (hb.mono h.bl.size), h.hgz, Nat.le_trans h.hsz hb.size, h.rb.below hb h.rb.lt, h.zb.below hb h.zb.lt, h.mb.below hb h.mb.lt⟩
theorem Bq.onE {w W W' : World} {g gz n s cap : Nat} (h : Bq w W g gz n s cap) (hg : w.heap.size < g) (hgz : g < gz) (hb : BelowE [g] W.heap.size W W') : Bq w W' g gz n s cap :=
  ⟨h.bl.trans (BelowE.none ((hb.mono h.bl.size).less (by intro x hx hlt; simp at hx; omega))), h.hgz, Nat.le_trans h.hsz hb.size, h.rb.belowE hb h.rb.lt (by simp; omega), h.zb.belowE hb h.zb.lt (by simp; omega), h.mb.belowE hb h.mb.lt (by simp; omega)⟩
theorem Bq.set {w W : World} {g gz n s cap q : Nat} (h : Bq w W g gz n s cap) (hq : gz + 2 ≤ q) (u v : Value) : Bq w ((W.setCell ⟨q, 0, none⟩ u).setCell ⟨q, 1, none⟩ v) g gz n s cap :=
  ⟨(h.bl.setCell (p := ⟨q, 0, none⟩) (by have := h.hgz; show _ ≤ q; omega) _).setCell (p := ⟨q, 1, none⟩) (by have := h.hgz; show _ ≤ q; omega) _, h.hgz, by simpa using h.hsz,
   (h.rb.far (p := ⟨q, 0, none⟩) (by have := h.hgz; show _ ≠ q; omega) _).far (p := ⟨q, 1, none⟩) (by have := h.hgz; show _ ≠ q; omega) _, (h.zb.far (p := ⟨q, 0, none⟩) (by show _ ≠ q; omega) _).far (p := ⟨q, 1, none⟩) (by show _ ≠ q; omega) _, (h.mb.far (p := ⟨q, 0, none⟩) (by show _ ≠ q; omega) _).far (p := ⟨q, 1, none⟩) (by show _ ≠ q; omega) _⟩
theorem own_set2 {w : World} {base g q : Nat} {e : TypeId} {m n c : Nat} {xs : List Value} (h : w.ownsRow base e 1 (.slice (some ⟨g, 0, none⟩) m c) n xs) (hg : g ≠ q) (u v : Value) : ((w.setCell ⟨q, 0, none⟩ u).setCell ⟨q, 1, none⟩ v).ownsRow base e 1 (.slice (some ⟨g, 0, none⟩) m c) n xs := by
  have hE : BelowE [q] w.heap.size w ((w.setCell ⟨q, 0, none⟩ u).setCell ⟨q, 1, none⟩ v) := ((BelowE.refl _ _ _).setIn (p := ⟨q, 0, none⟩) (by simp) _).setIn (p := ⟨q, 1, none⟩) (by simp) _
  exact own_belowE h hE (fun k hk => by simp [Value.ownBlock] at hk; simp; omega)
end Go.Proofs.YtplgmmjppmpnoaaGreatDoor
/- Zones put together: lives. (Written by gen-zone-lives.py.) -/
namespace Go.Proofs.YtplgmmjppmpnoaaGreatDoor
open Go.RowKit
set_option linter.unusedVariables false
set_option linter.unusedSimpArgs false

def lZ : List Int := [0, 0, -3, 1099511627776, 0, 1099511627773, 5, 5, 0]
def lY : List Int := [0, -1, -3, 1099511627776, 0, 1099511627773, 5, 4, 0]
def lV : List Int := [0, -2, -3, 4, 0, -1, 5, 1, 0]
theorem lZ_is : closedL 2 (boxK 2 [(0, 1099511627776), (3, 5)] 2) = lZ := by decide +kernel
theorem lY_is : letMovL 2 lZ 1 1 = lY := by decide +kernel
theorem lV_is : letTieL 2 lZ 1 2 (-1) = lV := by decide +kernel
theorem lZ_full : Full 2 lZ := ⟨by omega, rfl, by decide, by decide +kernel⟩
theorem lY_full : Full 2 lY := ⟨by omega, rfl, by decide, by decide +kernel⟩
theorem lV_full : Full 2 lV := ⟨by omega, rfl, by decide, by decide +kernel⟩
theorem zq (l : List Int) (h : Full 2 l) : IsZ 2 l := ⟨by omega, .inr h⟩
theorem t2_any (W : World) (a : Option Addr) (c : Nat) (h : SL W a 9 c lZ) : Calls Tryz.prog 67 #[.agg #[.int .i64 2, .slice a 9 c], .int .i64 1, .int .i64 1, .int .i64 1] W (EndsZ 2 0 9 lY W) := by
  have h := zlet_mov_in 2 lZ (zq _ lZ_full) 1 (by omega) (by omega) 1 a 9 c W h (by omega) (by omega)
  rw [lY_is] at h
  exact h.mono (fun e w' he => ends_of rfl (by decide) he)
theorem t4_any (W : World) (a : Option Addr) (c : Nat) (h : SL W a 9 c lZ) : Calls Tryz.prog 67 #[.agg #[.int .i64 2, .slice a 9 c], .int .i64 1, .int .i64 2, .int .i64 (-1)] W (EndsZ 2 0 9 lV W) := by
  have h := zlet_tie_in 2 lZ (zq _ lZ_full) 1 2 (by omega) (by omega) (by omega) (-1) a 9 c W h (by omega) (by omega) (by omega)
  rw [lV_is] at h
  exact h.mono (fun e w' he => ends_of rfl (by decide) he)
theorem t5_any (W : World) (a : Option Addr) (c : Nat) (h : SL W a 9 c lV) : Calls Tryz.prog 14 #[.agg #[.int .i64 2, .slice a 9 c], .int .i64 1, .int .i64 2] W (Gives (.tuple #[.int .i64 (-1), .bool true]) W) := by
  have h := bound_full lV_full (i := 1) (j := 2) (by omega) (by omega) a 9 c W h
  rwa [show mat 2 lV 1 2 = -1 by decide +kernel] at h
theorem t6_any (W : World) (a1 a2 : Option Addr) (c1 c2 : Nat) (h1 : SL W a1 9 c1 lY) (h2 : SL W a2 9 c2 lZ) : Calls Tryz.prog 19 #[.agg #[.int .i64 2, .slice a1 9 c1], .agg #[.int .i64 2, .slice a2 9 c2]] W (Gives (.tuple #[.bool true, .int .i64 0]) W) := by
  have h := zleq_ok a1 a2 9 9 c1 c2 lY lZ 2 (zq _ lY_full) (zq _ lZ_full) W h1 h2
  rwa [show leqB lY lZ = true by decide +kernel] at h
theorem t8_any (W : World) (a1 a2 : Option Addr) (c1 c2 : Nat) (h1 : SL W a1 9 c1 lZ) (h2 : SL W a2 9 c2 lV) : Calls Tryz.prog 18 #[.agg #[.int .i64 2, .slice a1 9 c1], .agg #[.int .i64 2, .slice a2 9 c2]] W (EndsZ 2 0 9 lZ W) := by
  have h := zjoin_ok a1 a2 9 9 c1 c2 lZ lV 2 (zq _ lZ_full) (zq _ lV_full) W h1 h2
  rw [show joinL 2 lZ lV = lZ by decide +kernel] at h
  exact h.mono (fun e w' he => ends_of rfl (by decide) he)
theorem t9_any (W : World) (a : Option Addr) (c : Nat) (h : SL W a 9 c lZ) : Calls Tryz.prog 69 #[.agg #[.int .i64 2, .slice a 9 c], .int .i64 0, .int .i64 3, .int .i64 1] W (EndsZ 0 1 0 [] W) := by
  have e : chkE 2 lZ 0 0 3 = 1 := by decide +kernel
  have h := zlimit_bad 2 0 3 1 a 9 c lZ W h (by rw [e]; decide)
  rw [e] at h
  exact h.mono (fun e w' he => ends_of rfl (by decide) he)
theorem t10_any (W : World) : Calls Tryz.prog 68 #[.agg #[.int .i64 9, .slice none 0 0], .int .i64 1] W (EndsZ 0 80 0 [] W) := by
  have e : chkE 9 [] 1 1 0 = 80 := by decide +kernel
  have h := zforget_bad 9 1 none 0 0 [] W (SL.nil W) (by rw [e]; decide)
  rw [e] at h
  exact h.mono (fun e w' he => ends_of rfl (by decide) he)
end Go.Proofs.YtplgmmjppmpnoaaGreatDoor
