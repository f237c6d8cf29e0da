/- One call of a disk, and of the document's: kinds 1 and 7; any. (Written by gen-filedo2.py.) -/
import Derived.Test.YtjhakmpinloioaaFileDo
import Derived.Test.YtjhakmpinloioaaFileFull
namespace Go.Proofs.Ytjhakmpinloioaa
open Go.RowKit
set_option linter.unusedVariables false
set_option linter.unusedSimpArgs false
set_option maxRecDepth 100000 in
theorem do_1 (d : Nat) (F : List Nat) (x : Nat) (s : St) (n k : Int) (hk : k ≤ 9223372036854775807) (A : Option Addr) (m c : Nat) (w : World) (b : List Int) (hm : b.length = m) (hmc : m ≤ c) (hbl : b.length ≤ 50000000) (hA : SeesE (x :: F) .u8 w.heap.size w A b) (h : Pr w d F x s) :
    Calls Try.prog 11 #[.pointer (some ⟨d, 0, none⟩), .pointer (some ⟨x, 0, none⟩), .agg #[.int .i64 1, .int .i64 n, .int .i64 k, .slice A m c]] w (Does w d F x) := by
  obtain ⟨W0, hW0, hB, hH, hS⟩ := one_box w #[.int .i64 1, .int .i64 n, .int .i64 k, .slice A m c] 32
  have k0 := hH.cell 0
  have k1 := hH.cell 1
  have k2 := hH.cell 2
  have k3 := hH.cell 3
  simp at k0 k1 k2 k3
  have hP := h.below hB
  have hall := h.dk.all
  have gw : w.heap.size ∉ x :: F := by
    intro hm
    rcases List.mem_cons.1 hm with h1 | h1
    · have := h.rk.lt; omega
    · have := hall _ h1; omega
  have l0 : w.heap.size < W0.heap.size := by omega
  have f1 : ∀ W', BelowE (x :: F) W0.heap.size W0 W' → W'.cell? ⟨w.heap.size, 1, none⟩ = some (.int .i64 n) := fun W' h => (h.cell (p := ⟨w.heap.size, 1, none⟩) l0 gw).trans k1
  have f2 : ∀ W', BelowE (x :: F) W0.heap.size W0 W' → W'.cell? ⟨w.heap.size, 2, none⟩ = some (.int .i64 k) := fun W' h => (h.cell (p := ⟨w.heap.size, 2, none⟩) l0 gw).trans k2
  have hB' := Lib.hid hB
  have hP' := Lib.hid hP
  have hW0' := Lib.hid hW0
  obtain ⟨i0, hi, hz0, hz1, hz2⟩ := info_parts infoU8'
  have f3 : ∀ W', BelowE (x :: F) W0.heap.size W0 W' → W'.cell? ⟨w.heap.size, 3, none⟩ = some (.slice A m c) := fun W' h => (h.cell (p := ⟨w.heap.size, 3, none⟩) l0 gw).trans k3
  have hA0 : SeesE (x :: F) .u8 W0.heap.size W0 A b := (hA.belowE (.of hB)).mono hB.size
  have hcv : ∀ W', BelowE (x :: F) W0.heap.size W0 W' → (convert 30 9 (.slice A m c)).run Try.prog W' = .ok (.string (strOfNums b)) W' := fun W' h => conv_sees _ 9 5 Try.underlying30 Try.underlying5 Try.underlying9 (hA0.belowE h).sees m c hm.symm
  have bA : Below W0.heap.size W0 (W0.alloc (.cells #[] 5)) := (Below.refl _ _).alloc (Nat.le_refl _) _
  have oA := World.ownsRow_made (e := 5) (size := 1) (base := 0) W0 #[] 0 (Nat.zero_le _) (by decide) (by simp)
  have sA : Sees .u8 W0.heap.size (W0.alloc (.cells #[] 5)).drew A b := (hA0.sees.below bA.drew)
  have hdx : d < W0.heap.size := hP.dk.lt
  have hFx := hP.dk.all
  have c1 := fun (w1 : World) (a1 : Option Addr) (q1 : Nat) (b1 : Below W0.heap.size W0 w1) (hs : SeesE [d] .u8 w1.heap.size w1 a1 b) (hq : m ≤ q1) => write_any d F s n a1 m q1 b w1 (hP.dk.below b1) hP.fine hm.symm hs hq hbl
  have c2 := fun w2 F1 (t : Turns F F1 W0 w2) => rwrite_any x s n b w2 (hP.mid t) hP.fine hbl
  have hfin := fine_write hP.fine n b
  generalize writeO s n b = r at *
  obtain ⟨rv, rs⟩ := r
  have c1' := Lib.hid c1
  have c2' := Lib.hid c2
  have hfin' := Lib.hid hfin
  have bA' := Lib.hid bA
  have oA' := Lib.hid oA
  have sA' := Lib.hid sA
  have hm' := Lib.hid hm
  have hbl' := Lib.hid hbl
  have hFx' := Lib.hid hFx
  clear hW0 hB hP hH hS h hall gw l0 c1 c2 hfin bA oA sA hA hA0 hm hbl hmc hFx k1 k2 k3 hk f2
  go_enter Try.func11, Try.ntmps11
  go_wp2
  rw [← hW0'.out]
  refine wp_drawn_on (fun W' => BelowE (x :: F) W0.heap.size W0 W') (by kernel_rfl) ((BelowE.refl _ _ _).drew) (fun hHeld => ?_)
  refine wpAnyH_take (i := 0) (oi := { dst := some 15, op := Go.Op.move (Go.Operand.tmp 0), type := 25, pos := "law.go:32", after := #[], guard := none }) (v := ?v1) rfl (by kernel_rfl) (by kernel_rfl) (by kernel_rfl) (fun _ _ _ h => h) (Or.inl ⟨by kernel_rfl, ?h1⟩) (by assumption) ?r1
  case h1 => (intro w hSw; (try dsimp only at hSw); go_simp; try with_reducible rfl)
  try simp only [Act.put, List.setIfInBounds_toArray, List.set_cons_zero, List.set_cons_succ]
  refine wpAnyH_take (i := 1) (oi := { dst := some 16, op := Go.Op.fieldAddr 32 (Go.Operand.tmp 5) 1, type := 0, pos := "law.go:32", after := #[], guard := none }) (v := ?v2) rfl (by kernel_rfl) (by kernel_rfl) (by kernel_rfl) (fun _ _ _ h => h) (Or.inl ⟨by kernel_rfl, ?h2⟩) (by assumption) ?r2
  case h2 => (intro w hSw; (try dsimp only at hSw); go_simp; try with_reducible rfl)
  try simp only [Act.put, List.setIfInBounds_toArray, List.set_cons_zero, List.set_cons_succ]
  refine wpAnyH_take (i := 2) (oi := { dst := some 17, op := Go.Op.load 3 (Go.Operand.tmp 16), type := 3, pos := "law.go:32", after := #[{ on := 1, ground := Go.Ground.data }], guard := none }) (v := ?v3) rfl (by kernel_rfl) (by kernel_rfl) (by kernel_rfl) (fun _ _ _ h => h) (Or.inl ⟨by kernel_rfl, ?h3⟩) (by assumption) ?r3
  case h3 => (intro w hSw; (try dsimp only at hSw); go_simp; try with_reducible rfl)
  try simp only [Act.put, List.setIfInBounds_toArray, List.set_cons_zero, List.set_cons_succ]
  refine wpAnyH_take (i := 4) (oi := { dst := some 19, op := Go.Op.fieldAddr 32 (Go.Operand.tmp 5) 3, type := 0, pos := "law.go:32", after := #[], guard := none }) (v := ?v4) rfl (by kernel_rfl) (by kernel_rfl) (by kernel_rfl) (fun _ _ _ h => h) (Or.inl ⟨by kernel_rfl, ?h4⟩) (by assumption) ?r4
  case h4 => (intro w hSw; (try dsimp only at hSw); go_simp; try with_reducible rfl)
  try simp only [Act.put, List.setIfInBounds_toArray, List.set_cons_zero, List.set_cons_succ]
  refine wpAnyH_take (i := 5) (oi := { dst := some 20, op := Go.Op.load 30 (Go.Operand.tmp 19), type := 30, pos := "law.go:32", after := #[{ on := 4, ground := Go.Ground.data }], guard := none }) (v := ?v5) rfl (by kernel_rfl) (by kernel_rfl) (by kernel_rfl) (fun _ _ _ h => h) (Or.inl ⟨by kernel_rfl, ?h5⟩) (by assumption) ?r5
  case h5 => (intro w hSw; (try dsimp only at hSw); go_simp; try with_reducible rfl)
  try simp only [Act.put, List.setIfInBounds_toArray, List.set_cons_zero, List.set_cons_succ]
  refine wpAnyH_take (i := 8) (oi := { dst := some 23, op := Go.Op.move (Go.Operand.tmp 1), type := 27, pos := "law.go:32", after := #[], guard := none }) (v := ?v6) rfl (by kernel_rfl) (by kernel_rfl) (by kernel_rfl) (fun _ _ _ h => h) (Or.inl ⟨by kernel_rfl, ?h6⟩) (by assumption) ?r6
  case h6 => (intro w hSw; (try dsimp only at hSw); go_simp; try with_reducible rfl)
  try simp only [Act.put, List.setIfInBounds_toArray, List.set_cons_zero, List.set_cons_succ]
  refine wpAnyH_take (i := 9) (oi := { dst := some 24, op := Go.Op.fieldAddr 32 (Go.Operand.tmp 5) 1, type := 0, pos := "law.go:32", after := #[], guard := none }) (v := ?v7) rfl (by kernel_rfl) (by kernel_rfl) (by kernel_rfl) (fun _ _ _ h => h) (Or.inl ⟨by kernel_rfl, ?h7⟩) (by assumption) ?r7
  case h7 => (intro w hSw; (try dsimp only at hSw); go_simp; try with_reducible rfl)
  try simp only [Act.put, List.setIfInBounds_toArray, List.set_cons_zero, List.set_cons_succ]
  refine wpAnyH_take (i := 10) (oi := { dst := some 25, op := Go.Op.load 3 (Go.Operand.tmp 24), type := 3, pos := "law.go:32", after := #[{ on := 9, ground := Go.Ground.data }], guard := none }) (v := ?v8) rfl (by kernel_rfl) (by kernel_rfl) (by kernel_rfl) (fun _ _ _ h => h) (Or.inl ⟨by kernel_rfl, ?h8⟩) (by assumption) ?r8
  case h8 => (intro w hSw; (try dsimp only at hSw); go_simp; try with_reducible rfl)
  try simp only [Act.put, List.setIfInBounds_toArray, List.set_cons_zero, List.set_cons_succ]
  refine wpAnyH_take (i := 11) (oi := { dst := some 26, op := Go.Op.fieldAddr 32 (Go.Operand.tmp 5) 3, type := 0, pos := "law.go:32", after := #[], guard := none }) (v := ?v9) rfl (by kernel_rfl) (by kernel_rfl) (by kernel_rfl) (fun _ _ _ h => h) (Or.inl ⟨by kernel_rfl, ?h9⟩) (by assumption) ?r9
  case h9 => (intro w hSw; (try dsimp only at hSw); go_simp; try with_reducible rfl)
  try simp only [Act.put, List.setIfInBounds_toArray, List.set_cons_zero, List.set_cons_succ]
  refine wpAnyH_take (i := 12) (oi := { dst := some 27, op := Go.Op.load 30 (Go.Operand.tmp 26), type := 30, pos := "law.go:32", after := #[{ on := 11, ground := Go.Ground.data }], guard := none }) (v := ?v10) rfl (by kernel_rfl) (by kernel_rfl) (by kernel_rfl) (fun _ _ _ h => h) (Or.inl ⟨by kernel_rfl, ?h10⟩) (by assumption) ?r10
  case h10 => (intro w hSw; (try dsimp only at hSw); go_simp; try with_reducible rfl)
  try simp only [Act.put, List.setIfInBounds_toArray, List.set_cons_zero, List.set_cons_succ]
  refine wpAnyH_take (i := 13) (oi := { dst := some 28, op := Go.Op.convert 30 9 (Go.Operand.tmp 27), type := 9, pos := "law.go:32", after := #[{ on := 12, ground := Go.Ground.data }], guard := none }) (v := ?v11) rfl (by kernel_rfl) (by kernel_rfl) (by kernel_rfl) (fun _ _ _ h => h) (Or.inl ⟨by kernel_rfl, ?h11⟩) (by assumption) ?r11
  case h11 => (intro w hSw; (try dsimp only at hSw); go_simp; try with_reducible rfl)
  try simp only [Act.put, List.setIfInBounds_toArray, List.set_cons_zero, List.set_cons_succ]
  refine wpAnyH_ready (rs := [3]) (by kernel_rfl) (by simp) ?_
  refine AllReadyH.cons (o := { dst := some 18, op := Go.Op.buildSlice 30 0 #[], type := 30, pos := "law.go:32", after := #[], guard := none }) rfl (fun K hK => ?_) AllReadyH.nil
  go_simp
  have hxA : BelowE (x :: F) W0.heap.size W0 (W0.alloc (.cells #[] 5)).drew := (BelowE.of bA'.out).drew
  refine hK.out _ _ (hxA) (fun hHeld => ?_)
  clear hK K
  try simp only [Act.put, List.setIfInBounds_toArray, List.set_cons_zero, List.set_cons_succ]
  refine wpAnyH_ready (rs := [6]) (by kernel_rfl) (by simp) ?_
  refine AllReadyH.cons (o := { dst := some 21, op := Go.Op.call { callee := Go.Callee.builtin Go.Builtin.append, args := #[Go.Operand.tmp 18, Go.Operand.tmp 20], argTypes := #[30, 30] }, type := 30, pos := "law.go:32", after := #[{ on := 3, ground := Go.Ground.data }, { on := 5, ground := Go.Ground.data }], guard := none }) rfl (fun K hK => ?_) AllReadyH.nil
  refine wp_append_foot _ (.tmp 18) (.tmp 20) 30 rfl 5 i0 (.int .u8 0) 1 Try.underlying30 hi hz0 hz1 hz2 rfl .u8 _ [] (own_belowE (X := []) oA'.out ((BelowE.refl _ _ _).drew) (by simp)) W0.heap.size A b sA'.out m _ hm'.out.symm rfl rfl (by have := hbl'.out; simp [maxLen]; omega) (by have := hbl'.out; simp; omega) ?_
  intro v' w1 own1 grow1 blk1
  simp only [List.nil_append] at own1
  have hbw : Below W0.heap.size W0 w1 := (bA'.out.drew).grown grow1 bA'.out.size (by intro k hk; simp [Value.ownBlock] at hk; omega)
  have hge : ∀ k, v'.ownBlock = some k → W0.heap.size ≤ k := fun k hk => by rcases blk1 with h | h <;> rw [hk] at h <;> simp [Value.ownBlock] at h <;> omega
  obtain ⟨a1, q1, rfl, see1⟩ := own_seesE (X := [d]) (own_from own1 hge) (by simpa using hdx)
  have hq1 := own_cap own1
  rw [hm'.out] at hq1
  simp only [hm'.out]
  have hx0 : BelowE (x :: F) W0.heap.size W0 w1 := .of hbw
  have hcall := Lib.hid (c1'.out w1 a1 q1 hbw see1 hq1)
  have hbw' := Lib.hid hbw
  clear own1 grow1 blk1 hge see1 hq1 hbw
  refine hK.out _ _ (hx0) (fun hHeld => ?_)
  clear hK K
  try simp only [Act.put, List.setIfInBounds_toArray, List.set_cons_zero, List.set_cons_succ]
  refine wpAnyH_ready (rs := [7]) (by kernel_rfl) (by simp) ?_
  refine AllReadyH.cons (o := { dst := some 22, op := Go.Op.call { callee := Go.Callee.value (Go.Operand.func 14), args := #[Go.Operand.tmp 15, Go.Operand.tmp 17, Go.Operand.tmp 21], argTypes := #[25, 3, 30] }, type := 36, pos := "law.go:32", after := #[{ on := 0, ground := Go.Ground.data }, { on := 2, ground := Go.Ground.data }, { on := 6, ground := Go.Ground.data }, { on := 6, ground := Go.Ground.chain }], guard := none }) rfl (fun K hK => ?_) AllReadyH.nil
  go_simp
  refine hcall.out.mono ?_
  rintro e w2 ⟨rfl, F1, D1, t1⟩
  have t2 : Turns F F1 W0 w2 := Turns.before hbw'.out t1
  have hx1 : BelowE (x :: F) W0.heap.size W0 w2 := t2.1.wider (by intro y hy; simp [hy])
  have D1' := Lib.hid D1
  have t2' := Lib.hid t2
  clear D1 t1 t2
  go_simp
  refine hK.out _ _ (hx1) (fun hHeld => ?_)
  clear hK K
  try simp only [Act.put, List.setIfInBounds_toArray, List.set_cons_zero, List.set_cons_succ]
  refine wpAnyH_ready (rs := [14]) (by kernel_rfl) (by simp) ?_
  refine AllReadyH.cons (o := { dst := some 29, op := Go.Op.call { callee := Go.Callee.value (Go.Operand.func 21), args := #[Go.Operand.tmp 23, Go.Operand.tmp 25, Go.Operand.tmp 28], argTypes := #[27, 3, 9] }, type := 36, pos := "law.go:32", after := #[{ on := 8, ground := Go.Ground.data }, { on := 10, ground := Go.Ground.data }, { on := 13, ground := Go.Ground.data }, { on := 7, ground := Go.Ground.chain }], guard := none }) rfl (fun K hK => ?_) AllReadyH.nil
  go_simp
  refine (c2'.out w2 F1 t2'.out).mono ?_
  rintro e w3 ⟨rfl, R2, b2⟩
  have hx2 : BelowE (x :: F) W0.heap.size W0 w3 := hx1.trans ((b2.mono hx1.size).wider (by simp))
  go_simp
  refine hK.out _ _ (hx2) (fun hHeld => ?_)
  clear hK K
  try simp only [Act.put, List.setIfInBounds_toArray, List.set_cons_zero, List.set_cons_succ]
  refine wpAnyH_take (i := 15) (oi := { dst := some 30, op := Go.Op.binOp Go.BinOp.eql 36 (Go.Operand.tmp 22) (Go.Operand.tmp 29) 36, type := 4, pos := "law.go:32", after := #[{ on := 7, ground := Go.Ground.data }, { on := 14, ground := Go.Ground.data }], guard := none }) (v := ?v12) rfl (by kernel_rfl) (by kernel_rfl) (by kernel_rfl) (fun _ _ _ h => h) (Or.inl ⟨by kernel_rfl, ?h12⟩) (by assumption) ?r12
  case h12 => (intro w hSw; (try dsimp only at hSw); go_simp; try with_reducible rfl)
  try simp only [Act.put, List.setIfInBounds_toArray, List.set_cons_zero, List.set_cons_succ]
  refine wpAnyH_take (i := 16) (oi := { dst := some 6, op := Go.Op.assign (Go.Operand.tmp 30), type := 4, pos := "law.go:32", after := #[{ on := 15, ground := Go.Ground.data }, { on := 14, ground := Go.Ground.chain }, { on := 0, ground := Go.Ground.phase }, { on := 1, ground := Go.Ground.phase }, { on := 2, ground := Go.Ground.phase }, { on := 3, ground := Go.Ground.phase }, { on := 4, ground := Go.Ground.phase }, { on := 5, ground := Go.Ground.phase }, { on := 6, ground := Go.Ground.phase }, { on := 7, ground := Go.Ground.phase }, { on := 8, ground := Go.Ground.phase }, { on := 9, ground := Go.Ground.phase }, { on := 10, ground := Go.Ground.phase }, { on := 11, ground := Go.Ground.phase }, { on := 12, ground := Go.Ground.phase }, { on := 13, ground := Go.Ground.phase }, { on := 14, ground := Go.Ground.phase }, { on := 15, ground := Go.Ground.phase }], guard := none }) (v := ?v13) rfl (by kernel_rfl) (by kernel_rfl) (by kernel_rfl) (fun _ _ _ h => h) (Or.inl ⟨by kernel_rfl, ?h13⟩) (by assumption) ?r13
  case h13 => (intro w hSw; (try dsimp only at hSw); go_simp; try with_reducible rfl)
  try simp only [Act.put, List.setIfInBounds_toArray, List.set_cons_zero, List.set_cons_succ]
  refine wpAnyH_done (by kernel_rfl) ?_ _
  go_wp2
  go_ret
  exact ⟨by simp, Goes.before hB'.out (hP'.out.step D1'.out t2'.out R2 b2 hfin'.out)⟩
set_option maxRecDepth 100000 in
theorem do_7 (d : Nat) (F : List Nat) (x : Nat) (s : St) (n k : Int) (hk : k ≤ 9223372036854775807) (A : Option Addr) (m c : Nat) (w : World) (b : List Int) (hm : b.length = m) (hmc : m ≤ c) (hbl : b.length ≤ 50000000) (hA : SeesE (x :: F) .u8 w.heap.size w A b) (h : Pr w d F x s) :
    Calls Try.prog 11 #[.pointer (some ⟨d, 0, none⟩), .pointer (some ⟨x, 0, none⟩), .agg #[.int .i64 7, .int .i64 n, .int .i64 k, .slice A m c]] w (Does w d F x) := by
  obtain ⟨W0, hW0, hB, hH, hS⟩ := one_box w #[.int .i64 7, .int .i64 n, .int .i64 k, .slice A m c] 32
  have k0 := hH.cell 0
  have k1 := hH.cell 1
  have k2 := hH.cell 2
  have k3 := hH.cell 3
  simp at k0 k1 k2 k3
  have hP := h.below hB
  have hall := h.dk.all
  have gw : w.heap.size ∉ x :: F := by
    intro hm
    rcases List.mem_cons.1 hm with h1 | h1
    · have := h.rk.lt; omega
    · have := hall _ h1; omega
  have l0 : w.heap.size < W0.heap.size := by omega
  have f1 : ∀ W', BelowE (x :: F) W0.heap.size W0 W' → W'.cell? ⟨w.heap.size, 1, none⟩ = some (.int .i64 n) := fun W' h => (h.cell (p := ⟨w.heap.size, 1, none⟩) l0 gw).trans k1
  have f2 : ∀ W', BelowE (x :: F) W0.heap.size W0 W' → W'.cell? ⟨w.heap.size, 2, none⟩ = some (.int .i64 k) := fun W' h => (h.cell (p := ⟨w.heap.size, 2, none⟩) l0 gw).trans k2
  have hB' := Lib.hid hB
  have hP' := Lib.hid hP
  have hW0' := Lib.hid hW0
  obtain ⟨i0, hi, hz0, hz1, hz2⟩ := info_parts infoU8'
  have f3 : ∀ W', BelowE (x :: F) W0.heap.size W0 W' → W'.cell? ⟨w.heap.size, 3, none⟩ = some (.slice A m c) := fun W' h => (h.cell (p := ⟨w.heap.size, 3, none⟩) l0 gw).trans k3
  have hA0 : SeesE (x :: F) .u8 W0.heap.size W0 A b := (hA.belowE (.of hB)).mono hB.size
  have hcv : ∀ W', BelowE (x :: F) W0.heap.size W0 W' → (convert 30 9 (.slice A m c)).run Try.prog W' = .ok (.string (strOfNums b)) W' := fun W' h => conv_sees _ 9 5 Try.underlying30 Try.underlying5 Try.underlying9 (hA0.belowE h).sees m c hm.symm
  have bA : Below W0.heap.size W0 (W0.alloc (.cells #[] 5)) := (Below.refl _ _).alloc (Nat.le_refl _) _
  have oA := World.ownsRow_made (e := 5) (size := 1) (base := 0) W0 #[] 0 (Nat.zero_le _) (by decide) (by simp)
  have sA : Sees .u8 W0.heap.size (W0.alloc (.cells #[] 5)).drew A b := (hA0.sees.below bA.drew)
  have hdx : d < W0.heap.size := hP.dk.lt
  have hFx := hP.dk.all
  have c1 := fun (w1 : World) (a1 : Option Addr) (q1 : Nat) (b1 : Below W0.heap.size W0 w1) (hs : SeesE F .u8 w1.heap.size w1 a1 b) (hq : m ≤ q1) => spoil_any d F s n k a1 m q1 b w1 (hP.dk.below b1) hP.fine hm.symm hs hbl
  have c2 := fun w2 F1 (t : Turns F F1 W0 w2) => rspoil_any x s n k b w2 (hP.mid t) hP.fine hbl
  have hfin := fine_spoil hP.fine n k b
  generalize spoilO s n k b = r at *
  obtain ⟨rv, rs⟩ := r
  have c1' := Lib.hid c1
  have c2' := Lib.hid c2
  have hfin' := Lib.hid hfin
  have bA' := Lib.hid bA
  have oA' := Lib.hid oA
  have sA' := Lib.hid sA
  have hm' := Lib.hid hm
  have hbl' := Lib.hid hbl
  have hFx' := Lib.hid hFx
  clear hW0 hB hP hH hS h hall gw l0 c1 c2 hfin bA oA sA hA hA0 hm hbl hmc hFx k1 k2 k3 hk
  go_enter Try.func11, Try.ntmps11
  go_wp2
  rw [← hW0'.out]
  refine wp_drawn_on (fun W' => BelowE (x :: F) W0.heap.size W0 W') (by kernel_rfl) ((BelowE.refl _ _ _).drew) (fun hHeld => ?_)
  refine wpAnyH_take (i := 0) (oi := { dst := some 100, op := Go.Op.move (Go.Operand.tmp 0), type := 25, pos := "law.go:48", after := #[], guard := none }) (v := ?v14) rfl (by kernel_rfl) (by kernel_rfl) (by kernel_rfl) (fun _ _ _ h => h) (Or.inl ⟨by kernel_rfl, ?h14⟩) (by assumption) ?r14
  case h14 => (intro w hSw; (try dsimp only at hSw); go_simp; try with_reducible rfl)
  try simp only [Act.put, List.setIfInBounds_toArray, List.set_cons_zero, List.set_cons_succ]
  refine wpAnyH_take (i := 1) (oi := { dst := some 101, op := Go.Op.fieldAddr 32 (Go.Operand.tmp 5) 1, type := 0, pos := "law.go:48", after := #[], guard := none }) (v := ?v15) rfl (by kernel_rfl) (by kernel_rfl) (by kernel_rfl) (fun _ _ _ h => h) (Or.inl ⟨by kernel_rfl, ?h15⟩) (by assumption) ?r15
  case h15 => (intro w hSw; (try dsimp only at hSw); go_simp; try with_reducible rfl)
  try simp only [Act.put, List.setIfInBounds_toArray, List.set_cons_zero, List.set_cons_succ]
  refine wpAnyH_take (i := 2) (oi := { dst := some 102, op := Go.Op.load 3 (Go.Operand.tmp 101), type := 3, pos := "law.go:48", after := #[{ on := 1, ground := Go.Ground.data }], guard := none }) (v := ?v16) rfl (by kernel_rfl) (by kernel_rfl) (by kernel_rfl) (fun _ _ _ h => h) (Or.inl ⟨by kernel_rfl, ?h16⟩) (by assumption) ?r16
  case h16 => (intro w hSw; (try dsimp only at hSw); go_simp; try with_reducible rfl)
  try simp only [Act.put, List.setIfInBounds_toArray, List.set_cons_zero, List.set_cons_succ]
  refine wpAnyH_take (i := 3) (oi := { dst := some 103, op := Go.Op.fieldAddr 32 (Go.Operand.tmp 5) 2, type := 0, pos := "law.go:48", after := #[], guard := none }) (v := ?v17) rfl (by kernel_rfl) (by kernel_rfl) (by kernel_rfl) (fun _ _ _ h => h) (Or.inl ⟨by kernel_rfl, ?h17⟩) (by assumption) ?r17
  case h17 => (intro w hSw; (try dsimp only at hSw); go_simp; try with_reducible rfl)
  try simp only [Act.put, List.setIfInBounds_toArray, List.set_cons_zero, List.set_cons_succ]
  refine wpAnyH_take (i := 4) (oi := { dst := some 104, op := Go.Op.load 3 (Go.Operand.tmp 103), type := 3, pos := "law.go:48", after := #[{ on := 3, ground := Go.Ground.data }], guard := none }) (v := ?v18) rfl (by kernel_rfl) (by kernel_rfl) (by kernel_rfl) (fun _ _ _ h => h) (Or.inl ⟨by kernel_rfl, ?h18⟩) (by assumption) ?r18
  case h18 => (intro w hSw; (try dsimp only at hSw); go_simp; try with_reducible rfl)
  try simp only [Act.put, List.setIfInBounds_toArray, List.set_cons_zero, List.set_cons_succ]
  refine wpAnyH_take (i := 6) (oi := { dst := some 106, op := Go.Op.fieldAddr 32 (Go.Operand.tmp 5) 3, type := 0, pos := "law.go:48", after := #[], guard := none }) (v := ?v19) rfl (by kernel_rfl) (by kernel_rfl) (by kernel_rfl) (fun _ _ _ h => h) (Or.inl ⟨by kernel_rfl, ?h19⟩) (by assumption) ?r19
  case h19 => (intro w hSw; (try dsimp only at hSw); go_simp; try with_reducible rfl)
  try simp only [Act.put, List.setIfInBounds_toArray, List.set_cons_zero, List.set_cons_succ]
  refine wpAnyH_take (i := 7) (oi := { dst := some 107, op := Go.Op.load 30 (Go.Operand.tmp 106), type := 30, pos := "law.go:48", after := #[{ on := 6, ground := Go.Ground.data }], guard := none }) (v := ?v20) rfl (by kernel_rfl) (by kernel_rfl) (by kernel_rfl) (fun _ _ _ h => h) (Or.inl ⟨by kernel_rfl, ?h20⟩) (by assumption) ?r20
  case h20 => (intro w hSw; (try dsimp only at hSw); go_simp; try with_reducible rfl)
  try simp only [Act.put, List.setIfInBounds_toArray, List.set_cons_zero, List.set_cons_succ]
  refine wpAnyH_take (i := 10) (oi := { dst := some 110, op := Go.Op.move (Go.Operand.tmp 1), type := 27, pos := "law.go:48", after := #[], guard := none }) (v := ?v21) rfl (by kernel_rfl) (by kernel_rfl) (by kernel_rfl) (fun _ _ _ h => h) (Or.inl ⟨by kernel_rfl, ?h21⟩) (by assumption) ?r21
  case h21 => (intro w hSw; (try dsimp only at hSw); go_simp; try with_reducible rfl)
  try simp only [Act.put, List.setIfInBounds_toArray, List.set_cons_zero, List.set_cons_succ]
  refine wpAnyH_take (i := 11) (oi := { dst := some 111, op := Go.Op.fieldAddr 32 (Go.Operand.tmp 5) 1, type := 0, pos := "law.go:48", after := #[], guard := none }) (v := ?v22) rfl (by kernel_rfl) (by kernel_rfl) (by kernel_rfl) (fun _ _ _ h => h) (Or.inl ⟨by kernel_rfl, ?h22⟩) (by assumption) ?r22
  case h22 => (intro w hSw; (try dsimp only at hSw); go_simp; try with_reducible rfl)
  try simp only [Act.put, List.setIfInBounds_toArray, List.set_cons_zero, List.set_cons_succ]
  refine wpAnyH_take (i := 12) (oi := { dst := some 112, op := Go.Op.load 3 (Go.Operand.tmp 111), type := 3, pos := "law.go:48", after := #[{ on := 11, ground := Go.Ground.data }], guard := none }) (v := ?v23) rfl (by kernel_rfl) (by kernel_rfl) (by kernel_rfl) (fun _ _ _ h => h) (Or.inl ⟨by kernel_rfl, ?h23⟩) (by assumption) ?r23
  case h23 => (intro w hSw; (try dsimp only at hSw); go_simp; try with_reducible rfl)
  try simp only [Act.put, List.setIfInBounds_toArray, List.set_cons_zero, List.set_cons_succ]
  refine wpAnyH_take (i := 13) (oi := { dst := some 113, op := Go.Op.fieldAddr 32 (Go.Operand.tmp 5) 2, type := 0, pos := "law.go:48", after := #[], guard := none }) (v := ?v24) rfl (by kernel_rfl) (by kernel_rfl) (by kernel_rfl) (fun _ _ _ h => h) (Or.inl ⟨by kernel_rfl, ?h24⟩) (by assumption) ?r24
  case h24 => (intro w hSw; (try dsimp only at hSw); go_simp; try with_reducible rfl)
  try simp only [Act.put, List.setIfInBounds_toArray, List.set_cons_zero, List.set_cons_succ]
  refine wpAnyH_take (i := 14) (oi := { dst := some 114, op := Go.Op.load 3 (Go.Operand.tmp 113), type := 3, pos := "law.go:48", after := #[{ on := 13, ground := Go.Ground.data }], guard := none }) (v := ?v25) rfl (by kernel_rfl) (by kernel_rfl) (by kernel_rfl) (fun _ _ _ h => h) (Or.inl ⟨by kernel_rfl, ?h25⟩) (by assumption) ?r25
  case h25 => (intro w hSw; (try dsimp only at hSw); go_simp; try with_reducible rfl)
  try simp only [Act.put, List.setIfInBounds_toArray, List.set_cons_zero, List.set_cons_succ]
  refine wpAnyH_take (i := 15) (oi := { dst := some 115, op := Go.Op.fieldAddr 32 (Go.Operand.tmp 5) 3, type := 0, pos := "law.go:48", after := #[], guard := none }) (v := ?v26) rfl (by kernel_rfl) (by kernel_rfl) (by kernel_rfl) (fun _ _ _ h => h) (Or.inl ⟨by kernel_rfl, ?h26⟩) (by assumption) ?r26
  case h26 => (intro w hSw; (try dsimp only at hSw); go_simp; try with_reducible rfl)
  try simp only [Act.put, List.setIfInBounds_toArray, List.set_cons_zero, List.set_cons_succ]
  refine wpAnyH_take (i := 16) (oi := { dst := some 116, op := Go.Op.load 30 (Go.Operand.tmp 115), type := 30, pos := "law.go:48", after := #[{ on := 15, ground := Go.Ground.data }], guard := none }) (v := ?v27) rfl (by kernel_rfl) (by kernel_rfl) (by kernel_rfl) (fun _ _ _ h => h) (Or.inl ⟨by kernel_rfl, ?h27⟩) (by assumption) ?r27
  case h27 => (intro w hSw; (try dsimp only at hSw); go_simp; try with_reducible rfl)
  try simp only [Act.put, List.setIfInBounds_toArray, List.set_cons_zero, List.set_cons_succ]
  refine wpAnyH_take (i := 17) (oi := { dst := some 117, op := Go.Op.convert 30 9 (Go.Operand.tmp 116), type := 9, pos := "law.go:48", after := #[{ on := 16, ground := Go.Ground.data }], guard := none }) (v := ?v28) rfl (by kernel_rfl) (by kernel_rfl) (by kernel_rfl) (fun _ _ _ h => h) (Or.inl ⟨by kernel_rfl, ?h28⟩) (by assumption) ?r28
  case h28 => (intro w hSw; (try dsimp only at hSw); go_simp; try with_reducible rfl)
  try simp only [Act.put, List.setIfInBounds_toArray, List.set_cons_zero, List.set_cons_succ]
  refine wpAnyH_ready (rs := [5]) (by kernel_rfl) (by simp) ?_
  refine AllReadyH.cons (o := { dst := some 105, op := Go.Op.buildSlice 30 0 #[], type := 30, pos := "law.go:48", after := #[], guard := none }) rfl (fun K hK => ?_) AllReadyH.nil
  go_simp
  have hxA : BelowE (x :: F) W0.heap.size W0 (W0.alloc (.cells #[] 5)).drew := (BelowE.of bA'.out).drew
  refine hK.out _ _ (hxA) (fun hHeld => ?_)
  clear hK K
  try simp only [Act.put, List.setIfInBounds_toArray, List.set_cons_zero, List.set_cons_succ]
  refine wpAnyH_ready (rs := [8]) (by kernel_rfl) (by simp) ?_
  refine AllReadyH.cons (o := { dst := some 108, op := Go.Op.call { callee := Go.Callee.builtin Go.Builtin.append, args := #[Go.Operand.tmp 105, Go.Operand.tmp 107], argTypes := #[30, 30] }, type := 30, pos := "law.go:48", after := #[{ on := 5, ground := Go.Ground.data }, { on := 7, ground := Go.Ground.data }], guard := none }) rfl (fun K hK => ?_) AllReadyH.nil
  refine wp_append_foot _ (.tmp 105) (.tmp 107) 30 rfl 5 i0 (.int .u8 0) 1 Try.underlying30 hi hz0 hz1 hz2 rfl .u8 _ [] (own_belowE (X := []) oA'.out ((BelowE.refl _ _ _).drew) (by simp)) W0.heap.size A b sA'.out m _ hm'.out.symm rfl rfl (by have := hbl'.out; simp [maxLen]; omega) (by have := hbl'.out; simp; omega) ?_
  intro v' w1 own1 grow1 blk1
  simp only [List.nil_append] at own1
  have hbw : Below W0.heap.size W0 w1 := (bA'.out.drew).grown grow1 bA'.out.size (by intro k hk; simp [Value.ownBlock] at hk; omega)
  have hge : ∀ k, v'.ownBlock = some k → W0.heap.size ≤ k := fun k hk => by rcases blk1 with h | h <;> rw [hk] at h <;> simp [Value.ownBlock] at h <;> omega
  obtain ⟨a1, q1, rfl, see1⟩ := own_seesE (X := F) (own_from own1 hge) (hFx'.out)
  have hq1 := own_cap own1
  rw [hm'.out] at hq1
  simp only [hm'.out]
  have hx0 : BelowE (x :: F) W0.heap.size W0 w1 := .of hbw
  have hcall := Lib.hid (c1'.out w1 a1 q1 hbw see1 hq1)
  have hbw' := Lib.hid hbw
  clear own1 grow1 blk1 hge see1 hq1 hbw
  refine hK.out _ _ (hx0) (fun hHeld => ?_)
  clear hK K
  try simp only [Act.put, List.setIfInBounds_toArray, List.set_cons_zero, List.set_cons_succ]
  refine wpAnyH_ready (rs := [9]) (by kernel_rfl) (by simp) ?_
  refine AllReadyH.cons (o := { dst := some 109, op := Go.Op.call { callee := Go.Callee.value (Go.Operand.func 17), args := #[Go.Operand.tmp 100, Go.Operand.tmp 102, Go.Operand.tmp 104, Go.Operand.tmp 108], argTypes := #[25, 3, 3, 30] }, type := 36, pos := "law.go:48", after := #[{ on := 0, ground := Go.Ground.data }, { on := 2, ground := Go.Ground.data }, { on := 4, ground := Go.Ground.data }, { on := 8, ground := Go.Ground.data }, { on := 8, ground := Go.Ground.chain }], guard := none }) rfl (fun K hK => ?_) AllReadyH.nil
  go_simp
  refine hcall.out.mono ?_
  rintro e w2 ⟨rfl, F1, D1, t1⟩
  have t2 : Turns F F1 W0 w2 := Turns.before hbw'.out t1
  have hx1 : BelowE (x :: F) W0.heap.size W0 w2 := t2.1.wider (by intro y hy; simp [hy])
  have D1' := Lib.hid D1
  have t2' := Lib.hid t2
  clear D1 t1 t2
  go_simp
  refine hK.out _ _ (hx1) (fun hHeld => ?_)
  clear hK K
  try simp only [Act.put, List.setIfInBounds_toArray, List.set_cons_zero, List.set_cons_succ]
  refine wpAnyH_ready (rs := [18]) (by kernel_rfl) (by simp) ?_
  refine AllReadyH.cons (o := { dst := some 118, op := Go.Op.call { callee := Go.Callee.value (Go.Operand.func 27), args := #[Go.Operand.tmp 110, Go.Operand.tmp 112, Go.Operand.tmp 114, Go.Operand.tmp 117], argTypes := #[27, 3, 3, 9] }, type := 36, pos := "law.go:48", after := #[{ on := 10, ground := Go.Ground.data }, { on := 12, ground := Go.Ground.data }, { on := 14, ground := Go.Ground.data }, { on := 17, ground := Go.Ground.data }, { on := 9, ground := Go.Ground.chain }], guard := none }) rfl (fun K hK => ?_) AllReadyH.nil
  go_simp
  refine (c2'.out w2 F1 t2'.out).mono ?_
  rintro e w3 ⟨rfl, R2, b2⟩
  have hx2 : BelowE (x :: F) W0.heap.size W0 w3 := hx1.trans ((b2.mono hx1.size).wider (by simp))
  go_simp
  refine hK.out _ _ (hx2) (fun hHeld => ?_)
  clear hK K
  try simp only [Act.put, List.setIfInBounds_toArray, List.set_cons_zero, List.set_cons_succ]
  refine wpAnyH_take (i := 19) (oi := { dst := some 119, op := Go.Op.binOp Go.BinOp.eql 36 (Go.Operand.tmp 109) (Go.Operand.tmp 118) 36, type := 4, pos := "law.go:48", after := #[{ on := 9, ground := Go.Ground.data }, { on := 18, ground := Go.Ground.data }], guard := none }) (v := ?v29) rfl (by kernel_rfl) (by kernel_rfl) (by kernel_rfl) (fun _ _ _ h => h) (Or.inl ⟨by kernel_rfl, ?h29⟩) (by assumption) ?r29
  case h29 => (intro w hSw; (try dsimp only at hSw); go_simp; try with_reducible rfl)
  try simp only [Act.put, List.setIfInBounds_toArray, List.set_cons_zero, List.set_cons_succ]
  refine wpAnyH_take (i := 20) (oi := { dst := some 6, op := Go.Op.assign (Go.Operand.tmp 119), type := 4, pos := "law.go:48", after := #[{ on := 19, ground := Go.Ground.data }, { on := 18, ground := Go.Ground.chain }, { on := 0, ground := Go.Ground.phase }, { on := 1, ground := Go.Ground.phase }, { on := 2, ground := Go.Ground.phase }, { on := 3, ground := Go.Ground.phase }, { on := 4, ground := Go.Ground.phase }, { on := 5, ground := Go.Ground.phase }, { on := 6, ground := Go.Ground.phase }, { on := 7, ground := Go.Ground.phase }, { on := 8, ground := Go.Ground.phase }, { on := 9, ground := Go.Ground.phase }, { on := 10, ground := Go.Ground.phase }, { on := 11, ground := Go.Ground.phase }, { on := 12, ground := Go.Ground.phase }, { on := 13, ground := Go.Ground.phase }, { on := 14, ground := Go.Ground.phase }, { on := 15, ground := Go.Ground.phase }, { on := 16, ground := Go.Ground.phase }, { on := 17, ground := Go.Ground.phase }, { on := 18, ground := Go.Ground.phase }, { on := 19, ground := Go.Ground.phase }], guard := none }) (v := ?v30) rfl (by kernel_rfl) (by kernel_rfl) (by kernel_rfl) (fun _ _ _ h => h) (Or.inl ⟨by kernel_rfl, ?h30⟩) (by assumption) ?r30
  case h30 => (intro w hSw; (try dsimp only at hSw); go_simp; try with_reducible rfl)
  try simp only [Act.put, List.setIfInBounds_toArray, List.set_cons_zero, List.set_cons_succ]
  refine wpAnyH_done (by kernel_rfl) ?_ _
  go_wp2
  go_ret
  exact ⟨by simp, Goes.before hB'.out (hP'.out.step D1'.out t2'.out R2 b2 hfin'.out)⟩
end Go.Proofs.Ytjhakmpinloioaa
