/- file: Spoil. -/
import Derived.Test.YtjhakmpinloioaaFileRest
namespace Go.Proofs.Ytjhakmpinloioaa
open Go.RowKit
set_option linter.unusedVariables false
set_option linter.unusedSimpArgs false

theorem spoil_put_0 (d : Nat) (F : List Nat) (s : St) (m : Int) (A : Option Addr) (k c : Nat) (b : List Int) (w : World) (h : Dk w d F s) (hf : s.fine) (hk : k = b.length) (hs : SeesE F .u8 w.heap.size w A b) (hbl : b.length ≤ 50000000) (hm : ¬ (m < 0 ∨ ((s.l 0).length : Int) < m)) (hfit : ¬ 4194304 < m + b.length) :
    Calls Try.prog 17 #[.pointer (some ⟨d, 0, none⟩), .int .i64 0, .int .i64 m, .slice A k c] w (Tells (spoilO s 0 m b) d F w) := by
  obtain ⟨i0, hi, hz0, hz1, hz2⟩ := info_parts infoU8'
  have hr : spoilO s 0 m b = (0, s.with_ (upd s.l 0 ((s.l 0).take m.toNat ++ b))) := by simp [spoilO, hm, hfit]
  rw [hr]
  have hl : (s.l 0).length ≤ 4194304 := by have := hf; unfold St.fine at this; omega
  have hhas := has_0 d F s m w h (by omega)
  rw [show decide ((0 : Int) ≤ m ∧ m ≤ ((s.l 0).length : Int)) = true by simp; omega] at hhas
  obtain ⟨v0, v1, h1, h2, h3, h4, h5, h6, h7, h8⟩ := h
  have cN := h1.cell 0
  have fN := h1.free 0
  simp at cN
  have fin := fun (w1 : World) (v' : Value) (l' : List Int) => dk_put0 (w := w) (w1 := w1) (v' := v') (l' := l') h1 h2 h3 h4 h5 h6 h7 h8
  have fin' := Lib.hid fin
  obtain ⟨av, cv, rfl, -, see0⟩ := sees_own h2
  have h1' := Lib.hid h1
  have hM' := Lib.hid h5
  have h4' := Lib.hid h4
  have hcut := Lib.hid (own_cut h2 m.toNat (by omega))
  obtain ⟨M, hM⟩ := Int.eq_ofNat_of_zero_le (show 0 ≤ m by omega)
  subst hM
  simp only [Int.toNat_natCast] at hcut fin' hr ⊢
  have hMc := hcut.out.2
  have hM2 : (M : Int) ≤ 4194304 := by omega
  have hkb : (k : Int) ≤ 50000000 := by omega
  have hd2 : decide ((4194304 : Int) < (M : Int) + (k : Int)) = false := by simp; omega
  have hsum : ¬ (4194304 : Int) < (M : Int) + (k : Int) := by omega
  have hk' := Lib.hid hk
  have hs' := Lib.hid hs.sees
  have hhas' := Lib.hid hhas
  have hlM : ((s.l 0).take M).length = M := by simp; omega
  have hlM' := Lib.hid hlM
  have hbd' : Hid (((s.l 0).take M).length + b.length ≤ 140737488355328) := Lib.hid (by simp; omega)
  clear h1 h2 h3 h4 h5 h6 h7 h8 see0 hhas fin hk hs hlM hr hf hl hm hbl hfit
  go_enter Try.func17, Try.ntmps17
  go_wp2_with fail
  refine hhas'.out.mono ?_
  rintro e w' ⟨rfl, rfl⟩
  go_wp2
  refine wp_drawn_on (fun W' => BelowE F w.heap.size w W') (by kernel_rfl) ((BelowE.refl _ _ _).drew) (fun hHeld => ?_)
  refine wpAnyH_take (i := 0) (oi := { dst := some 21, op := Go.Op.move (Go.Operand.tmp 0), type := 25, pos := "file.go:124", after := #[], guard := none }) (v := ?v1) rfl (by kernel_rfl) (by kernel_rfl) (by kernel_rfl) (fun _ _ _ h => h) (Or.inl ⟨by kernel_rfl, ?h1⟩) (by assumption) ?r1
  case h1 => (intro w hSw; (try dsimp only at hSw); go_simp; try with_reducible rfl)
  try simp only [Act.put, List.setIfInBounds_toArray, List.set_cons_zero, List.set_cons_succ]
  refine wpAnyH_take (i := 1) (oi := { dst := some 22, op := Go.Op.move (Go.Operand.tmp 1), type := 3, pos := "file.go:124", after := #[], guard := none }) (v := ?v2) rfl (by kernel_rfl) (by kernel_rfl) (by kernel_rfl) (fun _ _ _ h => h) (Or.inl ⟨by kernel_rfl, ?h2⟩) (by assumption) ?r2
  case h2 => (intro w hSw; (try dsimp only at hSw); go_simp; try with_reducible rfl)
  try simp only [Act.put, List.setIfInBounds_toArray, List.set_cons_zero, List.set_cons_succ]
  refine wpAnyH_take (i := 2) (oi := { dst := some 23, op := Go.Op.move (Go.Operand.tmp 0), type := 25, pos := "file.go:124", after := #[], guard := none }) (v := ?v3) rfl (by kernel_rfl) (by kernel_rfl) (by kernel_rfl) (fun _ _ _ h => h) (Or.inl ⟨by kernel_rfl, ?h3⟩) (by assumption) ?r3
  case h3 => (intro w hSw; (try dsimp only at hSw); go_simp; try with_reducible rfl)
  try simp only [Act.put, List.setIfInBounds_toArray, List.set_cons_zero, List.set_cons_succ]
  refine wpAnyH_take (i := 3) (oi := { dst := some 24, op := Go.Op.move (Go.Operand.tmp 1), type := 3, pos := "file.go:124", after := #[], guard := none }) (v := ?v4) rfl (by kernel_rfl) (by kernel_rfl) (by kernel_rfl) (fun _ _ _ h => h) (Or.inl ⟨by kernel_rfl, ?h4⟩) (by assumption) ?r4
  case h4 => (intro w hSw; (try dsimp only at hSw); go_simp; try with_reducible rfl)
  try simp only [Act.put, List.setIfInBounds_toArray, List.set_cons_zero, List.set_cons_succ]
  refine wpAnyH_take (i := 4) (oi := { dst := some 25, op := Go.Op.nilCheck (Go.Operand.tmp 23), type := 0, pos := "file.go:124", after := #[{ on := 2, ground := Go.Ground.data }], guard := none }) (v := ?v5) rfl (by kernel_rfl) (by kernel_rfl) (by kernel_rfl) (fun _ _ _ h => h) (Or.inl ⟨by kernel_rfl, ?h5⟩) (by assumption) ?r5
  case h5 => (intro w hSw; (try dsimp only at hSw); go_simp; try with_reducible rfl)
  try simp only [Act.put, List.setIfInBounds_toArray, List.set_cons_zero, List.set_cons_succ]
  refine wpAnyH_take (i := 5) (oi := { dst := some 26, op := Go.Op.fieldAddr 47 (Go.Operand.tmp 25) 0, type := 0, pos := "file.go:124", after := #[{ on := 4, ground := Go.Ground.data }], guard := none }) (v := ?v6) rfl (by kernel_rfl) (by kernel_rfl) (by kernel_rfl) (fun _ _ _ h => h) (Or.inl ⟨by kernel_rfl, ?h6⟩) (by assumption) ?r6
  case h6 => (intro w hSw; (try dsimp only at hSw); go_simp; try with_reducible rfl)
  try simp only [Act.put, List.setIfInBounds_toArray, List.set_cons_zero, List.set_cons_succ]
  refine wpAnyH_take (i := 6) (oi := { dst := some 27, op := Go.Op.indexAddr 45 (Go.Operand.tmp 26) (Go.Operand.tmp 24), type := 0, pos := "file.go:124", after := #[{ on := 5, ground := Go.Ground.data }, { on := 3, ground := Go.Ground.data }], guard := none }) (v := ?v7) rfl (by kernel_rfl) (by kernel_rfl) (by kernel_rfl) (fun _ _ _ h => h) (Or.inl ⟨by kernel_rfl, ?h7⟩) (by assumption) ?r7
  case h7 => (intro w hSw; (try dsimp only at hSw); go_simp; try with_reducible rfl)
  try simp only [Act.put, List.setIfInBounds_toArray, List.set_cons_zero, List.set_cons_succ]
  refine wpAnyH_take (i := 8) (oi := { dst := some 29, op := Go.Op.move (Go.Operand.tmp 2), type := 3, pos := "file.go:124", after := #[], guard := none }) (v := ?v8) rfl (by kernel_rfl) (by kernel_rfl) (by kernel_rfl) (fun _ _ _ h => h) (Or.inl ⟨by kernel_rfl, ?h8⟩) (by assumption) ?r8
  case h8 => (intro w hSw; (try dsimp only at hSw); go_simp; try with_reducible rfl)
  try simp only [Act.put, List.setIfInBounds_toArray, List.set_cons_zero, List.set_cons_succ]
  refine wpAnyH_take (i := 10) (oi := { dst := some 31, op := Go.Op.move (Go.Operand.tmp 3), type := 30, pos := "file.go:124", after := #[], guard := none }) (v := ?v9) rfl (by kernel_rfl) (by kernel_rfl) (by kernel_rfl) (fun _ _ _ h => h) (Or.inl ⟨by kernel_rfl, ?h9⟩) (by assumption) ?r9
  case h9 => (intro w hSw; (try dsimp only at hSw); go_simp; try with_reducible rfl)
  try simp only [Act.put, List.setIfInBounds_toArray, List.set_cons_zero, List.set_cons_succ]
  refine wpAnyH_take (i := 12) (oi := { dst := some 33, op := Go.Op.nilCheck (Go.Operand.tmp 21), type := 0, pos := "file.go:124", after := #[{ on := 0, ground := Go.Ground.data }], guard := none }) (v := ?v10) rfl (by kernel_rfl) (by kernel_rfl) (by kernel_rfl) (fun _ _ _ h => h) (Or.inl ⟨by kernel_rfl, ?h10⟩) (by assumption) ?r10
  case h10 => (intro w hSw; (try dsimp only at hSw); go_simp; try with_reducible rfl)
  try simp only [Act.put, List.setIfInBounds_toArray, List.set_cons_zero, List.set_cons_succ]
  refine wpAnyH_take (i := 13) (oi := { dst := some 34, op := Go.Op.fieldAddr 47 (Go.Operand.tmp 33) 0, type := 0, pos := "file.go:124", after := #[{ on := 12, ground := Go.Ground.data }], guard := none }) (v := ?v11) rfl (by kernel_rfl) (by kernel_rfl) (by kernel_rfl) (fun _ _ _ h => h) (Or.inl ⟨by kernel_rfl, ?h11⟩) (by assumption) ?r11
  case h11 => (intro w hSw; (try dsimp only at hSw); go_simp; try with_reducible rfl)
  try simp only [Act.put, List.setIfInBounds_toArray, List.set_cons_zero, List.set_cons_succ]
  refine wpAnyH_ready (rs := [7]) (by kernel_rfl) (by simp) ?_
  refine AllReadyH.cons (o := { dst := some 28, op := Go.Op.load 30 (Go.Operand.tmp 27), type := 30, pos := "file.go:124", after := #[{ on := 6, ground := Go.Ground.data }], guard := none }) rfl (fun K hK => ?_) AllReadyH.nil
  go_simp
  refine hK.out _ _ hHeld (fun hHeld => ?_)
  clear hK K
  try simp only [Act.put, List.setIfInBounds_toArray, List.set_cons_zero, List.set_cons_succ]
  refine wpAnyH_take (i := 9) (oi := { dst := some 30, op := Go.Op.slice 30 (Go.Operand.tmp 28) none (some (Go.Operand.tmp 29)) none, type := 30, pos := "file.go:124", after := #[{ on := 7, ground := Go.Ground.data }, { on := 8, ground := Go.Ground.data }], guard := none }) (v := ?v12) rfl (by kernel_rfl) (by kernel_rfl) (by kernel_rfl) (fun _ _ _ h => h) (Or.inl ⟨by kernel_rfl, ?h12⟩) (by assumption) ?r12
  case h12 => (intro w hSw; (try dsimp only at hSw); go_simp; try with_reducible rfl)
  try simp only [Act.put, List.setIfInBounds_toArray, List.set_cons_zero, List.set_cons_succ]
  refine wpAnyH_ready (rs := [11]) (by kernel_rfl) (by simp) ?_
  refine AllReadyH.cons (o := { dst := some 32, op := Go.Op.call { callee := Go.Callee.builtin Go.Builtin.append, args := #[Go.Operand.tmp 30, Go.Operand.tmp 31], argTypes := #[30, 30] }, type := 30, pos := "file.go:124", after := #[{ on := 9, ground := Go.Ground.data }, { on := 10, ground := Go.Ground.data }], guard := none }) rfl (fun K hK => ?_) AllReadyH.nil
  refine wp_append_foot _ (.tmp 30) (.tmp 31) 30 rfl 5 i0 (.int .u8 0) 1 Try.underlying30 hi hz0 hz1 hz2 rfl .u8 _ ((s.l 0).take M) (own_belowE (X := []) hcut.out.1 ((BelowE.refl _ _ _).drew) (by simp)) w.heap.size A b hs'.out k _ hk'.out rfl rfl (by have := hbd'.out; unfold maxLen; omega) (by have := hbd'.out; omega) ?_
  intro v' w1 own1 grow1 blk1
  obtain ⟨a1, c1, rfl, -, -⟩ := sees_own own1
  have hbk : (Value.slice av M cv).ownBlock = (Value.slice av (s.l 0).length cv).ownBlock := by cases av <;> rfl
  have grow2 : w.grownBy w1 (Value.slice av (s.l 0).length cv).ownBlock := by rw [← hbk]; exact ⟨grow1.os, grow1.tape, grow1.output, grow1.size, grow1.block⟩
  rw [hbk] at blk1
  clear grow1 hbk
  have hg2 : BelowE F w.heap.size w w1 := hHeld.grown ⟨grow2.os, grow2.tape, grow2.output, grow2.size, grow2.block⟩ (Nat.le_refl _) (fun k hk _ => (hM'.out k hk).1)
  have hblk1 : Holds w1 d 47 #[.slice av (s.l 0).length cv, v1, .bool s.off, .bool s.armed, .int .i64 s.left] := (grow2.block d h1'.out.lt (fun e => (hM'.out d e.symm).2 rfl)).trans h1'.out
  have gN := hblk1.cell 0
  have gf := hblk1.free 0
  simp at gN
  refine hK.out _ _ (hg2) (fun hHeld => ?_)
  clear hK K
  try simp only [Act.put, List.setIfInBounds_toArray, List.set_cons_zero, List.set_cons_succ]
  refine wpAnyH_take (i := 14) (oi := { dst := some 35, op := Go.Op.indexAddr 45 (Go.Operand.tmp 34) (Go.Operand.tmp 22), type := 0, pos := "file.go:124", after := #[{ on := 13, ground := Go.Ground.data }, { on := 1, ground := Go.Ground.data }, { on := 0, ground := Go.Ground.phase }, { on := 1, ground := Go.Ground.phase }, { on := 2, ground := Go.Ground.phase }, { on := 3, ground := Go.Ground.phase }, { on := 4, ground := Go.Ground.phase }, { on := 5, ground := Go.Ground.phase }, { on := 6, ground := Go.Ground.phase }, { on := 7, ground := Go.Ground.phase }, { on := 8, ground := Go.Ground.phase }, { on := 9, ground := Go.Ground.phase }, { on := 10, ground := Go.Ground.phase }, { on := 11, ground := Go.Ground.phase }], guard := none }) (v := ?v13) rfl (by kernel_rfl) (by kernel_rfl) (by kernel_rfl) (fun _ _ _ h => h) (Or.inl ⟨by kernel_rfl, ?h13⟩) (by assumption) ?r13
  case h13 => (intro w hSw; (try dsimp only at hSw); go_simp; try with_reducible rfl)
  try simp only [Act.put, List.setIfInBounds_toArray, List.set_cons_zero, List.set_cons_succ]
  refine wpAnyH_ready (rs := [15]) (by kernel_rfl) (by simp) ?_
  refine AllReadyH.cons (o := { dst := none, op := Go.Op.store 30 (Go.Operand.tmp 35) (Go.Operand.tmp 32), type := 0, pos := "file.go:124", after := #[{ on := 14, ground := Go.Ground.data }, { on := 11, ground := Go.Ground.data }, { on := 11, ground := Go.Ground.chain }, { on := 0, ground := Go.Ground.phase }, { on := 1, ground := Go.Ground.phase }, { on := 2, ground := Go.Ground.phase }, { on := 3, ground := Go.Ground.phase }, { on := 4, ground := Go.Ground.phase }, { on := 5, ground := Go.Ground.phase }, { on := 6, ground := Go.Ground.phase }, { on := 7, ground := Go.Ground.phase }, { on := 8, ground := Go.Ground.phase }, { on := 9, ground := Go.Ground.phase }, { on := 10, ground := Go.Ground.phase }, { on := 11, ground := Go.Ground.phase }], guard := none }) rfl (fun K hK => ?_) AllReadyH.nil
  go_simp
  refine hK.out _ _ (hg2.setIn (p := ⟨d, 0, none⟩) h4'.out _) (fun hHeld => ?_)
  clear hK K
  try simp only [Act.put, List.setIfInBounds_toArray, List.set_cons_zero, List.set_cons_succ]
  refine wpAnyH_done (by kernel_rfl) ?_ _
  go_wp2
  go_ret
  obtain ⟨F', q1, q2⟩ := fin'.out w1 _ _ own1 grow2 blk1
  have e1 : ((s.l 0).take M ++ b).length = min M (s.l 0).length + b.length := by simp
  rw [e1] at q1 q2
  exact ⟨rfl, F', q1, q2⟩
theorem spoil_size_0 (d : Nat) (F : List Nat) (s : St) (m : Int) (A : Option Addr) (k c : Nat) (b : List Int) (w : World) (h : Dk w d F s) (hf : s.fine) (hm : m < 0 ∨ ((s.l 0).length : Int) < m) :
    Calls Try.prog 17 #[.pointer (some ⟨d, 0, none⟩), .int .i64 0, .int .i64 m, .slice A k c] w (Tells (spoilO s 0 m b) d F w) := by
  have hl : (s.l 0).length ≤ 4194304 := by have := hf; unfold St.fine at this; omega
  have hhas := has_0 d F s m w h (by omega)
  rw [show decide ((0 : Int) ≤ m ∧ m ≤ ((s.l 0).length : Int)) = false by simp; omega] at hhas
  have hr : spoilO s 0 m b = (1, s) := by simp [spoilO, hm]
  have hres : Tells (spoilO s 0 m b) d F w (.returned (.int .i64 1)) w := by rw [hr]; exact ⟨rfl, F, h, Turns.none F (Below.refl _ _)⟩
  have hres' := Lib.hid hres
  have hhas' := Lib.hid hhas
  clear hhas hr hres h hf hm hl
  go_enter Try.func17, Try.ntmps17
  go_wp2_with fail
  refine hhas'.out.mono ?_
  rintro e w' ⟨rfl, rfl⟩
  go_wp2
  go_ret
  exact hres'.out
theorem spoil_full_0 (d : Nat) (F : List Nat) (s : St) (m : Int) (A : Option Addr) (k c : Nat) (b : List Int) (w : World) (h : Dk w d F s) (hf : s.fine) (hk : k = b.length) (hbl : b.length ≤ 50000000) (hm : ¬ (m < 0 ∨ ((s.l 0).length : Int) < m)) (hfit : 4194304 < m + b.length) :
    Calls Try.prog 17 #[.pointer (some ⟨d, 0, none⟩), .int .i64 0, .int .i64 m, .slice A k c] w (Tells (spoilO s 0 m b) d F w) := by
  have hl : (s.l 0).length ≤ 4194304 := by have := hf; unfold St.fine at this; omega
  have hhas := has_0 d F s m w h (by omega)
  rw [show decide ((0 : Int) ≤ m ∧ m ≤ ((s.l 0).length : Int)) = true by simp; omega] at hhas
  have hr : spoilO s 0 m b = (2, s) := by simp [spoilO, hm, hfit]
  have hres : Tells (spoilO s 0 m b) d F w (.returned (.int .i64 2)) w := by rw [hr]; exact ⟨rfl, F, h, Turns.none F (Below.refl _ _)⟩
  have hres' := Lib.hid hres
  have hhas' := Lib.hid hhas
  have hsum : (4194304 : Int) < m + (k : Int) := by omega
  have hm2 : m ≤ 4194304 := by omega
  have hm3 : 0 ≤ m := by omega
  have hkb : (k : Int) ≤ 50000000 := by omega
  clear hhas hr hres h hf hm hl hk hfit hbl
  go_enter Try.func17, Try.ntmps17
  go_wp2_with fail
  refine hhas'.out.mono ?_
  rintro e w' ⟨rfl, rfl⟩
  go_wp2
  go_ret
  exact hres'.out

theorem spoil_put_1 (d : Nat) (F : List Nat) (s : St) (m : Int) (A : Option Addr) (k c : Nat) (b : List Int) (w : World) (h : Dk w d F s) (hf : s.fine) (hk : k = b.length) (hs : SeesE F .u8 w.heap.size w A b) (hbl : b.length ≤ 50000000) (hm : ¬ (m < 0 ∨ ((s.l 1).length : Int) < m)) (hfit : ¬ 4194304 < m + b.length) :
    Calls Try.prog 17 #[.pointer (some ⟨d, 0, none⟩), .int .i64 1, .int .i64 m, .slice A k c] w (Tells (spoilO s 1 m b) d F w) := by
  obtain ⟨i0, hi, hz0, hz1, hz2⟩ := info_parts infoU8'
  have hr : spoilO s 1 m b = (0, s.with_ (upd s.l 1 ((s.l 1).take m.toNat ++ b))) := by simp [spoilO, hm, hfit]
  rw [hr]
  have hl : (s.l 1).length ≤ 4194304 := by have := hf; unfold St.fine at this; omega
  have hhas := has_1 d F s m w h (by omega)
  rw [show decide ((0 : Int) ≤ m ∧ m ≤ ((s.l 1).length : Int)) = true by simp; omega] at hhas
  obtain ⟨v0, v1, h1, h2, h3, h4, h5, h6, h7, h8⟩ := h
  have cN := h1.cell 1
  have fN := h1.free 1
  simp at cN
  have fin := fun (w1 : World) (v' : Value) (l' : List Int) => dk_put1 (w := w) (w1 := w1) (v' := v') (l' := l') h1 h2 h3 h4 h5 h6 h7 h8
  have fin' := Lib.hid fin
  obtain ⟨av, cv, rfl, -, see0⟩ := sees_own h3
  have h1' := Lib.hid h1
  have hM' := Lib.hid h6
  have h4' := Lib.hid h4
  have hcut := Lib.hid (own_cut h3 m.toNat (by omega))
  obtain ⟨M, hM⟩ := Int.eq_ofNat_of_zero_le (show 0 ≤ m by omega)
  subst hM
  simp only [Int.toNat_natCast] at hcut fin' hr ⊢
  have hMc := hcut.out.2
  have hM2 : (M : Int) ≤ 4194304 := by omega
  have hkb : (k : Int) ≤ 50000000 := by omega
  have hd2 : decide ((4194304 : Int) < (M : Int) + (k : Int)) = false := by simp; omega
  have hsum : ¬ (4194304 : Int) < (M : Int) + (k : Int) := by omega
  have hk' := Lib.hid hk
  have hs' := Lib.hid hs.sees
  have hhas' := Lib.hid hhas
  have hlM : ((s.l 1).take M).length = M := by simp; omega
  have hlM' := Lib.hid hlM
  have hbd' : Hid (((s.l 1).take M).length + b.length ≤ 140737488355328) := Lib.hid (by simp; omega)
  clear h1 h2 h3 h4 h5 h6 h7 h8 see0 hhas fin hk hs hlM hr hf hl hm hbl hfit
  go_enter Try.func17, Try.ntmps17
  go_wp2_with fail
  refine hhas'.out.mono ?_
  rintro e w' ⟨rfl, rfl⟩
  go_wp2
  refine wp_drawn_on (fun W' => BelowE F w.heap.size w W') (by kernel_rfl) ((BelowE.refl _ _ _).drew) (fun hHeld => ?_)
  refine wpAnyH_take (i := 0) (oi := { dst := some 21, op := Go.Op.move (Go.Operand.tmp 0), type := 25, pos := "file.go:124", after := #[], guard := none }) (v := ?v14) rfl (by kernel_rfl) (by kernel_rfl) (by kernel_rfl) (fun _ _ _ h => h) (Or.inl ⟨by kernel_rfl, ?h14⟩) (by assumption) ?r14
  case h14 => (intro w hSw; (try dsimp only at hSw); go_simp; try with_reducible rfl)
  try simp only [Act.put, List.setIfInBounds_toArray, List.set_cons_zero, List.set_cons_succ]
  refine wpAnyH_take (i := 1) (oi := { dst := some 22, op := Go.Op.move (Go.Operand.tmp 1), type := 3, pos := "file.go:124", after := #[], guard := none }) (v := ?v15) rfl (by kernel_rfl) (by kernel_rfl) (by kernel_rfl) (fun _ _ _ h => h) (Or.inl ⟨by kernel_rfl, ?h15⟩) (by assumption) ?r15
  case h15 => (intro w hSw; (try dsimp only at hSw); go_simp; try with_reducible rfl)
  try simp only [Act.put, List.setIfInBounds_toArray, List.set_cons_zero, List.set_cons_succ]
  refine wpAnyH_take (i := 2) (oi := { dst := some 23, op := Go.Op.move (Go.Operand.tmp 0), type := 25, pos := "file.go:124", after := #[], guard := none }) (v := ?v16) rfl (by kernel_rfl) (by kernel_rfl) (by kernel_rfl) (fun _ _ _ h => h) (Or.inl ⟨by kernel_rfl, ?h16⟩) (by assumption) ?r16
  case h16 => (intro w hSw; (try dsimp only at hSw); go_simp; try with_reducible rfl)
  try simp only [Act.put, List.setIfInBounds_toArray, List.set_cons_zero, List.set_cons_succ]
  refine wpAnyH_take (i := 3) (oi := { dst := some 24, op := Go.Op.move (Go.Operand.tmp 1), type := 3, pos := "file.go:124", after := #[], guard := none }) (v := ?v17) rfl (by kernel_rfl) (by kernel_rfl) (by kernel_rfl) (fun _ _ _ h => h) (Or.inl ⟨by kernel_rfl, ?h17⟩) (by assumption) ?r17
  case h17 => (intro w hSw; (try dsimp only at hSw); go_simp; try with_reducible rfl)
  try simp only [Act.put, List.setIfInBounds_toArray, List.set_cons_zero, List.set_cons_succ]
  refine wpAnyH_take (i := 4) (oi := { dst := some 25, op := Go.Op.nilCheck (Go.Operand.tmp 23), type := 0, pos := "file.go:124", after := #[{ on := 2, ground := Go.Ground.data }], guard := none }) (v := ?v18) rfl (by kernel_rfl) (by kernel_rfl) (by kernel_rfl) (fun _ _ _ h => h) (Or.inl ⟨by kernel_rfl, ?h18⟩) (by assumption) ?r18
  case h18 => (intro w hSw; (try dsimp only at hSw); go_simp; try with_reducible rfl)
  try simp only [Act.put, List.setIfInBounds_toArray, List.set_cons_zero, List.set_cons_succ]
  refine wpAnyH_take (i := 5) (oi := { dst := some 26, op := Go.Op.fieldAddr 47 (Go.Operand.tmp 25) 0, type := 0, pos := "file.go:124", after := #[{ on := 4, ground := Go.Ground.data }], guard := none }) (v := ?v19) rfl (by kernel_rfl) (by kernel_rfl) (by kernel_rfl) (fun _ _ _ h => h) (Or.inl ⟨by kernel_rfl, ?h19⟩) (by assumption) ?r19
  case h19 => (intro w hSw; (try dsimp only at hSw); go_simp; try with_reducible rfl)
  try simp only [Act.put, List.setIfInBounds_toArray, List.set_cons_zero, List.set_cons_succ]
  refine wpAnyH_take (i := 6) (oi := { dst := some 27, op := Go.Op.indexAddr 45 (Go.Operand.tmp 26) (Go.Operand.tmp 24), type := 0, pos := "file.go:124", after := #[{ on := 5, ground := Go.Ground.data }, { on := 3, ground := Go.Ground.data }], guard := none }) (v := ?v20) rfl (by kernel_rfl) (by kernel_rfl) (by kernel_rfl) (fun _ _ _ h => h) (Or.inl ⟨by kernel_rfl, ?h20⟩) (by assumption) ?r20
  case h20 => (intro w hSw; (try dsimp only at hSw); go_simp; try with_reducible rfl)
  try simp only [Act.put, List.setIfInBounds_toArray, List.set_cons_zero, List.set_cons_succ]
  refine wpAnyH_take (i := 8) (oi := { dst := some 29, op := Go.Op.move (Go.Operand.tmp 2), type := 3, pos := "file.go:124", after := #[], guard := none }) (v := ?v21) rfl (by kernel_rfl) (by kernel_rfl) (by kernel_rfl) (fun _ _ _ h => h) (Or.inl ⟨by kernel_rfl, ?h21⟩) (by assumption) ?r21
  case h21 => (intro w hSw; (try dsimp only at hSw); go_simp; try with_reducible rfl)
  try simp only [Act.put, List.setIfInBounds_toArray, List.set_cons_zero, List.set_cons_succ]
  refine wpAnyH_take (i := 10) (oi := { dst := some 31, op := Go.Op.move (Go.Operand.tmp 3), type := 30, pos := "file.go:124", after := #[], guard := none }) (v := ?v22) rfl (by kernel_rfl) (by kernel_rfl) (by kernel_rfl) (fun _ _ _ h => h) (Or.inl ⟨by kernel_rfl, ?h22⟩) (by assumption) ?r22
  case h22 => (intro w hSw; (try dsimp only at hSw); go_simp; try with_reducible rfl)
  try simp only [Act.put, List.setIfInBounds_toArray, List.set_cons_zero, List.set_cons_succ]
  refine wpAnyH_take (i := 12) (oi := { dst := some 33, op := Go.Op.nilCheck (Go.Operand.tmp 21), type := 0, pos := "file.go:124", after := #[{ on := 0, ground := Go.Ground.data }], guard := none }) (v := ?v23) rfl (by kernel_rfl) (by kernel_rfl) (by kernel_rfl) (fun _ _ _ h => h) (Or.inl ⟨by kernel_rfl, ?h23⟩) (by assumption) ?r23
  case h23 => (intro w hSw; (try dsimp only at hSw); go_simp; try with_reducible rfl)
  try simp only [Act.put, List.setIfInBounds_toArray, List.set_cons_zero, List.set_cons_succ]
  refine wpAnyH_take (i := 13) (oi := { dst := some 34, op := Go.Op.fieldAddr 47 (Go.Operand.tmp 33) 0, type := 0, pos := "file.go:124", after := #[{ on := 12, ground := Go.Ground.data }], guard := none }) (v := ?v24) rfl (by kernel_rfl) (by kernel_rfl) (by kernel_rfl) (fun _ _ _ h => h) (Or.inl ⟨by kernel_rfl, ?h24⟩) (by assumption) ?r24
  case h24 => (intro w hSw; (try dsimp only at hSw); go_simp; try with_reducible rfl)
  try simp only [Act.put, List.setIfInBounds_toArray, List.set_cons_zero, List.set_cons_succ]
  refine wpAnyH_ready (rs := [7]) (by kernel_rfl) (by simp) ?_
  refine AllReadyH.cons (o := { dst := some 28, op := Go.Op.load 30 (Go.Operand.tmp 27), type := 30, pos := "file.go:124", after := #[{ on := 6, ground := Go.Ground.data }], guard := none }) rfl (fun K hK => ?_) AllReadyH.nil
  go_simp
  refine hK.out _ _ hHeld (fun hHeld => ?_)
  clear hK K
  try simp only [Act.put, List.setIfInBounds_toArray, List.set_cons_zero, List.set_cons_succ]
  refine wpAnyH_take (i := 9) (oi := { dst := some 30, op := Go.Op.slice 30 (Go.Operand.tmp 28) none (some (Go.Operand.tmp 29)) none, type := 30, pos := "file.go:124", after := #[{ on := 7, ground := Go.Ground.data }, { on := 8, ground := Go.Ground.data }], guard := none }) (v := ?v25) rfl (by kernel_rfl) (by kernel_rfl) (by kernel_rfl) (fun _ _ _ h => h) (Or.inl ⟨by kernel_rfl, ?h25⟩) (by assumption) ?r25
  case h25 => (intro w hSw; (try dsimp only at hSw); go_simp; try with_reducible rfl)
  try simp only [Act.put, List.setIfInBounds_toArray, List.set_cons_zero, List.set_cons_succ]
  refine wpAnyH_ready (rs := [11]) (by kernel_rfl) (by simp) ?_
  refine AllReadyH.cons (o := { dst := some 32, op := Go.Op.call { callee := Go.Callee.builtin Go.Builtin.append, args := #[Go.Operand.tmp 30, Go.Operand.tmp 31], argTypes := #[30, 30] }, type := 30, pos := "file.go:124", after := #[{ on := 9, ground := Go.Ground.data }, { on := 10, ground := Go.Ground.data }], guard := none }) rfl (fun K hK => ?_) AllReadyH.nil
  refine wp_append_foot _ (.tmp 30) (.tmp 31) 30 rfl 5 i0 (.int .u8 0) 1 Try.underlying30 hi hz0 hz1 hz2 rfl .u8 _ ((s.l 1).take M) (own_belowE (X := []) hcut.out.1 ((BelowE.refl _ _ _).drew) (by simp)) w.heap.size A b hs'.out k _ hk'.out rfl rfl (by have := hbd'.out; unfold maxLen; omega) (by have := hbd'.out; omega) ?_
  intro v' w1 own1 grow1 blk1
  obtain ⟨a1, c1, rfl, -, -⟩ := sees_own own1
  have hbk : (Value.slice av M cv).ownBlock = (Value.slice av (s.l 1).length cv).ownBlock := by cases av <;> rfl
  have grow2 : w.grownBy w1 (Value.slice av (s.l 1).length cv).ownBlock := by rw [← hbk]; exact ⟨grow1.os, grow1.tape, grow1.output, grow1.size, grow1.block⟩
  rw [hbk] at blk1
  clear grow1 hbk
  have hg2 : BelowE F w.heap.size w w1 := hHeld.grown ⟨grow2.os, grow2.tape, grow2.output, grow2.size, grow2.block⟩ (Nat.le_refl _) (fun k hk _ => (hM'.out k hk).1)
  have hblk1 : Holds w1 d 47 #[v0, .slice av (s.l 1).length cv, .bool s.off, .bool s.armed, .int .i64 s.left] := (grow2.block d h1'.out.lt (fun e => (hM'.out d e.symm).2 rfl)).trans h1'.out
  have gN := hblk1.cell 1
  have gf := hblk1.free 1
  simp at gN
  refine hK.out _ _ (hg2) (fun hHeld => ?_)
  clear hK K
  try simp only [Act.put, List.setIfInBounds_toArray, List.set_cons_zero, List.set_cons_succ]
  refine wpAnyH_take (i := 14) (oi := { dst := some 35, op := Go.Op.indexAddr 45 (Go.Operand.tmp 34) (Go.Operand.tmp 22), type := 0, pos := "file.go:124", after := #[{ on := 13, ground := Go.Ground.data }, { on := 1, ground := Go.Ground.data }, { on := 0, ground := Go.Ground.phase }, { on := 1, ground := Go.Ground.phase }, { on := 2, ground := Go.Ground.phase }, { on := 3, ground := Go.Ground.phase }, { on := 4, ground := Go.Ground.phase }, { on := 5, ground := Go.Ground.phase }, { on := 6, ground := Go.Ground.phase }, { on := 7, ground := Go.Ground.phase }, { on := 8, ground := Go.Ground.phase }, { on := 9, ground := Go.Ground.phase }, { on := 10, ground := Go.Ground.phase }, { on := 11, ground := Go.Ground.phase }], guard := none }) (v := ?v26) rfl (by kernel_rfl) (by kernel_rfl) (by kernel_rfl) (fun _ _ _ h => h) (Or.inl ⟨by kernel_rfl, ?h26⟩) (by assumption) ?r26
  case h26 => (intro w hSw; (try dsimp only at hSw); go_simp; try with_reducible rfl)
  try simp only [Act.put, List.setIfInBounds_toArray, List.set_cons_zero, List.set_cons_succ]
  refine wpAnyH_ready (rs := [15]) (by kernel_rfl) (by simp) ?_
  refine AllReadyH.cons (o := { dst := none, op := Go.Op.store 30 (Go.Operand.tmp 35) (Go.Operand.tmp 32), type := 0, pos := "file.go:124", after := #[{ on := 14, ground := Go.Ground.data }, { on := 11, ground := Go.Ground.data }, { on := 11, ground := Go.Ground.chain }, { on := 0, ground := Go.Ground.phase }, { on := 1, ground := Go.Ground.phase }, { on := 2, ground := Go.Ground.phase }, { on := 3, ground := Go.Ground.phase }, { on := 4, ground := Go.Ground.phase }, { on := 5, ground := Go.Ground.phase }, { on := 6, ground := Go.Ground.phase }, { on := 7, ground := Go.Ground.phase }, { on := 8, ground := Go.Ground.phase }, { on := 9, ground := Go.Ground.phase }, { on := 10, ground := Go.Ground.phase }, { on := 11, ground := Go.Ground.phase }], guard := none }) rfl (fun K hK => ?_) AllReadyH.nil
  go_simp
  refine hK.out _ _ (hg2.setIn (p := ⟨d, 1, none⟩) h4'.out _) (fun hHeld => ?_)
  clear hK K
  try simp only [Act.put, List.setIfInBounds_toArray, List.set_cons_zero, List.set_cons_succ]
  refine wpAnyH_done (by kernel_rfl) ?_ _
  go_wp2
  go_ret
  obtain ⟨F', q1, q2⟩ := fin'.out w1 _ _ own1 grow2 blk1
  have e1 : ((s.l 1).take M ++ b).length = min M (s.l 1).length + b.length := by simp
  rw [e1] at q1 q2
  exact ⟨rfl, F', q1, q2⟩
theorem spoil_size_1 (d : Nat) (F : List Nat) (s : St) (m : Int) (A : Option Addr) (k c : Nat) (b : List Int) (w : World) (h : Dk w d F s) (hf : s.fine) (hm : m < 0 ∨ ((s.l 1).length : Int) < m) :
    Calls Try.prog 17 #[.pointer (some ⟨d, 0, none⟩), .int .i64 1, .int .i64 m, .slice A k c] w (Tells (spoilO s 1 m b) d F w) := by
  have hl : (s.l 1).length ≤ 4194304 := by have := hf; unfold St.fine at this; omega
  have hhas := has_1 d F s m w h (by omega)
  rw [show decide ((0 : Int) ≤ m ∧ m ≤ ((s.l 1).length : Int)) = false by simp; omega] at hhas
  have hr : spoilO s 1 m b = (1, s) := by simp [spoilO, hm]
  have hres : Tells (spoilO s 1 m b) d F w (.returned (.int .i64 1)) w := by rw [hr]; exact ⟨rfl, F, h, Turns.none F (Below.refl _ _)⟩
  have hres' := Lib.hid hres
  have hhas' := Lib.hid hhas
  clear hhas hr hres h hf hm hl
  go_enter Try.func17, Try.ntmps17
  go_wp2_with fail
  refine hhas'.out.mono ?_
  rintro e w' ⟨rfl, rfl⟩
  go_wp2
  go_ret
  exact hres'.out
theorem spoil_full_1 (d : Nat) (F : List Nat) (s : St) (m : Int) (A : Option Addr) (k c : Nat) (b : List Int) (w : World) (h : Dk w d F s) (hf : s.fine) (hk : k = b.length) (hbl : b.length ≤ 50000000) (hm : ¬ (m < 0 ∨ ((s.l 1).length : Int) < m)) (hfit : 4194304 < m + b.length) :
    Calls Try.prog 17 #[.pointer (some ⟨d, 0, none⟩), .int .i64 1, .int .i64 m, .slice A k c] w (Tells (spoilO s 1 m b) d F w) := by
  have hl : (s.l 1).length ≤ 4194304 := by have := hf; unfold St.fine at this; omega
  have hhas := has_1 d F s m w h (by omega)
  rw [show decide ((0 : Int) ≤ m ∧ m ≤ ((s.l 1).length : Int)) = true by simp; omega] at hhas
  have hr : spoilO s 1 m b = (2, s) := by simp [spoilO, hm, hfit]
  have hres : Tells (spoilO s 1 m b) d F w (.returned (.int .i64 2)) w := by rw [hr]; exact ⟨rfl, F, h, Turns.none F (Below.refl _ _)⟩
  have hres' := Lib.hid hres
  have hhas' := Lib.hid hhas
  have hsum : (4194304 : Int) < m + (k : Int) := by omega
  have hm2 : m ≤ 4194304 := by omega
  have hm3 : 0 ≤ m := by omega
  have hkb : (k : Int) ≤ 50000000 := by omega
  clear hhas hr hres h hf hm hl hk hfit hbl
  go_enter Try.func17, Try.ntmps17
  go_wp2_with fail
  refine hhas'.out.mono ?_
  rintro e w' ⟨rfl, rfl⟩
  go_wp2
  go_ret
  exact hres'.out

theorem spoil_any (d : Nat) (F : List Nat) (s : St) (n m : Int) (A : Option Addr) (k c : Nat) (b : List Int) (w : World) (h : Dk w d F s) (hf : s.fine) (hk : k = b.length) (hs : SeesE F .u8 w.heap.size w A b) (hbl : b.length ≤ 50000000) :
    Calls Try.prog 17 #[.pointer (some ⟨d, 0, none⟩), .int .i64 n, .int .i64 m, .slice A k c] w (Tells (spoilO s n m b) d F w) := by
  by_cases hn : n ≠ 0 ∧ n ≠ 1
  · have hhas := Lib.hid (has_no d n m (by omega) w)
    have hr : spoilO s n m b = (1, s) := by simp [spoilO, hn]
    have hres : Tells (spoilO s n m b) d F w (.returned (.int .i64 1)) w := by rw [hr]; exact ⟨rfl, F, h, Turns.none F (Below.refl _ _)⟩
    have hres' := Lib.hid hres
    clear hr hres h hf hn hk hs hbl
    go_enter Try.func17, Try.ntmps17
    go_wp2_with fail
    refine hhas.out.mono ?_
    rintro e w' ⟨rfl, rfl⟩
    go_wp2
    go_ret
    exact hres'.out
  · have : n = 0 ∨ n = 1 := by omega
    rcases this with rfl | rfl
    · by_cases hm : m < 0 ∨ ((s.l 0).length : Int) < m
      · exact spoil_size_0 d F s m A k c b w h hf hm
      · by_cases hfit : 4194304 < m + (b.length : Int)
        · exact spoil_full_0 d F s m A k c b w h hf hk hbl hm hfit
        · exact spoil_put_0 d F s m A k c b w h hf hk hs hbl hm hfit
    · by_cases hm : m < 0 ∨ ((s.l 1).length : Int) < m
      · exact spoil_size_1 d F s m A k c b w h hf hm
      · by_cases hfit : 4194304 < m + (b.length : Int)
        · exact spoil_full_1 d F s m A k c b w h hf hk hbl hm hfit
        · exact spoil_put_1 d F s m A k c b w h hf hk hs hbl hm hfit
end Go.Proofs.Ytjhakmpinloioaa
