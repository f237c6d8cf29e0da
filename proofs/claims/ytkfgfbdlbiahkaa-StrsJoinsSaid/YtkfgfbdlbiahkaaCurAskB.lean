/- cur: what a reader's step is run by; what becomes of it where the step stops. -/
import Derived.Test.YtkfgfbdlbiahkaaCurCaught
import Derived.Defers
import Derived.Recover
namespace Go.Proofs.Ytkfgfbdlbiahkaa
open Go.RowKit
set_option linter.unusedVariables false

theorem ask_count_ok (r c : Nat) (a : Option Addr) (cap : Nat) (bs : List Int) (p q : Nat) (v : Int) (w : World) (h : Rd w r a cap bs p 0)
    (hstep : ∀ w1, Below w.heap.size w w1 → Calls Try.prog 48 #[.pointer (some ⟨r, 0, none⟩), .pointer (some ⟨c, 0, none⟩)] w1 (Steps (.int .i64 v) r a cap bs q w1)) :
    Calls Try.prog 47 #[.pointer (some ⟨r, 0, none⟩), .func (.func 48) #[] #[.pointer (some ⟨c, 0, none⟩)]] w (Steps (.int .i64 v) r a cap bs q w) := by
  have hmf : ∀ (fn : Fn) (first cap : Array Value) (w : World), (Instr.makeFunc fn first cap).run Try.prog w = .ok (.func fn first cap) w := fun _ _ _ _ => rfl
  have c1 := h.blk.cell 1
  have c2 := h.blk.cell 2
  simp at c1 c2
  have hstep' := Lib.hid hstep
  have lr := h.blk.lt
  have hmv := Lib.hid (fun w' (hb : Below w.heap.size w w') => h.ahead hb)
  clear hstep h
  go_enter_defers Try.func47, Try.ntmps47
  go_wp2_with fail
  have hB : Below w.heap.size w ((w.alloc (.cells #[.pointer (some ⟨r, 0, none⟩)] 48)).alloc (.cells #[(.int .i64 0)] 3)) := ((Below.refl _ _).alloc (Nat.le_refl _) _).alloc (by simp) _
  have k1 := (hB.cell (p := ⟨r, 1, none⟩) lr).trans c1
  have k2 := (hB.cell (p := ⟨r, 2, none⟩) lr).trans c2
  have kb : ((w.alloc (.cells #[.pointer (some ⟨r, 0, none⟩)] 48)).alloc (.cells #[(.int .i64 0)] 3)).cell? ⟨w.heap.size, 0, none⟩ = some (.pointer (some ⟨r, 0, none⟩)) := by simp [go_sem]
  have kv : ((w.alloc (.cells #[.pointer (some ⟨r, 0, none⟩)] 48)).alloc (.cells #[(.int .i64 0)] 3)).cell? ⟨w.heap.size + 1, 0, none⟩ = some (.int .i64 0) := by simp [go_sem]
  have kf : ((w.alloc (.cells #[.pointer (some ⟨r, 0, none⟩)] 48)).alloc (.cells #[(.int .i64 0)] 3)).frozen? ⟨w.heap.size + 1, 0, none⟩ = false := by simp [go_sem]
  have ks : ((w.alloc (.cells #[.pointer (some ⟨r, 0, none⟩)] 48)).alloc (.cells #[(.int .i64 0)] 3)).heap.size = w.heap.size + 2 := by simp
  have ks' := Lib.hid ks
  have hB' := Lib.hid hB
  clear ks hB
  generalize (w.alloc (.cells #[.pointer (some ⟨r, 0, none⟩)] 48)).alloc (.cells #[(.int .i64 0)] 3) = W at *
  refine (err_any r 0 W k2).mono ?_
  rintro e w' ⟨rfl, rfl⟩
  have lb : w.heap.size < W.heap.size := World.block_lt_of_cell? W _ kb
  have lv : w.heap.size + 1 < W.heap.size := World.block_lt_of_cell? W _ kv
  have hC : Below W.heap.size W (W.alloc (.cells #[.int .i64 p] 3)) := (Below.refl _ _).alloc (Nat.le_refl _) _
  have kb2 := (hC.cell (p := ⟨w.heap.size, 0, none⟩) lb).trans kb
  have kv2 := (hC.cell (p := ⟨w.heap.size + 1, 0, none⟩) lv).trans kv
  have kf2 := (hC.frozen (p := ⟨w.heap.size + 1, 0, none⟩) lv).trans kf
  go_wp2_with fail
  have hD := hB'.out.trans (hC.mono hB'.out.size)
  refine (hstep'.out _ hD).mono ?_
  rintro e w4 ⟨rfl, m1, m2⟩
  have sC : (W.alloc (.cells #[.int .i64 p] 3)).heap.size = W.heap.size + 1 := by simp
  have kv4 := (m2.cell (p := ⟨w.heap.size + 1, 0, none⟩) (by rw [sC]; show w.heap.size + 1 < _; omega) (by simp; omega)).trans kv2
  have kf4 : w4.frozen? ⟨w.heap.size + 1, 0, none⟩ = false := (World.frozen?_of_block (w := W.alloc (.cells #[.int .i64 p] 3)) (m2.block (w.heap.size + 1) (by rw [sC]; omega) (by simp; omega))).trans kf2
  go_wp2_with fail
  refine leaves_cons (f := 58) (args := #[.pointer (some ⟨W.heap.size, 0, none⟩), .pointer (some ⟨w.heap.size + 1, 0, none⟩), .pointer (some ⟨w.heap.size, 0, none⟩)]) (by simp) (by simp [go_sem]) ?_
  refine (idle_int _ _ _ _).mono ?_
  rintro e u' w5 ⟨rfl, rfl, rfl⟩
  have kx : (w4.setCell ⟨w.heap.size + 1, 0, none⟩ (.int .i64 v)).cell? ⟨w.heap.size + 1, 0, none⟩ = some (.int .i64 v) := by simp [go_sem, kv4]
  simp [Leaves, settle, results, Try.results47, go_sem, kx]
  have m3 : BelowE [r] w.heap.size w w4 := (BelowE.of hD).trans (m2.mono hD.size)
  exact ⟨rfl, m1.far (p := ⟨w.heap.size + 1, 0, none⟩) (by show r ≠ w.heap.size + 1; omega) _, m3.setNew (p := ⟨w.heap.size + 1, 0, none⟩) (by show w.heap.size ≤ w.heap.size + 1; omega) _⟩
theorem ask_count_no (r c : Nat) (a : Option Addr) (cap : Nat) (bs : List Int) (p : Nat) (x : Int) (w : World) (h : Rd w r a cap bs p 0)
    (hstep : ∀ w1, Below w.heap.size w w1 → Calls Try.prog 48 #[.pointer (some ⟨r, 0, none⟩), .pointer (some ⟨c, 0, none⟩)] w1 (Stops x r a cap bs w1)) :
    Calls Try.prog 47 #[.pointer (some ⟨r, 0, none⟩), .func (.func 48) #[] #[.pointer (some ⟨c, 0, none⟩)]] w (Rests (.int .i64 0) r a cap bs p x w) := by
  have hmf : ∀ (fn : Fn) (first cap : Array Value) (w : World), (Instr.makeFunc fn first cap).run Try.prog w = .ok (.func fn first cap) w := fun _ _ _ _ => rfl
  have c1 := h.blk.cell 1
  have c2 := h.blk.cell 2
  simp at c1 c2
  have hstep' := Lib.hid hstep
  have lr := h.blk.lt
  have hmv := Lib.hid (fun w' (hb : Below w.heap.size w w') => h.ahead hb)
  clear hstep h
  go_enter_defers Try.func47, Try.ntmps47
  go_wp2_with fail
  have hB : Below w.heap.size w ((w.alloc (.cells #[.pointer (some ⟨r, 0, none⟩)] 48)).alloc (.cells #[(.int .i64 0)] 3)) := ((Below.refl _ _).alloc (Nat.le_refl _) _).alloc (by simp) _
  have k1 := (hB.cell (p := ⟨r, 1, none⟩) lr).trans c1
  have k2 := (hB.cell (p := ⟨r, 2, none⟩) lr).trans c2
  have kb : ((w.alloc (.cells #[.pointer (some ⟨r, 0, none⟩)] 48)).alloc (.cells #[(.int .i64 0)] 3)).cell? ⟨w.heap.size, 0, none⟩ = some (.pointer (some ⟨r, 0, none⟩)) := by simp [go_sem]
  have kv : ((w.alloc (.cells #[.pointer (some ⟨r, 0, none⟩)] 48)).alloc (.cells #[(.int .i64 0)] 3)).cell? ⟨w.heap.size + 1, 0, none⟩ = some (.int .i64 0) := by simp [go_sem]
  have kf : ((w.alloc (.cells #[.pointer (some ⟨r, 0, none⟩)] 48)).alloc (.cells #[(.int .i64 0)] 3)).frozen? ⟨w.heap.size + 1, 0, none⟩ = false := by simp [go_sem]
  have ks : ((w.alloc (.cells #[.pointer (some ⟨r, 0, none⟩)] 48)).alloc (.cells #[(.int .i64 0)] 3)).heap.size = w.heap.size + 2 := by simp
  have ks' := Lib.hid ks
  have hB' := Lib.hid hB
  clear ks hB
  generalize (w.alloc (.cells #[.pointer (some ⟨r, 0, none⟩)] 48)).alloc (.cells #[(.int .i64 0)] 3) = W at *
  refine (err_any r 0 W k2).mono ?_
  rintro e w' ⟨rfl, rfl⟩
  have lb : w.heap.size < W.heap.size := World.block_lt_of_cell? W _ kb
  have lv : w.heap.size + 1 < W.heap.size := World.block_lt_of_cell? W _ kv
  have hC : Below W.heap.size W (W.alloc (.cells #[.int .i64 p] 3)) := (Below.refl _ _).alloc (Nat.le_refl _) _
  have kb2 := (hC.cell (p := ⟨w.heap.size, 0, none⟩) lb).trans kb
  have kv2 := (hC.cell (p := ⟨w.heap.size + 1, 0, none⟩) lv).trans kv
  have kf2 := (hC.frozen (p := ⟨w.heap.size + 1, 0, none⟩) lv).trans kf
  have kf3 : (W.alloc (.cells #[.int .i64 p] 3)).cell? ⟨W.heap.size, 0, none⟩ = some (.int .i64 p) := by simp [go_sem]
  go_wp2_with fail
  have hD := hB'.out.trans (hC.mono hB'.out.size)
  refine (hstep'.out _ hD).mono ?_
  rintro e w4 ⟨rfl, q, m1, m2⟩
  have sC : (W.alloc (.cells #[.int .i64 p] 3)).heap.size = W.heap.size + 1 := by simp
  have kv4 := (m2.cell (p := ⟨w.heap.size + 1, 0, none⟩) (by rw [sC]; show w.heap.size + 1 < _; omega) (by simp; omega)).trans kv2
  have kb4 := (m2.cell (p := ⟨w.heap.size, 0, none⟩) (by rw [sC]; show w.heap.size < _; omega) (by simp; omega)).trans kb2
  have kw4 := (m2.cell (p := ⟨W.heap.size, 0, none⟩) (by rw [sC]; show W.heap.size < _; omega) (by simp; omega)).trans kf3
  have kf4 : w4.frozen? ⟨w.heap.size + 1, 0, none⟩ = false := (World.frozen?_of_block (w := W.alloc (.cells #[.int .i64 p] 3)) (m2.block (w.heap.size + 1) (by rw [sC]; omega) (by simp; omega))).trans kf2
  go_wp2_with fail
  refine leaves_cons (f := 58) (args := #[.pointer (some ⟨W.heap.size, 0, none⟩), .pointer (some ⟨w.heap.size + 1, 0, none⟩), .pointer (some ⟨w.heap.size, 0, none⟩)]) (by simp) (by simp [go_sem]) ?_
  refine (caught_int W.heap.size (w.heap.size + 1) w.heap.size r a cap bs p q x (.int .i64 0) [] w4 kw4 kv4 kf4 kb4 m1 (by omega) (by omega) (by omega) (by omega) (by omega)).mono ?_
  rintro e u' w5 ⟨rfl, rfl, m3, m4, m5⟩
  simp [Leaves, settle, results, Try.results47, go_sem, m4]
  have m6 : BelowE [r] w.heap.size w w4 := (BelowE.of hD).trans (m2.mono hD.size)
  have m7 : BelowE [r] w.heap.size w4 w5 := (m5.mono m6.size).less (by intro x hx hl; simp at hx ⊢; omega)
  exact ⟨rfl, m3, m6.trans m7⟩
theorem ask_count_bad (r c : Nat) (a : Option Addr) (cap : Nat) (bs : List Int) (p : Nat) (x : Int) (hx : x ≠ 0) (w : World) (h : Rd w r a cap bs p x) :
    Calls Try.prog 47 #[.pointer (some ⟨r, 0, none⟩), .func (.func 48) #[] #[.pointer (some ⟨c, 0, none⟩)]] w (Rests (.int .i64 0) r a cap bs p x w) := by
  have hmf : ∀ (fn : Fn) (first cap : Array Value) (w : World), (Instr.makeFunc fn first cap).run Try.prog w = .ok (.func fn first cap) w := fun _ _ _ _ => rfl
  have c1 := h.blk.cell 1
  have c2 := h.blk.cell 2
  simp at c1 c2
  have lr := h.blk.lt
  have hmv := Lib.hid (fun w' (hb : Below w.heap.size w w') => h.ahead hb)
  have hblk := Lib.hid h.blk
  clear h
  go_enter_defers Try.func47, Try.ntmps47
  go_wp2_with fail
  have hB : Below w.heap.size w ((w.alloc (.cells #[.pointer (some ⟨r, 0, none⟩)] 48)).alloc (.cells #[(.int .i64 0)] 3)) := ((Below.refl _ _).alloc (Nat.le_refl _) _).alloc (by simp) _
  have k1 := (hB.cell (p := ⟨r, 1, none⟩) lr).trans c1
  have k2 := (hB.cell (p := ⟨r, 2, none⟩) lr).trans c2
  have kb : ((w.alloc (.cells #[.pointer (some ⟨r, 0, none⟩)] 48)).alloc (.cells #[(.int .i64 0)] 3)).cell? ⟨w.heap.size, 0, none⟩ = some (.pointer (some ⟨r, 0, none⟩)) := by simp [go_sem]
  have kv : ((w.alloc (.cells #[.pointer (some ⟨r, 0, none⟩)] 48)).alloc (.cells #[(.int .i64 0)] 3)).cell? ⟨w.heap.size + 1, 0, none⟩ = some (.int .i64 0) := by simp [go_sem]
  have kf : ((w.alloc (.cells #[.pointer (some ⟨r, 0, none⟩)] 48)).alloc (.cells #[(.int .i64 0)] 3)).frozen? ⟨w.heap.size + 1, 0, none⟩ = false := by simp [go_sem]
  have ks : ((w.alloc (.cells #[.pointer (some ⟨r, 0, none⟩)] 48)).alloc (.cells #[(.int .i64 0)] 3)).heap.size = w.heap.size + 2 := by simp
  have ks' := Lib.hid ks
  have hB' := Lib.hid hB
  clear ks hB
  generalize (w.alloc (.cells #[.pointer (some ⟨r, 0, none⟩)] 48)).alloc (.cells #[(.int .i64 0)] 3) = W at *
  refine (err_any r x W k2).mono ?_
  rintro e w' ⟨rfl, rfl⟩
  have hne : (x != 0) = true := by simpa using hx
  go_wp2_with fail
  have kx : (W.setCell ⟨w.heap.size + 1, 0, none⟩ (.int .i64 0)).cell? ⟨w.heap.size + 1, 0, none⟩ = some (.int .i64 0) := by simp [go_sem, kv]
  simp [bodyPostD, Leaves, results, Try.results47, go_sem, kx]
  exact ⟨rfl, (hblk.out.below hB'.out lr).far (p := ⟨w.heap.size + 1, 0, none⟩) (by show r ≠ w.heap.size + 1; omega) _, (BelowE.of hB'.out).setNew (p := ⟨w.heap.size + 1, 0, none⟩) (by show w.heap.size ≤ w.heap.size + 1; omega) _⟩

theorem ask_count_nil (c : Nat) (w : World) :
    Calls Try.prog 47 #[.pointer none, .func (.func 48) #[] #[.pointer (some ⟨c, 0, none⟩)]] w (fun e w' => e = .returned (.int .i64 0) ∧ Below w.heap.size w w') := by
  have hmf : ∀ (fn : Fn) (first cap : Array Value) (w : World), (Instr.makeFunc fn first cap).run Try.prog w = .ok (.func fn first cap) w := fun _ _ _ _ => rfl
  go_enter_defers Try.func47, Try.ntmps47
  go_wp2_with fail
  have hB : Below w.heap.size w ((w.alloc (.cells #[.pointer none] 48)).alloc (.cells #[(.int .i64 0)] 3)) := ((Below.refl _ _).alloc (Nat.le_refl _) _).alloc (by simp) _
  have kv : ((w.alloc (.cells #[.pointer none] 48)).alloc (.cells #[(.int .i64 0)] 3)).cell? ⟨w.heap.size + 1, 0, none⟩ = some (.int .i64 0) := by simp [go_sem]
  have kf : ((w.alloc (.cells #[.pointer none] 48)).alloc (.cells #[(.int .i64 0)] 3)).frozen? ⟨w.heap.size + 1, 0, none⟩ = false := by simp [go_sem]
  have hB' := Lib.hid hB
  clear hB
  generalize (w.alloc (.cells #[.pointer none] 48)).alloc (.cells #[(.int .i64 0)] 3) = W at *
  refine (err_nil _).mono ?_
  rintro e w' ⟨rfl, rfl⟩
  go_wp2_with fail
  have kx : (W.setCell ⟨w.heap.size + 1, 0, none⟩ (.int .i64 0)).cell? ⟨w.heap.size + 1, 0, none⟩ = some (.int .i64 0) := by simp [go_sem, kv]
  simp [bodyPostD, Leaves, results, Try.results47, go_sem, kx]
  exact hB'.out.setCell (p := ⟨w.heap.size + 1, 0, none⟩) (by show w.heap.size ≤ w.heap.size + 1; omega) _
theorem ask_text_ok (r c : Nat) (a : Option Addr) (cap : Nat) (bs : List Int) (p q : Nat) (v : ByteArray) (w : World) (h : Rd w r a cap bs p 0)
    (hstep : ∀ w1, Below w.heap.size w w1 → Calls Try.prog 61 #[.pointer (some ⟨r, 0, none⟩), .pointer (some ⟨c, 0, none⟩)] w1 (Steps (.string v) r a cap bs q w1)) :
    Calls Try.prog 60 #[.pointer (some ⟨r, 0, none⟩), .func (.func 61) #[] #[.pointer (some ⟨c, 0, none⟩)]] w (Steps (.string v) r a cap bs q w) := by
  have hmf : ∀ (fn : Fn) (first cap : Array Value) (w : World), (Instr.makeFunc fn first cap).run Try.prog w = .ok (.func fn first cap) w := fun _ _ _ _ => rfl
  have c1 := h.blk.cell 1
  have c2 := h.blk.cell 2
  simp at c1 c2
  have hstep' := Lib.hid hstep
  have lr := h.blk.lt
  have hmv := Lib.hid (fun w' (hb : Below w.heap.size w w') => h.ahead hb)
  clear hstep h
  go_enter_defers Try.func60, Try.ntmps60
  go_wp2_with fail
  have hB : Below w.heap.size w ((w.alloc (.cells #[.pointer (some ⟨r, 0, none⟩)] 48)).alloc (.cells #[(.string ⟨#[]⟩)] 9)) := ((Below.refl _ _).alloc (Nat.le_refl _) _).alloc (by simp) _
  have k1 := (hB.cell (p := ⟨r, 1, none⟩) lr).trans c1
  have k2 := (hB.cell (p := ⟨r, 2, none⟩) lr).trans c2
  have kb : ((w.alloc (.cells #[.pointer (some ⟨r, 0, none⟩)] 48)).alloc (.cells #[(.string ⟨#[]⟩)] 9)).cell? ⟨w.heap.size, 0, none⟩ = some (.pointer (some ⟨r, 0, none⟩)) := by simp [go_sem]
  have kv : ((w.alloc (.cells #[.pointer (some ⟨r, 0, none⟩)] 48)).alloc (.cells #[(.string ⟨#[]⟩)] 9)).cell? ⟨w.heap.size + 1, 0, none⟩ = some (.string ⟨#[]⟩) := by simp [go_sem]
  have kf : ((w.alloc (.cells #[.pointer (some ⟨r, 0, none⟩)] 48)).alloc (.cells #[(.string ⟨#[]⟩)] 9)).frozen? ⟨w.heap.size + 1, 0, none⟩ = false := by simp [go_sem]
  have ks : ((w.alloc (.cells #[.pointer (some ⟨r, 0, none⟩)] 48)).alloc (.cells #[(.string ⟨#[]⟩)] 9)).heap.size = w.heap.size + 2 := by simp
  have ks' := Lib.hid ks
  have hB' := Lib.hid hB
  clear ks hB
  generalize (w.alloc (.cells #[.pointer (some ⟨r, 0, none⟩)] 48)).alloc (.cells #[(.string ⟨#[]⟩)] 9) = W at *
  refine (err_any r 0 W k2).mono ?_
  rintro e w' ⟨rfl, rfl⟩
  have lb : w.heap.size < W.heap.size := World.block_lt_of_cell? W _ kb
  have lv : w.heap.size + 1 < W.heap.size := World.block_lt_of_cell? W _ kv
  have hC : Below W.heap.size W (W.alloc (.cells #[.int .i64 p] 3)) := (Below.refl _ _).alloc (Nat.le_refl _) _
  have kb2 := (hC.cell (p := ⟨w.heap.size, 0, none⟩) lb).trans kb
  have kv2 := (hC.cell (p := ⟨w.heap.size + 1, 0, none⟩) lv).trans kv
  have kf2 := (hC.frozen (p := ⟨w.heap.size + 1, 0, none⟩) lv).trans kf
  go_wp2_with fail
  have hD := hB'.out.trans (hC.mono hB'.out.size)
  refine (hstep'.out _ hD).mono ?_
  rintro e w4 ⟨rfl, m1, m2⟩
  have sC : (W.alloc (.cells #[.int .i64 p] 3)).heap.size = W.heap.size + 1 := by simp
  have kv4 := (m2.cell (p := ⟨w.heap.size + 1, 0, none⟩) (by rw [sC]; show w.heap.size + 1 < _; omega) (by simp; omega)).trans kv2
  have kf4 : w4.frozen? ⟨w.heap.size + 1, 0, none⟩ = false := (World.frozen?_of_block (w := W.alloc (.cells #[.int .i64 p] 3)) (m2.block (w.heap.size + 1) (by rw [sC]; omega) (by simp; omega))).trans kf2
  go_wp2_with fail
  refine leaves_cons (f := 77) (args := #[.pointer (some ⟨W.heap.size, 0, none⟩), .pointer (some ⟨w.heap.size + 1, 0, none⟩), .pointer (some ⟨w.heap.size, 0, none⟩)]) (by simp) (by simp [go_sem]) ?_
  refine (idle_string _ _ _ _).mono ?_
  rintro e u' w5 ⟨rfl, rfl, rfl⟩
  have kx : (w4.setCell ⟨w.heap.size + 1, 0, none⟩ (.string v)).cell? ⟨w.heap.size + 1, 0, none⟩ = some (.string v) := by simp [go_sem, kv4]
  simp [Leaves, settle, results, Try.results60, go_sem, kx]
  have m3 : BelowE [r] w.heap.size w w4 := (BelowE.of hD).trans (m2.mono hD.size)
  exact ⟨rfl, m1.far (p := ⟨w.heap.size + 1, 0, none⟩) (by show r ≠ w.heap.size + 1; omega) _, m3.setNew (p := ⟨w.heap.size + 1, 0, none⟩) (by show w.heap.size ≤ w.heap.size + 1; omega) _⟩
theorem ask_text_no (r c : Nat) (a : Option Addr) (cap : Nat) (bs : List Int) (p : Nat) (x : Int) (w : World) (h : Rd w r a cap bs p 0)
    (hstep : ∀ w1, Below w.heap.size w w1 → Calls Try.prog 61 #[.pointer (some ⟨r, 0, none⟩), .pointer (some ⟨c, 0, none⟩)] w1 (Stops x r a cap bs w1)) :
    Calls Try.prog 60 #[.pointer (some ⟨r, 0, none⟩), .func (.func 61) #[] #[.pointer (some ⟨c, 0, none⟩)]] w (Rests (.string ⟨#[]⟩) r a cap bs p x w) := by
  have hmf : ∀ (fn : Fn) (first cap : Array Value) (w : World), (Instr.makeFunc fn first cap).run Try.prog w = .ok (.func fn first cap) w := fun _ _ _ _ => rfl
  have c1 := h.blk.cell 1
  have c2 := h.blk.cell 2
  simp at c1 c2
  have hstep' := Lib.hid hstep
  have lr := h.blk.lt
  have hmv := Lib.hid (fun w' (hb : Below w.heap.size w w') => h.ahead hb)
  clear hstep h
  go_enter_defers Try.func60, Try.ntmps60
  go_wp2_with fail
  have hB : Below w.heap.size w ((w.alloc (.cells #[.pointer (some ⟨r, 0, none⟩)] 48)).alloc (.cells #[(.string ⟨#[]⟩)] 9)) := ((Below.refl _ _).alloc (Nat.le_refl _) _).alloc (by simp) _
  have k1 := (hB.cell (p := ⟨r, 1, none⟩) lr).trans c1
  have k2 := (hB.cell (p := ⟨r, 2, none⟩) lr).trans c2
  have kb : ((w.alloc (.cells #[.pointer (some ⟨r, 0, none⟩)] 48)).alloc (.cells #[(.string ⟨#[]⟩)] 9)).cell? ⟨w.heap.size, 0, none⟩ = some (.pointer (some ⟨r, 0, none⟩)) := by simp [go_sem]
  have kv : ((w.alloc (.cells #[.pointer (some ⟨r, 0, none⟩)] 48)).alloc (.cells #[(.string ⟨#[]⟩)] 9)).cell? ⟨w.heap.size + 1, 0, none⟩ = some (.string ⟨#[]⟩) := by simp [go_sem]
  have kf : ((w.alloc (.cells #[.pointer (some ⟨r, 0, none⟩)] 48)).alloc (.cells #[(.string ⟨#[]⟩)] 9)).frozen? ⟨w.heap.size + 1, 0, none⟩ = false := by simp [go_sem]
  have ks : ((w.alloc (.cells #[.pointer (some ⟨r, 0, none⟩)] 48)).alloc (.cells #[(.string ⟨#[]⟩)] 9)).heap.size = w.heap.size + 2 := by simp
  have ks' := Lib.hid ks
  have hB' := Lib.hid hB
  clear ks hB
  generalize (w.alloc (.cells #[.pointer (some ⟨r, 0, none⟩)] 48)).alloc (.cells #[(.string ⟨#[]⟩)] 9) = W at *
  refine (err_any r 0 W k2).mono ?_
  rintro e w' ⟨rfl, rfl⟩
  have lb : w.heap.size < W.heap.size := World.block_lt_of_cell? W _ kb
  have lv : w.heap.size + 1 < W.heap.size := World.block_lt_of_cell? W _ kv
  have hC : Below W.heap.size W (W.alloc (.cells #[.int .i64 p] 3)) := (Below.refl _ _).alloc (Nat.le_refl _) _
  have kb2 := (hC.cell (p := ⟨w.heap.size, 0, none⟩) lb).trans kb
  have kv2 := (hC.cell (p := ⟨w.heap.size + 1, 0, none⟩) lv).trans kv
  have kf2 := (hC.frozen (p := ⟨w.heap.size + 1, 0, none⟩) lv).trans kf
  have kf3 : (W.alloc (.cells #[.int .i64 p] 3)).cell? ⟨W.heap.size, 0, none⟩ = some (.int .i64 p) := by simp [go_sem]
  go_wp2_with fail
  have hD := hB'.out.trans (hC.mono hB'.out.size)
  refine (hstep'.out _ hD).mono ?_
  rintro e w4 ⟨rfl, q, m1, m2⟩
  have sC : (W.alloc (.cells #[.int .i64 p] 3)).heap.size = W.heap.size + 1 := by simp
  have kv4 := (m2.cell (p := ⟨w.heap.size + 1, 0, none⟩) (by rw [sC]; show w.heap.size + 1 < _; omega) (by simp; omega)).trans kv2
  have kb4 := (m2.cell (p := ⟨w.heap.size, 0, none⟩) (by rw [sC]; show w.heap.size < _; omega) (by simp; omega)).trans kb2
  have kw4 := (m2.cell (p := ⟨W.heap.size, 0, none⟩) (by rw [sC]; show W.heap.size < _; omega) (by simp; omega)).trans kf3
  have kf4 : w4.frozen? ⟨w.heap.size + 1, 0, none⟩ = false := (World.frozen?_of_block (w := W.alloc (.cells #[.int .i64 p] 3)) (m2.block (w.heap.size + 1) (by rw [sC]; omega) (by simp; omega))).trans kf2
  go_wp2_with fail
  refine leaves_cons (f := 77) (args := #[.pointer (some ⟨W.heap.size, 0, none⟩), .pointer (some ⟨w.heap.size + 1, 0, none⟩), .pointer (some ⟨w.heap.size, 0, none⟩)]) (by simp) (by simp [go_sem]) ?_
  refine (caught_string W.heap.size (w.heap.size + 1) w.heap.size r a cap bs p q x (.string ⟨#[]⟩) [] w4 kw4 kv4 kf4 kb4 m1 (by omega) (by omega) (by omega) (by omega) (by omega)).mono ?_
  rintro e u' w5 ⟨rfl, rfl, m3, m4, m5⟩
  simp [Leaves, settle, results, Try.results60, go_sem, m4]
  have m6 : BelowE [r] w.heap.size w w4 := (BelowE.of hD).trans (m2.mono hD.size)
  have m7 : BelowE [r] w.heap.size w4 w5 := (m5.mono m6.size).less (by intro x hx hl; simp at hx ⊢; omega)
  exact ⟨rfl, m3, m6.trans m7⟩
theorem ask_text_bad (r c : Nat) (a : Option Addr) (cap : Nat) (bs : List Int) (p : Nat) (x : Int) (hx : x ≠ 0) (w : World) (h : Rd w r a cap bs p x) :
    Calls Try.prog 60 #[.pointer (some ⟨r, 0, none⟩), .func (.func 61) #[] #[.pointer (some ⟨c, 0, none⟩)]] w (Rests (.string ⟨#[]⟩) r a cap bs p x w) := by
  have hmf : ∀ (fn : Fn) (first cap : Array Value) (w : World), (Instr.makeFunc fn first cap).run Try.prog w = .ok (.func fn first cap) w := fun _ _ _ _ => rfl
  have c1 := h.blk.cell 1
  have c2 := h.blk.cell 2
  simp at c1 c2
  have lr := h.blk.lt
  have hmv := Lib.hid (fun w' (hb : Below w.heap.size w w') => h.ahead hb)
  have hblk := Lib.hid h.blk
  clear h
  go_enter_defers Try.func60, Try.ntmps60
  go_wp2_with fail
  have hB : Below w.heap.size w ((w.alloc (.cells #[.pointer (some ⟨r, 0, none⟩)] 48)).alloc (.cells #[(.string ⟨#[]⟩)] 9)) := ((Below.refl _ _).alloc (Nat.le_refl _) _).alloc (by simp) _
  have k1 := (hB.cell (p := ⟨r, 1, none⟩) lr).trans c1
  have k2 := (hB.cell (p := ⟨r, 2, none⟩) lr).trans c2
  have kb : ((w.alloc (.cells #[.pointer (some ⟨r, 0, none⟩)] 48)).alloc (.cells #[(.string ⟨#[]⟩)] 9)).cell? ⟨w.heap.size, 0, none⟩ = some (.pointer (some ⟨r, 0, none⟩)) := by simp [go_sem]
  have kv : ((w.alloc (.cells #[.pointer (some ⟨r, 0, none⟩)] 48)).alloc (.cells #[(.string ⟨#[]⟩)] 9)).cell? ⟨w.heap.size + 1, 0, none⟩ = some (.string ⟨#[]⟩) := by simp [go_sem]
  have kf : ((w.alloc (.cells #[.pointer (some ⟨r, 0, none⟩)] 48)).alloc (.cells #[(.string ⟨#[]⟩)] 9)).frozen? ⟨w.heap.size + 1, 0, none⟩ = false := by simp [go_sem]
  have ks : ((w.alloc (.cells #[.pointer (some ⟨r, 0, none⟩)] 48)).alloc (.cells #[(.string ⟨#[]⟩)] 9)).heap.size = w.heap.size + 2 := by simp
  have ks' := Lib.hid ks
  have hB' := Lib.hid hB
  clear ks hB
  generalize (w.alloc (.cells #[.pointer (some ⟨r, 0, none⟩)] 48)).alloc (.cells #[(.string ⟨#[]⟩)] 9) = W at *
  refine (err_any r x W k2).mono ?_
  rintro e w' ⟨rfl, rfl⟩
  have hne : (x != 0) = true := by simpa using hx
  go_wp2_with fail
  have kx : (W.setCell ⟨w.heap.size + 1, 0, none⟩ (.string ⟨#[]⟩)).cell? ⟨w.heap.size + 1, 0, none⟩ = some (.string ⟨#[]⟩) := by simp [go_sem, kv]
  simp [bodyPostD, Leaves, results, Try.results60, go_sem, kx]
  exact ⟨rfl, (hblk.out.below hB'.out lr).far (p := ⟨w.heap.size + 1, 0, none⟩) (by show r ≠ w.heap.size + 1; omega) _, (BelowE.of hB'.out).setNew (p := ⟨w.heap.size + 1, 0, none⟩) (by show w.heap.size ≤ w.heap.size + 1; omega) _⟩

theorem ask_text_nil (c : Nat) (w : World) :
    Calls Try.prog 60 #[.pointer none, .func (.func 61) #[] #[.pointer (some ⟨c, 0, none⟩)]] w (fun e w' => e = .returned (.string ⟨#[]⟩) ∧ Below w.heap.size w w') := by
  have hmf : ∀ (fn : Fn) (first cap : Array Value) (w : World), (Instr.makeFunc fn first cap).run Try.prog w = .ok (.func fn first cap) w := fun _ _ _ _ => rfl
  go_enter_defers Try.func60, Try.ntmps60
  go_wp2_with fail
  have hB : Below w.heap.size w ((w.alloc (.cells #[.pointer none] 48)).alloc (.cells #[(.string ⟨#[]⟩)] 9)) := ((Below.refl _ _).alloc (Nat.le_refl _) _).alloc (by simp) _
  have kv : ((w.alloc (.cells #[.pointer none] 48)).alloc (.cells #[(.string ⟨#[]⟩)] 9)).cell? ⟨w.heap.size + 1, 0, none⟩ = some (.string ⟨#[]⟩) := by simp [go_sem]
  have kf : ((w.alloc (.cells #[.pointer none] 48)).alloc (.cells #[(.string ⟨#[]⟩)] 9)).frozen? ⟨w.heap.size + 1, 0, none⟩ = false := by simp [go_sem]
  have hB' := Lib.hid hB
  clear hB
  generalize (w.alloc (.cells #[.pointer none] 48)).alloc (.cells #[(.string ⟨#[]⟩)] 9) = W at *
  refine (err_nil _).mono ?_
  rintro e w' ⟨rfl, rfl⟩
  go_wp2_with fail
  have kx : (W.setCell ⟨w.heap.size + 1, 0, none⟩ (.string ⟨#[]⟩)).cell? ⟨w.heap.size + 1, 0, none⟩ = some (.string ⟨#[]⟩) := by simp [go_sem, kv]
  simp [bodyPostD, Leaves, results, Try.results60, go_sem, kx]
  exact hB'.out.setCell (p := ⟨w.heap.size + 1, 0, none⟩) (by show w.heap.size ≤ w.heap.size + 1; omega) _
end Go.Proofs.Ytkfgfbdlbiahkaa
