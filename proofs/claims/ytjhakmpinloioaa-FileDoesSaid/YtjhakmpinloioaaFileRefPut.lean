/- The document's own disk: Write, Cut, Clear, Spoil. (Written by gen-fileref.py.) -/
import Derived.Test.YtjhakmpinloioaaFileRef
import Derived.Test.YtjhakmpinloioaaDrawn
namespace Go.Proofs.Ytjhakmpinloioaa
open Go.RowKit
set_option linter.unusedVariables false
set_option linter.unusedSimpArgs false

def RTells (r : Int × St) (x : Nat) (w : World) (e : Ending) (w' : World) : Prop := e = .returned (.int .i64 r.1) ∧ Rk w' x r.2 ∧ BelowE [x] w.heap.size w w'
theorem after_l (s : St) (c : Nat) : (s.after c).l = s.l := by unfold St.after; split <;> (try split) <;> rfl
theorem St.with_with (s : St) (l : Nat → List Int) : (s.with_ l).l = l := rfl
theorem code_0 (s : St) (c : Nat) : s.code c = 0 ∨ s.code c = 280 := by unfold St.code; split <;> simp
theorem with_self (s : St) : s.with_ s.l = s := rfl
theorem sl (P : Program) (t : TypeId) (ht : P.underlying t = some .string) (l : List Int) (k : Nat) (hk : k ≤ l.length) (W : World) : (Instr.slice t (.string (strOfNums l)) none (some (.int .i64 (k : Int))) none).run P W = .ok (.string (strOfNums (l.take k))) W := by
  rw [← str_take]
  have h2 : (k : Int) ≤ ((strOfNums l).size : Int) := by rw [strOfNums_size]; omega
  have := run_slice_string_h W t (strOfNums l) ht .i64 (k : Int) (by omega) h2
  simpa using this
theorem rwrite_off (x : Nat) (s : St) (n : Int) (b : List Int) (w : World) (h : Rk w x s) (ho : s.off = true) :
    Calls Try.prog 21 #[.pointer (some ⟨x, 0, none⟩), .int .i64 n, .string (strOfNums b)] w (RTells (writeO s n b) x w) := by
  have hck := rcheck_any x s n w h
  rw [ho, if_pos rfl] at hck
  have hr : writeO s n b = (280, s) := by simp [writeO, ho]
  have hres : RTells (writeO s n b) x w (.returned (.int .i64 280)) w := by rw [hr]; exact ⟨rfl, h, BelowE.refl _ _ _⟩
  have hres' := Lib.hid hres
  have hck' := Lib.hid hck
  clear hck hr hres h
  go_enter Try.func21, Try.ntmps21
  go_wp2_with fail
  refine hck'.out.mono ?_
  rintro e w' ⟨rfl, rfl⟩
  go_wp2
  go_ret
  exact hres'.out
theorem rwrite_bad (x : Nat) (s : St) (n : Int) (b : List Int) (w : World) (h : Rk w x s) (ho : s.off = false) (hn : n ≠ 0 ∧ n ≠ 1) :
    Calls Try.prog 21 #[.pointer (some ⟨x, 0, none⟩), .int .i64 n, .string (strOfNums b)] w (RTells (writeO s n b) x w) := by
  have hck := rcheck_any x s n w h
  rw [ho, if_neg (by simp), if_pos hn] at hck
  have hr : writeO s n b = (1, s) := by simp [writeO, ho, hn]
  have hres : RTells (writeO s n b) x w (.returned (.int .i64 1)) w := by rw [hr]; exact ⟨rfl, h, BelowE.refl _ _ _⟩
  have hres' := Lib.hid hres
  have hck' := Lib.hid hck
  clear hck hr hres h
  go_enter Try.func21, Try.ntmps21
  go_wp2_with fail
  refine hck'.out.mono ?_
  rintro e w' ⟨rfl, rfl⟩
  go_wp2
  go_ret
  exact hres'.out
theorem rcut_off (x : Nat) (s : St) (n m : Int) (w : World) (h : Rk w x s) (ho : s.off = true) :
    Calls Try.prog 23 #[.pointer (some ⟨x, 0, none⟩), .int .i64 n, .int .i64 m] w (RTells (cutO s n m) x w) := by
  have hck := rcheck_any x s n w h
  rw [ho, if_pos rfl] at hck
  have hr : cutO s n m = (280, s) := by simp [cutO, ho]
  have hres : RTells (cutO s n m) x w (.returned (.int .i64 280)) w := by rw [hr]; exact ⟨rfl, h, BelowE.refl _ _ _⟩
  have hres' := Lib.hid hres
  have hck' := Lib.hid hck
  clear hck hr hres h
  go_enter Try.func23, Try.ntmps23
  go_wp2_with fail
  refine hck'.out.mono ?_
  rintro e w' ⟨rfl, rfl⟩
  go_wp2
  go_ret
  exact hres'.out
theorem rcut_bad (x : Nat) (s : St) (n m : Int) (w : World) (h : Rk w x s) (ho : s.off = false) (hn : n ≠ 0 ∧ n ≠ 1) :
    Calls Try.prog 23 #[.pointer (some ⟨x, 0, none⟩), .int .i64 n, .int .i64 m] w (RTells (cutO s n m) x w) := by
  have hck := rcheck_any x s n w h
  rw [ho, if_neg (by simp), if_pos hn] at hck
  have hr : cutO s n m = (1, s) := by simp [cutO, ho, hn]
  have hres : RTells (cutO s n m) x w (.returned (.int .i64 1)) w := by rw [hr]; exact ⟨rfl, h, BelowE.refl _ _ _⟩
  have hres' := Lib.hid hres
  have hck' := Lib.hid hck
  clear hck hr hres h
  go_enter Try.func23, Try.ntmps23
  go_wp2_with fail
  refine hck'.out.mono ?_
  rintro e w' ⟨rfl, rfl⟩
  go_wp2
  go_ret
  exact hres'.out
theorem rwrite_full_0 (x : Nat) (s : St) (b : List Int) (w : World) (h : Rk w x s) (hf : s.fine) (hb : b.length ≤ 50000000) (ho : s.off = false) (hfull : 4194304 < (s.l 0).length + b.length) :
    Calls Try.prog 21 #[.pointer (some ⟨x, 0, none⟩), .int .i64 0, .string (strOfNums b)] w (RTells (writeO s 0 b) x w) := by
  have hck := rcheck_any x s 0 w h
  rw [ho, if_neg (by simp), if_neg (by simp)] at hck
  have hl : (s.l 0).length ≤ 4194304 := by have := hf; unfold St.fine at this; omega
  have hr : writeO s 0 b = (2, s) := by simp [writeO, ho, hfull]
  have hres : RTells (writeO s 0 b) x w (.returned (.int .i64 2)) w := by rw [hr]; exact ⟨rfl, h, BelowE.refl _ _ _⟩
  have hres' := Lib.hid hres
  have hck' := Lib.hid hck
  have k0 := Holds.cell h 0
  simp at k0
  have e1 : ((strOfNums (s.l 0)).size : Int) ≤ 4194304 := by rw [strOfNums_size]; omega
  have e2 : ((strOfNums b).size : Int) ≤ 50000000 := by rw [strOfNums_size]; omega
  have e3 : (4194304 : Int) < ((strOfNums (s.l 0)).size : Int) + ((strOfNums b).size : Int) := by rw [strOfNums_size, strOfNums_size]; omega
  clear hck hr hres h hl hf hb hfull
  generalize strOfNums (s.l 0) = f0 at *
  go_enter Try.func21, Try.ntmps21
  go_wp2_with fail
  refine hck'.out.mono ?_
  rintro e w' ⟨rfl, rfl⟩
  go_wp2
  go_ret
  exact hres'.out
set_option maxRecDepth 100000 in
theorem rwrite_pay_0 (x : Nat) (s : St) (b : List Int) (w : World) (h : Rk w x s) (hf : s.fine) (hb : b.length ≤ 50000000) (ho : s.off = false) (hfit : ¬ 4194304 < (s.l 0).length + b.length) :
    Calls Try.prog 21 #[.pointer (some ⟨x, 0, none⟩), .int .i64 0, .string (strOfNums b)] w (RTells (writeO s 0 b) x w) := by
  have hck := rcheck_any x s 0 w h
  rw [ho, if_neg (by simp), if_neg (by simp)] at hck
  have hl : (s.l 0).length ≤ 4194304 := by have := hf; unfold St.fine at this; omega
  have hr : writeO s 0 b = (s.code b.length, (s.after b.length).with_ (upd s.l 0 (s.l 0 ++ b.take (s.paid b.length)))) := by simp [writeO, ho, hfit]
  have hck' := Lib.hid hck
  have k0 := Holds.cell h 0
  simp at k0
  have hpb : s.paid b.length ≤ b.length := by unfold St.paid; split <;> omega
  have e1 : ((strOfNums (s.l 0)).size : Int) ≤ 4194304 := by rw [strOfNums_size]; omega
  have e2 : ((strOfNums b).size : Int) ≤ 50000000 := by rw [strOfNums_size]; omega
  have e3 : ¬ (4194304 : Int) < ((strOfNums (s.l 0)).size : Int) + ((strOfNums b).size : Int) := by rw [strOfNums_size, strOfNums_size]; omega
  have e5 : ¬ 9223372036854775807 < (strOfNums (s.l 0)).size + (strOfNums (b.take (s.paid b.length))).size := by rw [strOfNums_size, strOfNums_size]; simp; omega
  have hsl := sl Try.prog 9 Try.underlying9 b (s.paid b.length) hpb
  have hpay := rpay_any x s b.length (by omega) hf.2.2 w h
  rw [← strOfNums_size b] at hpay
  have hpay' := Lib.hid hpay
  have hfin : Hid (∀ w1, Rk w1 x (s.after b.length) → BelowE [x] w.heap.size w w1 → RTells (writeO s 0 b) x w (.returned (.int .i64 (s.code b.length))) ((w1.setCell ⟨x, 0, none⟩ (.string (strOfNums (s.l 0) ++ strOfNums (b.take (s.paid b.length))))).drew)) := Lib.hid fun w1 h1 h2 => by
    rw [hr, ← str_append]
    obtain ⟨q1, q2⟩ := h1.put0 (s.l 0 ++ b.take (s.paid b.length))
    rw [after_l] at q1
    exact ⟨rfl, q1, (h2.trans (q2.mono h2.size)).drew⟩
  have hcell : Hid (∀ w1, Rk w1 x (s.after b.length) → w1.cell? ⟨x, 0, none⟩ = some (.string (strOfNums (s.l 0))) ∧ w1.frozen? ⟨x, 0, none⟩ = false) := Lib.hid fun w1 h1 => by
    have k := Holds.cell h1 0
    rw [after_l] at k
    exact ⟨by simpa using k, Holds.free h1 0⟩
  have hcd := code_0 s b.length
  clear hck hr h hl hf hb hfit hpb hpay
  unfold Pays at hpay'
  rw [strOfNums_size] at hpay'
  generalize s.paid b.length = pd at *
  generalize s.code b.length = cd at *
  generalize hcode : (s.after b.length) = s1 at *
  rw [← strOfNums_size b] at hpay'
  clear hcode
  generalize strOfNums (s.l 0) = f0 at *
  generalize strOfNums (b.take pd) = g0 at *
  go_enter Try.func21, Try.ntmps21
  go_wp2_with fail
  refine hck'.out.mono ?_
  rintro e w' ⟨rfl, rfl⟩
  go_wp2_with fail
  refine hpay'.out.mono ?_
  rintro e w1 ⟨rfl, r1, b1⟩
  obtain ⟨m0, m1⟩ := hcell.out w1 r1
  rcases hcd with rfl | rfl
  · have hfin' := Lib.hid (hfin.out w1 r1 b1)
    clear hfin hcell r1 b1 hpay'
    go_wp2
    refine wp_drawn_on (fun _ => True) (by kernel_rfl) (trivial) (fun hHeld => ?_)
    refine wpAnyH_take (i := 0) (oi := { dst := some 34, op := Go.Op.move (Go.Operand.tmp 0), type := 27, pos := "ref.go:52", after := #[], guard := none }) (v := ?v1) rfl (by kernel_rfl) (by kernel_rfl) (by kernel_rfl) (fun _ _ _ h => h) (Or.inl ⟨by kernel_rfl, ?h1⟩) (by assumption) ?r1
    case h1 => (intro w hSw; (try dsimp only at hSw); go_simp; try with_reducible rfl)
    try simp only [Act.put, List.setIfInBounds_toArray, List.set_cons_zero, List.set_cons_succ]
    refine wpAnyH_take (i := 1) (oi := { dst := some 35, op := Go.Op.move (Go.Operand.tmp 1), type := 3, pos := "ref.go:52", after := #[], guard := none }) (v := ?v2) rfl (by kernel_rfl) (by kernel_rfl) (by kernel_rfl) (fun _ _ _ h => h) (Or.inl ⟨by kernel_rfl, ?h2⟩) (by assumption) ?r2
    case h2 => (intro w hSw; (try dsimp only at hSw); go_simp; try with_reducible rfl)
    try simp only [Act.put, List.setIfInBounds_toArray, List.set_cons_zero, List.set_cons_succ]
    refine wpAnyH_take (i := 2) (oi := { dst := some 36, op := Go.Op.move (Go.Operand.tmp 0), type := 27, pos := "ref.go:52", after := #[], guard := none }) (v := ?v3) rfl (by kernel_rfl) (by kernel_rfl) (by kernel_rfl) (fun _ _ _ h => h) (Or.inl ⟨by kernel_rfl, ?h3⟩) (by assumption) ?r3
    case h3 => (intro w hSw; (try dsimp only at hSw); go_simp; try with_reducible rfl)
    try simp only [Act.put, List.setIfInBounds_toArray, List.set_cons_zero, List.set_cons_succ]
    refine wpAnyH_take (i := 3) (oi := { dst := some 37, op := Go.Op.move (Go.Operand.tmp 1), type := 3, pos := "ref.go:52", after := #[], guard := none }) (v := ?v4) rfl (by kernel_rfl) (by kernel_rfl) (by kernel_rfl) (fun _ _ _ h => h) (Or.inl ⟨by kernel_rfl, ?h4⟩) (by assumption) ?r4
    case h4 => (intro w hSw; (try dsimp only at hSw); go_simp; try with_reducible rfl)
    try simp only [Act.put, List.setIfInBounds_toArray, List.set_cons_zero, List.set_cons_succ]
    refine wpAnyH_take (i := 4) (oi := { dst := some 38, op := Go.Op.nilCheck (Go.Operand.tmp 36), type := 0, pos := "ref.go:52", after := #[{ on := 2, ground := Go.Ground.data }], guard := none }) (v := ?v5) rfl (by kernel_rfl) (by kernel_rfl) (by kernel_rfl) (fun _ _ _ h => h) (Or.inl ⟨by kernel_rfl, ?h5⟩) (by assumption) ?r5
    case h5 => (intro w hSw; (try dsimp only at hSw); go_simp; try with_reducible rfl)
    try simp only [Act.put, List.setIfInBounds_toArray, List.set_cons_zero, List.set_cons_succ]
    refine wpAnyH_take (i := 5) (oi := { dst := some 39, op := Go.Op.fieldAddr 50 (Go.Operand.tmp 38) 0, type := 0, pos := "ref.go:52", after := #[{ on := 4, ground := Go.Ground.data }], guard := none }) (v := ?v6) rfl (by kernel_rfl) (by kernel_rfl) (by kernel_rfl) (fun _ _ _ h => h) (Or.inl ⟨by kernel_rfl, ?h6⟩) (by assumption) ?r6
    case h6 => (intro w hSw; (try dsimp only at hSw); go_simp; try with_reducible rfl)
    try simp only [Act.put, List.setIfInBounds_toArray, List.set_cons_zero, List.set_cons_succ]
    refine wpAnyH_take (i := 6) (oi := { dst := some 40, op := Go.Op.indexAddr 48 (Go.Operand.tmp 39) (Go.Operand.tmp 37), type := 0, pos := "ref.go:52", after := #[{ on := 5, ground := Go.Ground.data }, { on := 3, ground := Go.Ground.data }], guard := none }) (v := ?v7) rfl (by kernel_rfl) (by kernel_rfl) (by kernel_rfl) (fun _ _ _ h => h) (Or.inl ⟨by kernel_rfl, ?h7⟩) (by assumption) ?r7
    case h7 => (intro w hSw; (try dsimp only at hSw); go_simp; try with_reducible rfl)
    try simp only [Act.put, List.setIfInBounds_toArray, List.set_cons_zero, List.set_cons_succ]
    refine wpAnyH_take (i := 8) (oi := { dst := some 42, op := Go.Op.move (Go.Operand.tmp 2), type := 9, pos := "ref.go:52", after := #[], guard := none }) (v := ?v8) rfl (by kernel_rfl) (by kernel_rfl) (by kernel_rfl) (fun _ _ _ h => h) (Or.inl ⟨by kernel_rfl, ?h8⟩) (by assumption) ?r8
    case h8 => (intro w hSw; (try dsimp only at hSw); go_simp; try with_reducible rfl)
    try simp only [Act.put, List.setIfInBounds_toArray, List.set_cons_zero, List.set_cons_succ]
    refine wpAnyH_take (i := 9) (oi := { dst := some 43, op := Go.Op.move (Go.Operand.tmp 8), type := 3, pos := "ref.go:52", after := #[], guard := none }) (v := ?v9) rfl (by kernel_rfl) (by kernel_rfl) (by kernel_rfl) (fun _ _ _ h => h) (Or.inl ⟨by kernel_rfl, ?h9⟩) (by assumption) ?r9
    case h9 => (intro w hSw; (try dsimp only at hSw); go_simp; try with_reducible rfl)
    try simp only [Act.put, List.setIfInBounds_toArray, List.set_cons_zero, List.set_cons_succ]
    refine wpAnyH_take (i := 10) (oi := { dst := some 44, op := Go.Op.slice 9 (Go.Operand.tmp 42) none (some (Go.Operand.tmp 43)) none, type := 9, pos := "ref.go:52", after := #[{ on := 8, ground := Go.Ground.data }, { on := 9, ground := Go.Ground.data }], guard := none }) (v := ?v10) rfl (by kernel_rfl) (by kernel_rfl) (by kernel_rfl) (fun _ _ _ h => h) (Or.inl ⟨by kernel_rfl, ?h10⟩) (by assumption) ?r10
    case h10 => (intro w hSw; (try dsimp only at hSw); go_simp; try with_reducible rfl)
    try simp only [Act.put, List.setIfInBounds_toArray, List.set_cons_zero, List.set_cons_succ]
    refine wpAnyH_take (i := 12) (oi := { dst := some 46, op := Go.Op.nilCheck (Go.Operand.tmp 34), type := 0, pos := "ref.go:52", after := #[{ on := 0, ground := Go.Ground.data }], guard := none }) (v := ?v11) rfl (by kernel_rfl) (by kernel_rfl) (by kernel_rfl) (fun _ _ _ h => h) (Or.inl ⟨by kernel_rfl, ?h11⟩) (by assumption) ?r11
    case h11 => (intro w hSw; (try dsimp only at hSw); go_simp; try with_reducible rfl)
    try simp only [Act.put, List.setIfInBounds_toArray, List.set_cons_zero, List.set_cons_succ]
    refine wpAnyH_take (i := 13) (oi := { dst := some 47, op := Go.Op.fieldAddr 50 (Go.Operand.tmp 46) 0, type := 0, pos := "ref.go:52", after := #[{ on := 12, ground := Go.Ground.data }], guard := none }) (v := ?v12) rfl (by kernel_rfl) (by kernel_rfl) (by kernel_rfl) (fun _ _ _ h => h) (Or.inl ⟨by kernel_rfl, ?h12⟩) (by assumption) ?r12
    case h12 => (intro w hSw; (try dsimp only at hSw); go_simp; try with_reducible rfl)
    try simp only [Act.put, List.setIfInBounds_toArray, List.set_cons_zero, List.set_cons_succ]
    refine wpAnyH_ready (rs := [7]) (by kernel_rfl) (by simp) ?_
    refine AllReadyH.cons (o := { dst := some 41, op := Go.Op.load 9 (Go.Operand.tmp 40), type := 9, pos := "ref.go:52", after := #[{ on := 6, ground := Go.Ground.data }], guard := none }) rfl (fun K hK => ?_) AllReadyH.nil
    go_simp
    refine hK.out _ _ hHeld (fun hHeld => ?_)
    clear hK K
    try simp only [Act.put, List.setIfInBounds_toArray, List.set_cons_zero, List.set_cons_succ]
    refine wpAnyH_take (i := 11) (oi := { dst := some 45, op := Go.Op.binOp Go.BinOp.add 9 (Go.Operand.tmp 41) (Go.Operand.tmp 44) 9, type := 9, pos := "ref.go:52", after := #[{ on := 7, ground := Go.Ground.data }, { on := 10, ground := Go.Ground.data }], guard := none }) (v := ?v13) rfl (by kernel_rfl) (by kernel_rfl) (by kernel_rfl) (fun _ _ _ h => h) (Or.inl ⟨by kernel_rfl, ?h13⟩) (by assumption) ?r13
    case h13 => (intro w hSw; (try dsimp only at hSw); go_simp; try with_reducible rfl)
    try simp only [Act.put, List.setIfInBounds_toArray, List.set_cons_zero, List.set_cons_succ]
    refine wpAnyH_take (i := 14) (oi := { dst := some 48, op := Go.Op.indexAddr 48 (Go.Operand.tmp 47) (Go.Operand.tmp 35), type := 0, pos := "ref.go:52", after := #[{ on := 13, ground := Go.Ground.data }, { on := 1, ground := Go.Ground.data }, { on := 0, ground := Go.Ground.phase }, { on := 1, ground := Go.Ground.phase }, { on := 2, ground := Go.Ground.phase }, { on := 3, ground := Go.Ground.phase }, { on := 4, ground := Go.Ground.phase }, { on := 5, ground := Go.Ground.phase }, { on := 6, ground := Go.Ground.phase }, { on := 7, ground := Go.Ground.phase }, { on := 8, ground := Go.Ground.phase }, { on := 9, ground := Go.Ground.phase }, { on := 10, ground := Go.Ground.phase }, { on := 11, ground := Go.Ground.phase }], guard := none }) (v := ?v14) rfl (by kernel_rfl) (by kernel_rfl) (by kernel_rfl) (fun _ _ _ h => h) (Or.inl ⟨by kernel_rfl, ?h14⟩) (by assumption) ?r14
    case h14 => (intro w hSw; (try dsimp only at hSw); go_simp; try with_reducible rfl)
    try simp only [Act.put, List.setIfInBounds_toArray, List.set_cons_zero, List.set_cons_succ]
    refine wpAnyH_ready (rs := [15]) (by kernel_rfl) (by simp) ?_
    refine AllReadyH.cons (o := { dst := none, op := Go.Op.store 9 (Go.Operand.tmp 48) (Go.Operand.tmp 45), type := 0, pos := "ref.go:52", after := #[{ on := 14, ground := Go.Ground.data }, { on := 11, ground := Go.Ground.data }, { on := 0, ground := Go.Ground.phase }, { on := 1, ground := Go.Ground.phase }, { on := 2, ground := Go.Ground.phase }, { on := 3, ground := Go.Ground.phase }, { on := 4, ground := Go.Ground.phase }, { on := 5, ground := Go.Ground.phase }, { on := 6, ground := Go.Ground.phase }, { on := 7, ground := Go.Ground.phase }, { on := 8, ground := Go.Ground.phase }, { on := 9, ground := Go.Ground.phase }, { on := 10, ground := Go.Ground.phase }, { on := 11, ground := Go.Ground.phase }], guard := none }) rfl (fun K hK => ?_) AllReadyH.nil
    go_simp
    refine hK.out _ _ (trivial) (fun hHeld => ?_)
    clear hK K
    try simp only [Act.put, List.setIfInBounds_toArray, List.set_cons_zero, List.set_cons_succ]
    refine wpAnyH_done (by kernel_rfl) ?_ _
    go_wp2
    go_ret
    exact hfin'.out
  · have hfin' := Lib.hid (hfin.out w1 r1 b1)
    clear hfin hcell r1 b1 hpay'
    go_wp2
    refine wp_drawn_on (fun _ => True) (by kernel_rfl) (trivial) (fun hHeld => ?_)
    refine wpAnyH_take (i := 0) (oi := { dst := some 34, op := Go.Op.move (Go.Operand.tmp 0), type := 27, pos := "ref.go:52", after := #[], guard := none }) (v := ?v15) rfl (by kernel_rfl) (by kernel_rfl) (by kernel_rfl) (fun _ _ _ h => h) (Or.inl ⟨by kernel_rfl, ?h15⟩) (by assumption) ?r15
    case h15 => (intro w hSw; (try dsimp only at hSw); go_simp; try with_reducible rfl)
    try simp only [Act.put, List.setIfInBounds_toArray, List.set_cons_zero, List.set_cons_succ]
    refine wpAnyH_take (i := 1) (oi := { dst := some 35, op := Go.Op.move (Go.Operand.tmp 1), type := 3, pos := "ref.go:52", after := #[], guard := none }) (v := ?v16) rfl (by kernel_rfl) (by kernel_rfl) (by kernel_rfl) (fun _ _ _ h => h) (Or.inl ⟨by kernel_rfl, ?h16⟩) (by assumption) ?r16
    case h16 => (intro w hSw; (try dsimp only at hSw); go_simp; try with_reducible rfl)
    try simp only [Act.put, List.setIfInBounds_toArray, List.set_cons_zero, List.set_cons_succ]
    refine wpAnyH_take (i := 2) (oi := { dst := some 36, op := Go.Op.move (Go.Operand.tmp 0), type := 27, pos := "ref.go:52", after := #[], guard := none }) (v := ?v17) rfl (by kernel_rfl) (by kernel_rfl) (by kernel_rfl) (fun _ _ _ h => h) (Or.inl ⟨by kernel_rfl, ?h17⟩) (by assumption) ?r17
    case h17 => (intro w hSw; (try dsimp only at hSw); go_simp; try with_reducible rfl)
    try simp only [Act.put, List.setIfInBounds_toArray, List.set_cons_zero, List.set_cons_succ]
    refine wpAnyH_take (i := 3) (oi := { dst := some 37, op := Go.Op.move (Go.Operand.tmp 1), type := 3, pos := "ref.go:52", after := #[], guard := none }) (v := ?v18) rfl (by kernel_rfl) (by kernel_rfl) (by kernel_rfl) (fun _ _ _ h => h) (Or.inl ⟨by kernel_rfl, ?h18⟩) (by assumption) ?r18
    case h18 => (intro w hSw; (try dsimp only at hSw); go_simp; try with_reducible rfl)
    try simp only [Act.put, List.setIfInBounds_toArray, List.set_cons_zero, List.set_cons_succ]
    refine wpAnyH_take (i := 4) (oi := { dst := some 38, op := Go.Op.nilCheck (Go.Operand.tmp 36), type := 0, pos := "ref.go:52", after := #[{ on := 2, ground := Go.Ground.data }], guard := none }) (v := ?v19) rfl (by kernel_rfl) (by kernel_rfl) (by kernel_rfl) (fun _ _ _ h => h) (Or.inl ⟨by kernel_rfl, ?h19⟩) (by assumption) ?r19
    case h19 => (intro w hSw; (try dsimp only at hSw); go_simp; try with_reducible rfl)
    try simp only [Act.put, List.setIfInBounds_toArray, List.set_cons_zero, List.set_cons_succ]
    refine wpAnyH_take (i := 5) (oi := { dst := some 39, op := Go.Op.fieldAddr 50 (Go.Operand.tmp 38) 0, type := 0, pos := "ref.go:52", after := #[{ on := 4, ground := Go.Ground.data }], guard := none }) (v := ?v20) rfl (by kernel_rfl) (by kernel_rfl) (by kernel_rfl) (fun _ _ _ h => h) (Or.inl ⟨by kernel_rfl, ?h20⟩) (by assumption) ?r20
    case h20 => (intro w hSw; (try dsimp only at hSw); go_simp; try with_reducible rfl)
    try simp only [Act.put, List.setIfInBounds_toArray, List.set_cons_zero, List.set_cons_succ]
    refine wpAnyH_take (i := 6) (oi := { dst := some 40, op := Go.Op.indexAddr 48 (Go.Operand.tmp 39) (Go.Operand.tmp 37), type := 0, pos := "ref.go:52", after := #[{ on := 5, ground := Go.Ground.data }, { on := 3, ground := Go.Ground.data }], guard := none }) (v := ?v21) rfl (by kernel_rfl) (by kernel_rfl) (by kernel_rfl) (fun _ _ _ h => h) (Or.inl ⟨by kernel_rfl, ?h21⟩) (by assumption) ?r21
    case h21 => (intro w hSw; (try dsimp only at hSw); go_simp; try with_reducible rfl)
    try simp only [Act.put, List.setIfInBounds_toArray, List.set_cons_zero, List.set_cons_succ]
    refine wpAnyH_take (i := 8) (oi := { dst := some 42, op := Go.Op.move (Go.Operand.tmp 2), type := 9, pos := "ref.go:52", after := #[], guard := none }) (v := ?v22) rfl (by kernel_rfl) (by kernel_rfl) (by kernel_rfl) (fun _ _ _ h => h) (Or.inl ⟨by kernel_rfl, ?h22⟩) (by assumption) ?r22
    case h22 => (intro w hSw; (try dsimp only at hSw); go_simp; try with_reducible rfl)
    try simp only [Act.put, List.setIfInBounds_toArray, List.set_cons_zero, List.set_cons_succ]
    refine wpAnyH_take (i := 9) (oi := { dst := some 43, op := Go.Op.move (Go.Operand.tmp 8), type := 3, pos := "ref.go:52", after := #[], guard := none }) (v := ?v23) rfl (by kernel_rfl) (by kernel_rfl) (by kernel_rfl) (fun _ _ _ h => h) (Or.inl ⟨by kernel_rfl, ?h23⟩) (by assumption) ?r23
    case h23 => (intro w hSw; (try dsimp only at hSw); go_simp; try with_reducible rfl)
    try simp only [Act.put, List.setIfInBounds_toArray, List.set_cons_zero, List.set_cons_succ]
    refine wpAnyH_take (i := 10) (oi := { dst := some 44, op := Go.Op.slice 9 (Go.Operand.tmp 42) none (some (Go.Operand.tmp 43)) none, type := 9, pos := "ref.go:52", after := #[{ on := 8, ground := Go.Ground.data }, { on := 9, ground := Go.Ground.data }], guard := none }) (v := ?v24) rfl (by kernel_rfl) (by kernel_rfl) (by kernel_rfl) (fun _ _ _ h => h) (Or.inl ⟨by kernel_rfl, ?h24⟩) (by assumption) ?r24
    case h24 => (intro w hSw; (try dsimp only at hSw); go_simp; try with_reducible rfl)
    try simp only [Act.put, List.setIfInBounds_toArray, List.set_cons_zero, List.set_cons_succ]
    refine wpAnyH_take (i := 12) (oi := { dst := some 46, op := Go.Op.nilCheck (Go.Operand.tmp 34), type := 0, pos := "ref.go:52", after := #[{ on := 0, ground := Go.Ground.data }], guard := none }) (v := ?v25) rfl (by kernel_rfl) (by kernel_rfl) (by kernel_rfl) (fun _ _ _ h => h) (Or.inl ⟨by kernel_rfl, ?h25⟩) (by assumption) ?r25
    case h25 => (intro w hSw; (try dsimp only at hSw); go_simp; try with_reducible rfl)
    try simp only [Act.put, List.setIfInBounds_toArray, List.set_cons_zero, List.set_cons_succ]
    refine wpAnyH_take (i := 13) (oi := { dst := some 47, op := Go.Op.fieldAddr 50 (Go.Operand.tmp 46) 0, type := 0, pos := "ref.go:52", after := #[{ on := 12, ground := Go.Ground.data }], guard := none }) (v := ?v26) rfl (by kernel_rfl) (by kernel_rfl) (by kernel_rfl) (fun _ _ _ h => h) (Or.inl ⟨by kernel_rfl, ?h26⟩) (by assumption) ?r26
    case h26 => (intro w hSw; (try dsimp only at hSw); go_simp; try with_reducible rfl)
    try simp only [Act.put, List.setIfInBounds_toArray, List.set_cons_zero, List.set_cons_succ]
    refine wpAnyH_ready (rs := [7]) (by kernel_rfl) (by simp) ?_
    refine AllReadyH.cons (o := { dst := some 41, op := Go.Op.load 9 (Go.Operand.tmp 40), type := 9, pos := "ref.go:52", after := #[{ on := 6, ground := Go.Ground.data }], guard := none }) rfl (fun K hK => ?_) AllReadyH.nil
    go_simp
    refine hK.out _ _ hHeld (fun hHeld => ?_)
    clear hK K
    try simp only [Act.put, List.setIfInBounds_toArray, List.set_cons_zero, List.set_cons_succ]
    refine wpAnyH_take (i := 11) (oi := { dst := some 45, op := Go.Op.binOp Go.BinOp.add 9 (Go.Operand.tmp 41) (Go.Operand.tmp 44) 9, type := 9, pos := "ref.go:52", after := #[{ on := 7, ground := Go.Ground.data }, { on := 10, ground := Go.Ground.data }], guard := none }) (v := ?v27) rfl (by kernel_rfl) (by kernel_rfl) (by kernel_rfl) (fun _ _ _ h => h) (Or.inl ⟨by kernel_rfl, ?h27⟩) (by assumption) ?r27
    case h27 => (intro w hSw; (try dsimp only at hSw); go_simp; try with_reducible rfl)
    try simp only [Act.put, List.setIfInBounds_toArray, List.set_cons_zero, List.set_cons_succ]
    refine wpAnyH_take (i := 14) (oi := { dst := some 48, op := Go.Op.indexAddr 48 (Go.Operand.tmp 47) (Go.Operand.tmp 35), type := 0, pos := "ref.go:52", after := #[{ on := 13, ground := Go.Ground.data }, { on := 1, ground := Go.Ground.data }, { on := 0, ground := Go.Ground.phase }, { on := 1, ground := Go.Ground.phase }, { on := 2, ground := Go.Ground.phase }, { on := 3, ground := Go.Ground.phase }, { on := 4, ground := Go.Ground.phase }, { on := 5, ground := Go.Ground.phase }, { on := 6, ground := Go.Ground.phase }, { on := 7, ground := Go.Ground.phase }, { on := 8, ground := Go.Ground.phase }, { on := 9, ground := Go.Ground.phase }, { on := 10, ground := Go.Ground.phase }, { on := 11, ground := Go.Ground.phase }], guard := none }) (v := ?v28) rfl (by kernel_rfl) (by kernel_rfl) (by kernel_rfl) (fun _ _ _ h => h) (Or.inl ⟨by kernel_rfl, ?h28⟩) (by assumption) ?r28
    case h28 => (intro w hSw; (try dsimp only at hSw); go_simp; try with_reducible rfl)
    try simp only [Act.put, List.setIfInBounds_toArray, List.set_cons_zero, List.set_cons_succ]
    refine wpAnyH_ready (rs := [15]) (by kernel_rfl) (by simp) ?_
    refine AllReadyH.cons (o := { dst := none, op := Go.Op.store 9 (Go.Operand.tmp 48) (Go.Operand.tmp 45), type := 0, pos := "ref.go:52", after := #[{ on := 14, ground := Go.Ground.data }, { on := 11, ground := Go.Ground.data }, { on := 0, ground := Go.Ground.phase }, { on := 1, ground := Go.Ground.phase }, { on := 2, ground := Go.Ground.phase }, { on := 3, ground := Go.Ground.phase }, { on := 4, ground := Go.Ground.phase }, { on := 5, ground := Go.Ground.phase }, { on := 6, ground := Go.Ground.phase }, { on := 7, ground := Go.Ground.phase }, { on := 8, ground := Go.Ground.phase }, { on := 9, ground := Go.Ground.phase }, { on := 10, ground := Go.Ground.phase }, { on := 11, ground := Go.Ground.phase }], guard := none }) rfl (fun K hK => ?_) AllReadyH.nil
    go_simp
    refine hK.out _ _ (trivial) (fun hHeld => ?_)
    clear hK K
    try simp only [Act.put, List.setIfInBounds_toArray, List.set_cons_zero, List.set_cons_succ]
    refine wpAnyH_done (by kernel_rfl) ?_ _
    go_wp2
    go_ret
    exact hfin'.out
theorem rwrite_full_1 (x : Nat) (s : St) (b : List Int) (w : World) (h : Rk w x s) (hf : s.fine) (hb : b.length ≤ 50000000) (ho : s.off = false) (hfull : 4194304 < (s.l 1).length + b.length) :
    Calls Try.prog 21 #[.pointer (some ⟨x, 0, none⟩), .int .i64 1, .string (strOfNums b)] w (RTells (writeO s 1 b) x w) := by
  have hck := rcheck_any x s 1 w h
  rw [ho, if_neg (by simp), if_neg (by simp)] at hck
  have hl : (s.l 1).length ≤ 4194304 := by have := hf; unfold St.fine at this; omega
  have hr : writeO s 1 b = (2, s) := by simp [writeO, ho, hfull]
  have hres : RTells (writeO s 1 b) x w (.returned (.int .i64 2)) w := by rw [hr]; exact ⟨rfl, h, BelowE.refl _ _ _⟩
  have hres' := Lib.hid hres
  have hck' := Lib.hid hck
  have k0 := Holds.cell h 1
  simp at k0
  have e1 : ((strOfNums (s.l 1)).size : Int) ≤ 4194304 := by rw [strOfNums_size]; omega
  have e2 : ((strOfNums b).size : Int) ≤ 50000000 := by rw [strOfNums_size]; omega
  have e3 : (4194304 : Int) < ((strOfNums (s.l 1)).size : Int) + ((strOfNums b).size : Int) := by rw [strOfNums_size, strOfNums_size]; omega
  clear hck hr hres h hl hf hb hfull
  generalize strOfNums (s.l 1) = f0 at *
  go_enter Try.func21, Try.ntmps21
  go_wp2_with fail
  refine hck'.out.mono ?_
  rintro e w' ⟨rfl, rfl⟩
  go_wp2
  go_ret
  exact hres'.out
set_option maxRecDepth 100000 in
theorem rwrite_pay_1 (x : Nat) (s : St) (b : List Int) (w : World) (h : Rk w x s) (hf : s.fine) (hb : b.length ≤ 50000000) (ho : s.off = false) (hfit : ¬ 4194304 < (s.l 1).length + b.length) :
    Calls Try.prog 21 #[.pointer (some ⟨x, 0, none⟩), .int .i64 1, .string (strOfNums b)] w (RTells (writeO s 1 b) x w) := by
  have hck := rcheck_any x s 1 w h
  rw [ho, if_neg (by simp), if_neg (by simp)] at hck
  have hl : (s.l 1).length ≤ 4194304 := by have := hf; unfold St.fine at this; omega
  have hr : writeO s 1 b = (s.code b.length, (s.after b.length).with_ (upd s.l 1 (s.l 1 ++ b.take (s.paid b.length)))) := by simp [writeO, ho, hfit]
  have hck' := Lib.hid hck
  have k0 := Holds.cell h 1
  simp at k0
  have hpb : s.paid b.length ≤ b.length := by unfold St.paid; split <;> omega
  have e1 : ((strOfNums (s.l 1)).size : Int) ≤ 4194304 := by rw [strOfNums_size]; omega
  have e2 : ((strOfNums b).size : Int) ≤ 50000000 := by rw [strOfNums_size]; omega
  have e3 : ¬ (4194304 : Int) < ((strOfNums (s.l 1)).size : Int) + ((strOfNums b).size : Int) := by rw [strOfNums_size, strOfNums_size]; omega
  have e5 : ¬ 9223372036854775807 < (strOfNums (s.l 1)).size + (strOfNums (b.take (s.paid b.length))).size := by rw [strOfNums_size, strOfNums_size]; simp; omega
  have hsl := sl Try.prog 9 Try.underlying9 b (s.paid b.length) hpb
  have hpay := rpay_any x s b.length (by omega) hf.2.2 w h
  rw [← strOfNums_size b] at hpay
  have hpay' := Lib.hid hpay
  have hfin : Hid (∀ w1, Rk w1 x (s.after b.length) → BelowE [x] w.heap.size w w1 → RTells (writeO s 1 b) x w (.returned (.int .i64 (s.code b.length))) ((w1.setCell ⟨x, 1, none⟩ (.string (strOfNums (s.l 1) ++ strOfNums (b.take (s.paid b.length))))).drew)) := Lib.hid fun w1 h1 h2 => by
    rw [hr, ← str_append]
    obtain ⟨q1, q2⟩ := h1.put1 (s.l 1 ++ b.take (s.paid b.length))
    rw [after_l] at q1
    exact ⟨rfl, q1, (h2.trans (q2.mono h2.size)).drew⟩
  have hcell : Hid (∀ w1, Rk w1 x (s.after b.length) → w1.cell? ⟨x, 1, none⟩ = some (.string (strOfNums (s.l 1))) ∧ w1.frozen? ⟨x, 1, none⟩ = false) := Lib.hid fun w1 h1 => by
    have k := Holds.cell h1 1
    rw [after_l] at k
    exact ⟨by simpa using k, Holds.free h1 1⟩
  have hcd := code_0 s b.length
  clear hck hr h hl hf hb hfit hpb hpay
  unfold Pays at hpay'
  rw [strOfNums_size] at hpay'
  generalize s.paid b.length = pd at *
  generalize s.code b.length = cd at *
  generalize hcode : (s.after b.length) = s1 at *
  rw [← strOfNums_size b] at hpay'
  clear hcode
  generalize strOfNums (s.l 1) = f0 at *
  generalize strOfNums (b.take pd) = g0 at *
  go_enter Try.func21, Try.ntmps21
  go_wp2_with fail
  refine hck'.out.mono ?_
  rintro e w' ⟨rfl, rfl⟩
  go_wp2_with fail
  refine hpay'.out.mono ?_
  rintro e w1 ⟨rfl, r1, b1⟩
  obtain ⟨m0, m1⟩ := hcell.out w1 r1
  rcases hcd with rfl | rfl
  · have hfin' := Lib.hid (hfin.out w1 r1 b1)
    clear hfin hcell r1 b1 hpay'
    go_wp2
    refine wp_drawn_on (fun _ => True) (by kernel_rfl) (trivial) (fun hHeld => ?_)
    refine wpAnyH_take (i := 0) (oi := { dst := some 34, op := Go.Op.move (Go.Operand.tmp 0), type := 27, pos := "ref.go:52", after := #[], guard := none }) (v := ?v29) rfl (by kernel_rfl) (by kernel_rfl) (by kernel_rfl) (fun _ _ _ h => h) (Or.inl ⟨by kernel_rfl, ?h29⟩) (by assumption) ?r29
    case h29 => (intro w hSw; (try dsimp only at hSw); go_simp; try with_reducible rfl)
    try simp only [Act.put, List.setIfInBounds_toArray, List.set_cons_zero, List.set_cons_succ]
    refine wpAnyH_take (i := 1) (oi := { dst := some 35, op := Go.Op.move (Go.Operand.tmp 1), type := 3, pos := "ref.go:52", after := #[], guard := none }) (v := ?v30) rfl (by kernel_rfl) (by kernel_rfl) (by kernel_rfl) (fun _ _ _ h => h) (Or.inl ⟨by kernel_rfl, ?h30⟩) (by assumption) ?r30
    case h30 => (intro w hSw; (try dsimp only at hSw); go_simp; try with_reducible rfl)
    try simp only [Act.put, List.setIfInBounds_toArray, List.set_cons_zero, List.set_cons_succ]
    refine wpAnyH_take (i := 2) (oi := { dst := some 36, op := Go.Op.move (Go.Operand.tmp 0), type := 27, pos := "ref.go:52", after := #[], guard := none }) (v := ?v31) rfl (by kernel_rfl) (by kernel_rfl) (by kernel_rfl) (fun _ _ _ h => h) (Or.inl ⟨by kernel_rfl, ?h31⟩) (by assumption) ?r31
    case h31 => (intro w hSw; (try dsimp only at hSw); go_simp; try with_reducible rfl)
    try simp only [Act.put, List.setIfInBounds_toArray, List.set_cons_zero, List.set_cons_succ]
    refine wpAnyH_take (i := 3) (oi := { dst := some 37, op := Go.Op.move (Go.Operand.tmp 1), type := 3, pos := "ref.go:52", after := #[], guard := none }) (v := ?v32) rfl (by kernel_rfl) (by kernel_rfl) (by kernel_rfl) (fun _ _ _ h => h) (Or.inl ⟨by kernel_rfl, ?h32⟩) (by assumption) ?r32
    case h32 => (intro w hSw; (try dsimp only at hSw); go_simp; try with_reducible rfl)
    try simp only [Act.put, List.setIfInBounds_toArray, List.set_cons_zero, List.set_cons_succ]
    refine wpAnyH_take (i := 4) (oi := { dst := some 38, op := Go.Op.nilCheck (Go.Operand.tmp 36), type := 0, pos := "ref.go:52", after := #[{ on := 2, ground := Go.Ground.data }], guard := none }) (v := ?v33) rfl (by kernel_rfl) (by kernel_rfl) (by kernel_rfl) (fun _ _ _ h => h) (Or.inl ⟨by kernel_rfl, ?h33⟩) (by assumption) ?r33
    case h33 => (intro w hSw; (try dsimp only at hSw); go_simp; try with_reducible rfl)
    try simp only [Act.put, List.setIfInBounds_toArray, List.set_cons_zero, List.set_cons_succ]
    refine wpAnyH_take (i := 5) (oi := { dst := some 39, op := Go.Op.fieldAddr 50 (Go.Operand.tmp 38) 0, type := 0, pos := "ref.go:52", after := #[{ on := 4, ground := Go.Ground.data }], guard := none }) (v := ?v34) rfl (by kernel_rfl) (by kernel_rfl) (by kernel_rfl) (fun _ _ _ h => h) (Or.inl ⟨by kernel_rfl, ?h34⟩) (by assumption) ?r34
    case h34 => (intro w hSw; (try dsimp only at hSw); go_simp; try with_reducible rfl)
    try simp only [Act.put, List.setIfInBounds_toArray, List.set_cons_zero, List.set_cons_succ]
    refine wpAnyH_take (i := 6) (oi := { dst := some 40, op := Go.Op.indexAddr 48 (Go.Operand.tmp 39) (Go.Operand.tmp 37), type := 0, pos := "ref.go:52", after := #[{ on := 5, ground := Go.Ground.data }, { on := 3, ground := Go.Ground.data }], guard := none }) (v := ?v35) rfl (by kernel_rfl) (by kernel_rfl) (by kernel_rfl) (fun _ _ _ h => h) (Or.inl ⟨by kernel_rfl, ?h35⟩) (by assumption) ?r35
    case h35 => (intro w hSw; (try dsimp only at hSw); go_simp; try with_reducible rfl)
    try simp only [Act.put, List.setIfInBounds_toArray, List.set_cons_zero, List.set_cons_succ]
    refine wpAnyH_take (i := 8) (oi := { dst := some 42, op := Go.Op.move (Go.Operand.tmp 2), type := 9, pos := "ref.go:52", after := #[], guard := none }) (v := ?v36) rfl (by kernel_rfl) (by kernel_rfl) (by kernel_rfl) (fun _ _ _ h => h) (Or.inl ⟨by kernel_rfl, ?h36⟩) (by assumption) ?r36
    case h36 => (intro w hSw; (try dsimp only at hSw); go_simp; try with_reducible rfl)
    try simp only [Act.put, List.setIfInBounds_toArray, List.set_cons_zero, List.set_cons_succ]
    refine wpAnyH_take (i := 9) (oi := { dst := some 43, op := Go.Op.move (Go.Operand.tmp 8), type := 3, pos := "ref.go:52", after := #[], guard := none }) (v := ?v37) rfl (by kernel_rfl) (by kernel_rfl) (by kernel_rfl) (fun _ _ _ h => h) (Or.inl ⟨by kernel_rfl, ?h37⟩) (by assumption) ?r37
    case h37 => (intro w hSw; (try dsimp only at hSw); go_simp; try with_reducible rfl)
    try simp only [Act.put, List.setIfInBounds_toArray, List.set_cons_zero, List.set_cons_succ]
    refine wpAnyH_take (i := 10) (oi := { dst := some 44, op := Go.Op.slice 9 (Go.Operand.tmp 42) none (some (Go.Operand.tmp 43)) none, type := 9, pos := "ref.go:52", after := #[{ on := 8, ground := Go.Ground.data }, { on := 9, ground := Go.Ground.data }], guard := none }) (v := ?v38) rfl (by kernel_rfl) (by kernel_rfl) (by kernel_rfl) (fun _ _ _ h => h) (Or.inl ⟨by kernel_rfl, ?h38⟩) (by assumption) ?r38
    case h38 => (intro w hSw; (try dsimp only at hSw); go_simp; try with_reducible rfl)
    try simp only [Act.put, List.setIfInBounds_toArray, List.set_cons_zero, List.set_cons_succ]
    refine wpAnyH_take (i := 12) (oi := { dst := some 46, op := Go.Op.nilCheck (Go.Operand.tmp 34), type := 0, pos := "ref.go:52", after := #[{ on := 0, ground := Go.Ground.data }], guard := none }) (v := ?v39) rfl (by kernel_rfl) (by kernel_rfl) (by kernel_rfl) (fun _ _ _ h => h) (Or.inl ⟨by kernel_rfl, ?h39⟩) (by assumption) ?r39
    case h39 => (intro w hSw; (try dsimp only at hSw); go_simp; try with_reducible rfl)
    try simp only [Act.put, List.setIfInBounds_toArray, List.set_cons_zero, List.set_cons_succ]
    refine wpAnyH_take (i := 13) (oi := { dst := some 47, op := Go.Op.fieldAddr 50 (Go.Operand.tmp 46) 0, type := 0, pos := "ref.go:52", after := #[{ on := 12, ground := Go.Ground.data }], guard := none }) (v := ?v40) rfl (by kernel_rfl) (by kernel_rfl) (by kernel_rfl) (fun _ _ _ h => h) (Or.inl ⟨by kernel_rfl, ?h40⟩) (by assumption) ?r40
    case h40 => (intro w hSw; (try dsimp only at hSw); go_simp; try with_reducible rfl)
    try simp only [Act.put, List.setIfInBounds_toArray, List.set_cons_zero, List.set_cons_succ]
    refine wpAnyH_ready (rs := [7]) (by kernel_rfl) (by simp) ?_
    refine AllReadyH.cons (o := { dst := some 41, op := Go.Op.load 9 (Go.Operand.tmp 40), type := 9, pos := "ref.go:52", after := #[{ on := 6, ground := Go.Ground.data }], guard := none }) rfl (fun K hK => ?_) AllReadyH.nil
    go_simp
    refine hK.out _ _ hHeld (fun hHeld => ?_)
    clear hK K
    try simp only [Act.put, List.setIfInBounds_toArray, List.set_cons_zero, List.set_cons_succ]
    refine wpAnyH_take (i := 11) (oi := { dst := some 45, op := Go.Op.binOp Go.BinOp.add 9 (Go.Operand.tmp 41) (Go.Operand.tmp 44) 9, type := 9, pos := "ref.go:52", after := #[{ on := 7, ground := Go.Ground.data }, { on := 10, ground := Go.Ground.data }], guard := none }) (v := ?v41) rfl (by kernel_rfl) (by kernel_rfl) (by kernel_rfl) (fun _ _ _ h => h) (Or.inl ⟨by kernel_rfl, ?h41⟩) (by assumption) ?r41
    case h41 => (intro w hSw; (try dsimp only at hSw); go_simp; try with_reducible rfl)
    try simp only [Act.put, List.setIfInBounds_toArray, List.set_cons_zero, List.set_cons_succ]
    refine wpAnyH_take (i := 14) (oi := { dst := some 48, op := Go.Op.indexAddr 48 (Go.Operand.tmp 47) (Go.Operand.tmp 35), type := 0, pos := "ref.go:52", after := #[{ on := 13, ground := Go.Ground.data }, { on := 1, ground := Go.Ground.data }, { on := 0, ground := Go.Ground.phase }, { on := 1, ground := Go.Ground.phase }, { on := 2, ground := Go.Ground.phase }, { on := 3, ground := Go.Ground.phase }, { on := 4, ground := Go.Ground.phase }, { on := 5, ground := Go.Ground.phase }, { on := 6, ground := Go.Ground.phase }, { on := 7, ground := Go.Ground.phase }, { on := 8, ground := Go.Ground.phase }, { on := 9, ground := Go.Ground.phase }, { on := 10, ground := Go.Ground.phase }, { on := 11, ground := Go.Ground.phase }], guard := none }) (v := ?v42) rfl (by kernel_rfl) (by kernel_rfl) (by kernel_rfl) (fun _ _ _ h => h) (Or.inl ⟨by kernel_rfl, ?h42⟩) (by assumption) ?r42
    case h42 => (intro w hSw; (try dsimp only at hSw); go_simp; try with_reducible rfl)
    try simp only [Act.put, List.setIfInBounds_toArray, List.set_cons_zero, List.set_cons_succ]
    refine wpAnyH_ready (rs := [15]) (by kernel_rfl) (by simp) ?_
    refine AllReadyH.cons (o := { dst := none, op := Go.Op.store 9 (Go.Operand.tmp 48) (Go.Operand.tmp 45), type := 0, pos := "ref.go:52", after := #[{ on := 14, ground := Go.Ground.data }, { on := 11, ground := Go.Ground.data }, { on := 0, ground := Go.Ground.phase }, { on := 1, ground := Go.Ground.phase }, { on := 2, ground := Go.Ground.phase }, { on := 3, ground := Go.Ground.phase }, { on := 4, ground := Go.Ground.phase }, { on := 5, ground := Go.Ground.phase }, { on := 6, ground := Go.Ground.phase }, { on := 7, ground := Go.Ground.phase }, { on := 8, ground := Go.Ground.phase }, { on := 9, ground := Go.Ground.phase }, { on := 10, ground := Go.Ground.phase }, { on := 11, ground := Go.Ground.phase }], guard := none }) rfl (fun K hK => ?_) AllReadyH.nil
    go_simp
    refine hK.out _ _ (trivial) (fun hHeld => ?_)
    clear hK K
    try simp only [Act.put, List.setIfInBounds_toArray, List.set_cons_zero, List.set_cons_succ]
    refine wpAnyH_done (by kernel_rfl) ?_ _
    go_wp2
    go_ret
    exact hfin'.out
  · have hfin' := Lib.hid (hfin.out w1 r1 b1)
    clear hfin hcell r1 b1 hpay'
    go_wp2
    refine wp_drawn_on (fun _ => True) (by kernel_rfl) (trivial) (fun hHeld => ?_)
    refine wpAnyH_take (i := 0) (oi := { dst := some 34, op := Go.Op.move (Go.Operand.tmp 0), type := 27, pos := "ref.go:52", after := #[], guard := none }) (v := ?v43) rfl (by kernel_rfl) (by kernel_rfl) (by kernel_rfl) (fun _ _ _ h => h) (Or.inl ⟨by kernel_rfl, ?h43⟩) (by assumption) ?r43
    case h43 => (intro w hSw; (try dsimp only at hSw); go_simp; try with_reducible rfl)
    try simp only [Act.put, List.setIfInBounds_toArray, List.set_cons_zero, List.set_cons_succ]
    refine wpAnyH_take (i := 1) (oi := { dst := some 35, op := Go.Op.move (Go.Operand.tmp 1), type := 3, pos := "ref.go:52", after := #[], guard := none }) (v := ?v44) rfl (by kernel_rfl) (by kernel_rfl) (by kernel_rfl) (fun _ _ _ h => h) (Or.inl ⟨by kernel_rfl, ?h44⟩) (by assumption) ?r44
    case h44 => (intro w hSw; (try dsimp only at hSw); go_simp; try with_reducible rfl)
    try simp only [Act.put, List.setIfInBounds_toArray, List.set_cons_zero, List.set_cons_succ]
    refine wpAnyH_take (i := 2) (oi := { dst := some 36, op := Go.Op.move (Go.Operand.tmp 0), type := 27, pos := "ref.go:52", after := #[], guard := none }) (v := ?v45) rfl (by kernel_rfl) (by kernel_rfl) (by kernel_rfl) (fun _ _ _ h => h) (Or.inl ⟨by kernel_rfl, ?h45⟩) (by assumption) ?r45
    case h45 => (intro w hSw; (try dsimp only at hSw); go_simp; try with_reducible rfl)
    try simp only [Act.put, List.setIfInBounds_toArray, List.set_cons_zero, List.set_cons_succ]
    refine wpAnyH_take (i := 3) (oi := { dst := some 37, op := Go.Op.move (Go.Operand.tmp 1), type := 3, pos := "ref.go:52", after := #[], guard := none }) (v := ?v46) rfl (by kernel_rfl) (by kernel_rfl) (by kernel_rfl) (fun _ _ _ h => h) (Or.inl ⟨by kernel_rfl, ?h46⟩) (by assumption) ?r46
    case h46 => (intro w hSw; (try dsimp only at hSw); go_simp; try with_reducible rfl)
    try simp only [Act.put, List.setIfInBounds_toArray, List.set_cons_zero, List.set_cons_succ]
    refine wpAnyH_take (i := 4) (oi := { dst := some 38, op := Go.Op.nilCheck (Go.Operand.tmp 36), type := 0, pos := "ref.go:52", after := #[{ on := 2, ground := Go.Ground.data }], guard := none }) (v := ?v47) rfl (by kernel_rfl) (by kernel_rfl) (by kernel_rfl) (fun _ _ _ h => h) (Or.inl ⟨by kernel_rfl, ?h47⟩) (by assumption) ?r47
    case h47 => (intro w hSw; (try dsimp only at hSw); go_simp; try with_reducible rfl)
    try simp only [Act.put, List.setIfInBounds_toArray, List.set_cons_zero, List.set_cons_succ]
    refine wpAnyH_take (i := 5) (oi := { dst := some 39, op := Go.Op.fieldAddr 50 (Go.Operand.tmp 38) 0, type := 0, pos := "ref.go:52", after := #[{ on := 4, ground := Go.Ground.data }], guard := none }) (v := ?v48) rfl (by kernel_rfl) (by kernel_rfl) (by kernel_rfl) (fun _ _ _ h => h) (Or.inl ⟨by kernel_rfl, ?h48⟩) (by assumption) ?r48
    case h48 => (intro w hSw; (try dsimp only at hSw); go_simp; try with_reducible rfl)
    try simp only [Act.put, List.setIfInBounds_toArray, List.set_cons_zero, List.set_cons_succ]
    refine wpAnyH_take (i := 6) (oi := { dst := some 40, op := Go.Op.indexAddr 48 (Go.Operand.tmp 39) (Go.Operand.tmp 37), type := 0, pos := "ref.go:52", after := #[{ on := 5, ground := Go.Ground.data }, { on := 3, ground := Go.Ground.data }], guard := none }) (v := ?v49) rfl (by kernel_rfl) (by kernel_rfl) (by kernel_rfl) (fun _ _ _ h => h) (Or.inl ⟨by kernel_rfl, ?h49⟩) (by assumption) ?r49
    case h49 => (intro w hSw; (try dsimp only at hSw); go_simp; try with_reducible rfl)
    try simp only [Act.put, List.setIfInBounds_toArray, List.set_cons_zero, List.set_cons_succ]
    refine wpAnyH_take (i := 8) (oi := { dst := some 42, op := Go.Op.move (Go.Operand.tmp 2), type := 9, pos := "ref.go:52", after := #[], guard := none }) (v := ?v50) rfl (by kernel_rfl) (by kernel_rfl) (by kernel_rfl) (fun _ _ _ h => h) (Or.inl ⟨by kernel_rfl, ?h50⟩) (by assumption) ?r50
    case h50 => (intro w hSw; (try dsimp only at hSw); go_simp; try with_reducible rfl)
    try simp only [Act.put, List.setIfInBounds_toArray, List.set_cons_zero, List.set_cons_succ]
    refine wpAnyH_take (i := 9) (oi := { dst := some 43, op := Go.Op.move (Go.Operand.tmp 8), type := 3, pos := "ref.go:52", after := #[], guard := none }) (v := ?v51) rfl (by kernel_rfl) (by kernel_rfl) (by kernel_rfl) (fun _ _ _ h => h) (Or.inl ⟨by kernel_rfl, ?h51⟩) (by assumption) ?r51
    case h51 => (intro w hSw; (try dsimp only at hSw); go_simp; try with_reducible rfl)
    try simp only [Act.put, List.setIfInBounds_toArray, List.set_cons_zero, List.set_cons_succ]
    refine wpAnyH_take (i := 10) (oi := { dst := some 44, op := Go.Op.slice 9 (Go.Operand.tmp 42) none (some (Go.Operand.tmp 43)) none, type := 9, pos := "ref.go:52", after := #[{ on := 8, ground := Go.Ground.data }, { on := 9, ground := Go.Ground.data }], guard := none }) (v := ?v52) rfl (by kernel_rfl) (by kernel_rfl) (by kernel_rfl) (fun _ _ _ h => h) (Or.inl ⟨by kernel_rfl, ?h52⟩) (by assumption) ?r52
    case h52 => (intro w hSw; (try dsimp only at hSw); go_simp; try with_reducible rfl)
    try simp only [Act.put, List.setIfInBounds_toArray, List.set_cons_zero, List.set_cons_succ]
    refine wpAnyH_take (i := 12) (oi := { dst := some 46, op := Go.Op.nilCheck (Go.Operand.tmp 34), type := 0, pos := "ref.go:52", after := #[{ on := 0, ground := Go.Ground.data }], guard := none }) (v := ?v53) rfl (by kernel_rfl) (by kernel_rfl) (by kernel_rfl) (fun _ _ _ h => h) (Or.inl ⟨by kernel_rfl, ?h53⟩) (by assumption) ?r53
    case h53 => (intro w hSw; (try dsimp only at hSw); go_simp; try with_reducible rfl)
    try simp only [Act.put, List.setIfInBounds_toArray, List.set_cons_zero, List.set_cons_succ]
    refine wpAnyH_take (i := 13) (oi := { dst := some 47, op := Go.Op.fieldAddr 50 (Go.Operand.tmp 46) 0, type := 0, pos := "ref.go:52", after := #[{ on := 12, ground := Go.Ground.data }], guard := none }) (v := ?v54) rfl (by kernel_rfl) (by kernel_rfl) (by kernel_rfl) (fun _ _ _ h => h) (Or.inl ⟨by kernel_rfl, ?h54⟩) (by assumption) ?r54
    case h54 => (intro w hSw; (try dsimp only at hSw); go_simp; try with_reducible rfl)
    try simp only [Act.put, List.setIfInBounds_toArray, List.set_cons_zero, List.set_cons_succ]
    refine wpAnyH_ready (rs := [7]) (by kernel_rfl) (by simp) ?_
    refine AllReadyH.cons (o := { dst := some 41, op := Go.Op.load 9 (Go.Operand.tmp 40), type := 9, pos := "ref.go:52", after := #[{ on := 6, ground := Go.Ground.data }], guard := none }) rfl (fun K hK => ?_) AllReadyH.nil
    go_simp
    refine hK.out _ _ hHeld (fun hHeld => ?_)
    clear hK K
    try simp only [Act.put, List.setIfInBounds_toArray, List.set_cons_zero, List.set_cons_succ]
    refine wpAnyH_take (i := 11) (oi := { dst := some 45, op := Go.Op.binOp Go.BinOp.add 9 (Go.Operand.tmp 41) (Go.Operand.tmp 44) 9, type := 9, pos := "ref.go:52", after := #[{ on := 7, ground := Go.Ground.data }, { on := 10, ground := Go.Ground.data }], guard := none }) (v := ?v55) rfl (by kernel_rfl) (by kernel_rfl) (by kernel_rfl) (fun _ _ _ h => h) (Or.inl ⟨by kernel_rfl, ?h55⟩) (by assumption) ?r55
    case h55 => (intro w hSw; (try dsimp only at hSw); go_simp; try with_reducible rfl)
    try simp only [Act.put, List.setIfInBounds_toArray, List.set_cons_zero, List.set_cons_succ]
    refine wpAnyH_take (i := 14) (oi := { dst := some 48, op := Go.Op.indexAddr 48 (Go.Operand.tmp 47) (Go.Operand.tmp 35), type := 0, pos := "ref.go:52", after := #[{ on := 13, ground := Go.Ground.data }, { on := 1, ground := Go.Ground.data }, { on := 0, ground := Go.Ground.phase }, { on := 1, ground := Go.Ground.phase }, { on := 2, ground := Go.Ground.phase }, { on := 3, ground := Go.Ground.phase }, { on := 4, ground := Go.Ground.phase }, { on := 5, ground := Go.Ground.phase }, { on := 6, ground := Go.Ground.phase }, { on := 7, ground := Go.Ground.phase }, { on := 8, ground := Go.Ground.phase }, { on := 9, ground := Go.Ground.phase }, { on := 10, ground := Go.Ground.phase }, { on := 11, ground := Go.Ground.phase }], guard := none }) (v := ?v56) rfl (by kernel_rfl) (by kernel_rfl) (by kernel_rfl) (fun _ _ _ h => h) (Or.inl ⟨by kernel_rfl, ?h56⟩) (by assumption) ?r56
    case h56 => (intro w hSw; (try dsimp only at hSw); go_simp; try with_reducible rfl)
    try simp only [Act.put, List.setIfInBounds_toArray, List.set_cons_zero, List.set_cons_succ]
    refine wpAnyH_ready (rs := [15]) (by kernel_rfl) (by simp) ?_
    refine AllReadyH.cons (o := { dst := none, op := Go.Op.store 9 (Go.Operand.tmp 48) (Go.Operand.tmp 45), type := 0, pos := "ref.go:52", after := #[{ on := 14, ground := Go.Ground.data }, { on := 11, ground := Go.Ground.data }, { on := 0, ground := Go.Ground.phase }, { on := 1, ground := Go.Ground.phase }, { on := 2, ground := Go.Ground.phase }, { on := 3, ground := Go.Ground.phase }, { on := 4, ground := Go.Ground.phase }, { on := 5, ground := Go.Ground.phase }, { on := 6, ground := Go.Ground.phase }, { on := 7, ground := Go.Ground.phase }, { on := 8, ground := Go.Ground.phase }, { on := 9, ground := Go.Ground.phase }, { on := 10, ground := Go.Ground.phase }, { on := 11, ground := Go.Ground.phase }], guard := none }) rfl (fun K hK => ?_) AllReadyH.nil
    go_simp
    refine hK.out _ _ (trivial) (fun hHeld => ?_)
    clear hK K
    try simp only [Act.put, List.setIfInBounds_toArray, List.set_cons_zero, List.set_cons_succ]
    refine wpAnyH_done (by kernel_rfl) ?_ _
    go_wp2
    go_ret
    exact hfin'.out
theorem paid_1 (s : St) : (s.code 1 = 0 ∧ s.paid 1 = 1) ∨ (s.code 1 = 280 ∧ s.paid 1 = 0) := by
  unfold St.code St.paid
  by_cases ha : s.armed = true
  · by_cases hl : s.left < 1
    · right; simp [ha, hl]; omega
    · left; simp [ha, hl]; omega
  · left; simp [ha]
theorem rcut_size_0 (x : Nat) (s : St) (m : Int) (w : World) (h : Rk w x s) (hf : s.fine) (ho : s.off = false) (hbad : m < 0 ∨ ((s.l 0).length : Int) < m) :
    Calls Try.prog 23 #[.pointer (some ⟨x, 0, none⟩), .int .i64 0, .int .i64 m] w (RTells (cutO s 0 m) x w) := by
  have hck := rcheck_any x s 0 w h
  rw [ho, if_neg (by simp), if_neg (by simp)] at hck
  have hl : (s.l 0).length ≤ 4194304 := by have := hf; unfold St.fine at this; omega
  have hr : cutO s 0 m = (1, s) := by simp [cutO, ho, hbad]
  have hres : RTells (cutO s 0 m) x w (.returned (.int .i64 1)) w := by rw [hr]; exact ⟨rfl, h, BelowE.refl _ _ _⟩
  have hres' := Lib.hid hres
  have hck' := Lib.hid hck
  have k0 := Holds.cell h 0
  simp at k0
  rw [← strOfNums_size (s.l 0)] at hbad
  clear hck hr hres h hl hf
  generalize strOfNums (s.l 0) = f0 at *
  by_cases h0 : m < 0
  · clear hbad
    go_enter Try.func23, Try.ntmps23
    go_wp2_with fail
    refine hck'.out.mono ?_
    rintro e w' ⟨rfl, rfl⟩
    go_wp2
    go_ret
    exact hres'.out
  · have h1 : (f0.size : Int) < m := by omega
    clear hbad
    go_enter Try.func23, Try.ntmps23
    go_wp2_with fail
    refine hck'.out.mono ?_
    rintro e w' ⟨rfl, rfl⟩
    go_wp2
    go_ret
    exact hres'.out
set_option maxRecDepth 100000 in
theorem rcut_pay_0 (x : Nat) (s : St) (m : Int) (w : World) (h : Rk w x s) (hf : s.fine) (ho : s.off = false) (hgood : ¬ (m < 0 ∨ ((s.l 0).length : Int) < m)) :
    Calls Try.prog 23 #[.pointer (some ⟨x, 0, none⟩), .int .i64 0, .int .i64 m] w (RTells (cutO s 0 m) x w) := by
  have hck := rcheck_any x s 0 w h
  rw [ho, if_neg (by simp), if_neg (by simp)] at hck
  have hl : (s.l 0).length ≤ 4194304 := by have := hf; unfold St.fine at this; omega
  have hr : cutO s 0 m = (s.code 1, (s.after 1).with_ (if s.paid 1 = 1 then upd s.l 0 ((s.l 0).take m.toNat) else s.l)) := by simp [cutO, ho, hgood]
  have hck' := Lib.hid hck
  have k0 := Holds.cell h 0
  simp at k0
  obtain ⟨M, hM⟩ := Int.eq_ofNat_of_zero_le (show 0 ≤ m by omega)
  subst hM
  simp only [Int.toNat_natCast] at hr
  have hML : M ≤ (s.l 0).length := by omega
  have e1 : ¬ ((M : Int) < 0) := by omega
  have e2 : ¬ (((strOfNums (s.l 0)).size : Int) < (M : Int)) := by rw [strOfNums_size]; omega
  have hsl := sl Try.prog 9 Try.underlying9 (s.l 0) M hML
  have hpay' := Lib.hid (rpay_any x s 1 (by omega) hf.2.2 w h)
  unfold Pays at hpay'
  have hcell : Hid (∀ w1, Rk w1 x (s.after 1) → w1.cell? ⟨x, 0, none⟩ = some (.string (strOfNums (s.l 0))) ∧ w1.frozen? ⟨x, 0, none⟩ = false) := Lib.hid fun w1 h1 => by
    have k := Holds.cell h1 0
    rw [after_l] at k
    exact ⟨by simpa using k, Holds.free h1 0⟩
  rcases paid_1 s with ⟨hc, hp⟩ | ⟨hc, hp⟩
  · rw [hc, hp, if_pos rfl] at hr
    rw [hc, hp] at hpay'
    have hfin : Hid (∀ w1, Rk w1 x (s.after 1) → BelowE [x] w.heap.size w w1 → RTells (cutO s 0 M) x w (.returned (.int .i64 0)) ((w1.setCell ⟨x, 0, none⟩ (.string (strOfNums ((s.l 0).take M)))).drew)) := Lib.hid fun w1 h1 h2 => by
      rw [hr]
      obtain ⟨q1, q2⟩ := h1.put0 ((s.l 0).take M)
      rw [after_l] at q1
      exact ⟨rfl, q1, (h2.trans (q2.mono h2.size)).drew⟩
    clear hck hr h hl hf hgood hML
    generalize hs1 : (s.after 1) = s1 at *
    generalize strOfNums ((s.l 0).take M) = g0 at *
    generalize strOfNums (s.l 0) = f0 at *
    clear hs1 hc hp ho
    go_enter Try.func23, Try.ntmps23
    go_wp2_with fail
    refine hck'.out.mono ?_
    rintro e w' ⟨rfl, rfl⟩
    go_wp2_with fail
    refine hpay'.out.mono ?_
    rintro e w1 ⟨rfl, r1, b1⟩
    obtain ⟨m0, m1⟩ := hcell.out w1 r1
    have hfin' := Lib.hid (hfin.out w1 r1 b1)
    clear hfin hcell r1 b1 hpay'
    go_wp2
    refine wp_drawn_on (fun _ => True) (by kernel_rfl) (trivial) (fun hHeld => ?_)
    refine wpAnyH_take (i := 0) (oi := { dst := some 36, op := Go.Op.move (Go.Operand.tmp 0), type := 27, pos := "ref.go:72", after := #[], guard := none }) (v := ?v57) rfl (by kernel_rfl) (by kernel_rfl) (by kernel_rfl) (fun _ _ _ h => h) (Or.inl ⟨by kernel_rfl, ?h57⟩) (by assumption) ?r57
    case h57 => (intro w hSw; (try dsimp only at hSw); go_simp; try with_reducible rfl)
    try simp only [Act.put, List.setIfInBounds_toArray, List.set_cons_zero, List.set_cons_succ]
    refine wpAnyH_take (i := 1) (oi := { dst := some 37, op := Go.Op.move (Go.Operand.tmp 1), type := 3, pos := "ref.go:72", after := #[], guard := none }) (v := ?v58) rfl (by kernel_rfl) (by kernel_rfl) (by kernel_rfl) (fun _ _ _ h => h) (Or.inl ⟨by kernel_rfl, ?h58⟩) (by assumption) ?r58
    case h58 => (intro w hSw; (try dsimp only at hSw); go_simp; try with_reducible rfl)
    try simp only [Act.put, List.setIfInBounds_toArray, List.set_cons_zero, List.set_cons_succ]
    refine wpAnyH_take (i := 2) (oi := { dst := some 38, op := Go.Op.move (Go.Operand.tmp 0), type := 27, pos := "ref.go:72", after := #[], guard := none }) (v := ?v59) rfl (by kernel_rfl) (by kernel_rfl) (by kernel_rfl) (fun _ _ _ h => h) (Or.inl ⟨by kernel_rfl, ?h59⟩) (by assumption) ?r59
    case h59 => (intro w hSw; (try dsimp only at hSw); go_simp; try with_reducible rfl)
    try simp only [Act.put, List.setIfInBounds_toArray, List.set_cons_zero, List.set_cons_succ]
    refine wpAnyH_take (i := 3) (oi := { dst := some 39, op := Go.Op.move (Go.Operand.tmp 1), type := 3, pos := "ref.go:72", after := #[], guard := none }) (v := ?v60) rfl (by kernel_rfl) (by kernel_rfl) (by kernel_rfl) (fun _ _ _ h => h) (Or.inl ⟨by kernel_rfl, ?h60⟩) (by assumption) ?r60
    case h60 => (intro w hSw; (try dsimp only at hSw); go_simp; try with_reducible rfl)
    try simp only [Act.put, List.setIfInBounds_toArray, List.set_cons_zero, List.set_cons_succ]
    refine wpAnyH_take (i := 4) (oi := { dst := some 40, op := Go.Op.nilCheck (Go.Operand.tmp 38), type := 0, pos := "ref.go:72", after := #[{ on := 2, ground := Go.Ground.data }], guard := none }) (v := ?v61) rfl (by kernel_rfl) (by kernel_rfl) (by kernel_rfl) (fun _ _ _ h => h) (Or.inl ⟨by kernel_rfl, ?h61⟩) (by assumption) ?r61
    case h61 => (intro w hSw; (try dsimp only at hSw); go_simp; try with_reducible rfl)
    try simp only [Act.put, List.setIfInBounds_toArray, List.set_cons_zero, List.set_cons_succ]
    refine wpAnyH_take (i := 5) (oi := { dst := some 41, op := Go.Op.fieldAddr 50 (Go.Operand.tmp 40) 0, type := 0, pos := "ref.go:72", after := #[{ on := 4, ground := Go.Ground.data }], guard := none }) (v := ?v62) rfl (by kernel_rfl) (by kernel_rfl) (by kernel_rfl) (fun _ _ _ h => h) (Or.inl ⟨by kernel_rfl, ?h62⟩) (by assumption) ?r62
    case h62 => (intro w hSw; (try dsimp only at hSw); go_simp; try with_reducible rfl)
    try simp only [Act.put, List.setIfInBounds_toArray, List.set_cons_zero, List.set_cons_succ]
    refine wpAnyH_take (i := 6) (oi := { dst := some 42, op := Go.Op.indexAddr 48 (Go.Operand.tmp 41) (Go.Operand.tmp 39), type := 0, pos := "ref.go:72", after := #[{ on := 5, ground := Go.Ground.data }, { on := 3, ground := Go.Ground.data }], guard := none }) (v := ?v63) rfl (by kernel_rfl) (by kernel_rfl) (by kernel_rfl) (fun _ _ _ h => h) (Or.inl ⟨by kernel_rfl, ?h63⟩) (by assumption) ?r63
    case h63 => (intro w hSw; (try dsimp only at hSw); go_simp; try with_reducible rfl)
    try simp only [Act.put, List.setIfInBounds_toArray, List.set_cons_zero, List.set_cons_succ]
    refine wpAnyH_take (i := 8) (oi := { dst := some 44, op := Go.Op.move (Go.Operand.tmp 2), type := 3, pos := "ref.go:72", after := #[], guard := none }) (v := ?v64) rfl (by kernel_rfl) (by kernel_rfl) (by kernel_rfl) (fun _ _ _ h => h) (Or.inl ⟨by kernel_rfl, ?h64⟩) (by assumption) ?r64
    case h64 => (intro w hSw; (try dsimp only at hSw); go_simp; try with_reducible rfl)
    try simp only [Act.put, List.setIfInBounds_toArray, List.set_cons_zero, List.set_cons_succ]
    refine wpAnyH_take (i := 10) (oi := { dst := some 46, op := Go.Op.nilCheck (Go.Operand.tmp 36), type := 0, pos := "ref.go:72", after := #[{ on := 0, ground := Go.Ground.data }], guard := none }) (v := ?v65) rfl (by kernel_rfl) (by kernel_rfl) (by kernel_rfl) (fun _ _ _ h => h) (Or.inl ⟨by kernel_rfl, ?h65⟩) (by assumption) ?r65
    case h65 => (intro w hSw; (try dsimp only at hSw); go_simp; try with_reducible rfl)
    try simp only [Act.put, List.setIfInBounds_toArray, List.set_cons_zero, List.set_cons_succ]
    refine wpAnyH_take (i := 11) (oi := { dst := some 47, op := Go.Op.fieldAddr 50 (Go.Operand.tmp 46) 0, type := 0, pos := "ref.go:72", after := #[{ on := 10, ground := Go.Ground.data }], guard := none }) (v := ?v66) rfl (by kernel_rfl) (by kernel_rfl) (by kernel_rfl) (fun _ _ _ h => h) (Or.inl ⟨by kernel_rfl, ?h66⟩) (by assumption) ?r66
    case h66 => (intro w hSw; (try dsimp only at hSw); go_simp; try with_reducible rfl)
    try simp only [Act.put, List.setIfInBounds_toArray, List.set_cons_zero, List.set_cons_succ]
    refine wpAnyH_ready (rs := [7]) (by kernel_rfl) (by simp) ?_
    refine AllReadyH.cons (o := { dst := some 43, op := Go.Op.load 9 (Go.Operand.tmp 42), type := 9, pos := "ref.go:72", after := #[{ on := 6, ground := Go.Ground.data }], guard := none }) rfl (fun K hK => ?_) AllReadyH.nil
    go_simp
    refine hK.out _ _ hHeld (fun hHeld => ?_)
    clear hK K
    try simp only [Act.put, List.setIfInBounds_toArray, List.set_cons_zero, List.set_cons_succ]
    refine wpAnyH_take (i := 9) (oi := { dst := some 45, op := Go.Op.slice 9 (Go.Operand.tmp 43) none (some (Go.Operand.tmp 44)) none, type := 9, pos := "ref.go:72", after := #[{ on := 7, ground := Go.Ground.data }, { on := 8, ground := Go.Ground.data }], guard := none }) (v := ?v67) rfl (by kernel_rfl) (by kernel_rfl) (by kernel_rfl) (fun _ _ _ h => h) (Or.inl ⟨by kernel_rfl, ?h67⟩) (by assumption) ?r67
    case h67 => (intro w hSw; (try dsimp only at hSw); go_simp; try with_reducible rfl)
    try simp only [Act.put, List.setIfInBounds_toArray, List.set_cons_zero, List.set_cons_succ]
    refine wpAnyH_take (i := 12) (oi := { dst := some 48, op := Go.Op.indexAddr 48 (Go.Operand.tmp 47) (Go.Operand.tmp 37), type := 0, pos := "ref.go:72", after := #[{ on := 11, ground := Go.Ground.data }, { on := 1, ground := Go.Ground.data }, { on := 0, ground := Go.Ground.phase }, { on := 1, ground := Go.Ground.phase }, { on := 2, ground := Go.Ground.phase }, { on := 3, ground := Go.Ground.phase }, { on := 4, ground := Go.Ground.phase }, { on := 5, ground := Go.Ground.phase }, { on := 6, ground := Go.Ground.phase }, { on := 7, ground := Go.Ground.phase }, { on := 8, ground := Go.Ground.phase }, { on := 9, ground := Go.Ground.phase }], guard := none }) (v := ?v68) rfl (by kernel_rfl) (by kernel_rfl) (by kernel_rfl) (fun _ _ _ h => h) (Or.inl ⟨by kernel_rfl, ?h68⟩) (by assumption) ?r68
    case h68 => (intro w hSw; (try dsimp only at hSw); go_simp; try with_reducible rfl)
    try simp only [Act.put, List.setIfInBounds_toArray, List.set_cons_zero, List.set_cons_succ]
    refine wpAnyH_ready (rs := [13]) (by kernel_rfl) (by simp) ?_
    refine AllReadyH.cons (o := { dst := none, op := Go.Op.store 9 (Go.Operand.tmp 48) (Go.Operand.tmp 45), type := 0, pos := "ref.go:72", after := #[{ on := 12, ground := Go.Ground.data }, { on := 9, ground := Go.Ground.data }, { on := 0, ground := Go.Ground.phase }, { on := 1, ground := Go.Ground.phase }, { on := 2, ground := Go.Ground.phase }, { on := 3, ground := Go.Ground.phase }, { on := 4, ground := Go.Ground.phase }, { on := 5, ground := Go.Ground.phase }, { on := 6, ground := Go.Ground.phase }, { on := 7, ground := Go.Ground.phase }, { on := 8, ground := Go.Ground.phase }, { on := 9, ground := Go.Ground.phase }], guard := none }) rfl (fun K hK => ?_) AllReadyH.nil
    go_simp
    refine hK.out _ _ (trivial) (fun hHeld => ?_)
    clear hK K
    try simp only [Act.put, List.setIfInBounds_toArray, List.set_cons_zero, List.set_cons_succ]
    refine wpAnyH_done (by kernel_rfl) ?_ _
    go_wp2
    go_ret
    exact hfin'.out
  · rw [hc, hp, if_neg (by simp)] at hr
    rw [hc, hp] at hpay'
    have hfin : Hid (∀ w1, Rk w1 x (s.after 1) → BelowE [x] w.heap.size w w1 → RTells (cutO s 0 M) x w (.returned (.int .i64 280)) w1) := Lib.hid fun w1 h1 h2 => by
      rw [hr]
      have : (s.after 1).with_ s.l = s.after 1 := by rw [← after_l s 1]; rfl
      rw [this]
      exact ⟨rfl, h1, h2⟩
    clear hck hr h hl hf hgood hML hsl
    generalize hs1 : (s.after 1) = s1 at *
    generalize strOfNums (s.l 0) = f0 at *
    clear hs1 hc hp ho
    go_enter Try.func23, Try.ntmps23
    go_wp2_with fail
    refine hck'.out.mono ?_
    rintro e w' ⟨rfl, rfl⟩
    go_wp2_with fail
    refine hpay'.out.mono ?_
    rintro e w1 ⟨rfl, r1, b1⟩
    have hfin' := Lib.hid (hfin.out w1 r1 b1)
    clear hfin hcell r1 b1 hpay'
    go_wp2
    go_ret
    exact hfin'.out
theorem rspoil_size_0 (x : Nat) (s : St) (m : Int) (b : List Int) (w : World) (h : Rk w x s) (hf : s.fine) (hbad : m < 0 ∨ ((s.l 0).length : Int) < m) :
    Calls Try.prog 27 #[.pointer (some ⟨x, 0, none⟩), .int .i64 0, .int .i64 m, .string (strOfNums b)] w (RTells (spoilO s 0 m b) x w) := by
  have hl : (s.l 0).length ≤ 4194304 := by have := hf; unfold St.fine at this; omega
  have hr : spoilO s 0 m b = (1, s) := by simp [spoilO, hbad]
  have hres : RTells (spoilO s 0 m b) x w (.returned (.int .i64 1)) w := by rw [hr]; exact ⟨rfl, h, BelowE.refl _ _ _⟩
  have hres' := Lib.hid hres
  have k0 := Holds.cell h 0
  simp at k0
  rw [← strOfNums_size (s.l 0)] at hbad
  clear hr hres h hl hf
  generalize strOfNums (s.l 0) = f0 at *
  by_cases h0 : m < 0
  · clear hbad
    go_enter Try.func27, Try.ntmps27
    go_wp2
    go_ret
    exact hres'.out
  · have h1 : (f0.size : Int) < m := by omega
    clear hbad
    go_enter Try.func27, Try.ntmps27
    go_wp2
    go_ret
    exact hres'.out
set_option maxRecDepth 100000 in
theorem rspoil_put_0 (x : Nat) (s : St) (m : Int) (b : List Int) (w : World) (h : Rk w x s) (hf : s.fine) (hb : b.length ≤ 50000000) (hgood : ¬ (m < 0 ∨ ((s.l 0).length : Int) < m)) :
    Calls Try.prog 27 #[.pointer (some ⟨x, 0, none⟩), .int .i64 0, .int .i64 m, .string (strOfNums b)] w (RTells (spoilO s 0 m b) x w) := by
  have hl : (s.l 0).length ≤ 4194304 := by have := hf; unfold St.fine at this; omega
  have k0 := Holds.cell h 0
  have z0 := Holds.free h 0
  simp at k0
  obtain ⟨M, hM⟩ := Int.eq_ofNat_of_zero_le (show 0 ≤ m by omega)
  subst hM
  have hML : M ≤ (s.l 0).length := by omega
  have e1 : ¬ ((M : Int) < 0) := by omega
  have e2 : ¬ (((strOfNums (s.l 0)).size : Int) < (M : Int)) := by rw [strOfNums_size]; omega
  have e3 : (M : Int) ≤ 4194304 := by omega
  have e4 : ((strOfNums b).size : Int) ≤ 50000000 := by rw [strOfNums_size]; omega
  have hsl := sl Try.prog 9 Try.underlying9 (s.l 0) M hML
  by_cases hfull : 4194304 < (M : Int) + (b.length : Int)
  · have hr : spoilO s 0 M b = (2, s) := by
      simp only [spoilO]
      have hg2 : ¬ ((M : Int) < 0 ∨ ((s.l (Int.toNat 0)).length : Int) < (M : Int)) := hgood
      rw [if_neg (by simp), if_neg hg2, if_pos hfull]
    have hres : RTells (spoilO s 0 M b) x w (.returned (.int .i64 2)) w := by rw [hr]; exact ⟨rfl, h, BelowE.refl _ _ _⟩
    have hres' := Lib.hid hres
    have e5 : (4194304 : Int) < (M : Int) + ((strOfNums b).size : Int) := by rw [strOfNums_size]; exact hfull
    clear hr hres h hl hf hgood hML hfull hsl hb
    generalize strOfNums (s.l 0) = f0 at *
    go_enter Try.func27, Try.ntmps27
    go_wp2
    go_ret
    exact hres'.out
  · have hr : spoilO s 0 M b = (0, s.with_ (upd s.l 0 ((s.l 0).take M ++ b))) := by
      simp only [spoilO]
      have hg2 : ¬ ((M : Int) < 0 ∨ ((s.l (Int.toNat 0)).length : Int) < (M : Int)) := hgood
      rw [if_neg (by simp), if_neg hg2, if_neg hfull]
      rfl
    have hres : RTells (spoilO s 0 M b) x w (.returned (.int .i64 0)) ((w.setCell ⟨x, 0, none⟩ (.string (strOfNums ((s.l 0).take M) ++ strOfNums b))).drew) := by
      rw [hr, ← str_append]
      obtain ⟨q1, q2⟩ := h.put0 ((s.l 0).take M ++ b)
      exact ⟨rfl, q1, q2.drew⟩
    have hres' := Lib.hid hres
    have e5 : ¬ (4194304 : Int) < (M : Int) + ((strOfNums b).size : Int) := by rw [strOfNums_size]; exact hfull
    have e6 : ¬ 9223372036854775807 < (strOfNums ((s.l 0).take M)).size + (strOfNums b).size := by rw [strOfNums_size, strOfNums_size]; simp; omega
    clear hr hres h hl hf hgood hML hfull hb
    generalize strOfNums ((s.l 0).take M) = g0 at *
    generalize strOfNums (s.l 0) = f0 at *
    go_enter Try.func27, Try.ntmps27
    go_wp2
    refine wp_drawn_on (fun _ => True) (by kernel_rfl) (trivial) (fun hHeld => ?_)
    refine wpAnyH_take (i := 0) (oi := { dst := some 35, op := Go.Op.move (Go.Operand.tmp 0), type := 27, pos := "ref.go:110", after := #[], guard := none }) (v := ?v69) rfl (by kernel_rfl) (by kernel_rfl) (by kernel_rfl) (fun _ _ _ h => h) (Or.inl ⟨by kernel_rfl, ?h69⟩) (by assumption) ?r69
    case h69 => (intro w hSw; (try dsimp only at hSw); go_simp; try with_reducible rfl)
    try simp only [Act.put, List.setIfInBounds_toArray, List.set_cons_zero, List.set_cons_succ]
    refine wpAnyH_take (i := 1) (oi := { dst := some 36, op := Go.Op.move (Go.Operand.tmp 1), type := 3, pos := "ref.go:110", after := #[], guard := none }) (v := ?v70) rfl (by kernel_rfl) (by kernel_rfl) (by kernel_rfl) (fun _ _ _ h => h) (Or.inl ⟨by kernel_rfl, ?h70⟩) (by assumption) ?r70
    case h70 => (intro w hSw; (try dsimp only at hSw); go_simp; try with_reducible rfl)
    try simp only [Act.put, List.setIfInBounds_toArray, List.set_cons_zero, List.set_cons_succ]
    refine wpAnyH_take (i := 2) (oi := { dst := some 37, op := Go.Op.move (Go.Operand.tmp 0), type := 27, pos := "ref.go:110", after := #[], guard := none }) (v := ?v71) rfl (by kernel_rfl) (by kernel_rfl) (by kernel_rfl) (fun _ _ _ h => h) (Or.inl ⟨by kernel_rfl, ?h71⟩) (by assumption) ?r71
    case h71 => (intro w hSw; (try dsimp only at hSw); go_simp; try with_reducible rfl)
    try simp only [Act.put, List.setIfInBounds_toArray, List.set_cons_zero, List.set_cons_succ]
    refine wpAnyH_take (i := 3) (oi := { dst := some 38, op := Go.Op.move (Go.Operand.tmp 1), type := 3, pos := "ref.go:110", after := #[], guard := none }) (v := ?v72) rfl (by kernel_rfl) (by kernel_rfl) (by kernel_rfl) (fun _ _ _ h => h) (Or.inl ⟨by kernel_rfl, ?h72⟩) (by assumption) ?r72
    case h72 => (intro w hSw; (try dsimp only at hSw); go_simp; try with_reducible rfl)
    try simp only [Act.put, List.setIfInBounds_toArray, List.set_cons_zero, List.set_cons_succ]
    refine wpAnyH_take (i := 4) (oi := { dst := some 39, op := Go.Op.nilCheck (Go.Operand.tmp 37), type := 0, pos := "ref.go:110", after := #[{ on := 2, ground := Go.Ground.data }], guard := none }) (v := ?v73) rfl (by kernel_rfl) (by kernel_rfl) (by kernel_rfl) (fun _ _ _ h => h) (Or.inl ⟨by kernel_rfl, ?h73⟩) (by assumption) ?r73
    case h73 => (intro w hSw; (try dsimp only at hSw); go_simp; try with_reducible rfl)
    try simp only [Act.put, List.setIfInBounds_toArray, List.set_cons_zero, List.set_cons_succ]
    refine wpAnyH_take (i := 5) (oi := { dst := some 40, op := Go.Op.fieldAddr 50 (Go.Operand.tmp 39) 0, type := 0, pos := "ref.go:110", after := #[{ on := 4, ground := Go.Ground.data }], guard := none }) (v := ?v74) rfl (by kernel_rfl) (by kernel_rfl) (by kernel_rfl) (fun _ _ _ h => h) (Or.inl ⟨by kernel_rfl, ?h74⟩) (by assumption) ?r74
    case h74 => (intro w hSw; (try dsimp only at hSw); go_simp; try with_reducible rfl)
    try simp only [Act.put, List.setIfInBounds_toArray, List.set_cons_zero, List.set_cons_succ]
    refine wpAnyH_take (i := 6) (oi := { dst := some 41, op := Go.Op.indexAddr 48 (Go.Operand.tmp 40) (Go.Operand.tmp 38), type := 0, pos := "ref.go:110", after := #[{ on := 5, ground := Go.Ground.data }, { on := 3, ground := Go.Ground.data }], guard := none }) (v := ?v75) rfl (by kernel_rfl) (by kernel_rfl) (by kernel_rfl) (fun _ _ _ h => h) (Or.inl ⟨by kernel_rfl, ?h75⟩) (by assumption) ?r75
    case h75 => (intro w hSw; (try dsimp only at hSw); go_simp; try with_reducible rfl)
    try simp only [Act.put, List.setIfInBounds_toArray, List.set_cons_zero, List.set_cons_succ]
    refine wpAnyH_take (i := 8) (oi := { dst := some 43, op := Go.Op.move (Go.Operand.tmp 2), type := 3, pos := "ref.go:110", after := #[], guard := none }) (v := ?v76) rfl (by kernel_rfl) (by kernel_rfl) (by kernel_rfl) (fun _ _ _ h => h) (Or.inl ⟨by kernel_rfl, ?h76⟩) (by assumption) ?r76
    case h76 => (intro w hSw; (try dsimp only at hSw); go_simp; try with_reducible rfl)
    try simp only [Act.put, List.setIfInBounds_toArray, List.set_cons_zero, List.set_cons_succ]
    refine wpAnyH_take (i := 10) (oi := { dst := some 45, op := Go.Op.move (Go.Operand.tmp 3), type := 9, pos := "ref.go:110", after := #[], guard := none }) (v := ?v77) rfl (by kernel_rfl) (by kernel_rfl) (by kernel_rfl) (fun _ _ _ h => h) (Or.inl ⟨by kernel_rfl, ?h77⟩) (by assumption) ?r77
    case h77 => (intro w hSw; (try dsimp only at hSw); go_simp; try with_reducible rfl)
    try simp only [Act.put, List.setIfInBounds_toArray, List.set_cons_zero, List.set_cons_succ]
    refine wpAnyH_take (i := 12) (oi := { dst := some 47, op := Go.Op.nilCheck (Go.Operand.tmp 35), type := 0, pos := "ref.go:110", after := #[{ on := 0, ground := Go.Ground.data }], guard := none }) (v := ?v78) rfl (by kernel_rfl) (by kernel_rfl) (by kernel_rfl) (fun _ _ _ h => h) (Or.inl ⟨by kernel_rfl, ?h78⟩) (by assumption) ?r78
    case h78 => (intro w hSw; (try dsimp only at hSw); go_simp; try with_reducible rfl)
    try simp only [Act.put, List.setIfInBounds_toArray, List.set_cons_zero, List.set_cons_succ]
    refine wpAnyH_take (i := 13) (oi := { dst := some 48, op := Go.Op.fieldAddr 50 (Go.Operand.tmp 47) 0, type := 0, pos := "ref.go:110", after := #[{ on := 12, ground := Go.Ground.data }], guard := none }) (v := ?v79) rfl (by kernel_rfl) (by kernel_rfl) (by kernel_rfl) (fun _ _ _ h => h) (Or.inl ⟨by kernel_rfl, ?h79⟩) (by assumption) ?r79
    case h79 => (intro w hSw; (try dsimp only at hSw); go_simp; try with_reducible rfl)
    try simp only [Act.put, List.setIfInBounds_toArray, List.set_cons_zero, List.set_cons_succ]
    refine wpAnyH_ready (rs := [7]) (by kernel_rfl) (by simp) ?_
    refine AllReadyH.cons (o := { dst := some 42, op := Go.Op.load 9 (Go.Operand.tmp 41), type := 9, pos := "ref.go:110", after := #[{ on := 6, ground := Go.Ground.data }], guard := none }) rfl (fun K hK => ?_) AllReadyH.nil
    go_simp
    refine hK.out _ _ hHeld (fun hHeld => ?_)
    clear hK K
    try simp only [Act.put, List.setIfInBounds_toArray, List.set_cons_zero, List.set_cons_succ]
    refine wpAnyH_take (i := 9) (oi := { dst := some 44, op := Go.Op.slice 9 (Go.Operand.tmp 42) none (some (Go.Operand.tmp 43)) none, type := 9, pos := "ref.go:110", after := #[{ on := 7, ground := Go.Ground.data }, { on := 8, ground := Go.Ground.data }], guard := none }) (v := ?v80) rfl (by kernel_rfl) (by kernel_rfl) (by kernel_rfl) (fun _ _ _ h => h) (Or.inl ⟨by kernel_rfl, ?h80⟩) (by assumption) ?r80
    case h80 => (intro w hSw; (try dsimp only at hSw); go_simp; try with_reducible rfl)
    try simp only [Act.put, List.setIfInBounds_toArray, List.set_cons_zero, List.set_cons_succ]
    refine wpAnyH_take (i := 11) (oi := { dst := some 46, op := Go.Op.binOp Go.BinOp.add 9 (Go.Operand.tmp 44) (Go.Operand.tmp 45) 9, type := 9, pos := "ref.go:110", after := #[{ on := 9, ground := Go.Ground.data }, { on := 10, ground := Go.Ground.data }], guard := none }) (v := ?v81) rfl (by kernel_rfl) (by kernel_rfl) (by kernel_rfl) (fun _ _ _ h => h) (Or.inl ⟨by kernel_rfl, ?h81⟩) (by assumption) ?r81
    case h81 => (intro w hSw; (try dsimp only at hSw); go_simp; try with_reducible rfl)
    try simp only [Act.put, List.setIfInBounds_toArray, List.set_cons_zero, List.set_cons_succ]
    refine wpAnyH_take (i := 14) (oi := { dst := some 49, op := Go.Op.indexAddr 48 (Go.Operand.tmp 48) (Go.Operand.tmp 36), type := 0, pos := "ref.go:110", after := #[{ on := 13, ground := Go.Ground.data }, { on := 1, ground := Go.Ground.data }, { on := 0, ground := Go.Ground.phase }, { on := 1, ground := Go.Ground.phase }, { on := 2, ground := Go.Ground.phase }, { on := 3, ground := Go.Ground.phase }, { on := 4, ground := Go.Ground.phase }, { on := 5, ground := Go.Ground.phase }, { on := 6, ground := Go.Ground.phase }, { on := 7, ground := Go.Ground.phase }, { on := 8, ground := Go.Ground.phase }, { on := 9, ground := Go.Ground.phase }, { on := 10, ground := Go.Ground.phase }, { on := 11, ground := Go.Ground.phase }], guard := none }) (v := ?v82) rfl (by kernel_rfl) (by kernel_rfl) (by kernel_rfl) (fun _ _ _ h => h) (Or.inl ⟨by kernel_rfl, ?h82⟩) (by assumption) ?r82
    case h82 => (intro w hSw; (try dsimp only at hSw); go_simp; try with_reducible rfl)
    try simp only [Act.put, List.setIfInBounds_toArray, List.set_cons_zero, List.set_cons_succ]
    refine wpAnyH_ready (rs := [15]) (by kernel_rfl) (by simp) ?_
    refine AllReadyH.cons (o := { dst := none, op := Go.Op.store 9 (Go.Operand.tmp 49) (Go.Operand.tmp 46), type := 0, pos := "ref.go:110", after := #[{ on := 14, ground := Go.Ground.data }, { on := 11, ground := Go.Ground.data }, { on := 0, ground := Go.Ground.phase }, { on := 1, ground := Go.Ground.phase }, { on := 2, ground := Go.Ground.phase }, { on := 3, ground := Go.Ground.phase }, { on := 4, ground := Go.Ground.phase }, { on := 5, ground := Go.Ground.phase }, { on := 6, ground := Go.Ground.phase }, { on := 7, ground := Go.Ground.phase }, { on := 8, ground := Go.Ground.phase }, { on := 9, ground := Go.Ground.phase }, { on := 10, ground := Go.Ground.phase }, { on := 11, ground := Go.Ground.phase }], guard := none }) rfl (fun K hK => ?_) AllReadyH.nil
    go_simp
    refine hK.out _ _ (trivial) (fun hHeld => ?_)
    clear hK K
    try simp only [Act.put, List.setIfInBounds_toArray, List.set_cons_zero, List.set_cons_succ]
    refine wpAnyH_done (by kernel_rfl) ?_ _
    go_wp2
    go_ret
    exact hres'.out
theorem rcut_size_1 (x : Nat) (s : St) (m : Int) (w : World) (h : Rk w x s) (hf : s.fine) (ho : s.off = false) (hbad : m < 0 ∨ ((s.l 1).length : Int) < m) :
    Calls Try.prog 23 #[.pointer (some ⟨x, 0, none⟩), .int .i64 1, .int .i64 m] w (RTells (cutO s 1 m) x w) := by
  have hck := rcheck_any x s 1 w h
  rw [ho, if_neg (by simp), if_neg (by simp)] at hck
  have hl : (s.l 1).length ≤ 4194304 := by have := hf; unfold St.fine at this; omega
  have hr : cutO s 1 m = (1, s) := by simp [cutO, ho, hbad]
  have hres : RTells (cutO s 1 m) x w (.returned (.int .i64 1)) w := by rw [hr]; exact ⟨rfl, h, BelowE.refl _ _ _⟩
  have hres' := Lib.hid hres
  have hck' := Lib.hid hck
  have k0 := Holds.cell h 1
  simp at k0
  rw [← strOfNums_size (s.l 1)] at hbad
  clear hck hr hres h hl hf
  generalize strOfNums (s.l 1) = f0 at *
  by_cases h0 : m < 0
  · clear hbad
    go_enter Try.func23, Try.ntmps23
    go_wp2_with fail
    refine hck'.out.mono ?_
    rintro e w' ⟨rfl, rfl⟩
    go_wp2
    go_ret
    exact hres'.out
  · have h1 : (f0.size : Int) < m := by omega
    clear hbad
    go_enter Try.func23, Try.ntmps23
    go_wp2_with fail
    refine hck'.out.mono ?_
    rintro e w' ⟨rfl, rfl⟩
    go_wp2
    go_ret
    exact hres'.out
set_option maxRecDepth 100000 in
theorem rcut_pay_1 (x : Nat) (s : St) (m : Int) (w : World) (h : Rk w x s) (hf : s.fine) (ho : s.off = false) (hgood : ¬ (m < 0 ∨ ((s.l 1).length : Int) < m)) :
    Calls Try.prog 23 #[.pointer (some ⟨x, 0, none⟩), .int .i64 1, .int .i64 m] w (RTells (cutO s 1 m) x w) := by
  have hck := rcheck_any x s 1 w h
  rw [ho, if_neg (by simp), if_neg (by simp)] at hck
  have hl : (s.l 1).length ≤ 4194304 := by have := hf; unfold St.fine at this; omega
  have hr : cutO s 1 m = (s.code 1, (s.after 1).with_ (if s.paid 1 = 1 then upd s.l 1 ((s.l 1).take m.toNat) else s.l)) := by simp [cutO, ho, hgood]
  have hck' := Lib.hid hck
  have k0 := Holds.cell h 1
  simp at k0
  obtain ⟨M, hM⟩ := Int.eq_ofNat_of_zero_le (show 0 ≤ m by omega)
  subst hM
  simp only [Int.toNat_natCast] at hr
  have hML : M ≤ (s.l 1).length := by omega
  have e1 : ¬ ((M : Int) < 0) := by omega
  have e2 : ¬ (((strOfNums (s.l 1)).size : Int) < (M : Int)) := by rw [strOfNums_size]; omega
  have hsl := sl Try.prog 9 Try.underlying9 (s.l 1) M hML
  have hpay' := Lib.hid (rpay_any x s 1 (by omega) hf.2.2 w h)
  unfold Pays at hpay'
  have hcell : Hid (∀ w1, Rk w1 x (s.after 1) → w1.cell? ⟨x, 1, none⟩ = some (.string (strOfNums (s.l 1))) ∧ w1.frozen? ⟨x, 1, none⟩ = false) := Lib.hid fun w1 h1 => by
    have k := Holds.cell h1 1
    rw [after_l] at k
    exact ⟨by simpa using k, Holds.free h1 1⟩
  rcases paid_1 s with ⟨hc, hp⟩ | ⟨hc, hp⟩
  · rw [hc, hp, if_pos rfl] at hr
    rw [hc, hp] at hpay'
    have hfin : Hid (∀ w1, Rk w1 x (s.after 1) → BelowE [x] w.heap.size w w1 → RTells (cutO s 1 M) x w (.returned (.int .i64 0)) ((w1.setCell ⟨x, 1, none⟩ (.string (strOfNums ((s.l 1).take M)))).drew)) := Lib.hid fun w1 h1 h2 => by
      rw [hr]
      obtain ⟨q1, q2⟩ := h1.put1 ((s.l 1).take M)
      rw [after_l] at q1
      exact ⟨rfl, q1, (h2.trans (q2.mono h2.size)).drew⟩
    clear hck hr h hl hf hgood hML
    generalize hs1 : (s.after 1) = s1 at *
    generalize strOfNums ((s.l 1).take M) = g0 at *
    generalize strOfNums (s.l 1) = f0 at *
    clear hs1 hc hp ho
    go_enter Try.func23, Try.ntmps23
    go_wp2_with fail
    refine hck'.out.mono ?_
    rintro e w' ⟨rfl, rfl⟩
    go_wp2_with fail
    refine hpay'.out.mono ?_
    rintro e w1 ⟨rfl, r1, b1⟩
    obtain ⟨m0, m1⟩ := hcell.out w1 r1
    have hfin' := Lib.hid (hfin.out w1 r1 b1)
    clear hfin hcell r1 b1 hpay'
    go_wp2
    refine wp_drawn_on (fun _ => True) (by kernel_rfl) (trivial) (fun hHeld => ?_)
    refine wpAnyH_take (i := 0) (oi := { dst := some 36, op := Go.Op.move (Go.Operand.tmp 0), type := 27, pos := "ref.go:72", after := #[], guard := none }) (v := ?v83) rfl (by kernel_rfl) (by kernel_rfl) (by kernel_rfl) (fun _ _ _ h => h) (Or.inl ⟨by kernel_rfl, ?h83⟩) (by assumption) ?r83
    case h83 => (intro w hSw; (try dsimp only at hSw); go_simp; try with_reducible rfl)
    try simp only [Act.put, List.setIfInBounds_toArray, List.set_cons_zero, List.set_cons_succ]
    refine wpAnyH_take (i := 1) (oi := { dst := some 37, op := Go.Op.move (Go.Operand.tmp 1), type := 3, pos := "ref.go:72", after := #[], guard := none }) (v := ?v84) rfl (by kernel_rfl) (by kernel_rfl) (by kernel_rfl) (fun _ _ _ h => h) (Or.inl ⟨by kernel_rfl, ?h84⟩) (by assumption) ?r84
    case h84 => (intro w hSw; (try dsimp only at hSw); go_simp; try with_reducible rfl)
    try simp only [Act.put, List.setIfInBounds_toArray, List.set_cons_zero, List.set_cons_succ]
    refine wpAnyH_take (i := 2) (oi := { dst := some 38, op := Go.Op.move (Go.Operand.tmp 0), type := 27, pos := "ref.go:72", after := #[], guard := none }) (v := ?v85) rfl (by kernel_rfl) (by kernel_rfl) (by kernel_rfl) (fun _ _ _ h => h) (Or.inl ⟨by kernel_rfl, ?h85⟩) (by assumption) ?r85
    case h85 => (intro w hSw; (try dsimp only at hSw); go_simp; try with_reducible rfl)
    try simp only [Act.put, List.setIfInBounds_toArray, List.set_cons_zero, List.set_cons_succ]
    refine wpAnyH_take (i := 3) (oi := { dst := some 39, op := Go.Op.move (Go.Operand.tmp 1), type := 3, pos := "ref.go:72", after := #[], guard := none }) (v := ?v86) rfl (by kernel_rfl) (by kernel_rfl) (by kernel_rfl) (fun _ _ _ h => h) (Or.inl ⟨by kernel_rfl, ?h86⟩) (by assumption) ?r86
    case h86 => (intro w hSw; (try dsimp only at hSw); go_simp; try with_reducible rfl)
    try simp only [Act.put, List.setIfInBounds_toArray, List.set_cons_zero, List.set_cons_succ]
    refine wpAnyH_take (i := 4) (oi := { dst := some 40, op := Go.Op.nilCheck (Go.Operand.tmp 38), type := 0, pos := "ref.go:72", after := #[{ on := 2, ground := Go.Ground.data }], guard := none }) (v := ?v87) rfl (by kernel_rfl) (by kernel_rfl) (by kernel_rfl) (fun _ _ _ h => h) (Or.inl ⟨by kernel_rfl, ?h87⟩) (by assumption) ?r87
    case h87 => (intro w hSw; (try dsimp only at hSw); go_simp; try with_reducible rfl)
    try simp only [Act.put, List.setIfInBounds_toArray, List.set_cons_zero, List.set_cons_succ]
    refine wpAnyH_take (i := 5) (oi := { dst := some 41, op := Go.Op.fieldAddr 50 (Go.Operand.tmp 40) 0, type := 0, pos := "ref.go:72", after := #[{ on := 4, ground := Go.Ground.data }], guard := none }) (v := ?v88) rfl (by kernel_rfl) (by kernel_rfl) (by kernel_rfl) (fun _ _ _ h => h) (Or.inl ⟨by kernel_rfl, ?h88⟩) (by assumption) ?r88
    case h88 => (intro w hSw; (try dsimp only at hSw); go_simp; try with_reducible rfl)
    try simp only [Act.put, List.setIfInBounds_toArray, List.set_cons_zero, List.set_cons_succ]
    refine wpAnyH_take (i := 6) (oi := { dst := some 42, op := Go.Op.indexAddr 48 (Go.Operand.tmp 41) (Go.Operand.tmp 39), type := 0, pos := "ref.go:72", after := #[{ on := 5, ground := Go.Ground.data }, { on := 3, ground := Go.Ground.data }], guard := none }) (v := ?v89) rfl (by kernel_rfl) (by kernel_rfl) (by kernel_rfl) (fun _ _ _ h => h) (Or.inl ⟨by kernel_rfl, ?h89⟩) (by assumption) ?r89
    case h89 => (intro w hSw; (try dsimp only at hSw); go_simp; try with_reducible rfl)
    try simp only [Act.put, List.setIfInBounds_toArray, List.set_cons_zero, List.set_cons_succ]
    refine wpAnyH_take (i := 8) (oi := { dst := some 44, op := Go.Op.move (Go.Operand.tmp 2), type := 3, pos := "ref.go:72", after := #[], guard := none }) (v := ?v90) rfl (by kernel_rfl) (by kernel_rfl) (by kernel_rfl) (fun _ _ _ h => h) (Or.inl ⟨by kernel_rfl, ?h90⟩) (by assumption) ?r90
    case h90 => (intro w hSw; (try dsimp only at hSw); go_simp; try with_reducible rfl)
    try simp only [Act.put, List.setIfInBounds_toArray, List.set_cons_zero, List.set_cons_succ]
    refine wpAnyH_take (i := 10) (oi := { dst := some 46, op := Go.Op.nilCheck (Go.Operand.tmp 36), type := 0, pos := "ref.go:72", after := #[{ on := 0, ground := Go.Ground.data }], guard := none }) (v := ?v91) rfl (by kernel_rfl) (by kernel_rfl) (by kernel_rfl) (fun _ _ _ h => h) (Or.inl ⟨by kernel_rfl, ?h91⟩) (by assumption) ?r91
    case h91 => (intro w hSw; (try dsimp only at hSw); go_simp; try with_reducible rfl)
    try simp only [Act.put, List.setIfInBounds_toArray, List.set_cons_zero, List.set_cons_succ]
    refine wpAnyH_take (i := 11) (oi := { dst := some 47, op := Go.Op.fieldAddr 50 (Go.Operand.tmp 46) 0, type := 0, pos := "ref.go:72", after := #[{ on := 10, ground := Go.Ground.data }], guard := none }) (v := ?v92) rfl (by kernel_rfl) (by kernel_rfl) (by kernel_rfl) (fun _ _ _ h => h) (Or.inl ⟨by kernel_rfl, ?h92⟩) (by assumption) ?r92
    case h92 => (intro w hSw; (try dsimp only at hSw); go_simp; try with_reducible rfl)
    try simp only [Act.put, List.setIfInBounds_toArray, List.set_cons_zero, List.set_cons_succ]
    refine wpAnyH_ready (rs := [7]) (by kernel_rfl) (by simp) ?_
    refine AllReadyH.cons (o := { dst := some 43, op := Go.Op.load 9 (Go.Operand.tmp 42), type := 9, pos := "ref.go:72", after := #[{ on := 6, ground := Go.Ground.data }], guard := none }) rfl (fun K hK => ?_) AllReadyH.nil
    go_simp
    refine hK.out _ _ hHeld (fun hHeld => ?_)
    clear hK K
    try simp only [Act.put, List.setIfInBounds_toArray, List.set_cons_zero, List.set_cons_succ]
    refine wpAnyH_take (i := 9) (oi := { dst := some 45, op := Go.Op.slice 9 (Go.Operand.tmp 43) none (some (Go.Operand.tmp 44)) none, type := 9, pos := "ref.go:72", after := #[{ on := 7, ground := Go.Ground.data }, { on := 8, ground := Go.Ground.data }], guard := none }) (v := ?v93) rfl (by kernel_rfl) (by kernel_rfl) (by kernel_rfl) (fun _ _ _ h => h) (Or.inl ⟨by kernel_rfl, ?h93⟩) (by assumption) ?r93
    case h93 => (intro w hSw; (try dsimp only at hSw); go_simp; try with_reducible rfl)
    try simp only [Act.put, List.setIfInBounds_toArray, List.set_cons_zero, List.set_cons_succ]
    refine wpAnyH_take (i := 12) (oi := { dst := some 48, op := Go.Op.indexAddr 48 (Go.Operand.tmp 47) (Go.Operand.tmp 37), type := 0, pos := "ref.go:72", after := #[{ on := 11, ground := Go.Ground.data }, { on := 1, ground := Go.Ground.data }, { on := 0, ground := Go.Ground.phase }, { on := 1, ground := Go.Ground.phase }, { on := 2, ground := Go.Ground.phase }, { on := 3, ground := Go.Ground.phase }, { on := 4, ground := Go.Ground.phase }, { on := 5, ground := Go.Ground.phase }, { on := 6, ground := Go.Ground.phase }, { on := 7, ground := Go.Ground.phase }, { on := 8, ground := Go.Ground.phase }, { on := 9, ground := Go.Ground.phase }], guard := none }) (v := ?v94) rfl (by kernel_rfl) (by kernel_rfl) (by kernel_rfl) (fun _ _ _ h => h) (Or.inl ⟨by kernel_rfl, ?h94⟩) (by assumption) ?r94
    case h94 => (intro w hSw; (try dsimp only at hSw); go_simp; try with_reducible rfl)
    try simp only [Act.put, List.setIfInBounds_toArray, List.set_cons_zero, List.set_cons_succ]
    refine wpAnyH_ready (rs := [13]) (by kernel_rfl) (by simp) ?_
    refine AllReadyH.cons (o := { dst := none, op := Go.Op.store 9 (Go.Operand.tmp 48) (Go.Operand.tmp 45), type := 0, pos := "ref.go:72", after := #[{ on := 12, ground := Go.Ground.data }, { on := 9, ground := Go.Ground.data }, { on := 0, ground := Go.Ground.phase }, { on := 1, ground := Go.Ground.phase }, { on := 2, ground := Go.Ground.phase }, { on := 3, ground := Go.Ground.phase }, { on := 4, ground := Go.Ground.phase }, { on := 5, ground := Go.Ground.phase }, { on := 6, ground := Go.Ground.phase }, { on := 7, ground := Go.Ground.phase }, { on := 8, ground := Go.Ground.phase }, { on := 9, ground := Go.Ground.phase }], guard := none }) rfl (fun K hK => ?_) AllReadyH.nil
    go_simp
    refine hK.out _ _ (trivial) (fun hHeld => ?_)
    clear hK K
    try simp only [Act.put, List.setIfInBounds_toArray, List.set_cons_zero, List.set_cons_succ]
    refine wpAnyH_done (by kernel_rfl) ?_ _
    go_wp2
    go_ret
    exact hfin'.out
  · rw [hc, hp, if_neg (by simp)] at hr
    rw [hc, hp] at hpay'
    have hfin : Hid (∀ w1, Rk w1 x (s.after 1) → BelowE [x] w.heap.size w w1 → RTells (cutO s 1 M) x w (.returned (.int .i64 280)) w1) := Lib.hid fun w1 h1 h2 => by
      rw [hr]
      have : (s.after 1).with_ s.l = s.after 1 := by rw [← after_l s 1]; rfl
      rw [this]
      exact ⟨rfl, h1, h2⟩
    clear hck hr h hl hf hgood hML hsl
    generalize hs1 : (s.after 1) = s1 at *
    generalize strOfNums (s.l 1) = f0 at *
    clear hs1 hc hp ho
    go_enter Try.func23, Try.ntmps23
    go_wp2_with fail
    refine hck'.out.mono ?_
    rintro e w' ⟨rfl, rfl⟩
    go_wp2_with fail
    refine hpay'.out.mono ?_
    rintro e w1 ⟨rfl, r1, b1⟩
    have hfin' := Lib.hid (hfin.out w1 r1 b1)
    clear hfin hcell r1 b1 hpay'
    go_wp2
    go_ret
    exact hfin'.out
theorem rspoil_size_1 (x : Nat) (s : St) (m : Int) (b : List Int) (w : World) (h : Rk w x s) (hf : s.fine) (hbad : m < 0 ∨ ((s.l 1).length : Int) < m) :
    Calls Try.prog 27 #[.pointer (some ⟨x, 0, none⟩), .int .i64 1, .int .i64 m, .string (strOfNums b)] w (RTells (spoilO s 1 m b) x w) := by
  have hl : (s.l 1).length ≤ 4194304 := by have := hf; unfold St.fine at this; omega
  have hr : spoilO s 1 m b = (1, s) := by simp [spoilO, hbad]
  have hres : RTells (spoilO s 1 m b) x w (.returned (.int .i64 1)) w := by rw [hr]; exact ⟨rfl, h, BelowE.refl _ _ _⟩
  have hres' := Lib.hid hres
  have k0 := Holds.cell h 1
  simp at k0
  rw [← strOfNums_size (s.l 1)] at hbad
  clear hr hres h hl hf
  generalize strOfNums (s.l 1) = f0 at *
  by_cases h0 : m < 0
  · clear hbad
    go_enter Try.func27, Try.ntmps27
    go_wp2
    go_ret
    exact hres'.out
  · have h1 : (f0.size : Int) < m := by omega
    clear hbad
    go_enter Try.func27, Try.ntmps27
    go_wp2
    go_ret
    exact hres'.out
set_option maxRecDepth 100000 in
theorem rspoil_put_1 (x : Nat) (s : St) (m : Int) (b : List Int) (w : World) (h : Rk w x s) (hf : s.fine) (hb : b.length ≤ 50000000) (hgood : ¬ (m < 0 ∨ ((s.l 1).length : Int) < m)) :
    Calls Try.prog 27 #[.pointer (some ⟨x, 0, none⟩), .int .i64 1, .int .i64 m, .string (strOfNums b)] w (RTells (spoilO s 1 m b) x w) := by
  have hl : (s.l 1).length ≤ 4194304 := by have := hf; unfold St.fine at this; omega
  have k0 := Holds.cell h 1
  have z0 := Holds.free h 1
  simp at k0
  obtain ⟨M, hM⟩ := Int.eq_ofNat_of_zero_le (show 0 ≤ m by omega)
  subst hM
  have hML : M ≤ (s.l 1).length := by omega
  have e1 : ¬ ((M : Int) < 0) := by omega
  have e2 : ¬ (((strOfNums (s.l 1)).size : Int) < (M : Int)) := by rw [strOfNums_size]; omega
  have e3 : (M : Int) ≤ 4194304 := by omega
  have e4 : ((strOfNums b).size : Int) ≤ 50000000 := by rw [strOfNums_size]; omega
  have hsl := sl Try.prog 9 Try.underlying9 (s.l 1) M hML
  by_cases hfull : 4194304 < (M : Int) + (b.length : Int)
  · have hr : spoilO s 1 M b = (2, s) := by
      simp only [spoilO]
      have hg2 : ¬ ((M : Int) < 0 ∨ ((s.l (Int.toNat 1)).length : Int) < (M : Int)) := hgood
      rw [if_neg (by simp), if_neg hg2, if_pos hfull]
    have hres : RTells (spoilO s 1 M b) x w (.returned (.int .i64 2)) w := by rw [hr]; exact ⟨rfl, h, BelowE.refl _ _ _⟩
    have hres' := Lib.hid hres
    have e5 : (4194304 : Int) < (M : Int) + ((strOfNums b).size : Int) := by rw [strOfNums_size]; exact hfull
    clear hr hres h hl hf hgood hML hfull hsl hb
    generalize strOfNums (s.l 1) = f0 at *
    go_enter Try.func27, Try.ntmps27
    go_wp2
    go_ret
    exact hres'.out
  · have hr : spoilO s 1 M b = (0, s.with_ (upd s.l 1 ((s.l 1).take M ++ b))) := by
      simp only [spoilO]
      have hg2 : ¬ ((M : Int) < 0 ∨ ((s.l (Int.toNat 1)).length : Int) < (M : Int)) := hgood
      rw [if_neg (by simp), if_neg hg2, if_neg hfull]
      rfl
    have hres : RTells (spoilO s 1 M b) x w (.returned (.int .i64 0)) ((w.setCell ⟨x, 1, none⟩ (.string (strOfNums ((s.l 1).take M) ++ strOfNums b))).drew) := by
      rw [hr, ← str_append]
      obtain ⟨q1, q2⟩ := h.put1 ((s.l 1).take M ++ b)
      exact ⟨rfl, q1, q2.drew⟩
    have hres' := Lib.hid hres
    have e5 : ¬ (4194304 : Int) < (M : Int) + ((strOfNums b).size : Int) := by rw [strOfNums_size]; exact hfull
    have e6 : ¬ 9223372036854775807 < (strOfNums ((s.l 1).take M)).size + (strOfNums b).size := by rw [strOfNums_size, strOfNums_size]; simp; omega
    clear hr hres h hl hf hgood hML hfull hb
    generalize strOfNums ((s.l 1).take M) = g0 at *
    generalize strOfNums (s.l 1) = f0 at *
    go_enter Try.func27, Try.ntmps27
    go_wp2
    refine wp_drawn_on (fun _ => True) (by kernel_rfl) (trivial) (fun hHeld => ?_)
    refine wpAnyH_take (i := 0) (oi := { dst := some 35, op := Go.Op.move (Go.Operand.tmp 0), type := 27, pos := "ref.go:110", after := #[], guard := none }) (v := ?v95) rfl (by kernel_rfl) (by kernel_rfl) (by kernel_rfl) (fun _ _ _ h => h) (Or.inl ⟨by kernel_rfl, ?h95⟩) (by assumption) ?r95
    case h95 => (intro w hSw; (try dsimp only at hSw); go_simp; try with_reducible rfl)
    try simp only [Act.put, List.setIfInBounds_toArray, List.set_cons_zero, List.set_cons_succ]
    refine wpAnyH_take (i := 1) (oi := { dst := some 36, op := Go.Op.move (Go.Operand.tmp 1), type := 3, pos := "ref.go:110", after := #[], guard := none }) (v := ?v96) rfl (by kernel_rfl) (by kernel_rfl) (by kernel_rfl) (fun _ _ _ h => h) (Or.inl ⟨by kernel_rfl, ?h96⟩) (by assumption) ?r96
    case h96 => (intro w hSw; (try dsimp only at hSw); go_simp; try with_reducible rfl)
    try simp only [Act.put, List.setIfInBounds_toArray, List.set_cons_zero, List.set_cons_succ]
    refine wpAnyH_take (i := 2) (oi := { dst := some 37, op := Go.Op.move (Go.Operand.tmp 0), type := 27, pos := "ref.go:110", after := #[], guard := none }) (v := ?v97) rfl (by kernel_rfl) (by kernel_rfl) (by kernel_rfl) (fun _ _ _ h => h) (Or.inl ⟨by kernel_rfl, ?h97⟩) (by assumption) ?r97
    case h97 => (intro w hSw; (try dsimp only at hSw); go_simp; try with_reducible rfl)
    try simp only [Act.put, List.setIfInBounds_toArray, List.set_cons_zero, List.set_cons_succ]
    refine wpAnyH_take (i := 3) (oi := { dst := some 38, op := Go.Op.move (Go.Operand.tmp 1), type := 3, pos := "ref.go:110", after := #[], guard := none }) (v := ?v98) rfl (by kernel_rfl) (by kernel_rfl) (by kernel_rfl) (fun _ _ _ h => h) (Or.inl ⟨by kernel_rfl, ?h98⟩) (by assumption) ?r98
    case h98 => (intro w hSw; (try dsimp only at hSw); go_simp; try with_reducible rfl)
    try simp only [Act.put, List.setIfInBounds_toArray, List.set_cons_zero, List.set_cons_succ]
    refine wpAnyH_take (i := 4) (oi := { dst := some 39, op := Go.Op.nilCheck (Go.Operand.tmp 37), type := 0, pos := "ref.go:110", after := #[{ on := 2, ground := Go.Ground.data }], guard := none }) (v := ?v99) rfl (by kernel_rfl) (by kernel_rfl) (by kernel_rfl) (fun _ _ _ h => h) (Or.inl ⟨by kernel_rfl, ?h99⟩) (by assumption) ?r99
    case h99 => (intro w hSw; (try dsimp only at hSw); go_simp; try with_reducible rfl)
    try simp only [Act.put, List.setIfInBounds_toArray, List.set_cons_zero, List.set_cons_succ]
    refine wpAnyH_take (i := 5) (oi := { dst := some 40, op := Go.Op.fieldAddr 50 (Go.Operand.tmp 39) 0, type := 0, pos := "ref.go:110", after := #[{ on := 4, ground := Go.Ground.data }], guard := none }) (v := ?v100) rfl (by kernel_rfl) (by kernel_rfl) (by kernel_rfl) (fun _ _ _ h => h) (Or.inl ⟨by kernel_rfl, ?h100⟩) (by assumption) ?r100
    case h100 => (intro w hSw; (try dsimp only at hSw); go_simp; try with_reducible rfl)
    try simp only [Act.put, List.setIfInBounds_toArray, List.set_cons_zero, List.set_cons_succ]
    refine wpAnyH_take (i := 6) (oi := { dst := some 41, op := Go.Op.indexAddr 48 (Go.Operand.tmp 40) (Go.Operand.tmp 38), type := 0, pos := "ref.go:110", after := #[{ on := 5, ground := Go.Ground.data }, { on := 3, ground := Go.Ground.data }], guard := none }) (v := ?v101) rfl (by kernel_rfl) (by kernel_rfl) (by kernel_rfl) (fun _ _ _ h => h) (Or.inl ⟨by kernel_rfl, ?h101⟩) (by assumption) ?r101
    case h101 => (intro w hSw; (try dsimp only at hSw); go_simp; try with_reducible rfl)
    try simp only [Act.put, List.setIfInBounds_toArray, List.set_cons_zero, List.set_cons_succ]
    refine wpAnyH_take (i := 8) (oi := { dst := some 43, op := Go.Op.move (Go.Operand.tmp 2), type := 3, pos := "ref.go:110", after := #[], guard := none }) (v := ?v102) rfl (by kernel_rfl) (by kernel_rfl) (by kernel_rfl) (fun _ _ _ h => h) (Or.inl ⟨by kernel_rfl, ?h102⟩) (by assumption) ?r102
    case h102 => (intro w hSw; (try dsimp only at hSw); go_simp; try with_reducible rfl)
    try simp only [Act.put, List.setIfInBounds_toArray, List.set_cons_zero, List.set_cons_succ]
    refine wpAnyH_take (i := 10) (oi := { dst := some 45, op := Go.Op.move (Go.Operand.tmp 3), type := 9, pos := "ref.go:110", after := #[], guard := none }) (v := ?v103) rfl (by kernel_rfl) (by kernel_rfl) (by kernel_rfl) (fun _ _ _ h => h) (Or.inl ⟨by kernel_rfl, ?h103⟩) (by assumption) ?r103
    case h103 => (intro w hSw; (try dsimp only at hSw); go_simp; try with_reducible rfl)
    try simp only [Act.put, List.setIfInBounds_toArray, List.set_cons_zero, List.set_cons_succ]
    refine wpAnyH_take (i := 12) (oi := { dst := some 47, op := Go.Op.nilCheck (Go.Operand.tmp 35), type := 0, pos := "ref.go:110", after := #[{ on := 0, ground := Go.Ground.data }], guard := none }) (v := ?v104) rfl (by kernel_rfl) (by kernel_rfl) (by kernel_rfl) (fun _ _ _ h => h) (Or.inl ⟨by kernel_rfl, ?h104⟩) (by assumption) ?r104
    case h104 => (intro w hSw; (try dsimp only at hSw); go_simp; try with_reducible rfl)
    try simp only [Act.put, List.setIfInBounds_toArray, List.set_cons_zero, List.set_cons_succ]
    refine wpAnyH_take (i := 13) (oi := { dst := some 48, op := Go.Op.fieldAddr 50 (Go.Operand.tmp 47) 0, type := 0, pos := "ref.go:110", after := #[{ on := 12, ground := Go.Ground.data }], guard := none }) (v := ?v105) rfl (by kernel_rfl) (by kernel_rfl) (by kernel_rfl) (fun _ _ _ h => h) (Or.inl ⟨by kernel_rfl, ?h105⟩) (by assumption) ?r105
    case h105 => (intro w hSw; (try dsimp only at hSw); go_simp; try with_reducible rfl)
    try simp only [Act.put, List.setIfInBounds_toArray, List.set_cons_zero, List.set_cons_succ]
    refine wpAnyH_ready (rs := [7]) (by kernel_rfl) (by simp) ?_
    refine AllReadyH.cons (o := { dst := some 42, op := Go.Op.load 9 (Go.Operand.tmp 41), type := 9, pos := "ref.go:110", after := #[{ on := 6, ground := Go.Ground.data }], guard := none }) rfl (fun K hK => ?_) AllReadyH.nil
    go_simp
    refine hK.out _ _ hHeld (fun hHeld => ?_)
    clear hK K
    try simp only [Act.put, List.setIfInBounds_toArray, List.set_cons_zero, List.set_cons_succ]
    refine wpAnyH_take (i := 9) (oi := { dst := some 44, op := Go.Op.slice 9 (Go.Operand.tmp 42) none (some (Go.Operand.tmp 43)) none, type := 9, pos := "ref.go:110", after := #[{ on := 7, ground := Go.Ground.data }, { on := 8, ground := Go.Ground.data }], guard := none }) (v := ?v106) rfl (by kernel_rfl) (by kernel_rfl) (by kernel_rfl) (fun _ _ _ h => h) (Or.inl ⟨by kernel_rfl, ?h106⟩) (by assumption) ?r106
    case h106 => (intro w hSw; (try dsimp only at hSw); go_simp; try with_reducible rfl)
    try simp only [Act.put, List.setIfInBounds_toArray, List.set_cons_zero, List.set_cons_succ]
    refine wpAnyH_take (i := 11) (oi := { dst := some 46, op := Go.Op.binOp Go.BinOp.add 9 (Go.Operand.tmp 44) (Go.Operand.tmp 45) 9, type := 9, pos := "ref.go:110", after := #[{ on := 9, ground := Go.Ground.data }, { on := 10, ground := Go.Ground.data }], guard := none }) (v := ?v107) rfl (by kernel_rfl) (by kernel_rfl) (by kernel_rfl) (fun _ _ _ h => h) (Or.inl ⟨by kernel_rfl, ?h107⟩) (by assumption) ?r107
    case h107 => (intro w hSw; (try dsimp only at hSw); go_simp; try with_reducible rfl)
    try simp only [Act.put, List.setIfInBounds_toArray, List.set_cons_zero, List.set_cons_succ]
    refine wpAnyH_take (i := 14) (oi := { dst := some 49, op := Go.Op.indexAddr 48 (Go.Operand.tmp 48) (Go.Operand.tmp 36), type := 0, pos := "ref.go:110", after := #[{ on := 13, ground := Go.Ground.data }, { on := 1, ground := Go.Ground.data }, { on := 0, ground := Go.Ground.phase }, { on := 1, ground := Go.Ground.phase }, { on := 2, ground := Go.Ground.phase }, { on := 3, ground := Go.Ground.phase }, { on := 4, ground := Go.Ground.phase }, { on := 5, ground := Go.Ground.phase }, { on := 6, ground := Go.Ground.phase }, { on := 7, ground := Go.Ground.phase }, { on := 8, ground := Go.Ground.phase }, { on := 9, ground := Go.Ground.phase }, { on := 10, ground := Go.Ground.phase }, { on := 11, ground := Go.Ground.phase }], guard := none }) (v := ?v108) rfl (by kernel_rfl) (by kernel_rfl) (by kernel_rfl) (fun _ _ _ h => h) (Or.inl ⟨by kernel_rfl, ?h108⟩) (by assumption) ?r108
    case h108 => (intro w hSw; (try dsimp only at hSw); go_simp; try with_reducible rfl)
    try simp only [Act.put, List.setIfInBounds_toArray, List.set_cons_zero, List.set_cons_succ]
    refine wpAnyH_ready (rs := [15]) (by kernel_rfl) (by simp) ?_
    refine AllReadyH.cons (o := { dst := none, op := Go.Op.store 9 (Go.Operand.tmp 49) (Go.Operand.tmp 46), type := 0, pos := "ref.go:110", after := #[{ on := 14, ground := Go.Ground.data }, { on := 11, ground := Go.Ground.data }, { on := 0, ground := Go.Ground.phase }, { on := 1, ground := Go.Ground.phase }, { on := 2, ground := Go.Ground.phase }, { on := 3, ground := Go.Ground.phase }, { on := 4, ground := Go.Ground.phase }, { on := 5, ground := Go.Ground.phase }, { on := 6, ground := Go.Ground.phase }, { on := 7, ground := Go.Ground.phase }, { on := 8, ground := Go.Ground.phase }, { on := 9, ground := Go.Ground.phase }, { on := 10, ground := Go.Ground.phase }, { on := 11, ground := Go.Ground.phase }], guard := none }) rfl (fun K hK => ?_) AllReadyH.nil
    go_simp
    refine hK.out _ _ (trivial) (fun hHeld => ?_)
    clear hK K
    try simp only [Act.put, List.setIfInBounds_toArray, List.set_cons_zero, List.set_cons_succ]
    refine wpAnyH_done (by kernel_rfl) ?_ _
    go_wp2
    go_ret
    exact hres'.out
theorem rspoil_bad (x : Nat) (s : St) (n m : Int) (b : List Int) (w : World) (h : Rk w x s) (hn : n ≠ 0 ∧ n ≠ 1) :
    Calls Try.prog 27 #[.pointer (some ⟨x, 0, none⟩), .int .i64 n, .int .i64 m, .string (strOfNums b)] w (RTells (spoilO s n m b) x w) := by
  have hr : spoilO s n m b = (1, s) := by simp [spoilO, hn]
  have hres : RTells (spoilO s n m b) x w (.returned (.int .i64 1)) w := by rw [hr]; exact ⟨rfl, h, BelowE.refl _ _ _⟩
  have hres' := Lib.hid hres
  have q0 : (n != 0) = true := by simpa using hn.1
  have q1 : (n != 1) = true := by simpa using hn.2
  clear hr hres h
  go_enter Try.func27, Try.ntmps27
  go_wp2
  go_ret
  exact hres'.out
theorem rwrite_any (x : Nat) (s : St) (n : Int) (b : List Int) (w : World) (h : Rk w x s) (hf : s.fine) (hb : b.length ≤ 50000000) :
    Calls Try.prog 21 #[.pointer (some ⟨x, 0, none⟩), .int .i64 n, .string (strOfNums b)] w (RTells (writeO s n b) x w) := by
  cases ho : s.off
  · by_cases hn : n ≠ 0 ∧ n ≠ 1
    · exact rwrite_bad x s n b w h ho hn
    · have : n = 0 ∨ n = 1 := by omega
      rcases this with rfl | rfl
      · by_cases hfull : 4194304 < (s.l 0).length + b.length
        · exact rwrite_full_0 x s b w h hf hb ho hfull
        · exact rwrite_pay_0 x s b w h hf hb ho hfull
      · by_cases hfull : 4194304 < (s.l 1).length + b.length
        · exact rwrite_full_1 x s b w h hf hb ho hfull
        · exact rwrite_pay_1 x s b w h hf hb ho hfull
  · exact rwrite_off x s n b w h ho
theorem rcut_any (x : Nat) (s : St) (n m : Int) (w : World) (h : Rk w x s) (hf : s.fine) :
    Calls Try.prog 23 #[.pointer (some ⟨x, 0, none⟩), .int .i64 n, .int .i64 m] w (RTells (cutO s n m) x w) := by
  cases ho : s.off
  · by_cases hn : n ≠ 0 ∧ n ≠ 1
    · exact rcut_bad x s n m w h ho hn
    · have : n = 0 ∨ n = 1 := by omega
      rcases this with rfl | rfl
      · by_cases hbad : m < 0 ∨ ((s.l 0).length : Int) < m
        · exact rcut_size_0 x s m w h hf ho hbad
        · exact rcut_pay_0 x s m w h hf ho hbad
      · by_cases hbad : m < 0 ∨ ((s.l 1).length : Int) < m
        · exact rcut_size_1 x s m w h hf ho hbad
        · exact rcut_pay_1 x s m w h hf ho hbad
  · exact rcut_off x s n m w h ho
theorem rclear_any (x : Nat) (s : St) (n : Int) (w : World) (h : Rk w x s) (hf : s.fine) :
    Calls Try.prog 22 #[.pointer (some ⟨x, 0, none⟩), .int .i64 n] w (RTells (cutO s n 0) x w) := by
  have hc := Lib.hid (rcut_any x s n 0 w h hf)
  clear h hf
  go_enter Try.func22, Try.ntmps22
  go_wp2_with fail
  refine hc.out.mono ?_
  intro e w1 ht
  have ht' := Lib.hid ht
  obtain ⟨rfl, -⟩ := ht
  go_wp2
  go_ret
  exact ht'.out
theorem rspoil_any (x : Nat) (s : St) (n m : Int) (b : List Int) (w : World) (h : Rk w x s) (hf : s.fine) (hb : b.length ≤ 50000000) :
    Calls Try.prog 27 #[.pointer (some ⟨x, 0, none⟩), .int .i64 n, .int .i64 m, .string (strOfNums b)] w (RTells (spoilO s n m b) x w) := by
  by_cases hn : n ≠ 0 ∧ n ≠ 1
  · exact rspoil_bad x s n m b w h hn
  · have : n = 0 ∨ n = 1 := by omega
    rcases this with rfl | rfl
    · by_cases hbad : m < 0 ∨ ((s.l 0).length : Int) < m
      · exact rspoil_size_0 x s m b w h hf hbad
      · exact rspoil_put_0 x s m b w h hf hb hbad
    · by_cases hbad : m < 0 ∨ ((s.l 1).length : Int) < m
      · exact rspoil_size_1 x s m b w h hf hbad
      · exact rspoil_put_1 x s m b w h hf hb hbad
end Go.Proofs.Ytjhakmpinloioaa
