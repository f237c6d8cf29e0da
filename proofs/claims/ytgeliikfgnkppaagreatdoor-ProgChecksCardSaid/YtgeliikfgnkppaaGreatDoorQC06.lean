/-
  Words and walks under the law's proof.
-/
import Derived.Test.YtgeliikfgnkppaaGreatDoorQC05
namespace Go.Proofs.YtgeliikfgnkppaaGreatDoor
open Go.RowKit
set_option linter.unusedVariables false
set_option linter.unusedSimpArgs false
theorem ptl_iff (s t : ByteArray) : s.toList = t.toList ↔ s = t := by
  rw [ByteArray.toList_eq, ByteArray.toList_eq]
  exact ⟨fun h => ByteArray.ext (Array.toList_inj.1 h), fun h => by rw [h]⟩
def spotEq (a b : SpotD) : Bool := decide (a.fn = b.fn) && (decide (a.file = b.file) && decide (a.line = b.line))
def edgeEq (a b : EdgeD) : Bool := decide (a.frm = b.frm) && (decide (a.dst = b.dst) && (decide (a.k = b.k) && (decide (a.x = b.x) && (decide (a.y = b.y) && (decide (a.c = b.c) && decide (a.d = b.d))))))
def listEq {α : Type} (q : α → α → Bool) (d : α) (l r : List α) : Bool := decide (l.length = r.length) && (List.range l.length).all fun i => q (l.getD i d) (r.getD i d)
theorem listEq_no {α : Type} {q : α → α → Bool} {d : α} {l r : List α} {k : Nat} (hk : k < l.length) (h : q (l.getD k d) (r.getD k d) = false) : listEq q d l r = false := by
  unfold listEq
  rw [show (List.range l.length).all (fun i => q (l.getD i d) (r.getD i d)) = false by rw [List.all_eq_false]; exact ⟨k, List.mem_range.2 hk, by rw [h]; simp⟩, Bool.and_false]
theorem listEq_len {α : Type} {q : α → α → Bool} {d : α} {l r : List α} (h : l.length ≠ r.length) : listEq q d l r = false := by
  unfold listEq; rw [decide_eq_false h, Bool.false_and]
theorem listEq_yes {α : Type} {q : α → α → Bool} {d : α} {l r : List α} (hl : l.length = r.length) (h : ∀ t, t < l.length → q (l.getD t d) (r.getD t d) = true) : listEq q d l r = true := by
  unfold listEq
  rw [decide_eq_true hl, Bool.true_and, List.all_eq_true]
  exact fun t ht => h t (List.mem_range.1 ht)
theorem listEq_refl {α : Type} {q : α → α → Bool} {d : α} (hq : ∀ x, q x x = true) (l : List α) : listEq q d l l = true := listEq_yes rfl (fun t _ => hq _)
theorem spotEq_refl (x : SpotD) : spotEq x x = true := by simp [spotEq]
theorem edgeEq_refl (x : EdgeD) : edgeEq x x = true := by simp [edgeEq]
def sameP (A B : PD) : Bool := decide (A.nm = B.nm) && (decide (A.vars = B.vars) && (listEq spotEq spot0 A.spots B.spots && listEq edgeEq edge0 A.edges B.edges))
theorem sameP_refl (A : PD) : sameP A A = true := by unfold sameP; rw [listEq_refl spotEq_refl, listEq_refl edgeEq_refl]; simp
set_option maxRecDepth 100000 in
set_option maxHeartbeats 8000000 in
theorem spotsEq_any (a1 a2 : Option Addr) (n1 n2 c1 c2 : Nat) (l1 l2 : List SpotD) (w : World) (h1 : RO spotC w a1 n1 c1 l1) (h2 : RO spotC w a2 n2 c2 l2) : Calls Tryz.prog 37 #[.slice a1 n1 c1, .slice a2 n2 c2] w (DrawnB (.bool (listEq spotEq spot0 l1 l2)) w) := by
  have hl1 := Lib.hid h1.len
  have hl2 := Lib.hid h2.len
  have T1 := Lib.hid h1
  have T2 := Lib.hid h2
  have hm1 := h1.max'
  have hm2 := h2.max'
  have hm1i : (n1 : Int) ≤ 9223372036854775807 := by omega
  clear h1 h2
  by_cases hne : n1 = n2
  · have e0' : ((n1 : Int) != (n2 : Int)) = false := by simp; omega
    have e0n : (n1 != n2) = false := by simpa using hne
    have hne' := Lib.hid hne
    have hno := Lib.hid (fun k hk h => listEq_no (q := spotEq) (d := spot0) (l := l1) (r := l2) (k := k) hk h)
    have hyes := Lib.hid (fun h => listEq_yes (q := spotEq) (d := spot0) (l := l1) (r := l2) (by rw [← hl1.out, ← hl2.out]; exact hne) h)
    clear hne
    generalize listEq spotEq spot0 l1 l2 = R at *
    go_enter Tryz.func37, Tryz.ntmps37
    go_wp2
    go_loopw [13] (fun x wr => ∃ k m : Nat, k ≤ n1 ∧ x = .int .i64 k ∧ Hid (∀ t, t < k → spotEq (l1.getD t spot0) (l2.getD t spot0) = true) ∧ wr = w.drewN m) (fun x _ => n1 - (intOf x).toNat)
    case atStart => exact ⟨0, 0, by omega, rfl, Lib.hid (fun t ht => by omega), rfl⟩
    case round =>
      obtain ⟨k, m, hk, rfl, hal, rfl⟩ := hrel
      by_cases hlt : k < n1
      · have hki : (k : Int) < (n1 : Int) := by omega
        have hk2 : k < n2 := by have := hne'.out; omega
        have hki2 : (k : Int) < (n2 : Int) := by omega
        obtain ⟨b1, o1, rfl, -, x0, x1, x2⟩ := spots_at T1.out hlt
        obtain ⟨b2, o2, rfl, -, y0, y1, y2⟩ := spots_at T2.out hk2
        have hno' := Lib.hid (hno.out k (by rw [← hl1.out]; exact hlt))
        have hyes' : Hid (spotEq (l1.getD k spot0) (l2.getD k spot0) = true → ∀ t, t < k + 1 → spotEq (l1.getD t spot0) (l2.getD t spot0) = true) := Lib.hid (fun h t ht => by
          by_cases e : t = k
          · rw [e]; exact h
          · exact hal.out t (by omega))
        obtain ⟨f01, f11, l21, hs1⟩ : ∃ f01 f11 l21, l1.getD k spot0 = (⟨f01, f11, l21⟩ : SpotD) := ⟨_, _, _, rfl⟩
        obtain ⟨f02, f12, l22, hs2⟩ : ∃ f02 f12 l22, l2.getD k spot0 = (⟨f02, f12, l22⟩ : SpotD) := ⟨_, _, _, rfl⟩
        rw [hs1] at x0 x1 x2 hno' hyes'
        rw [hs2] at y0 y1 y2 hno' hyes'
        dsimp only at x0 x1 x2 y0 y1 y2
        clear hs1 hs2 hal hno
        have g0 : ∀ W, (∃ j, W = w.drewN j) → W.cell? ⟨b1, o1 + k * 3, none⟩ = some (.string f01) := fun W hW => by obtain ⟨j, rfl⟩ := hW; exact x0
        have g1 : ∀ W, (∃ j, W = w.drewN j) → W.cell? ⟨b1, o1 + k * 3 + 1, none⟩ = some (.string f11) := fun W hW => by obtain ⟨j, rfl⟩ := hW; exact x1
        have g2 : ∀ W, (∃ j, W = w.drewN j) → W.cell? ⟨b1, o1 + k * 3 + 2, none⟩ = some (.int .i64 l21) := fun W hW => by obtain ⟨j, rfl⟩ := hW; exact x2
        have e0 : ∀ W, (∃ j, W = w.drewN j) → W.cell? ⟨b2, o2 + k * 3, none⟩ = some (.string f02) := fun W hW => by obtain ⟨j, rfl⟩ := hW; exact y0
        have e1 : ∀ W, (∃ j, W = w.drewN j) → W.cell? ⟨b2, o2 + k * 3 + 1, none⟩ = some (.string f12) := fun W hW => by obtain ⟨j, rfl⟩ := hW; exact y1
        have e2 : ∀ W, (∃ j, W = w.drewN j) → W.cell? ⟨b2, o2 + k * 3 + 2, none⟩ = some (.int .i64 l22) := fun W hW => by obtain ⟨j, rfl⟩ := hW; exact y2
        clear x0 x1 x2 y0 y1 y2
        by_cases hq : f01 = f02 ∧ f11 = f12 ∧ l21 = l22
        · have hg := Lib.hid (hyes'.out (by simp [hq, spotEq]))
          obtain ⟨rfl, rfl, rfl⟩ := hq
          clear hyes' hno'
          go_wp2
          refine wp_drawn_on (fun W => ∃ j, W = w.drewN j) (by kernel_rfl) (⟨m + 1, rfl⟩) (fun hHeld => ?_)
          refine wpAnyH_take (i := 0) (oi := { dst := some 16, op := Go.Op.move (Go.Operand.tmp 0), type := 23, pos := "slices.go:25", after := #[], guard := none }) (v := ?v1) rfl (by kernel_rfl) (by kernel_rfl) (by kernel_rfl) (fun _ _ _ h => h) (Or.inl ⟨by kernel_rfl, ?h1⟩) (by assumption) ?r1
          case h1 => (intro w hSw; (try dsimp only at hSw); go_simp; try with_reducible rfl)
          try simp only [Act.put, List.setIfInBounds_toArray, List.set_cons_zero, List.set_cons_succ]
          refine wpAnyH_take (i := 1) (oi := { dst := some 17, op := Go.Op.move (Go.Operand.tmp 5), type := 3, pos := "slices.go:25", after := #[], guard := none }) (v := ?v2) rfl (by kernel_rfl) (by kernel_rfl) (by kernel_rfl) (fun _ _ _ h => h) (Or.inl ⟨by kernel_rfl, ?h2⟩) (by assumption) ?r2
          case h2 => (intro w hSw; (try dsimp only at hSw); go_simp; try with_reducible rfl)
          try simp only [Act.put, List.setIfInBounds_toArray, List.set_cons_zero, List.set_cons_succ]
          refine wpAnyH_take (i := 2) (oi := { dst := some 18, op := Go.Op.indexAddr 23 (Go.Operand.tmp 16) (Go.Operand.tmp 17), type := 0, pos := "slices.go:25", after := #[{ on := 0, ground := Go.Ground.data }, { on := 1, ground := Go.Ground.data }], guard := none }) (v := ?v3) rfl (by kernel_rfl) (by kernel_rfl) (by kernel_rfl) (fun _ _ _ h => h) (Or.inl ⟨by kernel_rfl, ?h3⟩) (by assumption) ?r3
          case h3 => (intro w hSw; (try dsimp only at hSw); go_simp; try with_reducible rfl)
          try simp only [Act.put, List.setIfInBounds_toArray, List.set_cons_zero, List.set_cons_succ]
          refine wpAnyH_take (i := 3) (oi := { dst := some 19, op := Go.Op.load 54 (Go.Operand.tmp 18), type := 54, pos := "slices.go:25", after := #[{ on := 2, ground := Go.Ground.data }], guard := none }) (v := ?v4) rfl (by kernel_rfl) (by kernel_rfl) (by kernel_rfl) (fun _ _ _ h => h) (Or.inl ⟨by kernel_rfl, ?h4⟩) (by assumption) ?r4
          case h4 => (intro w hSw; (try dsimp only at hSw); go_simp; try with_reducible rfl)
          try simp only [Act.put, List.setIfInBounds_toArray, List.set_cons_zero, List.set_cons_succ]
          refine wpAnyH_take (i := 4) (oi := { dst := some 20, op := Go.Op.move (Go.Operand.tmp 1), type := 23, pos := "slices.go:25", after := #[], guard := none }) (v := ?v5) rfl (by kernel_rfl) (by kernel_rfl) (by kernel_rfl) (fun _ _ _ h => h) (Or.inl ⟨by kernel_rfl, ?h5⟩) (by assumption) ?r5
          case h5 => (intro w hSw; (try dsimp only at hSw); go_simp; try with_reducible rfl)
          try simp only [Act.put, List.setIfInBounds_toArray, List.set_cons_zero, List.set_cons_succ]
          refine wpAnyH_take (i := 5) (oi := { dst := some 21, op := Go.Op.move (Go.Operand.tmp 5), type := 3, pos := "slices.go:25", after := #[], guard := none }) (v := ?v6) rfl (by kernel_rfl) (by kernel_rfl) (by kernel_rfl) (fun _ _ _ h => h) (Or.inl ⟨by kernel_rfl, ?h6⟩) (by assumption) ?r6
          case h6 => (intro w hSw; (try dsimp only at hSw); go_simp; try with_reducible rfl)
          try simp only [Act.put, List.setIfInBounds_toArray, List.set_cons_zero, List.set_cons_succ]
          refine wpAnyH_take (i := 6) (oi := { dst := some 22, op := Go.Op.indexAddr 23 (Go.Operand.tmp 20) (Go.Operand.tmp 21), type := 0, pos := "slices.go:25", after := #[{ on := 4, ground := Go.Ground.data }, { on := 5, ground := Go.Ground.data }], guard := none }) (v := ?v7) rfl (by kernel_rfl) (by kernel_rfl) (by kernel_rfl) (fun _ _ _ h => h) (Or.inl ⟨by kernel_rfl, ?h7⟩) (by assumption) ?r7
          case h7 => (intro w hSw; (try dsimp only at hSw); go_simp; try with_reducible rfl)
          try simp only [Act.put, List.setIfInBounds_toArray, List.set_cons_zero, List.set_cons_succ]
          refine wpAnyH_take (i := 7) (oi := { dst := some 23, op := Go.Op.load 54 (Go.Operand.tmp 22), type := 54, pos := "slices.go:25", after := #[{ on := 6, ground := Go.Ground.data }], guard := none }) (v := ?v8) rfl (by kernel_rfl) (by kernel_rfl) (by kernel_rfl) (fun _ _ _ h => h) (Or.inl ⟨by kernel_rfl, ?h8⟩) (by assumption) ?r8
          case h8 => (intro w hSw; (try dsimp only at hSw); go_simp; try with_reducible rfl)
          try simp only [Act.put, List.setIfInBounds_toArray, List.set_cons_zero, List.set_cons_succ]
          refine wpAnyH_take (i := 8) (oi := { dst := some 24, op := Go.Op.binOp Go.BinOp.neq 54 (Go.Operand.tmp 19) (Go.Operand.tmp 23) 54, type := 4, pos := "slices.go:25", after := #[{ on := 3, ground := Go.Ground.data }, { on := 7, ground := Go.Ground.data }], guard := none }) (v := ?v9) rfl (by kernel_rfl) (by kernel_rfl) (by kernel_rfl) (fun _ _ _ h => h) (Or.inl ⟨by kernel_rfl, ?h9⟩) (by assumption) ?r9
          case h9 => (intro w hSw; (try dsimp only at hSw); refine Eq.trans (b := Result.ok (Next.value (.bool false)) w) (by go_simp; try simp [ptxt_eq]) ?_; with_reducible rfl)
          try simp only [Act.put, List.setIfInBounds_toArray, List.set_cons_zero, List.set_cons_succ]
          refine wpAnyH_done (by kernel_rfl) ?_ _
          clear g0 e0 g1 e1 g2 e2
          go_wp2
          go_roundw
          case rel => exact ⟨k + 1, m + 1, by omega, by go_num, hg, rfl⟩
          case measure => simp [intOf]; omega
        · have hf := Lib.hid (hno'.out (by cases hx : spotEq (⟨f01, f11, l21⟩ : SpotD) ⟨f02, f12, l22⟩ with | false => rfl | true => exact absurd (by simpa [spotEq] using hx) hq))
          clear hyes' hno'
          go_wp2
          refine wp_drawn_on (fun W => ∃ j, W = w.drewN j) (by kernel_rfl) (⟨m + 1, rfl⟩) (fun hHeld => ?_)
          refine wpAnyH_take (i := 0) (oi := { dst := some 16, op := Go.Op.move (Go.Operand.tmp 0), type := 23, pos := "slices.go:25", after := #[], guard := none }) (v := ?v10) rfl (by kernel_rfl) (by kernel_rfl) (by kernel_rfl) (fun _ _ _ h => h) (Or.inl ⟨by kernel_rfl, ?h10⟩) (by assumption) ?r10
          case h10 => (intro w hSw; (try dsimp only at hSw); go_simp; try with_reducible rfl)
          try simp only [Act.put, List.setIfInBounds_toArray, List.set_cons_zero, List.set_cons_succ]
          refine wpAnyH_take (i := 1) (oi := { dst := some 17, op := Go.Op.move (Go.Operand.tmp 5), type := 3, pos := "slices.go:25", after := #[], guard := none }) (v := ?v11) rfl (by kernel_rfl) (by kernel_rfl) (by kernel_rfl) (fun _ _ _ h => h) (Or.inl ⟨by kernel_rfl, ?h11⟩) (by assumption) ?r11
          case h11 => (intro w hSw; (try dsimp only at hSw); go_simp; try with_reducible rfl)
          try simp only [Act.put, List.setIfInBounds_toArray, List.set_cons_zero, List.set_cons_succ]
          refine wpAnyH_take (i := 2) (oi := { dst := some 18, op := Go.Op.indexAddr 23 (Go.Operand.tmp 16) (Go.Operand.tmp 17), type := 0, pos := "slices.go:25", after := #[{ on := 0, ground := Go.Ground.data }, { on := 1, ground := Go.Ground.data }], guard := none }) (v := ?v12) rfl (by kernel_rfl) (by kernel_rfl) (by kernel_rfl) (fun _ _ _ h => h) (Or.inl ⟨by kernel_rfl, ?h12⟩) (by assumption) ?r12
          case h12 => (intro w hSw; (try dsimp only at hSw); go_simp; try with_reducible rfl)
          try simp only [Act.put, List.setIfInBounds_toArray, List.set_cons_zero, List.set_cons_succ]
          refine wpAnyH_take (i := 3) (oi := { dst := some 19, op := Go.Op.load 54 (Go.Operand.tmp 18), type := 54, pos := "slices.go:25", after := #[{ on := 2, ground := Go.Ground.data }], guard := none }) (v := ?v13) rfl (by kernel_rfl) (by kernel_rfl) (by kernel_rfl) (fun _ _ _ h => h) (Or.inl ⟨by kernel_rfl, ?h13⟩) (by assumption) ?r13
          case h13 => (intro w hSw; (try dsimp only at hSw); go_simp; try with_reducible rfl)
          try simp only [Act.put, List.setIfInBounds_toArray, List.set_cons_zero, List.set_cons_succ]
          refine wpAnyH_take (i := 4) (oi := { dst := some 20, op := Go.Op.move (Go.Operand.tmp 1), type := 23, pos := "slices.go:25", after := #[], guard := none }) (v := ?v14) rfl (by kernel_rfl) (by kernel_rfl) (by kernel_rfl) (fun _ _ _ h => h) (Or.inl ⟨by kernel_rfl, ?h14⟩) (by assumption) ?r14
          case h14 => (intro w hSw; (try dsimp only at hSw); go_simp; try with_reducible rfl)
          try simp only [Act.put, List.setIfInBounds_toArray, List.set_cons_zero, List.set_cons_succ]
          refine wpAnyH_take (i := 5) (oi := { dst := some 21, op := Go.Op.move (Go.Operand.tmp 5), type := 3, pos := "slices.go:25", after := #[], guard := none }) (v := ?v15) rfl (by kernel_rfl) (by kernel_rfl) (by kernel_rfl) (fun _ _ _ h => h) (Or.inl ⟨by kernel_rfl, ?h15⟩) (by assumption) ?r15
          case h15 => (intro w hSw; (try dsimp only at hSw); go_simp; try with_reducible rfl)
          try simp only [Act.put, List.setIfInBounds_toArray, List.set_cons_zero, List.set_cons_succ]
          refine wpAnyH_take (i := 6) (oi := { dst := some 22, op := Go.Op.indexAddr 23 (Go.Operand.tmp 20) (Go.Operand.tmp 21), type := 0, pos := "slices.go:25", after := #[{ on := 4, ground := Go.Ground.data }, { on := 5, ground := Go.Ground.data }], guard := none }) (v := ?v16) rfl (by kernel_rfl) (by kernel_rfl) (by kernel_rfl) (fun _ _ _ h => h) (Or.inl ⟨by kernel_rfl, ?h16⟩) (by assumption) ?r16
          case h16 => (intro w hSw; (try dsimp only at hSw); go_simp; try with_reducible rfl)
          try simp only [Act.put, List.setIfInBounds_toArray, List.set_cons_zero, List.set_cons_succ]
          refine wpAnyH_take (i := 7) (oi := { dst := some 23, op := Go.Op.load 54 (Go.Operand.tmp 22), type := 54, pos := "slices.go:25", after := #[{ on := 6, ground := Go.Ground.data }], guard := none }) (v := ?v17) rfl (by kernel_rfl) (by kernel_rfl) (by kernel_rfl) (fun _ _ _ h => h) (Or.inl ⟨by kernel_rfl, ?h17⟩) (by assumption) ?r17
          case h17 => (intro w hSw; (try dsimp only at hSw); go_simp; try with_reducible rfl)
          try simp only [Act.put, List.setIfInBounds_toArray, List.set_cons_zero, List.set_cons_succ]
          refine wpAnyH_take (i := 8) (oi := { dst := some 24, op := Go.Op.binOp Go.BinOp.neq 54 (Go.Operand.tmp 19) (Go.Operand.tmp 23) 54, type := 4, pos := "slices.go:25", after := #[{ on := 3, ground := Go.Ground.data }, { on := 7, ground := Go.Ground.data }], guard := none }) (v := ?v18) rfl (by kernel_rfl) (by kernel_rfl) (by kernel_rfl) (fun _ _ _ h => h) (Or.inl ⟨by kernel_rfl, ?h18⟩) (by assumption) ?r18
          case h18 => (intro w hSw; (try dsimp only at hSw); refine Eq.trans (b := Result.ok (Next.value (.bool true)) w) (by go_simp; by_cases h0 : f01 = f02 <;> by_cases h1 : f11 = f12 <;> by_cases h2 : l21 = l22 <;> simp_all [ptxt_eq, ptl_iff]) ?_; with_reducible rfl)
          try simp only [Act.put, List.setIfInBounds_toArray, List.set_cons_zero, List.set_cons_succ]
          refine wpAnyH_done (by kernel_rfl) ?_ _
          clear g0 e0 g1 e1 g2 e2
          go_wp2
          go_ret
          exact ⟨ret_bool hf.out.symm, m + 1, rfl⟩
      · have hki : ¬ (k : Int) < (n1 : Int) := by omega
        have hf := Lib.hid (hyes.out (fun t ht => hal.out t (by rw [← hl1.out] at ht; omega)))
        clear hyes hno hal
        go_wp2
        go_ret
        exact ⟨ret_bool hf.out.symm, m, rfl⟩
  · have e0' : ((n1 : Int) != (n2 : Int)) = true := by simp; omega
    have e0n : (n1 != n2) = true := by simpa using hne
    have hR : Hid (listEq spotEq spot0 l1 l2 = false) := Lib.hid (listEq_len (by rw [← hl1.out, ← hl2.out]; exact hne))
    clear hne
    generalize listEq spotEq spot0 l1 l2 = R at *
    go_enter Tryz.func37, Tryz.ntmps37
    go_wp2
    go_ret
    exact ⟨ret_bool hR.out.symm, 0, rfl⟩
set_option maxRecDepth 100000 in
set_option maxHeartbeats 8000000 in
theorem edgesEq_any (a1 a2 : Option Addr) (n1 n2 c1 c2 : Nat) (l1 l2 : List EdgeD) (w : World) (h1 : RO edgeC w a1 n1 c1 l1) (h2 : RO edgeC w a2 n2 c2 l2) : Calls Tryz.prog 38 #[.slice a1 n1 c1, .slice a2 n2 c2] w (DrawnB (.bool (listEq edgeEq edge0 l1 l2)) w) := by
  have hl1 := Lib.hid h1.len
  have hl2 := Lib.hid h2.len
  have T1 := Lib.hid h1
  have T2 := Lib.hid h2
  have hm1 := h1.max'
  have hm2 := h2.max'
  have hm1i : (n1 : Int) ≤ 9223372036854775807 := by omega
  clear h1 h2
  by_cases hne : n1 = n2
  · have e0' : ((n1 : Int) != (n2 : Int)) = false := by simp; omega
    have e0n : (n1 != n2) = false := by simpa using hne
    have hne' := Lib.hid hne
    have hno := Lib.hid (fun k hk h => listEq_no (q := edgeEq) (d := edge0) (l := l1) (r := l2) (k := k) hk h)
    have hyes := Lib.hid (fun h => listEq_yes (q := edgeEq) (d := edge0) (l := l1) (r := l2) (by rw [← hl1.out, ← hl2.out]; exact hne) h)
    clear hne
    generalize listEq edgeEq edge0 l1 l2 = R at *
    go_enter Tryz.func38, Tryz.ntmps38
    go_wp2
    go_loopw [13] (fun x wr => ∃ k m : Nat, k ≤ n1 ∧ x = .int .i64 k ∧ Hid (∀ t, t < k → edgeEq (l1.getD t edge0) (l2.getD t edge0) = true) ∧ wr = w.drewN m) (fun x _ => n1 - (intOf x).toNat)
    case atStart => exact ⟨0, 0, by omega, rfl, Lib.hid (fun t ht => by omega), rfl⟩
    case round =>
      obtain ⟨k, m, hk, rfl, hal, rfl⟩ := hrel
      by_cases hlt : k < n1
      · have hki : (k : Int) < (n1 : Int) := by omega
        have hk2 : k < n2 := by have := hne'.out; omega
        have hki2 : (k : Int) < (n2 : Int) := by omega
        obtain ⟨b1, o1, rfl, -, x0, x1, x2, x3, x4, x5, x6⟩ := edges_at T1.out hlt
        obtain ⟨b2, o2, rfl, -, y0, y1, y2, y3, y4, y5, y6⟩ := edges_at T2.out hk2
        have hno' := Lib.hid (hno.out k (by rw [← hl1.out]; exact hlt))
        have hyes' : Hid (edgeEq (l1.getD k edge0) (l2.getD k edge0) = true → ∀ t, t < k + 1 → edgeEq (l1.getD t edge0) (l2.getD t edge0) = true) := Lib.hid (fun h t ht => by
          by_cases e : t = k
          · rw [e]; exact h
          · exact hal.out t (by omega))
        obtain ⟨f01, d11, k21, x31, y41, c51, d61, hs1⟩ : ∃ f01 d11 k21 x31 y41 c51 d61, l1.getD k edge0 = (⟨f01, d11, k21, x31, y41, c51, d61⟩ : EdgeD) := ⟨_, _, _, _, _, _, _, rfl⟩
        obtain ⟨f02, d12, k22, x32, y42, c52, d62, hs2⟩ : ∃ f02 d12 k22 x32 y42 c52 d62, l2.getD k edge0 = (⟨f02, d12, k22, x32, y42, c52, d62⟩ : EdgeD) := ⟨_, _, _, _, _, _, _, rfl⟩
        rw [hs1] at x0 x1 x2 x3 x4 x5 x6 hno' hyes'
        rw [hs2] at y0 y1 y2 y3 y4 y5 y6 hno' hyes'
        dsimp only at x0 x1 x2 x3 x4 x5 x6 y0 y1 y2 y3 y4 y5 y6
        clear hs1 hs2 hal hno
        have g0 : ∀ W, (∃ j, W = w.drewN j) → W.cell? ⟨b1, o1 + k * 7, none⟩ = some (.int .i64 f01) := fun W hW => by obtain ⟨j, rfl⟩ := hW; exact x0
        have g1 : ∀ W, (∃ j, W = w.drewN j) → W.cell? ⟨b1, o1 + k * 7 + 1, none⟩ = some (.int .i64 d11) := fun W hW => by obtain ⟨j, rfl⟩ := hW; exact x1
        have g2 : ∀ W, (∃ j, W = w.drewN j) → W.cell? ⟨b1, o1 + k * 7 + 2, none⟩ = some (.int .i64 k21) := fun W hW => by obtain ⟨j, rfl⟩ := hW; exact x2
        have g3 : ∀ W, (∃ j, W = w.drewN j) → W.cell? ⟨b1, o1 + k * 7 + 3, none⟩ = some (.int .i64 x31) := fun W hW => by obtain ⟨j, rfl⟩ := hW; exact x3
        have g4 : ∀ W, (∃ j, W = w.drewN j) → W.cell? ⟨b1, o1 + k * 7 + 4, none⟩ = some (.int .i64 y41) := fun W hW => by obtain ⟨j, rfl⟩ := hW; exact x4
        have g5 : ∀ W, (∃ j, W = w.drewN j) → W.cell? ⟨b1, o1 + k * 7 + 5, none⟩ = some (.int .i64 c51) := fun W hW => by obtain ⟨j, rfl⟩ := hW; exact x5
        have g6 : ∀ W, (∃ j, W = w.drewN j) → W.cell? ⟨b1, o1 + k * 7 + 6, none⟩ = some (.int .i64 d61) := fun W hW => by obtain ⟨j, rfl⟩ := hW; exact x6
        have e0 : ∀ W, (∃ j, W = w.drewN j) → W.cell? ⟨b2, o2 + k * 7, none⟩ = some (.int .i64 f02) := fun W hW => by obtain ⟨j, rfl⟩ := hW; exact y0
        have e1 : ∀ W, (∃ j, W = w.drewN j) → W.cell? ⟨b2, o2 + k * 7 + 1, none⟩ = some (.int .i64 d12) := fun W hW => by obtain ⟨j, rfl⟩ := hW; exact y1
        have e2 : ∀ W, (∃ j, W = w.drewN j) → W.cell? ⟨b2, o2 + k * 7 + 2, none⟩ = some (.int .i64 k22) := fun W hW => by obtain ⟨j, rfl⟩ := hW; exact y2
        have e3 : ∀ W, (∃ j, W = w.drewN j) → W.cell? ⟨b2, o2 + k * 7 + 3, none⟩ = some (.int .i64 x32) := fun W hW => by obtain ⟨j, rfl⟩ := hW; exact y3
        have e4 : ∀ W, (∃ j, W = w.drewN j) → W.cell? ⟨b2, o2 + k * 7 + 4, none⟩ = some (.int .i64 y42) := fun W hW => by obtain ⟨j, rfl⟩ := hW; exact y4
        have e5 : ∀ W, (∃ j, W = w.drewN j) → W.cell? ⟨b2, o2 + k * 7 + 5, none⟩ = some (.int .i64 c52) := fun W hW => by obtain ⟨j, rfl⟩ := hW; exact y5
        have e6 : ∀ W, (∃ j, W = w.drewN j) → W.cell? ⟨b2, o2 + k * 7 + 6, none⟩ = some (.int .i64 d62) := fun W hW => by obtain ⟨j, rfl⟩ := hW; exact y6
        clear x0 x1 x2 x3 x4 x5 x6 y0 y1 y2 y3 y4 y5 y6
        by_cases hq : f01 = f02 ∧ d11 = d12 ∧ k21 = k22 ∧ x31 = x32 ∧ y41 = y42 ∧ c51 = c52 ∧ d61 = d62
        · have hg := Lib.hid (hyes'.out (by simp [hq, edgeEq]))
          obtain ⟨rfl, rfl, rfl, rfl, rfl, rfl, rfl⟩ := hq
          clear hyes' hno'
          go_wp2
          refine wp_drawn_on (fun W => ∃ j, W = w.drewN j) (by kernel_rfl) (⟨m + 1, rfl⟩) (fun hHeld => ?_)
          refine wpAnyH_take (i := 0) (oi := { dst := some 16, op := Go.Op.move (Go.Operand.tmp 0), type := 24, pos := "slices.go:25", after := #[], guard := none }) (v := ?v19) rfl (by kernel_rfl) (by kernel_rfl) (by kernel_rfl) (fun _ _ _ h => h) (Or.inl ⟨by kernel_rfl, ?h19⟩) (by assumption) ?r19
          case h19 => (intro w hSw; (try dsimp only at hSw); go_simp; try with_reducible rfl)
          try simp only [Act.put, List.setIfInBounds_toArray, List.set_cons_zero, List.set_cons_succ]
          refine wpAnyH_take (i := 1) (oi := { dst := some 17, op := Go.Op.move (Go.Operand.tmp 5), type := 3, pos := "slices.go:25", after := #[], guard := none }) (v := ?v20) rfl (by kernel_rfl) (by kernel_rfl) (by kernel_rfl) (fun _ _ _ h => h) (Or.inl ⟨by kernel_rfl, ?h20⟩) (by assumption) ?r20
          case h20 => (intro w hSw; (try dsimp only at hSw); go_simp; try with_reducible rfl)
          try simp only [Act.put, List.setIfInBounds_toArray, List.set_cons_zero, List.set_cons_succ]
          refine wpAnyH_take (i := 2) (oi := { dst := some 18, op := Go.Op.indexAddr 24 (Go.Operand.tmp 16) (Go.Operand.tmp 17), type := 0, pos := "slices.go:25", after := #[{ on := 0, ground := Go.Ground.data }, { on := 1, ground := Go.Ground.data }], guard := none }) (v := ?v21) rfl (by kernel_rfl) (by kernel_rfl) (by kernel_rfl) (fun _ _ _ h => h) (Or.inl ⟨by kernel_rfl, ?h21⟩) (by assumption) ?r21
          case h21 => (intro w hSw; (try dsimp only at hSw); go_simp; try with_reducible rfl)
          try simp only [Act.put, List.setIfInBounds_toArray, List.set_cons_zero, List.set_cons_succ]
          refine wpAnyH_take (i := 3) (oi := { dst := some 19, op := Go.Op.load 52 (Go.Operand.tmp 18), type := 52, pos := "slices.go:25", after := #[{ on := 2, ground := Go.Ground.data }], guard := none }) (v := ?v22) rfl (by kernel_rfl) (by kernel_rfl) (by kernel_rfl) (fun _ _ _ h => h) (Or.inl ⟨by kernel_rfl, ?h22⟩) (by assumption) ?r22
          case h22 => (intro w hSw; (try dsimp only at hSw); go_simp; try with_reducible rfl)
          try simp only [Act.put, List.setIfInBounds_toArray, List.set_cons_zero, List.set_cons_succ]
          refine wpAnyH_take (i := 4) (oi := { dst := some 20, op := Go.Op.move (Go.Operand.tmp 1), type := 24, pos := "slices.go:25", after := #[], guard := none }) (v := ?v23) rfl (by kernel_rfl) (by kernel_rfl) (by kernel_rfl) (fun _ _ _ h => h) (Or.inl ⟨by kernel_rfl, ?h23⟩) (by assumption) ?r23
          case h23 => (intro w hSw; (try dsimp only at hSw); go_simp; try with_reducible rfl)
          try simp only [Act.put, List.setIfInBounds_toArray, List.set_cons_zero, List.set_cons_succ]
          refine wpAnyH_take (i := 5) (oi := { dst := some 21, op := Go.Op.move (Go.Operand.tmp 5), type := 3, pos := "slices.go:25", after := #[], guard := none }) (v := ?v24) rfl (by kernel_rfl) (by kernel_rfl) (by kernel_rfl) (fun _ _ _ h => h) (Or.inl ⟨by kernel_rfl, ?h24⟩) (by assumption) ?r24
          case h24 => (intro w hSw; (try dsimp only at hSw); go_simp; try with_reducible rfl)
          try simp only [Act.put, List.setIfInBounds_toArray, List.set_cons_zero, List.set_cons_succ]
          refine wpAnyH_take (i := 6) (oi := { dst := some 22, op := Go.Op.indexAddr 24 (Go.Operand.tmp 20) (Go.Operand.tmp 21), type := 0, pos := "slices.go:25", after := #[{ on := 4, ground := Go.Ground.data }, { on := 5, ground := Go.Ground.data }], guard := none }) (v := ?v25) rfl (by kernel_rfl) (by kernel_rfl) (by kernel_rfl) (fun _ _ _ h => h) (Or.inl ⟨by kernel_rfl, ?h25⟩) (by assumption) ?r25
          case h25 => (intro w hSw; (try dsimp only at hSw); go_simp; try with_reducible rfl)
          try simp only [Act.put, List.setIfInBounds_toArray, List.set_cons_zero, List.set_cons_succ]
          refine wpAnyH_take (i := 7) (oi := { dst := some 23, op := Go.Op.load 52 (Go.Operand.tmp 22), type := 52, pos := "slices.go:25", after := #[{ on := 6, ground := Go.Ground.data }], guard := none }) (v := ?v26) rfl (by kernel_rfl) (by kernel_rfl) (by kernel_rfl) (fun _ _ _ h => h) (Or.inl ⟨by kernel_rfl, ?h26⟩) (by assumption) ?r26
          case h26 => (intro w hSw; (try dsimp only at hSw); go_simp; try with_reducible rfl)
          try simp only [Act.put, List.setIfInBounds_toArray, List.set_cons_zero, List.set_cons_succ]
          refine wpAnyH_take (i := 8) (oi := { dst := some 24, op := Go.Op.binOp Go.BinOp.neq 52 (Go.Operand.tmp 19) (Go.Operand.tmp 23) 52, type := 4, pos := "slices.go:25", after := #[{ on := 3, ground := Go.Ground.data }, { on := 7, ground := Go.Ground.data }], guard := none }) (v := ?v27) rfl (by kernel_rfl) (by kernel_rfl) (by kernel_rfl) (fun _ _ _ h => h) (Or.inl ⟨by kernel_rfl, ?h27⟩) (by assumption) ?r27
          case h27 => (intro w hSw; (try dsimp only at hSw); refine Eq.trans (b := Result.ok (Next.value (.bool false)) w) (by go_simp; try simp [ptxt_eq]) ?_; with_reducible rfl)
          try simp only [Act.put, List.setIfInBounds_toArray, List.set_cons_zero, List.set_cons_succ]
          refine wpAnyH_done (by kernel_rfl) ?_ _
          clear g0 e0 g1 e1 g2 e2 g3 e3 g4 e4 g5 e5 g6 e6
          go_wp2
          go_roundw
          case rel => exact ⟨k + 1, m + 1, by omega, by go_num, hg, rfl⟩
          case measure => simp [intOf]; omega
        · have hf := Lib.hid (hno'.out (by cases hx : edgeEq (⟨f01, d11, k21, x31, y41, c51, d61⟩ : EdgeD) ⟨f02, d12, k22, x32, y42, c52, d62⟩ with | false => rfl | true => exact absurd (by simpa [edgeEq] using hx) hq))
          clear hyes' hno'
          go_wp2
          refine wp_drawn_on (fun W => ∃ j, W = w.drewN j) (by kernel_rfl) (⟨m + 1, rfl⟩) (fun hHeld => ?_)
          refine wpAnyH_take (i := 0) (oi := { dst := some 16, op := Go.Op.move (Go.Operand.tmp 0), type := 24, pos := "slices.go:25", after := #[], guard := none }) (v := ?v28) rfl (by kernel_rfl) (by kernel_rfl) (by kernel_rfl) (fun _ _ _ h => h) (Or.inl ⟨by kernel_rfl, ?h28⟩) (by assumption) ?r28
          case h28 => (intro w hSw; (try dsimp only at hSw); go_simp; try with_reducible rfl)
          try simp only [Act.put, List.setIfInBounds_toArray, List.set_cons_zero, List.set_cons_succ]
          refine wpAnyH_take (i := 1) (oi := { dst := some 17, op := Go.Op.move (Go.Operand.tmp 5), type := 3, pos := "slices.go:25", after := #[], guard := none }) (v := ?v29) rfl (by kernel_rfl) (by kernel_rfl) (by kernel_rfl) (fun _ _ _ h => h) (Or.inl ⟨by kernel_rfl, ?h29⟩) (by assumption) ?r29
          case h29 => (intro w hSw; (try dsimp only at hSw); go_simp; try with_reducible rfl)
          try simp only [Act.put, List.setIfInBounds_toArray, List.set_cons_zero, List.set_cons_succ]
          refine wpAnyH_take (i := 2) (oi := { dst := some 18, op := Go.Op.indexAddr 24 (Go.Operand.tmp 16) (Go.Operand.tmp 17), type := 0, pos := "slices.go:25", after := #[{ on := 0, ground := Go.Ground.data }, { on := 1, ground := Go.Ground.data }], guard := none }) (v := ?v30) rfl (by kernel_rfl) (by kernel_rfl) (by kernel_rfl) (fun _ _ _ h => h) (Or.inl ⟨by kernel_rfl, ?h30⟩) (by assumption) ?r30
          case h30 => (intro w hSw; (try dsimp only at hSw); go_simp; try with_reducible rfl)
          try simp only [Act.put, List.setIfInBounds_toArray, List.set_cons_zero, List.set_cons_succ]
          refine wpAnyH_take (i := 3) (oi := { dst := some 19, op := Go.Op.load 52 (Go.Operand.tmp 18), type := 52, pos := "slices.go:25", after := #[{ on := 2, ground := Go.Ground.data }], guard := none }) (v := ?v31) rfl (by kernel_rfl) (by kernel_rfl) (by kernel_rfl) (fun _ _ _ h => h) (Or.inl ⟨by kernel_rfl, ?h31⟩) (by assumption) ?r31
          case h31 => (intro w hSw; (try dsimp only at hSw); go_simp; try with_reducible rfl)
          try simp only [Act.put, List.setIfInBounds_toArray, List.set_cons_zero, List.set_cons_succ]
          refine wpAnyH_take (i := 4) (oi := { dst := some 20, op := Go.Op.move (Go.Operand.tmp 1), type := 24, pos := "slices.go:25", after := #[], guard := none }) (v := ?v32) rfl (by kernel_rfl) (by kernel_rfl) (by kernel_rfl) (fun _ _ _ h => h) (Or.inl ⟨by kernel_rfl, ?h32⟩) (by assumption) ?r32
          case h32 => (intro w hSw; (try dsimp only at hSw); go_simp; try with_reducible rfl)
          try simp only [Act.put, List.setIfInBounds_toArray, List.set_cons_zero, List.set_cons_succ]
          refine wpAnyH_take (i := 5) (oi := { dst := some 21, op := Go.Op.move (Go.Operand.tmp 5), type := 3, pos := "slices.go:25", after := #[], guard := none }) (v := ?v33) rfl (by kernel_rfl) (by kernel_rfl) (by kernel_rfl) (fun _ _ _ h => h) (Or.inl ⟨by kernel_rfl, ?h33⟩) (by assumption) ?r33
          case h33 => (intro w hSw; (try dsimp only at hSw); go_simp; try with_reducible rfl)
          try simp only [Act.put, List.setIfInBounds_toArray, List.set_cons_zero, List.set_cons_succ]
          refine wpAnyH_take (i := 6) (oi := { dst := some 22, op := Go.Op.indexAddr 24 (Go.Operand.tmp 20) (Go.Operand.tmp 21), type := 0, pos := "slices.go:25", after := #[{ on := 4, ground := Go.Ground.data }, { on := 5, ground := Go.Ground.data }], guard := none }) (v := ?v34) rfl (by kernel_rfl) (by kernel_rfl) (by kernel_rfl) (fun _ _ _ h => h) (Or.inl ⟨by kernel_rfl, ?h34⟩) (by assumption) ?r34
          case h34 => (intro w hSw; (try dsimp only at hSw); go_simp; try with_reducible rfl)
          try simp only [Act.put, List.setIfInBounds_toArray, List.set_cons_zero, List.set_cons_succ]
          refine wpAnyH_take (i := 7) (oi := { dst := some 23, op := Go.Op.load 52 (Go.Operand.tmp 22), type := 52, pos := "slices.go:25", after := #[{ on := 6, ground := Go.Ground.data }], guard := none }) (v := ?v35) rfl (by kernel_rfl) (by kernel_rfl) (by kernel_rfl) (fun _ _ _ h => h) (Or.inl ⟨by kernel_rfl, ?h35⟩) (by assumption) ?r35
          case h35 => (intro w hSw; (try dsimp only at hSw); go_simp; try with_reducible rfl)
          try simp only [Act.put, List.setIfInBounds_toArray, List.set_cons_zero, List.set_cons_succ]
          refine wpAnyH_take (i := 8) (oi := { dst := some 24, op := Go.Op.binOp Go.BinOp.neq 52 (Go.Operand.tmp 19) (Go.Operand.tmp 23) 52, type := 4, pos := "slices.go:25", after := #[{ on := 3, ground := Go.Ground.data }, { on := 7, ground := Go.Ground.data }], guard := none }) (v := ?v36) rfl (by kernel_rfl) (by kernel_rfl) (by kernel_rfl) (fun _ _ _ h => h) (Or.inl ⟨by kernel_rfl, ?h36⟩) (by assumption) ?r36
          case h36 => (intro w hSw; (try dsimp only at hSw); refine Eq.trans (b := Result.ok (Next.value (.bool true)) w) (by go_simp; by_cases h0 : f01 = f02 <;> by_cases h1 : d11 = d12 <;> by_cases h2 : k21 = k22 <;> by_cases h3 : x31 = x32 <;> by_cases h4 : y41 = y42 <;> by_cases h5 : c51 = c52 <;> by_cases h6 : d61 = d62 <;> simp_all [ptxt_eq, ptl_iff]) ?_; with_reducible rfl)
          try simp only [Act.put, List.setIfInBounds_toArray, List.set_cons_zero, List.set_cons_succ]
          refine wpAnyH_done (by kernel_rfl) ?_ _
          clear g0 e0 g1 e1 g2 e2 g3 e3 g4 e4 g5 e5 g6 e6
          go_wp2
          go_ret
          exact ⟨ret_bool hf.out.symm, m + 1, rfl⟩
      · have hki : ¬ (k : Int) < (n1 : Int) := by omega
        have hf := Lib.hid (hyes.out (fun t ht => hal.out t (by rw [← hl1.out] at ht; omega)))
        clear hyes hno hal
        go_wp2
        go_ret
        exact ⟨ret_bool hf.out.symm, m, rfl⟩
  · have e0' : ((n1 : Int) != (n2 : Int)) = true := by simp; omega
    have e0n : (n1 != n2) = true := by simpa using hne
    have hR : Hid (listEq edgeEq edge0 l1 l2 = false) := Lib.hid (listEq_len (by rw [← hl1.out, ← hl2.out]; exact hne))
    clear hne
    generalize listEq edgeEq edge0 l1 l2 = R at *
    go_enter Tryz.func38, Tryz.ntmps38
    go_wp2
    go_ret
    exact ⟨ret_bool hR.out.symm, 0, rfl⟩
theorem drawnB_below {v : Value} {w : World} {e : Ending} {w' : World} (h : DrawnB v w e w') : e = .returned v ∧ Below w.heap.size w w' := by
  obtain ⟨h1, m, rfl⟩ := h
  exact ⟨h1, drewN_below w m⟩
set_option maxRecDepth 100000 in
set_option maxHeartbeats 4000000 in
theorem psame'_any (p q : PV) (A B : PD) (w : World) (h1 : PrA w p A) (h2 : PrA w q B) : Calls Tryz.prog 10 #[.agg #[.string p.nm, .slice p.a1 p.n1 p.c1, .slice p.a2 p.n2 p.c2, .slice p.a3 p.n3 p.c3], .agg #[.string q.nm, .slice q.a1 q.n1 q.c1, .slice q.a2 q.n2 q.c2, .slice q.a3 q.n3 q.c3]] w (Gives (.bool (sameP A B)) w) := by
  have hR : Hid (sameP A B = (decide (p.nm = q.nm) && (decide (A.vars = B.vars) && (listEq spotEq spot0 A.spots B.spots && listEq edgeEq edge0 A.edges B.edges)))) := Lib.hid (by unfold sameP; rw [h1.nm, h2.nm])
  obtain ⟨W1, hW1⟩ : ∃ W1, W1 = (w.alloc (.cells #[.string p.nm, .slice p.a1 p.n1 p.c1, .slice p.a2 p.n2 p.c2, .slice p.a3 p.n3 p.c3] 26)).alloc (.cells #[.string q.nm, .slice q.a1 q.n1 q.c1, .slice q.a2 q.n2 q.c2, .slice q.a3 q.n3 q.c3] 26) := ⟨_, rfl⟩
  have Z : Hid (Holds W1 w.heap.size 26 #[.string p.nm, .slice p.a1 p.n1 p.c1, .slice p.a2 p.n2 p.c2, .slice p.a3 p.n3 p.c3]) := Lib.hid (by rw [hW1]; exact (Holds.new w _ _).alloc _)
  have V : Hid (Holds W1 (w.heap.size + 1) 26 #[.string q.nm, .slice q.a1 q.n1 q.c1, .slice q.a2 q.n2 q.c2, .slice q.a3 q.n3 q.c3]) := Lib.hid (by
    rw [hW1]
    have := Holds.new (w.alloc (.cells #[.string p.nm, .slice p.a1 p.n1 p.c1, .slice p.a2 p.n2 p.c2, .slice p.a3 p.n3 p.c3] 26)) 26 #[.string q.nm, .slice q.a1 q.n1 q.c1, .slice q.a2 q.n2 q.c2, .slice q.a3 q.n3 q.c3]
    simpa using this)
  have BL := Lib.hid (show Below w.heap.size w W1 by rw [hW1]; exact box2_below _ _ _ _ _)
  have XA := Lib.hid (h1.below BL.out)
  have XB := Lib.hid (h2.below BL.out)
  have hW1' := Lib.hid hW1
  have qv := Lib.hid (fun W (a : PrA W p A) (b : PrA W q B) => (equal_any p.a1 q.a1 p.n1 q.n1 p.c1 q.c1 A.vars B.vars (by have := a.vars.cap; have := a.vars.max; unfold maxLen at this; omega) (by have := b.vars.cap; have := b.vars.max; unfold maxLen at this; omega) W a.vars b.vars).mono (fun e w' h => drawnB_below h))
  have qs := Lib.hid (fun W (a : PrA W p A) (b : PrA W q B) => (spotsEq_any p.a2 q.a2 p.n2 q.n2 p.c2 q.c2 A.spots B.spots W a.spots b.spots).mono (fun e w' h => drawnB_below h))
  have qe := Lib.hid (fun W (a : PrA W p A) (b : PrA W q B) => (edgesEq_any p.a3 q.a3 p.n3 q.n3 p.c3 q.c3 A.edges B.edges W a.edges b.edges).mono (fun e w' h => drawnB_below h))
  have k0 := Z.out.cell 0
  have k1 := Z.out.cell 1
  have j0 := V.out.cell 0
  have j1 := V.out.cell 1
  clear h1 h2 hW1
  generalize sameP A B = R at *
  generalize decide (A.vars = B.vars) = bv at *
  generalize listEq spotEq spot0 A.spots B.spots = bs at *
  generalize listEq edgeEq edge0 A.edges B.edges = be at *
  by_cases hn : p.nm = q.nm
  · have hR2 : Hid (R = (bv && (bs && be))) := Lib.hid (by rw [hR.out, decide_eq_true hn]; rfl)
    have e1 : (p.nm.toList == q.nm.toList) = true := by rw [ptxt_eq]; exact decide_eq_true hn
    clear hR hn
    go_enter Tryz.func10, Tryz.ntmps10
    go_wp2_with fail
    rw [← hW1'.out]
    with_reducible refine (qv.out W1 XA.out XB.out).mono ?_
    rintro e u1 ⟨rfl, b1⟩
    clear k0 k1 j0 j1
    cases bv
    · have hf : Hid (R = false) := Lib.hid (by rw [hR2.out]; rfl)
      go_wp2
      go_ret
      exact ⟨ret_bool hf.out.symm, BL.out.trans (b1.mono BL.out.size)⟩
    · replace Z := Lib.hid (Z.out.below b1 Z.out.lt)
      replace V := Lib.hid (V.out.below b1 V.out.lt)
      replace XA := Lib.hid (XA.out.below b1)
      replace XB := Lib.hid (XB.out.below b1)
      replace BL := Lib.hid (BL.out.trans (b1.mono BL.out.size))
      clear b1
      have k2 := Z.out.cell 2
      have j2 := V.out.cell 2
      go_wp2_with fail
      with_reducible refine (qs.out u1 XA.out XB.out).mono ?_
      rintro e u2 ⟨rfl, b1⟩
      clear k2 j2
      cases bs
      · have hf : Hid (R = false) := Lib.hid (by rw [hR2.out]; rfl)
        go_wp2
        go_ret
        exact ⟨ret_bool hf.out.symm, BL.out.trans (b1.mono BL.out.size)⟩
      · replace Z := Lib.hid (Z.out.below b1 Z.out.lt)
        replace V := Lib.hid (V.out.below b1 V.out.lt)
        replace XA := Lib.hid (XA.out.below b1)
        replace XB := Lib.hid (XB.out.below b1)
        replace BL := Lib.hid (BL.out.trans (b1.mono BL.out.size))
        clear b1
        have hf : Hid (R = be) := Lib.hid (by rw [hR2.out]; rfl)
        have k3 := Z.out.cell 3
        have j3 := V.out.cell 3
        go_wp2_with fail
        with_reducible refine (qe.out u2 XA.out XB.out).mono ?_
        rintro e u3 ⟨rfl, b1⟩
        clear k3 j3
        go_wp2
        go_ret
        exact ⟨ret_bool hf.out.symm, BL.out.trans (b1.mono BL.out.size)⟩
  · have hf : Hid (R = false) := Lib.hid (by rw [hR.out, decide_eq_false hn]; rfl)
    have e1 : (p.nm.toList == q.nm.toList) = false := by rw [ptxt_eq]; exact decide_eq_false hn
    clear hR hn
    go_enter Tryz.func10, Tryz.ntmps10
    go_wp2
    go_ret
    rw [← hW1'.out]
    exact ⟨ret_bool hf.out.symm, BL.out⟩
end Go.Proofs.YtgeliikfgnkppaaGreatDoor
namespace Go.Proofs.YtgeliikfgnkppaaGreatDoor
open Go.RowKit
set_option linter.unusedVariables false
set_option linter.unusedSimpArgs false
set_option maxRecDepth 100000 in
set_option maxHeartbeats 16000000 in
theorem psameRef_any (p q : PV) (A B : PD) (w : World) (h1 : PrA w p A) (h2 : PrA w q B) : Calls Tryz.prog 11 #[.agg #[.string p.nm, .slice p.a1 p.n1 p.c1, .slice p.a2 p.n2 p.c2, .slice p.a3 p.n3 p.c3], .agg #[.string q.nm, .slice q.a1 q.n1 q.c1, .slice q.a2 q.n2 q.c2, .slice q.a3 q.n3 q.c3]] w (Gives (.bool (sameP A B)) w) := by
  have hR : Hid (sameP A B = (decide (p.nm = q.nm) && (decide (A.vars = B.vars) && (listEq spotEq spot0 A.spots B.spots && listEq edgeEq edge0 A.edges B.edges)))) := Lib.hid (by unfold sameP; rw [h1.nm, h2.nm])
  obtain ⟨pnm, pa1, pn1, pc1, pa2, pn2, pc2, pa3, pn3, pc3⟩ := p
  obtain ⟨qnm, qa1, qn1, qc1, qa2, qn2, qc2, qa3, qn3, qc3⟩ := q
  have hv1 := h1.vars
  have hs1 := h1.spots
  have he1 := h1.edges
  have hv2 := h2.vars
  have hs2 := h2.spots
  have he2 := h2.edges
  clear h1 h2
  dsimp only at hR hv1 hs1 he1 hv2 hs2 he2 ⊢
  obtain ⟨W1, hW1⟩ : ∃ W1, W1 = (w.alloc (.cells #[.string pnm, .slice pa1 pn1 pc1, .slice pa2 pn2 pc2, .slice pa3 pn3 pc3] 26)).alloc (.cells #[.string qnm, .slice qa1 qn1 qc1, .slice qa2 qn2 qc2, .slice qa3 qn3 qc3] 26) := ⟨_, rfl⟩
  have Z : Hid (Holds W1 w.heap.size 26 #[.string pnm, .slice pa1 pn1 pc1, .slice pa2 pn2 pc2, .slice pa3 pn3 pc3]) := Lib.hid (by rw [hW1]; exact (Holds.new w _ _).alloc _)
  have V : Hid (Holds W1 (w.heap.size + 1) 26 #[.string qnm, .slice qa1 qn1 qc1, .slice qa2 qn2 qc2, .slice qa3 qn3 qc3]) := Lib.hid (by
    rw [hW1]
    have := Holds.new (w.alloc (.cells #[.string pnm, .slice pa1 pn1 pc1, .slice pa2 pn2 pc2, .slice pa3 pn3 pc3] 26)) 26 #[.string qnm, .slice qa1 qn1 qc1, .slice qa2 qn2 qc2, .slice qa3 qn3 qc3]
    simpa using this)
  have BL := Lib.hid (show Below w.heap.size w W1 by rw [hW1]; exact box2_below _ _ _ _ _)
  have V1 := Lib.hid (hv1.below BL.out)
  have V2 := Lib.hid (hv2.below BL.out)
  have S1 := Lib.hid (hs1.below BL.out)
  have S2 := Lib.hid (hs2.below BL.out)
  have E1 := Lib.hid (he1.below BL.out)
  have E2 := Lib.hid (he2.below BL.out)
  have hW1' := Lib.hid hW1
  have lv1 := Lib.hid hv1.len
  have lv2 := Lib.hid hv2.len
  have ls1 := Lib.hid hs1.len
  have ls2 := Lib.hid hs2.len
  have le1 := Lib.hid he1.len
  have le2 := Lib.hid he2.len
  have bv1 : (pn1 : Int) ≤ 9223372036854775807 := by have := hv1.cap; have := hv1.max; unfold maxLen at this; omega
  have bs1 : (pn2 : Int) ≤ 9223372036854775807 := by have := hs1.max'; omega
  have be1 : (pn3 : Int) ≤ 9223372036854775807 := by have := he1.max'; omega
  clear hv1 hs1 he1 hv2 hs2 he2 hW1
  have k0 := Z.out.cell 0
  have k1 := Z.out.cell 1
  have k2 := Z.out.cell 2
  have k3 := Z.out.cell 3
  have j0 := V.out.cell 0
  have j1 := V.out.cell 1
  have j2 := V.out.cell 2
  have j3 := V.out.cell 3
  by_cases hn : pnm = qnm
  rotate_left
  · have e1 : (pnm.toList == qnm.toList) = false := by rw [ptxt_eq]; exact decide_eq_false hn
    have e2 : (pnm.toList != qnm.toList) = true := by simp [bne, e1]
    have hf : Hid (sameP A B = false) := Lib.hid (by rw [hR.out, decide_eq_false hn]; simp)
    generalize sameP A B = R at *
    go_enter Tryz.func11, Tryz.ntmps11
    go_wp2
    go_ret
    rw [← hW1'.out]
    exact ⟨ret_bool hf.out.symm, BL.out⟩
  have e1 : (pnm.toList == qnm.toList) = true := by rw [ptxt_eq]; exact decide_eq_true hn
  have hn' := Lib.hid hn
  clear hn
  have e2 : (pnm.toList != qnm.toList) = false := by simp [bne, e1]
  by_cases g1 : pn1 = qn1
  rotate_left
  · have i0 : ((pn1 : Int) != (qn1 : Int)) = true := by simp; omega
    have i0n : (pn1 != qn1) = true := by simpa using g1
    have hf : Hid (sameP A B = false) := Lib.hid (by rw [hR.out, decide_eq_false (show ¬ A.vars = B.vars from fun e => g1 (by rw [lv1.out, lv2.out, e]))]; simp)
    generalize sameP A B = R at *
    go_enter Tryz.func11, Tryz.ntmps11
    go_wp2
    go_ret
    rw [← hW1'.out]
    exact ⟨ret_bool hf.out.symm, BL.out⟩
  have i0 : ((pn1 : Int) != (qn1 : Int)) = false := by simp; omega
  have i0n : (pn1 != qn1) = false := by simpa using g1
  have g1' := Lib.hid g1
  clear g1
  by_cases g2 : pn2 = qn2
  rotate_left
  · have i1 : ((pn2 : Int) != (qn2 : Int)) = true := by simp; omega
    have i1n : (pn2 != qn2) = true := by simpa using g2
    have hf : Hid (sameP A B = false) := Lib.hid (by rw [hR.out, listEq_len (show A.spots.length ≠ B.spots.length by rw [← ls1.out, ← ls2.out]; exact g2)]; simp)
    generalize sameP A B = R at *
    go_enter Tryz.func11, Tryz.ntmps11
    go_wp2
    go_ret
    rw [← hW1'.out]
    exact ⟨ret_bool hf.out.symm, BL.out⟩
  have i1 : ((pn2 : Int) != (qn2 : Int)) = false := by simp; omega
  have i1n : (pn2 != qn2) = false := by simpa using g2
  have g2' := Lib.hid g2
  clear g2
  by_cases g3 : pn3 = qn3
  rotate_left
  · have i2 : ((pn3 : Int) != (qn3 : Int)) = true := by simp; omega
    have i2n : (pn3 != qn3) = true := by simpa using g3
    have hf : Hid (sameP A B = false) := Lib.hid (by rw [hR.out, listEq_len (show A.edges.length ≠ B.edges.length by rw [← le1.out, ← le2.out]; exact g3)]; simp)
    generalize sameP A B = R at *
    go_enter Tryz.func11, Tryz.ntmps11
    go_wp2
    go_ret
    rw [← hW1'.out]
    exact ⟨ret_bool hf.out.symm, BL.out⟩
  have i2 : ((pn3 : Int) != (qn3 : Int)) = false := by simp; omega
  have i2n : (pn3 != qn3) = false := by simpa using g3
  have g3' := Lib.hid g3
  clear g3
  have hR2 : Hid (sameP A B = (decide (A.vars = B.vars) && (listEq spotEq spot0 A.spots B.spots && listEq edgeEq edge0 A.edges B.edges))) := Lib.hid (by rw [hR.out, decide_eq_true hn'.out, Bool.true_and])
  have nv := Lib.hid (fun k h => same_no (l1 := A.vars) (l2 := B.vars) (k := k) h)
  have yv := Lib.hid (fun h => same_yes (l1 := A.vars) (l2 := B.vars) (by rw [← lv1.out, ← lv2.out]; exact g1'.out) h)
  have ns := Lib.hid (fun k hk h => listEq_no (q := spotEq) (d := spot0) (l := A.spots) (r := B.spots) (k := k) hk h)
  have ys := Lib.hid (fun h => listEq_yes (q := spotEq) (d := spot0) (l := A.spots) (r := B.spots) (by rw [← ls1.out, ← ls2.out]; exact g2'.out) h)
  have ne := Lib.hid (fun k hk h => listEq_no (q := edgeEq) (d := edge0) (l := A.edges) (r := B.edges) (k := k) hk h)
  have ye := Lib.hid (fun h => listEq_yes (q := edgeEq) (d := edge0) (l := A.edges) (r := B.edges) (by rw [← le1.out, ← le2.out]; exact g3'.out) h)
  clear hR hn'
  generalize sameP A B = R at *
  generalize decide (A.vars = B.vars) = bv at *
  generalize listEq spotEq spot0 A.spots B.spots = bs at *
  generalize listEq edgeEq edge0 A.edges B.edges = be at *
  go_enter Tryz.func11, Tryz.ntmps11
  go_wp2
  rw [← hW1'.out]
  clear hW1' e1 e2 i0 i0n i1 i1n i2 i2n
  go_loopw [5] (fun x wr => ∃ k m : Nat, k ≤ pn1 ∧ x = .int .i64 k ∧ Hid (∀ t, t < k → A.vars.getD t e0 = B.vars.getD t e0) ∧ wr = W1.drewN m) (fun x _ => pn1 - (intOf x).toNat)
  case atStart => exact ⟨0, 0, by omega, rfl, Lib.hid (fun t ht => by omega), rfl⟩
  case round =>
    obtain ⟨k, m, hk, rfl, hal, rfl⟩ := hrel
    by_cases hlt : k < pn1
    · have hki : (k : Int) < (pn1 : Int) := by omega
      have hk2 : k < qn1 := by have := g1'.out; omega
      have hki2 : (k : Int) < (qn1 : Int) := by omega
      obtain ⟨b1, o1, rfl, -, hc1⟩ := V1.out.at_ (k := k) (by rw [← lv1.out]; exact hlt)
      obtain ⟨b2, o2, rfl, -, hc2⟩ := V2.out.at_ (k := k) (by rw [← lv2.out]; exact hk2)
      have x0 := hc1 k (by rw [← lv1.out]; exact hlt)
      have y0 := hc2 k (by rw [← lv2.out]; exact hk2)
      have hN := Lib.hid (nv.out k)
      have hY : Hid (A.vars.getD k e0 = B.vars.getD k e0 → ∀ t, t < k + 1 → A.vars.getD t e0 = B.vars.getD t e0) := Lib.hid (fun h t ht => by
        by_cases e : t = k
        · rw [e]; exact h
        · exact hal.out t (by omega))
      clear hc1 hc2 hal nv
      generalize A.vars.getD k e0 = s1 at *
      generalize B.vars.getD k e0 = s2 at *
      have gk : ∀ W, (∃ j, W = W1.drewN j) → W.cell? ⟨w.heap.size, 1, none⟩ = some (.slice (some ⟨b1, o1, none⟩) pn1 pc1) := fun W hW => by obtain ⟨j, rfl⟩ := hW; exact k1
      have gj : ∀ W, (∃ j, W = W1.drewN j) → W.cell? ⟨w.heap.size + 1, 1, none⟩ = some (.slice (some ⟨b2, o2, none⟩) qn1 qc1) := fun W hW => by obtain ⟨j, rfl⟩ := hW; exact j1
      have g0 : ∀ W, (∃ j, W = W1.drewN j) → W.cell? ⟨b1, o1 + k, none⟩ = some (.string s1) := fun W hW => by obtain ⟨j, rfl⟩ := hW; exact x0
      have g9 : ∀ W, (∃ j, W = W1.drewN j) → W.cell? ⟨b2, o2 + k, none⟩ = some (.string s2) := fun W hW => by obtain ⟨j, rfl⟩ := hW; exact y0
      clear x0 y0
      by_cases hst : s1 = s2
      · have hS := Lib.hid (hY.out hst)
        have e1 : (s1.toList == s2.toList) = true := by rw [ptxt_eq]; exact decide_eq_true hst
        have e2 : (s1.toList != s2.toList) = false := by simp [bne, e1]
        clear hY hN hst
        go_wp2
        refine wp_drawn_on (fun W => ∃ j, W = W1.drewN j) (by kernel_rfl) (⟨m + 1, rfl⟩) (fun hHeld => ?_)
        refine wpAnyH_take (i := 0) (oi := { dst := some 47, op := Go.Op.fieldAddr 26 (Go.Operand.tmp 2) 1, type := 0, pos := "ref.go:251", after := #[], guard := none }) (v := ?v1) rfl (by kernel_rfl) (by kernel_rfl) (by kernel_rfl) (fun _ _ _ h => h) (Or.inl ⟨by kernel_rfl, ?h1⟩) (by assumption) ?r1
        case h1 => (intro w hSw; (try dsimp only at hSw); go_simp; try with_reducible rfl)
        try simp only [Act.put, List.setIfInBounds_toArray, List.set_cons_zero, List.set_cons_succ]
        refine wpAnyH_take (i := 1) (oi := { dst := some 48, op := Go.Op.load 22 (Go.Operand.tmp 47), type := 22, pos := "ref.go:251", after := #[{ on := 0, ground := Go.Ground.data }], guard := none }) (v := ?v2) rfl (by kernel_rfl) (by kernel_rfl) (by kernel_rfl) (fun _ _ _ h => h) (Or.inl ⟨by kernel_rfl, ?h2⟩) (by assumption) ?r2
        case h2 => (intro w hSw; (try dsimp only at hSw); go_simp; try with_reducible rfl)
        try simp only [Act.put, List.setIfInBounds_toArray, List.set_cons_zero, List.set_cons_succ]
        refine wpAnyH_take (i := 2) (oi := { dst := some 49, op := Go.Op.move (Go.Operand.tmp 5), type := 3, pos := "ref.go:251", after := #[], guard := none }) (v := ?v3) rfl (by kernel_rfl) (by kernel_rfl) (by kernel_rfl) (fun _ _ _ h => h) (Or.inl ⟨by kernel_rfl, ?h3⟩) (by assumption) ?r3
        case h3 => (intro w hSw; (try dsimp only at hSw); go_simp; try with_reducible rfl)
        try simp only [Act.put, List.setIfInBounds_toArray, List.set_cons_zero, List.set_cons_succ]
        refine wpAnyH_take (i := 3) (oi := { dst := some 50, op := Go.Op.indexAddr 22 (Go.Operand.tmp 48) (Go.Operand.tmp 49), type := 0, pos := "ref.go:251", after := #[{ on := 1, ground := Go.Ground.data }, { on := 2, ground := Go.Ground.data }], guard := none }) (v := ?v4) rfl (by kernel_rfl) (by kernel_rfl) (by kernel_rfl) (fun _ _ _ h => h) (Or.inl ⟨by kernel_rfl, ?h4⟩) (by assumption) ?r4
        case h4 => (intro w hSw; (try dsimp only at hSw); go_simp; try with_reducible rfl)
        try simp only [Act.put, List.setIfInBounds_toArray, List.set_cons_zero, List.set_cons_succ]
        refine wpAnyH_take (i := 4) (oi := { dst := some 51, op := Go.Op.load 9 (Go.Operand.tmp 50), type := 9, pos := "ref.go:251", after := #[{ on := 3, ground := Go.Ground.data }], guard := none }) (v := ?v5) rfl (by kernel_rfl) (by kernel_rfl) (by kernel_rfl) (fun _ _ _ h => h) (Or.inl ⟨by kernel_rfl, ?h5⟩) (by assumption) ?r5
        case h5 => (intro w hSw; (try dsimp only at hSw); go_simp; try with_reducible rfl)
        try simp only [Act.put, List.setIfInBounds_toArray, List.set_cons_zero, List.set_cons_succ]
        refine wpAnyH_take (i := 5) (oi := { dst := some 52, op := Go.Op.fieldAddr 26 (Go.Operand.tmp 3) 1, type := 0, pos := "ref.go:251", after := #[], guard := none }) (v := ?v6) rfl (by kernel_rfl) (by kernel_rfl) (by kernel_rfl) (fun _ _ _ h => h) (Or.inl ⟨by kernel_rfl, ?h6⟩) (by assumption) ?r6
        case h6 => (intro w hSw; (try dsimp only at hSw); go_simp; try with_reducible rfl)
        try simp only [Act.put, List.setIfInBounds_toArray, List.set_cons_zero, List.set_cons_succ]
        refine wpAnyH_take (i := 6) (oi := { dst := some 53, op := Go.Op.load 22 (Go.Operand.tmp 52), type := 22, pos := "ref.go:251", after := #[{ on := 5, ground := Go.Ground.data }], guard := none }) (v := ?v7) rfl (by kernel_rfl) (by kernel_rfl) (by kernel_rfl) (fun _ _ _ h => h) (Or.inl ⟨by kernel_rfl, ?h7⟩) (by assumption) ?r7
        case h7 => (intro w hSw; (try dsimp only at hSw); go_simp; try with_reducible rfl)
        try simp only [Act.put, List.setIfInBounds_toArray, List.set_cons_zero, List.set_cons_succ]
        refine wpAnyH_take (i := 7) (oi := { dst := some 54, op := Go.Op.move (Go.Operand.tmp 5), type := 3, pos := "ref.go:251", after := #[], guard := none }) (v := ?v8) rfl (by kernel_rfl) (by kernel_rfl) (by kernel_rfl) (fun _ _ _ h => h) (Or.inl ⟨by kernel_rfl, ?h8⟩) (by assumption) ?r8
        case h8 => (intro w hSw; (try dsimp only at hSw); go_simp; try with_reducible rfl)
        try simp only [Act.put, List.setIfInBounds_toArray, List.set_cons_zero, List.set_cons_succ]
        refine wpAnyH_take (i := 8) (oi := { dst := some 55, op := Go.Op.indexAddr 22 (Go.Operand.tmp 53) (Go.Operand.tmp 54), type := 0, pos := "ref.go:251", after := #[{ on := 6, ground := Go.Ground.data }, { on := 7, ground := Go.Ground.data }], guard := none }) (v := ?v9) rfl (by kernel_rfl) (by kernel_rfl) (by kernel_rfl) (fun _ _ _ h => h) (Or.inl ⟨by kernel_rfl, ?h9⟩) (by assumption) ?r9
        case h9 => (intro w hSw; (try dsimp only at hSw); go_simp; try with_reducible rfl)
        try simp only [Act.put, List.setIfInBounds_toArray, List.set_cons_zero, List.set_cons_succ]
        refine wpAnyH_take (i := 9) (oi := { dst := some 56, op := Go.Op.load 9 (Go.Operand.tmp 55), type := 9, pos := "ref.go:251", after := #[{ on := 8, ground := Go.Ground.data }], guard := none }) (v := ?v10) rfl (by kernel_rfl) (by kernel_rfl) (by kernel_rfl) (fun _ _ _ h => h) (Or.inl ⟨by kernel_rfl, ?h10⟩) (by assumption) ?r10
        case h10 => (intro w hSw; (try dsimp only at hSw); go_simp; try with_reducible rfl)
        try simp only [Act.put, List.setIfInBounds_toArray, List.set_cons_zero, List.set_cons_succ]
        refine wpAnyH_take (i := 10) (oi := { dst := some 57, op := Go.Op.binOp Go.BinOp.neq 9 (Go.Operand.tmp 51) (Go.Operand.tmp 56) 9, type := 4, pos := "ref.go:251", after := #[{ on := 4, ground := Go.Ground.data }, { on := 9, ground := Go.Ground.data }], guard := none }) (v := ?v11) rfl (by kernel_rfl) (by kernel_rfl) (by kernel_rfl) (fun _ _ _ h => h) (Or.inl ⟨by kernel_rfl, ?h11⟩) (by assumption) ?r11
        case h11 => (intro w hSw; (try dsimp only at hSw); go_simp; try with_reducible rfl)
        try simp only [Act.put, List.setIfInBounds_toArray, List.set_cons_zero, List.set_cons_succ]
        refine wpAnyH_done (by kernel_rfl) ?_ _
        clear g0 g9 gk gj
        go_wp2
        go_roundw
        case rel => exact ⟨k + 1, m + 1, by omega, by go_num, hS, rfl⟩
        case measure => simp [intOf]; omega
      · have hRf : Hid (R = false) := Lib.hid (by rw [hR2.out, hN.out hst]; rfl)
        have e1 : (s1.toList == s2.toList) = false := by rw [ptxt_eq]; exact decide_eq_false hst
        have e2 : (s1.toList != s2.toList) = true := by simp [bne, e1]
        clear hY hN hst
        go_wp2
        refine wp_drawn_on (fun W => ∃ j, W = W1.drewN j) (by kernel_rfl) (⟨m + 1, rfl⟩) (fun hHeld => ?_)
        refine wpAnyH_take (i := 0) (oi := { dst := some 47, op := Go.Op.fieldAddr 26 (Go.Operand.tmp 2) 1, type := 0, pos := "ref.go:251", after := #[], guard := none }) (v := ?v12) rfl (by kernel_rfl) (by kernel_rfl) (by kernel_rfl) (fun _ _ _ h => h) (Or.inl ⟨by kernel_rfl, ?h12⟩) (by assumption) ?r12
        case h12 => (intro w hSw; (try dsimp only at hSw); go_simp; try with_reducible rfl)
        try simp only [Act.put, List.setIfInBounds_toArray, List.set_cons_zero, List.set_cons_succ]
        refine wpAnyH_take (i := 1) (oi := { dst := some 48, op := Go.Op.load 22 (Go.Operand.tmp 47), type := 22, pos := "ref.go:251", after := #[{ on := 0, ground := Go.Ground.data }], guard := none }) (v := ?v13) rfl (by kernel_rfl) (by kernel_rfl) (by kernel_rfl) (fun _ _ _ h => h) (Or.inl ⟨by kernel_rfl, ?h13⟩) (by assumption) ?r13
        case h13 => (intro w hSw; (try dsimp only at hSw); go_simp; try with_reducible rfl)
        try simp only [Act.put, List.setIfInBounds_toArray, List.set_cons_zero, List.set_cons_succ]
        refine wpAnyH_take (i := 2) (oi := { dst := some 49, op := Go.Op.move (Go.Operand.tmp 5), type := 3, pos := "ref.go:251", after := #[], guard := none }) (v := ?v14) rfl (by kernel_rfl) (by kernel_rfl) (by kernel_rfl) (fun _ _ _ h => h) (Or.inl ⟨by kernel_rfl, ?h14⟩) (by assumption) ?r14
        case h14 => (intro w hSw; (try dsimp only at hSw); go_simp; try with_reducible rfl)
        try simp only [Act.put, List.setIfInBounds_toArray, List.set_cons_zero, List.set_cons_succ]
        refine wpAnyH_take (i := 3) (oi := { dst := some 50, op := Go.Op.indexAddr 22 (Go.Operand.tmp 48) (Go.Operand.tmp 49), type := 0, pos := "ref.go:251", after := #[{ on := 1, ground := Go.Ground.data }, { on := 2, ground := Go.Ground.data }], guard := none }) (v := ?v15) rfl (by kernel_rfl) (by kernel_rfl) (by kernel_rfl) (fun _ _ _ h => h) (Or.inl ⟨by kernel_rfl, ?h15⟩) (by assumption) ?r15
        case h15 => (intro w hSw; (try dsimp only at hSw); go_simp; try with_reducible rfl)
        try simp only [Act.put, List.setIfInBounds_toArray, List.set_cons_zero, List.set_cons_succ]
        refine wpAnyH_take (i := 4) (oi := { dst := some 51, op := Go.Op.load 9 (Go.Operand.tmp 50), type := 9, pos := "ref.go:251", after := #[{ on := 3, ground := Go.Ground.data }], guard := none }) (v := ?v16) rfl (by kernel_rfl) (by kernel_rfl) (by kernel_rfl) (fun _ _ _ h => h) (Or.inl ⟨by kernel_rfl, ?h16⟩) (by assumption) ?r16
        case h16 => (intro w hSw; (try dsimp only at hSw); go_simp; try with_reducible rfl)
        try simp only [Act.put, List.setIfInBounds_toArray, List.set_cons_zero, List.set_cons_succ]
        refine wpAnyH_take (i := 5) (oi := { dst := some 52, op := Go.Op.fieldAddr 26 (Go.Operand.tmp 3) 1, type := 0, pos := "ref.go:251", after := #[], guard := none }) (v := ?v17) rfl (by kernel_rfl) (by kernel_rfl) (by kernel_rfl) (fun _ _ _ h => h) (Or.inl ⟨by kernel_rfl, ?h17⟩) (by assumption) ?r17
        case h17 => (intro w hSw; (try dsimp only at hSw); go_simp; try with_reducible rfl)
        try simp only [Act.put, List.setIfInBounds_toArray, List.set_cons_zero, List.set_cons_succ]
        refine wpAnyH_take (i := 6) (oi := { dst := some 53, op := Go.Op.load 22 (Go.Operand.tmp 52), type := 22, pos := "ref.go:251", after := #[{ on := 5, ground := Go.Ground.data }], guard := none }) (v := ?v18) rfl (by kernel_rfl) (by kernel_rfl) (by kernel_rfl) (fun _ _ _ h => h) (Or.inl ⟨by kernel_rfl, ?h18⟩) (by assumption) ?r18
        case h18 => (intro w hSw; (try dsimp only at hSw); go_simp; try with_reducible rfl)
        try simp only [Act.put, List.setIfInBounds_toArray, List.set_cons_zero, List.set_cons_succ]
        refine wpAnyH_take (i := 7) (oi := { dst := some 54, op := Go.Op.move (Go.Operand.tmp 5), type := 3, pos := "ref.go:251", after := #[], guard := none }) (v := ?v19) rfl (by kernel_rfl) (by kernel_rfl) (by kernel_rfl) (fun _ _ _ h => h) (Or.inl ⟨by kernel_rfl, ?h19⟩) (by assumption) ?r19
        case h19 => (intro w hSw; (try dsimp only at hSw); go_simp; try with_reducible rfl)
        try simp only [Act.put, List.setIfInBounds_toArray, List.set_cons_zero, List.set_cons_succ]
        refine wpAnyH_take (i := 8) (oi := { dst := some 55, op := Go.Op.indexAddr 22 (Go.Operand.tmp 53) (Go.Operand.tmp 54), type := 0, pos := "ref.go:251", after := #[{ on := 6, ground := Go.Ground.data }, { on := 7, ground := Go.Ground.data }], guard := none }) (v := ?v20) rfl (by kernel_rfl) (by kernel_rfl) (by kernel_rfl) (fun _ _ _ h => h) (Or.inl ⟨by kernel_rfl, ?h20⟩) (by assumption) ?r20
        case h20 => (intro w hSw; (try dsimp only at hSw); go_simp; try with_reducible rfl)
        try simp only [Act.put, List.setIfInBounds_toArray, List.set_cons_zero, List.set_cons_succ]
        refine wpAnyH_take (i := 9) (oi := { dst := some 56, op := Go.Op.load 9 (Go.Operand.tmp 55), type := 9, pos := "ref.go:251", after := #[{ on := 8, ground := Go.Ground.data }], guard := none }) (v := ?v21) rfl (by kernel_rfl) (by kernel_rfl) (by kernel_rfl) (fun _ _ _ h => h) (Or.inl ⟨by kernel_rfl, ?h21⟩) (by assumption) ?r21
        case h21 => (intro w hSw; (try dsimp only at hSw); go_simp; try with_reducible rfl)
        try simp only [Act.put, List.setIfInBounds_toArray, List.set_cons_zero, List.set_cons_succ]
        refine wpAnyH_take (i := 10) (oi := { dst := some 57, op := Go.Op.binOp Go.BinOp.neq 9 (Go.Operand.tmp 51) (Go.Operand.tmp 56) 9, type := 4, pos := "ref.go:251", after := #[{ on := 4, ground := Go.Ground.data }, { on := 9, ground := Go.Ground.data }], guard := none }) (v := ?v22) rfl (by kernel_rfl) (by kernel_rfl) (by kernel_rfl) (fun _ _ _ h => h) (Or.inl ⟨by kernel_rfl, ?h22⟩) (by assumption) ?r22
        case h22 => (intro w hSw; (try dsimp only at hSw); go_simp; try with_reducible rfl)
        try simp only [Act.put, List.setIfInBounds_toArray, List.set_cons_zero, List.set_cons_succ]
        refine wpAnyH_done (by kernel_rfl) ?_ _
        clear g0 g9 gk gj
        go_wp2
        go_ret
        exact ⟨ret_bool hRf.out.symm, Below.drewN BL.out (m + 1)⟩
    · have hki : ¬ (k : Int) < (pn1 : Int) := by omega
      have hb := Lib.hid (yv.out (fun t ht => hal.out t (by rw [← lv1.out] at ht; omega)))
      have hR3 : Hid (R = (bs && be)) := Lib.hid (by rw [hR2.out, hb.out]; rfl)
      clear hb hR2 nv yv
      go_wp2
      clear hki hlt hk
      go_loopw [6] (fun x wr => ∃ k m : Nat, k ≤ pn2 ∧ x = .int .i64 k ∧ Hid (∀ t, t < k → spotEq (A.spots.getD t spot0) (B.spots.getD t spot0) = true) ∧ wr = W1.drewN m) (fun x _ => pn2 - (intOf x).toNat)
      case atStart => exact ⟨0, m, by omega, rfl, Lib.hid (fun t ht => by omega), rfl⟩
      case round =>
        clear hal
        obtain ⟨k, m, hk, rfl, hal, rfl⟩ := hrel
        by_cases hlt : k < pn2
        · have hki : (k : Int) < (pn2 : Int) := by omega
          have hk2 : k < qn2 := by have := g2'.out; omega
          have hki2 : (k : Int) < (qn2 : Int) := by omega
          obtain ⟨b1, o1, rfl, -, x0, x1, x2⟩ := spots_at S1.out hlt
          obtain ⟨b2, o2, rfl, -, y0, y1, y2⟩ := spots_at S2.out hk2
          have hno' := Lib.hid (ns.out k (by rw [← ls1.out]; exact hlt))
          have hyes' : Hid (spotEq (A.spots.getD k spot0) (B.spots.getD k spot0) = true → ∀ t, t < k + 1 → spotEq (A.spots.getD t spot0) (B.spots.getD t spot0) = true) := Lib.hid (fun h t ht => by
            by_cases e : t = k
            · rw [e]; exact h
            · exact hal.out t (by omega))
          obtain ⟨f01, f11, l21, ha1⟩ : ∃ f01 f11 l21, A.spots.getD k spot0 = (⟨f01, f11, l21⟩ : SpotD) := ⟨_, _, _, rfl⟩
          obtain ⟨f02, f12, l22, ha2⟩ : ∃ f02 f12 l22, B.spots.getD k spot0 = (⟨f02, f12, l22⟩ : SpotD) := ⟨_, _, _, rfl⟩
          rw [ha1] at x0 x1 x2 hno' hyes'
          rw [ha2] at y0 y1 y2 hno' hyes'
          dsimp only at x0 x1 x2 y0 y1 y2
          clear ha1 ha2 hal ns
          have gk : ∀ W, (∃ j, W = W1.drewN j) → W.cell? ⟨w.heap.size, 2, none⟩ = some (.slice (some ⟨b1, o1, none⟩) pn2 pc2) := fun W hW => by obtain ⟨j, rfl⟩ := hW; exact k2
          have gj : ∀ W, (∃ j, W = W1.drewN j) → W.cell? ⟨w.heap.size + 1, 2, none⟩ = some (.slice (some ⟨b2, o2, none⟩) qn2 qc2) := fun W hW => by obtain ⟨j, rfl⟩ := hW; exact j2
          have g0 : ∀ W, (∃ j, W = W1.drewN j) → W.cell? ⟨b1, o1 + k * 3, none⟩ = some (.string f01) := fun W hW => by obtain ⟨j, rfl⟩ := hW; exact x0
          have e0 : ∀ W, (∃ j, W = W1.drewN j) → W.cell? ⟨b2, o2 + k * 3, none⟩ = some (.string f02) := fun W hW => by obtain ⟨j, rfl⟩ := hW; exact y0
          have g1 : ∀ W, (∃ j, W = W1.drewN j) → W.cell? ⟨b1, o1 + k * 3 + 1, none⟩ = some (.string f11) := fun W hW => by obtain ⟨j, rfl⟩ := hW; exact x1
          have e1 : ∀ W, (∃ j, W = W1.drewN j) → W.cell? ⟨b2, o2 + k * 3 + 1, none⟩ = some (.string f12) := fun W hW => by obtain ⟨j, rfl⟩ := hW; exact y1
          have g2 : ∀ W, (∃ j, W = W1.drewN j) → W.cell? ⟨b1, o1 + k * 3 + 2, none⟩ = some (.int .i64 l21) := fun W hW => by obtain ⟨j, rfl⟩ := hW; exact x2
          have e2 : ∀ W, (∃ j, W = W1.drewN j) → W.cell? ⟨b2, o2 + k * 3 + 2, none⟩ = some (.int .i64 l22) := fun W hW => by obtain ⟨j, rfl⟩ := hW; exact y2
          clear x0 x1 x2 y0 y1 y2
          by_cases hq : f01 = f02 ∧ f11 = f12 ∧ l21 = l22
          · have hg := Lib.hid (hyes'.out (by simp [hq, spotEq]))
            obtain ⟨rfl, rfl, rfl⟩ := hq
            clear hyes' hno'
            go_wp2
            refine wp_drawn_on (fun W => ∃ j, W = W1.drewN j) (by kernel_rfl) (⟨m + 1, rfl⟩) (fun hHeld => ?_)
            refine wpAnyH_take (i := 0) (oi := { dst := some 65, op := Go.Op.fieldAddr 26 (Go.Operand.tmp 2) 2, type := 0, pos := "ref.go:256", after := #[], guard := none }) (v := ?v23) rfl (by kernel_rfl) (by kernel_rfl) (by kernel_rfl) (fun _ _ _ h => h) (Or.inl ⟨by kernel_rfl, ?h23⟩) (by assumption) ?r23
            case h23 => (intro w hSw; (try dsimp only at hSw); go_simp; try with_reducible rfl)
            try simp only [Act.put, List.setIfInBounds_toArray, List.set_cons_zero, List.set_cons_succ]
            refine wpAnyH_take (i := 1) (oi := { dst := some 66, op := Go.Op.load 23 (Go.Operand.tmp 65), type := 23, pos := "ref.go:256", after := #[{ on := 0, ground := Go.Ground.data }], guard := none }) (v := ?v24) rfl (by kernel_rfl) (by kernel_rfl) (by kernel_rfl) (fun _ _ _ h => h) (Or.inl ⟨by kernel_rfl, ?h24⟩) (by assumption) ?r24
            case h24 => (intro w hSw; (try dsimp only at hSw); go_simp; try with_reducible rfl)
            try simp only [Act.put, List.setIfInBounds_toArray, List.set_cons_zero, List.set_cons_succ]
            refine wpAnyH_take (i := 2) (oi := { dst := some 67, op := Go.Op.move (Go.Operand.tmp 6), type := 3, pos := "ref.go:256", after := #[], guard := none }) (v := ?v25) rfl (by kernel_rfl) (by kernel_rfl) (by kernel_rfl) (fun _ _ _ h => h) (Or.inl ⟨by kernel_rfl, ?h25⟩) (by assumption) ?r25
            case h25 => (intro w hSw; (try dsimp only at hSw); go_simp; try with_reducible rfl)
            try simp only [Act.put, List.setIfInBounds_toArray, List.set_cons_zero, List.set_cons_succ]
            refine wpAnyH_take (i := 3) (oi := { dst := some 68, op := Go.Op.indexAddr 23 (Go.Operand.tmp 66) (Go.Operand.tmp 67), type := 0, pos := "ref.go:256", after := #[{ on := 1, ground := Go.Ground.data }, { on := 2, ground := Go.Ground.data }], guard := none }) (v := ?v26) rfl (by kernel_rfl) (by kernel_rfl) (by kernel_rfl) (fun _ _ _ h => h) (Or.inl ⟨by kernel_rfl, ?h26⟩) (by assumption) ?r26
            case h26 => (intro w hSw; (try dsimp only at hSw); go_simp; try with_reducible rfl)
            try simp only [Act.put, List.setIfInBounds_toArray, List.set_cons_zero, List.set_cons_succ]
            refine wpAnyH_take (i := 4) (oi := { dst := some 69, op := Go.Op.load 54 (Go.Operand.tmp 68), type := 54, pos := "ref.go:256", after := #[{ on := 3, ground := Go.Ground.data }], guard := none }) (v := ?v27) rfl (by kernel_rfl) (by kernel_rfl) (by kernel_rfl) (fun _ _ _ h => h) (Or.inl ⟨by kernel_rfl, ?h27⟩) (by assumption) ?r27
            case h27 => (intro w hSw; (try dsimp only at hSw); go_simp; try with_reducible rfl)
            try simp only [Act.put, List.setIfInBounds_toArray, List.set_cons_zero, List.set_cons_succ]
            refine wpAnyH_take (i := 5) (oi := { dst := some 70, op := Go.Op.fieldAddr 26 (Go.Operand.tmp 3) 2, type := 0, pos := "ref.go:256", after := #[], guard := none }) (v := ?v28) rfl (by kernel_rfl) (by kernel_rfl) (by kernel_rfl) (fun _ _ _ h => h) (Or.inl ⟨by kernel_rfl, ?h28⟩) (by assumption) ?r28
            case h28 => (intro w hSw; (try dsimp only at hSw); go_simp; try with_reducible rfl)
            try simp only [Act.put, List.setIfInBounds_toArray, List.set_cons_zero, List.set_cons_succ]
            refine wpAnyH_take (i := 6) (oi := { dst := some 71, op := Go.Op.load 23 (Go.Operand.tmp 70), type := 23, pos := "ref.go:256", after := #[{ on := 5, ground := Go.Ground.data }], guard := none }) (v := ?v29) rfl (by kernel_rfl) (by kernel_rfl) (by kernel_rfl) (fun _ _ _ h => h) (Or.inl ⟨by kernel_rfl, ?h29⟩) (by assumption) ?r29
            case h29 => (intro w hSw; (try dsimp only at hSw); go_simp; try with_reducible rfl)
            try simp only [Act.put, List.setIfInBounds_toArray, List.set_cons_zero, List.set_cons_succ]
            refine wpAnyH_take (i := 7) (oi := { dst := some 72, op := Go.Op.move (Go.Operand.tmp 6), type := 3, pos := "ref.go:256", after := #[], guard := none }) (v := ?v30) rfl (by kernel_rfl) (by kernel_rfl) (by kernel_rfl) (fun _ _ _ h => h) (Or.inl ⟨by kernel_rfl, ?h30⟩) (by assumption) ?r30
            case h30 => (intro w hSw; (try dsimp only at hSw); go_simp; try with_reducible rfl)
            try simp only [Act.put, List.setIfInBounds_toArray, List.set_cons_zero, List.set_cons_succ]
            refine wpAnyH_take (i := 8) (oi := { dst := some 73, op := Go.Op.indexAddr 23 (Go.Operand.tmp 71) (Go.Operand.tmp 72), type := 0, pos := "ref.go:256", after := #[{ on := 6, ground := Go.Ground.data }, { on := 7, ground := Go.Ground.data }], guard := none }) (v := ?v31) rfl (by kernel_rfl) (by kernel_rfl) (by kernel_rfl) (fun _ _ _ h => h) (Or.inl ⟨by kernel_rfl, ?h31⟩) (by assumption) ?r31
            case h31 => (intro w hSw; (try dsimp only at hSw); go_simp; try with_reducible rfl)
            try simp only [Act.put, List.setIfInBounds_toArray, List.set_cons_zero, List.set_cons_succ]
            refine wpAnyH_take (i := 9) (oi := { dst := some 74, op := Go.Op.load 54 (Go.Operand.tmp 73), type := 54, pos := "ref.go:256", after := #[{ on := 8, ground := Go.Ground.data }], guard := none }) (v := ?v32) rfl (by kernel_rfl) (by kernel_rfl) (by kernel_rfl) (fun _ _ _ h => h) (Or.inl ⟨by kernel_rfl, ?h32⟩) (by assumption) ?r32
            case h32 => (intro w hSw; (try dsimp only at hSw); go_simp; try with_reducible rfl)
            try simp only [Act.put, List.setIfInBounds_toArray, List.set_cons_zero, List.set_cons_succ]
            refine wpAnyH_take (i := 10) (oi := { dst := some 75, op := Go.Op.binOp Go.BinOp.neq 54 (Go.Operand.tmp 69) (Go.Operand.tmp 74) 54, type := 4, pos := "ref.go:256", after := #[{ on := 4, ground := Go.Ground.data }, { on := 9, ground := Go.Ground.data }], guard := none }) (v := ?v33) rfl (by kernel_rfl) (by kernel_rfl) (by kernel_rfl) (fun _ _ _ h => h) (Or.inl ⟨by kernel_rfl, ?h33⟩) (by assumption) ?r33
            case h33 => (intro w hSw; (try dsimp only at hSw); refine Eq.trans (b := Result.ok (Next.value (.bool false)) w) (by go_simp; try simp [ptxt_eq]) ?_; with_reducible rfl)
            try simp only [Act.put, List.setIfInBounds_toArray, List.set_cons_zero, List.set_cons_succ]
            refine wpAnyH_done (by kernel_rfl) ?_ _
            clear gk gj g0 e0 g1 e1 g2 e2
            go_wp2
            go_roundw
            case rel => exact ⟨k + 1, m + 1, by omega, by go_num, hg, rfl⟩
            case measure => simp [intOf]; omega
          · have hf := Lib.hid (hno'.out (by cases hx : spotEq (⟨f01, f11, l21⟩ : SpotD) ⟨f02, f12, l22⟩ with | false => rfl | true => exact absurd (by simpa [spotEq] using hx) hq))
            clear hyes' hno'
            have hRf : Hid (R = false) := Lib.hid (by rw [hR3.out, hf.out]; rfl)
            go_wp2
            refine wp_drawn_on (fun W => ∃ j, W = W1.drewN j) (by kernel_rfl) (⟨m + 1, rfl⟩) (fun hHeld => ?_)
            refine wpAnyH_take (i := 0) (oi := { dst := some 65, op := Go.Op.fieldAddr 26 (Go.Operand.tmp 2) 2, type := 0, pos := "ref.go:256", after := #[], guard := none }) (v := ?v34) rfl (by kernel_rfl) (by kernel_rfl) (by kernel_rfl) (fun _ _ _ h => h) (Or.inl ⟨by kernel_rfl, ?h34⟩) (by assumption) ?r34
            case h34 => (intro w hSw; (try dsimp only at hSw); go_simp; try with_reducible rfl)
            try simp only [Act.put, List.setIfInBounds_toArray, List.set_cons_zero, List.set_cons_succ]
            refine wpAnyH_take (i := 1) (oi := { dst := some 66, op := Go.Op.load 23 (Go.Operand.tmp 65), type := 23, pos := "ref.go:256", after := #[{ on := 0, ground := Go.Ground.data }], guard := none }) (v := ?v35) rfl (by kernel_rfl) (by kernel_rfl) (by kernel_rfl) (fun _ _ _ h => h) (Or.inl ⟨by kernel_rfl, ?h35⟩) (by assumption) ?r35
            case h35 => (intro w hSw; (try dsimp only at hSw); go_simp; try with_reducible rfl)
            try simp only [Act.put, List.setIfInBounds_toArray, List.set_cons_zero, List.set_cons_succ]
            refine wpAnyH_take (i := 2) (oi := { dst := some 67, op := Go.Op.move (Go.Operand.tmp 6), type := 3, pos := "ref.go:256", after := #[], guard := none }) (v := ?v36) rfl (by kernel_rfl) (by kernel_rfl) (by kernel_rfl) (fun _ _ _ h => h) (Or.inl ⟨by kernel_rfl, ?h36⟩) (by assumption) ?r36
            case h36 => (intro w hSw; (try dsimp only at hSw); go_simp; try with_reducible rfl)
            try simp only [Act.put, List.setIfInBounds_toArray, List.set_cons_zero, List.set_cons_succ]
            refine wpAnyH_take (i := 3) (oi := { dst := some 68, op := Go.Op.indexAddr 23 (Go.Operand.tmp 66) (Go.Operand.tmp 67), type := 0, pos := "ref.go:256", after := #[{ on := 1, ground := Go.Ground.data }, { on := 2, ground := Go.Ground.data }], guard := none }) (v := ?v37) rfl (by kernel_rfl) (by kernel_rfl) (by kernel_rfl) (fun _ _ _ h => h) (Or.inl ⟨by kernel_rfl, ?h37⟩) (by assumption) ?r37
            case h37 => (intro w hSw; (try dsimp only at hSw); go_simp; try with_reducible rfl)
            try simp only [Act.put, List.setIfInBounds_toArray, List.set_cons_zero, List.set_cons_succ]
            refine wpAnyH_take (i := 4) (oi := { dst := some 69, op := Go.Op.load 54 (Go.Operand.tmp 68), type := 54, pos := "ref.go:256", after := #[{ on := 3, ground := Go.Ground.data }], guard := none }) (v := ?v38) rfl (by kernel_rfl) (by kernel_rfl) (by kernel_rfl) (fun _ _ _ h => h) (Or.inl ⟨by kernel_rfl, ?h38⟩) (by assumption) ?r38
            case h38 => (intro w hSw; (try dsimp only at hSw); go_simp; try with_reducible rfl)
            try simp only [Act.put, List.setIfInBounds_toArray, List.set_cons_zero, List.set_cons_succ]
            refine wpAnyH_take (i := 5) (oi := { dst := some 70, op := Go.Op.fieldAddr 26 (Go.Operand.tmp 3) 2, type := 0, pos := "ref.go:256", after := #[], guard := none }) (v := ?v39) rfl (by kernel_rfl) (by kernel_rfl) (by kernel_rfl) (fun _ _ _ h => h) (Or.inl ⟨by kernel_rfl, ?h39⟩) (by assumption) ?r39
            case h39 => (intro w hSw; (try dsimp only at hSw); go_simp; try with_reducible rfl)
            try simp only [Act.put, List.setIfInBounds_toArray, List.set_cons_zero, List.set_cons_succ]
            refine wpAnyH_take (i := 6) (oi := { dst := some 71, op := Go.Op.load 23 (Go.Operand.tmp 70), type := 23, pos := "ref.go:256", after := #[{ on := 5, ground := Go.Ground.data }], guard := none }) (v := ?v40) rfl (by kernel_rfl) (by kernel_rfl) (by kernel_rfl) (fun _ _ _ h => h) (Or.inl ⟨by kernel_rfl, ?h40⟩) (by assumption) ?r40
            case h40 => (intro w hSw; (try dsimp only at hSw); go_simp; try with_reducible rfl)
            try simp only [Act.put, List.setIfInBounds_toArray, List.set_cons_zero, List.set_cons_succ]
            refine wpAnyH_take (i := 7) (oi := { dst := some 72, op := Go.Op.move (Go.Operand.tmp 6), type := 3, pos := "ref.go:256", after := #[], guard := none }) (v := ?v41) rfl (by kernel_rfl) (by kernel_rfl) (by kernel_rfl) (fun _ _ _ h => h) (Or.inl ⟨by kernel_rfl, ?h41⟩) (by assumption) ?r41
            case h41 => (intro w hSw; (try dsimp only at hSw); go_simp; try with_reducible rfl)
            try simp only [Act.put, List.setIfInBounds_toArray, List.set_cons_zero, List.set_cons_succ]
            refine wpAnyH_take (i := 8) (oi := { dst := some 73, op := Go.Op.indexAddr 23 (Go.Operand.tmp 71) (Go.Operand.tmp 72), type := 0, pos := "ref.go:256", after := #[{ on := 6, ground := Go.Ground.data }, { on := 7, ground := Go.Ground.data }], guard := none }) (v := ?v42) rfl (by kernel_rfl) (by kernel_rfl) (by kernel_rfl) (fun _ _ _ h => h) (Or.inl ⟨by kernel_rfl, ?h42⟩) (by assumption) ?r42
            case h42 => (intro w hSw; (try dsimp only at hSw); go_simp; try with_reducible rfl)
            try simp only [Act.put, List.setIfInBounds_toArray, List.set_cons_zero, List.set_cons_succ]
            refine wpAnyH_take (i := 9) (oi := { dst := some 74, op := Go.Op.load 54 (Go.Operand.tmp 73), type := 54, pos := "ref.go:256", after := #[{ on := 8, ground := Go.Ground.data }], guard := none }) (v := ?v43) rfl (by kernel_rfl) (by kernel_rfl) (by kernel_rfl) (fun _ _ _ h => h) (Or.inl ⟨by kernel_rfl, ?h43⟩) (by assumption) ?r43
            case h43 => (intro w hSw; (try dsimp only at hSw); go_simp; try with_reducible rfl)
            try simp only [Act.put, List.setIfInBounds_toArray, List.set_cons_zero, List.set_cons_succ]
            refine wpAnyH_take (i := 10) (oi := { dst := some 75, op := Go.Op.binOp Go.BinOp.neq 54 (Go.Operand.tmp 69) (Go.Operand.tmp 74) 54, type := 4, pos := "ref.go:256", after := #[{ on := 4, ground := Go.Ground.data }, { on := 9, ground := Go.Ground.data }], guard := none }) (v := ?v44) rfl (by kernel_rfl) (by kernel_rfl) (by kernel_rfl) (fun _ _ _ h => h) (Or.inl ⟨by kernel_rfl, ?h44⟩) (by assumption) ?r44
            case h44 => (intro w hSw; (try dsimp only at hSw); refine Eq.trans (b := Result.ok (Next.value (.bool true)) w) (by go_simp; by_cases h0 : f01 = f02 <;> by_cases h1 : f11 = f12 <;> by_cases h2 : l21 = l22 <;> simp_all [ptxt_eq, ptl_iff]) ?_; with_reducible rfl)
            try simp only [Act.put, List.setIfInBounds_toArray, List.set_cons_zero, List.set_cons_succ]
            refine wpAnyH_done (by kernel_rfl) ?_ _
            clear gk gj g0 e0 g1 e1 g2 e2
            go_wp2
            go_ret
            exact ⟨ret_bool hRf.out.symm, Below.drewN BL.out (m + 1)⟩
        · have hki : ¬ (k : Int) < (pn2 : Int) := by omega
          have hb := Lib.hid (ys.out (fun t ht => hal.out t (by rw [← ls1.out] at ht; omega)))
          have hR4 : Hid (R = be) := Lib.hid (by rw [hR3.out, hb.out]; rfl)
          clear hb hR3 ns ys
          go_wp2
          clear hki hlt hk
          go_loopw [7] (fun x wr => ∃ k m : Nat, k ≤ pn3 ∧ x = .int .i64 k ∧ Hid (∀ t, t < k → edgeEq (A.edges.getD t edge0) (B.edges.getD t edge0) = true) ∧ wr = W1.drewN m) (fun x _ => pn3 - (intOf x).toNat)
          case atStart => exact ⟨0, m, by omega, rfl, Lib.hid (fun t ht => by omega), rfl⟩
          case round =>
            clear hal
            obtain ⟨k, m, hk, rfl, hal, rfl⟩ := hrel
            by_cases hlt : k < pn3
            · have hki : (k : Int) < (pn3 : Int) := by omega
              have hk2 : k < qn3 := by have := g3'.out; omega
              have hki2 : (k : Int) < (qn3 : Int) := by omega
              obtain ⟨b1, o1, rfl, -, x0, x1, x2, x3, x4, x5, x6⟩ := edges_at E1.out hlt
              obtain ⟨b2, o2, rfl, -, y0, y1, y2, y3, y4, y5, y6⟩ := edges_at E2.out hk2
              have hno' := Lib.hid (ne.out k (by rw [← le1.out]; exact hlt))
              have hyes' : Hid (edgeEq (A.edges.getD k edge0) (B.edges.getD k edge0) = true → ∀ t, t < k + 1 → edgeEq (A.edges.getD t edge0) (B.edges.getD t edge0) = true) := Lib.hid (fun h t ht => by
                by_cases e : t = k
                · rw [e]; exact h
                · exact hal.out t (by omega))
              obtain ⟨f01, d11, k21, x31, y41, c51, d61, ha1⟩ : ∃ f01 d11 k21 x31 y41 c51 d61, A.edges.getD k edge0 = (⟨f01, d11, k21, x31, y41, c51, d61⟩ : EdgeD) := ⟨_, _, _, _, _, _, _, rfl⟩
              obtain ⟨f02, d12, k22, x32, y42, c52, d62, ha2⟩ : ∃ f02 d12 k22 x32 y42 c52 d62, B.edges.getD k edge0 = (⟨f02, d12, k22, x32, y42, c52, d62⟩ : EdgeD) := ⟨_, _, _, _, _, _, _, rfl⟩
              rw [ha1] at x0 x1 x2 x3 x4 x5 x6 hno' hyes'
              rw [ha2] at y0 y1 y2 y3 y4 y5 y6 hno' hyes'
              dsimp only at x0 x1 x2 x3 x4 x5 x6 y0 y1 y2 y3 y4 y5 y6
              clear ha1 ha2 hal ne
              have gk : ∀ W, (∃ j, W = W1.drewN j) → W.cell? ⟨w.heap.size, 3, none⟩ = some (.slice (some ⟨b1, o1, none⟩) pn3 pc3) := fun W hW => by obtain ⟨j, rfl⟩ := hW; exact k3
              have gj : ∀ W, (∃ j, W = W1.drewN j) → W.cell? ⟨w.heap.size + 1, 3, none⟩ = some (.slice (some ⟨b2, o2, none⟩) qn3 qc3) := fun W hW => by obtain ⟨j, rfl⟩ := hW; exact j3
              have g0 : ∀ W, (∃ j, W = W1.drewN j) → W.cell? ⟨b1, o1 + k * 7, none⟩ = some (.int .i64 f01) := fun W hW => by obtain ⟨j, rfl⟩ := hW; exact x0
              have e0 : ∀ W, (∃ j, W = W1.drewN j) → W.cell? ⟨b2, o2 + k * 7, none⟩ = some (.int .i64 f02) := fun W hW => by obtain ⟨j, rfl⟩ := hW; exact y0
              have g1 : ∀ W, (∃ j, W = W1.drewN j) → W.cell? ⟨b1, o1 + k * 7 + 1, none⟩ = some (.int .i64 d11) := fun W hW => by obtain ⟨j, rfl⟩ := hW; exact x1
              have e1 : ∀ W, (∃ j, W = W1.drewN j) → W.cell? ⟨b2, o2 + k * 7 + 1, none⟩ = some (.int .i64 d12) := fun W hW => by obtain ⟨j, rfl⟩ := hW; exact y1
              have g2 : ∀ W, (∃ j, W = W1.drewN j) → W.cell? ⟨b1, o1 + k * 7 + 2, none⟩ = some (.int .i64 k21) := fun W hW => by obtain ⟨j, rfl⟩ := hW; exact x2
              have e2 : ∀ W, (∃ j, W = W1.drewN j) → W.cell? ⟨b2, o2 + k * 7 + 2, none⟩ = some (.int .i64 k22) := fun W hW => by obtain ⟨j, rfl⟩ := hW; exact y2
              have g3 : ∀ W, (∃ j, W = W1.drewN j) → W.cell? ⟨b1, o1 + k * 7 + 3, none⟩ = some (.int .i64 x31) := fun W hW => by obtain ⟨j, rfl⟩ := hW; exact x3
              have e3 : ∀ W, (∃ j, W = W1.drewN j) → W.cell? ⟨b2, o2 + k * 7 + 3, none⟩ = some (.int .i64 x32) := fun W hW => by obtain ⟨j, rfl⟩ := hW; exact y3
              have g4 : ∀ W, (∃ j, W = W1.drewN j) → W.cell? ⟨b1, o1 + k * 7 + 4, none⟩ = some (.int .i64 y41) := fun W hW => by obtain ⟨j, rfl⟩ := hW; exact x4
              have e4 : ∀ W, (∃ j, W = W1.drewN j) → W.cell? ⟨b2, o2 + k * 7 + 4, none⟩ = some (.int .i64 y42) := fun W hW => by obtain ⟨j, rfl⟩ := hW; exact y4
              have g5 : ∀ W, (∃ j, W = W1.drewN j) → W.cell? ⟨b1, o1 + k * 7 + 5, none⟩ = some (.int .i64 c51) := fun W hW => by obtain ⟨j, rfl⟩ := hW; exact x5
              have e5 : ∀ W, (∃ j, W = W1.drewN j) → W.cell? ⟨b2, o2 + k * 7 + 5, none⟩ = some (.int .i64 c52) := fun W hW => by obtain ⟨j, rfl⟩ := hW; exact y5
              have g6 : ∀ W, (∃ j, W = W1.drewN j) → W.cell? ⟨b1, o1 + k * 7 + 6, none⟩ = some (.int .i64 d61) := fun W hW => by obtain ⟨j, rfl⟩ := hW; exact x6
              have e6 : ∀ W, (∃ j, W = W1.drewN j) → W.cell? ⟨b2, o2 + k * 7 + 6, none⟩ = some (.int .i64 d62) := fun W hW => by obtain ⟨j, rfl⟩ := hW; exact y6
              clear x0 x1 x2 x3 x4 x5 x6 y0 y1 y2 y3 y4 y5 y6
              by_cases hq : f01 = f02 ∧ d11 = d12 ∧ k21 = k22 ∧ x31 = x32 ∧ y41 = y42 ∧ c51 = c52 ∧ d61 = d62
              · have hg := Lib.hid (hyes'.out (by simp [hq, edgeEq]))
                obtain ⟨rfl, rfl, rfl, rfl, rfl, rfl, rfl⟩ := hq
                clear hyes' hno'
                go_wp2
                refine wp_drawn_on (fun W => ∃ j, W = W1.drewN j) (by kernel_rfl) (⟨m + 1, rfl⟩) (fun hHeld => ?_)
                refine wpAnyH_take (i := 0) (oi := { dst := some 83, op := Go.Op.fieldAddr 26 (Go.Operand.tmp 2) 3, type := 0, pos := "ref.go:261", after := #[], guard := none }) (v := ?v45) rfl (by kernel_rfl) (by kernel_rfl) (by kernel_rfl) (fun _ _ _ h => h) (Or.inl ⟨by kernel_rfl, ?h45⟩) (by assumption) ?r45
                case h45 => (intro w hSw; (try dsimp only at hSw); go_simp; try with_reducible rfl)
                try simp only [Act.put, List.setIfInBounds_toArray, List.set_cons_zero, List.set_cons_succ]
                refine wpAnyH_take (i := 1) (oi := { dst := some 84, op := Go.Op.load 24 (Go.Operand.tmp 83), type := 24, pos := "ref.go:261", after := #[{ on := 0, ground := Go.Ground.data }], guard := none }) (v := ?v46) rfl (by kernel_rfl) (by kernel_rfl) (by kernel_rfl) (fun _ _ _ h => h) (Or.inl ⟨by kernel_rfl, ?h46⟩) (by assumption) ?r46
                case h46 => (intro w hSw; (try dsimp only at hSw); go_simp; try with_reducible rfl)
                try simp only [Act.put, List.setIfInBounds_toArray, List.set_cons_zero, List.set_cons_succ]
                refine wpAnyH_take (i := 2) (oi := { dst := some 85, op := Go.Op.move (Go.Operand.tmp 7), type := 3, pos := "ref.go:261", after := #[], guard := none }) (v := ?v47) rfl (by kernel_rfl) (by kernel_rfl) (by kernel_rfl) (fun _ _ _ h => h) (Or.inl ⟨by kernel_rfl, ?h47⟩) (by assumption) ?r47
                case h47 => (intro w hSw; (try dsimp only at hSw); go_simp; try with_reducible rfl)
                try simp only [Act.put, List.setIfInBounds_toArray, List.set_cons_zero, List.set_cons_succ]
                refine wpAnyH_take (i := 3) (oi := { dst := some 86, op := Go.Op.indexAddr 24 (Go.Operand.tmp 84) (Go.Operand.tmp 85), type := 0, pos := "ref.go:261", after := #[{ on := 1, ground := Go.Ground.data }, { on := 2, ground := Go.Ground.data }], guard := none }) (v := ?v48) rfl (by kernel_rfl) (by kernel_rfl) (by kernel_rfl) (fun _ _ _ h => h) (Or.inl ⟨by kernel_rfl, ?h48⟩) (by assumption) ?r48
                case h48 => (intro w hSw; (try dsimp only at hSw); go_simp; try with_reducible rfl)
                try simp only [Act.put, List.setIfInBounds_toArray, List.set_cons_zero, List.set_cons_succ]
                refine wpAnyH_take (i := 4) (oi := { dst := some 87, op := Go.Op.load 52 (Go.Operand.tmp 86), type := 52, pos := "ref.go:261", after := #[{ on := 3, ground := Go.Ground.data }], guard := none }) (v := ?v49) rfl (by kernel_rfl) (by kernel_rfl) (by kernel_rfl) (fun _ _ _ h => h) (Or.inl ⟨by kernel_rfl, ?h49⟩) (by assumption) ?r49
                case h49 => (intro w hSw; (try dsimp only at hSw); go_simp; try with_reducible rfl)
                try simp only [Act.put, List.setIfInBounds_toArray, List.set_cons_zero, List.set_cons_succ]
                refine wpAnyH_take (i := 5) (oi := { dst := some 88, op := Go.Op.fieldAddr 26 (Go.Operand.tmp 3) 3, type := 0, pos := "ref.go:261", after := #[], guard := none }) (v := ?v50) rfl (by kernel_rfl) (by kernel_rfl) (by kernel_rfl) (fun _ _ _ h => h) (Or.inl ⟨by kernel_rfl, ?h50⟩) (by assumption) ?r50
                case h50 => (intro w hSw; (try dsimp only at hSw); go_simp; try with_reducible rfl)
                try simp only [Act.put, List.setIfInBounds_toArray, List.set_cons_zero, List.set_cons_succ]
                refine wpAnyH_take (i := 6) (oi := { dst := some 89, op := Go.Op.load 24 (Go.Operand.tmp 88), type := 24, pos := "ref.go:261", after := #[{ on := 5, ground := Go.Ground.data }], guard := none }) (v := ?v51) rfl (by kernel_rfl) (by kernel_rfl) (by kernel_rfl) (fun _ _ _ h => h) (Or.inl ⟨by kernel_rfl, ?h51⟩) (by assumption) ?r51
                case h51 => (intro w hSw; (try dsimp only at hSw); go_simp; try with_reducible rfl)
                try simp only [Act.put, List.setIfInBounds_toArray, List.set_cons_zero, List.set_cons_succ]
                refine wpAnyH_take (i := 7) (oi := { dst := some 90, op := Go.Op.move (Go.Operand.tmp 7), type := 3, pos := "ref.go:261", after := #[], guard := none }) (v := ?v52) rfl (by kernel_rfl) (by kernel_rfl) (by kernel_rfl) (fun _ _ _ h => h) (Or.inl ⟨by kernel_rfl, ?h52⟩) (by assumption) ?r52
                case h52 => (intro w hSw; (try dsimp only at hSw); go_simp; try with_reducible rfl)
                try simp only [Act.put, List.setIfInBounds_toArray, List.set_cons_zero, List.set_cons_succ]
                refine wpAnyH_take (i := 8) (oi := { dst := some 91, op := Go.Op.indexAddr 24 (Go.Operand.tmp 89) (Go.Operand.tmp 90), type := 0, pos := "ref.go:261", after := #[{ on := 6, ground := Go.Ground.data }, { on := 7, ground := Go.Ground.data }], guard := none }) (v := ?v53) rfl (by kernel_rfl) (by kernel_rfl) (by kernel_rfl) (fun _ _ _ h => h) (Or.inl ⟨by kernel_rfl, ?h53⟩) (by assumption) ?r53
                case h53 => (intro w hSw; (try dsimp only at hSw); go_simp; try with_reducible rfl)
                try simp only [Act.put, List.setIfInBounds_toArray, List.set_cons_zero, List.set_cons_succ]
                refine wpAnyH_take (i := 9) (oi := { dst := some 92, op := Go.Op.load 52 (Go.Operand.tmp 91), type := 52, pos := "ref.go:261", after := #[{ on := 8, ground := Go.Ground.data }], guard := none }) (v := ?v54) rfl (by kernel_rfl) (by kernel_rfl) (by kernel_rfl) (fun _ _ _ h => h) (Or.inl ⟨by kernel_rfl, ?h54⟩) (by assumption) ?r54
                case h54 => (intro w hSw; (try dsimp only at hSw); go_simp; try with_reducible rfl)
                try simp only [Act.put, List.setIfInBounds_toArray, List.set_cons_zero, List.set_cons_succ]
                refine wpAnyH_take (i := 10) (oi := { dst := some 93, op := Go.Op.binOp Go.BinOp.neq 52 (Go.Operand.tmp 87) (Go.Operand.tmp 92) 52, type := 4, pos := "ref.go:261", after := #[{ on := 4, ground := Go.Ground.data }, { on := 9, ground := Go.Ground.data }], guard := none }) (v := ?v55) rfl (by kernel_rfl) (by kernel_rfl) (by kernel_rfl) (fun _ _ _ h => h) (Or.inl ⟨by kernel_rfl, ?h55⟩) (by assumption) ?r55
                case h55 => (intro w hSw; (try dsimp only at hSw); refine Eq.trans (b := Result.ok (Next.value (.bool false)) w) (by go_simp; try simp [ptxt_eq]) ?_; with_reducible rfl)
                try simp only [Act.put, List.setIfInBounds_toArray, List.set_cons_zero, List.set_cons_succ]
                refine wpAnyH_done (by kernel_rfl) ?_ _
                clear gk gj g0 e0 g1 e1 g2 e2 g3 e3 g4 e4 g5 e5 g6 e6
                go_wp2
                go_roundw
                case rel => exact ⟨k + 1, m + 1, by omega, by go_num, hg, rfl⟩
                case measure => simp [intOf]; omega
              · have hf := Lib.hid (hno'.out (by cases hx : edgeEq (⟨f01, d11, k21, x31, y41, c51, d61⟩ : EdgeD) ⟨f02, d12, k22, x32, y42, c52, d62⟩ with | false => rfl | true => exact absurd (by simpa [edgeEq] using hx) hq))
                clear hyes' hno'
                have hRf : Hid (R = false) := Lib.hid (by rw [hR4.out, hf.out])
                go_wp2
                refine wp_drawn_on (fun W => ∃ j, W = W1.drewN j) (by kernel_rfl) (⟨m + 1, rfl⟩) (fun hHeld => ?_)
                refine wpAnyH_take (i := 0) (oi := { dst := some 83, op := Go.Op.fieldAddr 26 (Go.Operand.tmp 2) 3, type := 0, pos := "ref.go:261", after := #[], guard := none }) (v := ?v56) rfl (by kernel_rfl) (by kernel_rfl) (by kernel_rfl) (fun _ _ _ h => h) (Or.inl ⟨by kernel_rfl, ?h56⟩) (by assumption) ?r56
                case h56 => (intro w hSw; (try dsimp only at hSw); go_simp; try with_reducible rfl)
                try simp only [Act.put, List.setIfInBounds_toArray, List.set_cons_zero, List.set_cons_succ]
                refine wpAnyH_take (i := 1) (oi := { dst := some 84, op := Go.Op.load 24 (Go.Operand.tmp 83), type := 24, pos := "ref.go:261", after := #[{ on := 0, ground := Go.Ground.data }], guard := none }) (v := ?v57) rfl (by kernel_rfl) (by kernel_rfl) (by kernel_rfl) (fun _ _ _ h => h) (Or.inl ⟨by kernel_rfl, ?h57⟩) (by assumption) ?r57
                case h57 => (intro w hSw; (try dsimp only at hSw); go_simp; try with_reducible rfl)
                try simp only [Act.put, List.setIfInBounds_toArray, List.set_cons_zero, List.set_cons_succ]
                refine wpAnyH_take (i := 2) (oi := { dst := some 85, op := Go.Op.move (Go.Operand.tmp 7), type := 3, pos := "ref.go:261", after := #[], guard := none }) (v := ?v58) rfl (by kernel_rfl) (by kernel_rfl) (by kernel_rfl) (fun _ _ _ h => h) (Or.inl ⟨by kernel_rfl, ?h58⟩) (by assumption) ?r58
                case h58 => (intro w hSw; (try dsimp only at hSw); go_simp; try with_reducible rfl)
                try simp only [Act.put, List.setIfInBounds_toArray, List.set_cons_zero, List.set_cons_succ]
                refine wpAnyH_take (i := 3) (oi := { dst := some 86, op := Go.Op.indexAddr 24 (Go.Operand.tmp 84) (Go.Operand.tmp 85), type := 0, pos := "ref.go:261", after := #[{ on := 1, ground := Go.Ground.data }, { on := 2, ground := Go.Ground.data }], guard := none }) (v := ?v59) rfl (by kernel_rfl) (by kernel_rfl) (by kernel_rfl) (fun _ _ _ h => h) (Or.inl ⟨by kernel_rfl, ?h59⟩) (by assumption) ?r59
                case h59 => (intro w hSw; (try dsimp only at hSw); go_simp; try with_reducible rfl)
                try simp only [Act.put, List.setIfInBounds_toArray, List.set_cons_zero, List.set_cons_succ]
                refine wpAnyH_take (i := 4) (oi := { dst := some 87, op := Go.Op.load 52 (Go.Operand.tmp 86), type := 52, pos := "ref.go:261", after := #[{ on := 3, ground := Go.Ground.data }], guard := none }) (v := ?v60) rfl (by kernel_rfl) (by kernel_rfl) (by kernel_rfl) (fun _ _ _ h => h) (Or.inl ⟨by kernel_rfl, ?h60⟩) (by assumption) ?r60
                case h60 => (intro w hSw; (try dsimp only at hSw); go_simp; try with_reducible rfl)
                try simp only [Act.put, List.setIfInBounds_toArray, List.set_cons_zero, List.set_cons_succ]
                refine wpAnyH_take (i := 5) (oi := { dst := some 88, op := Go.Op.fieldAddr 26 (Go.Operand.tmp 3) 3, type := 0, pos := "ref.go:261", after := #[], guard := none }) (v := ?v61) rfl (by kernel_rfl) (by kernel_rfl) (by kernel_rfl) (fun _ _ _ h => h) (Or.inl ⟨by kernel_rfl, ?h61⟩) (by assumption) ?r61
                case h61 => (intro w hSw; (try dsimp only at hSw); go_simp; try with_reducible rfl)
                try simp only [Act.put, List.setIfInBounds_toArray, List.set_cons_zero, List.set_cons_succ]
                refine wpAnyH_take (i := 6) (oi := { dst := some 89, op := Go.Op.load 24 (Go.Operand.tmp 88), type := 24, pos := "ref.go:261", after := #[{ on := 5, ground := Go.Ground.data }], guard := none }) (v := ?v62) rfl (by kernel_rfl) (by kernel_rfl) (by kernel_rfl) (fun _ _ _ h => h) (Or.inl ⟨by kernel_rfl, ?h62⟩) (by assumption) ?r62
                case h62 => (intro w hSw; (try dsimp only at hSw); go_simp; try with_reducible rfl)
                try simp only [Act.put, List.setIfInBounds_toArray, List.set_cons_zero, List.set_cons_succ]
                refine wpAnyH_take (i := 7) (oi := { dst := some 90, op := Go.Op.move (Go.Operand.tmp 7), type := 3, pos := "ref.go:261", after := #[], guard := none }) (v := ?v63) rfl (by kernel_rfl) (by kernel_rfl) (by kernel_rfl) (fun _ _ _ h => h) (Or.inl ⟨by kernel_rfl, ?h63⟩) (by assumption) ?r63
                case h63 => (intro w hSw; (try dsimp only at hSw); go_simp; try with_reducible rfl)
                try simp only [Act.put, List.setIfInBounds_toArray, List.set_cons_zero, List.set_cons_succ]
                refine wpAnyH_take (i := 8) (oi := { dst := some 91, op := Go.Op.indexAddr 24 (Go.Operand.tmp 89) (Go.Operand.tmp 90), type := 0, pos := "ref.go:261", after := #[{ on := 6, ground := Go.Ground.data }, { on := 7, ground := Go.Ground.data }], guard := none }) (v := ?v64) rfl (by kernel_rfl) (by kernel_rfl) (by kernel_rfl) (fun _ _ _ h => h) (Or.inl ⟨by kernel_rfl, ?h64⟩) (by assumption) ?r64
                case h64 => (intro w hSw; (try dsimp only at hSw); go_simp; try with_reducible rfl)
                try simp only [Act.put, List.setIfInBounds_toArray, List.set_cons_zero, List.set_cons_succ]
                refine wpAnyH_take (i := 9) (oi := { dst := some 92, op := Go.Op.load 52 (Go.Operand.tmp 91), type := 52, pos := "ref.go:261", after := #[{ on := 8, ground := Go.Ground.data }], guard := none }) (v := ?v65) rfl (by kernel_rfl) (by kernel_rfl) (by kernel_rfl) (fun _ _ _ h => h) (Or.inl ⟨by kernel_rfl, ?h65⟩) (by assumption) ?r65
                case h65 => (intro w hSw; (try dsimp only at hSw); go_simp; try with_reducible rfl)
                try simp only [Act.put, List.setIfInBounds_toArray, List.set_cons_zero, List.set_cons_succ]
                refine wpAnyH_take (i := 10) (oi := { dst := some 93, op := Go.Op.binOp Go.BinOp.neq 52 (Go.Operand.tmp 87) (Go.Operand.tmp 92) 52, type := 4, pos := "ref.go:261", after := #[{ on := 4, ground := Go.Ground.data }, { on := 9, ground := Go.Ground.data }], guard := none }) (v := ?v66) rfl (by kernel_rfl) (by kernel_rfl) (by kernel_rfl) (fun _ _ _ h => h) (Or.inl ⟨by kernel_rfl, ?h66⟩) (by assumption) ?r66
                case h66 => (intro w hSw; (try dsimp only at hSw); refine Eq.trans (b := Result.ok (Next.value (.bool true)) w) (by go_simp; by_cases h0 : f01 = f02 <;> by_cases h1 : d11 = d12 <;> by_cases h2 : k21 = k22 <;> by_cases h3 : x31 = x32 <;> by_cases h4 : y41 = y42 <;> by_cases h5 : c51 = c52 <;> by_cases h6 : d61 = d62 <;> simp_all [ptxt_eq, ptl_iff]) ?_; with_reducible rfl)
                try simp only [Act.put, List.setIfInBounds_toArray, List.set_cons_zero, List.set_cons_succ]
                refine wpAnyH_done (by kernel_rfl) ?_ _
                clear gk gj g0 e0 g1 e1 g2 e2 g3 e3 g4 e4 g5 e5 g6 e6
                go_wp2
                go_ret
                exact ⟨ret_bool hRf.out.symm, Below.drewN BL.out (m + 1)⟩
            · have hki : ¬ (k : Int) < (pn3 : Int) := by omega
              have hb := Lib.hid (ye.out (fun t ht => hal.out t (by rw [← le1.out] at ht; omega)))
              have hR5 : Hid (R = true) := Lib.hid (by rw [hR4.out, hb.out])
              clear hb hR4 ne ye
              go_wp2
              go_ret
              exact ⟨ret_bool hR5.out.symm, Below.drewN BL.out m⟩
end Go.Proofs.YtgeliikfgnkppaaGreatDoor
