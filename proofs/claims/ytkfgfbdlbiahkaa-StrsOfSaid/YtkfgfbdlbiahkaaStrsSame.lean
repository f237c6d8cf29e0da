/- Whether two rows of texts are the same; which are large. -/
import Derived.Test.YtkfgfbdlbiahkaaStrsCheck
import Derived.Test.YtkfgfbdlbiahkaaShelf
import Derived.Laws.Cover1
namespace Go.Proofs.Ytkfgfbdlbiahkaa
open Go.RowKit
set_option linter.unusedVariables false
set_option linter.unusedSimpArgs false

set_option maxRecDepth 100000 in
theorem equal_any (a1 a2 : Option Addr) (n1 n2 c1 c2 : Nat) (l1 l2 : List ByteArray) (h1n : n1 ≤ 9223372036854775807) (h2n : n2 ≤ 9223372036854775807) (w : World) (h1 : TT w a1 n1 c1 l1) (h2 : TT w a2 n2 c2 l2) :
    Calls Try.prog 42 #[.slice a1 n1 c1, .slice a2 n2 c2] w (DrawnB (.bool (decide (l1 = l2))) w) := by
  have e1 := h1.len
  have e2 := h2.len
  by_cases hz1 : n1 = 0
  · subst hz1
    obtain rfl : l1 = [] := List.eq_nil_of_length_eq_zero e1.symm
    refine (Try.slices_Equal_string_empty a1 a2 c1 n2 c2 w h2n).mono ?_
    rintro e w' ⟨rfl, rfl⟩
    refine ⟨ret_bool ?_, 0, rfl⟩
    rw [decide_eq_decide, e2]
    constructor
    · intro h; exact (List.eq_nil_of_length_eq_zero h).symm
    · intro h; rw [← h]; rfl
  · by_cases hz2 : n1 = n2
    · rcases h1.sees with h | ⟨b1, o1, rfl, -, hc1⟩
      · subst h; exact absurd e1 hz1
      rcases h2.sees with h | ⟨b2, o2, rfl, -, hc2⟩
      · subst h; exact absurd (hz2.trans e2) hz1
      refine (Try.slices_Equal_string b1 o1 n1 c1 b2 o2 n2 c2 l1 l2 w (by omega) (by omega) h1n h2n hc1 hc2).mono ?_
      rintro e w' ⟨rfl, q, rfl⟩
      refine ⟨?_, q, rfl⟩
      rw [List.take_of_length_le (by omega), List.take_of_length_le (by omega)]
    · refine (Try.slices_Equal_string_lens a1 a2 n1 c1 n2 c2 w hz2).mono ?_
      rintro e w' ⟨rfl, rfl⟩
      refine ⟨ret_bool (decide_eq_false ?_).symm, 0, rfl⟩
      intro h
      rw [h] at e1
      omega
set_option maxRecDepth 100000 in
theorem same_any (a1 a2 : Option Addr) (n1 n2 c1 c2 : Nat) (l1 l2 : List ByteArray) (h1n : n1 ≤ 9223372036854775807) (h2n : n2 ≤ 9223372036854775807) (w : World) (h1 : TT w a1 n1 c1 l1) (h2 : TT w a2 n2 c2 l2) :
    Calls Try.prog 18 #[.slice a1 n1 c1, .slice a2 n2 c2] w (DrawnB (.bool (decide (l1 = l2))) w) := by
  have hq := Lib.hid (equal_any a1 a2 n1 n2 c1 c2 l1 l2 h1n h2n w h1 h2)
  clear h1 h2
  generalize decide (l1 = l2) = y at *
  go_enter Try.func18, Try.ntmps18
  go_wp2_with fail
  refine hq.out.mono ?_
  rintro e w1 ⟨rfl, m, rfl⟩
  go_wp2
  go_ret
  exact ⟨rfl, m, rfl⟩
theorem same_no {l1 l2 : List ByteArray} {k : Nat} (h : l1.getD k e0 ≠ l2.getD k e0) : decide (l1 = l2) = false := decide_eq_false (fun e => h (by rw [e]))
theorem same_yes {l1 l2 : List ByteArray} (hl : l1.length = l2.length) (h : ∀ t, t < l1.length → l1.getD t e0 = l2.getD t e0) : decide (l1 = l2) = true := by
  refine decide_eq_true (List.ext_getElem hl fun i h1 h2 => ?_)
  have := h i h1
  simpa [List.getD, h1, h2] using this
set_option maxRecDepth 100000 in
set_option maxHeartbeats 1000000 in
theorem rsame_any (a1 a2 : Option Addr) (n1 n2 c1 c2 : Nat) (l1 l2 : List ByteArray) (hn : n1 ≤ 9223372036854775806) (w : World) (h1 : TT w a1 n1 c1 l1) (h2 : TT w a2 n2 c2 l2) :
    Calls Try.prog 13 #[.slice a1 n1 c1, .slice a2 n2 c2] w (DrawnB (.bool (decide (l1 = l2))) w) := by
  have hl1 := Lib.hid h1.len
  have hl2 := Lib.hid h2.len
  have T1 := Lib.hid h1
  have T2 := Lib.hid h2
  clear h1 h2
  by_cases hne : n1 = n2
  · have e0' : (n1 != n2) = false := by simpa using hne
    have hne' := Lib.hid hne
    have hno := Lib.hid (fun k h => same_no (l1 := l1) (l2 := l2) (k := k) h)
    have hyes := Lib.hid (fun h => same_yes (l1 := l1) (l2 := l2) (by rw [← hl1.out, ← hl2.out]; exact hne) h)
    clear hne
    generalize decide (l1 = l2) = R at *
    go_enter Try.func13, Try.ntmps13
    go_wp2
    go_loopw [5] (fun x wr => ∃ k m : Nat, k ≤ n1 ∧ x = .int .i64 k ∧ Hid (∀ t, t < k → l1.getD t e0 = l2.getD t e0) ∧ wr = w.drewN m) (fun x _ => n1 - (intOf x).toNat)
    case atStart => exact ⟨0, 0, by omega, rfl, Lib.hid (by intro t ht; omega), rfl⟩
    case round =>
      obtain ⟨k, m, hk, rfl, hal, rfl⟩ := hrel
      by_cases hlt : k < n1
      · have hki : (k : Int) < (n1 : Int) := by omega
        have hki2 : (k : Int) < (n2 : Int) := by have := hne'.out; omega
        have hk2 : k < n2 := by have := hne'.out; omega
        obtain ⟨b1, o1, rfl, -, hc1⟩ := T1.out.at_ (k := k) (by rw [← hl1.out]; exact hlt)
        obtain ⟨b2, o2, rfl, -, hc2⟩ := T2.out.at_ (k := k) (by rw [← hl2.out]; exact hk2)
        have x0 := hc1 k (by rw [← hl1.out]; exact hlt)
        have y0 := hc2 k (by rw [← hl2.out]; exact hk2)
        have hN := Lib.hid (hno.out k)
        have hY : Hid (l1.getD k e0 = l2.getD k e0 → ∀ t, t < k + 1 → l1.getD t e0 = l2.getD t e0) := Lib.hid (fun h t ht => by
          by_cases e : t = k
          · rw [e]; exact h
          · exact hal.out t (by omega))
        clear hc1 hc2 hal hno
        generalize l1.getD k e0 = s at *
        generalize l2.getD k e0 = t at *
        have g0 : ∀ W, (∃ j, W = w.drewN j) → W.cell? ⟨b1, o1 + k, none⟩ = some (.string s) := fun W hW => by obtain ⟨j, rfl⟩ := hW; exact x0
        have g1 : ∀ W, (∃ j, W = w.drewN j) → W.cell? ⟨b2, o2 + k, none⟩ = some (.string t) := fun W hW => by obtain ⟨j, rfl⟩ := hW; exact y0
        clear x0 y0
        by_cases hst : s = t
        · have hS := Lib.hid (hY.out hst)
          have e1 : (s.toList == t.toList) = true := by rw [txt_eq]; exact decide_eq_true hst
          clear hY hN hyes hst
          go_wp2
          refine wp_drawn_on (fun W => ∃ j, W = w.drewN j) (by kernel_rfl) (⟨m + 1, rfl⟩) (fun hHeld => ?_)
          refine wpAnyH_take (i := 0) (oi := { dst := some 17, op := Go.Op.move (Go.Operand.tmp 0), type := 22, pos := "ref.go:117", after := #[], guard := none }) (v := ?v1) rfl (by kernel_rfl) (by kernel_rfl) (by kernel_rfl) (fun _ _ _ h => h) (Or.inl ⟨by kernel_rfl, ?h1⟩) (by assumption) ?r1
          case h1 => (intro w hSw; (try dsimp only at hSw); go_simp; try with_reducible rfl)
          try simp only [Act.put, List.setIfInBounds_toArray, List.set_cons_zero, List.set_cons_succ]
          refine wpAnyH_take (i := 1) (oi := { dst := some 18, op := Go.Op.move (Go.Operand.tmp 5), type := 3, pos := "ref.go:117", after := #[], guard := none }) (v := ?v2) rfl (by kernel_rfl) (by kernel_rfl) (by kernel_rfl) (fun _ _ _ h => h) (Or.inl ⟨by kernel_rfl, ?h2⟩) (by assumption) ?r2
          case h2 => (intro w hSw; (try dsimp only at hSw); go_simp; try with_reducible rfl)
          try simp only [Act.put, List.setIfInBounds_toArray, List.set_cons_zero, List.set_cons_succ]
          refine wpAnyH_take (i := 2) (oi := { dst := some 19, op := Go.Op.indexAddr 22 (Go.Operand.tmp 17) (Go.Operand.tmp 18), type := 0, pos := "ref.go:117", after := #[{ on := 0, ground := Go.Ground.data }, { on := 1, ground := Go.Ground.data }], guard := none }) (v := ?v3) rfl (by kernel_rfl) (by kernel_rfl) (by kernel_rfl) (fun _ _ _ h => h) (Or.inl ⟨by kernel_rfl, ?h3⟩) (by assumption) ?r3
          case h3 => (intro w hSw; (try dsimp only at hSw); go_simp; try with_reducible rfl)
          try simp only [Act.put, List.setIfInBounds_toArray, List.set_cons_zero, List.set_cons_succ]
          refine wpAnyH_take (i := 3) (oi := { dst := some 20, op := Go.Op.load 9 (Go.Operand.tmp 19), type := 9, pos := "ref.go:117", after := #[{ on := 2, ground := Go.Ground.data }], guard := none }) (v := ?v4) rfl (by kernel_rfl) (by kernel_rfl) (by kernel_rfl) (fun _ _ _ h => h) (Or.inl ⟨by kernel_rfl, ?h4⟩) (by assumption) ?r4
          case h4 => (intro w hSw; (try dsimp only at hSw); go_simp; try with_reducible rfl)
          try simp only [Act.put, List.setIfInBounds_toArray, List.set_cons_zero, List.set_cons_succ]
          refine wpAnyH_take (i := 4) (oi := { dst := some 21, op := Go.Op.move (Go.Operand.tmp 1), type := 22, pos := "ref.go:117", after := #[], guard := none }) (v := ?v5) rfl (by kernel_rfl) (by kernel_rfl) (by kernel_rfl) (fun _ _ _ h => h) (Or.inl ⟨by kernel_rfl, ?h5⟩) (by assumption) ?r5
          case h5 => (intro w hSw; (try dsimp only at hSw); go_simp; try with_reducible rfl)
          try simp only [Act.put, List.setIfInBounds_toArray, List.set_cons_zero, List.set_cons_succ]
          refine wpAnyH_take (i := 5) (oi := { dst := some 22, op := Go.Op.move (Go.Operand.tmp 5), type := 3, pos := "ref.go:117", after := #[], guard := none }) (v := ?v6) rfl (by kernel_rfl) (by kernel_rfl) (by kernel_rfl) (fun _ _ _ h => h) (Or.inl ⟨by kernel_rfl, ?h6⟩) (by assumption) ?r6
          case h6 => (intro w hSw; (try dsimp only at hSw); go_simp; try with_reducible rfl)
          try simp only [Act.put, List.setIfInBounds_toArray, List.set_cons_zero, List.set_cons_succ]
          refine wpAnyH_take (i := 6) (oi := { dst := some 23, op := Go.Op.indexAddr 22 (Go.Operand.tmp 21) (Go.Operand.tmp 22), type := 0, pos := "ref.go:117", after := #[{ on := 4, ground := Go.Ground.data }, { on := 5, ground := Go.Ground.data }], guard := none }) (v := ?v7) rfl (by kernel_rfl) (by kernel_rfl) (by kernel_rfl) (fun _ _ _ h => h) (Or.inl ⟨by kernel_rfl, ?h7⟩) (by assumption) ?r7
          case h7 => (intro w hSw; (try dsimp only at hSw); go_simp; try with_reducible rfl)
          try simp only [Act.put, List.setIfInBounds_toArray, List.set_cons_zero, List.set_cons_succ]
          refine wpAnyH_take (i := 7) (oi := { dst := some 24, op := Go.Op.load 9 (Go.Operand.tmp 23), type := 9, pos := "ref.go:117", after := #[{ on := 6, ground := Go.Ground.data }], guard := none }) (v := ?v8) rfl (by kernel_rfl) (by kernel_rfl) (by kernel_rfl) (fun _ _ _ h => h) (Or.inl ⟨by kernel_rfl, ?h8⟩) (by assumption) ?r8
          case h8 => (intro w hSw; (try dsimp only at hSw); go_simp; try with_reducible rfl)
          try simp only [Act.put, List.setIfInBounds_toArray, List.set_cons_zero, List.set_cons_succ]
          refine wpAnyH_take (i := 8) (oi := { dst := some 25, op := Go.Op.binOp Go.BinOp.neq 9 (Go.Operand.tmp 20) (Go.Operand.tmp 24) 9, type := 4, pos := "ref.go:117", after := #[{ on := 3, ground := Go.Ground.data }, { on := 7, ground := Go.Ground.data }], guard := none }) (v := ?v9) rfl (by kernel_rfl) (by kernel_rfl) (by kernel_rfl) (fun _ _ _ h => h) (Or.inl ⟨by kernel_rfl, ?h9⟩) (by assumption) ?r9
          case h9 => (intro w hSw; (try dsimp only at hSw); go_simp; try with_reducible rfl)
          try simp only [Act.put, List.setIfInBounds_toArray, List.set_cons_zero, List.set_cons_succ]
          refine wpAnyH_done (by kernel_rfl) ?_ _
          clear g0 g1
          go_wp2
          go_roundw
          case rel => exact ⟨k + 1, m + 1, by omega, by go_num, hS, rfl⟩
          case measure => simp [intOf]; omega
        · have hRf := Lib.hid (hN.out hst)
          have e1 : (s.toList == t.toList) = false := by rw [txt_eq]; exact decide_eq_false hst
          clear hY hN hyes hst
          go_wp2
          refine wp_drawn_on (fun W => ∃ j, W = w.drewN j) (by kernel_rfl) (⟨m + 1, rfl⟩) (fun hHeld => ?_)
          refine wpAnyH_take (i := 0) (oi := { dst := some 17, op := Go.Op.move (Go.Operand.tmp 0), type := 22, pos := "ref.go:117", after := #[], guard := none }) (v := ?v10) rfl (by kernel_rfl) (by kernel_rfl) (by kernel_rfl) (fun _ _ _ h => h) (Or.inl ⟨by kernel_rfl, ?h10⟩) (by assumption) ?r10
          case h10 => (intro w hSw; (try dsimp only at hSw); go_simp; try with_reducible rfl)
          try simp only [Act.put, List.setIfInBounds_toArray, List.set_cons_zero, List.set_cons_succ]
          refine wpAnyH_take (i := 1) (oi := { dst := some 18, op := Go.Op.move (Go.Operand.tmp 5), type := 3, pos := "ref.go:117", after := #[], guard := none }) (v := ?v11) rfl (by kernel_rfl) (by kernel_rfl) (by kernel_rfl) (fun _ _ _ h => h) (Or.inl ⟨by kernel_rfl, ?h11⟩) (by assumption) ?r11
          case h11 => (intro w hSw; (try dsimp only at hSw); go_simp; try with_reducible rfl)
          try simp only [Act.put, List.setIfInBounds_toArray, List.set_cons_zero, List.set_cons_succ]
          refine wpAnyH_take (i := 2) (oi := { dst := some 19, op := Go.Op.indexAddr 22 (Go.Operand.tmp 17) (Go.Operand.tmp 18), type := 0, pos := "ref.go:117", after := #[{ on := 0, ground := Go.Ground.data }, { on := 1, ground := Go.Ground.data }], guard := none }) (v := ?v12) rfl (by kernel_rfl) (by kernel_rfl) (by kernel_rfl) (fun _ _ _ h => h) (Or.inl ⟨by kernel_rfl, ?h12⟩) (by assumption) ?r12
          case h12 => (intro w hSw; (try dsimp only at hSw); go_simp; try with_reducible rfl)
          try simp only [Act.put, List.setIfInBounds_toArray, List.set_cons_zero, List.set_cons_succ]
          refine wpAnyH_take (i := 3) (oi := { dst := some 20, op := Go.Op.load 9 (Go.Operand.tmp 19), type := 9, pos := "ref.go:117", after := #[{ on := 2, ground := Go.Ground.data }], guard := none }) (v := ?v13) rfl (by kernel_rfl) (by kernel_rfl) (by kernel_rfl) (fun _ _ _ h => h) (Or.inl ⟨by kernel_rfl, ?h13⟩) (by assumption) ?r13
          case h13 => (intro w hSw; (try dsimp only at hSw); go_simp; try with_reducible rfl)
          try simp only [Act.put, List.setIfInBounds_toArray, List.set_cons_zero, List.set_cons_succ]
          refine wpAnyH_take (i := 4) (oi := { dst := some 21, op := Go.Op.move (Go.Operand.tmp 1), type := 22, pos := "ref.go:117", after := #[], guard := none }) (v := ?v14) rfl (by kernel_rfl) (by kernel_rfl) (by kernel_rfl) (fun _ _ _ h => h) (Or.inl ⟨by kernel_rfl, ?h14⟩) (by assumption) ?r14
          case h14 => (intro w hSw; (try dsimp only at hSw); go_simp; try with_reducible rfl)
          try simp only [Act.put, List.setIfInBounds_toArray, List.set_cons_zero, List.set_cons_succ]
          refine wpAnyH_take (i := 5) (oi := { dst := some 22, op := Go.Op.move (Go.Operand.tmp 5), type := 3, pos := "ref.go:117", after := #[], guard := none }) (v := ?v15) rfl (by kernel_rfl) (by kernel_rfl) (by kernel_rfl) (fun _ _ _ h => h) (Or.inl ⟨by kernel_rfl, ?h15⟩) (by assumption) ?r15
          case h15 => (intro w hSw; (try dsimp only at hSw); go_simp; try with_reducible rfl)
          try simp only [Act.put, List.setIfInBounds_toArray, List.set_cons_zero, List.set_cons_succ]
          refine wpAnyH_take (i := 6) (oi := { dst := some 23, op := Go.Op.indexAddr 22 (Go.Operand.tmp 21) (Go.Operand.tmp 22), type := 0, pos := "ref.go:117", after := #[{ on := 4, ground := Go.Ground.data }, { on := 5, ground := Go.Ground.data }], guard := none }) (v := ?v16) rfl (by kernel_rfl) (by kernel_rfl) (by kernel_rfl) (fun _ _ _ h => h) (Or.inl ⟨by kernel_rfl, ?h16⟩) (by assumption) ?r16
          case h16 => (intro w hSw; (try dsimp only at hSw); go_simp; try with_reducible rfl)
          try simp only [Act.put, List.setIfInBounds_toArray, List.set_cons_zero, List.set_cons_succ]
          refine wpAnyH_take (i := 7) (oi := { dst := some 24, op := Go.Op.load 9 (Go.Operand.tmp 23), type := 9, pos := "ref.go:117", after := #[{ on := 6, ground := Go.Ground.data }], guard := none }) (v := ?v17) rfl (by kernel_rfl) (by kernel_rfl) (by kernel_rfl) (fun _ _ _ h => h) (Or.inl ⟨by kernel_rfl, ?h17⟩) (by assumption) ?r17
          case h17 => (intro w hSw; (try dsimp only at hSw); go_simp; try with_reducible rfl)
          try simp only [Act.put, List.setIfInBounds_toArray, List.set_cons_zero, List.set_cons_succ]
          refine wpAnyH_take (i := 8) (oi := { dst := some 25, op := Go.Op.binOp Go.BinOp.neq 9 (Go.Operand.tmp 20) (Go.Operand.tmp 24) 9, type := 4, pos := "ref.go:117", after := #[{ on := 3, ground := Go.Ground.data }, { on := 7, ground := Go.Ground.data }], guard := none }) (v := ?v18) rfl (by kernel_rfl) (by kernel_rfl) (by kernel_rfl) (fun _ _ _ h => h) (Or.inl ⟨by kernel_rfl, ?h18⟩) (by assumption) ?r18
          case h18 => (intro w hSw; (try dsimp only at hSw); go_simp; try with_reducible rfl)
          try simp only [Act.put, List.setIfInBounds_toArray, List.set_cons_zero, List.set_cons_succ]
          refine wpAnyH_done (by kernel_rfl) ?_ _
          clear g0 g1
          go_wp2
          go_ret
          exact ⟨ret_bool hRf.out.symm, m + 1, rfl⟩
      · have hke : k = n1 := by omega
        have hRf := Lib.hid (hyes.out (fun t ht => hal.out t (by rw [hke, hl1.out]; exact ht)))
        have hki : ¬ (k : Int) < (n1 : Int) := by omega
        clear hke hlt hal hno hyes
        go_wp2
        go_ret
        exact ⟨ret_bool hRf.out.symm, m, rfl⟩
  · have e0' : (n1 != n2) = true := by simpa using hne
    have hR : Hid (decide (l1 = l2) = false) := Lib.hid (decide_eq_false (fun e => hne (by rw [hl1.out, hl2.out, e])))
    clear hne
    go_enter Try.func13, Try.ntmps13
    go_wp2
    go_ret
    exact ⟨ret_bool hR.out.symm, 0, rfl⟩
def largeT (l : List ByteArray) : Bool := decide (200 < l.length) || l.any fun s => decide (400 < s.size)
set_option maxRecDepth 100000 in
set_option maxHeartbeats 1000000 in
theorem rlarge_any (a : Option Addr) (n c : Nat) (l : List ByteArray) (w : World) (h : TT w a n c l) : Calls Try.prog 6 #[.slice a n c] w fun e w' => e = .returned (.bool (largeT l)) ∧ w = w' := by
  have hlen := Lib.hid h.len
  have hT := Lib.hid h
  clear h
  by_cases hbig : 200 < n
  · have hbi : (200 : Int) < (n : Int) := by omega
    have hR : Hid (largeT l = true) := Lib.hid (by unfold largeT; rw [← hlen.out, decide_eq_true hbig]; rfl)
    clear hbig
    go_enter Try.func6, Try.ntmps6
    go_wp2
    go_ret
    exact ⟨ret_bool hR.out.symm, rfl⟩
  · have hbi : ¬ (200 : Int) < (n : Int) := by omega
    have hd : Hid (decide (200 < l.length) = false) := Lib.hid (decide_eq_false (by rw [← hlen.out]; exact hbig))
    go_enter Try.func6, Try.ntmps6
    go_wp2
    go_loop [3] (fun x => ∃ k : Nat, k ≤ n ∧ x = .int .i64 k ∧ Hid (∀ t, t < k → ¬ 400 < (l.getD t e0).size)) (fun x => n - (intOf x).toNat)
    case atStart => exact ⟨0, by omega, rfl, Lib.hid (by intro t ht; omega)⟩
    case round =>
      obtain ⟨k, hk, rfl, hal⟩ := hrel
      by_cases hlt : k < n
      · have hki : (k : Int) < (n : Int) := by omega
        have hki2 : (k : Int) ≤ 200 := by omega
        have hkl : k < l.length := by rw [← hlen.out]; exact hlt
        obtain ⟨b, off, rfl, -, hc⟩ := hT.out.at_ hkl
        have i0 := hc k hkl
        have hno : Hid (¬ 400 < (l.getD k e0).size → ∀ t, t < k + 1 → ¬ 400 < (l.getD t e0).size) := Lib.hid (fun h t ht => by
          by_cases e : t = k
          · rw [e]; exact h
          · exact hal.out t (by omega))
        have hyes : Hid (400 < (l.getD k e0).size → largeT l = true) := Lib.hid (fun h => by
          unfold largeT
          rw [Bool.or_eq_true, List.any_eq_true]
          exact .inr ⟨l.getD k e0, by simp [List.getD, hkl], by simpa using h⟩)
        clear hc hal hT hkl
        generalize l.getD k e0 = s at *
        by_cases hb : 400 < s.size
        · have hR := Lib.hid (hyes.out hb)
          have hbi2 : (400 : Int) < (s.size : Int) := by omega
          clear hb hno hyes
          go_wp2
          go_ret
          exact ⟨ret_bool hR.out.symm, rfl⟩
        · have hS := Lib.hid (hno.out hb)
          have hbi2 : ¬ (400 : Int) < (s.size : Int) := by omega
          clear hb hno hyes
          go_wp2
          go_round
          case rel => exact ⟨k + 1, by omega, by go_num, hS⟩
          case measure => simp [intOf]; omega
      · have hke : k = n := by omega
        have hki : ¬ (k : Int) < (n : Int) := by omega
        have hR : Hid (largeT l = false) := Lib.hid (by
          unfold largeT
          rw [hd.out, Bool.false_or, List.any_eq_false]
          intro s hs
          obtain ⟨t, ht, rfl⟩ := List.getElem_of_mem hs
          have := hal.out t (by rw [hke, hlen.out]; exact ht)
          simpa [List.getD, ht] using this)
        clear hke hal hlt
        go_wp2
        go_ret
        exact ⟨ret_bool hR.out.symm, rfl⟩
end Go.Proofs.Ytkfgfbdlbiahkaa
