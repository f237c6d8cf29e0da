/-
  Words and walks under the law's proof.
-/
import Derived.Laws.Cover1
import Derived.Test.YtgeliikfgnkppaaGreatDoorQP01
import Derived.Test.YtgeliikfgnkppaaGreatDoorQP02
import Derived.Test.YtgeliikfgnkppaaGreatDoorQP10
namespace Go.Proofs.YtgeliikfgnkppaaGreatDoor
open Go.RowKit
set_option linter.unusedVariables false
set_option linter.unusedSimpArgs false
set_option maxRecDepth 100000 in
theorem equal_any (a1 a2 : Option Addr) (n1 n2 c1 c2 : Nat) (l1 l2 : List ByteArray) (h1n : n1 ≤ 9223372036854775807) (h2n : n2 ≤ 9223372036854775807) (w : World) (h1 : TT w a1 n1 c1 l1) (h2 : TT w a2 n2 c2 l2) :
    Calls Tryz.prog 36 #[.slice a1 n1 c1, .slice a2 n2 c2] w (DrawnB (.bool (decide (l1 = l2))) w) := by
  have e1 := h1.len
  have e2 := h2.len
  by_cases hz1 : n1 = 0
  · subst hz1
    obtain rfl : l1 = [] := List.eq_nil_of_length_eq_zero e1.symm
    refine (Tryz.slices_Equal_string_empty a1 a2 c1 n2 c2 w h2n).mono ?_
    rintro e w' ⟨rfl, rfl⟩
    refine ⟨ret_bool ?_, 0, rfl⟩
    rw [decide_eq_decide, e2]
    constructor
    · intro h; exact (List.eq_nil_of_length_eq_zero h).symm
    · intro h; rw [← h]; rfl
  · by_cases hz2 : n1 = n2
    · rcases h1.sees with h | ⟨b1, o1, rfl, -, hc1⟩
      · subst h; exact absurd e1 hz1
      rcases h2.sees with h | ⟨b2, o2, rfl, -, hc2⟩
      · subst h; exact absurd (hz2.trans e2) hz1
      refine (Tryz.slices_Equal_string b1 o1 n1 c1 b2 o2 n2 c2 l1 l2 w (by omega) (by omega) h1n h2n hc1 hc2).mono ?_
      rintro e w' ⟨rfl, q, rfl⟩
      refine ⟨?_, q, rfl⟩
      rw [List.take_of_length_le (by omega), List.take_of_length_le (by omega)]
    · refine (Tryz.slices_Equal_string_lens a1 a2 n1 c1 n2 c2 w hz2).mono ?_
      rintro e w' ⟨rfl, rfl⟩
      refine ⟨ret_bool (decide_eq_false ?_).symm, 0, rfl⟩
      intro h
      rw [h] at e1
      omega
end Go.Proofs.YtgeliikfgnkppaaGreatDoor
namespace Go.Proofs.YtgeliikfgnkppaaGreatDoor
open Go.RowKit
set_option linter.unusedVariables false
set_option linter.unusedSimpArgs false
theorem ptl_iff (s t : ByteArray) : s.toList = t.toList ↔ s = t := by
  rw [ByteArray.toList_eq, ByteArray.toList_eq]
  exact ⟨fun h => ByteArray.ext (Array.toList_inj.1 h), fun h => by rw [h]⟩
def spotEq (a b : SpotD) : Bool := decide (a.fn = b.fn) && (decide (a.file = b.file) && decide (a.line = b.line))
def edgeEq (a b : EdgeD) : Bool := decide (a.frm = b.frm) && (decide (a.dst = b.dst) && (decide (a.k = b.k) && (decide (a.x = b.x) && (decide (a.y = b.y) && (decide (a.c = b.c) && decide (a.d = b.d))))))
def listEq {α : Type} (q : α → α → Bool) (d : α) (l r : List α) : Bool := decide (l.length = r.length) && (List.range l.length).all fun i => q (l.getD i d) (r.getD i d)
theorem listEq_no {α : Type} {q : α → α → Bool} {d : α} {l r : List α} {k : Nat} (hk : k < l.length) (h : q (l.getD k d) (r.getD k d) = false) : listEq q d l r = false := by
  unfold listEq
  rw [show (List.range l.length).all (fun i => q (l.getD i d) (r.getD i d)) = false by rw [List.all_eq_false]; exact ⟨k, List.mem_range.2 hk, by rw [h]; simp⟩, Bool.and_false]
theorem listEq_len {α : Type} {q : α → α → Bool} {d : α} {l r : List α} (h : l.length ≠ r.length) : listEq q d l r = false := by
  unfold listEq; rw [decide_eq_false h, Bool.false_and]
theorem listEq_yes {α : Type} {q : α → α → Bool} {d : α} {l r : List α} (hl : l.length = r.length) (h : ∀ t, t < l.length → q (l.getD t d) (r.getD t d) = true) : listEq q d l r = true := by
  unfold listEq
  rw [decide_eq_true hl, Bool.true_and, List.all_eq_true]
  exact fun t ht => h t (List.mem_range.1 ht)
theorem listEq_refl {α : Type} {q : α → α → Bool} {d : α} (hq : ∀ x, q x x = true) (l : List α) : listEq q d l l = true := listEq_yes rfl (fun t _ => hq _)
theorem spotEq_refl (x : SpotD) : spotEq x x = true := by simp [spotEq]
theorem edgeEq_refl (x : EdgeD) : edgeEq x x = true := by simp [edgeEq]
def sameP (A B : PD) : Bool := decide (A.nm = B.nm) && (decide (A.vars = B.vars) && (listEq spotEq spot0 A.spots B.spots && listEq edgeEq edge0 A.edges B.edges))
theorem sameP_refl (A : PD) : sameP A A = true := by unfold sameP; rw [listEq_refl spotEq_refl, listEq_refl edgeEq_refl]; simp
set_option maxRecDepth 100000 in
set_option maxHeartbeats 8000000 in
theorem spotsEq_any (a1 a2 : Option Addr) (n1 n2 c1 c2 : Nat) (l1 l2 : List SpotD) (w : World) (h1 : RO spotC w a1 n1 c1 l1) (h2 : RO spotC w a2 n2 c2 l2) : Calls Tryz.prog 37 #[.slice a1 n1 c1, .slice a2 n2 c2] w (DrawnB (.bool (listEq spotEq spot0 l1 l2)) w) := by
  have hl1 := Lib.hid h1.len
  have hl2 := Lib.hid h2.len
  have T1 := Lib.hid h1
  have T2 := Lib.hid h2
  have hm1 := h1.max'
  have hm2 := h2.max'
  have hm1i : (n1 : Int) ≤ 9223372036854775807 := by omega
  clear h1 h2
  by_cases hne : n1 = n2
  · have e0' : ((n1 : Int) != (n2 : Int)) = false := by simp; omega
    have e0n : (n1 != n2) = false := by simpa using hne
    have hne' := Lib.hid hne
    have hno := Lib.hid (fun k hk h => listEq_no (q := spotEq) (d := spot0) (l := l1) (r := l2) (k := k) hk h)
    have hyes := Lib.hid (fun h => listEq_yes (q := spotEq) (d := spot0) (l := l1) (r := l2) (by rw [← hl1.out, ← hl2.out]; exact hne) h)
    clear hne
    generalize listEq spotEq spot0 l1 l2 = R at *
    go_enter Tryz.func37, Tryz.ntmps37
    go_wp2
    go_loopw [13] (fun x wr => ∃ k m : Nat, k ≤ n1 ∧ x = .int .i64 k ∧ Hid (∀ t, t < k → spotEq (l1.getD t spot0) (l2.getD t spot0) = true) ∧ wr = w.drewN m) (fun x _ => n1 - (intOf x).toNat)
    case atStart => exact ⟨0, 0, by omega, rfl, Lib.hid (fun t ht => by omega), rfl⟩
    case round =>
      obtain ⟨k, m, hk, rfl, hal, rfl⟩ := hrel
      by_cases hlt : k < n1
      · have hki : (k : Int) < (n1 : Int) := by omega
        have hk2 : k < n2 := by have := hne'.out; omega
        have hki2 : (k : Int) < (n2 : Int) := by omega
        obtain ⟨b1, o1, rfl, -, x0, x1, x2⟩ := spots_at T1.out hlt
        obtain ⟨b2, o2, rfl, -, y0, y1, y2⟩ := spots_at T2.out hk2
        have hno' := Lib.hid (hno.out k (by rw [← hl1.out]; exact hlt))
        have hyes' : Hid (spotEq (l1.getD k spot0) (l2.getD k spot0) = true → ∀ t, t < k + 1 → spotEq (l1.getD t spot0) (l2.getD t spot0) = true) := Lib.hid (fun h t ht => by
          by_cases e : t = k
          · rw [e]; exact h
          · exact hal.out t (by omega))
        obtain ⟨f01, f11, l21, hs1⟩ : ∃ f01 f11 l21, l1.getD k spot0 = (⟨f01, f11, l21⟩ : SpotD) := ⟨_, _, _, rfl⟩
        obtain ⟨f02, f12, l22, hs2⟩ : ∃ f02 f12 l22, l2.getD k spot0 = (⟨f02, f12, l22⟩ : SpotD) := ⟨_, _, _, rfl⟩
        rw [hs1] at x0 x1 x2 hno' hyes'
        rw [hs2] at y0 y1 y2 hno' hyes'
        dsimp only at x0 x1 x2 y0 y1 y2
        clear hs1 hs2 hal hno
        have g0 : ∀ W, (∃ j, W = w.drewN j) → W.cell? ⟨b1, o1 + k * 3, none⟩ = some (.string f01) := fun W hW => by obtain ⟨j, rfl⟩ := hW; exact x0
        have g1 : ∀ W, (∃ j, W = w.drewN j) → W.cell? ⟨b1, o1 + k * 3 + 1, none⟩ = some (.string f11) := fun W hW => by obtain ⟨j, rfl⟩ := hW; exact x1
        have g2 : ∀ W, (∃ j, W = w.drewN j) → W.cell? ⟨b1, o1 + k * 3 + 2, none⟩ = some (.int .i64 l21) := fun W hW => by obtain ⟨j, rfl⟩ := hW; exact x2
        have e0 : ∀ W, (∃ j, W = w.drewN j) → W.cell? ⟨b2, o2 + k * 3, none⟩ = some (.string f02) := fun W hW => by obtain ⟨j, rfl⟩ := hW; exact y0
        have e1 : ∀ W, (∃ j, W = w.drewN j) → W.cell? ⟨b2, o2 + k * 3 + 1, none⟩ = some (.string f12) := fun W hW => by obtain ⟨j, rfl⟩ := hW; exact y1
        have e2 : ∀ W, (∃ j, W = w.drewN j) → W.cell? ⟨b2, o2 + k * 3 + 2, none⟩ = some (.int .i64 l22) := fun W hW => by obtain ⟨j, rfl⟩ := hW; exact y2
        clear x0 x1 x2 y0 y1 y2
        by_cases hq : f01 = f02 ∧ f11 = f12 ∧ l21 = l22
        · have hg := Lib.hid (hyes'.out (by simp [hq, spotEq]))
          obtain ⟨rfl, rfl, rfl⟩ := hq
          clear hyes' hno'
          go_wp2
          refine wp_drawn_on (fun W => ∃ j, W = w.drewN j) (by kernel_rfl) (⟨m + 1, rfl⟩) (fun hHeld => ?_)
          refine wpAnyH_take (i := 0) (oi := { dst := some 16, op := Go.Op.move (Go.Operand.tmp 0), type := 23, pos := "slices.go:25", after := #[], guard := none }) (v := ?v1) rfl (by kernel_rfl) (by kernel_rfl) (by kernel_rfl) (fun _ _ _ h => h) (Or.inl ⟨by kernel_rfl, ?h1⟩) (by assumption) ?r1
          case h1 => (intro w hSw; (try dsimp only at hSw); go_simp; try with_reducible rfl)
          try simp only [Act.put, List.setIfInBounds_toArray, List.set_cons_zero, List.set_cons_succ]
          refine wpAnyH_take (i := 1) (oi := { dst := some 17, op := Go.Op.move (Go.Operand.tmp 5), type := 3, pos := "slices.go:25", after := #[], guard := none }) (v := ?v2) rfl (by kernel_rfl) (by kernel_rfl) (by kernel_rfl) (fun _ _ _ h => h) (Or.inl ⟨by kernel_rfl, ?h2⟩) (by assumption) ?r2
          case h2 => (intro w hSw; (try dsimp only at hSw); go_simp; try with_reducible rfl)
          try simp only [Act.put, List.setIfInBounds_toArray, List.set_cons_zero, List.set_cons_succ]
          refine wpAnyH_take (i := 2) (oi := { dst := some 18, op := Go.Op.indexAddr 23 (Go.Operand.tmp 16) (Go.Operand.tmp 17), type := 0, pos := "slices.go:25", after := #[{ on := 0, ground := Go.Ground.data }, { on := 1, ground := Go.Ground.data }], guard := none }) (v := ?v3) rfl (by kernel_rfl) (by kernel_rfl) (by kernel_rfl) (fun _ _ _ h => h) (Or.inl ⟨by kernel_rfl, ?h3⟩) (by assumption) ?r3
          case h3 => (intro w hSw; (try dsimp only at hSw); go_simp; try with_reducible rfl)
          try simp only [Act.put, List.setIfInBounds_toArray, List.set_cons_zero, List.set_cons_succ]
          refine wpAnyH_take (i := 3) (oi := { dst := some 19, op := Go.Op.load 54 (Go.Operand.tmp 18), type := 54, pos := "slices.go:25", after := #[{ on := 2, ground := Go.Ground.data }], guard := none }) (v := ?v4) rfl (by kernel_rfl) (by kernel_rfl) (by kernel_rfl) (fun _ _ _ h => h) (Or.inl ⟨by kernel_rfl, ?h4⟩) (by assumption) ?r4
          case h4 => (intro w hSw; (try dsimp only at hSw); go_simp; try with_reducible rfl)
          try simp only [Act.put, List.setIfInBounds_toArray, List.set_cons_zero, List.set_cons_succ]
          refine wpAnyH_take (i := 4) (oi := { dst := some 20, op := Go.Op.move (Go.Operand.tmp 1), type := 23, pos := "slices.go:25", after := #[], guard := none }) (v := ?v5) rfl (by kernel_rfl) (by kernel_rfl) (by kernel_rfl) (fun _ _ _ h => h) (Or.inl ⟨by kernel_rfl, ?h5⟩) (by assumption) ?r5
          case h5 => (intro w hSw; (try dsimp only at hSw); go_simp; try with_reducible rfl)
          try simp only [Act.put, List.setIfInBounds_toArray, List.set_cons_zero, List.set_cons_succ]
          refine wpAnyH_take (i := 5) (oi := { dst := some 21, op := Go.Op.move (Go.Operand.tmp 5), type := 3, pos := "slices.go:25", after := #[], guard := none }) (v := ?v6) rfl (by kernel_rfl) (by kernel_rfl) (by kernel_rfl) (fun _ _ _ h => h) (Or.inl ⟨by kernel_rfl, ?h6⟩) (by assumption) ?r6
          case h6 => (intro w hSw; (try dsimp only at hSw); go_simp; try with_reducible rfl)
          try simp only [Act.put, List.setIfInBounds_toArray, List.set_cons_zero, List.set_cons_succ]
          refine wpAnyH_take (i := 6) (oi := { dst := some 22, op := Go.Op.indexAddr 23 (Go.Operand.tmp 20) (Go.Operand.tmp 21), type := 0, pos := "slices.go:25", after := #[{ on := 4, ground := Go.Ground.data }, { on := 5, ground := Go.Ground.data }], guard := none }) (v := ?v7) rfl (by kernel_rfl) (by kernel_rfl) (by kernel_rfl) (fun _ _ _ h => h) (Or.inl ⟨by kernel_rfl, ?h7⟩) (by assumption) ?r7
          case h7 => (intro w hSw; (try dsimp only at hSw); go_simp; try with_reducible rfl)
          try simp only [Act.put, List.setIfInBounds_toArray, List.set_cons_zero, List.set_cons_succ]
          refine wpAnyH_take (i := 7) (oi := { dst := some 23, op := Go.Op.load 54 (Go.Operand.tmp 22), type := 54, pos := "slices.go:25", after := #[{ on := 6, ground := Go.Ground.data }], guard := none }) (v := ?v8) rfl (by kernel_rfl) (by kernel_rfl) (by kernel_rfl) (fun _ _ _ h => h) (Or.inl ⟨by kernel_rfl, ?h8⟩) (by assumption) ?r8
          case h8 => (intro w hSw; (try dsimp only at hSw); go_simp; try with_reducible rfl)
          try simp only [Act.put, List.setIfInBounds_toArray, List.set_cons_zero, List.set_cons_succ]
          refine wpAnyH_take (i := 8) (oi := { dst := some 24, op := Go.Op.binOp Go.BinOp.neq 54 (Go.Operand.tmp 19) (Go.Operand.tmp 23) 54, type := 4, pos := "slices.go:25", after := #[{ on := 3, ground := Go.Ground.data }, { on := 7, ground := Go.Ground.data }], guard := none }) (v := ?v9) rfl (by kernel_rfl) (by kernel_rfl) (by kernel_rfl) (fun _ _ _ h => h) (Or.inl ⟨by kernel_rfl, ?h9⟩) (by assumption) ?r9
          case h9 => (intro w hSw; (try dsimp only at hSw); refine Eq.trans (b := Result.ok (Next.value (.bool false)) w) (by go_simp; try simp [ptxt_eq]) ?_; with_reducible rfl)
          try simp only [Act.put, List.setIfInBounds_toArray, List.set_cons_zero, List.set_cons_succ]
          refine wpAnyH_done (by kernel_rfl) ?_ _
          clear g0 e0 g1 e1 g2 e2
          go_wp2
          go_roundw
          case rel => exact ⟨k + 1, m + 1, by omega, by go_num, hg, rfl⟩
          case measure => simp [intOf]; omega
        · have hf := Lib.hid (hno'.out (by cases hx : spotEq (⟨f01, f11, l21⟩ : SpotD) ⟨f02, f12, l22⟩ with | false => rfl | true => exact absurd (by simpa [spotEq] using hx) hq))
          clear hyes' hno'
          go_wp2
          refine wp_drawn_on (fun W => ∃ j, W = w.drewN j) (by kernel_rfl) (⟨m + 1, rfl⟩) (fun hHeld => ?_)
          refine wpAnyH_take (i := 0) (oi := { dst := some 16, op := Go.Op.move (Go.Operand.tmp 0), type := 23, pos := "slices.go:25", after := #[], guard := none }) (v := ?v10) rfl (by kernel_rfl) (by kernel_rfl) (by kernel_rfl) (fun _ _ _ h => h) (Or.inl ⟨by kernel_rfl, ?h10⟩) (by assumption) ?r10
          case h10 => (intro w hSw; (try dsimp only at hSw); go_simp; try with_reducible rfl)
          try simp only [Act.put, List.setIfInBounds_toArray, List.set_cons_zero, List.set_cons_succ]
          refine wpAnyH_take (i := 1) (oi := { dst := some 17, op := Go.Op.move (Go.Operand.tmp 5), type := 3, pos := "slices.go:25", after := #[], guard := none }) (v := ?v11) rfl (by kernel_rfl) (by kernel_rfl) (by kernel_rfl) (fun _ _ _ h => h) (Or.inl ⟨by kernel_rfl, ?h11⟩) (by assumption) ?r11
          case h11 => (intro w hSw; (try dsimp only at hSw); go_simp; try with_reducible rfl)
          try simp only [Act.put, List.setIfInBounds_toArray, List.set_cons_zero, List.set_cons_succ]
          refine wpAnyH_take (i := 2) (oi := { dst := some 18, op := Go.Op.indexAddr 23 (Go.Operand.tmp 16) (Go.Operand.tmp 17), type := 0, pos := "slices.go:25", after := #[{ on := 0, ground := Go.Ground.data }, { on := 1, ground := Go.Ground.data }], guard := none }) (v := ?v12) rfl (by kernel_rfl) (by kernel_rfl) (by kernel_rfl) (fun _ _ _ h => h) (Or.inl ⟨by kernel_rfl, ?h12⟩) (by assumption) ?r12
          case h12 => (intro w hSw; (try dsimp only at hSw); go_simp; try with_reducible rfl)
          try simp only [Act.put, List.setIfInBounds_toArray, List.set_cons_zero, List.set_cons_succ]
          refine wpAnyH_take (i := 3) (oi := { dst := some 19, op := Go.Op.load 54 (Go.Operand.tmp 18), type := 54, pos := "slices.go:25", after := #[{ on := 2, ground := Go.Ground.data }], guard := none }) (v := ?v13) rfl (by kernel_rfl) (by kernel_rfl) (by kernel_rfl) (fun _ _ _ h => h) (Or.inl ⟨by kernel_rfl, ?h13⟩) (by assumption) ?r13
          case h13 => (intro w hSw; (try dsimp only at hSw); go_simp; try with_reducible rfl)
          try simp only [Act.put, List.setIfInBounds_toArray, List.set_cons_zero, List.set_cons_succ]
          refine wpAnyH_take (i := 4) (oi := { dst := some 20, op := Go.Op.move (Go.Operand.tmp 1), type := 23, pos := "slices.go:25", after := #[], guard := none }) (v := ?v14) rfl (by kernel_rfl) (by kernel_rfl) (by kernel_rfl) (fun _ _ _ h => h) (Or.inl ⟨by kernel_rfl, ?h14⟩) (by assumption) ?r14
          case h14 => (intro w hSw; (try dsimp only at hSw); go_simp; try with_reducible rfl)
          try simp only [Act.put, List.setIfInBounds_toArray, List.set_cons_zero, List.set_cons_succ]
          refine wpAnyH_take (i := 5) (oi := { dst := some 21, op := Go.Op.move (Go.Operand.tmp 5), type := 3, pos := "slices.go:25", after := #[], guard := none }) (v := ?v15) rfl (by kernel_rfl) (by kernel_rfl) (by kernel_rfl) (fun _ _ _ h => h) (Or.inl ⟨by kernel_rfl, ?h15⟩) (by assumption) ?r15
          case h15 => (intro w hSw; (try dsimp only at hSw); go_simp; try with_reducible rfl)
          try simp only [Act.put, List.setIfInBounds_toArray, List.set_cons_zero, List.set_cons_succ]
          refine wpAnyH_take (i := 6) (oi := { dst := some 22, op := Go.Op.indexAddr 23 (Go.Operand.tmp 20) (Go.Operand.tmp 21), type := 0, pos := "slices.go:25", after := #[{ on := 4, ground := Go.Ground.data }, { on := 5, ground := Go.Ground.data }], guard := none }) (v := ?v16) rfl (by kernel_rfl) (by kernel_rfl) (by kernel_rfl) (fun _ _ _ h => h) (Or.inl ⟨by kernel_rfl, ?h16⟩) (by assumption) ?r16
          case h16 => (intro w hSw; (try dsimp only at hSw); go_simp; try with_reducible rfl)
          try simp only [Act.put, List.setIfInBounds_toArray, List.set_cons_zero, List.set_cons_succ]
          refine wpAnyH_take (i := 7) (oi := { dst := some 23, op := Go.Op.load 54 (Go.Operand.tmp 22), type := 54, pos := "slices.go:25", after := #[{ on := 6, ground := Go.Ground.data }], guard := none }) (v := ?v17) rfl (by kernel_rfl) (by kernel_rfl) (by kernel_rfl) (fun _ _ _ h => h) (Or.inl ⟨by kernel_rfl, ?h17⟩) (by assumption) ?r17
          case h17 => (intro w hSw; (try dsimp only at hSw); go_simp; try with_reducible rfl)
          try simp only [Act.put, List.setIfInBounds_toArray, List.set_cons_zero, List.set_cons_succ]
          refine wpAnyH_take (i := 8) (oi := { dst := some 24, op := Go.Op.binOp Go.BinOp.neq 54 (Go.Operand.tmp 19) (Go.Operand.tmp 23) 54, type := 4, pos := "slices.go:25", after := #[{ on := 3, ground := Go.Ground.data }, { on := 7, ground := Go.Ground.data }], guard := none }) (v := ?v18) rfl (by kernel_rfl) (by kernel_rfl) (by kernel_rfl) (fun _ _ _ h => h) (Or.inl ⟨by kernel_rfl, ?h18⟩) (by assumption) ?r18
          case h18 => (intro w hSw; (try dsimp only at hSw); refine Eq.trans (b := Result.ok (Next.value (.bool true)) w) (by go_simp; by_cases h0 : f01 = f02 <;> by_cases h1 : f11 = f12 <;> by_cases h2 : l21 = l22 <;> simp_all [ptxt_eq, ptl_iff]) ?_; with_reducible rfl)
          try simp only [Act.put, List.setIfInBounds_toArray, List.set_cons_zero, List.set_cons_succ]
          refine wpAnyH_done (by kernel_rfl) ?_ _
          clear g0 e0 g1 e1 g2 e2
          go_wp2
          go_ret
          exact ⟨ret_bool hf.out.symm, m + 1, rfl⟩
      · have hki : ¬ (k : Int) < (n1 : Int) := by omega
        have hf := Lib.hid (hyes.out (fun t ht => hal.out t (by rw [← hl1.out] at ht; omega)))
        clear hyes hno hal
        go_wp2
        go_ret
        exact ⟨ret_bool hf.out.symm, m, rfl⟩
  · have e0' : ((n1 : Int) != (n2 : Int)) = true := by simp; omega
    have e0n : (n1 != n2) = true := by simpa using hne
    have hR : Hid (listEq spotEq spot0 l1 l2 = false) := Lib.hid (listEq_len (by rw [← hl1.out, ← hl2.out]; exact hne))
    clear hne
    generalize listEq spotEq spot0 l1 l2 = R at *
    go_enter Tryz.func37, Tryz.ntmps37
    go_wp2
    go_ret
    exact ⟨ret_bool hR.out.symm, 0, rfl⟩
set_option maxRecDepth 100000 in
set_option maxHeartbeats 8000000 in
theorem edgesEq_any (a1 a2 : Option Addr) (n1 n2 c1 c2 : Nat) (l1 l2 : List EdgeD) (w : World) (h1 : RO edgeC w a1 n1 c1 l1) (h2 : RO edgeC w a2 n2 c2 l2) : Calls Tryz.prog 38 #[.slice a1 n1 c1, .slice a2 n2 c2] w (DrawnB (.bool (listEq edgeEq edge0 l1 l2)) w) := by
  have hl1 := Lib.hid h1.len
  have hl2 := Lib.hid h2.len
  have T1 := Lib.hid h1
  have T2 := Lib.hid h2
  have hm1 := h1.max'
  have hm2 := h2.max'
  have hm1i : (n1 : Int) ≤ 9223372036854775807 := by omega
  clear h1 h2
  by_cases hne : n1 = n2
  · have e0' : ((n1 : Int) != (n2 : Int)) = false := by simp; omega
    have e0n : (n1 != n2) = false := by simpa using hne
    have hne' := Lib.hid hne
    have hno := Lib.hid (fun k hk h => listEq_no (q := edgeEq) (d := edge0) (l := l1) (r := l2) (k := k) hk h)
    have hyes := Lib.hid (fun h => listEq_yes (q := edgeEq) (d := edge0) (l := l1) (r := l2) (by rw [← hl1.out, ← hl2.out]; exact hne) h)
    clear hne
    generalize listEq edgeEq edge0 l1 l2 = R at *
    go_enter Tryz.func38, Tryz.ntmps38
    go_wp2
    go_loopw [13] (fun x wr => ∃ k m : Nat, k ≤ n1 ∧ x = .int .i64 k ∧ Hid (∀ t, t < k → edgeEq (l1.getD t edge0) (l2.getD t edge0) = true) ∧ wr = w.drewN m) (fun x _ => n1 - (intOf x).toNat)
    case atStart => exact ⟨0, 0, by omega, rfl, Lib.hid (fun t ht => by omega), rfl⟩
    case round =>
      obtain ⟨k, m, hk, rfl, hal, rfl⟩ := hrel
      by_cases hlt : k < n1
      · have hki : (k : Int) < (n1 : Int) := by omega
        have hk2 : k < n2 := by have := hne'.out; omega
        have hki2 : (k : Int) < (n2 : Int) := by omega
        obtain ⟨b1, o1, rfl, -, x0, x1, x2, x3, x4, x5, x6⟩ := edges_at T1.out hlt
        obtain ⟨b2, o2, rfl, -, y0, y1, y2, y3, y4, y5, y6⟩ := edges_at T2.out hk2
        have hno' := Lib.hid (hno.out k (by rw [← hl1.out]; exact hlt))
        have hyes' : Hid (edgeEq (l1.getD k edge0) (l2.getD k edge0) = true → ∀ t, t < k + 1 → edgeEq (l1.getD t edge0) (l2.getD t edge0) = true) := Lib.hid (fun h t ht => by
          by_cases e : t = k
          · rw [e]; exact h
          · exact hal.out t (by omega))
        obtain ⟨f01, d11, k21, x31, y41, c51, d61, hs1⟩ : ∃ f01 d11 k21 x31 y41 c51 d61, l1.getD k edge0 = (⟨f01, d11, k21, x31, y41, c51, d61⟩ : EdgeD) := ⟨_, _, _, _, _, _, _, rfl⟩
        obtain ⟨f02, d12, k22, x32, y42, c52, d62, hs2⟩ : ∃ f02 d12 k22 x32 y42 c52 d62, l2.getD k edge0 = (⟨f02, d12, k22, x32, y42, c52, d62⟩ : EdgeD) := ⟨_, _, _, _, _, _, _, rfl⟩
        rw [hs1] at x0 x1 x2 x3 x4 x5 x6 hno' hyes'
        rw [hs2] at y0 y1 y2 y3 y4 y5 y6 hno' hyes'
        dsimp only at x0 x1 x2 x3 x4 x5 x6 y0 y1 y2 y3 y4 y5 y6
        clear hs1 hs2 hal hno
        have g0 : ∀ W, (∃ j, W = w.drewN j) → W.cell? ⟨b1, o1 + k * 7, none⟩ = some (.int .i64 f01) := fun W hW => by obtain ⟨j, rfl⟩ := hW; exact x0
        have g1 : ∀ W, (∃ j, W = w.drewN j) → W.cell? ⟨b1, o1 + k * 7 + 1, none⟩ = some (.int .i64 d11) := fun W hW => by obtain ⟨j, rfl⟩ := hW; exact x1
        have g2 : ∀ W, (∃ j, W = w.drewN j) → W.cell? ⟨b1, o1 + k * 7 + 2, none⟩ = some (.int .i64 k21) := fun W hW => by obtain ⟨j, rfl⟩ := hW; exact x2
        have g3 : ∀ W, (∃ j, W = w.drewN j) → W.cell? ⟨b1, o1 + k * 7 + 3, none⟩ = some (.int .i64 x31) := fun W hW => by obtain ⟨j, rfl⟩ := hW; exact x3
        have g4 : ∀ W, (∃ j, W = w.drewN j) → W.cell? ⟨b1, o1 + k * 7 + 4, none⟩ = some (.int .i64 y41) := fun W hW => by obtain ⟨j, rfl⟩ := hW; exact x4
        have g5 : ∀ W, (∃ j, W = w.drewN j) → W.cell? ⟨b1, o1 + k * 7 + 5, none⟩ = some (.int .i64 c51) := fun W hW => by obtain ⟨j, rfl⟩ := hW; exact x5
        have g6 : ∀ W, (∃ j, W = w.drewN j) → W.cell? ⟨b1, o1 + k * 7 + 6, none⟩ = some (.int .i64 d61) := fun W hW => by obtain ⟨j, rfl⟩ := hW; exact x6
        have e0 : ∀ W, (∃ j, W = w.drewN j) → W.cell? ⟨b2, o2 + k * 7, none⟩ = some (.int .i64 f02) := fun W hW => by obtain ⟨j, rfl⟩ := hW; exact y0
        have e1 : ∀ W, (∃ j, W = w.drewN j) → W.cell? ⟨b2, o2 + k * 7 + 1, none⟩ = some (.int .i64 d12) := fun W hW => by obtain ⟨j, rfl⟩ := hW; exact y1
        have e2 : ∀ W, (∃ j, W = w.drewN j) → W.cell? ⟨b2, o2 + k * 7 + 2, none⟩ = some (.int .i64 k22) := fun W hW => by obtain ⟨j, rfl⟩ := hW; exact y2
        have e3 : ∀ W, (∃ j, W = w.drewN j) → W.cell? ⟨b2, o2 + k * 7 + 3, none⟩ = some (.int .i64 x32) := fun W hW => by obtain ⟨j, rfl⟩ := hW; exact y3
        have e4 : ∀ W, (∃ j, W = w.drewN j) → W.cell? ⟨b2, o2 + k * 7 + 4, none⟩ = some (.int .i64 y42) := fun W hW => by obtain ⟨j, rfl⟩ := hW; exact y4
        have e5 : ∀ W, (∃ j, W = w.drewN j) → W.cell? ⟨b2, o2 + k * 7 + 5, none⟩ = some (.int .i64 c52) := fun W hW => by obtain ⟨j, rfl⟩ := hW; exact y5
        have e6 : ∀ W, (∃ j, W = w.drewN j) → W.cell? ⟨b2, o2 + k * 7 + 6, none⟩ = some (.int .i64 d62) := fun W hW => by obtain ⟨j, rfl⟩ := hW; exact y6
        clear x0 x1 x2 x3 x4 x5 x6 y0 y1 y2 y3 y4 y5 y6
        by_cases hq : f01 = f02 ∧ d11 = d12 ∧ k21 = k22 ∧ x31 = x32 ∧ y41 = y42 ∧ c51 = c52 ∧ d61 = d62
        · have hg := Lib.hid (hyes'.out (by simp [hq, edgeEq]))
          obtain ⟨rfl, rfl, rfl, rfl, rfl, rfl, rfl⟩ := hq
          clear hyes' hno'
          go_wp2
          refine wp_drawn_on (fun W => ∃ j, W = w.drewN j) (by kernel_rfl) (⟨m + 1, rfl⟩) (fun hHeld => ?_)
          refine wpAnyH_take (i := 0) (oi := { dst := some 16, op := Go.Op.move (Go.Operand.tmp 0), type := 24, pos := "slices.go:25", after := #[], guard := none }) (v := ?v19) rfl (by kernel_rfl) (by kernel_rfl) (by kernel_rfl) (fun _ _ _ h => h) (Or.inl ⟨by kernel_rfl, ?h19⟩) (by assumption) ?r19
          case h19 => (intro w hSw; (try dsimp only at hSw); go_simp; try with_reducible rfl)
          try simp only [Act.put, List.setIfInBounds_toArray, List.set_cons_zero, List.set_cons_succ]
          refine wpAnyH_take (i := 1) (oi := { dst := some 17, op := Go.Op.move (Go.Operand.tmp 5), type := 3, pos := "slices.go:25", after := #[], guard := none }) (v := ?v20) rfl (by kernel_rfl) (by kernel_rfl) (by kernel_rfl) (fun _ _ _ h => h) (Or.inl ⟨by kernel_rfl, ?h20⟩) (by assumption) ?r20
          case h20 => (intro w hSw; (try dsimp only at hSw); go_simp; try with_reducible rfl)
          try simp only [Act.put, List.setIfInBounds_toArray, List.set_cons_zero, List.set_cons_succ]
          refine wpAnyH_take (i := 2) (oi := { dst := some 18, op := Go.Op.indexAddr 24 (Go.Operand.tmp 16) (Go.Operand.tmp 17), type := 0, pos := "slices.go:25", after := #[{ on := 0, ground := Go.Ground.data }, { on := 1, ground := Go.Ground.data }], guard := none }) (v := ?v21) rfl (by kernel_rfl) (by kernel_rfl) (by kernel_rfl) (fun _ _ _ h => h) (Or.inl ⟨by kernel_rfl, ?h21⟩) (by assumption) ?r21
          case h21 => (intro w hSw; (try dsimp only at hSw); go_simp; try with_reducible rfl)
          try simp only [Act.put, List.setIfInBounds_toArray, List.set_cons_zero, List.set_cons_succ]
          refine wpAnyH_take (i := 3) (oi := { dst := some 19, op := Go.Op.load 52 (Go.Operand.tmp 18), type := 52, pos := "slices.go:25", after := #[{ on := 2, ground := Go.Ground.data }], guard := none }) (v := ?v22) rfl (by kernel_rfl) (by kernel_rfl) (by kernel_rfl) (fun _ _ _ h => h) (Or.inl ⟨by kernel_rfl, ?h22⟩) (by assumption) ?r22
          case h22 => (intro w hSw; (try dsimp only at hSw); go_simp; try with_reducible rfl)
          try simp only [Act.put, List.setIfInBounds_toArray, List.set_cons_zero, List.set_cons_succ]
          refine wpAnyH_take (i := 4) (oi := { dst := some 20, op := Go.Op.move (Go.Operand.tmp 1), type := 24, pos := "slices.go:25", after := #[], guard := none }) (v := ?v23) rfl (by kernel_rfl) (by kernel_rfl) (by kernel_rfl) (fun _ _ _ h => h) (Or.inl ⟨by kernel_rfl, ?h23⟩) (by assumption) ?r23
          case h23 => (intro w hSw; (try dsimp only at hSw); go_simp; try with_reducible rfl)
          try simp only [Act.put, List.setIfInBounds_toArray, List.set_cons_zero, List.set_cons_succ]
          refine wpAnyH_take (i := 5) (oi := { dst := some 21, op := Go.Op.move (Go.Operand.tmp 5), type := 3, pos := "slices.go:25", after := #[], guard := none }) (v := ?v24) rfl (by kernel_rfl) (by kernel_rfl) (by kernel_rfl) (fun _ _ _ h => h) (Or.inl ⟨by kernel_rfl, ?h24⟩) (by assumption) ?r24
          case h24 => (intro w hSw; (try dsimp only at hSw); go_simp; try with_reducible rfl)
          try simp only [Act.put, List.setIfInBounds_toArray, List.set_cons_zero, List.set_cons_succ]
          refine wpAnyH_take (i := 6) (oi := { dst := some 22, op := Go.Op.indexAddr 24 (Go.Operand.tmp 20) (Go.Operand.tmp 21), type := 0, pos := "slices.go:25", after := #[{ on := 4, ground := Go.Ground.data }, { on := 5, ground := Go.Ground.data }], guard := none }) (v := ?v25) rfl (by kernel_rfl) (by kernel_rfl) (by kernel_rfl) (fun _ _ _ h => h) (Or.inl ⟨by kernel_rfl, ?h25⟩) (by assumption) ?r25
          case h25 => (intro w hSw; (try dsimp only at hSw); go_simp; try with_reducible rfl)
          try simp only [Act.put, List.setIfInBounds_toArray, List.set_cons_zero, List.set_cons_succ]
          refine wpAnyH_take (i := 7) (oi := { dst := some 23, op := Go.Op.load 52 (Go.Operand.tmp 22), type := 52, pos := "slices.go:25", after := #[{ on := 6, ground := Go.Ground.data }], guard := none }) (v := ?v26) rfl (by kernel_rfl) (by kernel_rfl) (by kernel_rfl) (fun _ _ _ h => h) (Or.inl ⟨by kernel_rfl, ?h26⟩) (by assumption) ?r26
          case h26 => (intro w hSw; (try dsimp only at hSw); go_simp; try with_reducible rfl)
          try simp only [Act.put, List.setIfInBounds_toArray, List.set_cons_zero, List.set_cons_succ]
          refine wpAnyH_take (i := 8) (oi := { dst := some 24, op := Go.Op.binOp Go.BinOp.neq 52 (Go.Operand.tmp 19) (Go.Operand.tmp 23) 52, type := 4, pos := "slices.go:25", after := #[{ on := 3, ground := Go.Ground.data }, { on := 7, ground := Go.Ground.data }], guard := none }) (v := ?v27) rfl (by kernel_rfl) (by kernel_rfl) (by kernel_rfl) (fun _ _ _ h => h) (Or.inl ⟨by kernel_rfl, ?h27⟩) (by assumption) ?r27
          case h27 => (intro w hSw; (try dsimp only at hSw); refine Eq.trans (b := Result.ok (Next.value (.bool false)) w) (by go_simp; try simp [ptxt_eq]) ?_; with_reducible rfl)
          try simp only [Act.put, List.setIfInBounds_toArray, List.set_cons_zero, List.set_cons_succ]
          refine wpAnyH_done (by kernel_rfl) ?_ _
          clear g0 e0 g1 e1 g2 e2 g3 e3 g4 e4 g5 e5 g6 e6
          go_wp2
          go_roundw
          case rel => exact ⟨k + 1, m + 1, by omega, by go_num, hg, rfl⟩
          case measure => simp [intOf]; omega
        · have hf := Lib.hid (hno'.out (by cases hx : edgeEq (⟨f01, d11, k21, x31, y41, c51, d61⟩ : EdgeD) ⟨f02, d12, k22, x32, y42, c52, d62⟩ with | false => rfl | true => exact absurd (by simpa [edgeEq] using hx) hq))
          clear hyes' hno'
          go_wp2
          refine wp_drawn_on (fun W => ∃ j, W = w.drewN j) (by kernel_rfl) (⟨m + 1, rfl⟩) (fun hHeld => ?_)
          refine wpAnyH_take (i := 0) (oi := { dst := some 16, op := Go.Op.move (Go.Operand.tmp 0), type := 24, pos := "slices.go:25", after := #[], guard := none }) (v := ?v28) rfl (by kernel_rfl) (by kernel_rfl) (by kernel_rfl) (fun _ _ _ h => h) (Or.inl ⟨by kernel_rfl, ?h28⟩) (by assumption) ?r28
          case h28 => (intro w hSw; (try dsimp only at hSw); go_simp; try with_reducible rfl)
          try simp only [Act.put, List.setIfInBounds_toArray, List.set_cons_zero, List.set_cons_succ]
          refine wpAnyH_take (i := 1) (oi := { dst := some 17, op := Go.Op.move (Go.Operand.tmp 5), type := 3, pos := "slices.go:25", after := #[], guard := none }) (v := ?v29) rfl (by kernel_rfl) (by kernel_rfl) (by kernel_rfl) (fun _ _ _ h => h) (Or.inl ⟨by kernel_rfl, ?h29⟩) (by assumption) ?r29
          case h29 => (intro w hSw; (try dsimp only at hSw); go_simp; try with_reducible rfl)
          try simp only [Act.put, List.setIfInBounds_toArray, List.set_cons_zero, List.set_cons_succ]
          refine wpAnyH_take (i := 2) (oi := { dst := some 18, op := Go.Op.indexAddr 24 (Go.Operand.tmp 16) (Go.Operand.tmp 17), type := 0, pos := "slices.go:25", after := #[{ on := 0, ground := Go.Ground.data }, { on := 1, ground := Go.Ground.data }], guard := none }) (v := ?v30) rfl (by kernel_rfl) (by kernel_rfl) (by kernel_rfl) (fun _ _ _ h => h) (Or.inl ⟨by kernel_rfl, ?h30⟩) (by assumption) ?r30
          case h30 => (intro w hSw; (try dsimp only at hSw); go_simp; try with_reducible rfl)
          try simp only [Act.put, List.setIfInBounds_toArray, List.set_cons_zero, List.set_cons_succ]
          refine wpAnyH_take (i := 3) (oi := { dst := some 19, op := Go.Op.load 52 (Go.Operand.tmp 18), type := 52, pos := "slices.go:25", after := #[{ on := 2, ground := Go.Ground.data }], guard := none }) (v := ?v31) rfl (by kernel_rfl) (by kernel_rfl) (by kernel_rfl) (fun _ _ _ h => h) (Or.inl ⟨by kernel_rfl, ?h31⟩) (by assumption) ?r31
          case h31 => (intro w hSw; (try dsimp only at hSw); go_simp; try with_reducible rfl)
          try simp only [Act.put, List.setIfInBounds_toArray, List.set_cons_zero, List.set_cons_succ]
          refine wpAnyH_take (i := 4) (oi := { dst := some 20, op := Go.Op.move (Go.Operand.tmp 1), type := 24, pos := "slices.go:25", after := #[], guard := none }) (v := ?v32) rfl (by kernel_rfl) (by kernel_rfl) (by kernel_rfl) (fun _ _ _ h => h) (Or.inl ⟨by kernel_rfl, ?h32⟩) (by assumption) ?r32
          case h32 => (intro w hSw; (try dsimp only at hSw); go_simp; try with_reducible rfl)
          try simp only [Act.put, List.setIfInBounds_toArray, List.set_cons_zero, List.set_cons_succ]
          refine wpAnyH_take (i := 5) (oi := { dst := some 21, op := Go.Op.move (Go.Operand.tmp 5), type := 3, pos := "slices.go:25", after := #[], guard := none }) (v := ?v33) rfl (by kernel_rfl) (by kernel_rfl) (by kernel_rfl) (fun _ _ _ h => h) (Or.inl ⟨by kernel_rfl, ?h33⟩) (by assumption) ?r33
          case h33 => (intro w hSw; (try dsimp only at hSw); go_simp; try with_reducible rfl)
          try simp only [Act.put, List.setIfInBounds_toArray, List.set_cons_zero, List.set_cons_succ]
          refine wpAnyH_take (i := 6) (oi := { dst := some 22, op := Go.Op.indexAddr 24 (Go.Operand.tmp 20) (Go.Operand.tmp 21), type := 0, pos := "slices.go:25", after := #[{ on := 4, ground := Go.Ground.data }, { on := 5, ground := Go.Ground.data }], guard := none }) (v := ?v34) rfl (by kernel_rfl) (by kernel_rfl) (by kernel_rfl) (fun _ _ _ h => h) (Or.inl ⟨by kernel_rfl, ?h34⟩) (by assumption) ?r34
          case h34 => (intro w hSw; (try dsimp only at hSw); go_simp; try with_reducible rfl)
          try simp only [Act.put, List.setIfInBounds_toArray, List.set_cons_zero, List.set_cons_succ]
          refine wpAnyH_take (i := 7) (oi := { dst := some 23, op := Go.Op.load 52 (Go.Operand.tmp 22), type := 52, pos := "slices.go:25", after := #[{ on := 6, ground := Go.Ground.data }], guard := none }) (v := ?v35) rfl (by kernel_rfl) (by kernel_rfl) (by kernel_rfl) (fun _ _ _ h => h) (Or.inl ⟨by kernel_rfl, ?h35⟩) (by assumption) ?r35
          case h35 => (intro w hSw; (try dsimp only at hSw); go_simp; try with_reducible rfl)
          try simp only [Act.put, List.setIfInBounds_toArray, List.set_cons_zero, List.set_cons_succ]
          refine wpAnyH_take (i := 8) (oi := { dst := some 24, op := Go.Op.binOp Go.BinOp.neq 52 (Go.Operand.tmp 19) (Go.Operand.tmp 23) 52, type := 4, pos := "slices.go:25", after := #[{ on := 3, ground := Go.Ground.data }, { on := 7, ground := Go.Ground.data }], guard := none }) (v := ?v36) rfl (by kernel_rfl) (by kernel_rfl) (by kernel_rfl) (fun _ _ _ h => h) (Or.inl ⟨by kernel_rfl, ?h36⟩) (by assumption) ?r36
          case h36 => (intro w hSw; (try dsimp only at hSw); refine Eq.trans (b := Result.ok (Next.value (.bool true)) w) (by go_simp; by_cases h0 : f01 = f02 <;> by_cases h1 : d11 = d12 <;> by_cases h2 : k21 = k22 <;> by_cases h3 : x31 = x32 <;> by_cases h4 : y41 = y42 <;> by_cases h5 : c51 = c52 <;> by_cases h6 : d61 = d62 <;> simp_all [ptxt_eq, ptl_iff]) ?_; with_reducible rfl)
          try simp only [Act.put, List.setIfInBounds_toArray, List.set_cons_zero, List.set_cons_succ]
          refine wpAnyH_done (by kernel_rfl) ?_ _
          clear g0 e0 g1 e1 g2 e2 g3 e3 g4 e4 g5 e5 g6 e6
          go_wp2
          go_ret
          exact ⟨ret_bool hf.out.symm, m + 1, rfl⟩
      · have hki : ¬ (k : Int) < (n1 : Int) := by omega
        have hf := Lib.hid (hyes.out (fun t ht => hal.out t (by rw [← hl1.out] at ht; omega)))
        clear hyes hno hal
        go_wp2
        go_ret
        exact ⟨ret_bool hf.out.symm, m, rfl⟩
  · have e0' : ((n1 : Int) != (n2 : Int)) = true := by simp; omega
    have e0n : (n1 != n2) = true := by simpa using hne
    have hR : Hid (listEq edgeEq edge0 l1 l2 = false) := Lib.hid (listEq_len (by rw [← hl1.out, ← hl2.out]; exact hne))
    clear hne
    generalize listEq edgeEq edge0 l1 l2 = R at *
    go_enter Tryz.func38, Tryz.ntmps38
    go_wp2
    go_ret
    exact ⟨ret_bool hR.out.symm, 0, rfl⟩
theorem drawnB_below {v : Value} {w : World} {e : Ending} {w' : World} (h : DrawnB v w e w') : e = .returned v ∧ Below w.heap.size w w' := by
  obtain ⟨h1, m, rfl⟩ := h
  exact ⟨h1, drewN_below w m⟩
set_option maxRecDepth 100000 in
set_option maxHeartbeats 4000000 in
theorem psame'_any (p q : PV) (A B : PD) (w : World) (h1 : PrA w p A) (h2 : PrA w q B) : Calls Tryz.prog 10 #[.agg #[.string p.nm, .slice p.a1 p.n1 p.c1, .slice p.a2 p.n2 p.c2, .slice p.a3 p.n3 p.c3], .agg #[.string q.nm, .slice q.a1 q.n1 q.c1, .slice q.a2 q.n2 q.c2, .slice q.a3 q.n3 q.c3]] w (Gives (.bool (sameP A B)) w) := by
  have hR : Hid (sameP A B = (decide (p.nm = q.nm) && (decide (A.vars = B.vars) && (listEq spotEq spot0 A.spots B.spots && listEq edgeEq edge0 A.edges B.edges)))) := Lib.hid (by unfold sameP; rw [h1.nm, h2.nm])
  obtain ⟨W1, hW1⟩ : ∃ W1, W1 = (w.alloc (.cells #[.string p.nm, .slice p.a1 p.n1 p.c1, .slice p.a2 p.n2 p.c2, .slice p.a3 p.n3 p.c3] 26)).alloc (.cells #[.string q.nm, .slice q.a1 q.n1 q.c1, .slice q.a2 q.n2 q.c2, .slice q.a3 q.n3 q.c3] 26) := ⟨_, rfl⟩
  have Z : Hid (Holds W1 w.heap.size 26 #[.string p.nm, .slice p.a1 p.n1 p.c1, .slice p.a2 p.n2 p.c2, .slice p.a3 p.n3 p.c3]) := Lib.hid (by rw [hW1]; exact (Holds.new w _ _).alloc _)
  have V : Hid (Holds W1 (w.heap.size + 1) 26 #[.string q.nm, .slice q.a1 q.n1 q.c1, .slice q.a2 q.n2 q.c2, .slice q.a3 q.n3 q.c3]) := Lib.hid (by
    rw [hW1]
    have := Holds.new (w.alloc (.cells #[.string p.nm, .slice p.a1 p.n1 p.c1, .slice p.a2 p.n2 p.c2, .slice p.a3 p.n3 p.c3] 26)) 26 #[.string q.nm, .slice q.a1 q.n1 q.c1, .slice q.a2 q.n2 q.c2, .slice q.a3 q.n3 q.c3]
    simpa using this)
  have BL := Lib.hid (show Below w.heap.size w W1 by rw [hW1]; exact box2_below _ _ _ _ _)
  have XA := Lib.hid (h1.below BL.out)
  have XB := Lib.hid (h2.below BL.out)
  have hW1' := Lib.hid hW1
  have qv := Lib.hid (fun W (a : PrA W p A) (b : PrA W q B) => (equal_any p.a1 q.a1 p.n1 q.n1 p.c1 q.c1 A.vars B.vars (by have := a.vars.cap; have := a.vars.max; unfold maxLen at this; omega) (by have := b.vars.cap; have := b.vars.max; unfold maxLen at this; omega) W a.vars b.vars).mono (fun e w' h => drawnB_below h))
  have qs := Lib.hid (fun W (a : PrA W p A) (b : PrA W q B) => (spotsEq_any p.a2 q.a2 p.n2 q.n2 p.c2 q.c2 A.spots B.spots W a.spots b.spots).mono (fun e w' h => drawnB_below h))
  have qe := Lib.hid (fun W (a : PrA W p A) (b : PrA W q B) => (edgesEq_any p.a3 q.a3 p.n3 q.n3 p.c3 q.c3 A.edges B.edges W a.edges b.edges).mono (fun e w' h => drawnB_below h))
  have k0 := Z.out.cell 0
  have k1 := Z.out.cell 1
  have j0 := V.out.cell 0
  have j1 := V.out.cell 1
  clear h1 h2 hW1
  generalize sameP A B = R at *
  generalize decide (A.vars = B.vars) = bv at *
  generalize listEq spotEq spot0 A.spots B.spots = bs at *
  generalize listEq edgeEq edge0 A.edges B.edges = be at *
  by_cases hn : p.nm = q.nm
  · have hR2 : Hid (R = (bv && (bs && be))) := Lib.hid (by rw [hR.out, decide_eq_true hn]; rfl)
    have e1 : (p.nm.toList == q.nm.toList) = true := by rw [ptxt_eq]; exact decide_eq_true hn
    clear hR hn
    go_enter Tryz.func10, Tryz.ntmps10
    go_wp2_with fail
    rw [← hW1'.out]
    with_reducible refine (qv.out W1 XA.out XB.out).mono ?_
    rintro e u1 ⟨rfl, b1⟩
    clear k0 k1 j0 j1
    cases bv
    · have hf : Hid (R = false) := Lib.hid (by rw [hR2.out]; rfl)
      go_wp2
      go_ret
      exact ⟨ret_bool hf.out.symm, BL.out.trans (b1.mono BL.out.size)⟩
    · replace Z := Lib.hid (Z.out.below b1 Z.out.lt)
      replace V := Lib.hid (V.out.below b1 V.out.lt)
      replace XA := Lib.hid (XA.out.below b1)
      replace XB := Lib.hid (XB.out.below b1)
      replace BL := Lib.hid (BL.out.trans (b1.mono BL.out.size))
      clear b1
      have k2 := Z.out.cell 2
      have j2 := V.out.cell 2
      go_wp2_with fail
      with_reducible refine (qs.out u1 XA.out XB.out).mono ?_
      rintro e u2 ⟨rfl, b1⟩
      clear k2 j2
      cases bs
      · have hf : Hid (R = false) := Lib.hid (by rw [hR2.out]; rfl)
        go_wp2
        go_ret
        exact ⟨ret_bool hf.out.symm, BL.out.trans (b1.mono BL.out.size)⟩
      · replace Z := Lib.hid (Z.out.below b1 Z.out.lt)
        replace V := Lib.hid (V.out.below b1 V.out.lt)
        replace XA := Lib.hid (XA.out.below b1)
        replace XB := Lib.hid (XB.out.below b1)
        replace BL := Lib.hid (BL.out.trans (b1.mono BL.out.size))
        clear b1
        have hf : Hid (R = be) := Lib.hid (by rw [hR2.out]; rfl)
        have k3 := Z.out.cell 3
        have j3 := V.out.cell 3
        go_wp2_with fail
        with_reducible refine (qe.out u2 XA.out XB.out).mono ?_
        rintro e u3 ⟨rfl, b1⟩
        clear k3 j3
        go_wp2
        go_ret
        exact ⟨ret_bool hf.out.symm, BL.out.trans (b1.mono BL.out.size)⟩
  · have hf : Hid (R = false) := Lib.hid (by rw [hR.out, decide_eq_false hn]; rfl)
    have e1 : (p.nm.toList == q.nm.toList) = false := by rw [ptxt_eq]; exact decide_eq_false hn
    clear hR hn
    go_enter Tryz.func10, Tryz.ntmps10
    go_wp2
    go_ret
    rw [← hW1'.out]
    exact ⟨ret_bool hf.out.symm, BL.out⟩
end Go.Proofs.YtgeliikfgnkppaaGreatDoor
