/-
  Words and walks under the law's proof.
-/
import Derived.Deep.Slices
import Derived.Deep.Fields
import Derived.ChangeSame
import Derived.Shelf.SlSortCmp.Kit1
import Derived.Sort.WalkA
import Derived.Sort.WalkB3
import Derived.Deep.LoopGhost
import Derived.RangeFuncNested
import Derived.RangeFuncBound
import Derived.RangeFuncCalls
import Derived.RangeFuncLeaves
import Derived.RangeFuncBox
import Derived.Shelf.Abstract
import Derived.WalkKit
import Derived.OwnWalkIn
import Derived.TacticsInMore
import Derived.LoopNIn
import Derived.LoopIn
import Derived.Maps.AppendAt
import Derived.Test.YtpchncpcckfghaaGreatQO01
namespace Go.Proofs.YtpchncpcckfghaaGreat
open Go.RowKit
set_option linter.unusedVariables false
set_option linter.unusedSimpArgs false
theorem mtl_iff (s t : ByteArray) : s.toList = t.toList ↔ s = t := by
  rw [ByteArray.toList_eq, ByteArray.toList_eq]
  exact ⟨fun h => ByteArray.ext (Array.toList_inj.1 h), fun h => by rw [h]⟩
theorem mk_all (a b : MkD) : a = b ↔ a.f = b.f ∧ a.note = b.note := by
  cases a; cases b; simp
theorem mk_cmp (a b : MkD) {α : Type} (f : Bool → α) (q : Bool) (h : q = true ↔ a = b) : (if a.f = b.f then (if a.note.toList = b.note.toList then f true else f false) else f false) = f q := by
  rw [mk_all] at h
  simp only [mtl_iff]
  cases q
  · have h' : ¬ (a.f = b.f ∧ a.note = b.note) := fun x => by have := h.2 x; cases this
    repeat' split
    all_goals first | rfl | (exfalso; apply h'; exact ⟨by assumption, by assumption⟩)
  · obtain ⟨h1, h2⟩ := h.1 rfl
    rw [if_pos h1, if_pos h2]
theorem mk_cmp' (a b : MkD) {α : Type} (f : Bool → α) (q : Bool) (h : q = true ↔ ¬ a = b) : (if a.f = b.f then (if a.note.toList = b.note.toList then f false else f true) else f true) = f q := by
  have q2 := mk_cmp a b (fun x => f (!x)) (!q) (by cases q <;> simp at h ⊢ <;> exact h)
  simpa using q2
def DrawnM (v : Value) (w : World) (e : Ending) (w' : World) : Prop := e = .returned v ∧ ∃ m, w' = w.drewN m
theorem drawnM_gives {v : Value} {w : World} {e : Ending} {w' : World} (h : DrawnM v w e w') : Gives v w e w' := by
  obtain ⟨h1, m, rfl⟩ := h
  exact ⟨h1, Below.drewN (Below.refl _ _) m⟩
def sameM (l r : List MkD) : Bool := decide (l = r)
theorem sameM_no {l r : List MkD} {k : Nat} (hk : k < l.length) (h : ¬ l.getD k mk0 = r.getD k mk0) : sameM l r = false := by
  unfold sameM
  rw [decide_eq_false_iff_not]
  rintro rfl
  exact h rfl
theorem sameM_len {l r : List MkD} (h : l.length ≠ r.length) : sameM l r = false := by
  unfold sameM
  rw [decide_eq_false_iff_not]
  rintro rfl
  exact h rfl
theorem sameM_yes {l r : List MkD} (hl : l.length = r.length) (h : ∀ t, t < l.length → l.getD t mk0 = r.getD t mk0) : sameM l r = true := by
  unfold sameM
  rw [decide_eq_true_eq]
  apply List.ext_getElem hl
  intro i a b
  have q := h i a
  simpa [List.getD, a, b] using q
set_option maxRecDepth 100000 in
set_option maxHeartbeats 8000000 in
theorem mkEqual_any (a1 a2 : Option Addr) (n1 n2 c1 c2 : Nat) (l1 l2 : List MkD) (w : World) (h1 : RO mkC w a1 n1 c1 l1) (h2 : RO mkC w a2 n2 c2 l2) : Calls Tryz.prog 43 #[.slice a1 n1 c1, .slice a2 n2 c2] w (DrawnM (.bool (sameM l1 l2)) w) := by
  have hl1 := Lib.hid h1.len
  have hl2 := Lib.hid h2.len
  have T1 := Lib.hid h1
  have T2 := Lib.hid h2
  have hm1 := h1.max'
  have hm2 := h2.max'
  have hm1i : (n1 : Int) ≤ 9223372036854775807 := by omega
  clear h1 h2
  by_cases hne : n1 = n2
  · have e0' : ((n1 : Int) != (n2 : Int)) = false := by simp; omega
    have e0n : (n1 != n2) = false := by simpa using hne
    have hne' := Lib.hid hne
    have hno := Lib.hid (fun k hk h => sameM_no (l := l1) (r := l2) (k := k) hk h)
    have hyes := Lib.hid (fun h => sameM_yes (l := l1) (r := l2) (by rw [← hl1.out, ← hl2.out]; exact hne) h)
    clear hne
    generalize sameM l1 l2 = R at *
    go_enter Tryz.func43, Tryz.ntmps43
    go_wp2
    go_loopw [13] (fun x wr => ∃ k m : Nat, k ≤ n1 ∧ x = .int .i64 k ∧ Hid (∀ t, t < k → l1.getD t mk0 = l2.getD t mk0) ∧ wr = w.drewN m) (fun x _ => n1 - (intOf x).toNat)
    case atStart => exact ⟨0, 0, by omega, rfl, Lib.hid (fun t ht => by omega), rfl⟩
    case round =>
      obtain ⟨k, m, hk, rfl, hal, rfl⟩ := hrel
      by_cases hlt : k < n1
      · have hki : (k : Int) < (n1 : Int) := by omega
        have hk2 : k < n2 := by have := hne'.out; omega
        have hki2 : (k : Int) < (n2 : Int) := by omega
        obtain ⟨b1, o1, rfl, -, x0, x1⟩ := mk_at T1.out hlt
        obtain ⟨b2, o2, rfl, -, y0, y1⟩ := mk_at T2.out hk2
        have hno' := Lib.hid (hno.out k (by rw [← hl1.out]; exact hlt))
        have hyes' : Hid (l1.getD k mk0 = l2.getD k mk0 → ∀ t, t < k + 1 → l1.getD t mk0 = l2.getD t mk0) := Lib.hid (fun h t ht => by
          by_cases e : t = k
          · rw [e]; exact h
          · exact hal.out t (by omega))
        obtain ⟨⟨ak, ax⟩, hs1⟩ : ∃ u, l1.getD k mk0 = (u : MkD) := ⟨_, rfl⟩
        obtain ⟨⟨bk, bx⟩, hs2⟩ : ∃ u, l2.getD k mk0 = (u : MkD) := ⟨_, rfl⟩
        rw [hs1] at x0 x1 hno' hyes'
        rw [hs2] at y0 y1 hno' hyes'
        dsimp only at x0 x1 y0 y1
        clear hs1 hs2 hal hno
        have g0 : ∀ W, (∃ j, W = w.drewN j) → W.cell? ⟨b1, o1 + k * 2, none⟩ = some (.int .u64 ak) := fun W hW => by obtain ⟨j, rfl⟩ := hW; exact x0
        have g1 : ∀ W, (∃ j, W = w.drewN j) → W.cell? ⟨b1, o1 + k * 2 + 1, none⟩ = some (.string ax) := fun W hW => by obtain ⟨j, rfl⟩ := hW; exact x1
        have e0 : ∀ W, (∃ j, W = w.drewN j) → W.cell? ⟨b2, o2 + k * 2, none⟩ = some (.int .u64 bk) := fun W hW => by obtain ⟨j, rfl⟩ := hW; exact y0
        have e1 : ∀ W, (∃ j, W = w.drewN j) → W.cell? ⟨b2, o2 + k * 2 + 1, none⟩ = some (.string bx) := fun W hW => by obtain ⟨j, rfl⟩ := hW; exact y1
        clear x0 x1 y0 y1
        by_cases hq : (⟨ak, ax⟩ : MkD) = ⟨bk, bx⟩
        · have hg := Lib.hid (hyes'.out hq)
          have haq : Hid (false = true ↔ ¬ (⟨ak, ax⟩ : MkD) = ⟨bk, bx⟩) := Lib.hid (by simp only [hq, not_true_eq_false, Bool.false_eq_true])
          clear hyes' hno' hq
          go_wp2
          refine wp_drawn_on (fun W => ∃ j, W = w.drewN j) (by kernel_rfl) (⟨m + 1, rfl⟩) (fun hHeld => ?_)
          refine wT 0 (v := ?v1) rfl (by kernel_rfl) (fun _ _ _ h => h) ?h1 (by assumption) ?r1
          case h1 => (intro w hSw; (try dsimp only at hSw); go_simp; try with_reducible rfl)
          refine wT 1 (v := ?v2) rfl (by kernel_rfl) (fun _ _ _ h => h) ?h2 (by assumption) ?r2
          case h2 => (intro w hSw; (try dsimp only at hSw); go_simp; try with_reducible rfl)
          refine wT 2 (v := ?v3) rfl (by kernel_rfl) (fun _ _ _ h => h) ?h3 (by assumption) ?r3
          case h3 => (intro w hSw; (try dsimp only at hSw); go_simp; try with_reducible rfl)
          refine wT 3 (v := ?v4) rfl (by kernel_rfl) (fun _ _ _ h => h) ?h4 (by assumption) ?r4
          case h4 => (intro w hSw; (try dsimp only at hSw); go_simp; try with_reducible rfl)
          refine wT 4 (v := ?v5) rfl (by kernel_rfl) (fun _ _ _ h => h) ?h5 (by assumption) ?r5
          case h5 => (intro w hSw; (try dsimp only at hSw); go_simp; try with_reducible rfl)
          refine wT 5 (v := ?v6) rfl (by kernel_rfl) (fun _ _ _ h => h) ?h6 (by assumption) ?r6
          case h6 => (intro w hSw; (try dsimp only at hSw); go_simp; try with_reducible rfl)
          refine wT 6 (v := ?v7) rfl (by kernel_rfl) (fun _ _ _ h => h) ?h7 (by assumption) ?r7
          case h7 => (intro w hSw; (try dsimp only at hSw); go_simp; try with_reducible rfl)
          refine wT 7 (v := ?v8) rfl (by kernel_rfl) (fun _ _ _ h => h) ?h8 (by assumption) ?r8
          case h8 => (intro w hSw; (try dsimp only at hSw); go_simp; try with_reducible rfl)
          refine wT 8 (v := ?v9) rfl (by kernel_rfl) (fun _ _ _ h => h) ?h9 (by assumption) ?r9
          case h9 => (intro w hSw; (try dsimp only at hSw); refine Eq.trans (b := Result.ok (Next.value (.bool false)) w) (by go_simp; exact mk_cmp' ⟨ak, ax⟩ ⟨bk, bx⟩ (fun b => Result.ok (Next.value (Value.bool b)) w) false haq.out) ?_; with_reducible rfl)
          try simp only [Act.put, List.setIfInBounds_toArray, List.set_cons_zero, List.set_cons_succ]
          refine wpAnyH_done (by kernel_rfl) ?_ _
          clear g0 e0 g1 e1
          go_wp2
          go_roundw
          case rel => exact ⟨k + 1, m + 1, by omega, by go_num, hg, rfl⟩
          case measure => simp [intOf]; omega
        · have hf := Lib.hid (hno'.out hq)
          obtain ⟨bq, hb⟩ : ∃ bq : Bool, Hid (bq = true) := ⟨true, Lib.hid rfl⟩
          have haq : Hid (bq = true ↔ ¬ (⟨ak, ax⟩ : MkD) = ⟨bk, bx⟩) := Lib.hid ⟨fun _ => hq, fun _ => hb.out⟩
          clear hyes' hno' hq
          go_wp2
          refine wp_drawn_on (fun W => ∃ j, W = w.drewN j) (by kernel_rfl) (⟨m + 1, rfl⟩) (fun hHeld => ?_)
          refine wT 0 (v := ?v10) rfl (by kernel_rfl) (fun _ _ _ h => h) ?h10 (by assumption) ?r10
          case h10 => (intro w hSw; (try dsimp only at hSw); go_simp; try with_reducible rfl)
          refine wT 1 (v := ?v11) rfl (by kernel_rfl) (fun _ _ _ h => h) ?h11 (by assumption) ?r11
          case h11 => (intro w hSw; (try dsimp only at hSw); go_simp; try with_reducible rfl)
          refine wT 2 (v := ?v12) rfl (by kernel_rfl) (fun _ _ _ h => h) ?h12 (by assumption) ?r12
          case h12 => (intro w hSw; (try dsimp only at hSw); go_simp; try with_reducible rfl)
          refine wT 3 (v := ?v13) rfl (by kernel_rfl) (fun _ _ _ h => h) ?h13 (by assumption) ?r13
          case h13 => (intro w hSw; (try dsimp only at hSw); go_simp; try with_reducible rfl)
          refine wT 4 (v := ?v14) rfl (by kernel_rfl) (fun _ _ _ h => h) ?h14 (by assumption) ?r14
          case h14 => (intro w hSw; (try dsimp only at hSw); go_simp; try with_reducible rfl)
          refine wT 5 (v := ?v15) rfl (by kernel_rfl) (fun _ _ _ h => h) ?h15 (by assumption) ?r15
          case h15 => (intro w hSw; (try dsimp only at hSw); go_simp; try with_reducible rfl)
          refine wT 6 (v := ?v16) rfl (by kernel_rfl) (fun _ _ _ h => h) ?h16 (by assumption) ?r16
          case h16 => (intro w hSw; (try dsimp only at hSw); go_simp; try with_reducible rfl)
          refine wT 7 (v := ?v17) rfl (by kernel_rfl) (fun _ _ _ h => h) ?h17 (by assumption) ?r17
          case h17 => (intro w hSw; (try dsimp only at hSw); go_simp; try with_reducible rfl)
          refine wT 8 (v := ?v18) rfl (by kernel_rfl) (fun _ _ _ h => h) ?h18 (by assumption) ?r18
          case h18 => (intro w hSw; (try dsimp only at hSw); refine Eq.trans (b := Result.ok (Next.value (.bool bq)) w) (by go_simp; exact mk_cmp' ⟨ak, ax⟩ ⟨bk, bx⟩ (fun b => Result.ok (Next.value (Value.bool b)) w) bq haq.out) ?_; with_reducible rfl)
          try simp only [Act.put, List.setIfInBounds_toArray, List.set_cons_zero, List.set_cons_succ]
          refine wpAnyH_done (by kernel_rfl) ?_ _
          clear g0 e0 g1 e1
          have hb2 : bq = true := hb.out
          subst hb2
          go_wp2
          go_ret
          exact ⟨ret_bool hf.out.symm, m + 1, rfl⟩
      · have hki : ¬ (k : Int) < (n1 : Int) := by omega
        have hf := Lib.hid (hyes.out (fun t ht => hal.out t (by rw [← hl1.out] at ht; omega)))
        clear hyes hno hal
        go_wp2
        go_ret
        exact ⟨ret_bool hf.out.symm, m, rfl⟩
  · have e0' : ((n1 : Int) != (n2 : Int)) = true := by simp; omega
    have e0n : (n1 != n2) = true := by simpa using hne
    have hR : Hid (sameM l1 l2 = false) := Lib.hid (sameM_len (by rw [← hl1.out, ← hl2.out]; exact hne))
    clear hne
    generalize sameM l1 l2 = R at *
    go_enter Tryz.func43, Tryz.ntmps43
    go_wp2
    go_ret
    exact ⟨ret_bool hR.out.symm, 0, rfl⟩
set_option maxRecDepth 100000 in
set_option maxHeartbeats 8000000 in
theorem mkSame_any (a1 a2 : Option Addr) (n1 n2 c1 c2 : Nat) (l1 l2 : List MkD) (w : World) (h1 : RO mkC w a1 n1 c1 l1) (h2 : RO mkC w a2 n2 c2 l2) : Calls Tryz.prog 19 #[.slice a1 n1 c1, .slice a2 n2 c2] w (DrawnM (.bool (sameM l1 l2)) w) := by
  have hl1 := Lib.hid h1.len
  have hl2 := Lib.hid h2.len
  have T1 := Lib.hid h1
  have T2 := Lib.hid h2
  have hm1 := h1.max'
  have hm2 := h2.max'
  have hm1i : (n1 : Int) ≤ 9223372036854775807 := by omega
  clear h1 h2
  by_cases hne : n1 = n2
  · have e0' : ((n1 : Int) != (n2 : Int)) = false := by simp; omega
    have e0n : (n1 != n2) = false := by simpa using hne
    have hne' := Lib.hid hne
    have hno := Lib.hid (fun k hk h => sameM_no (l := l1) (r := l2) (k := k) hk h)
    have hyes := Lib.hid (fun h => sameM_yes (l := l1) (r := l2) (by rw [← hl1.out, ← hl2.out]; exact hne) h)
    clear hne
    generalize sameM l1 l2 = R at *
    go_enter Tryz.func19, Tryz.ntmps19
    go_wp2
    go_loopw [5] (fun x wr => ∃ k m : Nat, k ≤ n1 ∧ x = .int .i64 k ∧ Hid (∀ t, t < k → l1.getD t mk0 = l2.getD t mk0) ∧ wr = w.drewN m) (fun x _ => n1 - (intOf x).toNat)
    case atStart => exact ⟨0, 0, by omega, rfl, Lib.hid (fun t ht => by omega), rfl⟩
    case round =>
      obtain ⟨k, m, hk, rfl, hal, rfl⟩ := hrel
      by_cases hlt : k < n1
      · have hki : (k : Int) < (n1 : Int) := by omega
        have hk2 : k < n2 := by have := hne'.out; omega
        have hki2 : (k : Int) < (n2 : Int) := by omega
        obtain ⟨b1, o1, rfl, -, x0, x1⟩ := mk_at T1.out hlt
        obtain ⟨b2, o2, rfl, -, y0, y1⟩ := mk_at T2.out hk2
        have hno' := Lib.hid (hno.out k (by rw [← hl1.out]; exact hlt))
        have hyes' : Hid (l1.getD k mk0 = l2.getD k mk0 → ∀ t, t < k + 1 → l1.getD t mk0 = l2.getD t mk0) := Lib.hid (fun h t ht => by
          by_cases e : t = k
          · rw [e]; exact h
          · exact hal.out t (by omega))
        obtain ⟨⟨ak, ax⟩, hs1⟩ : ∃ u, l1.getD k mk0 = (u : MkD) := ⟨_, rfl⟩
        obtain ⟨⟨bk, bx⟩, hs2⟩ : ∃ u, l2.getD k mk0 = (u : MkD) := ⟨_, rfl⟩
        rw [hs1] at x0 x1 hno' hyes'
        rw [hs2] at y0 y1 hno' hyes'
        dsimp only at x0 x1 y0 y1
        clear hs1 hs2 hal hno
        have g0 : ∀ W, (∃ j, W = w.drewN j) → W.cell? ⟨b1, o1 + k * 2, none⟩ = some (.int .u64 ak) := fun W hW => by obtain ⟨j, rfl⟩ := hW; exact x0
        have g1 : ∀ W, (∃ j, W = w.drewN j) → W.cell? ⟨b1, o1 + k * 2 + 1, none⟩ = some (.string ax) := fun W hW => by obtain ⟨j, rfl⟩ := hW; exact x1
        have e0 : ∀ W, (∃ j, W = w.drewN j) → W.cell? ⟨b2, o2 + k * 2, none⟩ = some (.int .u64 bk) := fun W hW => by obtain ⟨j, rfl⟩ := hW; exact y0
        have e1 : ∀ W, (∃ j, W = w.drewN j) → W.cell? ⟨b2, o2 + k * 2 + 1, none⟩ = some (.string bx) := fun W hW => by obtain ⟨j, rfl⟩ := hW; exact y1
        clear x0 x1 y0 y1
        by_cases hq : (⟨ak, ax⟩ : MkD) = ⟨bk, bx⟩
        · have hg := Lib.hid (hyes'.out hq)
          have haq : Hid (false = true ↔ ¬ (⟨ak, ax⟩ : MkD) = ⟨bk, bx⟩) := Lib.hid (by simp only [hq, not_true_eq_false, Bool.false_eq_true])
          clear hyes' hno' hq
          go_wp2
          refine wp_drawn_on (fun W => ∃ j, W = w.drewN j) (by kernel_rfl) (⟨m + 1, rfl⟩) (fun hHeld => ?_)
          refine wT 0 (v := ?v19) rfl (by kernel_rfl) (fun _ _ _ h => h) ?h19 (by assumption) ?r19
          case h19 => (intro w hSw; (try dsimp only at hSw); go_simp; try with_reducible rfl)
          refine wT 1 (v := ?v20) rfl (by kernel_rfl) (fun _ _ _ h => h) ?h20 (by assumption) ?r20
          case h20 => (intro w hSw; (try dsimp only at hSw); go_simp; try with_reducible rfl)
          refine wT 2 (v := ?v21) rfl (by kernel_rfl) (fun _ _ _ h => h) ?h21 (by assumption) ?r21
          case h21 => (intro w hSw; (try dsimp only at hSw); go_simp; try with_reducible rfl)
          refine wT 3 (v := ?v22) rfl (by kernel_rfl) (fun _ _ _ h => h) ?h22 (by assumption) ?r22
          case h22 => (intro w hSw; (try dsimp only at hSw); go_simp; try with_reducible rfl)
          refine wT 4 (v := ?v23) rfl (by kernel_rfl) (fun _ _ _ h => h) ?h23 (by assumption) ?r23
          case h23 => (intro w hSw; (try dsimp only at hSw); go_simp; try with_reducible rfl)
          refine wT 5 (v := ?v24) rfl (by kernel_rfl) (fun _ _ _ h => h) ?h24 (by assumption) ?r24
          case h24 => (intro w hSw; (try dsimp only at hSw); go_simp; try with_reducible rfl)
          refine wT 6 (v := ?v25) rfl (by kernel_rfl) (fun _ _ _ h => h) ?h25 (by assumption) ?r25
          case h25 => (intro w hSw; (try dsimp only at hSw); go_simp; try with_reducible rfl)
          refine wT 7 (v := ?v26) rfl (by kernel_rfl) (fun _ _ _ h => h) ?h26 (by assumption) ?r26
          case h26 => (intro w hSw; (try dsimp only at hSw); go_simp; try with_reducible rfl)
          refine wT 8 (v := ?v27) rfl (by kernel_rfl) (fun _ _ _ h => h) ?h27 (by assumption) ?r27
          case h27 => (intro w hSw; (try dsimp only at hSw); refine Eq.trans (b := Result.ok (Next.value (.bool false)) w) (by go_simp; exact mk_cmp' ⟨ak, ax⟩ ⟨bk, bx⟩ (fun b => Result.ok (Next.value (Value.bool b)) w) false haq.out) ?_; with_reducible rfl)
          try simp only [Act.put, List.setIfInBounds_toArray, List.set_cons_zero, List.set_cons_succ]
          refine wpAnyH_done (by kernel_rfl) ?_ _
          clear g0 e0 g1 e1
          go_wp2
          go_roundw
          case rel => exact ⟨k + 1, m + 1, by omega, by go_num, hg, rfl⟩
          case measure => simp [intOf]; omega
        · have hf := Lib.hid (hno'.out hq)
          obtain ⟨bq, hb⟩ : ∃ bq : Bool, Hid (bq = true) := ⟨true, Lib.hid rfl⟩
          have haq : Hid (bq = true ↔ ¬ (⟨ak, ax⟩ : MkD) = ⟨bk, bx⟩) := Lib.hid ⟨fun _ => hq, fun _ => hb.out⟩
          clear hyes' hno' hq
          go_wp2
          refine wp_drawn_on (fun W => ∃ j, W = w.drewN j) (by kernel_rfl) (⟨m + 1, rfl⟩) (fun hHeld => ?_)
          refine wT 0 (v := ?v28) rfl (by kernel_rfl) (fun _ _ _ h => h) ?h28 (by assumption) ?r28
          case h28 => (intro w hSw; (try dsimp only at hSw); go_simp; try with_reducible rfl)
          refine wT 1 (v := ?v29) rfl (by kernel_rfl) (fun _ _ _ h => h) ?h29 (by assumption) ?r29
          case h29 => (intro w hSw; (try dsimp only at hSw); go_simp; try with_reducible rfl)
          refine wT 2 (v := ?v30) rfl (by kernel_rfl) (fun _ _ _ h => h) ?h30 (by assumption) ?r30
          case h30 => (intro w hSw; (try dsimp only at hSw); go_simp; try with_reducible rfl)
          refine wT 3 (v := ?v31) rfl (by kernel_rfl) (fun _ _ _ h => h) ?h31 (by assumption) ?r31
          case h31 => (intro w hSw; (try dsimp only at hSw); go_simp; try with_reducible rfl)
          refine wT 4 (v := ?v32) rfl (by kernel_rfl) (fun _ _ _ h => h) ?h32 (by assumption) ?r32
          case h32 => (intro w hSw; (try dsimp only at hSw); go_simp; try with_reducible rfl)
          refine wT 5 (v := ?v33) rfl (by kernel_rfl) (fun _ _ _ h => h) ?h33 (by assumption) ?r33
          case h33 => (intro w hSw; (try dsimp only at hSw); go_simp; try with_reducible rfl)
          refine wT 6 (v := ?v34) rfl (by kernel_rfl) (fun _ _ _ h => h) ?h34 (by assumption) ?r34
          case h34 => (intro w hSw; (try dsimp only at hSw); go_simp; try with_reducible rfl)
          refine wT 7 (v := ?v35) rfl (by kernel_rfl) (fun _ _ _ h => h) ?h35 (by assumption) ?r35
          case h35 => (intro w hSw; (try dsimp only at hSw); go_simp; try with_reducible rfl)
          refine wT 8 (v := ?v36) rfl (by kernel_rfl) (fun _ _ _ h => h) ?h36 (by assumption) ?r36
          case h36 => (intro w hSw; (try dsimp only at hSw); refine Eq.trans (b := Result.ok (Next.value (.bool bq)) w) (by go_simp; exact mk_cmp' ⟨ak, ax⟩ ⟨bk, bx⟩ (fun b => Result.ok (Next.value (Value.bool b)) w) bq haq.out) ?_; with_reducible rfl)
          try simp only [Act.put, List.setIfInBounds_toArray, List.set_cons_zero, List.set_cons_succ]
          refine wpAnyH_done (by kernel_rfl) ?_ _
          clear g0 e0 g1 e1
          have hb2 : bq = true := hb.out
          subst hb2
          go_wp2
          go_ret
          exact ⟨ret_bool hf.out.symm, m + 1, rfl⟩
      · have hki : ¬ (k : Int) < (n1 : Int) := by omega
        have hf := Lib.hid (hyes.out (fun t ht => hal.out t (by rw [← hl1.out] at ht; omega)))
        clear hyes hno hal
        go_wp2
        go_ret
        exact ⟨ret_bool hf.out.symm, m, rfl⟩
  · have e0' : ((n1 : Int) != (n2 : Int)) = true := by simp; omega
    have e0n : (n1 != n2) = true := by simpa using hne
    have hR : Hid (sameM l1 l2 = false) := Lib.hid (sameM_len (by rw [← hl1.out, ← hl2.out]; exact hne))
    clear hne
    generalize sameM l1 l2 = R at *
    go_enter Tryz.func19, Tryz.ntmps19
    go_wp2
    go_ret
    exact ⟨ret_bool hR.out.symm, 0, rfl⟩
end Go.Proofs.YtpchncpcckfghaaGreat
namespace Go.Proofs.YtpchncpcckfghaaGreat
open Go.RowKit
set_option linter.unusedVariables false
set_option linter.unusedSimpArgs false
def bchk (l : List MkD) : Int := if baseB l = true then 0 else 210
theorem bchk_no {l : List MkD} (h : baseB l = false) : bchk l = 210 := by unfold bchk; rw [h]; rfl
theorem bchk_yes {l : List MkD} (h : baseB l = true) : bchk l = 0 := by unfold bchk; rw [if_pos h]
theorem okAt_note {l : List MkD} {k : Nat} (h : noteB (l.getD k mk0).note = false) : okAt l k = false := by unfold okAt; rw [h]; rfl
theorem okAt_zero {l : List MkD} {k : Nat} (hk : k = 0) (h : noteB (l.getD k mk0).note = true) : okAt l k = true := by unfold okAt; rw [h, decide_eq_true hk]; rfl
theorem okAt_pos {l : List MkD} {k p : Nat} (hk : k = p + 1) (h : noteB (l.getD k mk0).note = true) : okAt l k = decide ((l.getD p mk0).f < (l.getD k mk0).f) := by
  unfold okAt
  rw [h, decide_eq_false (by omega), show k - 1 = p by omega]
  rfl
theorem ok_next {l : List MkD} {k : Nat} (h : okAt l k = true) (hal : ∀ t, t < k → okAt l t = true) : ∀ t, t < k + 1 → okAt l t = true := fun t ht => by
  by_cases e : t = k
  · rw [e]; exact h
  · exact hal t (by omega)
set_option maxRecDepth 100000 in
set_option maxHeartbeats 8000000 in
theorem bbase_any (w : World) (a : Option Addr) (n c : Nat) (l : List MkD) (hr : RO mkC w a n c l) : Calls Tryz.prog 29 #[.slice a n c] w (Gives (.int .i64 (bchk l)) w) := by
  have hlen := Lib.hid hr.len
  by_cases h1 : 1024 < n
  · have hF : Hid (bchk l = 210) := Lib.hid (bchk_no (baseB_big (by have := hlen.out; omega)))
    have h1i : (1024 : Int) < (n : Int) := by omega
    generalize bchk l = E at *
    clear hr
    go_enter Tryz.func29, Tryz.ntmps29
    go_wp2
    go_ret
    exact ⟨(by rw [hF.out]; rfl), Below.refl _ _⟩
  have h1i : ¬ (1024 : Int) < (n : Int) := by omega
  have RW := Lib.hid hr
  have hno := Lib.hid (fun k (hk : k < n) (h : okAt l k = false) => bchk_no (baseB_at (l := l) (by rw [← hlen.out]; exact hk) h))
  have hyes := Lib.hid (fun (h : ∀ t, t < n → okAt l t = true) => bchk_yes (baseB_yes (l := l) (by have := hlen.out; omega) (by rw [← hlen.out]; exact h)))
  have qn := Lib.hid (fun s W => note_any s W)
  generalize bchk l = E at *
  clear hr
  go_enter Tryz.func29, Tryz.ntmps29
  go_wp2
  go_loopw [10] (fun x wr => ∃ k : Nat, k ≤ n ∧ x = .int .i64 k ∧ Hid (∀ t, t < k → okAt l t = true) ∧ Hid (Below w.heap.size w wr)) (fun x _ => n - (intOf x).toNat)
  case atStart => exact ⟨0, Nat.zero_le _, rfl, Lib.hid (fun t ht => by omega), Lib.hid (Below.refl _ _)⟩
  case round =>
    obtain ⟨k, hk, rfl, hal, hB⟩ := hrel
    generalize wr = g0 at *
    by_cases hlt : k < n
    · have hki : (k : Int) < (n : Int) := by omega
      obtain ⟨b, off, rfl, hbl, x0, x1⟩ := mk_at (RW.out.below hB.out) hlt
      have hno' := Lib.hid (hno.out k hlt)
      have hn0 := Lib.hid (fun h => okAt_note (l := l) (k := k) h)
      have hz0 := Lib.hid (fun hk h => okAt_zero (l := l) (k := k) hk h)
      have hp0 := Lib.hid (fun p hk h => okAt_pos (l := l) (k := k) (p := p) hk h)
      have hnx := Lib.hid (fun h => ok_next (l := l) (k := k) h hal.out)
      have qs := Lib.hid (fun W => qn.out (l.getD k mk0).note W)
      obtain ⟨V0, hV0⟩ : ∃ V0, V0 = g0.alloc (.cells #[.int .u64 (l.getD k mk0).f, .string (l.getD k mk0).note] 40) := ⟨_, rfl⟩
      have bV : Below g0.heap.size g0 V0 := by rw [hV0]; exact box_below _ _ _
      have HC : Holds V0 g0.heap.size 40 #[.int .u64 (l.getD k mk0).f, .string (l.getD k mk0).note] := by rw [hV0]; exact Holds.new _ _ _
      have y0 : ∀ W, Below V0.heap.size V0 W → W.cell? ⟨g0.heap.size, 0, none⟩ = some (.int .u64 (l.getD k mk0).f) := fun W hW => (HC.below hW HC.lt).cell 0
      have y1 : ∀ W, Below V0.heap.size V0 W → W.cell? ⟨g0.heap.size, 1, none⟩ = some (.string (l.getD k mk0).note) := fun W hW => (HC.below hW HC.lt).cell 1
      have hBV := Lib.hid (hB.out.trans (bV.mono hB.out.size))
      have RV := Lib.hid (RW.out.below hBV.out)
      have hV0' := Lib.hid hV0
      clear hal hno bV HC hV0 hB
      generalize (l.getD k mk0).note = s at *
      have hbV : b < V0.heap.size := by rw [hV0'.out]; simp; omega
      cases hnb : noteB s
      · (have hf := Lib.hid (hno'.out (hn0.out hnb)))
        rw [hnb] at qs
        generalize (l.getD k mk0).f = f at *
        clear hno' hn0 hz0 hp0 hnx hnb hyes qn
        go_wp2
        rw [← hV0'.out]
        refine wp_drawn_on (fun W => Below V0.heap.size V0 W) (by kernel_rfl) ((Below.refl _ _).drew) (fun hHeld => ?_)
        refine wT 0 (v := ?v1) rfl (by kernel_rfl) (fun _ _ _ h => h) ?h1 (by assumption) ?r1
        case h1 => (intro w hSw; (try dsimp only at hSw); go_simp; try with_reducible rfl)
        refine wT 1 (v := ?v2) rfl (by kernel_rfl) (fun _ _ _ h => h) ?h2 (by assumption) ?r2
        case h2 => (intro w hSw; (try dsimp only at hSw); go_simp; try with_reducible rfl)
        try simp only [Act.put, List.setIfInBounds_toArray, List.set_cons_zero, List.set_cons_succ]
        refine wpAnyH_ready (rs := [2]) (by kernel_rfl) (by simp) ?_
        refine AllReadyH.cons (o := ⟨_, _, _, _, _, _⟩) rfl (fun K hK => ?_) AllReadyH.nil
        go_simp
        with_reducible refine (qs.out _).mono ?_
        rintro e w3 ⟨rfl, b3⟩
        go_simp
        refine hK.out _ _ (hHeld.trans (b3.mono hHeld.size)) (fun hHeld => ?_)
        clear hK K
        refine wT 3 (v := ?v3) rfl (by kernel_rfl) (fun _ _ _ h => h) ?h3 (by assumption) ?r3
        case h3 => (intro w hSw; (try dsimp only at hSw); go_simp; try with_reducible rfl)
        refine wT 4 (v := ?v4) rfl (by kernel_rfl) (fun _ _ _ h => h) ?h4 (by assumption) ?r4
        case h4 => (intro w hSw; (try dsimp only at hSw); go_simp; try with_reducible rfl)
        refine wS 5 rfl (by kernel_rfl) (fun _ _ _ h => h) (by assumption) ?_
        refine wS 6 rfl (by kernel_rfl) (fun _ _ _ h => h) (by assumption) ?_
        refine wS 7 rfl (by kernel_rfl) (fun _ _ _ h => h) (by assumption) ?_
        refine wS 8 rfl (by kernel_rfl) (fun _ _ _ h => h) (by assumption) ?_
        refine wS 9 rfl (by kernel_rfl) (fun _ _ _ h => h) (by assumption) ?_
        refine wS 10 rfl (by kernel_rfl) (fun _ _ _ h => h) (by assumption) ?_
        refine wS 11 rfl (by kernel_rfl) (fun _ _ _ h => h) (by assumption) ?_
        refine wS 12 rfl (by kernel_rfl) (fun _ _ _ h => h) (by assumption) ?_
        refine wS 13 rfl (by kernel_rfl) (fun _ _ _ h => h) (by assumption) ?_
        refine wS 14 rfl (by kernel_rfl) (fun _ _ _ h => h) (by assumption) ?_
        refine wS 15 rfl (by kernel_rfl) (fun _ _ _ h => h) (by assumption) ?_
        refine wS 16 rfl (by kernel_rfl) (fun _ _ _ h => h) (by assumption) ?_
        refine wS 17 rfl (by kernel_rfl) (fun _ _ _ h => h) (by assumption) ?_
        refine wT 18 (v := ?v18) rfl (by kernel_rfl) (fun _ _ _ h => h) ?h18 (by assumption) ?r18
        case h18 => (intro w hSw; (try dsimp only at hSw); go_simp; try with_reducible rfl)
        try simp only [Act.put, List.setIfInBounds_toArray, List.set_cons_zero, List.set_cons_succ]
        refine wpAnyH_done (by kernel_rfl) ?_ _
        clear y0 y1
        go_wp2
        go_ret
        exact ⟨(by rw [hf.out]; rfl), hBV.out.trans (hHeld.mono hBV.out.size)⟩
      · by_cases hk0 : k = 0
        · have hg := Lib.hid (hnx.out (hz0.out hk0 hnb))
          have hk0i : decide ((0 : Int) < (k : Int)) = false := decide_eq_false (by omega)
          have hk0n : decide (0 < k) = false := decide_eq_false (by omega)
          clear hk0
          generalize (l.getD k mk0).f = f at *
          rw [hnb] at qs
          clear hno' hn0 hz0 hp0 hnx hnb hyes qn
          go_wp2
          rw [← hV0'.out]
          refine wp_drawn_on (fun W => Below V0.heap.size V0 W) (by kernel_rfl) ((Below.refl _ _).drew) (fun hHeld => ?_)
          refine wT 0 (v := ?v19) rfl (by kernel_rfl) (fun _ _ _ h => h) ?h19 (by assumption) ?r19
          case h19 => (intro w hSw; (try dsimp only at hSw); go_simp; try with_reducible rfl)
          refine wT 1 (v := ?v20) rfl (by kernel_rfl) (fun _ _ _ h => h) ?h20 (by assumption) ?r20
          case h20 => (intro w hSw; (try dsimp only at hSw); go_simp; try with_reducible rfl)
          try simp only [Act.put, List.setIfInBounds_toArray, List.set_cons_zero, List.set_cons_succ]
          refine wpAnyH_ready (rs := [2]) (by kernel_rfl) (by simp) ?_
          refine AllReadyH.cons (o := ⟨_, _, _, _, _, _⟩) rfl (fun K hK => ?_) AllReadyH.nil
          go_simp
          with_reducible refine (qs.out _).mono ?_
          rintro e w3 ⟨rfl, b3⟩
          go_simp
          refine hK.out _ _ (hHeld.trans (b3.mono hHeld.size)) (fun hHeld => ?_)
          clear hK K
          refine wT 3 (v := ?v21) rfl (by kernel_rfl) (fun _ _ _ h => h) ?h21 (by assumption) ?r21
          case h21 => (intro w hSw; (try dsimp only at hSw); go_simp; try with_reducible rfl)
          refine wT 4 (v := ?v22) rfl (by kernel_rfl) (fun _ _ _ h => h) ?h22 (by assumption) ?r22
          case h22 => (intro w hSw; (try dsimp only at hSw); go_simp; try with_reducible rfl)
          refine wT 5 (v := ?v23) rfl (by kernel_rfl) (fun _ _ _ h => h) ?h23 (by assumption) ?r23
          case h23 => (intro w hSw; (try dsimp only at hSw); go_simp; try with_reducible rfl)
          refine wT 6 (v := ?v24) rfl (by kernel_rfl) (fun _ _ _ h => h) ?h24 (by assumption) ?r24
          case h24 => (intro w hSw; (try dsimp only at hSw); go_simp; try with_reducible rfl)
          refine wT 7 (v := ?v25) rfl (by kernel_rfl) (fun _ _ _ h => h) ?h25 (by assumption) ?r25
          case h25 => (intro w hSw; (try dsimp only at hSw); go_simp; try with_reducible rfl)
          refine wS 8 rfl (by kernel_rfl) (fun _ _ _ h => h) (by assumption) ?_
          refine wS 9 rfl (by kernel_rfl) (fun _ _ _ h => h) (by assumption) ?_
          refine wS 10 rfl (by kernel_rfl) (fun _ _ _ h => h) (by assumption) ?_
          refine wS 11 rfl (by kernel_rfl) (fun _ _ _ h => h) (by assumption) ?_
          refine wS 12 rfl (by kernel_rfl) (fun _ _ _ h => h) (by assumption) ?_
          refine wS 13 rfl (by kernel_rfl) (fun _ _ _ h => h) (by assumption) ?_
          refine wS 14 rfl (by kernel_rfl) (fun _ _ _ h => h) (by assumption) ?_
          refine wS 15 rfl (by kernel_rfl) (fun _ _ _ h => h) (by assumption) ?_
          refine wS 16 rfl (by kernel_rfl) (fun _ _ _ h => h) (by assumption) ?_
          refine wT 17 (v := ?v35) rfl (by kernel_rfl) (fun _ _ _ h => h) ?h35 (by assumption) ?r35
          case h35 => (intro w hSw; (try dsimp only at hSw); go_simp; try with_reducible rfl)
          refine wT 18 (v := ?v36) rfl (by kernel_rfl) (fun _ _ _ h => h) ?h36 (by assumption) ?r36
          case h36 => (intro w hSw; (try dsimp only at hSw); go_simp; try with_reducible rfl)
          try simp only [Act.put, List.setIfInBounds_toArray, List.set_cons_zero, List.set_cons_succ]
          refine wpAnyH_done (by kernel_rfl) ?_ _
          clear y0 y1
          go_wp2
          go_roundw
          case rel => exact ⟨k + 1, by omega, by go_num, hg, Lib.hid (hBV.out.trans (hHeld.mono hBV.out.size))⟩
          case measure => simp [intOf]; omega
        · obtain ⟨p, hp⟩ : ∃ p, k = p + 1 := ⟨k - 1, by omega⟩
          have hk0i : decide ((0 : Int) < (k : Int)) = true := decide_eq_true (by omega)
          have hk0n : decide (0 < k) = true := decide_eq_true (by omega)
          have hpn : p < n := by omega
          have hpi : (p : Int) < (n : Int) := by omega
          have hw1 : IntKind.i64.wrap ((k : Int) - 1) = (p : Int) := by rw [IntKind.wrap_i64]; omega
          have hq := hp0.out p hp hnb
          obtain ⟨b', off', hb1, -, z0, -⟩ := mk_at RV.out hpn
          injection hb1 with hb1
          injection hb1 with hb1 hb2
          subst hb1 hb2
          have z0' : ∀ W, Below V0.heap.size V0 W → W.cell? ⟨b, off + p * 2, none⟩ = some (.int .u64 (l.getD p mk0).f) := fun W hW => (hW.cell (p := ⟨b, off + p * 2, none⟩) hbV).trans z0
          clear z0
          generalize (l.getD k mk0).f = f at *
          generalize (l.getD p mk0).f = f' at *
          clear hp hk0
          by_cases hff : f' < f
          · have hg := Lib.hid (hnx.out (by rw [hq]; exact decide_eq_true hff))
            have hle : ¬ f ≤ f' := by omega
            clear hq
            rw [hnb] at qs
            clear hno' hn0 hz0 hp0 hnx hnb hyes qn
            go_wp2
            rw [← hV0'.out]
            refine wp_drawn_on (fun W => Below V0.heap.size V0 W) (by kernel_rfl) ((Below.refl _ _).drew) (fun hHeld => ?_)
            refine wT 0 (v := ?v37) rfl (by kernel_rfl) (fun _ _ _ h => h) ?h37 (by assumption) ?r37
            case h37 => (intro w hSw; (try dsimp only at hSw); go_simp; try with_reducible rfl)
            refine wT 1 (v := ?v38) rfl (by kernel_rfl) (fun _ _ _ h => h) ?h38 (by assumption) ?r38
            case h38 => (intro w hSw; (try dsimp only at hSw); go_simp; try with_reducible rfl)
            try simp only [Act.put, List.setIfInBounds_toArray, List.set_cons_zero, List.set_cons_succ]
            refine wpAnyH_ready (rs := [2]) (by kernel_rfl) (by simp) ?_
            refine AllReadyH.cons (o := ⟨_, _, _, _, _, _⟩) rfl (fun K hK => ?_) AllReadyH.nil
            go_simp
            with_reducible refine (qs.out _).mono ?_
            rintro e w3 ⟨rfl, b3⟩
            go_simp
            refine hK.out _ _ (hHeld.trans (b3.mono hHeld.size)) (fun hHeld => ?_)
            clear hK K
            refine wT 3 (v := ?v39) rfl (by kernel_rfl) (fun _ _ _ h => h) ?h39 (by assumption) ?r39
            case h39 => (intro w hSw; (try dsimp only at hSw); go_simp; try with_reducible rfl)
            refine wT 4 (v := ?v40) rfl (by kernel_rfl) (fun _ _ _ h => h) ?h40 (by assumption) ?r40
            case h40 => (intro w hSw; (try dsimp only at hSw); go_simp; try with_reducible rfl)
            refine wT 5 (v := ?v41) rfl (by kernel_rfl) (fun _ _ _ h => h) ?h41 (by assumption) ?r41
            case h41 => (intro w hSw; (try dsimp only at hSw); go_simp; try with_reducible rfl)
            refine wT 6 (v := ?v42) rfl (by kernel_rfl) (fun _ _ _ h => h) ?h42 (by assumption) ?r42
            case h42 => (intro w hSw; (try dsimp only at hSw); go_simp; try with_reducible rfl)
            refine wT 7 (v := ?v43) rfl (by kernel_rfl) (fun _ _ _ h => h) ?h43 (by assumption) ?r43
            case h43 => (intro w hSw; (try dsimp only at hSw); go_simp; try with_reducible rfl)
            refine wT 8 (v := ?v44) rfl (by kernel_rfl) (fun _ _ _ h => h) ?h44 (by assumption) ?r44
            case h44 => (intro w hSw; (try dsimp only at hSw); go_simp; try with_reducible rfl)
            refine wT 9 (v := ?v45) rfl (by kernel_rfl) (fun _ _ _ h => h) ?h45 (by assumption) ?r45
            case h45 => (intro w hSw; (try dsimp only at hSw); go_simp; try with_reducible rfl)
            refine wT 10 (v := ?v46) rfl (by kernel_rfl) (fun _ _ _ h => h) ?h46 (by assumption) ?r46
            case h46 => (intro w hSw; (try dsimp only at hSw); go_simp; try with_reducible rfl)
            refine wT 11 (v := ?v47) rfl (by kernel_rfl) (fun _ _ _ h => h) ?h47 (by assumption) ?r47
            case h47 => (intro w hSw; (try dsimp only at hSw); go_simp; try with_reducible rfl)
            refine wT 12 (v := ?v48) rfl (by kernel_rfl) (fun _ _ _ h => h) ?h48 (by assumption) ?r48
            case h48 => (intro w hSw; (try dsimp only at hSw); go_simp; try with_reducible rfl)
            refine wT 13 (v := ?v49) rfl (by kernel_rfl) (fun _ _ _ h => h) ?h49 (by assumption) ?r49
            case h49 => (intro w hSw; (try dsimp only at hSw); go_simp; try with_reducible rfl)
            refine wT 14 (v := ?v50) rfl (by kernel_rfl) (fun _ _ _ h => h) ?h50 (by assumption) ?r50
            case h50 => (intro w hSw; (try dsimp only at hSw); go_simp; try with_reducible rfl)
            refine wT 15 (v := ?v51) rfl (by kernel_rfl) (fun _ _ _ h => h) ?h51 (by assumption) ?r51
            case h51 => (intro w hSw; (try dsimp only at hSw); go_simp; try with_reducible rfl)
            refine wT 16 (v := ?v52) rfl (by kernel_rfl) (fun _ _ _ h => h) ?h52 (by assumption) ?r52
            case h52 => (intro w hSw; (try dsimp only at hSw); go_simp; try with_reducible rfl)
            refine wT 17 (v := ?v53) rfl (by kernel_rfl) (fun _ _ _ h => h) ?h53 (by assumption) ?r53
            case h53 => (intro w hSw; (try dsimp only at hSw); go_simp; try with_reducible rfl)
            refine wT 18 (v := ?v54) rfl (by kernel_rfl) (fun _ _ _ h => h) ?h54 (by assumption) ?r54
            case h54 => (intro w hSw; (try dsimp only at hSw); go_simp; try with_reducible rfl)
            try simp only [Act.put, List.setIfInBounds_toArray, List.set_cons_zero, List.set_cons_succ]
            refine wpAnyH_done (by kernel_rfl) ?_ _
            clear y0 y1 z0'
            go_wp2
            go_roundw
            case rel => exact ⟨k + 1, by omega, by go_num, hg, Lib.hid (hBV.out.trans (hHeld.mono hBV.out.size))⟩
            case measure => simp [intOf]; omega
          · have hf := Lib.hid (hno'.out (by rw [hq]; exact decide_eq_false hff))
            have hle : f ≤ f' := by omega
            clear hq
            rw [hnb] at qs
            clear hno' hn0 hz0 hp0 hnx hnb hyes qn
            go_wp2
            rw [← hV0'.out]
            refine wp_drawn_on (fun W => Below V0.heap.size V0 W) (by kernel_rfl) ((Below.refl _ _).drew) (fun hHeld => ?_)
            refine wT 0 (v := ?v55) rfl (by kernel_rfl) (fun _ _ _ h => h) ?h55 (by assumption) ?r55
            case h55 => (intro w hSw; (try dsimp only at hSw); go_simp; try with_reducible rfl)
            refine wT 1 (v := ?v56) rfl (by kernel_rfl) (fun _ _ _ h => h) ?h56 (by assumption) ?r56
            case h56 => (intro w hSw; (try dsimp only at hSw); go_simp; try with_reducible rfl)
            try simp only [Act.put, List.setIfInBounds_toArray, List.set_cons_zero, List.set_cons_succ]
            refine wpAnyH_ready (rs := [2]) (by kernel_rfl) (by simp) ?_
            refine AllReadyH.cons (o := ⟨_, _, _, _, _, _⟩) rfl (fun K hK => ?_) AllReadyH.nil
            go_simp
            with_reducible refine (qs.out _).mono ?_
            rintro e w3 ⟨rfl, b3⟩
            go_simp
            refine hK.out _ _ (hHeld.trans (b3.mono hHeld.size)) (fun hHeld => ?_)
            clear hK K
            refine wT 3 (v := ?v57) rfl (by kernel_rfl) (fun _ _ _ h => h) ?h57 (by assumption) ?r57
            case h57 => (intro w hSw; (try dsimp only at hSw); go_simp; try with_reducible rfl)
            refine wT 4 (v := ?v58) rfl (by kernel_rfl) (fun _ _ _ h => h) ?h58 (by assumption) ?r58
            case h58 => (intro w hSw; (try dsimp only at hSw); go_simp; try with_reducible rfl)
            refine wT 5 (v := ?v59) rfl (by kernel_rfl) (fun _ _ _ h => h) ?h59 (by assumption) ?r59
            case h59 => (intro w hSw; (try dsimp only at hSw); go_simp; try with_reducible rfl)
            refine wT 6 (v := ?v60) rfl (by kernel_rfl) (fun _ _ _ h => h) ?h60 (by assumption) ?r60
            case h60 => (intro w hSw; (try dsimp only at hSw); go_simp; try with_reducible rfl)
            refine wT 7 (v := ?v61) rfl (by kernel_rfl) (fun _ _ _ h => h) ?h61 (by assumption) ?r61
            case h61 => (intro w hSw; (try dsimp only at hSw); go_simp; try with_reducible rfl)
            refine wT 8 (v := ?v62) rfl (by kernel_rfl) (fun _ _ _ h => h) ?h62 (by assumption) ?r62
            case h62 => (intro w hSw; (try dsimp only at hSw); go_simp; try with_reducible rfl)
            refine wT 9 (v := ?v63) rfl (by kernel_rfl) (fun _ _ _ h => h) ?h63 (by assumption) ?r63
            case h63 => (intro w hSw; (try dsimp only at hSw); go_simp; try with_reducible rfl)
            refine wT 10 (v := ?v64) rfl (by kernel_rfl) (fun _ _ _ h => h) ?h64 (by assumption) ?r64
            case h64 => (intro w hSw; (try dsimp only at hSw); go_simp; try with_reducible rfl)
            refine wT 11 (v := ?v65) rfl (by kernel_rfl) (fun _ _ _ h => h) ?h65 (by assumption) ?r65
            case h65 => (intro w hSw; (try dsimp only at hSw); go_simp; try with_reducible rfl)
            refine wT 12 (v := ?v66) rfl (by kernel_rfl) (fun _ _ _ h => h) ?h66 (by assumption) ?r66
            case h66 => (intro w hSw; (try dsimp only at hSw); go_simp; try with_reducible rfl)
            refine wT 13 (v := ?v67) rfl (by kernel_rfl) (fun _ _ _ h => h) ?h67 (by assumption) ?r67
            case h67 => (intro w hSw; (try dsimp only at hSw); go_simp; try with_reducible rfl)
            refine wT 14 (v := ?v68) rfl (by kernel_rfl) (fun _ _ _ h => h) ?h68 (by assumption) ?r68
            case h68 => (intro w hSw; (try dsimp only at hSw); go_simp; try with_reducible rfl)
            refine wT 15 (v := ?v69) rfl (by kernel_rfl) (fun _ _ _ h => h) ?h69 (by assumption) ?r69
            case h69 => (intro w hSw; (try dsimp only at hSw); go_simp; try with_reducible rfl)
            refine wT 16 (v := ?v70) rfl (by kernel_rfl) (fun _ _ _ h => h) ?h70 (by assumption) ?r70
            case h70 => (intro w hSw; (try dsimp only at hSw); go_simp; try with_reducible rfl)
            refine wT 17 (v := ?v71) rfl (by kernel_rfl) (fun _ _ _ h => h) ?h71 (by assumption) ?r71
            case h71 => (intro w hSw; (try dsimp only at hSw); go_simp; try with_reducible rfl)
            refine wT 18 (v := ?v72) rfl (by kernel_rfl) (fun _ _ _ h => h) ?h72 (by assumption) ?r72
            case h72 => (intro w hSw; (try dsimp only at hSw); go_simp; try with_reducible rfl)
            try simp only [Act.put, List.setIfInBounds_toArray, List.set_cons_zero, List.set_cons_succ]
            refine wpAnyH_done (by kernel_rfl) ?_ _
            clear y0 y1 z0'
            go_wp2
            go_ret
            exact ⟨(by rw [hf.out]; rfl), hBV.out.trans (hHeld.mono hBV.out.size)⟩
    · have hki : ¬ (k : Int) < (n : Int) := by omega
      have hf := Lib.hid (hyes.out (fun t ht => hal.out t (by omega)))
      clear hal hno hyes
      go_wp2
      go_ret
      exact ⟨(by rw [hf.out]; rfl), hB.out⟩
theorem base_end {l : List MkD} {n k : Nat} (hn : n = l.length) (h : ∀ t, t < k → okAt l t = true) (hk : k = n ∨ 1024 < n) : baseB l = decide ((n : Int) ≤ 1024) := by
  by_cases h1 : n ≤ 1024
  · rw [decide_eq_true (by omega)]
    exact baseB_yes (by omega) (fun i hi => h i (by omega))
  · rw [decide_eq_false (by omega)]
    exact baseB_big (by omega)
set_option maxRecDepth 100000 in
set_option maxHeartbeats 8000000 in
theorem rbbase_any (w : World) (a : Option Addr) (n c : Nat) (l : List MkD) (hr : RO mkC w a n c l) (hs : ∀ t, t < n → (l.getD t mk0).note.size ≤ 9223372036854775806) : Calls Tryz.prog 12 #[.slice a n c] w (DrawnM (.bool (baseB l)) w) := by
  have hlen := Lib.hid hr.len
  have hmax := hr.max'
  have hmi : (n : Int) ≤ 9223372036854775807 := by omega
  have RW := Lib.hid hr
  have HS := Lib.hid hs
  have hno := Lib.hid (fun k (hk : k < n) (h : okAt l k = false) => baseB_at (l := l) (by rw [← hlen.out]; exact hk) h)
  have hend := Lib.hid (fun k h => base_end (l := l) (n := n) (k := k) hlen.out h)
  have qn := Lib.hid (fun s hs W => rnote_any s hs W)
  generalize baseB l = E at *
  clear hr hs hmax
  go_enter Tryz.func12, Tryz.ntmps12
  go_wp2
  go_loopw [3] (fun x wr => ∃ k m : Nat, k ≤ n ∧ x = .int .i64 k ∧ Hid (∀ t, t < k → okAt l t = true) ∧ wr = w.drewN m) (fun x _ => n - (intOf x).toNat)
  case atStart => exact ⟨0, 0, Nat.zero_le _, rfl, Lib.hid (fun t ht => by omega), rfl⟩
  case round =>
    obtain ⟨k, m, hk, rfl, hal, rfl⟩ := hrel
    by_cases hlt : k < n
    · have hki : (k : Int) < (n : Int) := by omega
      by_cases h11 : k < 1100
      · have h11i : (k : Int) < 1100 := by omega
        obtain ⟨b, off, rfl, hbl, x0, x1⟩ := mk_at RW.out hlt
        have hno' := Lib.hid (hno.out k hlt)
        have hn0 := Lib.hid (fun h => okAt_note (l := l) (k := k) h)
        have hz0 := Lib.hid (fun hk h => okAt_zero (l := l) (k := k) hk h)
        have hp0 := Lib.hid (fun p hk h => okAt_pos (l := l) (k := k) (p := p) hk h)
        have hnx := Lib.hid (fun h => ok_next (l := l) (k := k) h hal.out)
        have qs := Lib.hid (fun W => qn.out (l.getD k mk0).note (HS.out k hlt) W)
        have y0 : ∀ W, (∃ j, W = w.drewN j) → W.cell? ⟨b, off + k * 2, none⟩ = some (.int .u64 (l.getD k mk0).f) := fun W hW => by obtain ⟨j, rfl⟩ := hW; exact x0
        have y1 : ∀ W, (∃ j, W = w.drewN j) → W.cell? ⟨b, off + k * 2 + 1, none⟩ = some (.string (l.getD k mk0).note) := fun W hW => by obtain ⟨j, rfl⟩ := hW; exact x1
        clear hal hno x0 x1
        generalize (l.getD k mk0).note = s at *
        cases hnb : noteB s
        · (have hf := Lib.hid (hno'.out (hn0.out hnb)))
          rw [hnb] at qs
          generalize (l.getD k mk0).f = f at *
          clear hno' hn0 hz0 hp0 hnx hnb hend qn
          go_wp2
          refine wp_drawn_on (fun W => ∃ j, W = w.drewN j) (by kernel_rfl) (⟨m + 1, rfl⟩) (fun hHeld => ?_)
          refine wT 0 (v := ?v73) rfl (by kernel_rfl) (fun _ _ _ h => h) ?h73 (by assumption) ?r73
          case h73 => (intro w hSw; (try dsimp only at hSw); go_simp; try with_reducible rfl)
          refine wT 1 (v := ?v74) rfl (by kernel_rfl) (fun _ _ _ h => h) ?h74 (by assumption) ?r74
          case h74 => (intro w hSw; (try dsimp only at hSw); go_simp; try with_reducible rfl)
          refine wT 2 (v := ?v75) rfl (by kernel_rfl) (fun _ _ _ h => h) ?h75 (by assumption) ?r75
          case h75 => (intro w hSw; (try dsimp only at hSw); go_simp; try with_reducible rfl)
          refine wT 3 (v := ?v76) rfl (by kernel_rfl) (fun _ _ _ h => h) ?h76 (by assumption) ?r76
          case h76 => (intro w hSw; (try dsimp only at hSw); go_simp; try with_reducible rfl)
          refine wT 4 (v := ?v77) rfl (by kernel_rfl) (fun _ _ _ h => h) ?h77 (by assumption) ?r77
          case h77 => (intro w hSw; (try dsimp only at hSw); go_simp; try with_reducible rfl)
          try simp only [Act.put, List.setIfInBounds_toArray, List.set_cons_zero, List.set_cons_succ]
          refine wpAnyH_ready (rs := [5]) (by kernel_rfl) (by simp) ?_
          refine AllReadyH.cons (o := ⟨_, _, _, _, _, _⟩) rfl (fun K hK => ?_) AllReadyH.nil
          go_simp
          with_reducible refine (qs.out _).mono ?_
          rintro e w3 ⟨rfl, rfl⟩
          go_simp
          refine hK.out _ _ (hHeld) (fun hHeld => ?_)
          clear hK K
          refine wT 6 (v := ?v78) rfl (by kernel_rfl) (fun _ _ _ h => h) ?h78 (by assumption) ?r78
          case h78 => (intro w hSw; (try dsimp only at hSw); go_simp; try with_reducible rfl)
          refine wT 7 (v := ?v79) rfl (by kernel_rfl) (fun _ _ _ h => h) ?h79 (by assumption) ?r79
          case h79 => (intro w hSw; (try dsimp only at hSw); go_simp; try with_reducible rfl)
          refine wS 8 rfl (by kernel_rfl) (fun _ _ _ h => h) (by assumption) ?_
          refine wS 9 rfl (by kernel_rfl) (fun _ _ _ h => h) (by assumption) ?_
          refine wS 10 rfl (by kernel_rfl) (fun _ _ _ h => h) (by assumption) ?_
          refine wS 11 rfl (by kernel_rfl) (fun _ _ _ h => h) (by assumption) ?_
          refine wS 12 rfl (by kernel_rfl) (fun _ _ _ h => h) (by assumption) ?_
          refine wS 13 rfl (by kernel_rfl) (fun _ _ _ h => h) (by assumption) ?_
          refine wS 14 rfl (by kernel_rfl) (fun _ _ _ h => h) (by assumption) ?_
          refine wS 15 rfl (by kernel_rfl) (fun _ _ _ h => h) (by assumption) ?_
          refine wS 16 rfl (by kernel_rfl) (fun _ _ _ h => h) (by assumption) ?_
          refine wS 17 rfl (by kernel_rfl) (fun _ _ _ h => h) (by assumption) ?_
          refine wS 18 rfl (by kernel_rfl) (fun _ _ _ h => h) (by assumption) ?_
          refine wS 19 rfl (by kernel_rfl) (fun _ _ _ h => h) (by assumption) ?_
          refine wS 20 rfl (by kernel_rfl) (fun _ _ _ h => h) (by assumption) ?_
          refine wS 21 rfl (by kernel_rfl) (fun _ _ _ h => h) (by assumption) ?_
          refine wS 22 rfl (by kernel_rfl) (fun _ _ _ h => h) (by assumption) ?_
          refine wS 23 rfl (by kernel_rfl) (fun _ _ _ h => h) (by assumption) ?_
          refine wT 24 (v := ?v96) rfl (by kernel_rfl) (fun _ _ _ h => h) ?h96 (by assumption) ?r96
          case h96 => (intro w hSw; (try dsimp only at hSw); go_simp; try with_reducible rfl)
          try simp only [Act.put, List.setIfInBounds_toArray, List.set_cons_zero, List.set_cons_succ]
          refine wpAnyH_done (by kernel_rfl) ?_ _
          clear y0 y1
          go_wp2
          go_ret
          exact ⟨ret_bool hf.out.symm, m + 1, rfl⟩
        · by_cases hk0 : k = 0
          · have hg := Lib.hid (hnx.out (hz0.out hk0 hnb))
            have hk0i : decide ((0 : Int) < (k : Int)) = false := decide_eq_false (by omega)
            have hk0n : decide (0 < k) = false := decide_eq_false (by omega)
            clear hk0
            generalize (l.getD k mk0).f = f at *
            rw [hnb] at qs
            clear hno' hn0 hz0 hp0 hnx hnb hend qn
            go_wp2
            refine wp_drawn_on (fun W => ∃ j, W = w.drewN j) (by kernel_rfl) (⟨m + 1, rfl⟩) (fun hHeld => ?_)
            refine wT 0 (v := ?v97) rfl (by kernel_rfl) (fun _ _ _ h => h) ?h97 (by assumption) ?r97
            case h97 => (intro w hSw; (try dsimp only at hSw); go_simp; try with_reducible rfl)
            refine wT 1 (v := ?v98) rfl (by kernel_rfl) (fun _ _ _ h => h) ?h98 (by assumption) ?r98
            case h98 => (intro w hSw; (try dsimp only at hSw); go_simp; try with_reducible rfl)
            refine wT 2 (v := ?v99) rfl (by kernel_rfl) (fun _ _ _ h => h) ?h99 (by assumption) ?r99
            case h99 => (intro w hSw; (try dsimp only at hSw); go_simp; try with_reducible rfl)
            refine wT 3 (v := ?v100) rfl (by kernel_rfl) (fun _ _ _ h => h) ?h100 (by assumption) ?r100
            case h100 => (intro w hSw; (try dsimp only at hSw); go_simp; try with_reducible rfl)
            refine wT 4 (v := ?v101) rfl (by kernel_rfl) (fun _ _ _ h => h) ?h101 (by assumption) ?r101
            case h101 => (intro w hSw; (try dsimp only at hSw); go_simp; try with_reducible rfl)
            try simp only [Act.put, List.setIfInBounds_toArray, List.set_cons_zero, List.set_cons_succ]
            refine wpAnyH_ready (rs := [5]) (by kernel_rfl) (by simp) ?_
            refine AllReadyH.cons (o := ⟨_, _, _, _, _, _⟩) rfl (fun K hK => ?_) AllReadyH.nil
            go_simp
            with_reducible refine (qs.out _).mono ?_
            rintro e w3 ⟨rfl, rfl⟩
            go_simp
            refine hK.out _ _ (hHeld) (fun hHeld => ?_)
            clear hK K
            refine wT 6 (v := ?v102) rfl (by kernel_rfl) (fun _ _ _ h => h) ?h102 (by assumption) ?r102
            case h102 => (intro w hSw; (try dsimp only at hSw); go_simp; try with_reducible rfl)
            refine wT 7 (v := ?v103) rfl (by kernel_rfl) (fun _ _ _ h => h) ?h103 (by assumption) ?r103
            case h103 => (intro w hSw; (try dsimp only at hSw); go_simp; try with_reducible rfl)
            refine wT 8 (v := ?v104) rfl (by kernel_rfl) (fun _ _ _ h => h) ?h104 (by assumption) ?r104
            case h104 => (intro w hSw; (try dsimp only at hSw); go_simp; try with_reducible rfl)
            refine wT 9 (v := ?v105) rfl (by kernel_rfl) (fun _ _ _ h => h) ?h105 (by assumption) ?r105
            case h105 => (intro w hSw; (try dsimp only at hSw); go_simp; try with_reducible rfl)
            refine wT 10 (v := ?v106) rfl (by kernel_rfl) (fun _ _ _ h => h) ?h106 (by assumption) ?r106
            case h106 => (intro w hSw; (try dsimp only at hSw); go_simp; try with_reducible rfl)
            refine wS 11 rfl (by kernel_rfl) (fun _ _ _ h => h) (by assumption) ?_
            refine wS 12 rfl (by kernel_rfl) (fun _ _ _ h => h) (by assumption) ?_
            refine wS 13 rfl (by kernel_rfl) (fun _ _ _ h => h) (by assumption) ?_
            refine wS 14 rfl (by kernel_rfl) (fun _ _ _ h => h) (by assumption) ?_
            refine wS 15 rfl (by kernel_rfl) (fun _ _ _ h => h) (by assumption) ?_
            refine wS 16 rfl (by kernel_rfl) (fun _ _ _ h => h) (by assumption) ?_
            refine wS 17 rfl (by kernel_rfl) (fun _ _ _ h => h) (by assumption) ?_
            refine wS 18 rfl (by kernel_rfl) (fun _ _ _ h => h) (by assumption) ?_
            refine wS 19 rfl (by kernel_rfl) (fun _ _ _ h => h) (by assumption) ?_
            refine wS 20 rfl (by kernel_rfl) (fun _ _ _ h => h) (by assumption) ?_
            refine wS 21 rfl (by kernel_rfl) (fun _ _ _ h => h) (by assumption) ?_
            refine wS 22 rfl (by kernel_rfl) (fun _ _ _ h => h) (by assumption) ?_
            refine wT 23 (v := ?v119) rfl (by kernel_rfl) (fun _ _ _ h => h) ?h119 (by assumption) ?r119
            case h119 => (intro w hSw; (try dsimp only at hSw); go_simp; try with_reducible rfl)
            refine wT 24 (v := ?v120) rfl (by kernel_rfl) (fun _ _ _ h => h) ?h120 (by assumption) ?r120
            case h120 => (intro w hSw; (try dsimp only at hSw); go_simp; try with_reducible rfl)
            try simp only [Act.put, List.setIfInBounds_toArray, List.set_cons_zero, List.set_cons_succ]
            refine wpAnyH_done (by kernel_rfl) ?_ _
            clear y0 y1
            go_wp2
            go_roundw
            case rel => exact ⟨k + 1, m + 1, by omega, by go_num, hg, rfl⟩
            case measure => simp [intOf]; omega
          · obtain ⟨p, hp⟩ : ∃ p, k = p + 1 := ⟨k - 1, by omega⟩
            have hk0i : decide ((0 : Int) < (k : Int)) = true := decide_eq_true (by omega)
            have hk0n : decide (0 < k) = true := decide_eq_true (by omega)
            have hpn : p < n := by omega
            have hpi : (p : Int) < (n : Int) := by omega
            have hw1 : IntKind.i64.wrap ((k : Int) - 1) = (p : Int) := by rw [IntKind.wrap_i64]; omega
            have hq := hp0.out p hp hnb
            obtain ⟨b', off', hb1, -, z0, -⟩ := mk_at RW.out hpn
            injection hb1 with hb1
            injection hb1 with hb1 hb2
            subst hb1 hb2
            have z0' : ∀ W, (∃ j, W = w.drewN j) → W.cell? ⟨b, off + p * 2, none⟩ = some (.int .u64 (l.getD p mk0).f) := fun W hW => by obtain ⟨j, rfl⟩ := hW; exact z0
            clear z0
            generalize (l.getD k mk0).f = f at *
            generalize (l.getD p mk0).f = f' at *
            clear hp hk0
            by_cases hff : f' < f
            · have hg := Lib.hid (hnx.out (by rw [hq]; exact decide_eq_true hff))
              have hle : ¬ f ≤ f' := by omega
              clear hq
              rw [hnb] at qs
              clear hno' hn0 hz0 hp0 hnx hnb hend qn
              go_wp2
              refine wp_drawn_on (fun W => ∃ j, W = w.drewN j) (by kernel_rfl) (⟨m + 1, rfl⟩) (fun hHeld => ?_)
              refine wT 0 (v := ?v121) rfl (by kernel_rfl) (fun _ _ _ h => h) ?h121 (by assumption) ?r121
              case h121 => (intro w hSw; (try dsimp only at hSw); go_simp; try with_reducible rfl)
              refine wT 1 (v := ?v122) rfl (by kernel_rfl) (fun _ _ _ h => h) ?h122 (by assumption) ?r122
              case h122 => (intro w hSw; (try dsimp only at hSw); go_simp; try with_reducible rfl)
              refine wT 2 (v := ?v123) rfl (by kernel_rfl) (fun _ _ _ h => h) ?h123 (by assumption) ?r123
              case h123 => (intro w hSw; (try dsimp only at hSw); go_simp; try with_reducible rfl)
              refine wT 3 (v := ?v124) rfl (by kernel_rfl) (fun _ _ _ h => h) ?h124 (by assumption) ?r124
              case h124 => (intro w hSw; (try dsimp only at hSw); go_simp; try with_reducible rfl)
              refine wT 4 (v := ?v125) rfl (by kernel_rfl) (fun _ _ _ h => h) ?h125 (by assumption) ?r125
              case h125 => (intro w hSw; (try dsimp only at hSw); go_simp; try with_reducible rfl)
              try simp only [Act.put, List.setIfInBounds_toArray, List.set_cons_zero, List.set_cons_succ]
              refine wpAnyH_ready (rs := [5]) (by kernel_rfl) (by simp) ?_
              refine AllReadyH.cons (o := ⟨_, _, _, _, _, _⟩) rfl (fun K hK => ?_) AllReadyH.nil
              go_simp
              with_reducible refine (qs.out _).mono ?_
              rintro e w3 ⟨rfl, rfl⟩
              go_simp
              refine hK.out _ _ (hHeld) (fun hHeld => ?_)
              clear hK K
              refine wT 6 (v := ?v126) rfl (by kernel_rfl) (fun _ _ _ h => h) ?h126 (by assumption) ?r126
              case h126 => (intro w hSw; (try dsimp only at hSw); go_simp; try with_reducible rfl)
              refine wT 7 (v := ?v127) rfl (by kernel_rfl) (fun _ _ _ h => h) ?h127 (by assumption) ?r127
              case h127 => (intro w hSw; (try dsimp only at hSw); go_simp; try with_reducible rfl)
              refine wT 8 (v := ?v128) rfl (by kernel_rfl) (fun _ _ _ h => h) ?h128 (by assumption) ?r128
              case h128 => (intro w hSw; (try dsimp only at hSw); go_simp; try with_reducible rfl)
              refine wT 9 (v := ?v129) rfl (by kernel_rfl) (fun _ _ _ h => h) ?h129 (by assumption) ?r129
              case h129 => (intro w hSw; (try dsimp only at hSw); go_simp; try with_reducible rfl)
              refine wT 10 (v := ?v130) rfl (by kernel_rfl) (fun _ _ _ h => h) ?h130 (by assumption) ?r130
              case h130 => (intro w hSw; (try dsimp only at hSw); go_simp; try with_reducible rfl)
              refine wT 11 (v := ?v131) rfl (by kernel_rfl) (fun _ _ _ h => h) ?h131 (by assumption) ?r131
              case h131 => (intro w hSw; (try dsimp only at hSw); go_simp; try with_reducible rfl)
              refine wT 12 (v := ?v132) rfl (by kernel_rfl) (fun _ _ _ h => h) ?h132 (by assumption) ?r132
              case h132 => (intro w hSw; (try dsimp only at hSw); go_simp; try with_reducible rfl)
              refine wT 13 (v := ?v133) rfl (by kernel_rfl) (fun _ _ _ h => h) ?h133 (by assumption) ?r133
              case h133 => (intro w hSw; (try dsimp only at hSw); go_simp; try with_reducible rfl)
              refine wT 14 (v := ?v134) rfl (by kernel_rfl) (fun _ _ _ h => h) ?h134 (by assumption) ?r134
              case h134 => (intro w hSw; (try dsimp only at hSw); go_simp; try with_reducible rfl)
              refine wT 15 (v := ?v135) rfl (by kernel_rfl) (fun _ _ _ h => h) ?h135 (by assumption) ?r135
              case h135 => (intro w hSw; (try dsimp only at hSw); go_simp; try with_reducible rfl)
              refine wT 16 (v := ?v136) rfl (by kernel_rfl) (fun _ _ _ h => h) ?h136 (by assumption) ?r136
              case h136 => (intro w hSw; (try dsimp only at hSw); go_simp; try with_reducible rfl)
              refine wT 17 (v := ?v137) rfl (by kernel_rfl) (fun _ _ _ h => h) ?h137 (by assumption) ?r137
              case h137 => (intro w hSw; (try dsimp only at hSw); go_simp; try with_reducible rfl)
              refine wT 18 (v := ?v138) rfl (by kernel_rfl) (fun _ _ _ h => h) ?h138 (by assumption) ?r138
              case h138 => (intro w hSw; (try dsimp only at hSw); go_simp; try with_reducible rfl)
              refine wT 19 (v := ?v139) rfl (by kernel_rfl) (fun _ _ _ h => h) ?h139 (by assumption) ?r139
              case h139 => (intro w hSw; (try dsimp only at hSw); go_simp; try with_reducible rfl)
              refine wT 20 (v := ?v140) rfl (by kernel_rfl) (fun _ _ _ h => h) ?h140 (by assumption) ?r140
              case h140 => (intro w hSw; (try dsimp only at hSw); go_simp; try with_reducible rfl)
              refine wT 21 (v := ?v141) rfl (by kernel_rfl) (fun _ _ _ h => h) ?h141 (by assumption) ?r141
              case h141 => (intro w hSw; (try dsimp only at hSw); go_simp; try with_reducible rfl)
              refine wT 22 (v := ?v142) rfl (by kernel_rfl) (fun _ _ _ h => h) ?h142 (by assumption) ?r142
              case h142 => (intro w hSw; (try dsimp only at hSw); go_simp; try with_reducible rfl)
              refine wT 23 (v := ?v143) rfl (by kernel_rfl) (fun _ _ _ h => h) ?h143 (by assumption) ?r143
              case h143 => (intro w hSw; (try dsimp only at hSw); go_simp; try with_reducible rfl)
              refine wT 24 (v := ?v144) rfl (by kernel_rfl) (fun _ _ _ h => h) ?h144 (by assumption) ?r144
              case h144 => (intro w hSw; (try dsimp only at hSw); go_simp; try with_reducible rfl)
              try simp only [Act.put, List.setIfInBounds_toArray, List.set_cons_zero, List.set_cons_succ]
              refine wpAnyH_done (by kernel_rfl) ?_ _
              clear y0 y1 z0'
              go_wp2
              go_roundw
              case rel => exact ⟨k + 1, m + 1, by omega, by go_num, hg, rfl⟩
              case measure => simp [intOf]; omega
            · have hf := Lib.hid (hno'.out (by rw [hq]; exact decide_eq_false hff))
              have hle : f ≤ f' := by omega
              clear hq
              rw [hnb] at qs
              clear hno' hn0 hz0 hp0 hnx hnb hend qn
              go_wp2
              refine wp_drawn_on (fun W => ∃ j, W = w.drewN j) (by kernel_rfl) (⟨m + 1, rfl⟩) (fun hHeld => ?_)
              refine wT 0 (v := ?v145) rfl (by kernel_rfl) (fun _ _ _ h => h) ?h145 (by assumption) ?r145
              case h145 => (intro w hSw; (try dsimp only at hSw); go_simp; try with_reducible rfl)
              refine wT 1 (v := ?v146) rfl (by kernel_rfl) (fun _ _ _ h => h) ?h146 (by assumption) ?r146
              case h146 => (intro w hSw; (try dsimp only at hSw); go_simp; try with_reducible rfl)
              refine wT 2 (v := ?v147) rfl (by kernel_rfl) (fun _ _ _ h => h) ?h147 (by assumption) ?r147
              case h147 => (intro w hSw; (try dsimp only at hSw); go_simp; try with_reducible rfl)
              refine wT 3 (v := ?v148) rfl (by kernel_rfl) (fun _ _ _ h => h) ?h148 (by assumption) ?r148
              case h148 => (intro w hSw; (try dsimp only at hSw); go_simp; try with_reducible rfl)
              refine wT 4 (v := ?v149) rfl (by kernel_rfl) (fun _ _ _ h => h) ?h149 (by assumption) ?r149
              case h149 => (intro w hSw; (try dsimp only at hSw); go_simp; try with_reducible rfl)
              try simp only [Act.put, List.setIfInBounds_toArray, List.set_cons_zero, List.set_cons_succ]
              refine wpAnyH_ready (rs := [5]) (by kernel_rfl) (by simp) ?_
              refine AllReadyH.cons (o := ⟨_, _, _, _, _, _⟩) rfl (fun K hK => ?_) AllReadyH.nil
              go_simp
              with_reducible refine (qs.out _).mono ?_
              rintro e w3 ⟨rfl, rfl⟩
              go_simp
              refine hK.out _ _ (hHeld) (fun hHeld => ?_)
              clear hK K
              refine wT 6 (v := ?v150) rfl (by kernel_rfl) (fun _ _ _ h => h) ?h150 (by assumption) ?r150
              case h150 => (intro w hSw; (try dsimp only at hSw); go_simp; try with_reducible rfl)
              refine wT 7 (v := ?v151) rfl (by kernel_rfl) (fun _ _ _ h => h) ?h151 (by assumption) ?r151
              case h151 => (intro w hSw; (try dsimp only at hSw); go_simp; try with_reducible rfl)
              refine wT 8 (v := ?v152) rfl (by kernel_rfl) (fun _ _ _ h => h) ?h152 (by assumption) ?r152
              case h152 => (intro w hSw; (try dsimp only at hSw); go_simp; try with_reducible rfl)
              refine wT 9 (v := ?v153) rfl (by kernel_rfl) (fun _ _ _ h => h) ?h153 (by assumption) ?r153
              case h153 => (intro w hSw; (try dsimp only at hSw); go_simp; try with_reducible rfl)
              refine wT 10 (v := ?v154) rfl (by kernel_rfl) (fun _ _ _ h => h) ?h154 (by assumption) ?r154
              case h154 => (intro w hSw; (try dsimp only at hSw); go_simp; try with_reducible rfl)
              refine wT 11 (v := ?v155) rfl (by kernel_rfl) (fun _ _ _ h => h) ?h155 (by assumption) ?r155
              case h155 => (intro w hSw; (try dsimp only at hSw); go_simp; try with_reducible rfl)
              refine wT 12 (v := ?v156) rfl (by kernel_rfl) (fun _ _ _ h => h) ?h156 (by assumption) ?r156
              case h156 => (intro w hSw; (try dsimp only at hSw); go_simp; try with_reducible rfl)
              refine wT 13 (v := ?v157) rfl (by kernel_rfl) (fun _ _ _ h => h) ?h157 (by assumption) ?r157
              case h157 => (intro w hSw; (try dsimp only at hSw); go_simp; try with_reducible rfl)
              refine wT 14 (v := ?v158) rfl (by kernel_rfl) (fun _ _ _ h => h) ?h158 (by assumption) ?r158
              case h158 => (intro w hSw; (try dsimp only at hSw); go_simp; try with_reducible rfl)
              refine wT 15 (v := ?v159) rfl (by kernel_rfl) (fun _ _ _ h => h) ?h159 (by assumption) ?r159
              case h159 => (intro w hSw; (try dsimp only at hSw); go_simp; try with_reducible rfl)
              refine wT 16 (v := ?v160) rfl (by kernel_rfl) (fun _ _ _ h => h) ?h160 (by assumption) ?r160
              case h160 => (intro w hSw; (try dsimp only at hSw); go_simp; try with_reducible rfl)
              refine wT 17 (v := ?v161) rfl (by kernel_rfl) (fun _ _ _ h => h) ?h161 (by assumption) ?r161
              case h161 => (intro w hSw; (try dsimp only at hSw); go_simp; try with_reducible rfl)
              refine wT 18 (v := ?v162) rfl (by kernel_rfl) (fun _ _ _ h => h) ?h162 (by assumption) ?r162
              case h162 => (intro w hSw; (try dsimp only at hSw); go_simp; try with_reducible rfl)
              refine wT 19 (v := ?v163) rfl (by kernel_rfl) (fun _ _ _ h => h) ?h163 (by assumption) ?r163
              case h163 => (intro w hSw; (try dsimp only at hSw); go_simp; try with_reducible rfl)
              refine wT 20 (v := ?v164) rfl (by kernel_rfl) (fun _ _ _ h => h) ?h164 (by assumption) ?r164
              case h164 => (intro w hSw; (try dsimp only at hSw); go_simp; try with_reducible rfl)
              refine wT 21 (v := ?v165) rfl (by kernel_rfl) (fun _ _ _ h => h) ?h165 (by assumption) ?r165
              case h165 => (intro w hSw; (try dsimp only at hSw); go_simp; try with_reducible rfl)
              refine wT 22 (v := ?v166) rfl (by kernel_rfl) (fun _ _ _ h => h) ?h166 (by assumption) ?r166
              case h166 => (intro w hSw; (try dsimp only at hSw); go_simp; try with_reducible rfl)
              refine wT 23 (v := ?v167) rfl (by kernel_rfl) (fun _ _ _ h => h) ?h167 (by assumption) ?r167
              case h167 => (intro w hSw; (try dsimp only at hSw); go_simp; try with_reducible rfl)
              refine wT 24 (v := ?v168) rfl (by kernel_rfl) (fun _ _ _ h => h) ?h168 (by assumption) ?r168
              case h168 => (intro w hSw; (try dsimp only at hSw); go_simp; try with_reducible rfl)
              try simp only [Act.put, List.setIfInBounds_toArray, List.set_cons_zero, List.set_cons_succ]
              refine wpAnyH_done (by kernel_rfl) ?_ _
              clear y0 y1 z0'
              go_wp2
              go_ret
              exact ⟨ret_bool hf.out.symm, m + 1, rfl⟩
      · have h11i : ¬ (k : Int) < 1100 := by omega
        have hf := Lib.hid (hend.out k hal.out (.inr (by omega)))
        clear hal hno hend
        go_wp2
        go_ret
        exact ⟨ret_bool hf.out.symm, m, rfl⟩
    · have hki : ¬ (k : Int) < (n : Int) := by omega
      have hf := Lib.hid (hend.out k hal.out (.inl (by omega)))
      clear hal hno hend
      go_wp2
      go_ret
      exact ⟨ret_bool hf.out.symm, m, rfl⟩
end Go.Proofs.YtpchncpcckfghaaGreat
namespace Go.Proofs.YtpchncpcckfghaaGreat
open Go.RowKit
set_option linter.unusedVariables false
set_option linter.unusedSimpArgs false
def cmpF (a b : Int) : Int := if a < b then -1 else if b < a then 1 else 0
theorem unan_any (x : Int) (w : World) : Calls Tryz.prog 80 #[.int .u64 x] w (Tells (.bool false) w) := by
  go_enter Tryz.func80, Tryz.ntmps80
  go_wp2
  go_ret
  exact ⟨rfl, rfl⟩
theorem ucompare_any (a b : Int) (w : World) : Calls Tryz.prog 59 #[.int .u64 a, .int .u64 b] w (Tells (.int .i64 (cmpF a b)) w) := by
  have q := Lib.hid (fun x W => unan_any x W)
  unfold cmpF
  by_cases h1 : a < b
  · rw [if_pos h1]
    go_enter Tryz.func59, Tryz.ntmps59
    go_wp2_with fail
    with_reducible refine (q.out _ _).mono ?_
    rintro e w1 ⟨rfl, rfl⟩
    go_wp2_with fail
    with_reducible refine (q.out _ _).mono ?_
    rintro e w2 ⟨rfl, rfl⟩
    go_wp2
    go_ret
    exact ⟨rfl, rfl⟩
  · rw [if_neg h1]
    by_cases h2 : b < a
    · rw [if_pos h2]
      go_enter Tryz.func59, Tryz.ntmps59
      go_wp2_with fail
      with_reducible refine (q.out _ _).mono ?_
      rintro e w1 ⟨rfl, rfl⟩
      go_wp2_with fail
      with_reducible refine (q.out _ _).mono ?_
      rintro e w2 ⟨rfl, rfl⟩
      go_wp2
      go_ret
      exact ⟨rfl, rfl⟩
    · rw [if_neg h2]
      go_enter Tryz.func59, Tryz.ntmps59
      go_wp2_with fail
      with_reducible refine (q.out _ _).mono ?_
      rintro e w1 ⟨rfl, rfl⟩
      go_wp2_with fail
      with_reducible refine (q.out _ _).mono ?_
      rintro e w2 ⟨rfl, rfl⟩
      go_wp2
      go_ret
      exact ⟨rfl, rfl⟩
set_option maxRecDepth 100000 in
theorem bfcmp_any (f : Int) (s : ByteArray) (g : Int) (w : World) : Calls Tryz.prog 58 #[.agg #[.int .u64 f, .string s], .int .u64 g] w (Gives (.int .i64 (cmpF f g)) w) := by
  have q := Lib.hid (fun W => ucompare_any f g W)
  generalize cmpF f g = cv at *
  go_enter Tryz.func58, Tryz.ntmps58
  go_wp2_with fail
  refine (q.out _).mono ?_
  rintro e w1 ⟨rfl, rfl⟩
  go_wp2
  go_ret
  exact ⟨rfl, box_below _ _ _⟩
def FindI (l : List MkD) (n : Nat) (g : Int) (i : Nat) : Prop := i ≤ n ∧ (∀ t, t < i → (l.getD t mk0).f < g) ∧ ∀ t, i ≤ t → t < n → g ≤ (l.getD t mk0).f
theorem rise_lt {l : List MkD} (hr : riseM l) {t j : Nat} (htj : t < j) (hj : j < l.length) : (l.getD t mk0).f < (l.getD j mk0).f := by
  unfold riseM at hr
  rw [List.pairwise_iff_getElem] at hr
  have := hr t j (by omega) hj htj
  simpa [List.getD, hj, show t < l.length by omega] using this
set_option maxRecDepth 100000 in
set_option maxHeartbeats 4000000 in
theorem bsearch_any (a : Option Addr) (n c : Nat) (l : List MkD) (g : Int) (hn : n ≤ 4096) (hr : riseM l) (w : World) (h : RO mkC w a n c l) :
    Calls Tryz.prog 57 #[.slice a n c, .int .u64 g, .func (.func 58) #[] #[]] w fun e w' => (∃ i : Nat, FindI l n g i ∧ e = .returned (.tuple #[.int .i64 i, .bool (decide (i < n) && decide ((l.getD i mk0).f = g))])) ∧ Below w.heap.size w w' := by
  have hlen := Lib.hid h.len
  have RW := Lib.hid h
  have hq := Lib.hid (fun f s W => bfcmp_any f s g W)
  have hlt := Lib.hid (fun t j h1 h2 => rise_lt hr (t := t) (j := j) h1 h2)
  clear h hr
  go_enter Tryz.func57, Tryz.ntmps57
  go_wp2
  go_loopw [9, 10] (fun x y wr => ∃ i j : Nat, i ≤ j ∧ j ≤ n ∧ x = .int .i64 i ∧ y = .int .i64 j ∧ Hid (∀ t, t < i → (l.getD t mk0).f < g) ∧ Hid (∀ t, j ≤ t → t < n → g ≤ (l.getD t mk0).f) ∧ Hid (Below w.heap.size w wr)) (fun x y _ => (intOf y).toNat - (intOf x).toNat)
  case atStart => exact ⟨0, n, by omega, by omega, rfl, rfl, Lib.hid (by intro t ht; omega), Lib.hid (by intro t h1 h2; omega), Lib.hid (Below.refl _ _)⟩
  case round =>
    obtain ⟨i, j, hij, hj, rfl, rfl, hlo, hhi, hB⟩ := hrel
    generalize wr = g0 at *
    by_cases hne : i < j
    · have hii : (i : Int) < (j : Int) := by omega
      obtain ⟨h, hh⟩ : ∃ h : Nat, h = (i + j) / 2 := ⟨_, rfl⟩
      have h1 : i ≤ h := by omega
      have h2 : h < j := by omega
      have hhi2 : ((i : Int) + (j : Int)) / 2 = (h : Int) := by omega
      have hkl : h < l.length := by rw [← hlen.out]; omega
      obtain ⟨b, off, rfl, hbl, x0, x1⟩ := mk_at (RW.out.below hB.out) (show h < n by omega)
      have hjn : (j : Int) ≤ 4096 := by omega
      have hin : (i : Int) ≤ 4096 := by omega
      have hhn : (h : Int) < (n : Int) := by omega
      have hhn2 : h < n := by omega
      clear hh
      have hq' := Lib.hid (fun W => hq.out (l.getD h mk0).f (l.getD h mk0).note W)
      have hup : Hid ((l.getD h mk0).f < g → ∀ t, t < h + 1 → (l.getD t mk0).f < g) := Lib.hid (fun hh t ht => by
        by_cases e : t = h
        · rw [e]; exact hh
        · exact Int.lt_trans (hlt.out t h (by omega) hkl) hh)
      have hdn : Hid (g ≤ (l.getD h mk0).f → ∀ t, h ≤ t → t < n → g ≤ (l.getD t mk0).f) := Lib.hid (fun hh t h0 ht => by
        by_cases e : t = h
        · rw [e]; exact hh
        · exact Int.le_of_lt (Int.lt_of_le_of_lt hh (hlt.out h t (by omega) (by rw [← hlen.out]; exact ht))))
      clear hkl hq hlt
      generalize (l.getD h mk0).f = f at *
      generalize (l.getD h mk0).note = s at *
      by_cases hneg : f < g
      · have hS := Lib.hid (hup.out hneg)
        have hcv : Hid (cmpF f g = -1) := Lib.hid (by unfold cmpF; rw [if_pos hneg])
        rw [hcv.out] at hq'
        clear hup hdn hneg hcv
        go_wp2_with fail
        refine (hq'.out _).mono ?_
        rintro e w1 ⟨rfl, b1⟩
        have hB1 := Lib.hid (hB.out.trans (b1.mono hB.out.size))
        clear b1 hB
        go_wp2
        go_roundw
        case rel => exact ⟨h + 1, j, by omega, by omega, by go_num, rfl, hS, hhi, hB1⟩
        case measure => simp [intOf]; omega
      · have hS := Lib.hid (hdn.out (by omega))
        have hcv : Hid (0 ≤ cmpF f g) := Lib.hid (by unfold cmpF; rw [if_neg hneg]; split <;> omega)
        generalize cmpF f g = cv at *
        have hcn : ¬ cv < 0 := by have := hcv.out; omega
        clear hup hdn hneg hcv
        go_wp2_with fail
        refine (hq'.out _).mono ?_
        rintro e w1 ⟨rfl, b1⟩
        have hB1 := Lib.hid (hB.out.trans (b1.mono hB.out.size))
        clear b1 hB
        go_wp2
        go_roundw
        case rel => exact ⟨i, h, by omega, by omega, by first | trivial | rfl, rfl, hlo, hS, hB1⟩
        case measure => simp [intOf]; omega
    · have hji : i = j := by omega
      subst hji
      have hii : ¬ (i : Int) < (i : Int) := by omega
      have hfin := Lib.hid (show FindI l n g i from ⟨hj, hlo.out, hhi.out⟩)
      clear hlo hhi hlt hij
      by_cases hin : i < n
      · obtain ⟨b, off, rfl, hbl, x0, x1⟩ := mk_at (RW.out.below hB.out) hin
        have hini : (i : Int) < (n : Int) := by omega
        have hq' := Lib.hid (fun W => hq.out (l.getD i mk0).f (l.getD i mk0).note W)
        have hF : Hid (∀ y, y = decide ((l.getD i mk0).f = g) → ∃ i' : Nat, FindI l n g i' ∧ Ending.returned (.tuple #[.int .i64 (i : Int), .bool y]) = .returned (.tuple #[.int .i64 i', .bool (decide (i' < n) && decide ((l.getD i' mk0).f = g))])) := Lib.hid (fun y hy => ⟨i, hfin.out, by rw [hy, decide_eq_true hin, Bool.true_and]⟩)
        clear hfin hq
        generalize (l.getD i mk0).f = f at *
        generalize (l.getD i mk0).note = s at *
        have heq : (cmpF f g == 0) = decide (f = g) := by
          unfold cmpF
          by_cases e : f = g
          · subst e; simp
          · rw [decide_eq_false e]
            split
            · rfl
            · rw [if_pos (by omega)]; rfl
        have hG := Lib.hid (hF.out _ heq)
        clear hF heq
        generalize cmpF f g = cv at *
        cases hy : (cv == 0)
        all_goals
          rw [hy] at hG
          go_wp2_with fail
          refine (hq'.out _).mono ?_
          rintro e w1 ⟨rfl, b1⟩
          have hB1 := Lib.hid (hB.out.trans (b1.mono hB.out.size))
          clear b1 hB
          go_wp2
          go_ret2
          exact ⟨hG.out, hB1.out⟩
      · have hini : ¬ (i : Int) < (n : Int) := by omega
        have hG : Hid (∃ i' : Nat, FindI l n g i' ∧ Ending.returned (.tuple #[.int .i64 (i : Int), .bool false]) = .returned (.tuple #[.int .i64 i', .bool (decide (i' < n) && decide ((l.getD i' mk0).f = g))])) := Lib.hid ⟨i, hfin.out, by rw [decide_eq_false hin, Bool.false_and]⟩
        clear hin hfin hq
        go_wp2
        go_ret2
        exact ⟨hG.out, hB.out⟩
end Go.Proofs.YtpchncpcckfghaaGreat
namespace Go.Proofs.YtpchncpcckfghaaGreat
open Go.RowKit
set_option linter.unusedVariables false
set_option linter.unusedSimpArgs false
theorem snan64_any (x : Int) (w : World) : Calls Tryz.prog 61 #[.int .u64 x] w (Tells (.bool false) w) := by
  go_enter Tryz.func61, Tryz.ntmps61
  go_wp2
  go_ret
  exact ⟨rfl, rfl⟩
theorem uless_any (a b : Int) (w : World) : Calls Tryz.prog 60 #[.int .u64 a, .int .u64 b] w (Tells (.bool (decide (a < b))) w) := by
  have q := Lib.hid (fun x W => unan_any x W)
  go_enter Tryz.func60, Tryz.ntmps60
  go_wp2_with fail
  with_reducible refine (q.out _ _).mono ?_
  rintro e w1 ⟨rfl, rfl⟩
  go_wp2
  go_ret
  exact ⟨rfl, rfl⟩
end Go.Proofs.YtpchncpcckfghaaGreat
namespace Go.Proofs.YtpchncpcckfghaaGreat
open Go.RowKit Go.Sort
set_option linter.unusedVariables false
set_option linter.unusedSimpArgs false
def encU : Int → Value := Value.int .u64
abbrev SU (w0 : World) (blk off : Nat) (dk : Array Int) (W : World) : Prop := SW encU w0 blk off dk W
abbrev RU (w0 : World) (blk off : Nat) (d0 : Array Int) : Prop := Row1 encU w0 blk off d0
theorem SU.cells {w0 W : World} {blk off : Nat} {d0 dk : Array Int} (h : SU w0 blk off dk W) (R : RU w0 blk off d0) (hs : dk.size = d0.size) (G : Nat → Int) (hG : ∀ t, G t = dk[t]!) {n : Nat} (hn : dk.size = n) :
    (∀ t, t < n → W.cell? ⟨blk, off + t, none⟩ = some (.int .u64 (G t))) ∧ ∀ t, t < n → W.frozen? ⟨blk, off + t, none⟩ = false :=
  ⟨fun t ht => by rw [hG]; exact h.c1 R hs t (by omega), fun t ht => h.f1 R hs t (by omega)⟩
theorem SU.swp {w0 W : World} {blk off : Nat} {d0 dk : Array Int} (h : SU w0 blk off dk W) (R : RU w0 blk off d0) (q : Nat) {G : Nat → Int} (hG : ∀ t, G t = dk[t]!) {i j : Nat} (hi : i < dk.size) (hj : j < dk.size) :
    SU w0 blk off (swp dk i j) (((W.drewN q).setCell ⟨blk, off + i, none⟩ (.int .u64 (G j))).setCell ⟨blk, off + j, none⟩ (.int .u64 (G i))) := by
  rw [hG, hG]
  exact (h.drewN q).swap R.hblk i j hi hj
set_option maxRecDepth 1000000 in
set_option maxHeartbeats 16000000 in
theorem uins_any (blk off cap a b : Nat) (d0 d : Array Int) (w0 w : World) (R : RU w0 blk off d0) (hs : d.size = d0.size) (S : SU w0 blk off d w) (hab : a ≤ b) (hb : b ≤ d.size) (hsz : d.size ≤ 1000000) :
    Calls Tryz.prog 81 #[.slice (some ⟨blk, off, none⟩) d.size cap, .int .i64 a, .int .i64 b] w fun e w' => e = .returned (.tuple #[]) ∧ SU w0 blk off (Sort.insertionSort ltInt d a b) w' := by
  have S0 := Lib.hid S
  have RR := Lib.hid R
  clear S R
  go_enter Tryz.func81, Tryz.ntmps81
  go_wp2
  go_loopw [6] (fun vi wr => ∃ (i : Nat) (dk : Array Int), vi = .int .i64 i ∧ a < i ∧ i ≤ b + 1 ∧ dk.size = d.size ∧ Hid (SU w0 blk off dk wr) ∧ Hid (insOuter ltInt a b i dk = insOuter ltInt a b (a + 1) d)) (fun vi _ => b + 1 - (intOf vi).toNat)
  case atStart => exact ⟨a + 1, d, by go_num, by omega, by omega, rfl, S0, Lib.hid rfl⟩
  case round =>
    clear S0
    obtain ⟨i, dk, rfl, hai, hib, hsk, SK, HO⟩ := hrel
    by_cases hlt : i < b
    · have hltz : (i : Int) < (b : Int) := by omega
      go_wp2
      go_loopw [7] (fun vj wr2 => ∃ (j : Nat) (dj : Array Int), vj = .int .i64 j ∧ a ≤ j ∧ j ≤ i ∧ dj.size = d.size ∧ Hid (SU w0 blk off dj wr2) ∧ Hid (insInner ltInt a j dj = insInner ltInt a i dk)) (fun vj _ => (intOf vj).toNat)
      case atStart => exact ⟨i, dk, rfl, by omega, Nat.le_refl _, hsk, SK, Lib.hid rfl⟩
      case round =>
        clear SK
        obtain ⟨j, dj, rfl, haj, hji, hsj, SJ, HI⟩ := hrel
        obtain ⟨G, hG⟩ : ∃ G : Nat → Int, ∀ t, G t = dj[t]! := ⟨fun t => dj[t]!, fun _ => rfl⟩
        obtain ⟨hcw, hfw⟩ := SJ.out.cells RR.out (by omega) G hG hsj
        have HG := Lib.hid hG
        clear hG
        have OUT : Hid ((j ≤ a ∨ ltInt dj[j]! dj[j - 1]! = false) → ∀ q W, W = wr.drewN q → ∃ i' dk', Value.int .i64 ((i : Int) + 1) = .int .i64 (i' : Nat) ∧ a < i' ∧ i' ≤ b + 1 ∧ dk'.size = d.size ∧ Hid (SU w0 blk off dk' W) ∧ Hid (insOuter ltInt a b i' dk' = insOuter ltInt a b (a + 1) d)) :=
          Lib.hid (fun hs q W hW => ⟨i + 1, dj, by go_num, by omega, by omega, hsj, Lib.hid (by rw [hW]; exact SJ.out.drewN q), Lib.hid (by rw [← HO.out, insOuter_go _ _ _ _ _ hlt, ← HI.out, insInner_stop _ _ _ _ hs])⟩)
        by_cases hja : a < j
        · go_wp2
          go_quiet (first | (go_at_call 60; exact quiet_mine (uless_any _ _ _)))
          go_wp2
          · have hl : G j < G (j - 1) := by assumption
            go_region
            all_goals go_wp2
            go_roundw
            case rel => exact ⟨j - 1, swp dj j (j - 1), by congr 1; omega, by omega, by omega, by rw [size_swp]; exact hsj, Lib.hid (SJ.out.swp RR.out (nq + 1) HG.out (by omega) (by omega)), Lib.hid (by rw [← HI.out, insInner_go ltInt a j dj hja (by rw [← HG.out, ← HG.out]; exact decide_eq_true hl)])⟩
            case measure => simp [intOf]; omega
          · have hl : G (j - 1) ≤ G j := by assumption
            go_roundw
            case rel => exact OUT.out (Or.inr (by rw [← HG.out, ← HG.out]; exact decide_eq_false (by omega))) nq _ rfl
            case measure => simp [intOf]; omega
        · go_wp2
          go_quiet (fail)
          go_wp2
          go_roundw
          case rel => exact OUT.out (Or.inl (by omega)) nq _ rfl
          case measure => simp [intOf]; omega
    · have hltz : ¬ (i : Int) < (b : Int) := by omega
      go_wp2
      go_end0
      exact ⟨rfl, by unfold Sort.insertionSort; rw [← HO.out, insOuter_stop _ _ _ _ _ hlt]; exact SK.out⟩
end Go.Proofs.YtpchncpcckfghaaGreat
namespace Go.Proofs.YtpchncpcckfghaaGreat
open Go.RowKit Go.Sort
set_option linter.unusedVariables false
set_option linter.unusedSimpArgs false
set_option maxRecDepth 1000000 in
set_option maxHeartbeats 4000000 in
theorem updq_small (blk off cap a b : Nat) (lim : Int) (d0 d : Array Int) (w0 w : World) (R : RU w0 blk off d0) (hs : d.size = d0.size) (S : SU w0 blk off d w) (hab : a ≤ b) (hb : b ≤ d.size) (hsz : d.size ≤ 1000000) (h12 : b - a ≤ 12) :
    Calls Tryz.prog 62 #[.slice (some ⟨blk, off, none⟩) d.size cap, .int .i64 a, .int .i64 b, .int .i64 lim] w fun e w' => e = .returned (.tuple #[]) ∧ ∃ d', PermIn a b d d' ∧ SortedIn ltInt a b d' ∧ SU w0 blk off d' w' := by
  have hP := Lib.hid (insertionSort_holds (lt := ltInt) swo_ltInt d a b hab hb)
  have q := Lib.hid (uins_any blk off cap a b d0 d w0 w R hs S hab hb hsz)
  have h12z : (b : Int) - (a : Int) ≤ 12 := by omega
  clear S R hs
  go_enter Tryz.func62, Tryz.ntmps62
  go_wp2
  go_loopw [1, 2, 3, 8, 9] (fun v1 v2 v3 v8 v9 wr => v1 = .int .i64 a ∧ v2 = .int .i64 b ∧ v3 = .int .i64 lim ∧ v8 = .bool true ∧ v9 = .bool true ∧ wr = w) (fun _ _ _ _ _ _ => 0)
  case atStart => exact ⟨rfl, rfl, rfl, rfl, rfl, rfl⟩
  case round =>
  obtain ⟨rfl, rfl, rfl, rfl, rfl, hw⟩ := hrel
  subst hw
  go_wp2_with fail
  refine q.out.mono ?_
  rintro e w1 ⟨rfl, s1⟩
  have S1 := Lib.hid s1
  clear s1 q
  go_wp2
  exact bodyPost_ret (results_none rfl _ _ _) rfl ⟨rfl, _, hP.out.1, hP.out.2, S1.out⟩
end Go.Proofs.YtpchncpcckfghaaGreat
namespace Go.Proofs.YtpchncpcckfghaaGreat
open Go.RowKit
set_option linter.unusedVariables false
set_option linter.unusedSimpArgs false
def FindU (l : List Int) (n : Nat) (g : Int) (i : Nat) : Prop := i ≤ n ∧ (∀ t, t < i → l.getD t 0 < g) ∧ ∀ t, i ≤ t → t < n → g ≤ l.getD t 0
theorem findU_mem {l : List Int} {n i : Nat} {g : Int} (hn : n = l.length) (hs : ∀ t j, t ≤ j → j < n → l.getD t 0 ≤ l.getD j 0) (h : FindU l n g i) : (decide (i < n) && decide (l.getD i 0 = g)) = decide (g ∈ l) := by
  obtain ⟨h1, h2, h3⟩ := h
  by_cases hm : g ∈ l
  · rw [decide_eq_true hm]
    obtain ⟨j, hj, e⟩ := List.getElem_of_mem hm
    have ej : l.getD j 0 = g := by simpa [List.getD, hj] using e
    have hij : i ≤ j := by
      by_cases c : j < i
      · have := h2 j c; omega
      · omega
    have hi : i < n := by omega
    rw [decide_eq_true hi, Bool.true_and, decide_eq_true_iff]
    have a1 := h3 i (Nat.le_refl _) hi
    have a2 := hs i j hij (by omega)
    omega
  · rw [decide_eq_false hm]
    by_cases hi : i < n
    · rw [decide_eq_true hi, Bool.true_and, decide_eq_false_iff_not]
      intro e
      exact hm (by rw [← e]; simp [List.getD, show i < l.length by omega])
    · rw [decide_eq_false hi]; rfl
set_option maxRecDepth 100000 in
set_option maxHeartbeats 4000000 in
theorem bs64_any (a : Option Addr) (n c : Nat) (l : List Int) (g : Int) (hn : n ≤ 4096) (hl : n = l.length) (hs : ∀ t j, t ≤ j → j < n → l.getD t 0 ≤ l.getD j 0) (w : World) (h : Sees .u64 w.heap.size w a l) :
    Calls Tryz.prog 38 #[.slice a n c, .int .u64 g] w fun e w' => (∃ i : Nat, e = .returned (.tuple #[.int .i64 i, .bool (decide (g ∈ l))])) ∧ w = w' := by
  have hlen := Lib.hid hl
  have RW := Lib.hid h
  have hq := Lib.hid (fun f W => uless_any f g W)
  have hz := Lib.hid (fun f W => snan64_any f W)
  have hso := Lib.hid (fun t j h1 h2 => hs t j h1 h2)
  have hfm := Lib.hid (fun i h => findU_mem (l := l) (i := i) (g := g) hl hs h)
  obtain ⟨E, hE⟩ : ∃ E, decide (g ∈ l) = E := ⟨_, rfl⟩
  rw [hE] at hfm ⊢
  clear h hs hl hE
  go_enter Tryz.func38, Tryz.ntmps38
  go_wp2
  go_loop [7, 8] (fun x y => ∃ i j : Nat, i ≤ j ∧ j ≤ n ∧ x = .int .i64 i ∧ y = .int .i64 j ∧ Hid (∀ t, t < i → l.getD t 0 < g) ∧ Hid (∀ t, j ≤ t → t < n → g ≤ l.getD t 0)) (fun x y => (intOf y).toNat - (intOf x).toNat)
  case atStart => exact ⟨0, n, by omega, by omega, rfl, rfl, Lib.hid (by intro t ht; omega), Lib.hid (by intro t h1 h2; omega)⟩
  case round =>
    obtain ⟨i, j, hij, hj, rfl, rfl, hlo, hhi⟩ := hrel
    by_cases hne : i < j
    · have hii : (i : Int) < (j : Int) := by omega
      obtain ⟨h, hh⟩ : ∃ h : Nat, h = (i + j) / 2 := ⟨_, rfl⟩
      have h1 : i ≤ h := by omega
      have h2 : h < j := by omega
      have hhi2 : ((i : Int) + (j : Int)) / 2 = (h : Int) := by omega
      have hkl : h < l.length := by rw [← hlen.out]; omega
      obtain ⟨b, off, rfl, hbl, x0⟩ : ∃ b off, a = some ⟨b, off, none⟩ ∧ b < w.heap.size ∧ w.cell? ⟨b, off + h, none⟩ = some (.int .u64 (l.getD h 0)) := by
        rcases RW.out with e | ⟨b, off, e, hb, hc⟩
        · rw [e] at hkl; simp at hkl
        · exact ⟨b, off, e, hb, hc h hkl⟩
      have hjn : (j : Int) ≤ 4096 := by omega
      have hin : (i : Int) ≤ 4096 := by omega
      have hhn : (h : Int) < (n : Int) := by omega
      have hhn2 : h < n := by omega
      clear hh
      have hq' := Lib.hid (fun W => hq.out (l.getD h 0) W)
      have hup : Hid (l.getD h 0 < g → ∀ t, t < h + 1 → l.getD t 0 < g) := Lib.hid (fun hh t ht => Int.lt_of_le_of_lt (hso.out t h (by omega) hhn2) hh)
      have hdn : Hid (¬ l.getD h 0 < g → ∀ t, h ≤ t → t < n → g ≤ l.getD t 0) := Lib.hid (fun hh t h0 ht => by
        have := hso.out h t h0 ht
        omega)
      clear hkl hq hso hfm
      generalize l.getD h 0 = f at *
      by_cases hneg : f < g
      · have hS := Lib.hid (hup.out hneg)
        rw [decide_eq_true hneg] at hq'
        clear hup hdn hneg
        go_wp2_with fail
        refine (hq'.out _).mono ?_
        rintro e w1 ⟨rfl, rfl⟩
        go_wp2
        go_round
        case rel => exact ⟨h + 1, j, by omega, by omega, by go_num, rfl, hS, hhi⟩
        case measure => simp [intOf]; omega
      · have hS := Lib.hid (hdn.out hneg)
        rw [decide_eq_false hneg] at hq'
        clear hup hdn hneg
        go_wp2_with fail
        refine (hq'.out _).mono ?_
        rintro e w1 ⟨rfl, rfl⟩
        go_wp2
        go_round
        case rel => exact ⟨i, h, by omega, by omega, by first | trivial | rfl, rfl, hlo, hS⟩
        case measure => simp [intOf]; omega
    · have hji : i = j := by omega
      subst hji
      have hii : ¬ (i : Int) < (i : Int) := by omega
      have hfin := Lib.hid (hfm.out i ⟨hj, hlo.out, hhi.out⟩)
      clear hlo hhi hso hfm hij hq
      by_cases hin : i < n
      · have hini : (i : Int) < (n : Int) := by omega
        have hkl : i < l.length := by rw [← hlen.out]; exact hin
        obtain ⟨b, off, rfl, hbl, x0⟩ : ∃ b off, a = some ⟨b, off, none⟩ ∧ b < w.heap.size ∧ w.cell? ⟨b, off + i, none⟩ = some (.int .u64 (l.getD i 0)) := by
          rcases RW.out with e | ⟨b, off, e, hb, hc⟩
          · rw [e] at hkl; simp at hkl
          · exact ⟨b, off, e, hb, hc i hkl⟩
        have hE := hfin.out
        rw [decide_eq_true hin, Bool.true_and] at hE
        clear hfin hkl
        generalize l.getD i 0 = f at *
        by_cases hy : f = g
        · have hyb : (f == g) = true := by simpa using hy
          rw [decide_eq_true hy] at hE
          subst hE
          clear hy
          go_wp2
          exact bodyPost_ret (results_tmp2 rfl _ _ _) rfl ⟨⟨i, rfl⟩, rfl⟩
        · have hyb : (f == g) = false := by simpa using hy
          rw [decide_eq_false hy] at hE
          subst hE
          clear hy
          go_wp2_with fail
          refine (hz.out _ _).mono ?_
          rintro e w1 ⟨rfl, rfl⟩
          go_wp2
          exact bodyPost_ret (results_tmp2 rfl _ _ _) rfl ⟨⟨i, rfl⟩, rfl⟩
      · have hini : ¬ (i : Int) < (n : Int) := by omega
        have hE := hfin.out
        rw [decide_eq_false hin, Bool.false_and] at hE
        subst hE
        go_wp2
        exact bodyPost_ret (results_tmp2 rfl _ _ _) rfl ⟨⟨i, rfl⟩, rfl⟩
end Go.Proofs.YtpchncpcckfghaaGreat
namespace Go.Proofs.YtpchncpcckfghaaGreat
open Go.RowKit Go.Shelf
set_option linter.unusedVariables false
set_option linter.unusedSimpArgs false
attribute [local go_sem] Oper.semAt_some
theorem take_next {zs : List Int} {k : Nat} (hk : k < zs.length) : zs.take (k + 1) = zs.take k ++ [zs[k]?.getD 0] := by
  rw [List.take_add_one, List.getElem?_eq_getElem hk]
  rfl
set_option maxRecDepth 100000 in
set_option maxHeartbeats 4000000 in
theorem vals1_any (F : Fence) (n : Nat) (hf : F.fn 56) (hro : F.round = none) (hn : 1 ≤ n) (l Bs n₀ len cap : Nat) (a : Option Addr) (zs : List Int) (hlen : len = zs.length) (hm : len ≤ 1000000) (J Jx : List Int → World → Prop)
    (hY : ∀ pre x W, J pre W → pre.length < len → YieldAt F (n - 1) Tryz.prog l #[.int .u64 x] W fun e W' =>
      (e = .returned (.bool true) ∧ J (pre ++ [x]) W' ∧ Below n₀ W W') ∨ (e = .returned (.bool false) ∧ Jx (pre ++ [x]) W'))
    (W : World) (hBs : W.cell? ⟨Bs, 0, none⟩ = some (.slice a len cap)) (hz : Sees .u64 n₀ W a zs) (h0 : J [] W) :
    CallsIn F n Tryz.prog 56 #[.func (.yield l) #[] #[], .pointer (some ⟨Bs, 0, none⟩)] W fun e W' => (∃ v, e = .returned v) ∧ ((∃ ys, ys = zs ∧ J ys W') ∨ (∃ pre, pre <+: zs ∧ Jx pre W')) := by
  refine callsIn_of_wp Tryz.func56 rfl hf ?_ hro
  simp only [Tryz.ntmps56, List.size_toArray, List.length_cons, List.length_nil, Nat.reduceAdd, Nat.reduceSub, Array.replicate_succ, Array.replicate_zero, List.push_toArray, List.append_toArray, List.nil_append, List.cons_append]
  gi_wp2
  gi_loopw [7] (fun i wr => ∃ k : Nat, k ≤ len ∧ i = .int .i64 k ∧ J (zs.take k) wr ∧ Below n₀ W wr) (fun i _ => len - (intOf i).toNat)
  case atStart => exact ⟨0, Nat.zero_le _, rfl, by simpa using h0, Below.refl _ _⟩
  case round =>
    obtain ⟨k, hk, rfl, hJs, hnx⟩ := hrel
    by_cases hlt : k < len
    · have hkz : k < zs.length := by omega
      obtain ⟨b, off, rfl, hb, x0⟩ : ∃ b off, a = some ⟨b, off, none⟩ ∧ b < n₀ ∧ W.cell? ⟨b, off + k, none⟩ = some (.int .u64 (zs[k]?.getD 0)) := by
        rcases hz with e | ⟨b, off, e, hb, hc⟩
        · rw [e] at hkz; simp at hkz
        · exact ⟨b, off, e, hb, hc k hkz⟩
      have hnext := take_next hkz
      obtain ⟨x, hx⟩ : ∃ x, zs[k]?.getD 0 = x := ⟨_, rfl⟩
      rw [hx] at x0 hnext
      clear hx
      obtain ⟨fn, tmps, assign, body, hy, hR⟩ := hY _ x wr hJs (by rw [List.length_take]; omega)
      have hcx : wr.cell? ⟨b, off + k, none⟩ = some (.int .u64 x) := (hnx.cell (p := ⟨b, off + k, none⟩) hb).trans x0
      have hpre : zs.take (k + 1) <+: zs := List.take_prefix _ _
      rw [hnext] at hpre
      clear hkz
      have hkn : (k : Int) < (len : Int) := by omega
      clear hz x0
      gi_wp2
      refine hR.mono ?_
      rintro e W3 (⟨rfl, hJ3, hk3⟩ | ⟨rfl, hJx3⟩)
      · gi_wp2
        go_roundw
        case rel => exact ⟨k + 1, by omega, by simp, by rw [hnext]; exact hJ3, hnx.trans hk3⟩
        case measure => simp [intOf]; omega
      · gi_wp2
        refine bodyPost_ret (results_none rfl _ _ _) rfl ?_
        exact ⟨⟨_, rfl⟩, .inr ⟨_, hpre, hJx3⟩⟩
    · obtain rfl : k = len := by omega
      gi_wp2
      go_end0
      exact ⟨⟨_, rfl⟩, .inl ⟨_, rfl, by rw [List.take_of_length_le (by omega)] at hJs; exact hJs⟩⟩
theorem infoU64b : (Tryz.prog.info? 36).map (fun i => (i.zero, i.size, i.bytes)) = some (some (.int .u64 0), 1, 8) := by kernel_rfl
set_option maxRecDepth 100000 in
set_option maxHeartbeats 8000000 in
theorem appseq_any (Bs len cap : Nat) (a : Option Addr) (zs : List Int) (hlen : len = zs.length) (hm : len ≤ 1000000) (w : World) (hBs : w.cell? ⟨Bs, 0, none⟩ = some (.slice a len cap)) (hBl : Bs < w.heap.size) (hz : Sees .u64 w.heap.size w a zs) :
    Calls Tryz.prog 79 #[.slice none 0 0, .func (.func 56) #[] #[.pointer (some ⟨Bs, 0, none⟩)]] w (Made 36 .u64 w zs) := by
  refine (callsIn_wide (n := 4)).1 ?_
  obtain ⟨i0, hi, hz0, hz1, hz2⟩ := info_parts infoU64b
  have hml : zs.length ≤ 1000000 := by omega
  refine callsIn_of_wp_marks Tryz.func79 rfl trivial ?_ rfl
  simp only [Tryz.ntmps79, List.size_toArray, List.length_cons, List.length_nil, Nat.reduceAdd, Nat.reduceSub, Array.replicate_succ, Array.replicate_zero, List.push_toArray, List.append_toArray, List.nil_append, List.cons_append]
  gi_wp2
  have bO := Boxed.new w 55 (.slice none 0 0)
  have hB0 : Below w.heap.size w (w.alloc (.cells #[.slice none 0 0] 55)) := (Below.refl _ w).alloc (Nat.le_refl _) _
  have hstops : SeqStopsK Fence.wide (4 - 1) Tryz.prog 56 #[.pointer (some ⟨Bs, 0, none⟩)] (fun x : Int => #[Value.int .u64 x]) (Below w.heap.size) (fun ys => ys = zs) (fun pre => pre <+: zs) zs.length (w.alloc (.cells #[.slice none 0 0] 55)) := fun l J Jx W hW _ _ hY h0 =>
    vals1_any Fence.wide (4 - 1) trivial rfl (by omega) l Bs w.heap.size len cap a zs hlen hm J Jx (by rw [hlen]; exact hY) W ((hW.cell (p := ⟨Bs, 0, none⟩) (by simp; omega)).trans ((hB0.cell (p := ⟨Bs, 0, none⟩) hBl).trans hBs)) ((hz.below hB0).below (hW.mono (by simp))) h0
  refine wpIn_rangeFunc_ownG (F := Fence.wide) rfl (by omega) (gf := 56) (lb := #[.pointer (some ⟨Bs, 0, none⟩)]) rfl trivial (enters_of Tryz.func56 (by kernel_rfl) rfl)
    hstops belowK_t (belowK_b (by simp)) (Below.refl _ _) (fun _ => rfl)
    (fun pre W => (∃ v, Boxed W w.heap.size 55 v ∧ W.ownsRow w.heap.size 36 1 v pre.length (pre.map (Value.int .u64)) ∧ True) ∧ Below w.heap.size w W)
    (fun _ _ _ => False)
    (OwnFrom.and (Own.from (holdsRow_own w.heap.size w.heap.size 55 36 1 (fun pre : List Int => pre.length) (fun pre : List Int => pre.map (Value.int .u64)) (fun (pre : List Int) v => True)) _) (ownFrom_below (Nat.le_refl _) (by simp)))
    (fun _ _ _ _ _ hs _ _ => hs)
    ⟨⟨_, bO, World.ownsRow_nil _ _ _ _, trivial⟩, hB0⟩
    (fun x => { tmps := #[.slice none 0 0, .func (.func 56) #[] #[.pointer (some ⟨Bs, 0, none⟩)], .pointer (some ⟨w.heap.size, 0, none⟩), undef, .slice none 0 0, .int .u64 x, .func (.func 56) #[] #[.pointer (some ⟨Bs, 0, none⟩)], .int .u64 x, undef, undef, undef, undef, undef], defers := [] }) ?assign ?body ?done ?stop
  case assign =>
    intro l x W K hK
    gi_wp2
    exact hK
  case body =>
    rintro l pre x W ⟨⟨v, hv, hrow, -⟩, hB⟩ hlt
    have hc := hv.cell
    gi_wp2_with (gi_at_builtin; refine wpListIn_append_own _ rfl _ _ 55 rfl w.heap.size 36 i0 (.int .u64 0) 1 8 Tryz.underlying55 hi hz0 hz1 hz2 rfl (by decide) _ _ _ rfl (hrow.alloc _) ⟨W.heap.size, 0, none⟩ 1 1 [.int .u64 x] rfl rfl (cell_one_new _ _ _) (by simp [Value.oneCell']) (by simp [maxLen]; omega) (by omega) (by have := hB.size; simp; omega) ?_; intro v' w1 hown' hgrow _; obtain ⟨g', cap', rfl⟩ := ownsRow_succ hown'; obtain ⟨hv1, hv2, hr2, hk2, hb2⟩ := hv.appended (by decide) hrow hB.size (Nat.le_refl _) hown' hgrow; have hc1 := hv1.cell; have hf1 := hv1.frozen)
    exact ⟨hk2.from _, hb2, ⟨_, hv2, by simpa using hr2, trivial⟩, hB.trans hb2⟩
  case done =>
    rintro D ys W hD rfl ⟨⟨v, hv, hrow, -⟩, hB⟩ hK
    have hc := hv.cell
    gi_wp2
    refine ⟨by simp, .inl ⟨_, _, rfl, run_takeDeferred hK, ?_⟩⟩
    exact ⟨_, results_tmp rfl _ _ _, v, rfl, ownsRow_putObj hrow _ hK rfl, hB.trans (belowK_b (w := w) (Nat.le_refl _) W D _ _ (by simp at hD; omega) hK rfl rfl)⟩
  case stop =>
    rintro D c pre W _ _ h _
    exact h.elim
end Go.Proofs.YtpchncpcckfghaaGreat
namespace Go.Proofs.YtpchncpcckfghaaGreat
open Go.RowKit
set_option linter.unusedVariables false
set_option linter.unusedSimpArgs false
theorem values64_any (a : Option Addr) (n c : Nat) (w : World) : Calls Tryz.prog 32 #[.slice a n c] w fun e w' => e = .returned (.func (.func 56) #[] #[.pointer (some ⟨w.heap.size, 0, none⟩)]) ∧ w' = w.alloc (.cells #[.slice a n c] 55) := by
  go_enter Tryz.func32, Tryz.ntmps32
  go_wp2
  go_ret
  exact ⟨rfl, rfl⟩
theorem collect64_any (Bs len cap : Nat) (a : Option Addr) (zs : List Int) (hlen : len = zs.length) (hm : len ≤ 1000000) (w : World) (hBs : w.cell? ⟨Bs, 0, none⟩ = some (.slice a len cap)) (hBl : Bs < w.heap.size) (hz : Sees .u64 w.heap.size w a zs) :
    Calls Tryz.prog 55 #[.func (.func 56) #[] #[.pointer (some ⟨Bs, 0, none⟩)]] w (Made 36 .u64 w zs) := by
  have q := Lib.hid (appseq_any Bs len cap a zs hlen hm w hBs hBl hz)
  clear hBs hz
  go_enter Tryz.func55, Tryz.ntmps55
  go_wp2_with fail
  refine q.out.mono ?_
  rintro e w1 ⟨v, rfl, ho, hb⟩
  have O := Lib.hid ho
  have B := Lib.hid hb
  clear ho hb
  go_wp2
  go_ret
  exact ⟨v, rfl, O.out, B.out⟩
end Go.Proofs.YtpchncpcckfghaaGreat
namespace Go.Proofs.YtpchncpcckfghaaGreat
open Go.RowKit Go.Sort
set_option linter.unusedVariables false
set_option linter.unusedSimpArgs false
theorem su_heap {w W : World} {g : Nat} {d : Array Int} {cur : Array Value} {e : TypeId} (hb : w.heap[g]? = some (.cells cur e (0, 0))) (h : SU w g 0 d W) : W.heap[g]? = some (.cells (putCells encU 0 d cur) e (0, 0)) ∧ w.grownBy W (some g) := by
  obtain ⟨n, os, rfl⟩ := h
  have hg : g < w.heap.size := (Array.getElem?_eq_some_iff.1 hb).1
  unfold sortWorld
  refine ⟨?_, rfl, rfl, rfl, by simp, fun k hk hne => ?_⟩
  · rw [heap_grow_old _ _ (by simpa using hg)]
    simp [putRow, mapBlock, Sort.ahead, Array.getElem?_modify, hb, onCells]
  · rw [heap_grow_old _ _ (by simpa using hk)]
    have : g ≠ k := fun e => hne (by rw [e])
    simp [putRow, mapBlock, Sort.ahead, Array.getElem?_modify, this]
theorem su_take (cur : Array Value) (ts : List Int) (h : ts.length ≤ cur.size) : (putCells encU 0 ts.toArray cur).toList.take ts.length = ts.map encU := by
  apply List.ext_getElem?
  intro j
  by_cases hj : j < ts.length
  · rw [List.getElem?_take_of_lt hj, Array.getElem?_toList]
    simp [putCells, hj, show j < cur.size by omega]
  · rw [List.getElem?_take_eq_none (by omega), List.getElem?_eq_none (by simp; omega)]
theorem su_holds {w : World} {g : Nat} {cur : Array Value} {e : TypeId} {l : List Int} (hb : w.heap[g]? = some (.cells cur e (0, 0))) (ht : cur.toList.take l.length = l.map encU) : Go.Sort.Holds encU w g 0 l.toArray := by
  intro j hj
  have hj' : j < l.length := by simpa using hj
  refine ⟨?_, by simp [World.frozen?, hb]⟩
  have h1 : (cur.toList.take l.length)[j]? = (l.map encU)[j]? := by rw [ht]
  rw [List.getElem?_take_of_lt hj'] at h1
  simp only [World.cell?, hb, Nat.zero_add]
  simp only [Option.isSome_none, Bool.false_eq_true, if_false]
  rw [← Array.getElem?_toList, h1]
  simp [hj']
def PdqOK (n : Nat) : Prop := ∀ (blk cap : Nat) (d : Array Int) (w : World), d.size = n → blk < w.heap.size → Go.Sort.Holds encU w blk 0 d →
  Calls Tryz.prog 62 #[.slice (some ⟨blk, 0, none⟩) n cap, .int .i64 0, .int .i64 n, .int .i64 (Lib.bitLen n)] w fun e w' => e = .returned (.tuple #[]) ∧ ∃ d', PermIn 0 n d d' ∧ SortedIn ltInt 0 n d' ∧ SU w blk 0 d' w'
theorem oneU : OneCell encU := fun _ => rfl
theorem pdqOK_small {n : Nat} (hn : n ≤ 12) : PdqOK n := fun blk cap d w hs hb hh => by
  subst hs
  exact updq_small blk 0 cap 0 d.size _ d d w w ⟨oneU, hh, hb⟩ rfl (SW.start hh) (Nat.zero_le _) (Nat.le_refl _) (by omega) (by omega)
def upL (l : List Int) : Prop := ∀ t j, t ≤ j → j < l.length → l.getD t 0 ≤ l.getD j 0
theorem up_nil : upL [] := fun t j _ h => by simp at h
theorem up_sorted {d d' : Array Int} {n : Nat} (hn : d.size = n) (hp : PermIn 0 n d d') (hs : SortedIn ltInt 0 n d') : upL d'.toList ∧ d'.toList.Perm d.toList ∧ d'.toList.length = n := by
  have h1 : d'.size = n := by rw [hp.1, hn]
  refine ⟨?_, ?_, by simpa using h1⟩
  · intro t j htj hj
    have hjn : j < d'.size := by simpa using hj
    have e : ∀ q, q < d'.size → d'.toList.getD q 0 = d'[q]! := fun q hq => by
      rw [getElem!_pos d' q hq]
      simp [List.getD, hq]
    by_cases he : t = j
    · subst he; exact Int.le_refl _
    · have := hs t j (Nat.zero_le _) (by omega) (by omega)
      rw [e t (by omega), e j hjn]
      simp [ltInt] at this
      omega
  · have := hp.2.2
    rw [← hn] at this
    rw [Array.extract_eq_self_of_le (by rw [hp.1]; omega), Array.extract_eq_self_of_le (Nat.le_refl _)] at this
    exact this
def SortE (base : Nat) (w : World) (v : Value) (n : Nat) (l : List Int) (e : Ending) (w' : World) : Prop := e = .returned (.tuple #[]) ∧ ∃ l', upL l' ∧ l'.Perm l ∧ w'.ownsRow base 36 1 v n (nums .u64 l') ∧ Below base w w'
set_option maxRecDepth 1000000 in
set_option maxHeartbeats 4000000 in
theorem usort_some (base g n c : Nat) (l : List Int) (hn : n = l.length) (hm : n ≤ 1000000) (hP : PdqOK n) (w : World) (ho : w.ownsRow base 36 1 (.slice (some ⟨g, 0, none⟩) n c) n (nums .u64 l)) :
    Calls Tryz.prog 45 #[.slice (some ⟨g, 0, none⟩) n c] w (SortE base w (.slice (some ⟨g, 0, none⟩) n c) n l) := by
  obtain ⟨hl, hr⟩ := ho
  rcases hr with ⟨he, _⟩ | ⟨g', cap, cur, he, hbg, hgg, hnc, hcm, hcs, htake⟩
  · injection he with he; cases he
  · injection he with h1 h2 h3
    injection h1 with h1
    injection h1 with h1
    subst h1 h3
    rw [Nat.mul_one] at htake
    have ht2 : cur.toList.take l.length = l.map encU := by rw [← hn]; exact htake
    have hH := su_holds hgg ht2
    have hgl : g < w.heap.size := (Array.getElem?_eq_some_iff.1 hgg).1
    have q := Lib.hid ((hP g c l.toArray w (by simpa using hn.symm) hgl hH).mono (R' := SortE base w (.slice (some ⟨g, 0, none⟩) n c) n l) fun e w' ⟨he, d', hp, hso, hS⟩ => by
      obtain ⟨u1, u2, u3⟩ := up_sorted (n := n) (by simpa using hn.symm) hp hso
      obtain ⟨k1, k2⟩ := su_heap hgg hS
      refine ⟨he, d'.toList, u1, by simpa using u2, ⟨by rw [Nat.mul_one]; simpa [nums] using u3, .inr ⟨g, c, _, rfl, hbg, k1, hnc, hcm, by simpa [putCells] using hcs, ?_⟩⟩, (Below.refl _ _).grown k2 (by have := hgl; omega) (fun k hk => by injection hk with hk; omega)⟩
      have := su_take cur d'.toList (by rw [u3]; omega)
      rw [Array.toArray_toList] at this
      rw [Nat.mul_one, ← u3]
      exact this)
    have hb := Lib.hid (fun W => Tryz.bits_Len (n : Int) W (by omega) (by omega))
    have hmz : (n : Int) ≤ 1000000 := by omega
    clear hl hgg htake ht2 hH hP hn
    go_enter Tryz.func45, Tryz.ntmps45
    go_wp2_with fail
    refine (hb.out _).mono ?_
    rintro e w1 ⟨rfl, rfl⟩
    go_wp2_with fail
    refine q.out.mono ?_
    rintro e w2 ⟨rfl, s2⟩
    have S2 := Lib.hid s2
    clear s2 q
    go_wp2
    exact bodyPost_ret (results_none rfl _ _ _) rfl ⟨rfl, S2.out⟩
end Go.Proofs.YtpchncpcckfghaaGreat
namespace Go.Proofs.YtpchncpcckfghaaGreat
open Go.RowKit Go.Sort
set_option linter.unusedVariables false
set_option linter.unusedSimpArgs false
set_option maxRecDepth 1000000 in
set_option maxHeartbeats 4000000 in
theorem uins_nil (w : World) : Calls Tryz.prog 81 #[.slice none 0 0, .int .i64 0, .int .i64 0] w fun e w' => e = .returned (.tuple #[]) ∧ w = w' := by
  go_enter Tryz.func81, Tryz.ntmps81
  go_wp2
  go_loopw [6] (fun vi wr => vi = .int .i64 1 ∧ wr = w) (fun _ _ => 0)
  case atStart => exact ⟨rfl, rfl⟩
  case round =>
    obtain ⟨rfl, rfl⟩ := hrel
    go_wp2
    go_end0
    exact ⟨rfl, rfl⟩
set_option maxRecDepth 1000000 in
set_option maxHeartbeats 4000000 in
theorem updq_nil (lim : Int) (w : World) : Calls Tryz.prog 62 #[.slice none 0 0, .int .i64 0, .int .i64 0, .int .i64 lim] w fun e w' => e = .returned (.tuple #[]) ∧ w = w' := by
  have q := Lib.hid (fun W => uins_nil W)
  go_enter Tryz.func62, Tryz.ntmps62
  go_wp2
  go_loopw [1, 2, 3, 8, 9] (fun v1 v2 v3 v8 v9 wr => v1 = .int .i64 0 ∧ v2 = .int .i64 0 ∧ v3 = .int .i64 lim ∧ v8 = .bool true ∧ v9 = .bool true ∧ wr = w) (fun _ _ _ _ _ _ => 0)
  case atStart => exact ⟨rfl, rfl, rfl, rfl, rfl, rfl⟩
  case round =>
  obtain ⟨rfl, rfl, rfl, rfl, rfl, hw⟩ := hrel
  subst hw
  go_wp2_with fail
  refine (q.out _).mono ?_
  rintro e w1 ⟨rfl, rfl⟩
  go_wp2
  exact bodyPost_ret (results_none rfl _ _ _) rfl ⟨rfl, rfl⟩
set_option maxRecDepth 1000000 in
set_option maxHeartbeats 4000000 in
theorem usort_nil (w : World) : Calls Tryz.prog 45 #[.slice none 0 0] w fun e w' => e = .returned (.tuple #[]) ∧ w = w' := by
  have hb := Lib.hid (fun W => Tryz.bits_Len (0 : Int) W (by omega) (by omega))
  have q := Lib.hid (fun lim W => updq_nil lim W)
  go_enter Tryz.func45, Tryz.ntmps45
  go_wp2_with fail
  refine (hb.out _).mono ?_
  rintro e w1 ⟨rfl, rfl⟩
  go_wp2_with fail
  refine (q.out _ _).mono ?_
  rintro e w2 ⟨rfl, rfl⟩
  go_wp2
  first | exact bodyPost_ret (results_none rfl _ _ _) rfl ⟨rfl, rfl⟩ | (go_end0; exact ⟨rfl, rfl⟩)
theorem usort_any (base n : Nat) (v : Value) (l : List Int) (hn : n = l.length) (hm : n ≤ 1000000) (hP : PdqOK n) (w : World) (ho : w.ownsRow base 36 1 v n (nums .u64 l)) :
    Calls Tryz.prog 45 #[v] w (SortE base w v n l) := by
  rcases ho.2 with ⟨rfl, h0⟩ | ⟨g, c, cur, rfl, -⟩
  · subst h0
    have hl : l = [] := List.eq_nil_of_length_eq_zero hn.symm
    subst hl
    exact (usort_nil w).mono fun e w' ⟨he, hw⟩ => ⟨he, [], up_nil, List.Perm.refl _, by rw [← hw]; exact ho, by rw [← hw]; exact Below.refl _ _⟩
  · exact usort_some base g n c l hn hm hP w ho
def SortedE (w : World) (l : List Int) (e : Ending) (w' : World) : Prop := ∃ v l', e = .returned v ∧ upL l' ∧ l'.Perm l ∧ w'.ownsRow w.heap.size 36 1 v l.length (nums .u64 l') ∧ Below w.heap.size w w'
set_option maxRecDepth 1000000 in
set_option maxHeartbeats 4000000 in
theorem sorted_any (Bs len cap : Nat) (a : Option Addr) (zs : List Int) (hlen : len = zs.length) (hm : len ≤ 1000000) (hP : PdqOK len) (w : World) (hBs : w.cell? ⟨Bs, 0, none⟩ = some (.slice a len cap)) (hBl : Bs < w.heap.size) (hz : Sees .u64 w.heap.size w a zs) :
    Calls Tryz.prog 31 #[.func (.func 56) #[] #[.pointer (some ⟨Bs, 0, none⟩)]] w (SortedE w zs) := by
  have q := Lib.hid (collect64_any Bs len cap a zs hlen hm w hBs hBl hz)
  have qs := Lib.hid (fun v W ho => usort_any w.heap.size len v zs hlen hm hP W ho)
  rw [hlen] at qs
  clear hBs hz hP
  go_enter Tryz.func31, Tryz.ntmps31
  go_wp2_with fail
  refine q.out.mono ?_
  rintro e w1 ⟨v, rfl, ho, hb⟩
  have Q := Lib.hid (qs.out v w1 ho)
  have B := Lib.hid hb
  clear ho hb qs q
  go_wp2_with fail
  refine Q.out.mono ?_
  rintro e w2 ⟨rfl, l', h1, h2, h3, h4⟩
  have H := Lib.hid (And.intro h1 (And.intro h2 (And.intro h3 (B.out.trans h4))))
  clear h1 h2 h3 h4 Q B
  go_wp2
  exact bodyPost_ret (results_tmp rfl _ _ _) rfl ⟨v, l', rfl, H.out⟩
end Go.Proofs.YtpchncpcckfghaaGreat
