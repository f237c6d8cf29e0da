/-
  Words and walks under the law's proof.
-/
import Derived.Laws.ResultCell
import Derived.Test.YtimgocfkogebmaaGreatDoorQR01
namespace Go.Proofs.YtimgocfkogebmaaGreatDoor
open Go.RowKit
set_option linter.unusedVariables false
set_option linter.unusedSimpArgs false
theorem own_at {w : World} {base : Nat} {e : TypeId} {n m c g : Nat} {l : List Int} (h : w.ownsRow base e 1 (.slice (some ⟨g, 0, none⟩) m c) n (nums .i64 l)) {i : Nat} (hi : i < l.length) : w.cell? ⟨g, i, none⟩ = some (.int .i64 (l.getD i 0)) := by
  have := h.cells (g := g) rfl i (.int .i64 (l.getD i 0)) (by simp [nums, List.getD, hi])
  have e : (⟨g, 0, none⟩ : Addr).add i = ⟨g, i, none⟩ := by unfold Addr.add; split <;> simp_all
  rwa [e] at this
theorem own_put {w : World} {base : Nat} {e : TypeId} {m c g : Nat} {l : List Int} (h : w.ownsRow base e 1 (.slice (some ⟨g, 0, none⟩) m c) m (nums .i64 l)) (i : Nat) (x : Int) : (w.setCell ⟨g, i, none⟩ (.int .i64 x)).ownsRow base e 1 (.slice (some ⟨g, 0, none⟩) m c) m (nums .i64 (l.set i x)) := by
  have := (h.stored i (.int .i64 x)).1
  rwa [show (nums .i64 l).set i (.int .i64 x) = nums .i64 (l.set i x) by simp [nums]] at this
theorem thr_step {n k : Nat} (d : List Int) {i j : Nat} (hi : i ≤ n) (hj : j ≤ n) : thr n k d (i * (n + 1) + (j + 1)) = (thr n k d (i * (n + 1) + j)).set (i * (n + 1) + j) (min ((thr n k d (i * (n + 1) + j)).getD (i * (n + 1) + j) 0) ((thr n k d (i * (n + 1) + j)).getD (i * (n + 1) + k) 0 + (thr n k d (i * (n + 1) + j)).getD (k * (n + 1) + j) 0)) := by
  rw [← Nat.add_assoc]
  simp only [thr]
  rw [place_div hj, place_mod hj]
  rfl
theorem wraps_at {n i j p q : Nat} (hn : n ≤ 8) (hi : i ≤ n) (hj : j ≤ n) (hp : p = i * (n + 1)) (hq : q = p + j) : IntKind.i64.wrap ((i : Int) * ((n : Int) + 1)) = (p : Int) ∧ IntKind.i64.wrap ((p : Int) + (j : Int)) = (q : Int) ∧ q < sz n := by
  obtain ⟨p', q', h1, h2, h3, h4, h5, h6, h7, h8⟩ := place_wraps hn hi hj
  have : p' = p := by
    have : ((i * (n + 1) : Nat) : Int) = (p' : Int) := by rw [← h7, Int.natCast_mul]; rfl
    omega
  subst this
  have : q' = q := by omega
  subst this
  exact ⟨h2, h3, h5⟩
def ThrS (n k g cap base : Nat) (d : List Int) (w : World) (e : Ending) (w' : World) : Prop :=
  e = .returned (.tuple #[]) ∧ w'.ownsRow base 3 1 (.slice (some ⟨g, 0, none⟩) (sz n) cap) (sz n) (nums .i64 (thrAll n k d)) ∧ BelowE [g] w.heap.size w w'
set_option maxRecDepth 100000 in
set_option maxHeartbeats 4000000 in
theorem through_any (n k : Nat) (hn : n ≤ 8) (hk : k ≤ n) (g cap base : Nat) (d : List Int) (hd : d.length = sz n) (w : World)
    (hown : w.ownsRow base 3 1 (.slice (some ⟨g, 0, none⟩) (sz n) cap) (sz n) (nums .i64 d))
    (hbnd : ∀ t, t ≤ sz n → ∀ p, -2305843009213693952 ≤ (thr n k d t).getD p 0 ∧ (thr n k d t).getD p 0 ≤ 2305843009213693951) :
    Calls Tryz.prog 170 #[.slice (some ⟨g, 0, none⟩) (sz n) cap, .int .i64 n, .int .i64 k, .func (.func 171) #[] #[]] w (ThrS n k g cap base d w) := by
  have hs81 := sz_le hn
  have hsn : Hid (sz n = (n + 1) * (n + 1)) := Lib.hid rfl
  have hni : (n : Int) ≤ 8 := by omega
  have hki : (k : Int) ≤ 8 := by omega
  have hw1 : IntKind.i64.wrap ((n : Int) + 1) = (n : Int) + 1 := wrap_small (by omega) (by omega)
  have hd' := Lib.hid hd
  have hbnd' := Lib.hid hbnd
  have hown0 := Lib.hid hown
  obtain ⟨s, hs⟩ : ∃ s, s = sz n := ⟨_, rfl⟩
  have hs' := Lib.hid hs
  clear hown hbnd hd
  rw [← hs] at hown0 hs81 ⊢
  have hsi : (s : Int) ≤ 81 := by omega
  unfold ThrS
  rw [← hs]
  clear hs
  go_enter Tryz.func170, Tryz.ntmps170
  go_wp2
  go_loopw [13] (fun x wr => ∃ i : Nat, i ≤ n + 1 ∧ x = .int .i64 i ∧ Hid (wr.ownsRow base 3 1 (.slice (some ⟨g, 0, none⟩) s cap) s (nums .i64 (thr n k d (i * (n + 1))))) ∧ Hid (BelowE [g] w.heap.size w wr)) (fun x _ => n + 1 - (intOf x).toNat)
  case atStart => exact ⟨0, by omega, rfl, Lib.hid (by simpa [thr] using hown0.out), Lib.hid (BelowE.refl _ _ _)⟩
  case round =>
    obtain ⟨i, hin, rfl, hown, hb⟩ := hrel
    by_cases hlt : i < n + 1
    · have hii : (i : Int) < (n : Int) + 1 := by omega
      go_wp2
      go_loopw [18] (fun x wr => ∃ j : Nat, j ≤ n + 1 ∧ x = .int .i64 j ∧ Hid (wr.ownsRow base 3 1 (.slice (some ⟨g, 0, none⟩) s cap) s (nums .i64 (thr n k d (i * (n + 1) + j)))) ∧ Hid (BelowE [g] w.heap.size w wr)) (fun x _ => n + 1 - (intOf x).toNat)
      case atStart => exact ⟨0, by omega, rfl, hown, hb⟩
      case round =>
        clear hown hb
        obtain ⟨j, hjn, rfl, hown, hb⟩ := hrel
        by_cases hjt : j < n + 1
        · have hji : (j : Int) < (n : Int) + 1 := by omega
          obtain ⟨p, hp⟩ : ∃ p, p = i * (n + 1) := ⟨_, rfl⟩
          obtain ⟨pk, hpk⟩ : ∃ p, p = k * (n + 1) := ⟨_, rfl⟩
          obtain ⟨q, hq⟩ : ∃ q, q = p + j := ⟨_, rfl⟩
          obtain ⟨qi, hqi⟩ : ∃ q, q = p + k := ⟨_, rfl⟩
          obtain ⟨qk, hqk⟩ : ∃ q, q = pk + j := ⟨_, rfl⟩
          obtain ⟨a1, a2, a3⟩ := wraps_at hn (show i ≤ n by omega) (show j ≤ n by omega) hp hq
          obtain ⟨-, b2, b3⟩ := wraps_at hn (show i ≤ n by omega) hk hp hqi
          obtain ⟨c1, c2, c3⟩ := wraps_at hn hk (show j ≤ n by omega) hpk hqk
          have hst : Hid (thr n k d (p + (j + 1)) = (thr n k d q).set q (min ((thr n k d q).getD q 0) ((thr n k d q).getD qi 0 + (thr n k d q).getD qk 0))) := Lib.hid (by
            rw [hq, hqi, hqk, hp, hpk]; exact thr_step d (by omega) (by omega))
          have hown1 := hown.out
          rw [← hp, ← hq] at hown1
          rw [← hs'.out] at a3 b3 c3
          have hb1 := hbnd'.out q (by rw [← hs'.out]; omega)
          have hel : (thr n k d q).length = s := by rw [thr_len, hd'.out, hs'.out]
          have hown2 := Lib.hid hown1
          generalize thr n k d q = E at *
          have m0 := own_at hown1 (i := q) (by omega)
          have m1 := own_at hown1 (i := qi) (by omega)
          have m2 := own_at hown1 (i := qk) (by omega)
          have mf := hown1.frozenAt q
          have r1 := hb1 qi
          have r2 := hb1 qk
          have i1 : (q : Int) < (s : Int) := by omega
          have i2 : (qi : Int) < (s : Int) := by omega
          have i3 : (qk : Int) < (s : Int) := by omega
          have hb' := Lib.hid hb.out
          have hp' := Lib.hid hp
          clear hown hown1 hb1 hel hq hqi hqk hpk hb hp a3 b3 c3
          generalize E.getD q 0 = x0 at *
          generalize E.getD qi 0 = x1 at *
          generalize E.getD qk 0 = x2 at *
          have hsum := Lib.hid (fun W => zsum_any x1 x2 (by omega) (by omega) (by omega) (by omega) W)
          have hnx : Hid ((wr.setCell ⟨g, q, none⟩ (.int .i64 (if x1 + x2 < x0 then x1 + x2 else x0))).drew.ownsRow base 3 1 (.slice (some ⟨g, 0, none⟩) s cap) s (nums .i64 (thr n k d (i * (n + 1) + (j + 1))))) := Lib.hid (by
            rw [ite_min, ← hp'.out, hst.out]
            exact own_put hown2.out q _)
          have hbx : Hid (BelowE [g] w.heap.size w (wr.setCell ⟨g, q, none⟩ (.int .i64 (if x1 + x2 < x0 then x1 + x2 else x0))).drew) := Lib.hid ((hb'.out.setIn (p := ⟨g, q, none⟩) (by simp) _).drew)
          clear r1 r2 hst hown2 hb' hp' hown0 hbnd' hd' hs'
          go_wp2
          refine wp_drawn_on (fun _ => True) (by kernel_rfl) (trivial) (fun hHeld => ?_)
          refine wpAnyH_take (i := 0) (oi := { dst := some 27, op := Go.Op.move (Go.Operand.tmp 0), type := 49, pos := "dbm.go:77", after := #[], guard := none }) (v := ?v1) rfl (by kernel_rfl) (by kernel_rfl) (by kernel_rfl) (fun _ _ _ h => h) (Or.inl ⟨by kernel_rfl, ?h1⟩) (by assumption) ?r1
          case h1 => (intro w hSw; (try dsimp only at hSw); go_simp; try with_reducible rfl)
          try simp only [Act.put, List.setIfInBounds_toArray, List.set_cons_zero, List.set_cons_succ]
          refine wpAnyH_take (i := 1) (oi := { dst := some 28, op := Go.Op.move (Go.Operand.tmp 10), type := 3, pos := "dbm.go:77", after := #[], guard := none }) (v := ?v2) rfl (by kernel_rfl) (by kernel_rfl) (by kernel_rfl) (fun _ _ _ h => h) (Or.inl ⟨by kernel_rfl, ?h2⟩) (by assumption) ?r2
          case h2 => (intro w hSw; (try dsimp only at hSw); go_simp; try with_reducible rfl)
          try simp only [Act.put, List.setIfInBounds_toArray, List.set_cons_zero, List.set_cons_succ]
          refine wpAnyH_take (i := 2) (oi := { dst := some 29, op := Go.Op.move (Go.Operand.tmp 0), type := 49, pos := "dbm.go:77", after := #[], guard := none }) (v := ?v3) rfl (by kernel_rfl) (by kernel_rfl) (by kernel_rfl) (fun _ _ _ h => h) (Or.inl ⟨by kernel_rfl, ?h3⟩) (by assumption) ?r3
          case h3 => (intro w hSw; (try dsimp only at hSw); go_simp; try with_reducible rfl)
          try simp only [Act.put, List.setIfInBounds_toArray, List.set_cons_zero, List.set_cons_succ]
          refine wpAnyH_take (i := 3) (oi := { dst := some 30, op := Go.Op.move (Go.Operand.tmp 10), type := 3, pos := "dbm.go:77", after := #[], guard := none }) (v := ?v4) rfl (by kernel_rfl) (by kernel_rfl) (by kernel_rfl) (fun _ _ _ h => h) (Or.inl ⟨by kernel_rfl, ?h4⟩) (by assumption) ?r4
          case h4 => (intro w hSw; (try dsimp only at hSw); go_simp; try with_reducible rfl)
          try simp only [Act.put, List.setIfInBounds_toArray, List.set_cons_zero, List.set_cons_succ]
          refine wpAnyH_take (i := 4) (oi := { dst := some 31, op := Go.Op.indexAddr 49 (Go.Operand.tmp 29) (Go.Operand.tmp 30), type := 0, pos := "dbm.go:77", after := #[{ on := 2, ground := Go.Ground.data }, { on := 3, ground := Go.Ground.data }], guard := none }) (v := ?v5) rfl (by kernel_rfl) (by kernel_rfl) (by kernel_rfl) (fun _ _ _ h => h) (Or.inl ⟨by kernel_rfl, ?h5⟩) (by assumption) ?r5
          case h5 => (intro w hSw; (try dsimp only at hSw); go_simp; try with_reducible rfl)
          try simp only [Act.put, List.setIfInBounds_toArray, List.set_cons_zero, List.set_cons_succ]
          refine wpAnyH_take (i := 6) (oi := { dst := some 33, op := Go.Op.move (Go.Operand.tmp 3), type := 70, pos := "dbm.go:77", after := #[], guard := none }) (v := ?v6) rfl (by kernel_rfl) (by kernel_rfl) (by kernel_rfl) (fun _ _ _ h => h) (Or.inl ⟨by kernel_rfl, ?h6⟩) (by assumption) ?r6
          case h6 => (intro w hSw; (try dsimp only at hSw); go_simp; try with_reducible rfl)
          try simp only [Act.put, List.setIfInBounds_toArray, List.set_cons_zero, List.set_cons_succ]
          refine wpAnyH_take (i := 7) (oi := { dst := some 34, op := Go.Op.move (Go.Operand.tmp 0), type := 49, pos := "dbm.go:77", after := #[], guard := none }) (v := ?v7) rfl (by kernel_rfl) (by kernel_rfl) (by kernel_rfl) (fun _ _ _ h => h) (Or.inl ⟨by kernel_rfl, ?h7⟩) (by assumption) ?r7
          case h7 => (intro w hSw; (try dsimp only at hSw); go_simp; try with_reducible rfl)
          try simp only [Act.put, List.setIfInBounds_toArray, List.set_cons_zero, List.set_cons_succ]
          refine wpAnyH_take (i := 8) (oi := { dst := some 35, op := Go.Op.move (Go.Operand.tmp 8), type := 3, pos := "dbm.go:77", after := #[], guard := none }) (v := ?v8) rfl (by kernel_rfl) (by kernel_rfl) (by kernel_rfl) (fun _ _ _ h => h) (Or.inl ⟨by kernel_rfl, ?h8⟩) (by assumption) ?r8
          case h8 => (intro w hSw; (try dsimp only at hSw); go_simp; try with_reducible rfl)
          try simp only [Act.put, List.setIfInBounds_toArray, List.set_cons_zero, List.set_cons_succ]
          refine wpAnyH_take (i := 9) (oi := { dst := some 36, op := Go.Op.move (Go.Operand.tmp 1), type := 3, pos := "dbm.go:77", after := #[], guard := none }) (v := ?v9) rfl (by kernel_rfl) (by kernel_rfl) (by kernel_rfl) (fun _ _ _ h => h) (Or.inl ⟨by kernel_rfl, ?h9⟩) (by assumption) ?r9
          case h9 => (intro w hSw; (try dsimp only at hSw); go_simp; try with_reducible rfl)
          try simp only [Act.put, List.setIfInBounds_toArray, List.set_cons_zero, List.set_cons_succ]
          refine wpAnyH_take (i := 10) (oi := { dst := some 37, op := Go.Op.binOp Go.BinOp.add 3 (Go.Operand.tmp 36) (Go.Operand.const (Go.Value.int Go.IntKind.i64 1)) 3, type := 3, pos := "dbm.go:77", after := #[{ on := 9, ground := Go.Ground.data }], guard := none }) (v := ?v10) rfl (by kernel_rfl) (by kernel_rfl) (by kernel_rfl) (fun _ _ _ h => h) (Or.inl ⟨by kernel_rfl, ?h10⟩) (by assumption) ?r10
          case h10 => (intro w hSw; (try dsimp only at hSw); go_simp; try with_reducible rfl)
          try simp only [Act.put, List.setIfInBounds_toArray, List.set_cons_zero, List.set_cons_succ]
          refine wpAnyH_take (i := 11) (oi := { dst := some 38, op := Go.Op.binOp Go.BinOp.mul 3 (Go.Operand.tmp 35) (Go.Operand.tmp 37) 3, type := 3, pos := "dbm.go:77", after := #[{ on := 8, ground := Go.Ground.data }, { on := 10, ground := Go.Ground.data }], guard := none }) (v := ?v11) rfl (by kernel_rfl) (by kernel_rfl) (by kernel_rfl) (fun _ _ _ h => h) (Or.inl ⟨by kernel_rfl, ?h11⟩) (by assumption) ?r11
          case h11 => (intro w hSw; (try dsimp only at hSw); go_simp; try with_reducible rfl)
          try simp only [Act.put, List.setIfInBounds_toArray, List.set_cons_zero, List.set_cons_succ]
          refine wpAnyH_take (i := 12) (oi := { dst := some 39, op := Go.Op.move (Go.Operand.tmp 2), type := 3, pos := "dbm.go:77", after := #[], guard := none }) (v := ?v12) rfl (by kernel_rfl) (by kernel_rfl) (by kernel_rfl) (fun _ _ _ h => h) (Or.inl ⟨by kernel_rfl, ?h12⟩) (by assumption) ?r12
          case h12 => (intro w hSw; (try dsimp only at hSw); go_simp; try with_reducible rfl)
          try simp only [Act.put, List.setIfInBounds_toArray, List.set_cons_zero, List.set_cons_succ]
          refine wpAnyH_take (i := 13) (oi := { dst := some 40, op := Go.Op.binOp Go.BinOp.add 3 (Go.Operand.tmp 38) (Go.Operand.tmp 39) 3, type := 3, pos := "dbm.go:77", after := #[{ on := 11, ground := Go.Ground.data }, { on := 12, ground := Go.Ground.data }], guard := none }) (v := ?v13) rfl (by kernel_rfl) (by kernel_rfl) (by kernel_rfl) (fun _ _ _ h => h) (Or.inl ⟨by kernel_rfl, ?h13⟩) (by assumption) ?r13
          case h13 => (intro w hSw; (try dsimp only at hSw); go_simp; try with_reducible rfl)
          try simp only [Act.put, List.setIfInBounds_toArray, List.set_cons_zero, List.set_cons_succ]
          refine wpAnyH_take (i := 14) (oi := { dst := some 41, op := Go.Op.indexAddr 49 (Go.Operand.tmp 34) (Go.Operand.tmp 40), type := 0, pos := "dbm.go:77", after := #[{ on := 7, ground := Go.Ground.data }, { on := 13, ground := Go.Ground.data }], guard := none }) (v := ?v14) rfl (by kernel_rfl) (by kernel_rfl) (by kernel_rfl) (fun _ _ _ h => h) (Or.inl ⟨by kernel_rfl, ?h14⟩) (by assumption) ?r14
          case h14 => (intro w hSw; (try dsimp only at hSw); go_simp; try with_reducible rfl)
          try simp only [Act.put, List.setIfInBounds_toArray, List.set_cons_zero, List.set_cons_succ]
          refine wpAnyH_take (i := 16) (oi := { dst := some 43, op := Go.Op.move (Go.Operand.tmp 0), type := 49, pos := "dbm.go:77", after := #[], guard := none }) (v := ?v15) rfl (by kernel_rfl) (by kernel_rfl) (by kernel_rfl) (fun _ _ _ h => h) (Or.inl ⟨by kernel_rfl, ?h15⟩) (by assumption) ?r15
          case h15 => (intro w hSw; (try dsimp only at hSw); go_simp; try with_reducible rfl)
          try simp only [Act.put, List.setIfInBounds_toArray, List.set_cons_zero, List.set_cons_succ]
          refine wpAnyH_take (i := 17) (oi := { dst := some 44, op := Go.Op.move (Go.Operand.tmp 2), type := 3, pos := "dbm.go:77", after := #[], guard := none }) (v := ?v16) rfl (by kernel_rfl) (by kernel_rfl) (by kernel_rfl) (fun _ _ _ h => h) (Or.inl ⟨by kernel_rfl, ?h16⟩) (by assumption) ?r16
          case h16 => (intro w hSw; (try dsimp only at hSw); go_simp; try with_reducible rfl)
          try simp only [Act.put, List.setIfInBounds_toArray, List.set_cons_zero, List.set_cons_succ]
          refine wpAnyH_take (i := 18) (oi := { dst := some 45, op := Go.Op.move (Go.Operand.tmp 1), type := 3, pos := "dbm.go:77", after := #[], guard := none }) (v := ?v17) rfl (by kernel_rfl) (by kernel_rfl) (by kernel_rfl) (fun _ _ _ h => h) (Or.inl ⟨by kernel_rfl, ?h17⟩) (by assumption) ?r17
          case h17 => (intro w hSw; (try dsimp only at hSw); go_simp; try with_reducible rfl)
          try simp only [Act.put, List.setIfInBounds_toArray, List.set_cons_zero, List.set_cons_succ]
          refine wpAnyH_take (i := 19) (oi := { dst := some 46, op := Go.Op.binOp Go.BinOp.add 3 (Go.Operand.tmp 45) (Go.Operand.const (Go.Value.int Go.IntKind.i64 1)) 3, type := 3, pos := "dbm.go:77", after := #[{ on := 18, ground := Go.Ground.data }], guard := none }) (v := ?v18) rfl (by kernel_rfl) (by kernel_rfl) (by kernel_rfl) (fun _ _ _ h => h) (Or.inl ⟨by kernel_rfl, ?h18⟩) (by assumption) ?r18
          case h18 => (intro w hSw; (try dsimp only at hSw); go_simp; try with_reducible rfl)
          try simp only [Act.put, List.setIfInBounds_toArray, List.set_cons_zero, List.set_cons_succ]
          refine wpAnyH_take (i := 20) (oi := { dst := some 47, op := Go.Op.binOp Go.BinOp.mul 3 (Go.Operand.tmp 44) (Go.Operand.tmp 46) 3, type := 3, pos := "dbm.go:77", after := #[{ on := 17, ground := Go.Ground.data }, { on := 19, ground := Go.Ground.data }], guard := none }) (v := ?v19) rfl (by kernel_rfl) (by kernel_rfl) (by kernel_rfl) (fun _ _ _ h => h) (Or.inl ⟨by kernel_rfl, ?h19⟩) (by assumption) ?r19
          case h19 => (intro w hSw; (try dsimp only at hSw); go_simp; try with_reducible rfl)
          try simp only [Act.put, List.setIfInBounds_toArray, List.set_cons_zero, List.set_cons_succ]
          refine wpAnyH_take (i := 21) (oi := { dst := some 48, op := Go.Op.move (Go.Operand.tmp 9), type := 3, pos := "dbm.go:77", after := #[], guard := none }) (v := ?v20) rfl (by kernel_rfl) (by kernel_rfl) (by kernel_rfl) (fun _ _ _ h => h) (Or.inl ⟨by kernel_rfl, ?h20⟩) (by assumption) ?r20
          case h20 => (intro w hSw; (try dsimp only at hSw); go_simp; try with_reducible rfl)
          try simp only [Act.put, List.setIfInBounds_toArray, List.set_cons_zero, List.set_cons_succ]
          refine wpAnyH_take (i := 22) (oi := { dst := some 49, op := Go.Op.binOp Go.BinOp.add 3 (Go.Operand.tmp 47) (Go.Operand.tmp 48) 3, type := 3, pos := "dbm.go:77", after := #[{ on := 20, ground := Go.Ground.data }, { on := 21, ground := Go.Ground.data }], guard := none }) (v := ?v21) rfl (by kernel_rfl) (by kernel_rfl) (by kernel_rfl) (fun _ _ _ h => h) (Or.inl ⟨by kernel_rfl, ?h21⟩) (by assumption) ?r21
          case h21 => (intro w hSw; (try dsimp only at hSw); go_simp; try with_reducible rfl)
          try simp only [Act.put, List.setIfInBounds_toArray, List.set_cons_zero, List.set_cons_succ]
          refine wpAnyH_take (i := 23) (oi := { dst := some 50, op := Go.Op.indexAddr 49 (Go.Operand.tmp 43) (Go.Operand.tmp 49), type := 0, pos := "dbm.go:77", after := #[{ on := 16, ground := Go.Ground.data }, { on := 22, ground := Go.Ground.data }], guard := none }) (v := ?v22) rfl (by kernel_rfl) (by kernel_rfl) (by kernel_rfl) (fun _ _ _ h => h) (Or.inl ⟨by kernel_rfl, ?h22⟩) (by assumption) ?r22
          case h22 => (intro w hSw; (try dsimp only at hSw); go_simp; try with_reducible rfl)
          try simp only [Act.put, List.setIfInBounds_toArray, List.set_cons_zero, List.set_cons_succ]
          refine wpAnyH_ready (rs := [5, 15, 24]) (by kernel_rfl) (by simp) ?_
          refine AllReadyH.cons (o := { dst := some 32, op := Go.Op.load 3 (Go.Operand.tmp 31), type := 3, pos := "dbm.go:77", after := #[{ on := 4, ground := Go.Ground.data }], guard := none }) rfl (fun K hK => ?_) (AllReadyH.cons (o := { dst := some 42, op := Go.Op.load 3 (Go.Operand.tmp 41), type := 3, pos := "dbm.go:77", after := #[{ on := 14, ground := Go.Ground.data }], guard := none }) rfl (fun K hK => ?_) (AllReadyH.cons (o := { dst := some 51, op := Go.Op.load 3 (Go.Operand.tmp 50), type := 3, pos := "dbm.go:77", after := #[{ on := 23, ground := Go.Ground.data }], guard := none }) rfl (fun K hK => ?_) AllReadyH.nil))
          · go_simp
            refine hK.out _ _ hHeld (fun hHeld => ?_)
            clear hK K
            try simp only [Act.put, List.setIfInBounds_toArray, List.set_cons_zero, List.set_cons_succ]
            refine wpAnyH_ready (rs := [15, 24]) (by kernel_rfl) (by simp) ?_
            refine AllReadyH.cons (o := { dst := some 42, op := Go.Op.load 3 (Go.Operand.tmp 41), type := 3, pos := "dbm.go:77", after := #[{ on := 14, ground := Go.Ground.data }], guard := none }) rfl (fun K hK => ?_) (AllReadyH.cons (o := { dst := some 51, op := Go.Op.load 3 (Go.Operand.tmp 50), type := 3, pos := "dbm.go:77", after := #[{ on := 23, ground := Go.Ground.data }], guard := none }) rfl (fun K hK => ?_) AllReadyH.nil)
            · go_simp
              refine hK.out _ _ hHeld (fun hHeld => ?_)
              clear hK K
              try simp only [Act.put, List.setIfInBounds_toArray, List.set_cons_zero, List.set_cons_succ]
              refine wpAnyH_ready (rs := [24]) (by kernel_rfl) (by simp) ?_
              refine AllReadyH.cons (o := { dst := some 51, op := Go.Op.load 3 (Go.Operand.tmp 50), type := 3, pos := "dbm.go:77", after := #[{ on := 23, ground := Go.Ground.data }], guard := none }) rfl (fun K hK => ?_) AllReadyH.nil
              go_simp
              refine hK.out _ _ hHeld (fun hHeld => ?_)
              clear hK K
              try simp only [Act.put, List.setIfInBounds_toArray, List.set_cons_zero, List.set_cons_succ]
              refine wpAnyH_ready (rs := [25]) (by kernel_rfl) (by simp) ?_
              refine AllReadyH.cons (o := { dst := some 52, op := Go.Op.call { callee := Go.Callee.value (Go.Operand.tmp 33), args := #[Go.Operand.tmp 42, Go.Operand.tmp 51], argTypes := #[3, 3] }, type := 3, pos := "dbm.go:77", after := #[{ on := 6, ground := Go.Ground.data }, { on := 15, ground := Go.Ground.data }, { on := 24, ground := Go.Ground.data }], guard := none }) rfl (fun K hK => ?_) AllReadyH.nil
              go_simp
              refine (hsum.out _).mono ?_
              rintro e w5 ⟨rfl, rfl⟩
              go_simp
              refine hK.out _ _ (trivial) (fun hHeld => ?_)
              clear hK K
              try simp only [Act.put, List.setIfInBounds_toArray, List.set_cons_zero, List.set_cons_succ]
              refine wpAnyH_take (i := 26) (oi := { dst := some 53, op := Go.Op.call { callee := Go.Callee.builtin Go.Builtin.min, args := #[Go.Operand.tmp 32, Go.Operand.tmp 52], argTypes := #[3, 3] }, type := 3, pos := "dbm.go:77", after := #[{ on := 5, ground := Go.Ground.data }, { on := 25, ground := Go.Ground.data }], guard := none }) (v := ?v23) rfl (by kernel_rfl) (by kernel_rfl) (by kernel_rfl) (fun _ _ _ h => h) (Or.inl ⟨by kernel_rfl, ?h23⟩) (by assumption) ?r23
              case h23 => (intro w hSw; (try dsimp only at hSw); go_simp; try with_reducible rfl)
              try simp only [Act.put, List.setIfInBounds_toArray, List.set_cons_zero, List.set_cons_succ]
              refine wpAnyH_take (i := 27) (oi := { dst := some 54, op := Go.Op.indexAddr 49 (Go.Operand.tmp 27) (Go.Operand.tmp 28), type := 0, pos := "dbm.go:77", after := #[{ on := 0, ground := Go.Ground.data }, { on := 1, ground := Go.Ground.data }, { on := 0, ground := Go.Ground.phase }, { on := 1, ground := Go.Ground.phase }, { on := 2, ground := Go.Ground.phase }, { on := 3, ground := Go.Ground.phase }, { on := 4, ground := Go.Ground.phase }, { on := 5, ground := Go.Ground.phase }, { on := 6, ground := Go.Ground.phase }, { on := 7, ground := Go.Ground.phase }, { on := 8, ground := Go.Ground.phase }, { on := 9, ground := Go.Ground.phase }, { on := 10, ground := Go.Ground.phase }, { on := 11, ground := Go.Ground.phase }, { on := 12, ground := Go.Ground.phase }, { on := 13, ground := Go.Ground.phase }, { on := 14, ground := Go.Ground.phase }, { on := 15, ground := Go.Ground.phase }, { on := 16, ground := Go.Ground.phase }, { on := 17, ground := Go.Ground.phase }, { on := 18, ground := Go.Ground.phase }, { on := 19, ground := Go.Ground.phase }, { on := 20, ground := Go.Ground.phase }, { on := 21, ground := Go.Ground.phase }, { on := 22, ground := Go.Ground.phase }, { on := 23, ground := Go.Ground.phase }, { on := 24, ground := Go.Ground.phase }, { on := 25, ground := Go.Ground.phase }, { on := 26, ground := Go.Ground.phase }], guard := none }) (v := ?v24) rfl (by kernel_rfl) (by kernel_rfl) (by kernel_rfl) (fun _ _ _ h => h) (Or.inl ⟨by kernel_rfl, ?h24⟩) (by assumption) ?r24
              case h24 => (intro w hSw; (try dsimp only at hSw); go_simp; try with_reducible rfl)
              try simp only [Act.put, List.setIfInBounds_toArray, List.set_cons_zero, List.set_cons_succ]
              refine wpAnyH_ready (rs := [28]) (by kernel_rfl) (by simp) ?_
              refine AllReadyH.cons (o := { dst := none, op := Go.Op.store 3 (Go.Operand.tmp 54) (Go.Operand.tmp 53), type := 0, pos := "dbm.go:77", after := #[{ on := 27, ground := Go.Ground.data }, { on := 26, ground := Go.Ground.data }, { on := 25, ground := Go.Ground.chain }, { on := 0, ground := Go.Ground.phase }, { on := 1, ground := Go.Ground.phase }, { on := 2, ground := Go.Ground.phase }, { on := 3, ground := Go.Ground.phase }, { on := 4, ground := Go.Ground.phase }, { on := 5, ground := Go.Ground.phase }, { on := 6, ground := Go.Ground.phase }, { on := 7, ground := Go.Ground.phase }, { on := 8, ground := Go.Ground.phase }, { on := 9, ground := Go.Ground.phase }, { on := 10, ground := Go.Ground.phase }, { on := 11, ground := Go.Ground.phase }, { on := 12, ground := Go.Ground.phase }, { on := 13, ground := Go.Ground.phase }, { on := 14, ground := Go.Ground.phase }, { on := 15, ground := Go.Ground.phase }, { on := 16, ground := Go.Ground.phase }, { on := 17, ground := Go.Ground.phase }, { on := 18, ground := Go.Ground.phase }, { on := 19, ground := Go.Ground.phase }, { on := 20, ground := Go.Ground.phase }, { on := 21, ground := Go.Ground.phase }, { on := 22, ground := Go.Ground.phase }, { on := 23, ground := Go.Ground.phase }, { on := 24, ground := Go.Ground.phase }, { on := 25, ground := Go.Ground.phase }, { on := 26, ground := Go.Ground.phase }], guard := none }) rfl (fun K hK => ?_) AllReadyH.nil
              go_simp
              refine hK.out _ _ (trivial) (fun hHeld => ?_)
              clear hK K
              try simp only [Act.put, List.setIfInBounds_toArray, List.set_cons_zero, List.set_cons_succ]
              refine wpAnyH_done (by kernel_rfl) ?_ _
              go_wp2
              go_roundw
              case rel => exact ⟨j + 1, by omega, by go_num, hnx, hbx⟩
              case measure => simp [intOf]; omega
            · go_simp
              refine hK.out _ _ hHeld (fun hHeld => ?_)
              clear hK K
              try simp only [Act.put, List.setIfInBounds_toArray, List.set_cons_zero, List.set_cons_succ]
              refine wpAnyH_ready (rs := [15]) (by kernel_rfl) (by simp) ?_
              refine AllReadyH.cons (o := { dst := some 42, op := Go.Op.load 3 (Go.Operand.tmp 41), type := 3, pos := "dbm.go:77", after := #[{ on := 14, ground := Go.Ground.data }], guard := none }) rfl (fun K hK => ?_) AllReadyH.nil
              go_simp
              refine hK.out _ _ hHeld (fun hHeld => ?_)
              clear hK K
              try simp only [Act.put, List.setIfInBounds_toArray, List.set_cons_zero, List.set_cons_succ]
              refine wpAnyH_ready (rs := [25]) (by kernel_rfl) (by simp) ?_
              refine AllReadyH.cons (o := { dst := some 52, op := Go.Op.call { callee := Go.Callee.value (Go.Operand.tmp 33), args := #[Go.Operand.tmp 42, Go.Operand.tmp 51], argTypes := #[3, 3] }, type := 3, pos := "dbm.go:77", after := #[{ on := 6, ground := Go.Ground.data }, { on := 15, ground := Go.Ground.data }, { on := 24, ground := Go.Ground.data }], guard := none }) rfl (fun K hK => ?_) AllReadyH.nil
              go_simp
              refine (hsum.out _).mono ?_
              rintro e w5 ⟨rfl, rfl⟩
              go_simp
              refine hK.out _ _ (trivial) (fun hHeld => ?_)
              clear hK K
              try simp only [Act.put, List.setIfInBounds_toArray, List.set_cons_zero, List.set_cons_succ]
              refine wpAnyH_take (i := 26) (oi := { dst := some 53, op := Go.Op.call { callee := Go.Callee.builtin Go.Builtin.min, args := #[Go.Operand.tmp 32, Go.Operand.tmp 52], argTypes := #[3, 3] }, type := 3, pos := "dbm.go:77", after := #[{ on := 5, ground := Go.Ground.data }, { on := 25, ground := Go.Ground.data }], guard := none }) (v := ?v25) rfl (by kernel_rfl) (by kernel_rfl) (by kernel_rfl) (fun _ _ _ h => h) (Or.inl ⟨by kernel_rfl, ?h25⟩) (by assumption) ?r25
              case h25 => (intro w hSw; (try dsimp only at hSw); go_simp; try with_reducible rfl)
              try simp only [Act.put, List.setIfInBounds_toArray, List.set_cons_zero, List.set_cons_succ]
              refine wpAnyH_take (i := 27) (oi := { dst := some 54, op := Go.Op.indexAddr 49 (Go.Operand.tmp 27) (Go.Operand.tmp 28), type := 0, pos := "dbm.go:77", after := #[{ on := 0, ground := Go.Ground.data }, { on := 1, ground := Go.Ground.data }, { on := 0, ground := Go.Ground.phase }, { on := 1, ground := Go.Ground.phase }, { on := 2, ground := Go.Ground.phase }, { on := 3, ground := Go.Ground.phase }, { on := 4, ground := Go.Ground.phase }, { on := 5, ground := Go.Ground.phase }, { on := 6, ground := Go.Ground.phase }, { on := 7, ground := Go.Ground.phase }, { on := 8, ground := Go.Ground.phase }, { on := 9, ground := Go.Ground.phase }, { on := 10, ground := Go.Ground.phase }, { on := 11, ground := Go.Ground.phase }, { on := 12, ground := Go.Ground.phase }, { on := 13, ground := Go.Ground.phase }, { on := 14, ground := Go.Ground.phase }, { on := 15, ground := Go.Ground.phase }, { on := 16, ground := Go.Ground.phase }, { on := 17, ground := Go.Ground.phase }, { on := 18, ground := Go.Ground.phase }, { on := 19, ground := Go.Ground.phase }, { on := 20, ground := Go.Ground.phase }, { on := 21, ground := Go.Ground.phase }, { on := 22, ground := Go.Ground.phase }, { on := 23, ground := Go.Ground.phase }, { on := 24, ground := Go.Ground.phase }, { on := 25, ground := Go.Ground.phase }, { on := 26, ground := Go.Ground.phase }], guard := none }) (v := ?v26) rfl (by kernel_rfl) (by kernel_rfl) (by kernel_rfl) (fun _ _ _ h => h) (Or.inl ⟨by kernel_rfl, ?h26⟩) (by assumption) ?r26
              case h26 => (intro w hSw; (try dsimp only at hSw); go_simp; try with_reducible rfl)
              try simp only [Act.put, List.setIfInBounds_toArray, List.set_cons_zero, List.set_cons_succ]
              refine wpAnyH_ready (rs := [28]) (by kernel_rfl) (by simp) ?_
              refine AllReadyH.cons (o := { dst := none, op := Go.Op.store 3 (Go.Operand.tmp 54) (Go.Operand.tmp 53), type := 0, pos := "dbm.go:77", after := #[{ on := 27, ground := Go.Ground.data }, { on := 26, ground := Go.Ground.data }, { on := 25, ground := Go.Ground.chain }, { on := 0, ground := Go.Ground.phase }, { on := 1, ground := Go.Ground.phase }, { on := 2, ground := Go.Ground.phase }, { on := 3, ground := Go.Ground.phase }, { on := 4, ground := Go.Ground.phase }, { on := 5, ground := Go.Ground.phase }, { on := 6, ground := Go.Ground.phase }, { on := 7, ground := Go.Ground.phase }, { on := 8, ground := Go.Ground.phase }, { on := 9, ground := Go.Ground.phase }, { on := 10, ground := Go.Ground.phase }, { on := 11, ground := Go.Ground.phase }, { on := 12, ground := Go.Ground.phase }, { on := 13, ground := Go.Ground.phase }, { on := 14, ground := Go.Ground.phase }, { on := 15, ground := Go.Ground.phase }, { on := 16, ground := Go.Ground.phase }, { on := 17, ground := Go.Ground.phase }, { on := 18, ground := Go.Ground.phase }, { on := 19, ground := Go.Ground.phase }, { on := 20, ground := Go.Ground.phase }, { on := 21, ground := Go.Ground.phase }, { on := 22, ground := Go.Ground.phase }, { on := 23, ground := Go.Ground.phase }, { on := 24, ground := Go.Ground.phase }, { on := 25, ground := Go.Ground.phase }, { on := 26, ground := Go.Ground.phase }], guard := none }) rfl (fun K hK => ?_) AllReadyH.nil
              go_simp
              refine hK.out _ _ (trivial) (fun hHeld => ?_)
              clear hK K
              try simp only [Act.put, List.setIfInBounds_toArray, List.set_cons_zero, List.set_cons_succ]
              refine wpAnyH_done (by kernel_rfl) ?_ _
              go_wp2
              go_roundw
              case rel => exact ⟨j + 1, by omega, by go_num, hnx, hbx⟩
              case measure => simp [intOf]; omega
          · go_simp
            refine hK.out _ _ hHeld (fun hHeld => ?_)
            clear hK K
            try simp only [Act.put, List.setIfInBounds_toArray, List.set_cons_zero, List.set_cons_succ]
            refine wpAnyH_ready (rs := [5, 24]) (by kernel_rfl) (by simp) ?_
            refine AllReadyH.cons (o := { dst := some 32, op := Go.Op.load 3 (Go.Operand.tmp 31), type := 3, pos := "dbm.go:77", after := #[{ on := 4, ground := Go.Ground.data }], guard := none }) rfl (fun K hK => ?_) (AllReadyH.cons (o := { dst := some 51, op := Go.Op.load 3 (Go.Operand.tmp 50), type := 3, pos := "dbm.go:77", after := #[{ on := 23, ground := Go.Ground.data }], guard := none }) rfl (fun K hK => ?_) AllReadyH.nil)
            · go_simp
              refine hK.out _ _ hHeld (fun hHeld => ?_)
              clear hK K
              try simp only [Act.put, List.setIfInBounds_toArray, List.set_cons_zero, List.set_cons_succ]
              refine wpAnyH_ready (rs := [24]) (by kernel_rfl) (by simp) ?_
              refine AllReadyH.cons (o := { dst := some 51, op := Go.Op.load 3 (Go.Operand.tmp 50), type := 3, pos := "dbm.go:77", after := #[{ on := 23, ground := Go.Ground.data }], guard := none }) rfl (fun K hK => ?_) AllReadyH.nil
              go_simp
              refine hK.out _ _ hHeld (fun hHeld => ?_)
              clear hK K
              try simp only [Act.put, List.setIfInBounds_toArray, List.set_cons_zero, List.set_cons_succ]
              refine wpAnyH_ready (rs := [25]) (by kernel_rfl) (by simp) ?_
              refine AllReadyH.cons (o := { dst := some 52, op := Go.Op.call { callee := Go.Callee.value (Go.Operand.tmp 33), args := #[Go.Operand.tmp 42, Go.Operand.tmp 51], argTypes := #[3, 3] }, type := 3, pos := "dbm.go:77", after := #[{ on := 6, ground := Go.Ground.data }, { on := 15, ground := Go.Ground.data }, { on := 24, ground := Go.Ground.data }], guard := none }) rfl (fun K hK => ?_) AllReadyH.nil
              go_simp
              refine (hsum.out _).mono ?_
              rintro e w5 ⟨rfl, rfl⟩
              go_simp
              refine hK.out _ _ (trivial) (fun hHeld => ?_)
              clear hK K
              try simp only [Act.put, List.setIfInBounds_toArray, List.set_cons_zero, List.set_cons_succ]
              refine wpAnyH_take (i := 26) (oi := { dst := some 53, op := Go.Op.call { callee := Go.Callee.builtin Go.Builtin.min, args := #[Go.Operand.tmp 32, Go.Operand.tmp 52], argTypes := #[3, 3] }, type := 3, pos := "dbm.go:77", after := #[{ on := 5, ground := Go.Ground.data }, { on := 25, ground := Go.Ground.data }], guard := none }) (v := ?v27) rfl (by kernel_rfl) (by kernel_rfl) (by kernel_rfl) (fun _ _ _ h => h) (Or.inl ⟨by kernel_rfl, ?h27⟩) (by assumption) ?r27
              case h27 => (intro w hSw; (try dsimp only at hSw); go_simp; try with_reducible rfl)
              try simp only [Act.put, List.setIfInBounds_toArray, List.set_cons_zero, List.set_cons_succ]
              refine wpAnyH_take (i := 27) (oi := { dst := some 54, op := Go.Op.indexAddr 49 (Go.Operand.tmp 27) (Go.Operand.tmp 28), type := 0, pos := "dbm.go:77", after := #[{ on := 0, ground := Go.Ground.data }, { on := 1, ground := Go.Ground.data }, { on := 0, ground := Go.Ground.phase }, { on := 1, ground := Go.Ground.phase }, { on := 2, ground := Go.Ground.phase }, { on := 3, ground := Go.Ground.phase }, { on := 4, ground := Go.Ground.phase }, { on := 5, ground := Go.Ground.phase }, { on := 6, ground := Go.Ground.phase }, { on := 7, ground := Go.Ground.phase }, { on := 8, ground := Go.Ground.phase }, { on := 9, ground := Go.Ground.phase }, { on := 10, ground := Go.Ground.phase }, { on := 11, ground := Go.Ground.phase }, { on := 12, ground := Go.Ground.phase }, { on := 13, ground := Go.Ground.phase }, { on := 14, ground := Go.Ground.phase }, { on := 15, ground := Go.Ground.phase }, { on := 16, ground := Go.Ground.phase }, { on := 17, ground := Go.Ground.phase }, { on := 18, ground := Go.Ground.phase }, { on := 19, ground := Go.Ground.phase }, { on := 20, ground := Go.Ground.phase }, { on := 21, ground := Go.Ground.phase }, { on := 22, ground := Go.Ground.phase }, { on := 23, ground := Go.Ground.phase }, { on := 24, ground := Go.Ground.phase }, { on := 25, ground := Go.Ground.phase }, { on := 26, ground := Go.Ground.phase }], guard := none }) (v := ?v28) rfl (by kernel_rfl) (by kernel_rfl) (by kernel_rfl) (fun _ _ _ h => h) (Or.inl ⟨by kernel_rfl, ?h28⟩) (by assumption) ?r28
              case h28 => (intro w hSw; (try dsimp only at hSw); go_simp; try with_reducible rfl)
              try simp only [Act.put, List.setIfInBounds_toArray, List.set_cons_zero, List.set_cons_succ]
              refine wpAnyH_ready (rs := [28]) (by kernel_rfl) (by simp) ?_
              refine AllReadyH.cons (o := { dst := none, op := Go.Op.store 3 (Go.Operand.tmp 54) (Go.Operand.tmp 53), type := 0, pos := "dbm.go:77", after := #[{ on := 27, ground := Go.Ground.data }, { on := 26, ground := Go.Ground.data }, { on := 25, ground := Go.Ground.chain }, { on := 0, ground := Go.Ground.phase }, { on := 1, ground := Go.Ground.phase }, { on := 2, ground := Go.Ground.phase }, { on := 3, ground := Go.Ground.phase }, { on := 4, ground := Go.Ground.phase }, { on := 5, ground := Go.Ground.phase }, { on := 6, ground := Go.Ground.phase }, { on := 7, ground := Go.Ground.phase }, { on := 8, ground := Go.Ground.phase }, { on := 9, ground := Go.Ground.phase }, { on := 10, ground := Go.Ground.phase }, { on := 11, ground := Go.Ground.phase }, { on := 12, ground := Go.Ground.phase }, { on := 13, ground := Go.Ground.phase }, { on := 14, ground := Go.Ground.phase }, { on := 15, ground := Go.Ground.phase }, { on := 16, ground := Go.Ground.phase }, { on := 17, ground := Go.Ground.phase }, { on := 18, ground := Go.Ground.phase }, { on := 19, ground := Go.Ground.phase }, { on := 20, ground := Go.Ground.phase }, { on := 21, ground := Go.Ground.phase }, { on := 22, ground := Go.Ground.phase }, { on := 23, ground := Go.Ground.phase }, { on := 24, ground := Go.Ground.phase }, { on := 25, ground := Go.Ground.phase }, { on := 26, ground := Go.Ground.phase }], guard := none }) rfl (fun K hK => ?_) AllReadyH.nil
              go_simp
              refine hK.out _ _ (trivial) (fun hHeld => ?_)
              clear hK K
              try simp only [Act.put, List.setIfInBounds_toArray, List.set_cons_zero, List.set_cons_succ]
              refine wpAnyH_done (by kernel_rfl) ?_ _
              go_wp2
              go_roundw
              case rel => exact ⟨j + 1, by omega, by go_num, hnx, hbx⟩
              case measure => simp [intOf]; omega
            · go_simp
              refine hK.out _ _ hHeld (fun hHeld => ?_)
              clear hK K
              try simp only [Act.put, List.setIfInBounds_toArray, List.set_cons_zero, List.set_cons_succ]
              refine wpAnyH_ready (rs := [5, 25]) (by kernel_rfl) (by simp) ?_
              refine AllReadyH.cons (o := { dst := some 32, op := Go.Op.load 3 (Go.Operand.tmp 31), type := 3, pos := "dbm.go:77", after := #[{ on := 4, ground := Go.Ground.data }], guard := none }) rfl (fun K hK => ?_) (AllReadyH.cons (o := { dst := some 52, op := Go.Op.call { callee := Go.Callee.value (Go.Operand.tmp 33), args := #[Go.Operand.tmp 42, Go.Operand.tmp 51], argTypes := #[3, 3] }, type := 3, pos := "dbm.go:77", after := #[{ on := 6, ground := Go.Ground.data }, { on := 15, ground := Go.Ground.data }, { on := 24, ground := Go.Ground.data }], guard := none }) rfl (fun K hK => ?_) AllReadyH.nil)
              · go_simp
                refine hK.out _ _ hHeld (fun hHeld => ?_)
                clear hK K
                try simp only [Act.put, List.setIfInBounds_toArray, List.set_cons_zero, List.set_cons_succ]
                refine wpAnyH_ready (rs := [25]) (by kernel_rfl) (by simp) ?_
                refine AllReadyH.cons (o := { dst := some 52, op := Go.Op.call { callee := Go.Callee.value (Go.Operand.tmp 33), args := #[Go.Operand.tmp 42, Go.Operand.tmp 51], argTypes := #[3, 3] }, type := 3, pos := "dbm.go:77", after := #[{ on := 6, ground := Go.Ground.data }, { on := 15, ground := Go.Ground.data }, { on := 24, ground := Go.Ground.data }], guard := none }) rfl (fun K hK => ?_) AllReadyH.nil
                go_simp
                refine (hsum.out _).mono ?_
                rintro e w5 ⟨rfl, rfl⟩
                go_simp
                refine hK.out _ _ (trivial) (fun hHeld => ?_)
                clear hK K
                try simp only [Act.put, List.setIfInBounds_toArray, List.set_cons_zero, List.set_cons_succ]
                refine wpAnyH_take (i := 26) (oi := { dst := some 53, op := Go.Op.call { callee := Go.Callee.builtin Go.Builtin.min, args := #[Go.Operand.tmp 32, Go.Operand.tmp 52], argTypes := #[3, 3] }, type := 3, pos := "dbm.go:77", after := #[{ on := 5, ground := Go.Ground.data }, { on := 25, ground := Go.Ground.data }], guard := none }) (v := ?v29) rfl (by kernel_rfl) (by kernel_rfl) (by kernel_rfl) (fun _ _ _ h => h) (Or.inl ⟨by kernel_rfl, ?h29⟩) (by assumption) ?r29
                case h29 => (intro w hSw; (try dsimp only at hSw); go_simp; try with_reducible rfl)
                try simp only [Act.put, List.setIfInBounds_toArray, List.set_cons_zero, List.set_cons_succ]
                refine wpAnyH_take (i := 27) (oi := { dst := some 54, op := Go.Op.indexAddr 49 (Go.Operand.tmp 27) (Go.Operand.tmp 28), type := 0, pos := "dbm.go:77", after := #[{ on := 0, ground := Go.Ground.data }, { on := 1, ground := Go.Ground.data }, { on := 0, ground := Go.Ground.phase }, { on := 1, ground := Go.Ground.phase }, { on := 2, ground := Go.Ground.phase }, { on := 3, ground := Go.Ground.phase }, { on := 4, ground := Go.Ground.phase }, { on := 5, ground := Go.Ground.phase }, { on := 6, ground := Go.Ground.phase }, { on := 7, ground := Go.Ground.phase }, { on := 8, ground := Go.Ground.phase }, { on := 9, ground := Go.Ground.phase }, { on := 10, ground := Go.Ground.phase }, { on := 11, ground := Go.Ground.phase }, { on := 12, ground := Go.Ground.phase }, { on := 13, ground := Go.Ground.phase }, { on := 14, ground := Go.Ground.phase }, { on := 15, ground := Go.Ground.phase }, { on := 16, ground := Go.Ground.phase }, { on := 17, ground := Go.Ground.phase }, { on := 18, ground := Go.Ground.phase }, { on := 19, ground := Go.Ground.phase }, { on := 20, ground := Go.Ground.phase }, { on := 21, ground := Go.Ground.phase }, { on := 22, ground := Go.Ground.phase }, { on := 23, ground := Go.Ground.phase }, { on := 24, ground := Go.Ground.phase }, { on := 25, ground := Go.Ground.phase }, { on := 26, ground := Go.Ground.phase }], guard := none }) (v := ?v30) rfl (by kernel_rfl) (by kernel_rfl) (by kernel_rfl) (fun _ _ _ h => h) (Or.inl ⟨by kernel_rfl, ?h30⟩) (by assumption) ?r30
                case h30 => (intro w hSw; (try dsimp only at hSw); go_simp; try with_reducible rfl)
                try simp only [Act.put, List.setIfInBounds_toArray, List.set_cons_zero, List.set_cons_succ]
                refine wpAnyH_ready (rs := [28]) (by kernel_rfl) (by simp) ?_
                refine AllReadyH.cons (o := { dst := none, op := Go.Op.store 3 (Go.Operand.tmp 54) (Go.Operand.tmp 53), type := 0, pos := "dbm.go:77", after := #[{ on := 27, ground := Go.Ground.data }, { on := 26, ground := Go.Ground.data }, { on := 25, ground := Go.Ground.chain }, { on := 0, ground := Go.Ground.phase }, { on := 1, ground := Go.Ground.phase }, { on := 2, ground := Go.Ground.phase }, { on := 3, ground := Go.Ground.phase }, { on := 4, ground := Go.Ground.phase }, { on := 5, ground := Go.Ground.phase }, { on := 6, ground := Go.Ground.phase }, { on := 7, ground := Go.Ground.phase }, { on := 8, ground := Go.Ground.phase }, { on := 9, ground := Go.Ground.phase }, { on := 10, ground := Go.Ground.phase }, { on := 11, ground := Go.Ground.phase }, { on := 12, ground := Go.Ground.phase }, { on := 13, ground := Go.Ground.phase }, { on := 14, ground := Go.Ground.phase }, { on := 15, ground := Go.Ground.phase }, { on := 16, ground := Go.Ground.phase }, { on := 17, ground := Go.Ground.phase }, { on := 18, ground := Go.Ground.phase }, { on := 19, ground := Go.Ground.phase }, { on := 20, ground := Go.Ground.phase }, { on := 21, ground := Go.Ground.phase }, { on := 22, ground := Go.Ground.phase }, { on := 23, ground := Go.Ground.phase }, { on := 24, ground := Go.Ground.phase }, { on := 25, ground := Go.Ground.phase }, { on := 26, ground := Go.Ground.phase }], guard := none }) rfl (fun K hK => ?_) AllReadyH.nil
                go_simp
                refine hK.out _ _ (trivial) (fun hHeld => ?_)
                clear hK K
                try simp only [Act.put, List.setIfInBounds_toArray, List.set_cons_zero, List.set_cons_succ]
                refine wpAnyH_done (by kernel_rfl) ?_ _
                go_wp2
                go_roundw
                case rel => exact ⟨j + 1, by omega, by go_num, hnx, hbx⟩
                case measure => simp [intOf]; omega
              · go_simp
                refine (hsum.out _).mono ?_
                rintro e w5 ⟨rfl, rfl⟩
                go_simp
                refine hK.out _ _ (trivial) (fun hHeld => ?_)
                clear hK K
                try simp only [Act.put, List.setIfInBounds_toArray, List.set_cons_zero, List.set_cons_succ]
                refine wpAnyH_ready (rs := [5]) (by kernel_rfl) (by simp) ?_
                refine AllReadyH.cons (o := { dst := some 32, op := Go.Op.load 3 (Go.Operand.tmp 31), type := 3, pos := "dbm.go:77", after := #[{ on := 4, ground := Go.Ground.data }], guard := none }) rfl (fun K hK => ?_) AllReadyH.nil
                go_simp
                refine hK.out _ _ hHeld (fun hHeld => ?_)
                clear hK K
                try simp only [Act.put, List.setIfInBounds_toArray, List.set_cons_zero, List.set_cons_succ]
                refine wpAnyH_take (i := 26) (oi := { dst := some 53, op := Go.Op.call { callee := Go.Callee.builtin Go.Builtin.min, args := #[Go.Operand.tmp 32, Go.Operand.tmp 52], argTypes := #[3, 3] }, type := 3, pos := "dbm.go:77", after := #[{ on := 5, ground := Go.Ground.data }, { on := 25, ground := Go.Ground.data }], guard := none }) (v := ?v31) rfl (by kernel_rfl) (by kernel_rfl) (by kernel_rfl) (fun _ _ _ h => h) (Or.inl ⟨by kernel_rfl, ?h31⟩) (by assumption) ?r31
                case h31 => (intro w hSw; (try dsimp only at hSw); go_simp; try with_reducible rfl)
                try simp only [Act.put, List.setIfInBounds_toArray, List.set_cons_zero, List.set_cons_succ]
                refine wpAnyH_take (i := 27) (oi := { dst := some 54, op := Go.Op.indexAddr 49 (Go.Operand.tmp 27) (Go.Operand.tmp 28), type := 0, pos := "dbm.go:77", after := #[{ on := 0, ground := Go.Ground.data }, { on := 1, ground := Go.Ground.data }, { on := 0, ground := Go.Ground.phase }, { on := 1, ground := Go.Ground.phase }, { on := 2, ground := Go.Ground.phase }, { on := 3, ground := Go.Ground.phase }, { on := 4, ground := Go.Ground.phase }, { on := 5, ground := Go.Ground.phase }, { on := 6, ground := Go.Ground.phase }, { on := 7, ground := Go.Ground.phase }, { on := 8, ground := Go.Ground.phase }, { on := 9, ground := Go.Ground.phase }, { on := 10, ground := Go.Ground.phase }, { on := 11, ground := Go.Ground.phase }, { on := 12, ground := Go.Ground.phase }, { on := 13, ground := Go.Ground.phase }, { on := 14, ground := Go.Ground.phase }, { on := 15, ground := Go.Ground.phase }, { on := 16, ground := Go.Ground.phase }, { on := 17, ground := Go.Ground.phase }, { on := 18, ground := Go.Ground.phase }, { on := 19, ground := Go.Ground.phase }, { on := 20, ground := Go.Ground.phase }, { on := 21, ground := Go.Ground.phase }, { on := 22, ground := Go.Ground.phase }, { on := 23, ground := Go.Ground.phase }, { on := 24, ground := Go.Ground.phase }, { on := 25, ground := Go.Ground.phase }, { on := 26, ground := Go.Ground.phase }], guard := none }) (v := ?v32) rfl (by kernel_rfl) (by kernel_rfl) (by kernel_rfl) (fun _ _ _ h => h) (Or.inl ⟨by kernel_rfl, ?h32⟩) (by assumption) ?r32
                case h32 => (intro w hSw; (try dsimp only at hSw); go_simp; try with_reducible rfl)
                try simp only [Act.put, List.setIfInBounds_toArray, List.set_cons_zero, List.set_cons_succ]
                refine wpAnyH_ready (rs := [28]) (by kernel_rfl) (by simp) ?_
                refine AllReadyH.cons (o := { dst := none, op := Go.Op.store 3 (Go.Operand.tmp 54) (Go.Operand.tmp 53), type := 0, pos := "dbm.go:77", after := #[{ on := 27, ground := Go.Ground.data }, { on := 26, ground := Go.Ground.data }, { on := 25, ground := Go.Ground.chain }, { on := 0, ground := Go.Ground.phase }, { on := 1, ground := Go.Ground.phase }, { on := 2, ground := Go.Ground.phase }, { on := 3, ground := Go.Ground.phase }, { on := 4, ground := Go.Ground.phase }, { on := 5, ground := Go.Ground.phase }, { on := 6, ground := Go.Ground.phase }, { on := 7, ground := Go.Ground.phase }, { on := 8, ground := Go.Ground.phase }, { on := 9, ground := Go.Ground.phase }, { on := 10, ground := Go.Ground.phase }, { on := 11, ground := Go.Ground.phase }, { on := 12, ground := Go.Ground.phase }, { on := 13, ground := Go.Ground.phase }, { on := 14, ground := Go.Ground.phase }, { on := 15, ground := Go.Ground.phase }, { on := 16, ground := Go.Ground.phase }, { on := 17, ground := Go.Ground.phase }, { on := 18, ground := Go.Ground.phase }, { on := 19, ground := Go.Ground.phase }, { on := 20, ground := Go.Ground.phase }, { on := 21, ground := Go.Ground.phase }, { on := 22, ground := Go.Ground.phase }, { on := 23, ground := Go.Ground.phase }, { on := 24, ground := Go.Ground.phase }, { on := 25, ground := Go.Ground.phase }, { on := 26, ground := Go.Ground.phase }], guard := none }) rfl (fun K hK => ?_) AllReadyH.nil
                go_simp
                refine hK.out _ _ (trivial) (fun hHeld => ?_)
                clear hK K
                try simp only [Act.put, List.setIfInBounds_toArray, List.set_cons_zero, List.set_cons_succ]
                refine wpAnyH_done (by kernel_rfl) ?_ _
                go_wp2
                go_roundw
                case rel => exact ⟨j + 1, by omega, by go_num, hnx, hbx⟩
                case measure => simp [intOf]; omega
          · go_simp
            refine hK.out _ _ hHeld (fun hHeld => ?_)
            clear hK K
            try simp only [Act.put, List.setIfInBounds_toArray, List.set_cons_zero, List.set_cons_succ]
            refine wpAnyH_ready (rs := [5, 15]) (by kernel_rfl) (by simp) ?_
            refine AllReadyH.cons (o := { dst := some 32, op := Go.Op.load 3 (Go.Operand.tmp 31), type := 3, pos := "dbm.go:77", after := #[{ on := 4, ground := Go.Ground.data }], guard := none }) rfl (fun K hK => ?_) (AllReadyH.cons (o := { dst := some 42, op := Go.Op.load 3 (Go.Operand.tmp 41), type := 3, pos := "dbm.go:77", after := #[{ on := 14, ground := Go.Ground.data }], guard := none }) rfl (fun K hK => ?_) AllReadyH.nil)
            · go_simp
              refine hK.out _ _ hHeld (fun hHeld => ?_)
              clear hK K
              try simp only [Act.put, List.setIfInBounds_toArray, List.set_cons_zero, List.set_cons_succ]
              refine wpAnyH_ready (rs := [15]) (by kernel_rfl) (by simp) ?_
              refine AllReadyH.cons (o := { dst := some 42, op := Go.Op.load 3 (Go.Operand.tmp 41), type := 3, pos := "dbm.go:77", after := #[{ on := 14, ground := Go.Ground.data }], guard := none }) rfl (fun K hK => ?_) AllReadyH.nil
              go_simp
              refine hK.out _ _ hHeld (fun hHeld => ?_)
              clear hK K
              try simp only [Act.put, List.setIfInBounds_toArray, List.set_cons_zero, List.set_cons_succ]
              refine wpAnyH_ready (rs := [25]) (by kernel_rfl) (by simp) ?_
              refine AllReadyH.cons (o := { dst := some 52, op := Go.Op.call { callee := Go.Callee.value (Go.Operand.tmp 33), args := #[Go.Operand.tmp 42, Go.Operand.tmp 51], argTypes := #[3, 3] }, type := 3, pos := "dbm.go:77", after := #[{ on := 6, ground := Go.Ground.data }, { on := 15, ground := Go.Ground.data }, { on := 24, ground := Go.Ground.data }], guard := none }) rfl (fun K hK => ?_) AllReadyH.nil
              go_simp
              refine (hsum.out _).mono ?_
              rintro e w5 ⟨rfl, rfl⟩
              go_simp
              refine hK.out _ _ (trivial) (fun hHeld => ?_)
              clear hK K
              try simp only [Act.put, List.setIfInBounds_toArray, List.set_cons_zero, List.set_cons_succ]
              refine wpAnyH_take (i := 26) (oi := { dst := some 53, op := Go.Op.call { callee := Go.Callee.builtin Go.Builtin.min, args := #[Go.Operand.tmp 32, Go.Operand.tmp 52], argTypes := #[3, 3] }, type := 3, pos := "dbm.go:77", after := #[{ on := 5, ground := Go.Ground.data }, { on := 25, ground := Go.Ground.data }], guard := none }) (v := ?v33) rfl (by kernel_rfl) (by kernel_rfl) (by kernel_rfl) (fun _ _ _ h => h) (Or.inl ⟨by kernel_rfl, ?h33⟩) (by assumption) ?r33
              case h33 => (intro w hSw; (try dsimp only at hSw); go_simp; try with_reducible rfl)
              try simp only [Act.put, List.setIfInBounds_toArray, List.set_cons_zero, List.set_cons_succ]
              refine wpAnyH_take (i := 27) (oi := { dst := some 54, op := Go.Op.indexAddr 49 (Go.Operand.tmp 27) (Go.Operand.tmp 28), type := 0, pos := "dbm.go:77", after := #[{ on := 0, ground := Go.Ground.data }, { on := 1, ground := Go.Ground.data }, { on := 0, ground := Go.Ground.phase }, { on := 1, ground := Go.Ground.phase }, { on := 2, ground := Go.Ground.phase }, { on := 3, ground := Go.Ground.phase }, { on := 4, ground := Go.Ground.phase }, { on := 5, ground := Go.Ground.phase }, { on := 6, ground := Go.Ground.phase }, { on := 7, ground := Go.Ground.phase }, { on := 8, ground := Go.Ground.phase }, { on := 9, ground := Go.Ground.phase }, { on := 10, ground := Go.Ground.phase }, { on := 11, ground := Go.Ground.phase }, { on := 12, ground := Go.Ground.phase }, { on := 13, ground := Go.Ground.phase }, { on := 14, ground := Go.Ground.phase }, { on := 15, ground := Go.Ground.phase }, { on := 16, ground := Go.Ground.phase }, { on := 17, ground := Go.Ground.phase }, { on := 18, ground := Go.Ground.phase }, { on := 19, ground := Go.Ground.phase }, { on := 20, ground := Go.Ground.phase }, { on := 21, ground := Go.Ground.phase }, { on := 22, ground := Go.Ground.phase }, { on := 23, ground := Go.Ground.phase }, { on := 24, ground := Go.Ground.phase }, { on := 25, ground := Go.Ground.phase }, { on := 26, ground := Go.Ground.phase }], guard := none }) (v := ?v34) rfl (by kernel_rfl) (by kernel_rfl) (by kernel_rfl) (fun _ _ _ h => h) (Or.inl ⟨by kernel_rfl, ?h34⟩) (by assumption) ?r34
              case h34 => (intro w hSw; (try dsimp only at hSw); go_simp; try with_reducible rfl)
              try simp only [Act.put, List.setIfInBounds_toArray, List.set_cons_zero, List.set_cons_succ]
              refine wpAnyH_ready (rs := [28]) (by kernel_rfl) (by simp) ?_
              refine AllReadyH.cons (o := { dst := none, op := Go.Op.store 3 (Go.Operand.tmp 54) (Go.Operand.tmp 53), type := 0, pos := "dbm.go:77", after := #[{ on := 27, ground := Go.Ground.data }, { on := 26, ground := Go.Ground.data }, { on := 25, ground := Go.Ground.chain }, { on := 0, ground := Go.Ground.phase }, { on := 1, ground := Go.Ground.phase }, { on := 2, ground := Go.Ground.phase }, { on := 3, ground := Go.Ground.phase }, { on := 4, ground := Go.Ground.phase }, { on := 5, ground := Go.Ground.phase }, { on := 6, ground := Go.Ground.phase }, { on := 7, ground := Go.Ground.phase }, { on := 8, ground := Go.Ground.phase }, { on := 9, ground := Go.Ground.phase }, { on := 10, ground := Go.Ground.phase }, { on := 11, ground := Go.Ground.phase }, { on := 12, ground := Go.Ground.phase }, { on := 13, ground := Go.Ground.phase }, { on := 14, ground := Go.Ground.phase }, { on := 15, ground := Go.Ground.phase }, { on := 16, ground := Go.Ground.phase }, { on := 17, ground := Go.Ground.phase }, { on := 18, ground := Go.Ground.phase }, { on := 19, ground := Go.Ground.phase }, { on := 20, ground := Go.Ground.phase }, { on := 21, ground := Go.Ground.phase }, { on := 22, ground := Go.Ground.phase }, { on := 23, ground := Go.Ground.phase }, { on := 24, ground := Go.Ground.phase }, { on := 25, ground := Go.Ground.phase }, { on := 26, ground := Go.Ground.phase }], guard := none }) rfl (fun K hK => ?_) AllReadyH.nil
              go_simp
              refine hK.out _ _ (trivial) (fun hHeld => ?_)
              clear hK K
              try simp only [Act.put, List.setIfInBounds_toArray, List.set_cons_zero, List.set_cons_succ]
              refine wpAnyH_done (by kernel_rfl) ?_ _
              go_wp2
              go_roundw
              case rel => exact ⟨j + 1, by omega, by go_num, hnx, hbx⟩
              case measure => simp [intOf]; omega
            · go_simp
              refine hK.out _ _ hHeld (fun hHeld => ?_)
              clear hK K
              try simp only [Act.put, List.setIfInBounds_toArray, List.set_cons_zero, List.set_cons_succ]
              refine wpAnyH_ready (rs := [5, 25]) (by kernel_rfl) (by simp) ?_
              refine AllReadyH.cons (o := { dst := some 32, op := Go.Op.load 3 (Go.Operand.tmp 31), type := 3, pos := "dbm.go:77", after := #[{ on := 4, ground := Go.Ground.data }], guard := none }) rfl (fun K hK => ?_) (AllReadyH.cons (o := { dst := some 52, op := Go.Op.call { callee := Go.Callee.value (Go.Operand.tmp 33), args := #[Go.Operand.tmp 42, Go.Operand.tmp 51], argTypes := #[3, 3] }, type := 3, pos := "dbm.go:77", after := #[{ on := 6, ground := Go.Ground.data }, { on := 15, ground := Go.Ground.data }, { on := 24, ground := Go.Ground.data }], guard := none }) rfl (fun K hK => ?_) AllReadyH.nil)
              · go_simp
                refine hK.out _ _ hHeld (fun hHeld => ?_)
                clear hK K
                try simp only [Act.put, List.setIfInBounds_toArray, List.set_cons_zero, List.set_cons_succ]
                refine wpAnyH_ready (rs := [25]) (by kernel_rfl) (by simp) ?_
                refine AllReadyH.cons (o := { dst := some 52, op := Go.Op.call { callee := Go.Callee.value (Go.Operand.tmp 33), args := #[Go.Operand.tmp 42, Go.Operand.tmp 51], argTypes := #[3, 3] }, type := 3, pos := "dbm.go:77", after := #[{ on := 6, ground := Go.Ground.data }, { on := 15, ground := Go.Ground.data }, { on := 24, ground := Go.Ground.data }], guard := none }) rfl (fun K hK => ?_) AllReadyH.nil
                go_simp
                refine (hsum.out _).mono ?_
                rintro e w5 ⟨rfl, rfl⟩
                go_simp
                refine hK.out _ _ (trivial) (fun hHeld => ?_)
                clear hK K
                try simp only [Act.put, List.setIfInBounds_toArray, List.set_cons_zero, List.set_cons_succ]
                refine wpAnyH_take (i := 26) (oi := { dst := some 53, op := Go.Op.call { callee := Go.Callee.builtin Go.Builtin.min, args := #[Go.Operand.tmp 32, Go.Operand.tmp 52], argTypes := #[3, 3] }, type := 3, pos := "dbm.go:77", after := #[{ on := 5, ground := Go.Ground.data }, { on := 25, ground := Go.Ground.data }], guard := none }) (v := ?v35) rfl (by kernel_rfl) (by kernel_rfl) (by kernel_rfl) (fun _ _ _ h => h) (Or.inl ⟨by kernel_rfl, ?h35⟩) (by assumption) ?r35
                case h35 => (intro w hSw; (try dsimp only at hSw); go_simp; try with_reducible rfl)
                try simp only [Act.put, List.setIfInBounds_toArray, List.set_cons_zero, List.set_cons_succ]
                refine wpAnyH_take (i := 27) (oi := { dst := some 54, op := Go.Op.indexAddr 49 (Go.Operand.tmp 27) (Go.Operand.tmp 28), type := 0, pos := "dbm.go:77", after := #[{ on := 0, ground := Go.Ground.data }, { on := 1, ground := Go.Ground.data }, { on := 0, ground := Go.Ground.phase }, { on := 1, ground := Go.Ground.phase }, { on := 2, ground := Go.Ground.phase }, { on := 3, ground := Go.Ground.phase }, { on := 4, ground := Go.Ground.phase }, { on := 5, ground := Go.Ground.phase }, { on := 6, ground := Go.Ground.phase }, { on := 7, ground := Go.Ground.phase }, { on := 8, ground := Go.Ground.phase }, { on := 9, ground := Go.Ground.phase }, { on := 10, ground := Go.Ground.phase }, { on := 11, ground := Go.Ground.phase }, { on := 12, ground := Go.Ground.phase }, { on := 13, ground := Go.Ground.phase }, { on := 14, ground := Go.Ground.phase }, { on := 15, ground := Go.Ground.phase }, { on := 16, ground := Go.Ground.phase }, { on := 17, ground := Go.Ground.phase }, { on := 18, ground := Go.Ground.phase }, { on := 19, ground := Go.Ground.phase }, { on := 20, ground := Go.Ground.phase }, { on := 21, ground := Go.Ground.phase }, { on := 22, ground := Go.Ground.phase }, { on := 23, ground := Go.Ground.phase }, { on := 24, ground := Go.Ground.phase }, { on := 25, ground := Go.Ground.phase }, { on := 26, ground := Go.Ground.phase }], guard := none }) (v := ?v36) rfl (by kernel_rfl) (by kernel_rfl) (by kernel_rfl) (fun _ _ _ h => h) (Or.inl ⟨by kernel_rfl, ?h36⟩) (by assumption) ?r36
                case h36 => (intro w hSw; (try dsimp only at hSw); go_simp; try with_reducible rfl)
                try simp only [Act.put, List.setIfInBounds_toArray, List.set_cons_zero, List.set_cons_succ]
                refine wpAnyH_ready (rs := [28]) (by kernel_rfl) (by simp) ?_
                refine AllReadyH.cons (o := { dst := none, op := Go.Op.store 3 (Go.Operand.tmp 54) (Go.Operand.tmp 53), type := 0, pos := "dbm.go:77", after := #[{ on := 27, ground := Go.Ground.data }, { on := 26, ground := Go.Ground.data }, { on := 25, ground := Go.Ground.chain }, { on := 0, ground := Go.Ground.phase }, { on := 1, ground := Go.Ground.phase }, { on := 2, ground := Go.Ground.phase }, { on := 3, ground := Go.Ground.phase }, { on := 4, ground := Go.Ground.phase }, { on := 5, ground := Go.Ground.phase }, { on := 6, ground := Go.Ground.phase }, { on := 7, ground := Go.Ground.phase }, { on := 8, ground := Go.Ground.phase }, { on := 9, ground := Go.Ground.phase }, { on := 10, ground := Go.Ground.phase }, { on := 11, ground := Go.Ground.phase }, { on := 12, ground := Go.Ground.phase }, { on := 13, ground := Go.Ground.phase }, { on := 14, ground := Go.Ground.phase }, { on := 15, ground := Go.Ground.phase }, { on := 16, ground := Go.Ground.phase }, { on := 17, ground := Go.Ground.phase }, { on := 18, ground := Go.Ground.phase }, { on := 19, ground := Go.Ground.phase }, { on := 20, ground := Go.Ground.phase }, { on := 21, ground := Go.Ground.phase }, { on := 22, ground := Go.Ground.phase }, { on := 23, ground := Go.Ground.phase }, { on := 24, ground := Go.Ground.phase }, { on := 25, ground := Go.Ground.phase }, { on := 26, ground := Go.Ground.phase }], guard := none }) rfl (fun K hK => ?_) AllReadyH.nil
                go_simp
                refine hK.out _ _ (trivial) (fun hHeld => ?_)
                clear hK K
                try simp only [Act.put, List.setIfInBounds_toArray, List.set_cons_zero, List.set_cons_succ]
                refine wpAnyH_done (by kernel_rfl) ?_ _
                go_wp2
                go_roundw
                case rel => exact ⟨j + 1, by omega, by go_num, hnx, hbx⟩
                case measure => simp [intOf]; omega
              · go_simp
                refine (hsum.out _).mono ?_
                rintro e w5 ⟨rfl, rfl⟩
                go_simp
                refine hK.out _ _ (trivial) (fun hHeld => ?_)
                clear hK K
                try simp only [Act.put, List.setIfInBounds_toArray, List.set_cons_zero, List.set_cons_succ]
                refine wpAnyH_ready (rs := [5]) (by kernel_rfl) (by simp) ?_
                refine AllReadyH.cons (o := { dst := some 32, op := Go.Op.load 3 (Go.Operand.tmp 31), type := 3, pos := "dbm.go:77", after := #[{ on := 4, ground := Go.Ground.data }], guard := none }) rfl (fun K hK => ?_) AllReadyH.nil
                go_simp
                refine hK.out _ _ hHeld (fun hHeld => ?_)
                clear hK K
                try simp only [Act.put, List.setIfInBounds_toArray, List.set_cons_zero, List.set_cons_succ]
                refine wpAnyH_take (i := 26) (oi := { dst := some 53, op := Go.Op.call { callee := Go.Callee.builtin Go.Builtin.min, args := #[Go.Operand.tmp 32, Go.Operand.tmp 52], argTypes := #[3, 3] }, type := 3, pos := "dbm.go:77", after := #[{ on := 5, ground := Go.Ground.data }, { on := 25, ground := Go.Ground.data }], guard := none }) (v := ?v37) rfl (by kernel_rfl) (by kernel_rfl) (by kernel_rfl) (fun _ _ _ h => h) (Or.inl ⟨by kernel_rfl, ?h37⟩) (by assumption) ?r37
                case h37 => (intro w hSw; (try dsimp only at hSw); go_simp; try with_reducible rfl)
                try simp only [Act.put, List.setIfInBounds_toArray, List.set_cons_zero, List.set_cons_succ]
                refine wpAnyH_take (i := 27) (oi := { dst := some 54, op := Go.Op.indexAddr 49 (Go.Operand.tmp 27) (Go.Operand.tmp 28), type := 0, pos := "dbm.go:77", after := #[{ on := 0, ground := Go.Ground.data }, { on := 1, ground := Go.Ground.data }, { on := 0, ground := Go.Ground.phase }, { on := 1, ground := Go.Ground.phase }, { on := 2, ground := Go.Ground.phase }, { on := 3, ground := Go.Ground.phase }, { on := 4, ground := Go.Ground.phase }, { on := 5, ground := Go.Ground.phase }, { on := 6, ground := Go.Ground.phase }, { on := 7, ground := Go.Ground.phase }, { on := 8, ground := Go.Ground.phase }, { on := 9, ground := Go.Ground.phase }, { on := 10, ground := Go.Ground.phase }, { on := 11, ground := Go.Ground.phase }, { on := 12, ground := Go.Ground.phase }, { on := 13, ground := Go.Ground.phase }, { on := 14, ground := Go.Ground.phase }, { on := 15, ground := Go.Ground.phase }, { on := 16, ground := Go.Ground.phase }, { on := 17, ground := Go.Ground.phase }, { on := 18, ground := Go.Ground.phase }, { on := 19, ground := Go.Ground.phase }, { on := 20, ground := Go.Ground.phase }, { on := 21, ground := Go.Ground.phase }, { on := 22, ground := Go.Ground.phase }, { on := 23, ground := Go.Ground.phase }, { on := 24, ground := Go.Ground.phase }, { on := 25, ground := Go.Ground.phase }, { on := 26, ground := Go.Ground.phase }], guard := none }) (v := ?v38) rfl (by kernel_rfl) (by kernel_rfl) (by kernel_rfl) (fun _ _ _ h => h) (Or.inl ⟨by kernel_rfl, ?h38⟩) (by assumption) ?r38
                case h38 => (intro w hSw; (try dsimp only at hSw); go_simp; try with_reducible rfl)
                try simp only [Act.put, List.setIfInBounds_toArray, List.set_cons_zero, List.set_cons_succ]
                refine wpAnyH_ready (rs := [28]) (by kernel_rfl) (by simp) ?_
                refine AllReadyH.cons (o := { dst := none, op := Go.Op.store 3 (Go.Operand.tmp 54) (Go.Operand.tmp 53), type := 0, pos := "dbm.go:77", after := #[{ on := 27, ground := Go.Ground.data }, { on := 26, ground := Go.Ground.data }, { on := 25, ground := Go.Ground.chain }, { on := 0, ground := Go.Ground.phase }, { on := 1, ground := Go.Ground.phase }, { on := 2, ground := Go.Ground.phase }, { on := 3, ground := Go.Ground.phase }, { on := 4, ground := Go.Ground.phase }, { on := 5, ground := Go.Ground.phase }, { on := 6, ground := Go.Ground.phase }, { on := 7, ground := Go.Ground.phase }, { on := 8, ground := Go.Ground.phase }, { on := 9, ground := Go.Ground.phase }, { on := 10, ground := Go.Ground.phase }, { on := 11, ground := Go.Ground.phase }, { on := 12, ground := Go.Ground.phase }, { on := 13, ground := Go.Ground.phase }, { on := 14, ground := Go.Ground.phase }, { on := 15, ground := Go.Ground.phase }, { on := 16, ground := Go.Ground.phase }, { on := 17, ground := Go.Ground.phase }, { on := 18, ground := Go.Ground.phase }, { on := 19, ground := Go.Ground.phase }, { on := 20, ground := Go.Ground.phase }, { on := 21, ground := Go.Ground.phase }, { on := 22, ground := Go.Ground.phase }, { on := 23, ground := Go.Ground.phase }, { on := 24, ground := Go.Ground.phase }, { on := 25, ground := Go.Ground.phase }, { on := 26, ground := Go.Ground.phase }], guard := none }) rfl (fun K hK => ?_) AllReadyH.nil
                go_simp
                refine hK.out _ _ (trivial) (fun hHeld => ?_)
                clear hK K
                try simp only [Act.put, List.setIfInBounds_toArray, List.set_cons_zero, List.set_cons_succ]
                refine wpAnyH_done (by kernel_rfl) ?_ _
                go_wp2
                go_roundw
                case rel => exact ⟨j + 1, by omega, by go_num, hnx, hbx⟩
                case measure => simp [intOf]; omega
        · have hje : j = n + 1 := by omega
          have hnext : Hid (wr.ownsRow base 3 1 (.slice (some ⟨g, 0, none⟩) s cap) s (nums .i64 (thr n k d ((i + 1) * (n + 1))))) := Lib.hid (by
            have := hown.out
            rw [hje] at this
            rw [Nat.add_mul, Nat.one_mul]; exact this)
          clear hown
          go_wp2
          go_roundw
          case rel => exact ⟨i + 1, by omega, by go_num, hnext, hb⟩
          case measure => simp [intOf]; omega
    · have hie : i = n + 1 := by omega
      have hfin : Hid (wr.ownsRow base 3 1 (.slice (some ⟨g, 0, none⟩) s cap) s (nums .i64 (thrAll n k d))) := Lib.hid (by
        have := hown.out
        rw [hie] at this
        exact this)
      clear hown
      go_wp2
      go_end0
      exact ⟨rfl, hfin.out, hb.out⟩
theorem below_any (n : Nat) (hn : n ≤ 8) (a : Option Addr) (d : List Int) (s c : Nat) (hs : s = d.length) (hsz : s = sz n) (B : Nat) (w : World) (h : Sees .i64 B w a d) :
    Calls Tryz.prog 172 #[.slice a s c, .int .i64 n] w (Tells (.bool (belowL n d)) w) := by
  have hs' := Lib.hid hs
  have hsz' := Lib.hid hsz
  have h' := Lib.hid h
  have hni : (n : Int) ≤ 8 := by omega
  have hw1 : IntKind.i64.wrap ((n : Int) + 2) = (n : Int) + 2 := wrap_small (by omega) (by omega)
  clear hs hsz h
  go_enter Tryz.func172, Tryz.ntmps172
  go_wp2
  go_loop [8] (fun x => ∃ i : Nat, i ≤ n + 1 ∧ x = .int .i64 i ∧ Hid (∀ j, j < i → ¬ d.getD (j * (n + 2)) 0 < 0)) (fun x => n + 1 - (intOf x).toNat)
  case atStart => exact ⟨0, by omega, rfl, Lib.hid (by intro j hj; omega)⟩
  case round =>
    obtain ⟨i, hin, rfl, hno⟩ := hrel
    by_cases hlt : i < n + 1
    · have hii : (i : Int) < (n : Int) + 1 := by omega
      have hpl := place_lt (n := n) (i := i) (j := i) (by omega) (by omega)
      have he : i * (n + 2) = i * (n + 1) + i := by rw [show n + 2 = (n + 1) + 1 by omega, Nat.mul_add]; omega
      have hs81 := sz_le hn
      have hsn : sz n = (n + 1) * (n + 1) := rfl
      have hsz := hsz'.out
      obtain ⟨q, hq⟩ : ∃ q, q = i * (n + 2) := ⟨_, rfl⟩
      have hqs : q < s := by omega
      have hqi : (i : Int) * ((n : Int) + 2) = (q : Int) := by rw [hq, Int.natCast_mul]; rfl
      have hw2 : IntKind.i64.wrap ((i : Int) * ((n : Int) + 2)) = (q : Int) := by rw [hqi]; exact wrap_small (by omega) (by omega)
      obtain ⟨b, off, rfl, -, hc⟩ := sees_at' h'.out (i := q) (by have := hs'.out; omega)
      have hin2 : (q : Int) < (s : Int) := by omega
      have hyes : Hid (d.getD q 0 < 0 → belowL n d = true) := Lib.hid (fun hlt0 => by
        unfold belowL
        rw [List.any_eq_true]
        exact ⟨i, List.mem_range.2 (by omega), by rw [← hq]; exact decide_eq_true hlt0⟩)
      have hnext : Hid (¬ d.getD q 0 < 0 → ∀ j, j < i + 1 → ¬ d.getD (j * (n + 2)) 0 < 0) := Lib.hid (fun hlt0 j hj => by
        by_cases e : j = i
        · subst e; rw [← hq]; exact hlt0
        · exact hno.out j (by omega))
      clear hpl he hs81 hsn hsz hq hqi hno
      generalize d.getD q 0 = x at *
      by_cases hx : x < 0
      · have hr := Lib.hid (hyes.out hx)
        clear hyes hnext
        go_wp2
        go_ret
        exact ⟨by rw [hr.out]; rfl, rfl⟩
      · have hn2 := Lib.hid (hnext.out hx)
        clear hyes hnext
        go_wp2
        go_round
        case rel => exact ⟨i + 1, by omega, by go_num, hn2⟩
        case measure => simp [intOf]; omega
    · have hr : Hid (belowL n d = false) := Lib.hid (by
        unfold belowL
        rw [List.any_eq_false]
        intro j hj
        rw [List.mem_range] at hj
        rw [decide_eq_true_eq]
        exact hno.out j (by omega))
      clear hno
      go_wp2
      go_ret
      exact ⟨by rw [hr.out]; rfl, rfl⟩
theorem zequal_any (a1 a2 : Option Addr) (l1 l2 : List Int) (n1 n2 c1 c2 : Nat) (h1 : n1 = l1.length) (h2 : n2 = l2.length) (hl1 : n1 ≤ 9223372036854775807) (hl2 : n2 ≤ 9223372036854775807) (B : Nat) (w : World) (s1 : Sees .i64 B w a1 l1) (s2 : Sees .i64 B w a2 l2) :
    Calls Tryz.prog 131 #[.slice a1 n1 c1, .slice a2 n2 c2] w (ReadsV (.bool (decide (l1 = l2))) w) := by
  by_cases hn : n1 = n2
  · subst hn
    have hli : (n1 : Int) ≤ 9223372036854775807 := by omega
    have h1' := Lib.hid h1
    have h2' := Lib.hid h2
    have s1' := Lib.hid s1
    have s2' := Lib.hid s2
    clear h1 h2 s1 s2 hl1 hl2
    go_enter Tryz.func131, Tryz.ntmps131
    go_wp2
    go_loopw [13] (fun x wr => ∃ k m : Nat, k ≤ n1 ∧ x = .int .i64 k ∧ Hid (∀ j, j < k → l1.getD j 0 = l2.getD j 0) ∧ wr = w.drewN m) (fun x _ => n1 - (intOf x).toNat)
    case atStart => exact ⟨0, 0, Nat.zero_le _, rfl, Lib.hid (by intro j hj; omega), rfl⟩
    case round =>
      obtain ⟨k, m, hk, rfl, he, rfl⟩ := hrel
      by_cases hlt : k < n1
      · obtain ⟨b1, o1, rfl, -, e1⟩ := sees_at' s1'.out (i := k) (by have := h1'.out; omega)
        obtain ⟨b2, o2, rfl, -, e2⟩ := sees_at' s2'.out (i := k) (by have := h2'.out; omega)
        have hki : (k : Int) < (n1 : Int) := by omega
        have hyes : Hid (l1.getD k 0 = l2.getD k 0 → ∀ j, j < k + 1 → l1.getD j 0 = l2.getD j 0) := Lib.hid (fun hx j hj => by
          by_cases e : j = k
          · subst e; exact hx
          · exact he.out j (by omega))
        have hno : Hid (l1.getD k 0 ≠ l2.getD k 0 → decide (l1 = l2) = false) := Lib.hid (fun hx => decide_eq_false (fun e => hx (by rw [e])))
        clear he
        generalize l1.getD k 0 = x at *
        generalize l2.getD k 0 = y at *
        by_cases hxy : x = y
        · subst hxy
          have hy2 := Lib.hid (hyes.out rfl)
          clear hyes hno
          go_wp2
          go_quiet (fail)
          go_wp2
          go_roundw
          case rel => exact ⟨k + 1, m + nq, by omega, by go_num, hy2, by simp [World.drewN, Nat.add_assoc]⟩
          case measure => simp [intOf]; omega
        · have hr := Lib.hid (hno.out hxy)
          have hxy2 : (x == y) = false := by simpa using hxy
          have hxy3 : (x != y) = true := by simpa using hxy
          clear hyes hno
          go_wp2
          go_quiet (fail)
          go_wp2
          go_ret
          exact ⟨by rw [hr.out]; rfl, m + nq, by simp [World.drewN, Nat.add_assoc]⟩
      · have hr : Hid (decide (l1 = l2) = true) := Lib.hid (decide_eq_true (by
          have q1 := h1'.out
          have q2 := h2'.out
          apply List.ext_getElem (by omega)
          intro j g1 g2
          have := he.out j (by omega)
          simpa [List.getD, g1, g2] using this))
        clear he
        go_wp2
        go_ret
        exact ⟨by rw [hr.out]; rfl, m, rfl⟩
  · have hr : decide (l1 = l2) = false := decide_eq_false (fun e => hn (by rw [h1, h2, e]))
    rw [hr]
    have hi1 : (n1 : Int) ≠ (n2 : Int) := by omega
    have hi2 : ((n1 : Int) != (n2 : Int)) = true := by simpa using hi1
    clear h1 h2 s1 s2 hr hn
    go_enter Tryz.func131, Tryz.ntmps131
    go_wp2
    go_ret
    exact ⟨rfl, 0, rfl⟩
end Go.Proofs.YtimgocfkogebmaaGreatDoor
namespace Go.Proofs.YtimgocfkogebmaaGreatDoor
set_option linter.unusedVariables false
set_option linter.unusedSimpArgs false
def lowF (k : Nat) (L : Int) (i j : Nat) : Int := if i = k ∧ j = k then 2 * L else if i = k ∨ j = k then 3 * L else 6 * L
theorem lowF_le (k : Nat) {L : Int} (hL : 0 ≤ L) (i j : Nat) : L ≤ lowF k L i j ∧ lowF k L i j ≤ 6 * L := by
  unfold lowF
  split
  · omega
  · split <;> omega
theorem thr_low {n k : Nat} (hk : k ≤ n) {d : List Int} (hl : d.length = (n + 1) * (n + 1)) {L : Int} (hL : 0 ≤ L) (h : ∀ i j, i ≤ n → j ≤ n → -L ≤ mat n d i j) : ∀ t, t ≤ (n + 1) * (n + 1) → ∀ i j, i ≤ n → j ≤ n →
    -(lowF k L i j) ≤ mat n (thr n k d t) i j ∧ (t ≤ i * (n + 1) + j → mat n (thr n k d t) i j = mat n d i j) := by
  intro t
  induction t with
  | zero =>
    intro _ i j hi hj
    have := h i j hi hj
    have := lowF_le k hL i j
    simp only [thr]
    exact ⟨by omega, fun _ => trivial⟩
  | succ t ih =>
    intro ht i j hi hj
    have h1 := ih (by omega)
    obtain ⟨q1, q2, q3⟩ := place_of (n := n) (t := t) (by omega)
    simp only [thr]
    rw [mat_set (by rw [thr_len]; exact hl) (by omega) _ hi hj]
    by_cases q : i = t / (n + 1) ∧ j = t % (n + 1)
    · rw [if_pos q]
      obtain ⟨rfl, rfl⟩ := q
      generalize hi' : t / (n + 1) = i at *
      generalize hj' : t % (n + 1) = j at *
      refine ⟨?_, by intro; omega⟩
      have e : (thr n k d t).getD t 0 = mat n (thr n k d t) i j := by unfold mat; rw [q3]
      rw [e, (h1 i j hi hj).2 (by omega)]
      have a1 := h i j hi hj
      have a2 := h1 i k hi hk
      have a3 := h1 k j hk hj
      have a4 := h i k hi hk
      have a5 := h k j hk hj
      by_cases hik : i = k
      · subst hik
        by_cases hjk : j = i
        · subst hjk
          rw [(h1 j j hi hj).2 (by omega)]
          unfold lowF
          rw [if_pos ⟨rfl, rfl⟩]
          omega
        · rw [(h1 i j hi hj).2 (by omega)]
          have a6 := a2.1
          unfold lowF at a6 ⊢
          rw [if_pos ⟨rfl, rfl⟩] at a6
          rw [if_neg (by rintro ⟨-, e⟩; exact hjk e), if_pos (.inl rfl)]
          omega
      · by_cases hjk : j = k
        · subst hjk
          rw [(h1 i j hi hj).2 (by omega)]
          have a6 := a3.1
          unfold lowF at a6 ⊢
          rw [if_pos ⟨rfl, rfl⟩] at a6
          rw [if_neg (by rintro ⟨e, -⟩; exact hik e), if_pos (.inr rfl)]
          omega
        · have a6 := a3.1
          have a7 := a2.1
          unfold lowF at a6 a7 ⊢
          rw [if_neg (by rintro ⟨-, e⟩; exact hjk e), if_pos (.inl rfl)] at a6
          rw [if_neg (by rintro ⟨e, -⟩; exact hik e), if_pos (.inr rfl)] at a7
          rw [if_neg (by rintro ⟨e, -⟩; exact hik e), if_neg (by rintro (e | e); exact hik e; exact hjk e)]
          omega
    · rw [if_neg q]
      refine ⟨(h1 i j hi hj).1, fun hle => (h1 i j hi hj).2 (by omega)⟩
structure FwI (n : Nat) (M : List Int) (k : Nat) (d : List Int) : Prop where
  len : d.length = (n + 1) * (n + 1)
  run : fwRun n (n + 1 - k) k d = closedL n M
  diag : ∀ i, i ≤ n → mat n d i i ≤ 0
  zero : k = 0 ∨ ∀ i, i ≤ n → mat n d i i = 0
  low : ∀ i j, i ≤ n → j ≤ n → -(if k = 0 then 2199023255553 else 13194139533318 * 2 ^ k) ≤ mat n d i j
  high : ∀ i j, i ≤ n → j ≤ n → mat n d i j ≤ 2199023255552
theorem widestF_le (i j : Nat) : 0 ≤ widestF i j ∧ widestF i j ≤ 2199023255552 := by
  unfold widestF
  split
  · omega
  · split <;> omega
theorem clipF_in (n : Nat) (M : List Int) (i j : Nat) : -2199023255553 ≤ clipF n M i j ∧ clipF n M i j ≤ 2199023255552 := by
  have := widestF_le i j
  unfold clipF
  omega
theorem FwI.start (n : Nat) (M : List Int) : FwI n M 0 (clipL n M) := by
  refine ⟨clip_len _ _, rfl, fun i hi => clip_diag hi, .inl rfl, fun i j hi hj => ?_, fun i j hi hj => ?_⟩
  · unfold clipL
    rw [mat_matL _ hi hj, if_pos rfl]
    have := clipF_in n M i j
    omega
  · unfold clipL
    rw [mat_matL _ hi hj]
    exact (clipF_in n M i j).2
theorem FwI.bounds {n k : Nat} {M d : List Int} (h : FwI n M k d) (hn : n ≤ 8) (hk : k ≤ n) : ∀ t, t ≤ (n + 1) * (n + 1) → ∀ p, -2305843009213693952 ≤ (thr n k d t).getD p 0 ∧ (thr n k d t).getD p 0 ≤ 2305843009213693951 := by
  intro t ht p
  by_cases hp : p < (n + 1) * (n + 1)
  · obtain ⟨q1, q2, q3⟩ := place_of hp
    have e : (thr n k d t).getD p 0 = mat n (thr n k d t) (p / (n + 1)) (p % (n + 1)) := by unfold mat; rw [q3]
    rw [e]
    have hp2 : (2 : Int) ^ k ≤ 256 := by
      have : ∀ k : Nat, k ≤ 8 → (2 : Int) ^ k ≤ 256 := by decide
      exact this k (by omega)
    have hp3 : (0 : Int) ≤ 2 ^ k := Int.le_of_lt (Int.pow_pos (by decide))
    have hL : (0 : Int) ≤ (if k = 0 then 2199023255553 else 13194139533318 * 2 ^ k) := by split <;> omega
    have h1 := (thr_low hk h.len hL h.low t ht _ _ q1 q2).1
    have h2 := (lowF_le k hL (p / (n + 1)) (p % (n + 1))).2
    have h3 := thr_leq h.len t ht _ _ q1 q2 (k := k)
    have h4 := h.high _ _ q1 q2
    refine ⟨?_, by omega⟩
    split at h1 <;> rename_i hk0
    · rw [if_pos hk0] at h2; omega
    · rw [if_neg hk0] at h2; omega
  · have e : (thr n k d t).getD p 0 = 0 := by
      simp only [List.getD]
      rw [List.getElem?_eq_none (by rw [thr_len, h.len]; omega)]
      rfl
    rw [e]; omega
theorem FwI.out {n k : Nat} {M d : List Int} (h : FwI n M k d) (hk : k ≤ n) (hb : belowL n (thrAll n k d) = true) : closedL n M = [] := by
  rw [← h.run, show n + 1 - k = (n - k) + 1 by omega]
  simp only [fwRun]
  rw [if_pos hb]
theorem FwI.next {n k : Nat} {M d : List Int} (h : FwI n M k d) (hk : k ≤ n) (hb : belowL n (thrAll n k d) = false) : FwI n M (k + 1) (thrAll n k d) := by
  have hle : Leq n (mat n (thrAll n k d)) (mat n d) := thr_leq h.len _ (Nat.le_refl _)
  have hz : ∀ i, i ≤ n → mat n (thrAll n k d) i i = 0 := fun i hi => by
    have a := belowL_not hb hi
    have b := hle i i hi hi
    have c := h.diag i hi
    omega
  refine ⟨by unfold thrAll; rw [thr_len]; exact h.len, ?_, fun i hi => by rw [hz i hi]; omega, .inr hz, ?_, fun i j hi hj => Int.le_trans (hle i j hi hj) (h.high i j hi hj)⟩
  · rw [← h.run, show n + 1 - k = (n + 1 - (k + 1)) + 1 by omega]
    conv => rhs; simp only [fwRun]
    rw [if_neg (by rw [hb]; decide)]
  · intro i j hi hj
    rw [if_neg (by omega)]
    by_cases hk0 : k = 0
    · subst hk0
      have hL : (0 : Int) ≤ 2199023255553 := by decide
      have h1 := (thr_low hk h.len hL (fun i j hi hj => by have := h.low i j hi hj; rw [if_pos rfl] at this; exact this) _ (Nat.le_refl _) i j hi hj).1
      have h2 := (lowF_le 0 hL i j).2
      unfold thrAll
      simp only [Nat.zero_add, Int.pow_one] at *
      omega
    · rcases h.zero with h0 | h0
      · exact absurd h0 hk0
      rw [thrAll_at hk h.len (h0 k hk) hi hj]
      have a1 := h.low i j hi hj
      have a2 := h.low i k hi hk
      have a3 := h.low k j hk hj
      rw [if_neg hk0] at a1 a2 a3
      have hp3 : (0 : Int) ≤ 2 ^ k := Int.le_of_lt (Int.pow_pos (by decide))
      rw [Int.pow_succ]
      omega
theorem FwI.end_ {n : Nat} {M d : List Int} (h : FwI n M (n + 1) d) : d = closedL n M := by
  rw [← h.run, Nat.sub_self]; rfl
/- The document's way: how low it becomes. -/
theorem sq_in {n : Nat} {m : List Int} (hlo : ∀ i j, i ≤ n → j ≤ n → -2199023255553 ≤ mat n m i j) (hhi : ∀ i j, i ≤ n → j ≤ n → mat n m i j ≤ 2199023255552) : ∀ t i j, i ≤ n → j ≤ n → -(2199023255553 * 2 ^ t) ≤ mat n (sq n m t) i j ∧ mat n (sq n m t) i j ≤ 2199023255552 := by
  intro t
  induction t with
  | zero => intro i j hi hj; have := hlo i j hi hj; have := hhi i j hi hj; simp only [sq, Int.pow_zero]; omega
  | succ t ih =>
    intro i j hi hj
    rw [sq_at t hi hj]
    have h0 := sqF_le n (mat n (sq n m t)) i j
    have h1 := ih i j hi hj
    have hp3 : (0 : Int) ≤ 2 ^ t := Int.le_of_lt (Int.pow_pos (by decide))
    refine ⟨?_, by omega⟩
    rw [Int.pow_succ]
    rcases sqF_is n (mat n (sq n m t)) i j with q | ⟨k, hk, q⟩
    · omega
    · have a1 := ih i k hi hk
      have a2 := ih k j hk hj
      omega
theorem sq_bound {n : Nat} {M : List Int} {t : Nat} (ht : t ≤ 4) (p : Nat) : -100000000000000 ≤ (sq n (clipL n M) t).getD p 0 ∧ (sq n (clipL n M) t).getD p 0 ≤ 100000000000000 := by
  have hlo : ∀ i j, i ≤ n → j ≤ n → -2199023255553 ≤ mat n (clipL n M) i j := fun i j hi hj => by unfold clipL; rw [mat_matL _ hi hj]; exact (clipF_in n M i j).1
  have hhi : ∀ i j, i ≤ n → j ≤ n → mat n (clipL n M) i j ≤ 2199023255552 := fun i j hi hj => by unfold clipL; rw [mat_matL _ hi hj]; exact (clipF_in n M i j).2
  by_cases hp : p < (n + 1) * (n + 1)
  · obtain ⟨q1, q2, q3⟩ := place_of hp
    have e : (sq n (clipL n M) t).getD p 0 = mat n (sq n (clipL n M) t) (p / (n + 1)) (p % (n + 1)) := by unfold mat; rw [q3]
    rw [e]
    have h1 := sq_in hlo hhi t _ _ q1 q2
    have hp2 : (2 : Int) ^ t ≤ 16 := by
      have : ∀ k : Nat, k ≤ 4 → (2 : Int) ^ k ≤ 16 := by decide
      exact this t ht
    omega
  · have e : (sq n (clipL n M) t).getD p 0 = 0 := by
      simp only [List.getD]
      rw [List.getElem?_eq_none (by rw [sq_len (clip_len _ _)]; omega)]
      rfl
    rw [e]; omega
end Go.Proofs.YtimgocfkogebmaaGreatDoor
namespace Go.Proofs.YtimgocfkogebmaaGreatDoor
open Go.RowKit
set_option linter.unusedVariables false
set_option linter.unusedSimpArgs false
theorem own_some {w : World} {base : Nat} {e : TypeId} {n : Nat} {v : Value} {xs : List Value} (h : w.ownsRow base e 1 v n xs) (hn : n ≠ 0) : ∃ g cap, v = .slice (some ⟨g, 0, none⟩) n cap ∧ base ≤ g := by
  rcases h.2 with ⟨rfl, h0⟩ | ⟨g, cap, cur, rfl, hb, _⟩
  · exact absurd h0 hn
  · exact ⟨g, cap, rfl, hb⟩
theorem sz_pos (n : Nat) : sz n ≠ 0 := by have := size_pos n; unfold sz; omega
set_option maxRecDepth 100000 in
set_option maxHeartbeats 4000000 in
theorem closed_any (n : Nat) (hn : n ≤ 8) (a : Option Addr) (M : List Int) (len c : Nat) (hM : len = M.length) (hl : len = sz n) (w : World) (h : Sees .i64 w.heap.size w a M) :
    Calls Tryz.prog 132 #[.int .i64 n, .slice a len c] w (Made 3 .i64 w (closedL n M)) := by
  obtain ⟨W1, hW1⟩ : ∃ W1, W1 = (w.alloc (.cells #[.int .i64 n] 3)).alloc (.cells #[.slice a len c] 49) := ⟨_, rfl⟩
  have hB : Below w.heap.size w W1 := by rw [hW1]; exact ((Below.refl _ _).alloc (Nat.le_refl _) _).alloc (by simp) _
  have hsz : W1.heap.size = w.heap.size + 2 := by rw [hW1]; simp
  have kn : W1.cell? ⟨w.heap.size, 0, none⟩ = some (.int .i64 n) := by rw [hW1]; simp [go_sem]
  have km : W1.cell? ⟨w.heap.size + 1, 0, none⟩ = some (.slice a len c) := by rw [hW1]; simp [go_sem]
  have h1 := h.below hB
  have heach := Lib.hid (each_clip n hn (w.heap.size + 1) w.heap.size (clipF n M) W1 (fun i j hi hj W hW => by
    have hc := zclip_any (w.heap.size + 1) w.heap.size a M len c n hn hM hl i j hi hj w.heap.size W (h1.below (hW.mono (by omega))) ((hW.cell (p := ⟨w.heap.size + 1, 0, none⟩) (by show w.heap.size + 1 < W1.heap.size; omega)).trans km) ((hW.cell (p := ⟨w.heap.size, 0, none⟩) (by show w.heap.size < W1.heap.size; omega)).trans kn)
    exact hc))
  have kn' := Lib.hid kn
  have hB' := Lib.hid hB
  have hW1' := Lib.hid hW1
  have hsz' := Lib.hid hsz
  have hlen' : Hid ((matL n (clipF n M)).length = sz n) := Lib.hid (matL_len _ _)
  have hst : Hid (FwI n M 0 (matL n (clipF n M))) := Lib.hid (FwI.start n M)
  have hni : (n : Int) ≤ 8 := by omega
  have hpos := Lib.hid (sz_pos n)
  have hn' := Lib.hid hn
  clear hW1 hB hsz kn km h1 h hM hl
  generalize matL n (clipF n M) = D0 at *
  generalize hR : closedL n M = R
  have hR' := Lib.hid hR
  clear hR
  go_enter Tryz.func132, Tryz.ntmps132
  go_wp2_with fail
  rw [← hW1'.out]
  refine heach.out.mono ?_
  rintro e w3 ⟨v, rfl, hown, hb3⟩
  obtain ⟨g, cap, rfl, hg⟩ := own_some hown (by rw [hlen'.out]; exact hpos.out)
  have k3 : w3.cell? ⟨w.heap.size, 0, none⟩ = some (.int .i64 n) := (hb3.cell (p := ⟨w.heap.size, 0, none⟩) (by have := hsz'.out; show w.heap.size < W1.heap.size; omega)).trans kn'.out
  have hown2 : Hid (w3.ownsRow w.heap.size 3 1 (.slice (some ⟨g, 0, none⟩) (sz n) cap) (sz n) (nums .i64 D0)) := Lib.hid (by
    have := own_from (B := w.heap.size) hown (fun k hk => by have := hsz'.out; simp [Value.ownBlock] at hk; omega)
    rw [hlen'.out] at this
    exact this)
  have hbb : Hid (Below w.heap.size w w3) := Lib.hid (hB'.out.trans (hb3.mono (by have := hsz'.out; omega)))
  have hg' : Hid (w.heap.size + 2 ≤ g) := Lib.hid (by have := hsz'.out; omega)
  rw [hlen'.out]
  clear hown hb3 heach hlen' hg
  go_wp2
  go_loopw [12] (fun x wr => ∃ (k : Nat) (d : List Int), k ≤ n + 1 ∧ x = .int .i64 k ∧ Hid (FwI n M k d) ∧ Hid (wr.ownsRow w.heap.size 3 1 (.slice (some ⟨g, 0, none⟩) (sz n) cap) (sz n) (nums .i64 d)) ∧ Hid (Below w.heap.size w wr) ∧ Hid (wr.cell? ⟨w.heap.size, 0, none⟩ = some (.int .i64 n))) (fun x _ => n + 1 - (intOf x).toNat)
  case atStart => exact ⟨0, D0, by omega, rfl, hst, hown2, hbb, Lib.hid k3⟩
  case round =>
    clear hown2 hbb k3 hst
    obtain ⟨k, d, hkn, rfl, hI, hown, hb, kc⟩ := hrel
    by_cases hlt : k < n + 1
    · have hki : (k : Int) < (n : Int) + 1 := by omega
      have kc2 := kc.out
      have hthr := Lib.hid (through_any n k hn'.out (by omega) g cap w.heap.size d hI.out.len wr hown.out (hI.out.bounds hn'.out (by omega)))
      go_wp2_with fail
      refine hthr.out.mono ?_
      rintro e w5 ⟨rfl, hown5, hb5⟩
      have hk5 : w5.cell? ⟨w.heap.size, 0, none⟩ = some (.int .i64 n) := (hb5.cell (p := ⟨w.heap.size, 0, none⟩) (World.block_lt_of_cell? _ _ kc.out) (by have := hg'.out; simp; omega)).trans kc.out
      have hbn : Hid (Below w.heap.size w w5) := Lib.hid (hb.out.trans (BelowE.none ((hb5.mono (hb.out.size)).less (by intro x hx hlt; simp at hx; have := hg'.out; omega))))
      have hlen5 : (thrAll n k d).length = sz n := by unfold thrAll; rw [thr_len, hI.out.len]; rfl
      obtain ⟨a5, c5, hv5, -, s5⟩ := sees_own hown5
      have ha5 : a5 = some ⟨g, 0, none⟩ := by injection hv5 with e1 _ _; exact e1.symm
      subst ha5
      have hbel := Lib.hid (below_any n hn'.out (some ⟨g, 0, none⟩) (thrAll n k d) (sz n) cap hlen5.symm rfl w5.heap.size w5 s5)
      have hown5' := Lib.hid hown5
      have hout := Lib.hid (hI.out.out (k := k) (by omega))
      have hnext := Lib.hid (hI.out.next (k := k) (by omega))
      clear hthr hown hb hI kc hown5 hb5 hlen5 hv5 s5 kc2
      generalize thrAll n k d = d2 at *
      go_wp2_with fail
      refine hbel.out.mono ?_
      rintro e w6 ⟨rfl, rfl⟩
      clear hbel
      cases hbo : belowL n d2
      · have hI2 := Lib.hid (hnext.out hbo)
        clear hnext hout
        go_wp2
        go_roundw
        case rel => exact ⟨k + 1, d2, by omega, by go_num, hI2, hown5', hbn, Lib.hid hk5⟩
        case measure => simp [intOf]; omega
      · have he := Lib.hid (hout.out hbo)
        clear hnext hout
        go_wp2
        go_ret
        have : R = [] := by rw [← hR'.out, he.out]
        rw [this]
        exact ⟨_, rfl, ⟨rfl, .inl ⟨rfl, rfl⟩⟩, hbn.out⟩
    · have hke : k = n + 1 := by omega
      have hfin : Hid (d = R) := Lib.hid (by
        have := hI.out
        rw [hke] at this
        rw [this.end_, hR'.out])
      have hlen : Hid (d.length = sz n) := Lib.hid hI.out.len
      clear hI
      go_wp2
      go_ret
      rw [← hfin.out, ]
      refine ⟨_, rfl, ?_, hb.out⟩
      rw [hlen.out]
      exact hown.out
end Go.Proofs.YtimgocfkogebmaaGreatDoor
namespace Go.Proofs.YtimgocfkogebmaaGreatDoor
open Go.RowKit
set_option linter.unusedVariables false
set_option linter.unusedSimpArgs false
set_option maxRecDepth 100000 in
set_option maxHeartbeats 4000000 in
theorem rclip_any (n : Nat) (hn : n ≤ 8) (a : Option Addr) (M : List Int) (len c : Nat) (hM : len = M.length) (hl : len = sz n) (w : World) (h : Sees .i64 w.heap.size w a M) :
    Calls Tryz.prog 160 #[.int .i64 n, .slice a len c] w (Made 3 .i64 w (clipL n M)) := by
  obtain ⟨i0, hi, hz0, hz1, hz2⟩ := info_parts zinfoInt
  have h' := Lib.hid h
  have hM' := Lib.hid hM
  have hl' := Lib.hid hl
  have hn' := Lib.hid hn
  have hs81 := sz_le hn
  have hni : (n : Int) ≤ 8 := by omega
  have hlen' : Hid ((clipL n M).length = (n + 1) * (n + 1)) := Lib.hid (clip_len _ _)
  have hsn' : Hid (sz n = (n + 1) * (n + 1)) := Lib.hid rfl
  have hstep : Hid (∀ i j, i ≤ n → j ≤ n → (clipL n M).take (i * (n + 1) + j) ++ [clipF n M i j] = (clipL n M).take (i * (n + 1) + (j + 1))) := Lib.hid (fun i j h1 h2 => matL_step _ h1 h2)
  clear h hM hl hn
  generalize clipL n M = R at *
  go_enter Tryz.func160, Tryz.ntmps160
  go_wp2
  go_loopw [5, 6] (fun v x wr => ∃ (i : Nat) (pre : List Int), i ≤ n + 1 ∧ x = .int .i64 i ∧ Hid (pre = R.take (i * (n + 1))) ∧ Hid (wr.ownsRow w.heap.size 3 1 v pre.length (nums .i64 pre)) ∧ Hid (Below w.heap.size w wr)) (fun _ x _ => n + 1 - (intOf x).toNat)
  case atStart => exact ⟨0, [], by omega, rfl, Lib.hid (by simp), Lib.hid ⟨rfl, .inl ⟨rfl, rfl⟩⟩, Lib.hid (Below.refl _ _)⟩
  case round =>
    obtain ⟨i, pre, hin, rfl, hpre, hown, hb⟩ := hrel
    by_cases hlt : i < n + 1
    · have hii : (i : Int) ≤ (n : Int) := by omega
      go_wp2
      go_loopw [5, 7] (fun v x wr => ∃ (j : Nat) (pre : List Int), j ≤ n + 1 ∧ x = .int .i64 j ∧ Hid (pre = R.take (i * (n + 1) + j)) ∧ Hid (wr.ownsRow w.heap.size 3 1 v pre.length (nums .i64 pre)) ∧ Hid (Below w.heap.size w wr)) (fun _ x _ => n + 1 - (intOf x).toNat)
      case atStart => exact ⟨0, pre, by omega, rfl, hpre, hown, hb⟩
      case round =>
        clear hpre hown hb
        obtain ⟨j, pre, hjn, rfl, hpre, hown, hb⟩ := hrel
        by_cases hjt : j < n + 1
        · have hji : (j : Int) ≤ (n : Int) := by omega
          have hfar := Lib.hid (fun W => far_any i j (by omega) (by omega) W)
          have hpl : pre.length ≤ 81 := by
            rw [hpre.out, List.length_take, hlen'.out, ← hsn'.out]; omega
          have hnext : Hid (pre ++ [clipF n M i j] = R.take (i * (n + 1) + (j + 1))) := Lib.hid (by rw [hpre.out]; exact hstep.out i j (by omega) (by omega))
          obtain ⟨p, q, w1, w2, w3, hq, hqs, -, -, -⟩ := place_wraps hn'.out (show i ≤ n by omega) (show j ≤ n by omega)
          have hqn : q < len := by have := hl'.out; omega
          obtain ⟨b, off, rfl, -, hc0⟩ := sees_at' (h'.out.below hb.out) (i := q) (by have := hM'.out; omega)
          have hqi : (q : Int) < (len : Int) := by omega
          have hF : Hid (clipF n M i j = max (-2199023255553) (min (M.getD q 0) (widestF i j))) := Lib.hid (by unfold clipF mat; rw [hq])
          clear hpre hq hqs
          generalize clipF n M i j = z at *
          generalize M.getD q 0 = x at *
          generalize widestF i j = y at *
          by_cases hxy : y < x
          · by_cases hlow : y < -2199023255553
            · have hz : z = -2199023255553 := by have := hF.out; omega
              subst hz
              go_wp2_with fail
              refine (hfar.out _).mono ?_
              rintro e w6 ⟨rfl, rfl⟩
              go_wp2_with fail
              refine (hfar.out _).mono ?_
              rintro e w6 ⟨rfl, rfl⟩
              go_wp2_with (at_builtin; refine wpList_append1 _ rfl _ _ 49 rfl w 3 i0 (.int .i64 0) 8 Tryz.underlying49 hi hz0 hz1 hz2 rfl .i64 (-2199023255553) _ _ hown.out hb.out rfl rfl (by omega) (by omega) ?_; intro v' w' hown2 hb2; have hown2' := Lib.hid hown2; have hb2' := Lib.hid hb2; clear hown2 hb2)
              go_roundw
              case rel => exact ⟨j + 1, pre ++ [-2199023255553], by omega, by go_num, hnext, hown2', hb2'⟩
              case measure => simp [intOf]; omega
            · have hz : z = y := by have := hF.out; omega
              subst hz
              go_wp2_with fail
              refine (hfar.out _).mono ?_
              rintro e w6 ⟨rfl, rfl⟩
              go_wp2_with fail
              refine (hfar.out _).mono ?_
              rintro e w6 ⟨rfl, rfl⟩
              go_wp2_with (at_builtin; refine wpList_append1 _ rfl _ _ 49 rfl w 3 i0 (.int .i64 0) 8 Tryz.underlying49 hi hz0 hz1 hz2 rfl .i64 z _ _ hown.out hb.out rfl rfl (by omega) (by omega) ?_; intro v' w' hown2 hb2; have hown2' := Lib.hid hown2; have hb2' := Lib.hid hb2; clear hown2 hb2)
              go_roundw
              case rel => exact ⟨j + 1, pre ++ [z], by omega, by go_num, hnext, hown2', hb2'⟩
              case measure => simp [intOf]; omega
          · by_cases hlow : x < -2199023255553
            · have hz : z = -2199023255553 := by have := hF.out; omega
              subst hz
              go_wp2_with fail
              refine (hfar.out _).mono ?_
              rintro e w6 ⟨rfl, rfl⟩
              go_wp2_with (at_builtin; refine wpList_append1 _ rfl _ _ 49 rfl w 3 i0 (.int .i64 0) 8 Tryz.underlying49 hi hz0 hz1 hz2 rfl .i64 (-2199023255553) _ _ hown.out hb.out rfl rfl (by omega) (by omega) ?_; intro v' w' hown2 hb2; have hown2' := Lib.hid hown2; have hb2' := Lib.hid hb2; clear hown2 hb2)
              go_roundw
              case rel => exact ⟨j + 1, pre ++ [-2199023255553], by omega, by go_num, hnext, hown2', hb2'⟩
              case measure => simp [intOf]; omega
            · have hz : z = x := by have := hF.out; omega
              subst hz
              go_wp2_with fail
              refine (hfar.out _).mono ?_
              rintro e w6 ⟨rfl, rfl⟩
              go_wp2_with (at_builtin; refine wpList_append1 _ rfl _ _ 49 rfl w 3 i0 (.int .i64 0) 8 Tryz.underlying49 hi hz0 hz1 hz2 rfl .i64 z _ _ hown.out hb.out rfl rfl (by omega) (by omega) ?_; intro v' w' hown2 hb2; have hown2' := Lib.hid hown2; have hb2' := Lib.hid hb2; clear hown2 hb2)
              go_roundw
              case rel => exact ⟨j + 1, pre ++ [z], by omega, by go_num, hnext, hown2', hb2'⟩
              case measure => simp [intOf]; omega
        · have hje : j = n + 1 := by omega
          have hnext : Hid (pre = R.take ((i + 1) * (n + 1))) := Lib.hid (by rw [hpre.out, hje, Nat.add_mul, Nat.one_mul])
          clear hpre
          go_wp2
          go_roundw
          case rel => exact ⟨i + 1, pre, by omega, by go_num, hnext, hown, hb⟩
          case measure => simp [intOf]; omega
    · have hie : i = n + 1 := by omega
      have hfin : Hid (pre = R) := Lib.hid (by rw [hpre.out, hie, ← hlen'.out, List.take_length])
      clear hpre
      go_wp2
      go_ret
      rw [← hfin.out]
      exact ⟨_, rfl, hown.out, hb.out⟩
def sqP (n : Nat) (c : Nat → Nat → Int) (i j k : Nat) : Int := (List.range k).foldl (fun x k => if c i k + c k j < x then c i k + c k j else x) (c i j)
theorem sqP_next (n : Nat) (c : Nat → Nat → Int) (i j k : Nat) : sqP n c i j (k + 1) = if c i k + c k j < sqP n c i j k then c i k + c k j else sqP n c i j k := by
  unfold sqP
  rw [List.range_succ, List.foldl_append]
  rfl
set_option maxRecDepth 100000 in
set_option maxHeartbeats 4000000 in
theorem twice_any (n : Nat) (hn : n ≤ 8) (a : Option Addr) (M : List Int) (len c : Nat) (hM : len = M.length) (hl : len = sz n) (hbd : ∀ p, -100000000000000 ≤ M.getD p 0 ∧ M.getD p 0 ≤ 100000000000000) (w : World) (h : Sees .i64 w.heap.size w a M) :
    Calls Tryz.prog 161 #[.int .i64 n, .slice a len c] w (Made 3 .i64 w (twL n M)) := by
  obtain ⟨i0, hi, hz0, hz1, hz2⟩ := info_parts zinfoInt
  have h' := Lib.hid h
  have hM' := Lib.hid hM
  have hl' := Lib.hid hl
  have hn' := Lib.hid hn
  have hbd' := Lib.hid hbd
  have hs81 := sz_le hn
  have hni : (n : Int) ≤ 8 := by omega
  have hlen' : Hid ((twL n M).length = (n + 1) * (n + 1)) := Lib.hid (matL_len _ _)
  have hsn' : Hid (sz n = (n + 1) * (n + 1)) := Lib.hid rfl
  have hstep : Hid (∀ i j, i ≤ n → j ≤ n → (twL n M).take (i * (n + 1) + j) ++ [sqF n (mat n M) i j] = (twL n M).take (i * (n + 1) + (j + 1))) := Lib.hid (fun i j h1 h2 => matL_step _ h1 h2)
  have w0 : IntKind.i64.wrap ((n : Int) + 1) = (n : Int) + 1 := wrap_small (by omega) (by omega)
  clear h hM hl hn hbd
  generalize twL n M = R at *
  go_enter Tryz.func161, Tryz.ntmps161
  go_wp2
  go_loopw [5, 6] (fun v x wr => ∃ (i : Nat) (pre : List Int), i ≤ n + 1 ∧ x = .int .i64 i ∧ Hid (pre = R.take (i * (n + 1))) ∧ Hid (wr.ownsRow w.heap.size 3 1 v pre.length (nums .i64 pre)) ∧ Hid (Below w.heap.size w wr)) (fun _ x _ => n + 1 - (intOf x).toNat)
  case atStart => exact ⟨0, [], by omega, rfl, Lib.hid (by simp), Lib.hid ⟨rfl, .inl ⟨rfl, rfl⟩⟩, Lib.hid (Below.refl _ _)⟩
  case round =>
    obtain ⟨i, pre, hin, rfl, hpre, hown, hb⟩ := hrel
    by_cases hlt : i < n + 1
    · have hii : (i : Int) ≤ (n : Int) := by omega
      go_wp2
      go_loopw [5, 7] (fun v x wr => ∃ (j : Nat) (pre : List Int), j ≤ n + 1 ∧ x = .int .i64 j ∧ Hid (pre = R.take (i * (n + 1) + j)) ∧ Hid (wr.ownsRow w.heap.size 3 1 v pre.length (nums .i64 pre)) ∧ Hid (Below w.heap.size w wr)) (fun _ x _ => n + 1 - (intOf x).toNat)
      case atStart => exact ⟨0, pre, by omega, rfl, hpre, hown, hb⟩
      case round =>
        clear hpre hown hb
        obtain ⟨j, pre, hjn, rfl, hpre, hown, hb⟩ := hrel
        by_cases hjt : j < n + 1
        · have hji : (j : Int) ≤ (n : Int) := by omega
          have hpl : pre.length ≤ 81 := by
            rw [hpre.out, List.length_take, hlen'.out, ← hsn'.out]; omega
          have hnext : Hid (pre ++ [sqF n (mat n M) i j] = R.take (i * (n + 1) + (j + 1))) := Lib.hid (by rw [hpre.out]; exact hstep.out i j (by omega) (by omega))
          obtain ⟨p, q, w1, w2, w3, hq, hqs, -, hp, -⟩ := place_wraps hn'.out (show i ≤ n by omega) (show j ≤ n by omega)
          have hp2 : p = i * (n + 1) := by
            have : ((i * (n + 1) : Nat) : Int) = (p : Int) := by rw [← hp, Int.natCast_mul]; rfl
            omega
          have hpre' := Lib.hid hp2
          have hqn : q < len := by have := hl'.out; omega
          obtain ⟨b, off, rfl, -, hc0⟩ := sees_at' (h'.out.below hb.out) (i := q) (by have := hM'.out; omega)
          have hqi : (q : Int) < (len : Int) := by omega
          have hP0 : Hid (M.getD q 0 = sqP n (mat n M) i j 0) := Lib.hid (by unfold sqP mat; rw [hq]; rfl)
          have hPn : Hid (sqP n (mat n M) i j (n + 1) = sqF n (mat n M) i j) := Lib.hid rfl
          clear hpre hq hqs hp hp2
          generalize sqF n (mat n M) i j = z at *
          generalize M.getD q 0 = x at *
          go_wp2
          go_loopw [8, 9] (fun y u W => ∃ k m : Nat, k ≤ n + 1 ∧ u = .int .i64 k ∧ y = .int .i64 (sqP n (mat n M) i j k) ∧ W = wr.drewN m) (fun _ u _ => n + 1 - (intOf u).toNat)
          case atStart => exact ⟨0, 0, by omega, rfl, by rw [← hP0.out], rfl⟩
          case round =>
            obtain ⟨k, m, hkn, rfl, rfl, rfl⟩ := hrel
            by_cases hkt : k < n + 1
            · have hki : (k : Int) ≤ (n : Int) := by omega
              obtain ⟨p2, q2, -, v2, v3, hq2, hqs2, -, hp2, -⟩ := place_wraps hn'.out (show i ≤ n by omega) (show k ≤ n by omega)
              obtain ⟨p3, q3, -, u2, u3, hq3, hqs3, -, hp3, -⟩ := place_wraps hn'.out (show k ≤ n by omega) (show j ≤ n by omega)
              have hpp : p2 = p := by
                have : ((i * (n + 1) : Nat) : Int) = (p2 : Int) := by rw [← hp2, Int.natCast_mul]; rfl
                have := hpre'.out
                omega
              subst hpp
              have l1 : q2 < len := by have := hl'.out; omega
              have l2 : q3 < len := by have := hl'.out; omega
              obtain ⟨b2, off2, he2, -, hc2⟩ := sees_at' (h'.out.below hb.out) (i := q2) (by have := hM'.out; omega)
              obtain ⟨b3, off3, he3, -, hc3⟩ := sees_at' (h'.out.below hb.out) (i := q3) (by have := hM'.out; omega)
              injection he2 with he2
              injection he2 with e1 e2 _
              injection he3 with he3
              injection he3 with e3 e4 _
              subst e1 e2 e3 e4
              have hqi2 : (q2 : Int) < (len : Int) := by omega
              have hqi3 : (q3 : Int) < (len : Int) := by omega
              have hnx : Hid (sqP n (mat n M) i j (k + 1) = if M.getD q2 0 + M.getD q3 0 < sqP n (mat n M) i j k then M.getD q2 0 + M.getD q3 0 else sqP n (mat n M) i j k) := Lib.hid (by rw [sqP_next]; unfold mat; rw [hq2, hq3])
              have b1 := hbd'.out q2
              have b2 := hbd'.out q3
              clear hq2 hq3 hqs2 hqs3 hp2 hp3
              generalize M.getD q2 0 = x1 at *
              generalize M.getD q3 0 = x2 at *
              have ws : IntKind.i64.wrap (x1 + x2) = x1 + x2 := wrap_small (by omega) (by omega)
              generalize hS : sqP n (mat n M) i j k = s at *
              have hS' := Lib.hid hS
              clear hS
              by_cases hlt2 : x1 + x2 < s
              · have hnx2 : Hid (sqP n (mat n M) i j (k + 1) = x1 + x2) := Lib.hid (by rw [hnx.out, if_pos hlt2])
                clear hnx
                go_wp2
                go_quiet (fail)
                go_wp2
                go_roundw
                case rel => exact ⟨k + 1, m + nq, by omega, by go_num, by rw [hnx2.out], by simp [World.drewN, Nat.add_assoc]⟩
                case measure => simp [intOf]; omega
              · have hnx2 : Hid (sqP n (mat n M) i j (k + 1) = s) := Lib.hid (by rw [hnx.out, if_neg hlt2])
                clear hnx
                go_wp2
                go_quiet (fail)
                go_wp2
                go_roundw
                case rel => exact ⟨k + 1, m + nq, by omega, by go_num, by rw [hnx2.out], by simp [World.drewN, Nat.add_assoc]⟩
                case measure => simp [intOf]; omega
            · have hke : k = n + 1 := by omega
              have hz : sqP n (mat n M) i j k = z := by rw [hke, hPn.out]
              generalize sqP n (mat n M) i j k = s at *
              subst hz
              go_wp2_with (at_builtin; refine wpList_append1 _ rfl _ _ 49 rfl w 3 i0 (.int .i64 0) 8 Tryz.underlying49 hi hz0 hz1 hz2 rfl .i64 s _ _ (own_drewN hown.out m) (Below.drewN hb.out m) rfl rfl (by omega) (by omega) ?_; intro v' w' hown2 hb2; have hown2' := Lib.hid hown2; have hb2' := Lib.hid hb2; clear hown2 hb2)
              go_roundw
              case rel => exact ⟨j + 1, pre ++ [s], by omega, by go_num, hnext, hown2', hb2'⟩
              case measure => simp [intOf]; omega
        · have hje : j = n + 1 := by omega
          have hnext : Hid (pre = R.take ((i + 1) * (n + 1))) := Lib.hid (by rw [hpre.out, hje, Nat.add_mul, Nat.one_mul])
          clear hpre
          go_wp2
          go_roundw
          case rel => exact ⟨i + 1, pre, by omega, by go_num, hnext, hown, hb⟩
          case measure => simp [intOf]; omega
    · have hie : i = n + 1 := by omega
      have hfin : Hid (pre = R) := Lib.hid (by rw [hpre.out, hie, ← hlen'.out, List.take_length])
      clear hpre
      go_wp2
      go_ret
      rw [← hfin.out]
      exact ⟨_, rfl, hown.out, hb.out⟩
end Go.Proofs.YtimgocfkogebmaaGreatDoor
