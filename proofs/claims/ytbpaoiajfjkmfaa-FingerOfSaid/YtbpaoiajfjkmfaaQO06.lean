/-
  Words and walks under the law's proof.
-/
import Derived.Lib.Hide
import Derived.Test.YtbpaoiajfjkmfaaRows
import Derived.IntWalk
import Derived.Deep.QuietTactic
import Derived.BigQuiet
import Derived.Lib.SmallJoins
import Derived.Deep.Fields
import Derived.OpenShut
import Derived.Test.YtbpaoiajfjkmfaaQO02
import Derived.Test.YtbpaoiajfjkmfaaQO03
import Derived.Test.YtbpaoiajfjkmfaaQO04
import Derived.Test.YtbpaoiajfjkmfaaQO05
namespace Go.Proofs.Ytbpaoiajfjkmfaa
open Go.RowKit
set_option linter.unusedVariables false
set_option linter.unusedSimpArgs false
theorem infoU64' : (Try.prog.info? 29).map (fun i => (i.zero, i.size, i.bytes)) = some (some (.int .u64 0), 1, 8) := by kernel_rfl
theorem one_rank (a : AlD) (r : Nat) : oneA a (r : Int) = oneK (keyA a) r := by
  unfold oneA
  rw [show (max (r : Int) 0).toNat = r by omega]
theorem fing_take (l : List AlD) {k : Nat} (hk : k < l.length) : (fingA l).take (k + 1) = (fingA l).take k ++ [oneK (keyA (l.getD k al0)) (rankA l k)] := by
  rw [List.take_add_one, ← fing_at l hk]
  have : k < (fingA l).length := by rw [fing_len]; exact hk
  simp [List.getD, this]
theorem fone_r (a : AlD) (hk : (Lit.int .i64 a.kind).wf = true) (h : smallA a) (r : Nat) (hr : r ≤ 100) (w : World) :
    Calls Try.prog 11 #[.agg #[.int .i64 a.kind, .int .i64 a.sev, .string a.fn, .string a.file, .int .i64 a.line, .string a.expr], .int .i64 r] w (Gives (.int .u64 (oneK (keyA a) r)) w) := by
  have q := rfone_any a hk h (r : Int) (by simp [Lit.wf, IntKind.min, IntKind.max, IntKind.signed, IntKind.bits]; omega) w
  rwa [one_rank] at q
set_option maxRecDepth 100000 in
set_option maxHeartbeats 4000000 in
theorem rfofs_any (l : List AlD) (a : Option Addr) (n c : Nat) (w : World) (h : RO alC w a n c l) (hW : ∀ s ∈ l, alW s) (hS : ∀ s ∈ l, smallA s) (hn : n ≤ 100) :
    Calls Try.prog 16 #[.slice a n c] w (Made 29 .u64 w (fingA l)) := by
  obtain ⟨i0, hi, hz0, hz1, hz2⟩ := info_parts infoU64'
  have hlen := h.len
  have hm : (n : Int) ≤ 100 := by omega
  have hRO := Lib.hid h
  have hlen' := Lib.hid hlen
  have hg : Hid (∀ j, j < n → alW (l.getD j al0) ∧ smallA (l.getD j al0)) := Lib.hid (fun j hj => by
    have q : l.getD j al0 ∈ l := (by rw [hlen] at hj; simp [List.getD, hj])
    exact ⟨hW _ q, hS _ q⟩)
  have hrk := Lib.hid (fun (k : Nat) (hk : k < n) (W : World) (h : RO alC W a n c l) => rrank_any l a n c W h hW hS k hk hn)
  have hrl := Lib.hid (fun i => rank_le l i)
  have htk := Lib.hid (fun (k : Nat) (hk : k < n) => fing_take l (k := k) (by rw [← hlen]; exact hk))
  have hfl : Hid ((fingA l).length = n) := Lib.hid (by rw [fing_len, hlen])
  clear h hW hS hlen
  generalize fingA l = FL at *
  go_enter Try.func16, Try.ntmps16
  go_wp2
  go_loopw [3, 4] (fun x y wr => ∃ k : Nat, k ≤ n ∧ y = .int .i64 k ∧ Hid (wr.ownsRow w.heap.size 29 1 x k (nums .u64 (FL.take k))) ∧ Hid (Below w.heap.size w wr)) (fun _ y _ => n - (intOf y).toNat)
  case atStart => exact ⟨0, Nat.zero_le _, rfl, Lib.hid ⟨by simp [nums], .inl ⟨rfl, rfl⟩⟩, Lib.hid (Below.refl _ _)⟩
  case round =>
    obtain ⟨k, hk, rfl, hO, hB⟩ := hrel
    generalize wr = g0 at *
    by_cases hlt : k < n
    · have hki : (k : Int) < (n : Int) := by omega
      obtain ⟨b, off, rfl, hlb, x0, x1, x2, x3, x4, x5⟩ := al_at hRO.out hlt
      obtain ⟨⟨wk, -⟩, smk⟩ := hg.out k hlt
      have hr100 : rankA l k ≤ 100 := by have := hrl.out k; have := hlen'.out; omega
      have q1 := Lib.hid (hrk.out k hlt)
      have q2 := Lib.hid (fun W => fone_r (l.getD k al0) wk smk (rankA l k) hr100 W)
      have ht := Lib.hid (htk.out k hlt)
      have hFk : Hid ((FL.take k).length = k) := Lib.hid (by have := hfl.out; simp; omega)
      clear wk smk hr100
      have y0 : ∀ W, Below w.heap.size w W → W.cell? ⟨b, off + k * 6, none⟩ = some (.int .i64 (l.getD k al0).kind) := fun W hW => (hW.cell (p := ⟨b, off + k * 6, none⟩) hlb).trans x0
      have y1 : ∀ W, Below w.heap.size w W → W.cell? ⟨b, off + k * 6 + 1, none⟩ = some (.int .i64 (l.getD k al0).sev) := fun W hW => (hW.cell (p := ⟨b, off + k * 6 + 1, none⟩) hlb).trans x1
      have y2 : ∀ W, Below w.heap.size w W → W.cell? ⟨b, off + k * 6 + 2, none⟩ = some (.string (l.getD k al0).fn) := fun W hW => (hW.cell (p := ⟨b, off + k * 6 + 2, none⟩) hlb).trans x2
      have y3 : ∀ W, Below w.heap.size w W → W.cell? ⟨b, off + k * 6 + 3, none⟩ = some (.string (l.getD k al0).file) := fun W hW => (hW.cell (p := ⟨b, off + k * 6 + 3, none⟩) hlb).trans x3
      have y4 : ∀ W, Below w.heap.size w W → W.cell? ⟨b, off + k * 6 + 4, none⟩ = some (.int .i64 (l.getD k al0).line) := fun W hW => (hW.cell (p := ⟨b, off + k * 6 + 4, none⟩) hlb).trans x4
      have y5 : ∀ W, Below w.heap.size w W → W.cell? ⟨b, off + k * 6 + 5, none⟩ = some (.string (l.getD k al0).expr) := fun W hW => (hW.cell (p := ⟨b, off + k * 6 + 5, none⟩) hlb).trans x5
      clear x0 x1 x2 x3 x4 x5
      generalize oneK (keyA (l.getD k al0)) (rankA l k) = R at *
      generalize rankA l k = r at *
      generalize l.getD k al0 = A at *
      obtain ⟨ak, av, af, ai, al, ax⟩ := A
      dsimp only at *
      have hst := Lib.hid (hB.out.drew)
      go_wp2
      refine wp_drawn_on (fun W => Below w.heap.size w W) (by kernel_rfl) (hst.out) (fun hHeld => ?_)
      refine wpAnyH_take (i := 0) (oi := { dst := some 11, op := Go.Op.move (Go.Operand.tmp 3), type := 36, pos := "ref.go:39", after := #[], guard := none }) (v := ?v1) rfl (by kernel_rfl) (by kernel_rfl) (by kernel_rfl) (fun _ _ _ h => h) (Or.inl ⟨by kernel_rfl, ?h1⟩) (by assumption) ?r1
      case h1 => (intro w hSw; (try dsimp only at hSw); go_simp; try with_reducible rfl)
      try simp only [Act.put, List.setIfInBounds_toArray, List.set_cons_zero, List.set_cons_succ]
      refine wpAnyH_take (i := 1) (oi := { dst := some 12, op := Go.Op.move (Go.Operand.tmp 0), type := 22, pos := "ref.go:39", after := #[], guard := none }) (v := ?v2) rfl (by kernel_rfl) (by kernel_rfl) (by kernel_rfl) (fun _ _ _ h => h) (Or.inl ⟨by kernel_rfl, ?h2⟩) (by assumption) ?r2
      case h2 => (intro w hSw; (try dsimp only at hSw); go_simp; try with_reducible rfl)
      try simp only [Act.put, List.setIfInBounds_toArray, List.set_cons_zero, List.set_cons_succ]
      refine wpAnyH_take (i := 2) (oi := { dst := some 13, op := Go.Op.move (Go.Operand.tmp 4), type := 3, pos := "ref.go:39", after := #[], guard := none }) (v := ?v3) rfl (by kernel_rfl) (by kernel_rfl) (by kernel_rfl) (fun _ _ _ h => h) (Or.inl ⟨by kernel_rfl, ?h3⟩) (by assumption) ?r3
      case h3 => (intro w hSw; (try dsimp only at hSw); go_simp; try with_reducible rfl)
      try simp only [Act.put, List.setIfInBounds_toArray, List.set_cons_zero, List.set_cons_succ]
      refine wpAnyH_take (i := 3) (oi := { dst := some 14, op := Go.Op.indexAddr 22 (Go.Operand.tmp 12) (Go.Operand.tmp 13), type := 0, pos := "ref.go:39", after := #[{ on := 1, ground := Go.Ground.data }, { on := 2, ground := Go.Ground.data }], guard := none }) (v := ?v4) rfl (by kernel_rfl) (by kernel_rfl) (by kernel_rfl) (fun _ _ _ h => h) (Or.inl ⟨by kernel_rfl, ?h4⟩) (by assumption) ?r4
      case h4 => (intro w hSw; (try dsimp only at hSw); go_simp; try with_reducible rfl)
      try simp only [Act.put, List.setIfInBounds_toArray, List.set_cons_zero, List.set_cons_succ]
      refine wpAnyH_take (i := 4) (oi := { dst := some 15, op := Go.Op.load 24 (Go.Operand.tmp 14), type := 24, pos := "ref.go:39", after := #[{ on := 3, ground := Go.Ground.data }], guard := none }) (v := ?v5) rfl (by kernel_rfl) (by kernel_rfl) (by kernel_rfl) (fun _ _ _ h => h) (Or.inl ⟨by kernel_rfl, ?h5⟩) (by assumption) ?r5
      case h5 => (intro w hSw; (try dsimp only at hSw); go_simp; try with_reducible rfl)
      try simp only [Act.put, List.setIfInBounds_toArray, List.set_cons_zero, List.set_cons_succ]
      refine wpAnyH_take (i := 5) (oi := { dst := some 16, op := Go.Op.move (Go.Operand.tmp 0), type := 22, pos := "ref.go:39", after := #[], guard := none }) (v := ?v6) rfl (by kernel_rfl) (by kernel_rfl) (by kernel_rfl) (fun _ _ _ h => h) (Or.inl ⟨by kernel_rfl, ?h6⟩) (by assumption) ?r6
      case h6 => (intro w hSw; (try dsimp only at hSw); go_simp; try with_reducible rfl)
      try simp only [Act.put, List.setIfInBounds_toArray, List.set_cons_zero, List.set_cons_succ]
      refine wpAnyH_take (i := 6) (oi := { dst := some 17, op := Go.Op.move (Go.Operand.tmp 4), type := 3, pos := "ref.go:39", after := #[], guard := none }) (v := ?v7) rfl (by kernel_rfl) (by kernel_rfl) (by kernel_rfl) (fun _ _ _ h => h) (Or.inl ⟨by kernel_rfl, ?h7⟩) (by assumption) ?r7
      case h7 => (intro w hSw; (try dsimp only at hSw); go_simp; try with_reducible rfl)
      try simp only [Act.put, List.setIfInBounds_toArray, List.set_cons_zero, List.set_cons_succ]
      refine wpAnyH_ready (rs := [7]) (by kernel_rfl) (by simp) ?_
      refine AllReadyH.cons (o := { dst := some 18, op := Go.Op.call { callee := Go.Callee.value (Go.Operand.func 9), args := #[Go.Operand.tmp 16, Go.Operand.tmp 17], argTypes := #[22, 3] }, type := 3, pos := "ref.go:39", after := #[{ on := 5, ground := Go.Ground.data }, { on := 6, ground := Go.Ground.data }], guard := none }) rfl (fun K hK => ?_) AllReadyH.nil
      go_simp
      with_reducible refine (q1.out _ (hRO.out.below hHeld)).mono ?_
      rintro e g1 ⟨rfl, b1⟩
      go_simp
      refine hK.out _ _ (hHeld.trans (b1.mono hHeld.size)) (fun hHeld => ?_)
      clear hK K
      try simp only [Act.put, List.setIfInBounds_toArray, List.set_cons_zero, List.set_cons_succ]
      refine wpAnyH_ready (rs := [8]) (by kernel_rfl) (by simp) ?_
      refine AllReadyH.cons (o := { dst := some 19, op := Go.Op.call { callee := Go.Callee.value (Go.Operand.func 11), args := #[Go.Operand.tmp 15, Go.Operand.tmp 18], argTypes := #[24, 3] }, type := 29, pos := "ref.go:39", after := #[{ on := 4, ground := Go.Ground.data }, { on := 7, ground := Go.Ground.data }, { on := 7, ground := Go.Ground.chain }], guard := none }) rfl (fun K hK => ?_) AllReadyH.nil
      go_simp
      with_reducible refine (q2.out _).mono ?_
      rintro e g2 ⟨rfl, b2⟩
      go_simp
      refine hK.out _ _ (hHeld.trans (b2.mono hHeld.size)) (fun hHeld => ?_)
      clear hK K
      try simp only [Act.put, List.setIfInBounds_toArray, List.set_cons_zero, List.set_cons_succ]
      refine wpAnyH_ready (rs := [9]) (by kernel_rfl) (by simp) ?_
      refine AllReadyH.cons (o := { dst := some 20, op := Go.Op.buildSlice 36 1 #[(0, Go.Operand.tmp 19)], type := 36, pos := "ref.go:39", after := #[{ on := 8, ground := Go.Ground.data }], guard := none }) rfl (fun K hK => ?_) AllReadyH.nil
      go_simp
      refine hK.out _ _ (hHeld.alloc hHeld.size _) (fun hHeld => ?_)
      clear hK K
      try simp only [Act.put, List.setIfInBounds_toArray, List.set_cons_zero, List.set_cons_succ]
      refine wpAnyH_ready (rs := [10]) (by kernel_rfl) (by simp) ?_
      refine AllReadyH.cons (o := { dst := some 21, op := Go.Op.call { callee := Go.Callee.builtin Go.Builtin.append, args := #[Go.Operand.tmp 11, Go.Operand.tmp 20], argTypes := #[36, 36] }, type := 36, pos := "ref.go:39", after := #[{ on := 0, ground := Go.Ground.data }, { on := 9, ground := Go.Ground.data }, { on := 8, ground := Go.Ground.chain }], guard := none }) rfl (fun K hK => ?_) AllReadyH.nil
      have hOz := own_below (own_below (own_below hO.out (Below.fromDrew b1)) b2) (box_below g2 #[.int .u64 R] 29)
      refine wp_append_foot _ (.tmp 11) (.tmp 20) 36 rfl 29 i0 (.int .u64 0) 8 Try.underlying36 hi hz0 hz1 hz2 rfl .u64 u3 (FL.take k) (by rw [hFk.out]; exact own_zero hOz) _ _ [R] (sees_new .u64 g2 29 [R] _ rfl) 1 1 rfl rfl rfl (by rw [hFk.out]; unfold maxLen; simp only [List.length_singleton]; omega) (by rw [hFk.out]; simp only [List.length_singleton]; omega) ?_
      intro v' g3 own1 grow1 blk1
      have hg2 : Below w.heap.size w g3 := hHeld.grown grow1 hHeld.size (fun q hq => (hOz.lt q hq).1)
      have own2 : g3.ownsRow w.heap.size 29 1 v' (k + 1) (nums .u64 (FL.take (k + 1))) := (by
      rw [ht.out]
      have e1 : (FL.take k ++ [R]).length = k + 1 := (by rw [List.length_append, hFk.out]; rfl)
      rw [e1] at own1
      exact own_from own1 (fun q hq => (blk1.elim (fun h => (hOz.lt q (by rw [← h]; exact hq)).1) (fun h => (by rw [h] at hq; injection hq with hq; rw [← hq]; exact hHeld.size)))))
      refine hK.out _ _ (hg2) (fun hHeld => ?_)
      clear hK K
      try simp only [Act.put, List.setIfInBounds_toArray, List.set_cons_zero, List.set_cons_succ]
      refine wpAnyH_take (i := 11) (oi := { dst := some 3, op := Go.Op.assign (Go.Operand.tmp 21), type := 36, pos := "ref.go:39", after := #[{ on := 10, ground := Go.Ground.data }, { on := 10, ground := Go.Ground.chain }, { on := 0, ground := Go.Ground.phase }, { on := 1, ground := Go.Ground.phase }, { on := 2, ground := Go.Ground.phase }, { on := 3, ground := Go.Ground.phase }, { on := 4, ground := Go.Ground.phase }, { on := 5, ground := Go.Ground.phase }, { on := 6, ground := Go.Ground.phase }, { on := 7, ground := Go.Ground.phase }, { on := 8, ground := Go.Ground.phase }, { on := 9, ground := Go.Ground.phase }, { on := 10, ground := Go.Ground.phase }], guard := none }) (v := ?v8) rfl (by kernel_rfl) (by kernel_rfl) (by kernel_rfl) (fun _ _ _ h => h) (Or.inl ⟨by kernel_rfl, ?h8⟩) (by assumption) ?r8
      case h8 => (intro w hSw; (try dsimp only at hSw); go_simp; try with_reducible rfl)
      try simp only [Act.put, List.setIfInBounds_toArray, List.set_cons_zero, List.set_cons_succ]
      refine wpAnyH_done (by kernel_rfl) ?_ _
      have own3 := Lib.hid own2
      have hg3 := Lib.hid hHeld
      clear own1 own2 grow1 blk1 hOz hg2 hHeld b1 b2 hO hB hst
      go_wp2
      go_roundw
      case rel => exact ⟨k + 1, by omega, by go_num, own3, hg3⟩
      case measure => simp [intOf]; omega
    · obtain rfl : k = n := by omega
      have hki : ¬ (k : Int) < (k : Int) := by omega
      have hO2 := hO.out
      rw [List.take_of_length_le (by rw [hfl.out]; exact Nat.le_refl _)] at hO2
      have hO3 := Lib.hid hO2
      clear hO2 hO
      go_wp2
      go_ret
      exact ⟨_, rfl, by rw [hfl.out]; exact hO3.out, hB.out⟩
end Go.Proofs.Ytbpaoiajfjkmfaa
namespace Go.Proofs.Ytbpaoiajfjkmfaa
open Go.RowKit
set_option linter.unusedVariables false
set_option linter.unusedSimpArgs false
structure SU (k : IntKind) (w : World) (a : Option Addr) (m c : Nat) (l : List Int) : Prop where
  len : m = l.length
  max : m ≤ 9223372036854775807
  sees : Sees k w.heap.size w a l
theorem SU.below {k : IntKind} {w w' : World} {a : Option Addr} {m c : Nat} {l : List Int} (h : SU k w a m c l) (hb : Below w.heap.size w w') : SU k w' a m c l := ⟨h.len, h.max, (h.sees.below hb).mono hb.size⟩
def DrawnT (v : Value) (w : World) (e : Ending) (w' : World) : Prop := e = .returned v ∧ ∃ m, w' = w.drewN m
set_option maxRecDepth 100000 in
set_option maxHeartbeats 2000000 in
theorem rfsame_any (a1 a2 : Option Addr) (l1 l2 : List Int) (n1 n2 c1 c2 : Nat) (w : World) (h1 : SU .u64 w a1 n1 c1 l1) (h2 : SU .u64 w a2 n2 c2 l2) :
    Calls Try.prog 14 #[.slice a1 n1 c1, .slice a2 n2 c2] w (DrawnT (.bool (decide (l1 = l2))) w) := by
  have e1 := Lib.hid h1.len
  have e2 := Lib.hid h2.len
  have g1 := Lib.hid h1
  have g2 := Lib.hid h2
  have b1 : (n1 : Int) ≤ 9223372036854775807 := by have := h1.max; omega
  clear h1 h2
  by_cases hn : n1 = n2
  case neg =>
    have hr : decide (l1 = l2) = false := decide_eq_false (fun e => hn (by rw [e1.out, e2.out, e]))
    rw [hr]
    have hi2 : ((n1 : Int) != (n2 : Int)) = true := by simp; omega
    clear hr hn
    go_enter Try.func14, Try.ntmps14
    go_wp2
    go_ret
    exact ⟨rfl, 0, rfl⟩
  subst hn
  go_enter Try.func14, Try.ntmps14
  go_wp2
  go_loopw [5] (fun x wr => ∃ k m : Nat, k ≤ n1 ∧ x = .int .i64 k ∧ Hid (∀ j, j < k → l1.getD j 0 = l2.getD j 0) ∧ wr = w.drewN m) (fun x _ => n1 - (intOf x).toNat)
  case atStart => exact ⟨0, 0, Nat.zero_le _, rfl, Lib.hid (by intro j hj; omega), rfl⟩
  case round =>
    obtain ⟨k, m, hk, rfl, he, rfl⟩ := hrel
    by_cases hlt : k < n1
    · obtain ⟨b1, o1, rfl, -, x1⟩ := sees_num g1.out.sees (i := k) (by rw [← e1.out]; exact hlt)
      obtain ⟨b2, o2, rfl, -, x2⟩ := sees_num g2.out.sees (i := k) (by rw [← e2.out]; exact hlt)
      have hki : (k : Int) < (n1 : Int) := by omega
      have hyes : Hid (l1.getD k 0 = l2.getD k 0 → ∀ j, j < k + 1 → l1.getD j 0 = l2.getD j 0) := Lib.hid (fun hx j hj => by
        by_cases e : j = k
        · subst e; exact hx
        · exact he.out j (by omega))
      have hno : Hid (¬ l1.getD k 0 = l2.getD k 0 → decide (l1 = l2) = false) := Lib.hid (fun hx => decide_eq_false (fun e => hx (by rw [e])))
      generalize l1.getD k 0 = v1 at *
      generalize l2.getD k 0 = v2 at *
      by_cases hv : v1 = v2
      · have hy := Lib.hid (hyes.out hv)
        subst hv
        have hvv : (v1 != v1) = false := by simp
        clear hyes hno he
        go_wp2
        go_quiet (fail)
        go_wp2
        go_roundw
        case rel => exact ⟨k + 1, m + nq, by omega, by go_num, hy, by simp [World.drewN, Nat.add_assoc]⟩
        case measure => simp [intOf]; omega
      · have hvv : (v1 != v2) = true := by simp [hv]
        rw [hno.out hv]
        clear hyes hno he hv
        go_wp2
        go_quiet (fail)
        go_wp2
        go_ret
        exact ⟨rfl, m + nq, by simp [World.drewN, Nat.add_assoc]⟩
    · obtain rfl : k = n1 := by omega
      have hki : ¬ (k : Int) < (k : Int) := by omega
      have hy : decide (l1 = l2) = true := decide_eq_true (by
        apply List.ext_getElem
        · rw [← e1.out, e2.out]
        · intro i a b
          have := he.out i (by rw [e1.out]; exact a)
          simpa [List.getD, a, b] using this)
      have hy' := Lib.hid hy
      clear hy he
      go_wp2
      go_ret
      exact ⟨by rw [hy'.out]; rfl, m, rfl⟩
end Go.Proofs.Ytbpaoiajfjkmfaa
namespace Go.Proofs.Ytbpaoiajfjkmfaa
open Go.RowKit
set_option linter.unusedVariables false
set_option linter.unusedSimpArgs false
def lvA : AlD := ⟨1, 1, ⟨#[102]⟩, ⟨#[97, 46, 103, 111]⟩, 9, ⟨#[120, 32, 45, 32, 121, 32, 60, 61, 32, 48]⟩⟩
def lvB : AlD := ⟨1, 1, ⟨#[102]⟩, ⟨#[97, 46, 103, 111]⟩, 3, ⟨#[120, 45, 121, 32, 60, 61, 48]⟩⟩
theorem lv_key : keyA lvA = keyA lvB := by
  unfold keyA lvA lvB
  have e : normS (codes ⟨#[120, 32, 45, 32, 121, 32, 60, 61, 32, 48]⟩) = normS (codes ⟨#[120, 45, 121, 32, 60, 61, 48]⟩) := by
    rw [show codes ⟨#[120, 32, 45, 32, 121, 32, 60, 61, 32, 48]⟩ = [120, 32, 45, 32, 121, 32, 60, 61, 32, 48] by rfl, show codes ⟨#[120, 45, 121, 32, 60, 61, 48]⟩ = [120, 45, 121, 32, 60, 61, 48] by rfl]
    simp [normS, normL, hw, partsL, wdB, letB]
  rw [e]
theorem lv_cmp1 : cmpA lvA lvB = 1 := by decide +kernel
theorem lv_cmp2 : cmpA lvB lvA = -1 := by decide +kernel
theorem lv_rank0 : rankA [lvA, lvB] 0 = 1 := by
  unfold rankA rankL
  have e : List.range [lvA, lvB].length = [0, 1] := rfl
  rw [e]
  have s0 : aheadB cmpA [lvA, lvB] al0 0 0 = false := ahead_self cmA _ _ _
  have s1 : aheadB cmpA [lvA, lvB] al0 1 0 = true := by unfold aheadB; rw [show [lvA, lvB].getD 1 al0 = lvB from rfl, show [lvA, lvB].getD 0 al0 = lvA from rfl, lv_cmp2]; rfl
  have k1 : keyA ([lvA, lvB].getD 1 al0) = keyA ([lvA, lvB].getD 0 al0) := lv_key.symm
  simp only [List.countP_cons, List.countP_nil, s0, s1, Bool.false_and, Bool.true_and]
  rw [decide_eq_true k1]
  rfl
theorem lv_rank1 : rankA [lvA, lvB] 1 = 0 := by
  unfold rankA rankL
  have e : List.range [lvA, lvB].length = [0, 1] := rfl
  rw [e]
  have s0 : aheadB cmpA [lvA, lvB] al0 1 1 = false := ahead_self cmA _ _ _
  have s1 : aheadB cmpA [lvA, lvB] al0 0 1 = false := by unfold aheadB; rw [show [lvA, lvB].getD 1 al0 = lvB from rfl, show [lvA, lvB].getD 0 al0 = lvA from rfl, lv_cmp1]; rfl
  simp only [List.countP_cons, List.countP_nil, s0, s1, Bool.false_and]
  rfl
theorem lv_ranks : (List.range 2).map (fun i => (rankA [lvA, lvB] i : Int)) = [1, 0] := by
  rw [show List.range 2 = [0, 1] from rfl]
  simp only [List.map_cons, List.map_nil, lv_rank0, lv_rank1]
  rfl
theorem lv_fing : (List.range 2).map (fun i => oneK (keyA ([lvA, lvB].getD i al0)) (rankA [lvA, lvB] i)) = [oneK (keyA lvA) 1, oneK (keyA lvA) 0] := by
  rw [show List.range 2 = [0, 1] from rfl]
  simp only [List.map_cons, List.map_nil, lv_rank0, lv_rank1]
  rw [show [lvA, lvB].getD 1 al0 = lvB from rfl, show [lvA, lvB].getD 0 al0 = lvA from rfl, lv_key]
theorem lv_ne (k : List Int) : (oneK k 1 != oneK k 0) = true := by
  rw [bne_iff_ne]
  intro h
  unfold oneK at h
  rw [leb_small (by omega), leb_small (by omega)] at h
  have := fstep_inj (t := fsum fstart k) (x := 1) (y := 0) (fsum_in fstart_in k) (by unfold InU; omega) (by unfold InU; omega) h
  omega
theorem lv_w : ∀ s ∈ [lvA, lvB], alW s := by
  intro s hs
  simp at hs
  rcases hs with rfl | rfl <;> (unfold alW; decide)
theorem lv_s : ∀ s ∈ [lvA, lvB], smallA s := by
  intro s hs
  simp at hs
  rcases hs with rfl | rfl <;> (unfold smallA; decide)
theorem lv_lit (w : World) (cs : Array Value) (h : cs.toList = [lvA, lvB].flatMap alC) : RO alC (w.alloc (.cells cs 24)) (some ⟨w.heap.size, 0, none⟩) 2 2 [lvA, lvB] := by
  refine ⟨rfl, Nat.le_refl _, by decide, ?_⟩
  rw [← h]
  exact seesC_lit w _ cs
set_option maxRecDepth 100000 in
set_option maxHeartbeats 4000000 in
theorem flives_any (w : World) : Calls Try.prog 8 #[] w (Gives (.bool true) w) := by
  have q1 := Lib.hid (fun (a : Option Addr) (W : World) (h : RO alC W a 2 2 [lvA, lvB]) => frankss_any [lvA, lvB] a 2 2 W h lv_w lv_s (by omega))
  have q2 := Lib.hid (fun (a : Option Addr) (W : World) (h : RO alC W a 2 2 [lvA, lvB]) => fofs_any [lvA, lvB] a 2 2 W h lv_w lv_s (by omega))
  have q3 : Hid (∀ W, Calls Try.prog 10 #[.agg #[.int .i64 1, .int .i64 1, .string ⟨#[102]⟩, .string ⟨#[97, 46, 103, 111]⟩, .int .i64 3, .string ⟨#[120, 45, 121, 32, 60, 61, 48]⟩], .int .i64 1] W (Gives (.int .u64 (oneA lvB 1)) W)) := Lib.hid (fun (W : World) => fone_any lvB (by decide) (by unfold smallA; decide) 1 (by decide) W)
  have q4 : Hid (∀ W, Calls Try.prog 10 #[.agg #[.int .i64 1, .int .i64 1, .string ⟨#[102]⟩, .string ⟨#[97, 46, 103, 111]⟩, .int .i64 9, .string ⟨#[120, 32, 45, 32, 121, 32, 60, 61, 32, 48]⟩], .int .i64 0] W (Gives (.int .u64 (oneA lvA 0)) W)) := Lib.hid (fun (W : World) => fone_any lvA (by decide) (by unfold smallA; decide) 0 (by decide) W)
  rw [lv_ranks] at q1
  rw [lv_fing] at q2
  have e3 : oneA lvB 1 = oneK (keyA lvA) 1 := by unfold oneA; rw [lv_key]; rfl
  have e4 : oneA lvA 0 = oneK (keyA lvA) 0 := rfl
  rw [e3] at q3
  rw [e4] at q4
  have hne := lv_ne (keyA lvA)
  clear e3 e4
  generalize oneK (keyA lvA) 1 = R1 at *
  generalize oneK (keyA lvA) 0 = R0 at *
  obtain ⟨W1, hW1⟩ : ∃ W1, W1 = ((w.alloc (.cells #[.int .i64 1, .int .i64 1, .string ⟨#[102]⟩, .string ⟨#[97, 46, 103, 111]⟩, .int .i64 9, .string ⟨#[120, 32, 45, 32, 121, 32, 60, 61, 32, 48]⟩] 24)).alloc (.cells #[.int .i64 1, .int .i64 1, .string ⟨#[102]⟩, .string ⟨#[97, 46, 103, 111]⟩, .int .i64 3, .string ⟨#[120, 45, 121, 32, 60, 61, 48]⟩] 24)).alloc (.cells #[.int .i64 1, .int .i64 1, .string ⟨#[102]⟩, .string ⟨#[97, 46, 103, 111]⟩, .int .i64 9, .string ⟨#[120, 32, 45, 32, 121, 32, 60, 61, 32, 48]⟩, .int .i64 1, .int .i64 1, .string ⟨#[102]⟩, .string ⟨#[97, 46, 103, 111]⟩, .int .i64 3, .string ⟨#[120, 45, 121, 32, 60, 61, 48]⟩] 24) := ⟨_, rfl⟩
  have B1 : Hid (Below w.heap.size w W1) := Lib.hid (by rw [hW1]; exact (box2_below _ _ _ _ _).alloc (by simp; omega) _)
  have ZA : Hid (Holds W1 w.heap.size 24 #[.int .i64 1, .int .i64 1, .string ⟨#[102]⟩, .string ⟨#[97, 46, 103, 111]⟩, .int .i64 9, .string ⟨#[120, 32, 45, 32, 121, 32, 60, 61, 32, 48]⟩]) := Lib.hid (by rw [hW1]; exact ((Holds.new w _ _).alloc _).alloc _)
  have ZB : Hid (Holds W1 (w.heap.size + 1) 24 #[.int .i64 1, .int .i64 1, .string ⟨#[102]⟩, .string ⟨#[97, 46, 103, 111]⟩, .int .i64 3, .string ⟨#[120, 45, 121, 32, 60, 61, 48]⟩]) := Lib.hid (by rw [hW1]; have q := (Holds.new (w.alloc (.cells #[.int .i64 1, .int .i64 1, .string ⟨#[102]⟩, .string ⟨#[97, 46, 103, 111]⟩, .int .i64 9, .string ⟨#[120, 32, 45, 32, 121, 32, 60, 61, 32, 48]⟩] 24)) 24 #[.int .i64 1, .int .i64 1, .string ⟨#[102]⟩, .string ⟨#[97, 46, 103, 111]⟩, .int .i64 3, .string ⟨#[120, 45, 121, 32, 60, 61, 48]⟩]).alloc (.cells #[.int .i64 1, .int .i64 1, .string ⟨#[102]⟩, .string ⟨#[97, 46, 103, 111]⟩, .int .i64 9, .string ⟨#[120, 32, 45, 32, 121, 32, 60, 61, 32, 48]⟩, .int .i64 1, .int .i64 1, .string ⟨#[102]⟩, .string ⟨#[97, 46, 103, 111]⟩, .int .i64 3, .string ⟨#[120, 45, 121, 32, 60, 61, 48]⟩] 24); simpa using q)
  have R1' : Hid (RO alC W1 (some ⟨w.heap.size + 1 + 1, 0, none⟩) 2 2 [lvA, lvB]) := Lib.hid (by rw [hW1]; have q := lv_lit ((w.alloc (.cells #[.int .i64 1, .int .i64 1, .string ⟨#[102]⟩, .string ⟨#[97, 46, 103, 111]⟩, .int .i64 9, .string ⟨#[120, 32, 45, 32, 121, 32, 60, 61, 32, 48]⟩] 24)).alloc (.cells #[.int .i64 1, .int .i64 1, .string ⟨#[102]⟩, .string ⟨#[97, 46, 103, 111]⟩, .int .i64 3, .string ⟨#[120, 45, 121, 32, 60, 61, 48]⟩] 24)) #[.int .i64 1, .int .i64 1, .string ⟨#[102]⟩, .string ⟨#[97, 46, 103, 111]⟩, .int .i64 9, .string ⟨#[120, 32, 45, 32, 121, 32, 60, 61, 32, 48]⟩, .int .i64 1, .int .i64 1, .string ⟨#[102]⟩, .string ⟨#[97, 46, 103, 111]⟩, .int .i64 3, .string ⟨#[120, 45, 121, 32, 60, 61, 48]⟩] rfl; simpa using q)
  have hW1' := Lib.hid hW1
  clear hW1
  go_enter Try.func8, Try.ntmps8
  go_wp2_with fail
  rw [← hW1'.out]
  with_reducible refine (q1.out _ _ R1'.out).mono ?_
  rintro e w2 h2
  obtain ⟨a2, c2, rfl, s2, b2⟩ := h2.open 2 rfl
  clear h2 q1 R1' hW1'
  replace ZA := Lib.hid (ZA.out.below b2 ZA.out.lt)
  replace ZB := Lib.hid (ZB.out.below b2 ZB.out.lt)
  replace B1 := Lib.hid (B1.out.trans (b2.mono B1.out.size))
  have xa0 := ZA.out.cell 0
  have xa1 := ZA.out.cell 1
  have xa2 := ZA.out.cell 2
  have xa3 := ZA.out.cell 3
  have xa4 := ZA.out.cell 4
  have xa5 := ZA.out.cell 5
  have xb0 := ZB.out.cell 0
  have xb1 := ZB.out.cell 1
  have xb2 := ZB.out.cell 2
  have xb3 := ZB.out.cell 3
  have xb4 := ZB.out.cell 4
  have xb5 := ZB.out.cell 5
  simp at xa0 xa1 xa2 xa3 xa4 xa5 xb0 xb1 xb2 xb3 xb4 xb5
  have s2' := Lib.hid s2
  have R2' := Lib.hid (lv_lit w2 #[.int .i64 1, .int .i64 1, .string ⟨#[102]⟩, .string ⟨#[97, 46, 103, 111]⟩, .int .i64 9, .string ⟨#[120, 32, 45, 32, 121, 32, 60, 61, 32, 48]⟩, .int .i64 1, .int .i64 1, .string ⟨#[102]⟩, .string ⟨#[97, 46, 103, 111]⟩, .int .i64 3, .string ⟨#[120, 45, 121, 32, 60, 61, 48]⟩] rfl)
  have B2 := Lib.hid (box_below w2 #[.int .i64 1, .int .i64 1, .string ⟨#[102]⟩, .string ⟨#[97, 46, 103, 111]⟩, .int .i64 9, .string ⟨#[120, 32, 45, 32, 121, 32, 60, 61, 32, 48]⟩, .int .i64 1, .int .i64 1, .string ⟨#[102]⟩, .string ⟨#[97, 46, 103, 111]⟩, .int .i64 3, .string ⟨#[120, 45, 121, 32, 60, 61, 48]⟩] 24)
  clear s2 b2
  go_wp2_with fail
  with_reducible refine (q2.out _ _ R2'.out).mono ?_
  rintro e w3 h3
  obtain ⟨a3, c3, rfl, s3, b3⟩ := h3.open 2 rfl
  have b3' := Lib.hid (B2.out.trans (b3.mono B2.out.size))
  clear h3 q2 R2' xa0 xa1 xa2 xa3 xa4 xa5 xb0 xb1 xb2 xb3 xb4 xb5 B2 b3
  replace ZA := Lib.hid (ZA.out.below b3'.out ZA.out.lt)
  replace ZB := Lib.hid (ZB.out.below b3'.out ZB.out.lt)
  replace B1 := Lib.hid (B1.out.trans (b3'.out.mono B1.out.size))
  have s4 := s2'.out.below b3'.out
  rcases s4 with h | ⟨g4, o4, rfl, l4, c4⟩
  · cases h
  rcases s3 with h | ⟨g5, o5, rfl, l5, c5⟩
  · cases h
  have l4' : g4 < w3.heap.size := Nat.lt_of_lt_of_le l4 b3'.out.size
  have p0 : ∀ V, Below w3.heap.size w3 V → V.cell? ⟨g4, o4, none⟩ = some (.int .i64 1) := fun V hV => (hV.cell (p := ⟨g4, o4, none⟩) l4').trans (c4 0 (by decide))
  have p1 : ∀ V, Below w3.heap.size w3 V → V.cell? ⟨g4, o4 + 1, none⟩ = some (.int .i64 0) := fun V hV => (hV.cell (p := ⟨g4, o4 + 1, none⟩) l4').trans (c4 1 (by decide))
  have r0 : ∀ V, Below w3.heap.size w3 V → V.cell? ⟨g5, o5, none⟩ = some (.int .u64 R1) := fun V hV => (hV.cell (p := ⟨g5, o5, none⟩) l5).trans (c5 0 (by simp))
  have r1 : ∀ V, Below w3.heap.size w3 V → V.cell? ⟨g5, o5 + 1, none⟩ = some (.int .u64 R0) := fun V hV => (hV.cell (p := ⟨g5, o5 + 1, none⟩) l5).trans (c5 1 (by simp))
  have yA0 : ∀ V, Below w3.heap.size w3 V → V.cell? ⟨w.heap.size, 0, none⟩ = some (.int .i64 1) := fun V hV => (ZA.out.below hV ZA.out.lt).cell 0
  have yA1 : ∀ V, Below w3.heap.size w3 V → V.cell? ⟨w.heap.size, 1, none⟩ = some (.int .i64 1) := fun V hV => (ZA.out.below hV ZA.out.lt).cell 1
  have yA2 : ∀ V, Below w3.heap.size w3 V → V.cell? ⟨w.heap.size, 2, none⟩ = some (.string ⟨#[102]⟩) := fun V hV => (ZA.out.below hV ZA.out.lt).cell 2
  have yA3 : ∀ V, Below w3.heap.size w3 V → V.cell? ⟨w.heap.size, 3, none⟩ = some (.string ⟨#[97, 46, 103, 111]⟩) := fun V hV => (ZA.out.below hV ZA.out.lt).cell 3
  have yA4 : ∀ V, Below w3.heap.size w3 V → V.cell? ⟨w.heap.size, 4, none⟩ = some (.int .i64 9) := fun V hV => (ZA.out.below hV ZA.out.lt).cell 4
  have yA5 : ∀ V, Below w3.heap.size w3 V → V.cell? ⟨w.heap.size, 5, none⟩ = some (.string ⟨#[120, 32, 45, 32, 121, 32, 60, 61, 32, 48]⟩) := fun V hV => (ZA.out.below hV ZA.out.lt).cell 5
  have yB0 : ∀ V, Below w3.heap.size w3 V → V.cell? ⟨w.heap.size + 1, 0, none⟩ = some (.int .i64 1) := fun V hV => (ZB.out.below hV ZB.out.lt).cell 0
  have yB1 : ∀ V, Below w3.heap.size w3 V → V.cell? ⟨w.heap.size + 1, 1, none⟩ = some (.int .i64 1) := fun V hV => (ZB.out.below hV ZB.out.lt).cell 1
  have yB2 : ∀ V, Below w3.heap.size w3 V → V.cell? ⟨w.heap.size + 1, 2, none⟩ = some (.string ⟨#[102]⟩) := fun V hV => (ZB.out.below hV ZB.out.lt).cell 2
  have yB3 : ∀ V, Below w3.heap.size w3 V → V.cell? ⟨w.heap.size + 1, 3, none⟩ = some (.string ⟨#[97, 46, 103, 111]⟩) := fun V hV => (ZB.out.below hV ZB.out.lt).cell 3
  have yB4 : ∀ V, Below w3.heap.size w3 V → V.cell? ⟨w.heap.size + 1, 4, none⟩ = some (.int .i64 3) := fun V hV => (ZB.out.below hV ZB.out.lt).cell 4
  have yB5 : ∀ V, Below w3.heap.size w3 V → V.cell? ⟨w.heap.size + 1, 5, none⟩ = some (.string ⟨#[120, 45, 121, 32, 60, 61, 48]⟩) := fun V hV => (ZB.out.below hV ZB.out.lt).cell 5
  clear c4 c5 s2' b3' ZA ZB l4 l5 l4'
  go_wp2
  refine wp_drawn_on (fun V => Below w3.heap.size w3 V) (by kernel_rfl) ((Below.refl _ _).drew) (fun hHeld => ?_)
  refine wpAnyH_take (i := 0) (oi := { dst := some 17, op := Go.Op.move (Go.Operand.tmp 3), type := 27, pos := "law.go:21", after := #[], guard := none }) (v := ?v1) rfl (by kernel_rfl) (by kernel_rfl) (by kernel_rfl) (fun _ _ _ h => h) (Or.inl ⟨by kernel_rfl, ?h1⟩) (by assumption) ?r1
  case h1 => (intro w hSw; (try dsimp only at hSw); go_simp; try with_reducible rfl)
  try simp only [Act.put, List.setIfInBounds_toArray, List.set_cons_zero, List.set_cons_succ]
  refine wpAnyH_take (i := 1) (oi := { dst := some 18, op := Go.Op.call { callee := Go.Callee.builtin Go.Builtin.len, args := #[Go.Operand.tmp 17], argTypes := #[27] }, type := 3, pos := "law.go:21", after := #[{ on := 0, ground := Go.Ground.data }], guard := none }) (v := ?v2) rfl (by kernel_rfl) (by kernel_rfl) (by kernel_rfl) (fun _ _ _ h => h) (Or.inl ⟨by kernel_rfl, ?h2⟩) (by assumption) ?r2
  case h2 => (intro w hSw; (try dsimp only at hSw); go_simp; try with_reducible rfl)
  try simp only [Act.put, List.setIfInBounds_toArray, List.set_cons_zero, List.set_cons_succ]
  refine wpAnyH_take (i := 2) (oi := { dst := some 19, op := Go.Op.binOp Go.BinOp.eql 3 (Go.Operand.tmp 18) (Go.Operand.const (Go.Value.int Go.IntKind.i64 2)) 3, type := 4, pos := "law.go:21", after := #[{ on := 1, ground := Go.Ground.data }], guard := none }) (v := ?v3) rfl (by kernel_rfl) (by kernel_rfl) (by kernel_rfl) (fun _ _ _ h => h) (Or.inl ⟨by kernel_rfl, ?h3⟩) (by assumption) ?r3
  case h3 => (intro w hSw; (try dsimp only at hSw); go_simp; try with_reducible rfl)
  try simp only [Act.put, List.setIfInBounds_toArray, List.set_cons_zero, List.set_cons_succ]
  refine wpAnyH_take (i := 3) (oi := { dst := some 20, op := Go.Op.move (Go.Operand.tmp 19), type := 4, pos := "law.go:21", after := #[{ on := 2, ground := Go.Ground.data }], guard := none }) (v := ?v4) rfl (by kernel_rfl) (by kernel_rfl) (by kernel_rfl) (fun _ _ _ h => h) (Or.inl ⟨by kernel_rfl, ?h4⟩) (by assumption) ?r4
  case h4 => (intro w hSw; (try dsimp only at hSw); go_simp; try with_reducible rfl)
  try simp only [Act.put, List.setIfInBounds_toArray, List.set_cons_zero, List.set_cons_succ]
  refine wpAnyH_take (i := 4) (oi := { dst := some 21, op := Go.Op.move (Go.Operand.tmp 3), type := 27, pos := "law.go:21", after := #[{ on := 3, ground := Go.Ground.guard }], guard := some (3, true) }) (v := ?v5) rfl (by kernel_rfl) (by kernel_rfl) (by kernel_rfl) (fun _ _ _ h => h) (Or.inl ⟨by kernel_rfl, ?h5⟩) (by assumption) ?r5
  case h5 => (intro w hSw; (try dsimp only at hSw); go_simp; try with_reducible rfl)
  try simp only [Act.put, List.setIfInBounds_toArray, List.set_cons_zero, List.set_cons_succ]
  refine wpAnyH_take (i := 5) (oi := { dst := some 22, op := Go.Op.indexAddr 27 (Go.Operand.tmp 21) (Go.Operand.const (Go.Value.int Go.IntKind.i64 0)), type := 0, pos := "law.go:21", after := #[{ on := 4, ground := Go.Ground.data }, { on := 3, ground := Go.Ground.guard }], guard := some (3, true) }) (v := ?v6) rfl (by kernel_rfl) (by kernel_rfl) (by kernel_rfl) (fun _ _ _ h => h) (Or.inl ⟨by kernel_rfl, ?h6⟩) (by assumption) ?r6
  case h6 => (intro w hSw; (try dsimp only at hSw); go_simp; try with_reducible rfl)
  try simp only [Act.put, List.setIfInBounds_toArray, List.set_cons_zero, List.set_cons_succ]
  refine wpAnyH_take (i := 6) (oi := { dst := some 23, op := Go.Op.load 3 (Go.Operand.tmp 22), type := 3, pos := "law.go:21", after := #[{ on := 5, ground := Go.Ground.data }, { on := 3, ground := Go.Ground.guard }], guard := some (3, true) }) (v := ?v7) rfl (by kernel_rfl) (by kernel_rfl) (by kernel_rfl) (fun _ _ _ h => h) (Or.inl ⟨by kernel_rfl, ?h7⟩) (by assumption) ?r7
  case h7 => (intro w hSw; (try dsimp only at hSw); go_simp; try with_reducible rfl)
  try simp only [Act.put, List.setIfInBounds_toArray, List.set_cons_zero, List.set_cons_succ]
  refine wpAnyH_take (i := 7) (oi := { dst := some 24, op := Go.Op.binOp Go.BinOp.eql 3 (Go.Operand.tmp 23) (Go.Operand.const (Go.Value.int Go.IntKind.i64 1)) 3, type := 4, pos := "law.go:21", after := #[{ on := 6, ground := Go.Ground.data }, { on := 3, ground := Go.Ground.guard }], guard := some (3, true) }) (v := ?v8) rfl (by kernel_rfl) (by kernel_rfl) (by kernel_rfl) (fun _ _ _ h => h) (Or.inl ⟨by kernel_rfl, ?h8⟩) (by assumption) ?r8
  case h8 => (intro w hSw; (try dsimp only at hSw); go_simp; try with_reducible rfl)
  try simp only [Act.put, List.setIfInBounds_toArray, List.set_cons_zero, List.set_cons_succ]
  refine wpAnyH_take (i := 8) (oi := { dst := some 25, op := Go.Op.pick (Go.Operand.tmp 20) (Go.Operand.tmp 24) (Go.Operand.const (Go.Value.bool false)), type := 4, pos := "law.go:21", after := #[{ on := 3, ground := Go.Ground.data }, { on := 7, ground := Go.Ground.data }], guard := none }) (v := ?v9) rfl (by kernel_rfl) (by kernel_rfl) (by kernel_rfl) (fun _ _ _ h => h) (Or.inl ⟨by kernel_rfl, ?h9⟩) (by assumption) ?r9
  case h9 => (intro w hSw; (try dsimp only at hSw); go_simp; try with_reducible rfl)
  try simp only [Act.put, List.setIfInBounds_toArray, List.set_cons_zero, List.set_cons_succ]
  refine wpAnyH_take (i := 9) (oi := { dst := some 26, op := Go.Op.move (Go.Operand.tmp 25), type := 4, pos := "law.go:21", after := #[{ on := 8, ground := Go.Ground.data }, { on := 3, ground := Go.Ground.chain }], guard := none }) (v := ?v10) rfl (by kernel_rfl) (by kernel_rfl) (by kernel_rfl) (fun _ _ _ h => h) (Or.inl ⟨by kernel_rfl, ?h10⟩) (by assumption) ?r10
  case h10 => (intro w hSw; (try dsimp only at hSw); go_simp; try with_reducible rfl)
  try simp only [Act.put, List.setIfInBounds_toArray, List.set_cons_zero, List.set_cons_succ]
  refine wpAnyH_take (i := 10) (oi := { dst := some 27, op := Go.Op.move (Go.Operand.tmp 3), type := 27, pos := "law.go:21", after := #[{ on := 9, ground := Go.Ground.guard }], guard := some (9, true) }) (v := ?v11) rfl (by kernel_rfl) (by kernel_rfl) (by kernel_rfl) (fun _ _ _ h => h) (Or.inl ⟨by kernel_rfl, ?h11⟩) (by assumption) ?r11
  case h11 => (intro w hSw; (try dsimp only at hSw); go_simp; try with_reducible rfl)
  try simp only [Act.put, List.setIfInBounds_toArray, List.set_cons_zero, List.set_cons_succ]
  refine wpAnyH_take (i := 11) (oi := { dst := some 28, op := Go.Op.indexAddr 27 (Go.Operand.tmp 27) (Go.Operand.const (Go.Value.int Go.IntKind.i64 1)), type := 0, pos := "law.go:21", after := #[{ on := 10, ground := Go.Ground.data }, { on := 9, ground := Go.Ground.guard }], guard := some (9, true) }) (v := ?v12) rfl (by kernel_rfl) (by kernel_rfl) (by kernel_rfl) (fun _ _ _ h => h) (Or.inl ⟨by kernel_rfl, ?h12⟩) (by assumption) ?r12
  case h12 => (intro w hSw; (try dsimp only at hSw); go_simp; try with_reducible rfl)
  try simp only [Act.put, List.setIfInBounds_toArray, List.set_cons_zero, List.set_cons_succ]
  refine wpAnyH_take (i := 12) (oi := { dst := some 29, op := Go.Op.load 3 (Go.Operand.tmp 28), type := 3, pos := "law.go:21", after := #[{ on := 11, ground := Go.Ground.data }, { on := 9, ground := Go.Ground.guard }], guard := some (9, true) }) (v := ?v13) rfl (by kernel_rfl) (by kernel_rfl) (by kernel_rfl) (fun _ _ _ h => h) (Or.inl ⟨by kernel_rfl, ?h13⟩) (by assumption) ?r13
  case h13 => (intro w hSw; (try dsimp only at hSw); go_simp; try with_reducible rfl)
  try simp only [Act.put, List.setIfInBounds_toArray, List.set_cons_zero, List.set_cons_succ]
  refine wpAnyH_take (i := 13) (oi := { dst := some 30, op := Go.Op.binOp Go.BinOp.eql 3 (Go.Operand.tmp 29) (Go.Operand.const (Go.Value.int Go.IntKind.i64 0)) 3, type := 4, pos := "law.go:21", after := #[{ on := 12, ground := Go.Ground.data }, { on := 9, ground := Go.Ground.guard }], guard := some (9, true) }) (v := ?v14) rfl (by kernel_rfl) (by kernel_rfl) (by kernel_rfl) (fun _ _ _ h => h) (Or.inl ⟨by kernel_rfl, ?h14⟩) (by assumption) ?r14
  case h14 => (intro w hSw; (try dsimp only at hSw); go_simp; try with_reducible rfl)
  try simp only [Act.put, List.setIfInBounds_toArray, List.set_cons_zero, List.set_cons_succ]
  refine wpAnyH_take (i := 14) (oi := { dst := some 31, op := Go.Op.pick (Go.Operand.tmp 26) (Go.Operand.tmp 30) (Go.Operand.const (Go.Value.bool false)), type := 4, pos := "law.go:21", after := #[{ on := 9, ground := Go.Ground.data }, { on := 13, ground := Go.Ground.data }], guard := none }) (v := ?v15) rfl (by kernel_rfl) (by kernel_rfl) (by kernel_rfl) (fun _ _ _ h => h) (Or.inl ⟨by kernel_rfl, ?h15⟩) (by assumption) ?r15
  case h15 => (intro w hSw; (try dsimp only at hSw); go_simp; try with_reducible rfl)
  try simp only [Act.put, List.setIfInBounds_toArray, List.set_cons_zero, List.set_cons_succ]
  refine wpAnyH_take (i := 15) (oi := { dst := some 32, op := Go.Op.move (Go.Operand.tmp 31), type := 4, pos := "law.go:21", after := #[{ on := 14, ground := Go.Ground.data }, { on := 9, ground := Go.Ground.chain }], guard := none }) (v := ?v16) rfl (by kernel_rfl) (by kernel_rfl) (by kernel_rfl) (fun _ _ _ h => h) (Or.inl ⟨by kernel_rfl, ?h16⟩) (by assumption) ?r16
  case h16 => (intro w hSw; (try dsimp only at hSw); go_simp; try with_reducible rfl)
  try simp only [Act.put, List.setIfInBounds_toArray, List.set_cons_zero, List.set_cons_succ]
  refine wpAnyH_take (i := 16) (oi := { dst := some 33, op := Go.Op.move (Go.Operand.tmp 4), type := 36, pos := "law.go:21", after := #[{ on := 15, ground := Go.Ground.guard }], guard := some (15, true) }) (v := ?v17) rfl (by kernel_rfl) (by kernel_rfl) (by kernel_rfl) (fun _ _ _ h => h) (Or.inl ⟨by kernel_rfl, ?h17⟩) (by assumption) ?r17
  case h17 => (intro w hSw; (try dsimp only at hSw); go_simp; try with_reducible rfl)
  try simp only [Act.put, List.setIfInBounds_toArray, List.set_cons_zero, List.set_cons_succ]
  refine wpAnyH_take (i := 17) (oi := { dst := some 34, op := Go.Op.call { callee := Go.Callee.builtin Go.Builtin.len, args := #[Go.Operand.tmp 33], argTypes := #[36] }, type := 3, pos := "law.go:21", after := #[{ on := 16, ground := Go.Ground.data }, { on := 15, ground := Go.Ground.guard }], guard := some (15, true) }) (v := ?v18) rfl (by kernel_rfl) (by kernel_rfl) (by kernel_rfl) (fun _ _ _ h => h) (Or.inl ⟨by kernel_rfl, ?h18⟩) (by assumption) ?r18
  case h18 => (intro w hSw; (try dsimp only at hSw); go_simp; try with_reducible rfl)
  try simp only [Act.put, List.setIfInBounds_toArray, List.set_cons_zero, List.set_cons_succ]
  refine wpAnyH_take (i := 18) (oi := { dst := some 35, op := Go.Op.binOp Go.BinOp.eql 3 (Go.Operand.tmp 34) (Go.Operand.const (Go.Value.int Go.IntKind.i64 2)) 3, type := 4, pos := "law.go:21", after := #[{ on := 17, ground := Go.Ground.data }, { on := 15, ground := Go.Ground.guard }], guard := some (15, true) }) (v := ?v19) rfl (by kernel_rfl) (by kernel_rfl) (by kernel_rfl) (fun _ _ _ h => h) (Or.inl ⟨by kernel_rfl, ?h19⟩) (by assumption) ?r19
  case h19 => (intro w hSw; (try dsimp only at hSw); go_simp; try with_reducible rfl)
  try simp only [Act.put, List.setIfInBounds_toArray, List.set_cons_zero, List.set_cons_succ]
  refine wpAnyH_take (i := 19) (oi := { dst := some 36, op := Go.Op.pick (Go.Operand.tmp 32) (Go.Operand.tmp 35) (Go.Operand.const (Go.Value.bool false)), type := 4, pos := "law.go:21", after := #[{ on := 15, ground := Go.Ground.data }, { on := 18, ground := Go.Ground.data }], guard := none }) (v := ?v20) rfl (by kernel_rfl) (by kernel_rfl) (by kernel_rfl) (fun _ _ _ h => h) (Or.inl ⟨by kernel_rfl, ?h20⟩) (by assumption) ?r20
  case h20 => (intro w hSw; (try dsimp only at hSw); go_simp; try with_reducible rfl)
  try simp only [Act.put, List.setIfInBounds_toArray, List.set_cons_zero, List.set_cons_succ]
  refine wpAnyH_take (i := 20) (oi := { dst := some 37, op := Go.Op.move (Go.Operand.tmp 36), type := 4, pos := "law.go:21", after := #[{ on := 19, ground := Go.Ground.data }, { on := 15, ground := Go.Ground.chain }], guard := none }) (v := ?v21) rfl (by kernel_rfl) (by kernel_rfl) (by kernel_rfl) (fun _ _ _ h => h) (Or.inl ⟨by kernel_rfl, ?h21⟩) (by assumption) ?r21
  case h21 => (intro w hSw; (try dsimp only at hSw); go_simp; try with_reducible rfl)
  try simp only [Act.put, List.setIfInBounds_toArray, List.set_cons_zero, List.set_cons_succ]
  refine wpAnyH_take (i := 21) (oi := { dst := some 38, op := Go.Op.move (Go.Operand.tmp 4), type := 36, pos := "law.go:21", after := #[{ on := 20, ground := Go.Ground.guard }], guard := some (20, true) }) (v := ?v22) rfl (by kernel_rfl) (by kernel_rfl) (by kernel_rfl) (fun _ _ _ h => h) (Or.inl ⟨by kernel_rfl, ?h22⟩) (by assumption) ?r22
  case h22 => (intro w hSw; (try dsimp only at hSw); go_simp; try with_reducible rfl)
  try simp only [Act.put, List.setIfInBounds_toArray, List.set_cons_zero, List.set_cons_succ]
  refine wpAnyH_take (i := 22) (oi := { dst := some 39, op := Go.Op.indexAddr 36 (Go.Operand.tmp 38) (Go.Operand.const (Go.Value.int Go.IntKind.i64 0)), type := 0, pos := "law.go:21", after := #[{ on := 21, ground := Go.Ground.data }, { on := 20, ground := Go.Ground.guard }], guard := some (20, true) }) (v := ?v23) rfl (by kernel_rfl) (by kernel_rfl) (by kernel_rfl) (fun _ _ _ h => h) (Or.inl ⟨by kernel_rfl, ?h23⟩) (by assumption) ?r23
  case h23 => (intro w hSw; (try dsimp only at hSw); go_simp; try with_reducible rfl)
  try simp only [Act.put, List.setIfInBounds_toArray, List.set_cons_zero, List.set_cons_succ]
  refine wpAnyH_take (i := 23) (oi := { dst := some 40, op := Go.Op.load 29 (Go.Operand.tmp 39), type := 29, pos := "law.go:21", after := #[{ on := 22, ground := Go.Ground.data }, { on := 20, ground := Go.Ground.guard }], guard := some (20, true) }) (v := ?v24) rfl (by kernel_rfl) (by kernel_rfl) (by kernel_rfl) (fun _ _ _ h => h) (Or.inl ⟨by kernel_rfl, ?h24⟩) (by assumption) ?r24
  case h24 => (intro w hSw; (try dsimp only at hSw); go_simp; try with_reducible rfl)
  try simp only [Act.put, List.setIfInBounds_toArray, List.set_cons_zero, List.set_cons_succ]
  refine wpAnyH_take (i := 24) (oi := { dst := some 41, op := Go.Op.load 24 (Go.Operand.tmp 2), type := 24, pos := "law.go:21", after := #[{ on := 20, ground := Go.Ground.guard }], guard := some (20, true) }) (v := ?v25) rfl (by kernel_rfl) (by kernel_rfl) (by kernel_rfl) (fun _ _ _ h => h) (Or.inl ⟨by kernel_rfl, ?h25⟩) (by assumption) ?r25
  case h25 => (intro w hSw; (try dsimp only at hSw); go_simp; try with_reducible rfl)
  try simp only [Act.put, List.setIfInBounds_toArray, List.set_cons_zero, List.set_cons_succ]
  refine wpAnyH_ready (rs := [25]) (by kernel_rfl) (by simp) ?_
  refine AllReadyH.cons (o := { dst := some 42, op := Go.Op.call { callee := Go.Callee.value (Go.Operand.func 10), args := #[Go.Operand.tmp 41, Go.Operand.const (Go.Value.int Go.IntKind.i64 1)], argTypes := #[24, 3] }, type := 29, pos := "law.go:21", after := #[{ on := 24, ground := Go.Ground.data }, { on := 20, ground := Go.Ground.chain }, { on := 20, ground := Go.Ground.guard }], guard := some (20, true) }) rfl (fun K hK => ?_) AllReadyH.nil
  go_simp
  with_reducible refine (q3.out _).mono ?_
  rintro e w6 ⟨rfl, b6⟩
  go_simp
  refine hK.out _ _ (hHeld.trans (b6.mono hHeld.size)) (fun hHeld => ?_)
  clear hK K
  try simp only [Act.put, List.setIfInBounds_toArray, List.set_cons_zero, List.set_cons_succ]
  refine wpAnyH_take (i := 26) (oi := { dst := some 43, op := Go.Op.binOp Go.BinOp.eql 29 (Go.Operand.tmp 40) (Go.Operand.tmp 42) 29, type := 4, pos := "law.go:21", after := #[{ on := 23, ground := Go.Ground.data }, { on := 25, ground := Go.Ground.data }, { on := 20, ground := Go.Ground.guard }], guard := some (20, true) }) (v := ?v26) rfl (by kernel_rfl) (by kernel_rfl) (by kernel_rfl) (fun _ _ _ h => h) (Or.inl ⟨by kernel_rfl, ?h26⟩) (by assumption) ?r26
  case h26 => (intro w hSw; (try dsimp only at hSw); go_simp; try with_reducible rfl)
  try simp only [Act.put, List.setIfInBounds_toArray, List.set_cons_zero, List.set_cons_succ]
  refine wpAnyH_take (i := 27) (oi := { dst := some 44, op := Go.Op.pick (Go.Operand.tmp 37) (Go.Operand.tmp 43) (Go.Operand.const (Go.Value.bool false)), type := 4, pos := "law.go:21", after := #[{ on := 20, ground := Go.Ground.data }, { on := 26, ground := Go.Ground.data }], guard := none }) (v := ?v27) rfl (by kernel_rfl) (by kernel_rfl) (by kernel_rfl) (fun _ _ _ h => h) (Or.inl ⟨by kernel_rfl, ?h27⟩) (by assumption) ?r27
  case h27 => (intro w hSw; (try dsimp only at hSw); go_simp; try with_reducible rfl)
  try simp only [Act.put, List.setIfInBounds_toArray, List.set_cons_zero, List.set_cons_succ]
  refine wpAnyH_take (i := 28) (oi := { dst := some 45, op := Go.Op.move (Go.Operand.tmp 44), type := 4, pos := "law.go:21", after := #[{ on := 27, ground := Go.Ground.data }, { on := 25, ground := Go.Ground.chain }], guard := none }) (v := ?v28) rfl (by kernel_rfl) (by kernel_rfl) (by kernel_rfl) (fun _ _ _ h => h) (Or.inl ⟨by kernel_rfl, ?h28⟩) (by assumption) ?r28
  case h28 => (intro w hSw; (try dsimp only at hSw); go_simp; try with_reducible rfl)
  try simp only [Act.put, List.setIfInBounds_toArray, List.set_cons_zero, List.set_cons_succ]
  refine wpAnyH_take (i := 29) (oi := { dst := some 46, op := Go.Op.move (Go.Operand.tmp 4), type := 36, pos := "law.go:21", after := #[{ on := 28, ground := Go.Ground.guard }], guard := some (28, true) }) (v := ?v29) rfl (by kernel_rfl) (by kernel_rfl) (by kernel_rfl) (fun _ _ _ h => h) (Or.inl ⟨by kernel_rfl, ?h29⟩) (by assumption) ?r29
  case h29 => (intro w hSw; (try dsimp only at hSw); go_simp; try with_reducible rfl)
  try simp only [Act.put, List.setIfInBounds_toArray, List.set_cons_zero, List.set_cons_succ]
  refine wpAnyH_take (i := 30) (oi := { dst := some 47, op := Go.Op.indexAddr 36 (Go.Operand.tmp 46) (Go.Operand.const (Go.Value.int Go.IntKind.i64 1)), type := 0, pos := "law.go:21", after := #[{ on := 29, ground := Go.Ground.data }, { on := 28, ground := Go.Ground.guard }], guard := some (28, true) }) (v := ?v30) rfl (by kernel_rfl) (by kernel_rfl) (by kernel_rfl) (fun _ _ _ h => h) (Or.inl ⟨by kernel_rfl, ?h30⟩) (by assumption) ?r30
  case h30 => (intro w hSw; (try dsimp only at hSw); go_simp; try with_reducible rfl)
  try simp only [Act.put, List.setIfInBounds_toArray, List.set_cons_zero, List.set_cons_succ]
  refine wpAnyH_take (i := 31) (oi := { dst := some 48, op := Go.Op.load 29 (Go.Operand.tmp 47), type := 29, pos := "law.go:21", after := #[{ on := 30, ground := Go.Ground.data }, { on := 28, ground := Go.Ground.guard }], guard := some (28, true) }) (v := ?v31) rfl (by kernel_rfl) (by kernel_rfl) (by kernel_rfl) (fun _ _ _ h => h) (Or.inl ⟨by kernel_rfl, ?h31⟩) (by assumption) ?r31
  case h31 => (intro w hSw; (try dsimp only at hSw); go_simp; try with_reducible rfl)
  try simp only [Act.put, List.setIfInBounds_toArray, List.set_cons_zero, List.set_cons_succ]
  refine wpAnyH_take (i := 32) (oi := { dst := some 49, op := Go.Op.load 24 (Go.Operand.tmp 1), type := 24, pos := "law.go:21", after := #[{ on := 28, ground := Go.Ground.guard }], guard := some (28, true) }) (v := ?v32) rfl (by kernel_rfl) (by kernel_rfl) (by kernel_rfl) (fun _ _ _ h => h) (Or.inl ⟨by kernel_rfl, ?h32⟩) (by assumption) ?r32
  case h32 => (intro w hSw; (try dsimp only at hSw); go_simp; try with_reducible rfl)
  try simp only [Act.put, List.setIfInBounds_toArray, List.set_cons_zero, List.set_cons_succ]
  refine wpAnyH_ready (rs := [33]) (by kernel_rfl) (by simp) ?_
  refine AllReadyH.cons (o := { dst := some 50, op := Go.Op.call { callee := Go.Callee.value (Go.Operand.func 10), args := #[Go.Operand.tmp 49, Go.Operand.const (Go.Value.int Go.IntKind.i64 0)], argTypes := #[24, 3] }, type := 29, pos := "law.go:21", after := #[{ on := 32, ground := Go.Ground.data }, { on := 28, ground := Go.Ground.chain }, { on := 28, ground := Go.Ground.guard }], guard := some (28, true) }) rfl (fun K hK => ?_) AllReadyH.nil
  go_simp
  with_reducible refine (q4.out _).mono ?_
  rintro e w7 ⟨rfl, b7⟩
  go_simp
  refine hK.out _ _ (hHeld.trans (b7.mono hHeld.size)) (fun hHeld => ?_)
  clear hK K
  try simp only [Act.put, List.setIfInBounds_toArray, List.set_cons_zero, List.set_cons_succ]
  refine wpAnyH_take (i := 34) (oi := { dst := some 51, op := Go.Op.binOp Go.BinOp.eql 29 (Go.Operand.tmp 48) (Go.Operand.tmp 50) 29, type := 4, pos := "law.go:21", after := #[{ on := 31, ground := Go.Ground.data }, { on := 33, ground := Go.Ground.data }, { on := 28, ground := Go.Ground.guard }], guard := some (28, true) }) (v := ?v33) rfl (by kernel_rfl) (by kernel_rfl) (by kernel_rfl) (fun _ _ _ h => h) (Or.inl ⟨by kernel_rfl, ?h33⟩) (by assumption) ?r33
  case h33 => (intro w hSw; (try dsimp only at hSw); go_simp; try with_reducible rfl)
  try simp only [Act.put, List.setIfInBounds_toArray, List.set_cons_zero, List.set_cons_succ]
  refine wpAnyH_take (i := 35) (oi := { dst := some 52, op := Go.Op.pick (Go.Operand.tmp 45) (Go.Operand.tmp 51) (Go.Operand.const (Go.Value.bool false)), type := 4, pos := "law.go:21", after := #[{ on := 28, ground := Go.Ground.data }, { on := 34, ground := Go.Ground.data }], guard := none }) (v := ?v34) rfl (by kernel_rfl) (by kernel_rfl) (by kernel_rfl) (fun _ _ _ h => h) (Or.inl ⟨by kernel_rfl, ?h34⟩) (by assumption) ?r34
  case h34 => (intro w hSw; (try dsimp only at hSw); go_simp; try with_reducible rfl)
  try simp only [Act.put, List.setIfInBounds_toArray, List.set_cons_zero, List.set_cons_succ]
  refine wpAnyH_take (i := 36) (oi := { dst := some 53, op := Go.Op.move (Go.Operand.tmp 52), type := 4, pos := "law.go:21", after := #[{ on := 35, ground := Go.Ground.data }, { on := 33, ground := Go.Ground.chain }], guard := none }) (v := ?v35) rfl (by kernel_rfl) (by kernel_rfl) (by kernel_rfl) (fun _ _ _ h => h) (Or.inl ⟨by kernel_rfl, ?h35⟩) (by assumption) ?r35
  case h35 => (intro w hSw; (try dsimp only at hSw); go_simp; try with_reducible rfl)
  try simp only [Act.put, List.setIfInBounds_toArray, List.set_cons_zero, List.set_cons_succ]
  refine wpAnyH_take (i := 37) (oi := { dst := some 54, op := Go.Op.move (Go.Operand.tmp 4), type := 36, pos := "law.go:21", after := #[{ on := 36, ground := Go.Ground.guard }], guard := some (36, true) }) (v := ?v36) rfl (by kernel_rfl) (by kernel_rfl) (by kernel_rfl) (fun _ _ _ h => h) (Or.inl ⟨by kernel_rfl, ?h36⟩) (by assumption) ?r36
  case h36 => (intro w hSw; (try dsimp only at hSw); go_simp; try with_reducible rfl)
  try simp only [Act.put, List.setIfInBounds_toArray, List.set_cons_zero, List.set_cons_succ]
  refine wpAnyH_take (i := 38) (oi := { dst := some 55, op := Go.Op.indexAddr 36 (Go.Operand.tmp 54) (Go.Operand.const (Go.Value.int Go.IntKind.i64 0)), type := 0, pos := "law.go:21", after := #[{ on := 37, ground := Go.Ground.data }, { on := 36, ground := Go.Ground.guard }], guard := some (36, true) }) (v := ?v37) rfl (by kernel_rfl) (by kernel_rfl) (by kernel_rfl) (fun _ _ _ h => h) (Or.inl ⟨by kernel_rfl, ?h37⟩) (by assumption) ?r37
  case h37 => (intro w hSw; (try dsimp only at hSw); go_simp; try with_reducible rfl)
  try simp only [Act.put, List.setIfInBounds_toArray, List.set_cons_zero, List.set_cons_succ]
  refine wpAnyH_take (i := 39) (oi := { dst := some 56, op := Go.Op.load 29 (Go.Operand.tmp 55), type := 29, pos := "law.go:21", after := #[{ on := 38, ground := Go.Ground.data }, { on := 36, ground := Go.Ground.guard }], guard := some (36, true) }) (v := ?v38) rfl (by kernel_rfl) (by kernel_rfl) (by kernel_rfl) (fun _ _ _ h => h) (Or.inl ⟨by kernel_rfl, ?h38⟩) (by assumption) ?r38
  case h38 => (intro w hSw; (try dsimp only at hSw); go_simp; try with_reducible rfl)
  try simp only [Act.put, List.setIfInBounds_toArray, List.set_cons_zero, List.set_cons_succ]
  refine wpAnyH_take (i := 40) (oi := { dst := some 57, op := Go.Op.move (Go.Operand.tmp 4), type := 36, pos := "law.go:21", after := #[{ on := 36, ground := Go.Ground.guard }], guard := some (36, true) }) (v := ?v39) rfl (by kernel_rfl) (by kernel_rfl) (by kernel_rfl) (fun _ _ _ h => h) (Or.inl ⟨by kernel_rfl, ?h39⟩) (by assumption) ?r39
  case h39 => (intro w hSw; (try dsimp only at hSw); go_simp; try with_reducible rfl)
  try simp only [Act.put, List.setIfInBounds_toArray, List.set_cons_zero, List.set_cons_succ]
  refine wpAnyH_take (i := 41) (oi := { dst := some 58, op := Go.Op.indexAddr 36 (Go.Operand.tmp 57) (Go.Operand.const (Go.Value.int Go.IntKind.i64 1)), type := 0, pos := "law.go:21", after := #[{ on := 40, ground := Go.Ground.data }, { on := 36, ground := Go.Ground.guard }], guard := some (36, true) }) (v := ?v40) rfl (by kernel_rfl) (by kernel_rfl) (by kernel_rfl) (fun _ _ _ h => h) (Or.inl ⟨by kernel_rfl, ?h40⟩) (by assumption) ?r40
  case h40 => (intro w hSw; (try dsimp only at hSw); go_simp; try with_reducible rfl)
  try simp only [Act.put, List.setIfInBounds_toArray, List.set_cons_zero, List.set_cons_succ]
  refine wpAnyH_take (i := 42) (oi := { dst := some 59, op := Go.Op.load 29 (Go.Operand.tmp 58), type := 29, pos := "law.go:21", after := #[{ on := 41, ground := Go.Ground.data }, { on := 36, ground := Go.Ground.guard }], guard := some (36, true) }) (v := ?v41) rfl (by kernel_rfl) (by kernel_rfl) (by kernel_rfl) (fun _ _ _ h => h) (Or.inl ⟨by kernel_rfl, ?h41⟩) (by assumption) ?r41
  case h41 => (intro w hSw; (try dsimp only at hSw); go_simp; try with_reducible rfl)
  try simp only [Act.put, List.setIfInBounds_toArray, List.set_cons_zero, List.set_cons_succ]
  refine wpAnyH_take (i := 43) (oi := { dst := some 60, op := Go.Op.binOp Go.BinOp.neq 29 (Go.Operand.tmp 56) (Go.Operand.tmp 59) 29, type := 4, pos := "law.go:21", after := #[{ on := 39, ground := Go.Ground.data }, { on := 42, ground := Go.Ground.data }, { on := 36, ground := Go.Ground.guard }], guard := some (36, true) }) (v := ?v42) rfl (by kernel_rfl) (by kernel_rfl) (by kernel_rfl) (fun _ _ _ h => h) (Or.inl ⟨by kernel_rfl, ?h42⟩) (by assumption) ?r42
  case h42 => (intro w hSw; (try dsimp only at hSw); go_simp; try with_reducible rfl)
  try simp only [Act.put, List.setIfInBounds_toArray, List.set_cons_zero, List.set_cons_succ]
  refine wpAnyH_take (i := 44) (oi := { dst := some 61, op := Go.Op.pick (Go.Operand.tmp 53) (Go.Operand.tmp 60) (Go.Operand.const (Go.Value.bool false)), type := 4, pos := "law.go:21", after := #[{ on := 36, ground := Go.Ground.data }, { on := 43, ground := Go.Ground.data }], guard := none }) (v := ?v43) rfl (by kernel_rfl) (by kernel_rfl) (by kernel_rfl) (fun _ _ _ h => h) (Or.inl ⟨by kernel_rfl, ?h43⟩) (by assumption) ?r43
  case h43 => (intro w hSw; (try dsimp only at hSw); go_simp; try with_reducible rfl)
  try simp only [Act.put, List.setIfInBounds_toArray, List.set_cons_zero, List.set_cons_succ]
  refine wpAnyH_take (i := 45) (oi := { dst := some 0, op := Go.Op.assign (Go.Operand.tmp 61), type := 4, pos := "law.go:21", after := #[{ on := 44, ground := Go.Ground.data }, { on := 36, ground := Go.Ground.chain }, { on := 0, ground := Go.Ground.phase }, { on := 1, ground := Go.Ground.phase }, { on := 2, ground := Go.Ground.phase }, { on := 3, ground := Go.Ground.phase }, { on := 4, ground := Go.Ground.phase }, { on := 5, ground := Go.Ground.phase }, { on := 6, ground := Go.Ground.phase }, { on := 7, ground := Go.Ground.phase }, { on := 8, ground := Go.Ground.phase }, { on := 9, ground := Go.Ground.phase }, { on := 10, ground := Go.Ground.phase }, { on := 11, ground := Go.Ground.phase }, { on := 12, ground := Go.Ground.phase }, { on := 13, ground := Go.Ground.phase }, { on := 14, ground := Go.Ground.phase }, { on := 15, ground := Go.Ground.phase }, { on := 16, ground := Go.Ground.phase }, { on := 17, ground := Go.Ground.phase }, { on := 18, ground := Go.Ground.phase }, { on := 19, ground := Go.Ground.phase }, { on := 20, ground := Go.Ground.phase }, { on := 21, ground := Go.Ground.phase }, { on := 22, ground := Go.Ground.phase }, { on := 23, ground := Go.Ground.phase }, { on := 24, ground := Go.Ground.phase }, { on := 25, ground := Go.Ground.phase }, { on := 26, ground := Go.Ground.phase }, { on := 27, ground := Go.Ground.phase }, { on := 28, ground := Go.Ground.phase }, { on := 29, ground := Go.Ground.phase }, { on := 30, ground := Go.Ground.phase }, { on := 31, ground := Go.Ground.phase }, { on := 32, ground := Go.Ground.phase }, { on := 33, ground := Go.Ground.phase }, { on := 34, ground := Go.Ground.phase }, { on := 35, ground := Go.Ground.phase }, { on := 36, ground := Go.Ground.phase }, { on := 37, ground := Go.Ground.phase }, { on := 38, ground := Go.Ground.phase }, { on := 39, ground := Go.Ground.phase }, { on := 40, ground := Go.Ground.phase }, { on := 41, ground := Go.Ground.phase }, { on := 42, ground := Go.Ground.phase }, { on := 43, ground := Go.Ground.phase }, { on := 44, ground := Go.Ground.phase }], guard := none }) (v := ?v44) rfl (by kernel_rfl) (by kernel_rfl) (by kernel_rfl) (fun _ _ _ h => h) (Or.inl ⟨by kernel_rfl, ?h44⟩) (by assumption) ?r44
  case h44 => (intro w hSw; (try dsimp only at hSw); go_simp; try with_reducible rfl)
  try simp only [Act.put, List.setIfInBounds_toArray, List.set_cons_zero, List.set_cons_succ]
  refine wpAnyH_done (by kernel_rfl) ?_ _
  have hX := Lib.hid hHeld
  clear hHeld
  go_wp2
  go_ret
  exact ⟨rfl, B1.out.trans (hX.out.mono B1.out.size)⟩
end Go.Proofs.Ytbpaoiajfjkmfaa
namespace Go.Proofs.Ytbpaoiajfjkmfaa
set_option linter.unusedVariables false
set_option linter.unusedSimpArgs false
def okA (S : List Int) (i : Nat) : Prop := 0 ≤ S.getD i 0 ∧ S.getD i 0 ≤ (S.length : Int) - i ∧ ∀ k, k < i → (i : Int) - k < S.getD k 0 → S.getD i 0 ≤ S.getD k 0 - ((i : Int) - k)
def preA (S : List Int) (i : Nat) : Prop := ∀ j, j < i → okA S j
instance (S : List Int) (i : Nat) : Decidable (okA S i) := by unfold okA; infer_instance
instance (S : List Int) (i : Nat) : Decidable (preA S i) := by unfold preA; infer_instance
def onceP (P : List Int) (m : Nat) : Prop := ∀ i, i < m → 0 ≤ P.getD i 0 ∧ P.getD i 0 ≤ 127 ∧ ∀ k, k < i → P.getD k 0 ≠ P.getD i 0
instance (P : List Int) (m : Nat) : Decidable (onceP P m) := by unfold onceP; infer_instance
end Go.Proofs.Ytbpaoiajfjkmfaa
namespace Go.Proofs.Ytbpaoiajfjkmfaa
open Go.RowKit
set_option linter.unusedVariables false
set_option linter.unusedSimpArgs false
theorem infoInt : (Try.prog.info? 3).map (fun i => (i.zero, i.size, i.bytes)) = some (some (.int .i64 0), 1, 8) := by kernel_rfl
structure WA (w : World) (a1 : Option Addr) (n1 c1 : Nat) (P : List Int) (a2 : Option Addr) (n2 c2 : Nat) (S : List Int) : Prop where
  p : SL w a1 n1 c1 P
  s : SL w a2 n2 c2 S
theorem WA.below {w w' : World} {a1 a2 : Option Addr} {n1 c1 n2 c2 : Nat} {P S : List Int} (h : WA w a1 n1 c1 P a2 n2 c2 S) (hb : Below w.heap.size w w') : WA w' a1 n1 c1 P a2 n2 c2 S := ⟨h.p.below hb, h.s.below hb⟩
def sameW (P S P2 S2 : List Int) : Bool := decide (P = P2) && decide (S = S2)
set_option maxRecDepth 100000 in
set_option maxHeartbeats 2000000 in
theorem wrsame_any (a1 a2 a3 a4 : Option Addr) (P S P2 S2 : List Int) (n1 n2 n3 n4 c1 c2 c3 c4 : Nat) (w : World) (h1 : WA w a1 n1 c1 P a2 n2 c2 S) (h2 : WA w a3 n3 c3 P2 a4 n4 c4 S2) :
    Calls Try.prog 12 #[.agg #[.slice a1 n1 c1, .slice a2 n2 c2], .agg #[.slice a3 n3 c3, .slice a4 n4 c4]] w (Gives (.bool (sameW P S P2 S2)) w) := by
  obtain ⟨W1, hW1⟩ : ∃ W1, W1 = (w.alloc (.cells #[.slice a1 n1 c1, .slice a2 n2 c2] 34)).alloc (.cells #[.slice a3 n3 c3, .slice a4 n4 c4] 34) := ⟨_, rfl⟩
  have hB : Below w.heap.size w W1 := by rw [hW1]; exact box2_below _ _ _ _ _
  have g1 := Lib.hid (h1.below hB)
  have g2 := Lib.hid (h2.below hB)
  have z1 : Holds W1 w.heap.size 34 #[.slice a1 n1 c1, .slice a2 n2 c2] := by rw [hW1]; exact (Holds.new w _ _).alloc _
  have z2 : Holds W1 (w.heap.size + 1) 34 #[.slice a3 n3 c3, .slice a4 n4 c4] := by
    rw [hW1]
    have := Holds.new (w.alloc (.cells #[.slice a1 n1 c1, .slice a2 n2 c2] 34)) 34 #[.slice a3 n3 c3, .slice a4 n4 c4]
    simpa using this
  have k1 := z1.cell 0
  have k2 := z1.cell 1
  have k3 := z2.cell 0
  have k4 := z2.cell 1
  have l1 := Lib.hid h1.p.len
  have l2 := Lib.hid h1.s.len
  have l3 := Lib.hid h2.p.len
  have l4 := Lib.hid h2.s.len
  have b1 : (n1 : Int) ≤ 9223372036854775807 := by have := h1.p.max; omega
  have b2 : (n2 : Int) ≤ 9223372036854775807 := by have := h1.s.max; omega
  have hW1' := Lib.hid hW1
  have hB' := Lib.hid hB
  clear h1 h2 hB z1 z2
  by_cases hn : n1 = n3
  case neg =>
    have hr : sameW P S P2 S2 = false := by unfold sameW; rw [decide_eq_false (fun e => hn (by rw [l1.out, l3.out, e])), Bool.false_and]
    rw [hr]
    have hi2 : ((n1 : Int) != (n3 : Int)) = true := by simp; omega
    clear hr hn hW1 k1 k2 k3 k4
    go_enter Try.func12, Try.ntmps12
    go_wp2
    go_ret
    rw [← hW1'.out]
    exact ⟨rfl, hB'.out⟩
  subst hn
  by_cases hm : n2 = n4
  case neg =>
    have hr : sameW P S P2 S2 = false := by unfold sameW; rw [decide_eq_false (fun e => hm (by rw [l2.out, l4.out, e]) : ¬ S = S2), Bool.and_false]
    rw [hr]
    have hi2 : ((n2 : Int) != (n4 : Int)) = true := by simp; omega
    clear hr hm hW1 k1 k2 k3 k4
    go_enter Try.func12, Try.ntmps12
    go_wp2
    go_ret
    rw [← hW1'.out]
    exact ⟨rfl, hB'.out⟩
  subst hm
  go_enter Try.func12, Try.ntmps12
  go_wp2
  rw [← hW1]
  clear hW1
  go_loopw [5] (fun x wr => ∃ k m : Nat, k ≤ n1 ∧ x = .int .i64 k ∧ Hid (∀ j, j < k → P.getD j 0 = P2.getD j 0) ∧ wr = W1.drewN m) (fun x _ => n1 - (intOf x).toNat)
  case atStart => exact ⟨0, 0, Nat.zero_le _, rfl, Lib.hid (by intro j hj; omega), rfl⟩
  case round =>
    obtain ⟨k, m, hk, rfl, he, rfl⟩ := hrel
    by_cases hlt : k < n1
    · obtain ⟨b1, o1, rfl, -, e1⟩ := sees_num g1.out.p.sees (i := k) (by rw [← l1.out]; exact hlt)
      obtain ⟨b2, o2, rfl, -, e2⟩ := sees_num g2.out.p.sees (i := k) (by rw [← l3.out]; exact hlt)
      have hki : (k : Int) < (n1 : Int) := by omega
      have hyes : Hid (P.getD k 0 = P2.getD k 0 → ∀ j, j < k + 1 → P.getD j 0 = P2.getD j 0) := Lib.hid (fun hx j hj => by
        by_cases e : j = k
        · subst e; exact hx
        · exact he.out j (by omega))
      have hno : Hid (P.getD k 0 ≠ P2.getD k 0 → sameW P S P2 S2 = false) := Lib.hid (fun hx => by unfold sameW; rw [decide_eq_false (fun e => hx (by rw [e])), Bool.false_and])
      clear he
      generalize P.getD k 0 = x at *
      generalize P2.getD k 0 = y at *
      by_cases hxy : x = y
      · subst hxy
        have hy2 := Lib.hid (hyes.out rfl)
        clear hyes hno
        go_wp2
        go_quiet (fail)
        go_wp2
        go_roundw
        case rel => exact ⟨k + 1, m + nq, by omega, by go_num, hy2, by simp [World.drewN, Nat.add_assoc]⟩
        case measure => simp [intOf]; omega
      · have hr := Lib.hid (hno.out hxy)
        have hxy2 : (x == y) = false := by simpa using hxy
        have hxy3 : (x != y) = true := by simpa using hxy
        clear hyes hno
        go_wp2
        go_quiet (fail)
        go_wp2
        go_ret
        exact ⟨by rw [hr.out]; rfl, Below.drewN (Below.drewN hB'.out m) nq⟩
    · have hP : Hid (P = P2) := Lib.hid (by
        have q1 := l1.out
        have q2 := l3.out
        apply List.ext_getElem (by omega)
        intro j g1 g2
        have := he.out j (by omega)
        simpa [List.getD, g1, g2] using this)
      clear he
      go_wp2
      obtain ⟨wo, hwo⟩ : ∃ wo, wo = W1.drewN m := ⟨_, rfl⟩
      rw [← hwo]
      have hwB : Hid (Below w.heap.size w wo) := Lib.hid (by rw [hwo]; exact Below.drewN hB'.out m)
      have k1 : wo.cell? ⟨w.heap.size, 0, none⟩ = some (.slice a1 n1 c1) := by rw [hwo]; exact k1
      have k2 : wo.cell? ⟨w.heap.size, 1, none⟩ = some (.slice a2 n2 c2) := by rw [hwo]; exact k2
      have k3 : wo.cell? ⟨w.heap.size + 1, 0, none⟩ = some (.slice a3 n1 c3) := by rw [hwo]; exact k3
      have k4 : wo.cell? ⟨w.heap.size + 1, 1, none⟩ = some (.slice a4 n2 c4) := by rw [hwo]; exact k4
      have s2 : Hid (Sees .i64 W1.heap.size wo a2 S) := Lib.hid (by rw [hwo]; exact g1.out.s.sees)
      have s4 : Hid (Sees .i64 W1.heap.size wo a4 S2) := Lib.hid (by rw [hwo]; exact g2.out.s.sees)
      clear hwo
      go_loopw [6] (fun x wr => ∃ k m : Nat, k ≤ n2 ∧ x = .int .i64 k ∧ Hid (∀ j, j < k → S.getD j 0 = S2.getD j 0) ∧ wr = wo.drewN m) (fun x _ => n2 - (intOf x).toNat)
      case atStart => exact ⟨0, 0, Nat.zero_le _, rfl, Lib.hid (by intro j hj; omega), rfl⟩
      case round =>
        obtain ⟨k, m, hk, rfl, he, rfl⟩ := hrel
        by_cases hlt : k < n2
        · obtain ⟨b1, o1, rfl, -, e1⟩ := sees_num s2.out (i := k) (by rw [← l2.out]; exact hlt)
          obtain ⟨b2, o2, rfl, -, e2⟩ := sees_num s4.out (i := k) (by rw [← l4.out]; exact hlt)
          have hki : (k : Int) < (n2 : Int) := by omega
          have hyes : Hid (S.getD k 0 = S2.getD k 0 → ∀ j, j < k + 1 → S.getD j 0 = S2.getD j 0) := Lib.hid (fun hx j hj => by
            by_cases e : j = k
            · subst e; exact hx
            · exact he.out j (by omega))
          have hno : Hid (S.getD k 0 ≠ S2.getD k 0 → sameW P S P2 S2 = false) := Lib.hid (fun hx => by unfold sameW; rw [decide_eq_false (fun e => hx (by rw [e]) : ¬ S = S2), Bool.and_false])
          clear he
          generalize S.getD k 0 = x at *
          generalize S2.getD k 0 = y at *
          by_cases hxy : x = y
          · subst hxy
            have hy2 := Lib.hid (hyes.out rfl)
            clear hyes hno
            go_wp2
            go_quiet (fail)
            go_wp2
            go_roundw
            case rel => exact ⟨k + 1, m + nq, by omega, by go_num, hy2, by simp [World.drewN, Nat.add_assoc]⟩
            case measure => simp [intOf]; omega
          · have hr := Lib.hid (hno.out hxy)
            have hxy2 : (x == y) = false := by simpa using hxy
            have hxy3 : (x != y) = true := by simpa using hxy
            clear hyes hno
            go_wp2
            go_quiet (fail)
            go_wp2
            go_ret
            exact ⟨by rw [hr.out]; rfl, Below.drewN (Below.drewN hwB.out m) nq⟩
        · have hS : Hid (sameW P S P2 S2 = true) := Lib.hid (by
            have q1 := l2.out
            have q2 := l4.out
            have : S = S2 := by
              apply List.ext_getElem (by omega)
              intro j g1 g2
              have := he.out j (by omega)
              simpa [List.getD, g1, g2] using this
            unfold sameW
            rw [decide_eq_true hP.out, decide_eq_true this, Bool.true_and])
          clear he
          go_wp2
          go_ret
          exact ⟨by rw [hS.out]; rfl, Below.drewN hwB.out m⟩
end Go.Proofs.Ytbpaoiajfjkmfaa
namespace Go.Proofs.Ytbpaoiajfjkmfaa
open Go.RowKit Go.ChangeShapes Go.WideShapes Go.Deep
set_option linter.unusedVariables false
theorem open_agg6 {H : Type} {enc : TypeId × Value → H} {P : Program} {w : World} {base : Nat} {spare : Nat → Bool} {held : Bool} {r : Go.Reach} {b0 : Nat} {t : TypeId} {f0 f1 f2 f3 f4 f5 : Field} {v : Value} {d : DataW H} {p : List MemPlace} (hs : P.underlying t = some (.struct #[f0, f1, f2, f3, f4, f5])) (hone : oneCellFields P #[f0, f1, f2, f3, f4, f5] = true) (hC : P.cellsOf t = 6)
    (hv : Value.okWide P w r b0 t v) (h : DataW.Trod enc P w base spare held t v d p) :
    ∃ (v0 v1 v2 v3 v4 v5 : Value) (y0 y1 y2 y3 y4 y5 : DataW H × List MemPlace) (n : Nat), v = .agg #[v0, v1, v2, v3, v4, v5] ∧ d = .agg [y0.1, y1.1, y2.1, y3.1, y4.1, y5.1] ∧ p = y0.2 ++ (y1.2 ++ (y2.2 ++ (y3.2 ++ (y4.2 ++ y5.2)))) ∧
      DataW.trod enc P w base spare held n f0.type [v0] = some y0 ∧ DataW.trod enc P w base spare held n f1.type [v1] = some y1 ∧ DataW.trod enc P w base spare held n f2.type [v2] = some y2 ∧ DataW.trod enc P w base spare held n f3.type [v3] = some y3 ∧ DataW.trod enc P w base spare held n f4.type [v4] = some y4 ∧ DataW.trod enc P w base spare held n f5.type [v5] = some y5 := by
  obtain ⟨cs, rfl, hsz⟩ := okWide_struct hs hv
  obtain ⟨l⟩ := cs
  have hl5 : l.length = 6 := by simpa using hsz.trans hC
  match l, hl5 with
  | [c0, c1, c2, c3, c4, c5], _ =>
  obtain ⟨fuel, hf⟩ := h
  obtain ⟨xs, n, _, hx, hl, hlen, hf⟩ := DataW.trod_struct hs hf
  match xs, hlen with
  | [y0, y1, y2, y3, y4, y5], _ =>
  have h0 := hf 0 f0 rfl
  have h1 := hf 1 f1 rfl
  have h2 := hf 2 f2 rfl
  have h3 := hf 3 f3 rfl
  have h4 := hf 4 f4 rfl
  have h5 := hf 5 f5 rfl
  obtain ⟨o0, k0⟩ := hone_of hone 0 f0 rfl
  obtain ⟨o1, k1⟩ := hone_of hone 1 f1 rfl
  obtain ⟨o2, k2⟩ := hone_of hone 2 f2 rfl
  obtain ⟨o3, k3⟩ := hone_of hone 3 f3 rfl
  obtain ⟨o4, k4⟩ := hone_of hone 4 f4 rfl
  obtain ⟨o5, k5⟩ := hone_of hone 5 f5 rfl
  simp only [Prod.mk.injEq] at hx
  exact ⟨c0, c1, c2, c3, c4, c5, y0, y1, y2, y3, y4, y5, n, rfl, by simpa using hx.1, by simpa using hx.2, by simpa [Value.cells, o0, k0] using h0, by simpa [Value.cells, o1, k1] using h1, by simpa [Value.cells, o2, k2] using h2, by simpa [Value.cells, o3, k3] using h3, by simpa [Value.cells, o4, k4] using h4, by simpa [Value.cells, o5, k5] using h5⟩
end Go.Proofs.Ytbpaoiajfjkmfaa
namespace Go.Proofs.Ytbpaoiajfjkmfaa
open Go.RowKit
set_option linter.unusedVariables false
set_option linter.unusedSimpArgs false
theorem ro_one (w : World) (y : AlD) : RO alC (w.alloc (.cells #[.int .i64 y.kind, .int .i64 y.sev, .string y.fn, .string y.file, .int .i64 y.line, .string y.expr] 24)) (some ⟨w.heap.size, 0, none⟩) 1 1 [y] := by
  refine ⟨rfl, Nat.le_refl _, by decide, ?_⟩
  have e : [y].flatMap alC = (#[.int .i64 y.kind, .int .i64 y.sev, .string y.fn, .string y.file, .int .i64 y.line, .string y.expr] : Array Value).toList := by simp [alC]
  rw [e]
  exact seesC_lit w _ _
set_option maxRecDepth 100000 in
set_option maxHeartbeats 8000000 in
theorem fingerOf_walk (w : World) (sl : Option Addr) (n c : Nat) (row : AlSl w sl n c) (ak : Int) (wk : (Lit.int .i64 ak).wf = true) (av : Int) (wv : (Lit.int .i64 av).wf = true) (af : ByteArray) (wf : af.size ≤ maxLen) (qf : af.size ≤ 140737488351232) (ai : ByteArray) (wi : ai.size ≤ maxLen) (qi : ai.size ≤ 140737488351232) (al : Int) (wl : (Lit.int .i64 al).wf = true) (ax : ByteArray) (wx : ax.size ≤ maxLen) (qx : ax.size ≤ 140737488351232) (r : Int) (wr : (Lit.int .i64 r).wf = true) :
    Calls Try.prog 3 #[.slice sl n c, .agg #[.int .i64 ak, .int .i64 av, .string af, .string ai, .int .i64 al, .string ax], .int .i64 r] w (Gives (.bool true) w) := by
  obtain ⟨l, hRO, hW, hnb⟩ := row
  obtain ⟨V1, hV1⟩ : ∃ V1, V1 = w.alloc (.cells #[.int .i64 ak, .int .i64 av, .string af, .string ai, .int .i64 al, .string ax] 24) := ⟨_, rfl⟩
  have hb1 := Lib.hid (show Below w.heap.size w V1 by rw [hV1]; exact box_below _ _ _)
  have hz1 := Lib.hid (show Holds V1 w.heap.size 24 #[.int .i64 ak, .int .i64 av, .string af, .string ai, .int .i64 al, .string ax] by rw [hV1]; exact Holds.new _ _ _)
  have hR1 := hRO.below hb1.out
  have qL := Lib.hid (alarge_any l sl n c V1 hR1 hW)
  have qL2 := Lib.hid (fun W => alarge_any [⟨ak, av, af, ai, al, ax⟩] _ 1 1 _ (ro_one W ⟨ak, av, af, ai, al, ax⟩) (fun s hs => by simp at hs; subst hs; exact ⟨wk, wv, qf, qi, wl, qx⟩))
  have qlv := Lib.hid (fun W => flives_any W)
  have hn2 : (n : Int) ≤ 9223372036854775807 := by omega
  have hV1' := Lib.hid hV1
  clear hV1 hRO
  have k0 := hz1.out.cell 0
  have k1 := hz1.out.cell 1
  have k2 := hz1.out.cell 2
  have k3 := hz1.out.cell 3
  have k4 := hz1.out.cell 4
  have k5 := hz1.out.cell 5
  simp at k0 k1 k2 k3 k4 k5
  cases hbig : bigA l with
  | true =>
    rw [hbig] at qL
    clear hbig hR1 hW qL2
    go_enter Try.func3, Try.ntmps3
    go_wp2_with fail
    rw [← hV1'.out]
    with_reducible refine qL.out.mono ?_
    rintro e w1 ⟨rfl, rfl⟩
    clear qL
    go_wp2_with fail
    with_reducible refine (qlv.out _).mono ?_
    rintro e w2 ⟨rfl, b2⟩
    have b2' := Lib.hid (hb1.out.trans (b2.mono hb1.out.size))
    clear b2
    go_wp2
    go_ret
    exact ⟨rfl, b2'.out⟩
  | false =>
  have hsm := small_of hbig
  rw [hbig] at qL
  clear hbig
  cases hbig : bigA [⟨ak, av, af, ai, al, ax⟩] with
  | true =>
    rw [hbig] at qL2
    clear hbig hR1 hW hsm
    go_enter Try.func3, Try.ntmps3
    go_wp2_with fail
    rw [← hV1'.out]
    with_reducible refine qL.out.mono ?_
    rintro e w1 ⟨rfl, rfl⟩
    clear qL
    go_wp2_with fail
    with_reducible refine (qL2.out _).mono ?_
    rintro e w3 ⟨rfl, rfl⟩
    clear qL2
    have hb3 := Lib.hid (hb1.out.trans ((box_below V1 #[.int .i64 ak, .int .i64 av, .string af, .string ai, .int .i64 al, .string ax] 24).mono hb1.out.size))
    go_wp2_with fail
    with_reducible refine (qlv.out _).mono ?_
    rintro e w2 ⟨rfl, b2⟩
    have b2' := Lib.hid (hb3.out.trans (b2.mono hb3.out.size))
    clear b2
    go_wp2
    go_ret
    exact ⟨rfl, b2'.out⟩
  | false =>
  have hsa := (small_of hbig).2 ⟨ak, av, af, ai, al, ax⟩ (by simp)
  rw [hbig] at qL2
  clear hbig
  have hlen := hR1.len
  have hn100 : n ≤ 100 := by have := hsm.1; omega
  have hS : ∀ a ∈ l, smallA a := fun a ha => by have := hsm.2 a ha; exact ⟨this.1, by have := this.2.1; omega, this.2.2⟩
  have hA : smallA ⟨ak, av, af, ai, al, ax⟩ := ⟨hsa.1, by have := hsa.2.1; omega, hsa.2.2⟩
  have q3 := Lib.hid (fun W => fone_any ⟨ak, av, af, ai, al, ax⟩ wk hA r wr W)
  have q4 := Lib.hid (fun W => rfone_any ⟨ak, av, af, ai, al, ax⟩ wk hA r wr W)
  have q5 := Lib.hid (fun (W : World) (h : RO alC W sl n c l) => frankss_any l sl n c W h hW hS hn100)
  have q6 := Lib.hid (fun (W : World) (h : RO alC W sl n c l) => (show Calls Try.prog 15 #[.slice sl n c] W (Made 29 .u64 W (fingA l)) from by
    have q := fofs_any l sl n c W h hW hS hn100
    rwa [fing_is l h.len] at q))
  have q7 := Lib.hid (fun (W : World) (h : RO alC W sl n c l) => rfofs_any l sl n c W h hW hS hn100)
  have q8 := Lib.hid (fun (a1 a2 : Option Addr) (n1 n2 c1 c2 : Nat) (W : World) (h1 : SU .u64 W a1 n1 c1 (fingA l)) (h2 : SU .u64 W a2 n2 c2 (fingA l)) => (show Calls Try.prog 14 #[.slice a1 n1 c1, .slice a2 n2 c2] W (DrawnT (.bool true) W) from by
    have q := rfsame_any a1 a2 (fingA l) (fingA l) n1 n2 c1 c2 W h1 h2
    rwa [decide_eq_true rfl] at q))
  have hfl : Hid ((fingA l).length = n) := Lib.hid (by rw [fing_len, hlen])
  have qk := Lib.hid (fun (k : Nat) (hk : k < n) (W : World) (h : RO alC W sl n c l) => rrank_any l sl n c W h hW hS k hk hn100)
  obtain ⟨RK, hRK⟩ : ∃ RK, RK = (List.range n).map (fun i => (rankA l i : Int)) := ⟨_, rfl⟩
  have hRl : Hid (RK.length = n) := Lib.hid (by rw [hRK]; simp)
  have hRt : Hid (∀ k, k < n → RK.take (k + 1) = RK.take k ++ [(rankA l k : Int)]) := Lib.hid (fun k hk => by
    rw [List.take_add_one, hRK]
    simp [hk])
  rw [← hRK] at q5
  have q9 := Lib.hid (fun (a1 a2 : Option Addr) (c1 c2 : Nat) (W : World) (h1 : SL W a1 n c1 RK) (h2 : SL W a2 n c2 RK) => (show Calls Try.prog 12 #[.agg #[.slice a1 n c1, .slice none 0 0], .agg #[.slice a2 n c2, .slice none 0 0]] W (Gives (.bool true) W) from by
    have q := wrsame_any a1 none a2 none RK [] RK [] n 0 n 0 c1 0 c2 0 W ⟨h1, SL.nil W⟩ ⟨h2, SL.nil W⟩
    have e : sameW RK [] RK [] = true := by simp [sameW]
    rwa [e] at q))
  have hR' := Lib.hid hR1
  obtain ⟨i0, hi, hz0, hzz, hz2⟩ := info_parts infoInt
  clear hRK hR1 hW hsm hS hA hsa hlen hnb wk wv wf qf wi qi wl wx qx wr
  generalize fingA l = FL at *
  generalize oneA ⟨ak, av, af, ai, al, ax⟩ r = R1 at *
  dsimp only at q3 q4
  go_enter Try.func3, Try.ntmps3
  go_wp2_with fail
  rw [← hV1'.out]
  with_reducible refine qL.out.mono ?_
  rintro e w1 ⟨rfl, rfl⟩
  clear qL
  go_wp2_with fail
  with_reducible refine (qL2.out _).mono ?_
  rintro e w3 ⟨rfl, rfl⟩
  clear qL2 hV1' k0 k1 k2 k3 k4 k5
  have hb3 := Lib.hid (box_below V1 #[.int .i64 ak, .int .i64 av, .string af, .string ai, .int .i64 al, .string ax] 24)
  go_wp2
  go_loopw [7, 8] (fun v x wr => ∃ k : Nat, k ≤ n ∧ x = .int .i64 k ∧ Hid (wr.ownsRow V1.heap.size 3 1 v k (nums .i64 (RK.take k))) ∧ Hid (Below V1.heap.size V1 wr)) (fun _ x _ => n - (intOf x).toNat)
  case atStart => exact ⟨0, Nat.zero_le _, rfl, Lib.hid ⟨by simp [nums], .inl ⟨rfl, rfl⟩⟩, hb3⟩
  case round =>
    obtain ⟨k, hk, rfl, hO, hB⟩ := hrel
    generalize wr = g0 at *
    by_cases hlt : k < n
    · have hki : (k : Int) < (n : Int) := by omega
      have qk' := Lib.hid (qk.out k hlt g0 (hR'.out.below hB.out))
      have hst := Lib.hid (hRt.out k hlt)
      have hkl : Hid ((RK.take k).length = k) := Lib.hid (by have := hRl.out; simp; omega)
      generalize rankA l k = rr at *
      go_wp2_with fail
      with_reducible refine qk'.out.mono ?_
      rintro e g1 ⟨rfl, b1⟩
      have hO1 := Lib.hid (own_below hO.out b1)
      have hB1 := Lib.hid (hB.out.trans (b1.mono hB.out.size))
      clear b1 hO hB qk'
      go_wp2_with (at_builtin; go_loud (refine wpList_append1 _ rfl (.tmp 23) (.tmp 27) 27 rfl V1 3 i0 (.int .i64 0) 8 Try.underlying27 hi hz0 hzz hz2 rfl .i64 (rr : Int) _ (RK.take k) (by rw [hkl.out]; exact hO1.out) hB1.out rfl rfl (by rw [hkl.out]; omega) (by omega) ?_); intro v' g2 o2 b2; have O2 := Lib.hid o2; have B2 := Lib.hid b2; clear o2 b2)
      rw [← hst.out] at O2
      have e3 : (RK.take (k + 1)).length = k + 1 := by have := hRl.out; simp; omega
      rw [e3] at O2
      clear hst hO1 hB1 hkl e3
      go_wp2
      go_roundw
      case rel => exact ⟨k + 1, by omega, by go_num, O2, B2⟩
      case measure => simp [intOf]; omega
    · obtain rfl : k = n := by omega
      have hki : ¬ (k : Int) < (k : Int) := by omega
      have o7 := hO.out
      rw [List.take_of_length_le (by rw [hRl.out]; exact Nat.le_refl _)] at o7
      obtain ⟨a7, c7, rfl, -, s7⟩ := sees_own (l := RK) (n := k) o7
      have hc7 := own_cap o7
      have hRl' := hRl.out
      rw [hRl'] at hc7
      have s7' := Lib.hid s7
      have hz0' := hz1.out.below hB.out hz1.out.lt
      have hRg := Lib.hid (hR'.out.below hB.out)
      have y0 : ∀ V, Below g0.heap.size g0 V → V.cell? ⟨w.heap.size, 0, none⟩ = some (.int .i64 ak) := fun V hV => (hz0'.below hV hz0'.lt).cell 0
      have y1 : ∀ V, Below g0.heap.size g0 V → V.cell? ⟨w.heap.size, 1, none⟩ = some (.int .i64 av) := fun V hV => (hz0'.below hV hz0'.lt).cell 1
      have y2 : ∀ V, Below g0.heap.size g0 V → V.cell? ⟨w.heap.size, 2, none⟩ = some (.string af) := fun V hV => (hz0'.below hV hz0'.lt).cell 2
      have y3 : ∀ V, Below g0.heap.size g0 V → V.cell? ⟨w.heap.size, 3, none⟩ = some (.string ai) := fun V hV => (hz0'.below hV hz0'.lt).cell 3
      have y4 : ∀ V, Below g0.heap.size g0 V → V.cell? ⟨w.heap.size, 4, none⟩ = some (.int .i64 al) := fun V hV => (hz0'.below hV hz0'.lt).cell 4
      have y5 : ∀ V, Below g0.heap.size g0 V → V.cell? ⟨w.heap.size, 5, none⟩ = some (.string ax) := fun V hV => (hz0'.below hV hz0'.lt).cell 5
      have hend := Lib.hid (hb1.out.trans (hB.out.mono hb1.out.size))
      clear hz0' o7 s7 hO hB hRt qk hR' hz1 hb3
      rw [hRl']
      go_wp2
      refine wp_drawn_on (fun V => Below g0.heap.size g0 V) (by kernel_rfl) ((Below.refl _ _).drew) (fun hHeld => ?_)
      refine wpAnyH_ready (rs := [0]) (by kernel_rfl) (by simp) ?_
      refine AllReadyH.cons (o := { dst := some 29, op := Go.Op.call { callee := Go.Callee.value (Go.Operand.func 8), args := #[], argTypes := #[] }, type := 4, pos := "law.go:33", after := #[], guard := none }) rfl (fun K hK => ?_) AllReadyH.nil
      go_simp
      with_reducible refine (qlv.out _).mono ?_
      rintro e g1 ⟨rfl, b0⟩
      go_simp
      refine hK.out _ _ (hHeld.trans (b0.mono hHeld.size)) (fun hHeld => ?_)
      clear hK K
      try simp only [Act.put, List.setIfInBounds_toArray, List.set_cons_zero, List.set_cons_succ]
      refine wpAnyH_take (i := 1) (oi := { dst := some 30, op := Go.Op.move (Go.Operand.tmp 29), type := 4, pos := "law.go:33", after := #[{ on := 0, ground := Go.Ground.data }, { on := 0, ground := Go.Ground.chain }], guard := none }) (v := ?v1) rfl (by kernel_rfl) (by kernel_rfl) (by kernel_rfl) (fun _ _ _ h => h) (Or.inl ⟨by kernel_rfl, ?h1⟩) (by assumption) ?r1
      case h1 => (intro w hSw; (try dsimp only at hSw); go_simp; try with_reducible rfl)
      try simp only [Act.put, List.setIfInBounds_toArray, List.set_cons_zero, List.set_cons_succ]
      refine wpAnyH_take (i := 2) (oi := { dst := some 31, op := Go.Op.load 24 (Go.Operand.tmp 4), type := 24, pos := "law.go:33", after := #[{ on := 1, ground := Go.Ground.guard }], guard := some (1, true) }) (v := ?v2) rfl (by kernel_rfl) (by kernel_rfl) (by kernel_rfl) (fun _ _ _ h => h) (Or.inl ⟨by kernel_rfl, ?h2⟩) (by assumption) ?r2
      case h2 => (intro w hSw; (try dsimp only at hSw); go_simp; try with_reducible rfl)
      try simp only [Act.put, List.setIfInBounds_toArray, List.set_cons_zero, List.set_cons_succ]
      refine wpAnyH_take (i := 3) (oi := { dst := some 32, op := Go.Op.move (Go.Operand.tmp 2), type := 3, pos := "law.go:33", after := #[{ on := 1, ground := Go.Ground.guard }], guard := some (1, true) }) (v := ?v3) rfl (by kernel_rfl) (by kernel_rfl) (by kernel_rfl) (fun _ _ _ h => h) (Or.inl ⟨by kernel_rfl, ?h3⟩) (by assumption) ?r3
      case h3 => (intro w hSw; (try dsimp only at hSw); go_simp; try with_reducible rfl)
      try simp only [Act.put, List.setIfInBounds_toArray, List.set_cons_zero, List.set_cons_succ]
      refine wpAnyH_take (i := 5) (oi := { dst := some 34, op := Go.Op.load 24 (Go.Operand.tmp 4), type := 24, pos := "law.go:33", after := #[{ on := 1, ground := Go.Ground.guard }], guard := some (1, true) }) (v := ?v4) rfl (by kernel_rfl) (by kernel_rfl) (by kernel_rfl) (fun _ _ _ h => h) (Or.inl ⟨by kernel_rfl, ?h4⟩) (by assumption) ?r4
      case h4 => (intro w hSw; (try dsimp only at hSw); go_simp; try with_reducible rfl)
      try simp only [Act.put, List.setIfInBounds_toArray, List.set_cons_zero, List.set_cons_succ]
      refine wpAnyH_take (i := 6) (oi := { dst := some 35, op := Go.Op.move (Go.Operand.tmp 2), type := 3, pos := "law.go:33", after := #[{ on := 1, ground := Go.Ground.guard }], guard := some (1, true) }) (v := ?v5) rfl (by kernel_rfl) (by kernel_rfl) (by kernel_rfl) (fun _ _ _ h => h) (Or.inl ⟨by kernel_rfl, ?h5⟩) (by assumption) ?r5
      case h5 => (intro w hSw; (try dsimp only at hSw); go_simp; try with_reducible rfl)
      try simp only [Act.put, List.setIfInBounds_toArray, List.set_cons_zero, List.set_cons_succ]
      refine wpAnyH_ready (rs := [4]) (by kernel_rfl) (by simp) ?_
      refine AllReadyH.cons (o := { dst := some 33, op := Go.Op.call { callee := Go.Callee.value (Go.Operand.func 10), args := #[Go.Operand.tmp 31, Go.Operand.tmp 32], argTypes := #[24, 3] }, type := 29, pos := "law.go:33", after := #[{ on := 2, ground := Go.Ground.data }, { on := 3, ground := Go.Ground.data }, { on := 1, ground := Go.Ground.chain }, { on := 1, ground := Go.Ground.guard }], guard := some (1, true) }) rfl (fun K hK => ?_) AllReadyH.nil
      go_simp
      with_reducible refine (q3.out _).mono ?_
      rintro e g4 ⟨rfl, b4⟩
      go_simp
      refine hK.out _ _ (hHeld.trans (b4.mono hHeld.size)) (fun hHeld => ?_)
      clear hK K
      try simp only [Act.put, List.setIfInBounds_toArray, List.set_cons_zero, List.set_cons_succ]
      refine wpAnyH_ready (rs := [7]) (by kernel_rfl) (by simp) ?_
      refine AllReadyH.cons (o := { dst := some 36, op := Go.Op.call { callee := Go.Callee.value (Go.Operand.func 11), args := #[Go.Operand.tmp 34, Go.Operand.tmp 35], argTypes := #[24, 3] }, type := 29, pos := "law.go:33", after := #[{ on := 5, ground := Go.Ground.data }, { on := 6, ground := Go.Ground.data }, { on := 4, ground := Go.Ground.chain }, { on := 1, ground := Go.Ground.guard }], guard := some (1, true) }) rfl (fun K hK => ?_) AllReadyH.nil
      go_simp
      with_reducible refine (q4.out _).mono ?_
      rintro e g7 ⟨rfl, b7⟩
      go_simp
      refine hK.out _ _ (hHeld.trans (b7.mono hHeld.size)) (fun hHeld => ?_)
      clear hK K
      try simp only [Act.put, List.setIfInBounds_toArray, List.set_cons_zero, List.set_cons_succ]
      refine wpAnyH_take (i := 8) (oi := { dst := some 37, op := Go.Op.binOp Go.BinOp.eql 29 (Go.Operand.tmp 33) (Go.Operand.tmp 36) 29, type := 4, pos := "law.go:33", after := #[{ on := 4, ground := Go.Ground.data }, { on := 7, ground := Go.Ground.data }, { on := 1, ground := Go.Ground.guard }], guard := some (1, true) }) (v := ?v6) rfl (by kernel_rfl) (by kernel_rfl) (by kernel_rfl) (fun _ _ _ h => h) (Or.inl ⟨by kernel_rfl, ?h6⟩) (by assumption) ?r6
      case h6 => (intro w hSw; (try dsimp only at hSw); go_simp; try with_reducible rfl)
      try simp only [Act.put, List.setIfInBounds_toArray, List.set_cons_zero, List.set_cons_succ]
      refine wpAnyH_take (i := 9) (oi := { dst := some 38, op := Go.Op.pick (Go.Operand.tmp 30) (Go.Operand.tmp 37) (Go.Operand.const (Go.Value.bool false)), type := 4, pos := "law.go:33", after := #[{ on := 1, ground := Go.Ground.data }, { on := 8, ground := Go.Ground.data }], guard := none }) (v := ?v7) rfl (by kernel_rfl) (by kernel_rfl) (by kernel_rfl) (fun _ _ _ h => h) (Or.inl ⟨by kernel_rfl, ?h7⟩) (by assumption) ?r7
      case h7 => (intro w hSw; (try dsimp only at hSw); go_simp; try with_reducible rfl)
      try simp only [Act.put, List.setIfInBounds_toArray, List.set_cons_zero, List.set_cons_succ]
      refine wpAnyH_take (i := 10) (oi := { dst := some 39, op := Go.Op.move (Go.Operand.tmp 38), type := 4, pos := "law.go:33", after := #[{ on := 9, ground := Go.Ground.data }, { on := 7, ground := Go.Ground.chain }], guard := none }) (v := ?v8) rfl (by kernel_rfl) (by kernel_rfl) (by kernel_rfl) (fun _ _ _ h => h) (Or.inl ⟨by kernel_rfl, ?h8⟩) (by assumption) ?r8
      case h8 => (intro w hSw; (try dsimp only at hSw); go_simp; try with_reducible rfl)
      try simp only [Act.put, List.setIfInBounds_toArray, List.set_cons_zero, List.set_cons_succ]
      refine wpAnyH_take (i := 11) (oi := { dst := some 40, op := Go.Op.move (Go.Operand.tmp 0), type := 22, pos := "law.go:33", after := #[{ on := 10, ground := Go.Ground.guard }], guard := some (10, true) }) (v := ?v9) rfl (by kernel_rfl) (by kernel_rfl) (by kernel_rfl) (fun _ _ _ h => h) (Or.inl ⟨by kernel_rfl, ?h9⟩) (by assumption) ?r9
      case h9 => (intro w hSw; (try dsimp only at hSw); go_simp; try with_reducible rfl)
      try simp only [Act.put, List.setIfInBounds_toArray, List.set_cons_zero, List.set_cons_succ]
      refine wpAnyH_take (i := 14) (oi := { dst := some 43, op := Go.Op.move (Go.Operand.tmp 7), type := 27, pos := "law.go:33", after := #[{ on := 10, ground := Go.Ground.guard }], guard := some (10, true) }) (v := ?v10) rfl (by kernel_rfl) (by kernel_rfl) (by kernel_rfl) (fun _ _ _ h => h) (Or.inl ⟨by kernel_rfl, ?h10⟩) (by assumption) ?r10
      case h10 => (intro w hSw; (try dsimp only at hSw); go_simp; try with_reducible rfl)
      try simp only [Act.put, List.setIfInBounds_toArray, List.set_cons_zero, List.set_cons_succ]
      refine wpAnyH_take (i := 15) (oi := { dst := some 44, op := Go.Op.build 34 #[(0, Go.Operand.tmp 43)], type := 34, pos := "law.go:33", after := #[{ on := 14, ground := Go.Ground.data }, { on := 10, ground := Go.Ground.guard }], guard := some (10, true) }) (v := ?v11) rfl (by kernel_rfl) (by kernel_rfl) (by kernel_rfl) (fun _ _ _ h => h) (Or.inl ⟨by kernel_rfl, ?h11⟩) (by assumption) ?r11
      case h11 => (intro w hSw; (try dsimp only at hSw); go_simp; try with_reducible rfl)
      try simp only [Act.put, List.setIfInBounds_toArray, List.set_cons_zero, List.set_cons_succ]
      refine wpAnyH_ready (rs := [12]) (by kernel_rfl) (by simp) ?_
      refine AllReadyH.cons (o := { dst := some 41, op := Go.Op.call { callee := Go.Callee.value (Go.Operand.func 13), args := #[Go.Operand.tmp 40], argTypes := #[22] }, type := 27, pos := "law.go:33", after := #[{ on := 11, ground := Go.Ground.data }, { on := 10, ground := Go.Ground.chain }, { on := 10, ground := Go.Ground.guard }], guard := some (10, true) }) rfl (fun K hK => ?_) AllReadyH.nil
      go_simp
      with_reducible refine (q5.out _ (hRg.out.below hHeld)).mono ?_
      rintro e g12 h12
      obtain ⟨a12, c12, rfl, s12, b12, l12⟩ := h12.openc _ hRl'
      go_simp
      refine hK.out _ _ (hHeld.trans (b12.mono hHeld.size)) (fun hHeld => ?_)
      clear hK K
      try simp only [Act.put, List.setIfInBounds_toArray, List.set_cons_zero, List.set_cons_succ]
      refine wpAnyH_take (i := 13) (oi := { dst := some 42, op := Go.Op.build 34 #[(0, Go.Operand.tmp 41)], type := 34, pos := "law.go:33", after := #[{ on := 12, ground := Go.Ground.data }, { on := 10, ground := Go.Ground.guard }], guard := some (10, true) }) (v := ?v12) rfl (by kernel_rfl) (by kernel_rfl) (by kernel_rfl) (fun _ _ _ h => h) (Or.inl ⟨by kernel_rfl, ?h12⟩) (by assumption) ?r12
      case h12 => (intro w hSw; (try dsimp only at hSw); go_simp; try with_reducible rfl)
      try simp only [Act.put, List.setIfInBounds_toArray, List.set_cons_zero, List.set_cons_succ]
      refine wpAnyH_ready (rs := [16]) (by kernel_rfl) (by simp) ?_
      refine AllReadyH.cons (o := { dst := some 45, op := Go.Op.call { callee := Go.Callee.value (Go.Operand.func 12), args := #[Go.Operand.tmp 42, Go.Operand.tmp 44], argTypes := #[34, 34] }, type := 4, pos := "law.go:33", after := #[{ on := 13, ground := Go.Ground.data }, { on := 15, ground := Go.Ground.data }, { on := 12, ground := Go.Ground.chain }, { on := 10, ground := Go.Ground.guard }], guard := some (10, true) }) rfl (fun K hK => ?_) AllReadyH.nil
      go_simp
      with_reducible refine (q9.out _ _ _ _ g12 ⟨hRl'.symm, l12, by omega, s12⟩ ⟨hRl'.symm, hc7, by omega, (s7'.out.below hHeld).mono hHeld.size⟩).mono ?_
      rintro e g16 ⟨rfl, b16⟩
      go_simp
      refine hK.out _ _ (hHeld.trans (b16.mono hHeld.size)) (fun hHeld => ?_)
      clear hK K
      try simp only [Act.put, List.setIfInBounds_toArray, List.set_cons_zero, List.set_cons_succ]
      refine wpAnyH_take (i := 17) (oi := { dst := some 46, op := Go.Op.pick (Go.Operand.tmp 39) (Go.Operand.tmp 45) (Go.Operand.const (Go.Value.bool false)), type := 4, pos := "law.go:33", after := #[{ on := 10, ground := Go.Ground.data }, { on := 16, ground := Go.Ground.data }], guard := none }) (v := ?v13) rfl (by kernel_rfl) (by kernel_rfl) (by kernel_rfl) (fun _ _ _ h => h) (Or.inl ⟨by kernel_rfl, ?h13⟩) (by assumption) ?r13
      case h13 => (intro w hSw; (try dsimp only at hSw); go_simp; try with_reducible rfl)
      try simp only [Act.put, List.setIfInBounds_toArray, List.set_cons_zero, List.set_cons_succ]
      refine wpAnyH_take (i := 18) (oi := { dst := some 47, op := Go.Op.move (Go.Operand.tmp 46), type := 4, pos := "law.go:33", after := #[{ on := 17, ground := Go.Ground.data }, { on := 16, ground := Go.Ground.chain }], guard := none }) (v := ?v14) rfl (by kernel_rfl) (by kernel_rfl) (by kernel_rfl) (fun _ _ _ h => h) (Or.inl ⟨by kernel_rfl, ?h14⟩) (by assumption) ?r14
      case h14 => (intro w hSw; (try dsimp only at hSw); go_simp; try with_reducible rfl)
      try simp only [Act.put, List.setIfInBounds_toArray, List.set_cons_zero, List.set_cons_succ]
      refine wpAnyH_take (i := 19) (oi := { dst := some 48, op := Go.Op.move (Go.Operand.tmp 0), type := 22, pos := "law.go:33", after := #[{ on := 18, ground := Go.Ground.guard }], guard := some (18, true) }) (v := ?v15) rfl (by kernel_rfl) (by kernel_rfl) (by kernel_rfl) (fun _ _ _ h => h) (Or.inl ⟨by kernel_rfl, ?h15⟩) (by assumption) ?r15
      case h15 => (intro w hSw; (try dsimp only at hSw); go_simp; try with_reducible rfl)
      try simp only [Act.put, List.setIfInBounds_toArray, List.set_cons_zero, List.set_cons_succ]
      refine wpAnyH_take (i := 21) (oi := { dst := some 50, op := Go.Op.move (Go.Operand.tmp 0), type := 22, pos := "law.go:33", after := #[{ on := 18, ground := Go.Ground.guard }], guard := some (18, true) }) (v := ?v16) rfl (by kernel_rfl) (by kernel_rfl) (by kernel_rfl) (fun _ _ _ h => h) (Or.inl ⟨by kernel_rfl, ?h16⟩) (by assumption) ?r16
      case h16 => (intro w hSw; (try dsimp only at hSw); go_simp; try with_reducible rfl)
      try simp only [Act.put, List.setIfInBounds_toArray, List.set_cons_zero, List.set_cons_succ]
      refine wpAnyH_ready (rs := [20]) (by kernel_rfl) (by simp) ?_
      refine AllReadyH.cons (o := { dst := some 49, op := Go.Op.call { callee := Go.Callee.value (Go.Operand.func 15), args := #[Go.Operand.tmp 48], argTypes := #[22] }, type := 36, pos := "law.go:33", after := #[{ on := 19, ground := Go.Ground.data }, { on := 18, ground := Go.Ground.chain }, { on := 18, ground := Go.Ground.guard }], guard := some (18, true) }) rfl (fun K hK => ?_) AllReadyH.nil
      go_simp
      with_reducible refine (q6.out _ (hRg.out.below hHeld)).mono ?_
      rintro e g20 h20
      obtain ⟨a20, c20, rfl, s20, b20⟩ := h20.open _ hfl.out
      go_simp
      refine hK.out _ _ (hHeld.trans (b20.mono hHeld.size)) (fun hHeld => ?_)
      clear hK K
      try simp only [Act.put, List.setIfInBounds_toArray, List.set_cons_zero, List.set_cons_succ]
      refine wpAnyH_ready (rs := [22]) (by kernel_rfl) (by simp) ?_
      refine AllReadyH.cons (o := { dst := some 51, op := Go.Op.call { callee := Go.Callee.value (Go.Operand.func 16), args := #[Go.Operand.tmp 50], argTypes := #[22] }, type := 36, pos := "law.go:33", after := #[{ on := 21, ground := Go.Ground.data }, { on := 20, ground := Go.Ground.chain }, { on := 18, ground := Go.Ground.guard }], guard := some (18, true) }) rfl (fun K hK => ?_) AllReadyH.nil
      go_simp
      with_reducible refine (q7.out _ (hRg.out.below hHeld)).mono ?_
      rintro e g22 h22
      obtain ⟨a22, c22, rfl, s22, b22⟩ := h22.open _ hfl.out
      go_simp
      refine hK.out _ _ (hHeld.trans (b22.mono hHeld.size)) (fun hHeld => ?_)
      clear hK K
      try simp only [Act.put, List.setIfInBounds_toArray, List.set_cons_zero, List.set_cons_succ]
      refine wpAnyH_ready (rs := [23]) (by kernel_rfl) (by simp) ?_
      refine AllReadyH.cons (o := { dst := some 52, op := Go.Op.call { callee := Go.Callee.value (Go.Operand.func 14), args := #[Go.Operand.tmp 49, Go.Operand.tmp 51], argTypes := #[36, 36] }, type := 4, pos := "law.go:33", after := #[{ on := 20, ground := Go.Ground.data }, { on := 22, ground := Go.Ground.data }, { on := 22, ground := Go.Ground.chain }, { on := 18, ground := Go.Ground.guard }], guard := some (18, true) }) rfl (fun K hK => ?_) AllReadyH.nil
      go_simp
      with_reducible refine (q8.out a20 a22 k k c20 c22 g22 ⟨hfl.out.symm, by omega, (s20.below b22).mono b22.size⟩ ⟨hfl.out.symm, by omega, s22⟩).mono ?_
      rintro e g23 ⟨rfl, q23, rfl⟩
      go_simp
      refine hK.out _ _ (Below.drewN hHeld q23) (fun hHeld => ?_)
      clear hK K
      try simp only [Act.put, List.setIfInBounds_toArray, List.set_cons_zero, List.set_cons_succ]
      refine wpAnyH_take (i := 24) (oi := { dst := some 53, op := Go.Op.pick (Go.Operand.tmp 47) (Go.Operand.tmp 52) (Go.Operand.const (Go.Value.bool false)), type := 4, pos := "law.go:33", after := #[{ on := 18, ground := Go.Ground.data }, { on := 23, ground := Go.Ground.data }], guard := none }) (v := ?v17) rfl (by kernel_rfl) (by kernel_rfl) (by kernel_rfl) (fun _ _ _ h => h) (Or.inl ⟨by kernel_rfl, ?h17⟩) (by assumption) ?r17
      case h17 => (intro w hSw; (try dsimp only at hSw); go_simp; try with_reducible rfl)
      try simp only [Act.put, List.setIfInBounds_toArray, List.set_cons_zero, List.set_cons_succ]
      refine wpAnyH_take (i := 25) (oi := { dst := some 6, op := Go.Op.assign (Go.Operand.tmp 53), type := 4, pos := "law.go:33", after := #[{ on := 24, ground := Go.Ground.data }, { on := 23, ground := Go.Ground.chain }, { on := 0, ground := Go.Ground.phase }, { on := 1, ground := Go.Ground.phase }, { on := 2, ground := Go.Ground.phase }, { on := 3, ground := Go.Ground.phase }, { on := 4, ground := Go.Ground.phase }, { on := 5, ground := Go.Ground.phase }, { on := 6, ground := Go.Ground.phase }, { on := 7, ground := Go.Ground.phase }, { on := 8, ground := Go.Ground.phase }, { on := 9, ground := Go.Ground.phase }, { on := 10, ground := Go.Ground.phase }, { on := 11, ground := Go.Ground.phase }, { on := 12, ground := Go.Ground.phase }, { on := 13, ground := Go.Ground.phase }, { on := 14, ground := Go.Ground.phase }, { on := 15, ground := Go.Ground.phase }, { on := 16, ground := Go.Ground.phase }, { on := 17, ground := Go.Ground.phase }, { on := 18, ground := Go.Ground.phase }, { on := 19, ground := Go.Ground.phase }, { on := 20, ground := Go.Ground.phase }, { on := 21, ground := Go.Ground.phase }, { on := 22, ground := Go.Ground.phase }, { on := 23, ground := Go.Ground.phase }, { on := 24, ground := Go.Ground.phase }], guard := none }) (v := ?v18) rfl (by kernel_rfl) (by kernel_rfl) (by kernel_rfl) (fun _ _ _ h => h) (Or.inl ⟨by kernel_rfl, ?h18⟩) (by assumption) ?r18
      case h18 => (intro w hSw; (try dsimp only at hSw); go_simp; try with_reducible rfl)
      try simp only [Act.put, List.setIfInBounds_toArray, List.set_cons_zero, List.set_cons_succ]
      refine wpAnyH_done (by kernel_rfl) ?_ _
      have hX := Lib.hid hHeld
      clear hHeld
      go_wp2
      go_ret
      exact ⟨rfl, hend.out.trans (hX.out.mono hend.out.size)⟩
end Go.Proofs.Ytbpaoiajfjkmfaa
