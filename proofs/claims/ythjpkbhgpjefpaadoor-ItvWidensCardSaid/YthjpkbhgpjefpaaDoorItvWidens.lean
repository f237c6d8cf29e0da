/- ItvWidens: the walk of the statement's function. -/
import Derived.Test.YthjpkbhgpjefpaaDoorItvWidMath
import Derived.Test.YthjpkbhgpjefpaaDoorItvLives
import Derived.Deep.SlicePairs
namespace Go.Proofs.YthjpkbhgpjefpaaDoor
open Go.RowKit
set_option linter.unusedVariables false
set_option linter.unusedSimpArgs false

/-- A slice of pairs of numbers that came in. -/
def PairRow (w : World) (a : Option Addr) (len : Nat) (A B : Nat → Int) : Prop := ∀ i, i < len → ∃ x, a = some x ∧ x.block < w.heap.size ∧ w.cell? (x.add (i * 2)) = some (.int .i64 (A i)) ∧ w.cell? (x.add (i * 2 + 1)) = some (.int .i64 (B i))
theorem addr_add (x : Addr) (i : Nat) : (x.add i).block = x.block := by unfold Addr.add; split <;> rfl
theorem addr_next (x : Addr) (i : Nat) : x.add (i + 1) = ⟨(x.add i).block, (x.add i).off + 1, none⟩ := by
  unfold Addr.add
  rw [if_neg (by omega)]
  split
  · subst i; rfl
  · rfl
set_option maxRecDepth 100000 in
set_option maxHeartbeats 4000000 in
theorem itvWidens_core (w : World) (hE : Env w) (a : Int) (wa : (Lit.int .i64 a).wf = true) (b : Int) (wb : (Lit.int .i64 b).wf = true) (r : Option Addr) (len cap : Nat) (hlc : len ≤ cap) (A B : Nat → Int) (hrow : PairRow w r len A B) :
    Calls Tryd.prog 6 #[.agg #[.int .i64 a, .int .i64 b], .slice r len cap] w (Gives (.bool true) w) := by
  have cL := Lib.hid (fun w hE => lives_any w hE)
  by_cases hm : len ≤ 300
  · have dm : decide ((300 : Int) < (len : Int)) = false := by simp; omega
    have cJ := Lib.hid (fun p q c d w => join_any p q c d w)
    have cW := Lib.hid (fun p q c d w => widen_any p q c d w)
    have cLe := Lib.hid (fun p q c d w => leq_any p q c d w)
    have cS := Lib.hid (fun p q c d w => same_any p q c d w)
    have hrow' := Lib.hid hrow
    clear hrow
    obtain ⟨kx, hB, hS⟩ := box1 w a b
    go_enter Tryd.func6, Tryd.ntmps6
    go_wp2
    generalize w.alloc (.cells #[.int .i64 a, .int .i64 b] 23) = w0 at *
    generalize hg : w.heap.size = g at kx hB hS ⊢
    have hS : g < w0.heap.size := by omega
    go_loopw [5, 6] (fun n i wr => ∃ (k c : Nat) (p q : Int), k ≤ len ∧ c ≤ 3 ∧ Hid (c + phi p q ≤ 3) ∧ Hid (Held wr g p q) ∧ Hid (Below g w wr) ∧ g < wr.heap.size ∧ n = .int .i64 c ∧ i = .int .i64 k) (fun _ i _ => len - (intOf i).toNat)
    case atStart => exact ⟨0, 0, a, b, by omega, by omega, Lib.hid (by have := phi_le a b; omega), Lib.hid kx, Lib.hid hB, hS, rfl, rfl⟩
    case round =>
      obtain ⟨k, c, p, q, hk, hc, hphi, kx', hB', hS', rfl, rfl⟩ := hrel
      clear kx hB
      by_cases hlt : k < len
      · obtain ⟨x, rfl, hxb, hx0, hx1⟩ := hrow'.out k hlt
        go_wp2
        have cJ' := Lib.hid (fun w => cJ.out p q (A k) (B k) w)
        have cW' := fun w => cW.out p q (jnL (ofL p q) (ofH p q) (ofL (A k) (B k)) (ofH (A k) (B k))) (jnH (ofL p q) (ofH p q) (ofL (A k) (B k)) (ofH (A k) (B k))) w
        have eL : wdL (ofL p q) (ofH p q) (ofL (jnL (ofL p q) (ofH p q) (ofL (A k) (B k)) (ofH (A k) (B k))) (jnH (ofL p q) (ofH p q) (ofL (A k) (B k)) (ofH (A k) (B k)))) (ofH (jnL (ofL p q) (ofH p q) (ofL (A k) (B k)) (ofH (A k) (B k))) (jnH (ofL p q) (ofH p q) (ofL (A k) (B k)) (ofH (A k) (B k)))) = stL p q (A k) (B k) := rfl
        have eH : wdH (ofL p q) (ofH p q) (ofL (jnL (ofL p q) (ofH p q) (ofL (A k) (B k)) (ofH (A k) (B k))) (jnH (ofL p q) (ofH p q) (ofL (A k) (B k)) (ofH (A k) (B k)))) (ofH (jnL (ofL p q) (ofH p q) (ofL (A k) (B k)) (ofH (A k) (B k))) (jnH (ofL p q) (ofH p q) (ofL (A k) (B k)) (ofH (A k) (B k)))) = stH p q (A k) (B k) := rfl
        rw [eL, eH] at cW'
        clear eL eH
        have cW' := Lib.hid cW'
        have l1 := fun w => cLe.out p q (stL p q (A k) (B k)) (stH p q (A k) (B k)) w
        have l2 := fun w => cLe.out (A k) (B k) (stL p q (A k) (B k)) (stH p q (A k) (B k)) w
        have e1 : (ofL (max p (stL p q (A k) (B k))) (min q (stH p q (A k) (B k))) == ofL p q && ofH (max p (stL p q (A k) (B k))) (min q (stH p q (A k) (B k))) == ofH p q) = true := (st_leq p q (A k) (B k)).1
        have e2 : (ofL (max (A k) (stL p q (A k) (B k))) (min (B k) (stH p q (A k) (B k))) == ofL (A k) (B k) && ofH (max (A k) (stL p q (A k) (B k))) (min (B k) (stH p q (A k) (B k))) == ofH (A k) (B k)) = true := (st_leq p q (A k) (B k)).2
        rw [e1] at l1
        rw [e2] at l2
        clear e1 e2
        have l1 := Lib.hid l1
        have l2 := Lib.hid l2
        have sm := Lib.hid (fun w => cS.out p q (stL p q (A k) (B k)) (stH p q (A k) (B k)) w)
        have hph := Lib.hid (st_phi p q (A k) (B k))
        generalize jnL (ofL p q) (ofH p q) (ofL (A k) (B k)) (ofH (A k) (B k)) = jl at *
        generalize jnH (ofL p q) (ofH p q) (ofL (A k) (B k)) (ofH (A k) (B k)) = jh at *
        generalize stL p q (A k) (B k) = yl at *
        generalize stH p q (A k) (B k) = yh at *
        generalize hSm : (ofL p q == ofL yl yh && ofH p q == ofH yl yh) = same at *
        clear hSm
        generalize A k = A0 at *
        generalize B k = B0 at *
        have fx0 : ∀ W, Below wr.heap.size wr W → W.cell? ⟨g, 0, none⟩ = some (.int .i64 p) := fun W hW => (kx'.out.on hW hS').c0
        have fx1 : ∀ W, Below wr.heap.size wr W → W.cell? ⟨g, 1, none⟩ = some (.int .i64 q) := fun W hW => (kx'.out.on hW hS').c1
        have hwg : ∀ W, Below wr.heap.size wr W → Below g w W := fun W hW => hB'.out.trans (hW.mono (by omega))
        have fl0 : ∀ W, Below wr.heap.size wr W → W.cell? (x.add (k * 2)) = some (.int .i64 A0) := fun W hW => ((hwg W hW).cell (p := x.add (k * 2)) (by rw [addr_add]; omega)).trans hx0
        rw [addr_next] at hx1
        have fl1 : ∀ W, Below wr.heap.size wr W → W.cell? ⟨(x.add (k * 2)).block, (x.add (k * 2)).off + 1, none⟩ = some (.int .i64 B0) := fun W hW => ((hwg W hW).cell (p := ⟨(x.add (k * 2)).block, (x.add (k * 2)).off + 1, none⟩) (by show (x.add (k * 2)).block < _; rw [addr_add]; omega)).trans hx1
        have hsz : wr.heap.size ≤ wr.drew.heap.size := Nat.le_refl _
        have hall : Below wr.heap.size wr wr.drew := (Below.refl _ _).drew
        clear hx0 hx1 hxb hwg
        refine Code.wp_mono (Q := fun ex a' w' => match ex with | Exit.normal => ∃ gy, a' = Act.mk #[.agg #[.int .i64 a, .int .i64 b], .slice (some x) len cap, .pointer (some ⟨g, 0, none⟩), undef, u4, .int .i64 c, .int .i64 k, .pointer (some ⟨gy, 0, none⟩), .slice (some x) len cap, .int .i64 len, .bool false, undef, .int .i64 k, .slice (some x) len cap, .int .i64 len, .bool true, u16, u17, .agg #[.int .i64 p, .int .i64 q], .agg #[.int .i64 p, .int .i64 q], .slice (some x) len cap, .int .i64 k, .pointer (some (x.add (k * 2))), .agg #[.int .i64 A0, .int .i64 B0], .agg #[.int .i64 jl, .int .i64 jh], .agg #[.int .i64 yl, .int .i64 yh], u26, u27, u28, u29, u30, u31, u32, u33, u34, u35, u36, u37, u38, u39, u40, u41, u42, u43, u44, u45, undef, undef, undef, undef, undef] [] ∧ Held w' g p q ∧ Held w' gy yl yh ∧ gy ≠ g ∧ g < gy ∧ gy < w'.heap.size ∧ Below wr.heap.size wr w' | _ => False) ?hq ?hr
        case hr =>
          refine wp_drawn_at (wr.heap.size) (by kernel_rfl) (fun hHeld => ?_)
          generalize wr.drew = wd at hsz hall hHeld ⊢
          refine wpAnyH_take (i := 0) (oi := { dst := some 18, op := Go.Op.load 23 (Go.Operand.tmp 2), type := 23, pos := "law.go:62", after := #[], guard := none }) (v := ?v1) rfl (by kernel_rfl) (by kernel_rfl) (by kernel_rfl) (fun _ _ _ h => h) (Or.inl ⟨by kernel_rfl, ?h1⟩) (by assumption) ?r1
          case h1 => (intro w hSw; (try dsimp only at hSw); go_simp; try with_reducible rfl)
          try simp only [Act.put, List.setIfInBounds_toArray, List.set_cons_zero, List.set_cons_succ]
          refine wpAnyH_take (i := 1) (oi := { dst := some 19, op := Go.Op.load 23 (Go.Operand.tmp 2), type := 23, pos := "law.go:62", after := #[], guard := none }) (v := ?v2) rfl (by kernel_rfl) (by kernel_rfl) (by kernel_rfl) (fun _ _ _ h => h) (Or.inl ⟨by kernel_rfl, ?h2⟩) (by assumption) ?r2
          case h2 => (intro w hSw; (try dsimp only at hSw); go_simp; try with_reducible rfl)
          try simp only [Act.put, List.setIfInBounds_toArray, List.set_cons_zero, List.set_cons_succ]
          refine wpAnyH_take (i := 2) (oi := { dst := some 20, op := Go.Op.move (Go.Operand.tmp 1), type := 38, pos := "law.go:62", after := #[], guard := none }) (v := ?v3) rfl (by kernel_rfl) (by kernel_rfl) (by kernel_rfl) (fun _ _ _ h => h) (Or.inl ⟨by kernel_rfl, ?h3⟩) (by assumption) ?r3
          case h3 => (intro w hSw; (try dsimp only at hSw); go_simp; try with_reducible rfl)
          try simp only [Act.put, List.setIfInBounds_toArray, List.set_cons_zero, List.set_cons_succ]
          refine wpAnyH_take (i := 3) (oi := { dst := some 21, op := Go.Op.move (Go.Operand.tmp 6), type := 3, pos := "law.go:62", after := #[], guard := none }) (v := ?v4) rfl (by kernel_rfl) (by kernel_rfl) (by kernel_rfl) (fun _ _ _ h => h) (Or.inl ⟨by kernel_rfl, ?h4⟩) (by assumption) ?r4
          case h4 => (intro w hSw; (try dsimp only at hSw); go_simp; try with_reducible rfl)
          try simp only [Act.put, List.setIfInBounds_toArray, List.set_cons_zero, List.set_cons_succ]
          refine wpAnyH_take (i := 4) (oi := { dst := some 22, op := Go.Op.indexAddr 38 (Go.Operand.tmp 20) (Go.Operand.tmp 21), type := 0, pos := "law.go:62", after := #[{ on := 2, ground := Go.Ground.data }, { on := 3, ground := Go.Ground.data }], guard := none }) (v := ?v5) rfl (by kernel_rfl) (by kernel_rfl) (by kernel_rfl) (fun _ _ _ h => h) (Or.inl ⟨by kernel_rfl, ?h5⟩) (by assumption) ?r5
          case h5 => (intro w hSw; (try dsimp only at hSw); go_simp; try with_reducible rfl)
          try simp only [Act.put, List.setIfInBounds_toArray, List.set_cons_zero, List.set_cons_succ]
          refine wpAnyH_take (i := 5) (oi := { dst := some 23, op := Go.Op.load 23 (Go.Operand.tmp 22), type := 23, pos := "law.go:62", after := #[{ on := 4, ground := Go.Ground.data }], guard := none }) (v := ?v6) rfl (by kernel_rfl) (by kernel_rfl) (by kernel_rfl) (fun _ _ _ h => h) (Or.inl ⟨by kernel_rfl, ?h6⟩) (by assumption) ?r6
          case h6 => (intro w hSw; (try dsimp only at hSw); go_simp; try with_reducible rfl)
          try simp only [Act.put, List.setIfInBounds_toArray, List.set_cons_zero, List.set_cons_succ]
          refine wpAnyH_ready (rs := [6, 8]) (by kernel_rfl) (by simp) ?_
          refine AllReadyH.cons (o := { dst := some 24, op := Go.Op.call { callee := Go.Callee.value (Go.Operand.func 19), args := #[Go.Operand.tmp 19, Go.Operand.tmp 23], argTypes := #[23, 23] }, type := 23, pos := "law.go:62", after := #[{ on := 1, ground := Go.Ground.data }, { on := 5, ground := Go.Ground.data }], guard := none }) rfl (fun K hK => ?_) (AllReadyH.cons (o := { dst := some 7, op := Go.Op.alloc 23, type := 0, pos := "law.go:62", after := #[], guard := none }) rfl (fun K hK => ?_) AllReadyH.nil)
          · go_simp
            refine (cJ'.out _).mono ?_
            rintro e w6 ⟨rfl, h6⟩
            have hall := hall.trans (h6.mono hsz)
            have hsz := Nat.le_trans hsz h6.size
            try (have kn := kn.on h6 hn)
            try (have hn := Nat.lt_of_lt_of_le hn h6.size)
            go_simp
            refine hK.out _ _ (hall) (fun hHeld => ?_)
            clear hK K
            try simp only [Act.put, List.setIfInBounds_toArray, List.set_cons_zero, List.set_cons_succ]
            refine wpAnyH_ready (rs := [7, 8]) (by kernel_rfl) (by simp) ?_
            refine AllReadyH.cons (o := { dst := some 25, op := Go.Op.call { callee := Go.Callee.value (Go.Operand.func 29), args := #[Go.Operand.tmp 18, Go.Operand.tmp 24], argTypes := #[23, 23] }, type := 23, pos := "law.go:62", after := #[{ on := 0, ground := Go.Ground.data }, { on := 6, ground := Go.Ground.data }, { on := 6, ground := Go.Ground.chain }], guard := none }) rfl (fun K hK => ?_) (AllReadyH.cons (o := { dst := some 7, op := Go.Op.alloc 23, type := 0, pos := "law.go:62", after := #[], guard := none }) rfl (fun K hK => ?_) AllReadyH.nil)
            · go_simp
              refine (cW'.out _).mono ?_
              rintro e w7 ⟨rfl, h7⟩
              have hall := hall.trans (h7.mono hsz)
              have hsz := Nat.le_trans hsz h7.size
              try (have kn := kn.on h7 hn)
              try (have hn := Nat.lt_of_lt_of_le hn h7.size)
              go_simp
              refine hK.out _ _ (hall) (fun hHeld => ?_)
              clear hK K
              try simp only [Act.put, List.setIfInBounds_toArray, List.set_cons_zero, List.set_cons_succ]
              refine wpAnyH_ready (rs := [8]) (by kernel_rfl) (by simp) ?_
              refine AllReadyH.cons (o := { dst := some 7, op := Go.Op.alloc 23, type := 0, pos := "law.go:62", after := #[], guard := none }) rfl (fun K hK => ?_) AllReadyH.nil
              go_simp
              have kn := Held.new w7 0 0
              have sn := size_alloc1 w7 (.cells #[.int .i64 0, .int .i64 0] 23)
              have hall := hall.alloc hsz (.cells #[.int .i64 0, .int .i64 0] 23)
              generalize w7.alloc (.cells #[.int .i64 0, .int .i64 0] 23) = w8 at kn sn hall ⊢
              have hgy : wr.heap.size ≤ w7.heap.size := hsz
              generalize w7.heap.size = gy at kn sn hgy ⊢
              have hsz : wr.heap.size ≤ w8.heap.size := by omega
              have hn : gy < w8.heap.size := by omega
              clear sn
              refine hK.out _ _ (hall) (fun hHeld => ?_)
              clear hK K
              try simp only [Act.put, List.setIfInBounds_toArray, List.set_cons_zero, List.set_cons_succ]
              refine wpAnyH_ready (rs := [9]) (by kernel_rfl) (by simp) ?_
              refine AllReadyH.cons (o := { dst := none, op := Go.Op.store 23 (Go.Operand.tmp 7) (Go.Operand.tmp 25), type := 0, pos := "law.go:62", after := #[{ on := 8, ground := Go.Ground.data }, { on := 7, ground := Go.Ground.data }, { on := 7, ground := Go.Ground.chain }, { on := 0, ground := Go.Ground.phase }, { on := 1, ground := Go.Ground.phase }, { on := 2, ground := Go.Ground.phase }, { on := 3, ground := Go.Ground.phase }, { on := 4, ground := Go.Ground.phase }, { on := 5, ground := Go.Ground.phase }, { on := 6, ground := Go.Ground.phase }, { on := 7, ground := Go.Ground.phase }, { on := 8, ground := Go.Ground.phase }], guard := none }) rfl (fun K hK => ?_) AllReadyH.nil
              have y0 := kn.c0
              have y1 := kn.c1
              have y2 := kn.f0
              have y3 := kn.f1
              go_simp
              have kz := kn.set yl yh
              have ko := (((kx'.out.on hall hS')).other (g := gy) (by omega) 0 (.int .i64 yl)).other (g := gy) (by omega) 1 (.int .i64 yh)
              have hn2 : gy < ((w8.setCell ⟨gy, 0, none⟩ (.int .i64 yl)).setCell ⟨gy, 1, none⟩ (.int .i64 yh)).heap.size := by rw [size_two]; exact hn
              have hall := below_two (h := gy) hall hgy yl yh
              refine hK.out _ _ (hall) (fun hHeld => ?_)
              clear hK K
              try simp only [Act.put, List.setIfInBounds_toArray, List.set_cons_zero, List.set_cons_succ]
              refine wpAnyH_done (by kernel_rfl) ?_ _
              exact ⟨gy, rfl, ko, kz, by omega, by omega, hn2, hall⟩
            · go_simp
              have kn := Held.new w6 0 0
              have sn := size_alloc1 w6 (.cells #[.int .i64 0, .int .i64 0] 23)
              have hall := hall.alloc hsz (.cells #[.int .i64 0, .int .i64 0] 23)
              generalize w6.alloc (.cells #[.int .i64 0, .int .i64 0] 23) = w8 at kn sn hall ⊢
              have hgy : wr.heap.size ≤ w6.heap.size := hsz
              generalize w6.heap.size = gy at kn sn hgy ⊢
              have hsz : wr.heap.size ≤ w8.heap.size := by omega
              have hn : gy < w8.heap.size := by omega
              clear sn
              refine hK.out _ _ (hall) (fun hHeld => ?_)
              clear hK K
              try simp only [Act.put, List.setIfInBounds_toArray, List.set_cons_zero, List.set_cons_succ]
              refine wpAnyH_ready (rs := [7]) (by kernel_rfl) (by simp) ?_
              refine AllReadyH.cons (o := { dst := some 25, op := Go.Op.call { callee := Go.Callee.value (Go.Operand.func 29), args := #[Go.Operand.tmp 18, Go.Operand.tmp 24], argTypes := #[23, 23] }, type := 23, pos := "law.go:62", after := #[{ on := 0, ground := Go.Ground.data }, { on := 6, ground := Go.Ground.data }, { on := 6, ground := Go.Ground.chain }], guard := none }) rfl (fun K hK => ?_) AllReadyH.nil
              go_simp
              refine (cW'.out _).mono ?_
              rintro e w7 ⟨rfl, h7⟩
              have hall := hall.trans (h7.mono hsz)
              have hsz := Nat.le_trans hsz h7.size
              try (have kn := kn.on h7 hn)
              try (have hn := Nat.lt_of_lt_of_le hn h7.size)
              go_simp
              refine hK.out _ _ (hall) (fun hHeld => ?_)
              clear hK K
              try simp only [Act.put, List.setIfInBounds_toArray, List.set_cons_zero, List.set_cons_succ]
              refine wpAnyH_ready (rs := [9]) (by kernel_rfl) (by simp) ?_
              refine AllReadyH.cons (o := { dst := none, op := Go.Op.store 23 (Go.Operand.tmp 7) (Go.Operand.tmp 25), type := 0, pos := "law.go:62", after := #[{ on := 8, ground := Go.Ground.data }, { on := 7, ground := Go.Ground.data }, { on := 7, ground := Go.Ground.chain }, { on := 0, ground := Go.Ground.phase }, { on := 1, ground := Go.Ground.phase }, { on := 2, ground := Go.Ground.phase }, { on := 3, ground := Go.Ground.phase }, { on := 4, ground := Go.Ground.phase }, { on := 5, ground := Go.Ground.phase }, { on := 6, ground := Go.Ground.phase }, { on := 7, ground := Go.Ground.phase }, { on := 8, ground := Go.Ground.phase }], guard := none }) rfl (fun K hK => ?_) AllReadyH.nil
              have y0 := kn.c0
              have y1 := kn.c1
              have y2 := kn.f0
              have y3 := kn.f1
              go_simp
              have kz := kn.set yl yh
              have ko := (((kx'.out.on hall hS')).other (g := gy) (by omega) 0 (.int .i64 yl)).other (g := gy) (by omega) 1 (.int .i64 yh)
              have hn2 : gy < ((w7.setCell ⟨gy, 0, none⟩ (.int .i64 yl)).setCell ⟨gy, 1, none⟩ (.int .i64 yh)).heap.size := by rw [size_two]; exact hn
              have hall := below_two (h := gy) hall hgy yl yh
              refine hK.out _ _ (hall) (fun hHeld => ?_)
              clear hK K
              try simp only [Act.put, List.setIfInBounds_toArray, List.set_cons_zero, List.set_cons_succ]
              refine wpAnyH_done (by kernel_rfl) ?_ _
              exact ⟨gy, rfl, ko, kz, by omega, by omega, hn2, hall⟩
          · go_simp
            have kn := Held.new wd 0 0
            have sn := size_alloc1 wd (.cells #[.int .i64 0, .int .i64 0] 23)
            have hall := hall.alloc hsz (.cells #[.int .i64 0, .int .i64 0] 23)
            generalize wd.alloc (.cells #[.int .i64 0, .int .i64 0] 23) = w8 at kn sn hall ⊢
            have hgy : wr.heap.size ≤ wd.heap.size := hsz
            generalize wd.heap.size = gy at kn sn hgy ⊢
            have hsz : wr.heap.size ≤ w8.heap.size := by omega
            have hn : gy < w8.heap.size := by omega
            clear sn
            refine hK.out _ _ (hall) (fun hHeld => ?_)
            clear hK K
            try simp only [Act.put, List.setIfInBounds_toArray, List.set_cons_zero, List.set_cons_succ]
            refine wpAnyH_ready (rs := [6]) (by kernel_rfl) (by simp) ?_
            refine AllReadyH.cons (o := { dst := some 24, op := Go.Op.call { callee := Go.Callee.value (Go.Operand.func 19), args := #[Go.Operand.tmp 19, Go.Operand.tmp 23], argTypes := #[23, 23] }, type := 23, pos := "law.go:62", after := #[{ on := 1, ground := Go.Ground.data }, { on := 5, ground := Go.Ground.data }], guard := none }) rfl (fun K hK => ?_) AllReadyH.nil
            go_simp
            refine (cJ'.out _).mono ?_
            rintro e w6 ⟨rfl, h6⟩
            have hall := hall.trans (h6.mono hsz)
            have hsz := Nat.le_trans hsz h6.size
            try (have kn := kn.on h6 hn)
            try (have hn := Nat.lt_of_lt_of_le hn h6.size)
            go_simp
            refine hK.out _ _ (hall) (fun hHeld => ?_)
            clear hK K
            try simp only [Act.put, List.setIfInBounds_toArray, List.set_cons_zero, List.set_cons_succ]
            refine wpAnyH_ready (rs := [7]) (by kernel_rfl) (by simp) ?_
            refine AllReadyH.cons (o := { dst := some 25, op := Go.Op.call { callee := Go.Callee.value (Go.Operand.func 29), args := #[Go.Operand.tmp 18, Go.Operand.tmp 24], argTypes := #[23, 23] }, type := 23, pos := "law.go:62", after := #[{ on := 0, ground := Go.Ground.data }, { on := 6, ground := Go.Ground.data }, { on := 6, ground := Go.Ground.chain }], guard := none }) rfl (fun K hK => ?_) AllReadyH.nil
            go_simp
            refine (cW'.out _).mono ?_
            rintro e w7 ⟨rfl, h7⟩
            have hall := hall.trans (h7.mono hsz)
            have hsz := Nat.le_trans hsz h7.size
            try (have kn := kn.on h7 hn)
            try (have hn := Nat.lt_of_lt_of_le hn h7.size)
            go_simp
            refine hK.out _ _ (hall) (fun hHeld => ?_)
            clear hK K
            try simp only [Act.put, List.setIfInBounds_toArray, List.set_cons_zero, List.set_cons_succ]
            refine wpAnyH_ready (rs := [9]) (by kernel_rfl) (by simp) ?_
            refine AllReadyH.cons (o := { dst := none, op := Go.Op.store 23 (Go.Operand.tmp 7) (Go.Operand.tmp 25), type := 0, pos := "law.go:62", after := #[{ on := 8, ground := Go.Ground.data }, { on := 7, ground := Go.Ground.data }, { on := 7, ground := Go.Ground.chain }, { on := 0, ground := Go.Ground.phase }, { on := 1, ground := Go.Ground.phase }, { on := 2, ground := Go.Ground.phase }, { on := 3, ground := Go.Ground.phase }, { on := 4, ground := Go.Ground.phase }, { on := 5, ground := Go.Ground.phase }, { on := 6, ground := Go.Ground.phase }, { on := 7, ground := Go.Ground.phase }, { on := 8, ground := Go.Ground.phase }], guard := none }) rfl (fun K hK => ?_) AllReadyH.nil
            have y0 := kn.c0
            have y1 := kn.c1
            have y2 := kn.f0
            have y3 := kn.f1
            go_simp
            have kz := kn.set yl yh
            have ko := (((kx'.out.on hall hS')).other (g := gy) (by omega) 0 (.int .i64 yl)).other (g := gy) (by omega) 1 (.int .i64 yh)
            have hn2 : gy < ((w7.setCell ⟨gy, 0, none⟩ (.int .i64 yl)).setCell ⟨gy, 1, none⟩ (.int .i64 yh)).heap.size := by rw [size_two]; exact hn
            have hall := below_two (h := gy) hall hgy yl yh
            refine hK.out _ _ (hall) (fun hHeld => ?_)
            clear hK K
            try simp only [Act.put, List.setIfInBounds_toArray, List.set_cons_zero, List.set_cons_succ]
            refine wpAnyH_done (by kernel_rfl) ?_ _
            exact ⟨gy, rfl, ko, kz, by omega, by omega, hn2, hall⟩
        case hq =>
          intro ex a' w1 hQ
          cases ex <;> try exact hQ.elim
          obtain ⟨gy, rfl, kx1, ky1, hne, hgg, hgs, hb1⟩ := hQ
          have fl0 := fl0 w1 hb1
          have fl1 := fl1 w1 hb1
          have hlx : (x.add (k * 2)).block < w1.heap.size := World.block_lt_of_cell? w1 _ fl0
          have fx0 : ∀ W, Below w1.heap.size w1 W → W.cell? ⟨g, 0, none⟩ = some (.int .i64 p) := fun W hW => (kx1.on hW (by omega)).c0
          have fx1 : ∀ W, Below w1.heap.size w1 W → W.cell? ⟨g, 1, none⟩ = some (.int .i64 q) := fun W hW => (kx1.on hW (by omega)).c1
          have fy0 : ∀ W, Below w1.heap.size w1 W → W.cell? ⟨gy, 0, none⟩ = some (.int .i64 yl) := fun W hW => (ky1.on hW hgs).c0
          have fy1 : ∀ W, Below w1.heap.size w1 W → W.cell? ⟨gy, 1, none⟩ = some (.int .i64 yh) := fun W hW => (ky1.on hW hgs).c1
          have fl0 : ∀ W, Below w1.heap.size w1 W → W.cell? (x.add (k * 2)) = some (.int .i64 A0) := fun W hW => (hW.cell (p := x.add (k * 2)) hlx).trans fl0
          have fl1 : ∀ W, Below w1.heap.size w1 W → W.cell? ⟨(x.add (k * 2)).block, (x.add (k * 2)).off + 1, none⟩ = some (.int .i64 B0) := fun W hW => (hW.cell (p := ⟨(x.add (k * 2)).block, (x.add (k * 2)).off + 1, none⟩) hlx).trans fl1
          have hB1 := Lib.hid (hB'.out.trans (hb1.mono (by omega)))
          clear hall hsz
          go_wp2
          refine wp_drawn (by kernel_rfl) (fun hHeld => ?_)
          refine wpAnyH_take (i := 0) (oi := { dst := some 26, op := Go.Op.load 23 (Go.Operand.tmp 2), type := 23, pos := "law.go:63", after := #[], guard := none }) (v := ?v7) rfl (by kernel_rfl) (by kernel_rfl) (by kernel_rfl) (fun _ _ _ h => h) (Or.inl ⟨by kernel_rfl, ?h7⟩) (by assumption) ?r7
          case h7 => (intro w hSw; (try dsimp only at hSw); go_simp; try with_reducible rfl)
          try simp only [Act.put, List.setIfInBounds_toArray, List.set_cons_zero, List.set_cons_succ]
          refine wpAnyH_take (i := 1) (oi := { dst := some 27, op := Go.Op.load 23 (Go.Operand.tmp 7), type := 23, pos := "law.go:63", after := #[], guard := none }) (v := ?v8) rfl (by kernel_rfl) (by kernel_rfl) (by kernel_rfl) (fun _ _ _ h => h) (Or.inl ⟨by kernel_rfl, ?h8⟩) (by assumption) ?r8
          case h8 => (intro w hSw; (try dsimp only at hSw); go_simp; try with_reducible rfl)
          try simp only [Act.put, List.setIfInBounds_toArray, List.set_cons_zero, List.set_cons_succ]
          refine wpAnyH_ready (rs := [2]) (by kernel_rfl) (by simp) ?_
          refine AllReadyH.cons (o := { dst := some 28, op := Go.Op.call { callee := Go.Callee.value (Go.Operand.func 16), args := #[Go.Operand.tmp 26, Go.Operand.tmp 27], argTypes := #[23, 23] }, type := 4, pos := "law.go:63", after := #[{ on := 0, ground := Go.Ground.data }, { on := 1, ground := Go.Ground.data }], guard := none }) rfl (fun K hK => ?_) AllReadyH.nil
          go_simp
          refine (l1.out _).mono ?_
          rintro e w2 ⟨rfl, h2⟩
          have hw2 : Below w1.heap.size w1 w2 := hHeld.trans (h2.mono (Nat.le_refl _))
          go_simp
          refine hK.out _ _ (hw2) (fun hHeld => ?_)
          clear hK K
          try simp only [Act.put, List.setIfInBounds_toArray, List.set_cons_zero, List.set_cons_succ]
          refine wpAnyH_now hHeld (fun hHeld => ?_)
          replace fx0 := rebase fx0 (hw2)
          replace fx1 := rebase fx1 (hw2)
          replace fy0 := rebase fy0 (hw2)
          replace fy1 := rebase fy1 (hw2)
          replace fl0 := rebase fl0 (hw2)
          replace fl1 := rebase fl1 (hw2)
          refine wpAnyH_take (i := 3) (oi := { dst := some 29, op := Go.Op.unOp Go.UnOp.not 4 (Go.Operand.tmp 28), type := 4, pos := "law.go:63", after := #[{ on := 2, ground := Go.Ground.data }], guard := none }) (v := ?v9) rfl (by kernel_rfl) (by kernel_rfl) (by kernel_rfl) (fun _ _ _ h => h) (Or.inl ⟨by kernel_rfl, ?h9⟩) (by assumption) ?r9
          case h9 => (intro w hSw; (try dsimp only at hSw); go_simp; try with_reducible rfl)
          try simp only [Act.put, List.setIfInBounds_toArray, List.set_cons_zero, List.set_cons_succ]
          refine wpAnyH_take (i := 4) (oi := { dst := some 30, op := Go.Op.move (Go.Operand.tmp 29), type := 4, pos := "law.go:63", after := #[{ on := 3, ground := Go.Ground.data }, { on := 2, ground := Go.Ground.chain }], guard := none }) (v := ?v10) rfl (by kernel_rfl) (by kernel_rfl) (by kernel_rfl) (fun _ _ _ h => h) (Or.inl ⟨by kernel_rfl, ?h10⟩) (by assumption) ?r10
          case h10 => (intro w hSw; (try dsimp only at hSw); go_simp; try with_reducible rfl)
          try simp only [Act.put, List.setIfInBounds_toArray, List.set_cons_zero, List.set_cons_succ]
          refine wpAnyH_take (i := 5) (oi := { dst := some 31, op := Go.Op.move (Go.Operand.tmp 1), type := 38, pos := "law.go:63", after := #[{ on := 4, ground := Go.Ground.guard }], guard := some (4, false) }) (v := ?v11) rfl (by kernel_rfl) (by kernel_rfl) (by kernel_rfl) (fun _ _ _ h => h) (Or.inl ⟨by kernel_rfl, ?h11⟩) (by assumption) ?r11
          case h11 => (intro w hSw; (try dsimp only at hSw); go_simp; try with_reducible rfl)
          try simp only [Act.put, List.setIfInBounds_toArray, List.set_cons_zero, List.set_cons_succ]
          refine wpAnyH_take (i := 6) (oi := { dst := some 32, op := Go.Op.move (Go.Operand.tmp 6), type := 3, pos := "law.go:63", after := #[{ on := 4, ground := Go.Ground.guard }], guard := some (4, false) }) (v := ?v12) rfl (by kernel_rfl) (by kernel_rfl) (by kernel_rfl) (fun _ _ _ h => h) (Or.inl ⟨by kernel_rfl, ?h12⟩) (by assumption) ?r12
          case h12 => (intro w hSw; (try dsimp only at hSw); go_simp; try with_reducible rfl)
          try simp only [Act.put, List.setIfInBounds_toArray, List.set_cons_zero, List.set_cons_succ]
          refine wpAnyH_take (i := 7) (oi := { dst := some 33, op := Go.Op.indexAddr 38 (Go.Operand.tmp 31) (Go.Operand.tmp 32), type := 0, pos := "law.go:63", after := #[{ on := 5, ground := Go.Ground.data }, { on := 6, ground := Go.Ground.data }, { on := 4, ground := Go.Ground.guard }], guard := some (4, false) }) (v := ?v13) rfl (by kernel_rfl) (by kernel_rfl) (by kernel_rfl) (fun _ _ _ h => h) (Or.inl ⟨by kernel_rfl, ?h13⟩) (by assumption) ?r13
          case h13 => (intro w hSw; (try dsimp only at hSw); go_simp; try with_reducible rfl)
          try simp only [Act.put, List.setIfInBounds_toArray, List.set_cons_zero, List.set_cons_succ]
          refine wpAnyH_take (i := 8) (oi := { dst := some 34, op := Go.Op.load 23 (Go.Operand.tmp 33), type := 23, pos := "law.go:63", after := #[{ on := 7, ground := Go.Ground.data }, { on := 4, ground := Go.Ground.guard }], guard := some (4, false) }) (v := ?v14) rfl (by kernel_rfl) (by kernel_rfl) (by kernel_rfl) (fun _ _ _ h => h) (Or.inl ⟨by kernel_rfl, ?h14⟩) (by assumption) ?r14
          case h14 => (intro w hSw; (try dsimp only at hSw); go_simp; try with_reducible rfl)
          try simp only [Act.put, List.setIfInBounds_toArray, List.set_cons_zero, List.set_cons_succ]
          refine wpAnyH_take (i := 9) (oi := { dst := some 35, op := Go.Op.load 23 (Go.Operand.tmp 7), type := 23, pos := "law.go:63", after := #[{ on := 4, ground := Go.Ground.guard }], guard := some (4, false) }) (v := ?v15) rfl (by kernel_rfl) (by kernel_rfl) (by kernel_rfl) (fun _ _ _ h => h) (Or.inl ⟨by kernel_rfl, ?h15⟩) (by assumption) ?r15
          case h15 => (intro w hSw; (try dsimp only at hSw); go_simp; try with_reducible rfl)
          try simp only [Act.put, List.setIfInBounds_toArray, List.set_cons_zero, List.set_cons_succ]
          refine wpAnyH_ready (rs := [10]) (by kernel_rfl) (by simp) ?_
          refine AllReadyH.cons (o := { dst := some 36, op := Go.Op.call { callee := Go.Callee.value (Go.Operand.func 16), args := #[Go.Operand.tmp 34, Go.Operand.tmp 35], argTypes := #[23, 23] }, type := 4, pos := "law.go:63", after := #[{ on := 8, ground := Go.Ground.data }, { on := 9, ground := Go.Ground.data }, { on := 4, ground := Go.Ground.chain }, { on := 4, ground := Go.Ground.guard }], guard := some (4, false) }) rfl (fun K hK => ?_) AllReadyH.nil
          go_simp
          refine (l2.out _).mono ?_
          rintro e w3 ⟨rfl, h3⟩
          have hw3 : Below w2.heap.size w2 w3 := hHeld.trans (h3.mono (Nat.le_refl _))
          go_simp
          refine hK.out _ _ (hw3) (fun hHeld => ?_)
          clear hK K
          try simp only [Act.put, List.setIfInBounds_toArray, List.set_cons_zero, List.set_cons_succ]
          refine wpAnyH_now hHeld (fun hHeld => ?_)
          replace fx0 := rebase fx0 (hw3)
          replace fx1 := rebase fx1 (hw3)
          replace fy0 := rebase fy0 (hw3)
          replace fy1 := rebase fy1 (hw3)
          replace fl0 := rebase fl0 (hw3)
          replace fl1 := rebase fl1 (hw3)
          refine wpAnyH_take (i := 11) (oi := { dst := some 37, op := Go.Op.unOp Go.UnOp.not 4 (Go.Operand.tmp 36), type := 4, pos := "law.go:63", after := #[{ on := 10, ground := Go.Ground.data }, { on := 4, ground := Go.Ground.guard }], guard := some (4, false) }) (v := ?v16) rfl (by kernel_rfl) (by kernel_rfl) (by kernel_rfl) (fun _ _ _ h => h) (Or.inl ⟨by kernel_rfl, ?h16⟩) (by assumption) ?r16
          case h16 => (intro w hSw; (try dsimp only at hSw); go_simp; try with_reducible rfl)
          try simp only [Act.put, List.setIfInBounds_toArray, List.set_cons_zero, List.set_cons_succ]
          refine wpAnyH_take (i := 12) (oi := { dst := some 38, op := Go.Op.pick (Go.Operand.tmp 30) (Go.Operand.const (Go.Value.bool true)) (Go.Operand.tmp 37), type := 4, pos := "law.go:63", after := #[{ on := 4, ground := Go.Ground.data }, { on := 11, ground := Go.Ground.data }], guard := none }) (v := ?v17) rfl (by kernel_rfl) (by kernel_rfl) (by kernel_rfl) (fun _ _ _ h => h) (Or.inl ⟨by kernel_rfl, ?h17⟩) (by assumption) ?r17
          case h17 => (intro w hSw; (try dsimp only at hSw); go_simp; try with_reducible rfl)
          try simp only [Act.put, List.setIfInBounds_toArray, List.set_cons_zero, List.set_cons_succ]
          refine wpAnyH_done (by kernel_rfl) ?_ _
          have hw3 := hw2.trans (hw3.mono hw2.size)
          have kx3 := kx1.on hw3 (by omega)
          have ky3 := ky1.on hw3 hgs
          have hB3 := Lib.hid (hB1.out.trans (hw3.mono (by omega)))
          have hs3 := hw3.size
          clear hw2 hw3 h2 h3 fx0 fx1 fy0 fy1 fl0 fl1 kx1 ky1 hb1
          have r0 := kx3.c0
          have r1 := kx3.c1
          have r2 := ky3.c0
          have r3 := ky3.c1
          go_wp2_with fail
          refine (sm.out _).mono ?_
          rintro e w4 ⟨rfl, h4⟩
          clear r0 r1 r2 r3
          have kx4 := kx3.on h4 (by omega)
          have ky4 := ky3.on h4 (by omega)
          have hs4 := h4.size
          have hB4 := Lib.hid (hB3.out.trans (h4.mono (by omega)))
          have r0 := kx4.c0
          have r1 := kx4.c1
          have r4 := kx4.f0
          have r5 := kx4.f1
          have r2 := ky4.c0
          have r3 := ky4.c1
          have kx5 := Lib.hid (kx4.set yl yh)
          have hB5 := Lib.hid (below_two (h := g) hB4.out (Nat.le_refl _) yl yh)
          have hs5 : g < ((w4.setCell ⟨g, 0, none⟩ (.int .i64 yl)).setCell ⟨g, 1, none⟩ (.int .i64 yh)).heap.size := by rw [size_two]; omega
          clear kx3 ky3 kx4 ky4 h4
          cases same
          · have hc3 : c + 1 ≤ 3 := by have h1 := hph.out; have h2 := hphi.out; rw [if_neg (by decide)] at h1; omega
            have hphi2 := Lib.hid (show c + 1 + phi yl yh ≤ 3 by have h1 := hph.out; have h2 := hphi.out; rw [if_neg (by decide)] at h1; omega)
            go_wp2
            go_roundw
            case rel => exact ⟨k + 1, c + 1, yl, yh, by omega, hc3, hphi2, kx5, hB5, hs5, by go_num, by go_num⟩
            case measure => simp [intOf]; omega
          · have hphi2 := Lib.hid (show c + phi yl yh ≤ 3 by have h1 := hph.out; have h2 := hphi.out; rw [if_pos rfl] at h1; omega)
            go_wp2
            go_roundw
            case rel => exact ⟨k + 1, c, yl, yh, by omega, hc, hphi2, kx5, hB5, hs5, by go_num, by go_num⟩
            case measure => simp [intOf]; omega
      · have hkl : k = len := by omega
        have d5 : decide ((k : Int) < (len : Int)) = false := by simp; omega
        have d6 : decide ((c : Int) ≤ 3) = true := by simp; omega
        go_wp2_with fail
        refine (cL.out _ (hE.on (by rw [hg]; exact hB'.out))).mono ?_
        rintro e u1 ⟨rfl, h1⟩
        have hBz := Lib.hid (hB'.out.trans (h1.mono (by omega)))
        clear h1
        go_wp2
        go_ret
        exact ⟨rfl, by rw [hg]; exact hBz.out⟩
  · have dm : decide ((300 : Int) < (len : Int)) = true := by simp; omega
    obtain ⟨kx, hB, hS⟩ := box1 w a b
    have hE0 := hE.on hB
    clear kx hS
    go_enter Tryd.func6, Tryd.ntmps6
    go_wp2_with fail
    refine (cL.out _ hE0).mono ?_
    rintro e u1 ⟨rfl, h1⟩
    have hB := hB.trans (h1.mono (by simp))
    clear h1 hE0
    go_wp2
    go_ret
    exact ⟨rfl, hB⟩
/-- A slice of intervals that came in. -/
def PairSl (w : World) (r : Option Addr) (len cap : Nat) : Prop := ∃ A B, len ≤ cap ∧ PairRow w r len A B
def numOf : Value → Int
  | .int _ n => n
  | _ => 0
theorem pair_row {H : Type} {enc : TypeId × Value → H} {w : World} {fuel : Nat} {r : Option Addr} {len cap : Nat} {x : DataW H × List MemPlace}
    (h : DataW.trod enc Tryd.prog w 0 (fun _ => true) true fuel 38 [.slice r len cap] = some x) : PairSl w r len cap := by
  rcases Deep.open_slice_pairs Tryd.underlying38 Tryd.underlying23 (by kernel_rfl) rfl rfl (by kernel_rfl) (by kernel_rfl) h with ⟨hcs, _⟩ | ⟨a, l, c, m, n, V0, V1, D0, D1, P0, P1, hcs, _, hl, hm, hmm, _, hx⟩
  · simp at hcs
    obtain ⟨rfl, rfl, rfl⟩ := hcs
    exact ⟨fun _ => 0, fun _ => 0, Nat.le_refl _, fun i hi => by omega⟩
  · simp at hcs
    obtain ⟨rfl, rfl, rfl⟩ := hcs
    refine ⟨fun i => numOf (V0 i), fun i => numOf (V1 i), hl, fun i hi => ?_⟩
    have him : i < m := by rw [hmm]; simp; omega
    obtain ⟨c0, c1, t0, t1⟩ := hx i him
    obtain ⟨x0, e0, _, _⟩ := DataW.trod_int Tryd.underlying3 t0
    obtain ⟨x1, e1, _, _⟩ := DataW.trod_int Tryd.underlying3 t1
    simp at e0 e1
    refine ⟨a, rfl, ?_, ?_, ?_⟩
    · have := World.block_lt_of_cell? w _ c0
      rw [addr_add] at this
      exact this
    · show _ = some (Value.int .i64 (numOf (V0 i))); rw [c0, e0]; rfl
    · show _ = some (Value.int .i64 (numOf (V1 i))); rw [c1, e1]; rfl
theorem itvWidens_walk (w : World) (hE : Env w) (a : Int) (wa : (Lit.int .i64 a).wf = true) (b : Int) (wb : (Lit.int .i64 b).wf = true) (r : Option Addr) (len cap : Nat) (hrow : PairSl w r len cap) :
    Calls Tryd.prog 6 #[.agg #[.int .i64 a, .int .i64 b], .slice r len cap] w (Gives (.bool true) w) := by
  obtain ⟨A, B, hlc, h⟩ := hrow
  exact itvWidens_core w hE a wa b wb r len cap hlc A B h
end Go.Proofs.YthjpkbhgpjefpaaDoor
