/- SectFinds: the walk of the statement's function. -/
import Derived.Test.YtnjdgnlgdokddaaSectLawPuts
namespace Go.Proofs.Ytnjdgnlgdokddaa
open Go.RowKit
set_option linter.unusedVariables false
set_option linter.unusedSimpArgs false

set_option maxRecDepth 100000 in
set_option maxHeartbeats 4000000 in
theorem sectFinds_walk (w : World) (ra : Option Addr) (na ca : Nat) (hra : SecSl w ra na ca) (rb : Option Addr) (nb cb : Nat) (hrb : SecSl w rb nb cb) (tag : Int) (htag : (Lit.int .i64 tag).wf = true) :
    Calls Try.prog 5 #[.slice ra na ca, .slice rb nb cb, .int .i64 tag] w (Gives (.bool true) w) := by
  obtain ⟨hlc, hcm, A, hAn, hA⟩ := hra
  obtain ⟨hlc2, hcm2, B, hBn, hB⟩ := hrb
  unfold maxLen at hcm hcm2
  have hlg := Lib.hid (large_any ra A na ca 5000 hAn.symm (by omega) (by omega) w hA)
  have hlg2 := Lib.hid (large_any rb B nb cb 5000 hBn.symm (by omega) (by omega) w hB)
  have hA' := Lib.hid hA
  have hB' := Lib.hid hB
  have hAn' := Lib.hid hAn
  have hBn' := Lib.hid hBn
  have hli : (na : Int) ≤ 9223372036854775807 := by omega
  have hli2 : (nb : Int) ≤ 9223372036854775807 := by omega
  clear hA hB hAn hBn hlc hlc2 htag
  go_enter Try.func5, Try.ntmps5
  go_wp2_with fail
  refine hlg.out.mono ?_
  rintro e w' ⟨rfl, rfl | ⟨rfl, h20, htot⟩⟩
  · clear hlg hlg2 hA' hB'
    go_wp2_with fail
    refine (slives_any _).mono ?_
    rintro e w1 ⟨rfl, b1⟩
    have b1' := Lib.hid b1
    clear b1
    go_wp2
    go_ret
    exact ⟨rfl, b1'.out⟩
  go_wp2_with fail
  refine hlg2.out.mono ?_
  rintro e w' ⟨rfl, rfl | ⟨rfl, h20b, htotb⟩⟩
  · clear hlg hlg2 hA' hB'
    go_wp2_with fail
    refine (slives_any _).mono ?_
    rintro e w1 ⟨rfl, b1⟩
    have b1' := Lib.hid b1
    clear b1
    go_wp2
    go_ret
    exact ⟨rfl, b1'.out⟩
  have hok := hA'.out.ok
  have hM : ∀ s ∈ A, s.b.length ≤ 2000000 := fun s hs => by have := total_mem hs; have := (hok s hs).2.1; omega
  have hAi : (na : Int) ≤ 20 := by have := hAn'.out; omega
  have hfind := Lib.hid (find_any ra A na ca hAn'.out.symm (by have := hAn'.out; omega) hM tag w hA'.out)
  have hSS : Hid (∀ w1, Below w.heap.size w w1 → ∀ W, Below w1.heap.size w1 W → Calls Try.prog 17 #[.slice ra na ca, .slice rb nb cb] W (Gives (.bool (decide (A.map absS = B.map absS))) W)) := Lib.hid (fun w1 h1 W hb => by
    have hx := h1.trans (hb.mono h1.size)
    exact ssame_any ra rb A B na nb ca cb hAn'.out.symm hBn'.out.symm (by omega) (by omega) W ((hA'.out.below hx).mono hx.size) ((hB'.out.below hx).mono hx.size))
  have hRS : Hid (∀ w1, Below w.heap.size w w1 → ∀ W, Below w1.heap.size w1 W → Calls Try.prog 14 #[.slice ra na ca, .slice rb nb cb] W (Gives (.bool (decide (A.map absS = B.map absS))) W)) := Lib.hid (fun w1 h1 W hb => by
    have hx := h1.trans (hb.mono h1.size)
    exact rsame_any ra rb A B na nb ca cb hAn'.out.symm hBn'.out.symm (by omega) (by omega) W ((hA'.out.below hx).mono hx.size) ((hB'.out.below hx).mono hx.size))
  clear hlg hlg2 hok hM htot htotb h20 h20b hB'
  generalize decide (A.map absS = B.map absS) = d at *
  go_wp2_with fail
  refine hfind.out.mono ?_
  rintro e w1 ⟨b1, ⟨k0, ax, cx, hk0, htk, hbef, rfl, sx⟩ | ⟨hnone, rfl⟩⟩
  · have b1' := Lib.hid b1
    have sx' := Lib.hid sx
    have htk' := Lib.hid htk
    have hbef' := Lib.hid hbef
    have hk0' : k0 < na := by have := hAn'.out; omega
    have hcx : Hid (∀ W, Below w1.heap.size w1 W → (convert 25 9 (.slice ax (A.getD k0 sc0).b.length cx)).run Try.prog W = .ok (.string (strOfNums (A.getD k0 sc0).b)) W) := Lib.hid (fun W hW => conv_sees _ 9 5 Try.underlying25 Try.underlying5 Try.underlying9 (sx'.out.below hW) _ cx rfl)
    clear b1 sx htk hbef hfind hk0
    generalize (A.getD k0 sc0).b.length = xl at *
    go_wp2
    go_loopw [9] (fun i wr => ∃ k : Nat, k ≤ k0 ∧ i = .int .i64 k ∧ Hid (Below w1.heap.size w1 wr)) (fun i _ => na - (intOf i).toNat)
    case atStart => exact ⟨0, Nat.zero_le _, rfl, Lib.hid (Below.refl _ _)⟩
    case round =>
      obtain ⟨k, hk, rfl, hbl⟩ := hrel
      have hbw := b1'.out.trans (hbl.out.mono b1'.out.size)
      have hlt : k < na := by omega
      obtain ⟨b, off, rfl, hbb, e1, e2, ok⟩ := (hA'.out.below hbw).at_ (i := k) (by have := hAn'.out; omega)
      by_cases hkk : k = k0
      · subst hkk
        have hc2 : ∀ W, Below wr.heap.size wr W → (convert 25 9 (.slice (A.getD k sc0).a (A.getD k sc0).m (A.getD k sc0).c)).run Try.prog W = .ok (.string (strOfNums (A.getD k sc0).b)) W := fun W hW => conv_sees _ 9 5 Try.underlying25 Try.underlying5 Try.underlying9 ((ok.2.2.2.2.2.mono hbw.size).below hW) _ _ ok.2.1
        have hc1 : ∀ W, Below wr.heap.size wr W → (convert 25 9 (.slice ax xl cx)).run Try.prog W = .ok (.string (strOfNums (A.getD k sc0).b)) W := fun W hW => hcx.out W (hbl.out.trans (hW.mono hbl.out.size))
        have hce : ∀ W, Below wr.heap.size wr W → W.cell? ⟨b, off + k * 2 + 1, none⟩ = some (.slice (A.getD k sc0).a (A.getD k sc0).m (A.getD k sc0).c) := fun W hW => (hW.cell (p := ⟨b, off + k * 2 + 1, none⟩) (by have := hbw.size; simp; omega)).trans e2
        rw [htk'.out] at e1
        have hSS2 := Lib.hid (hSS.out wr hbw)
        have hRS2 := Lib.hid (hRS.out wr hbw)
        have hbw' := Lib.hid hbw
        clear ok hcx hbef' htk' hSS hRS hbw hbl sx' hA' b1'
        generalize strOfNums (A.getD k sc0).b = X at *
        generalize (A.getD k sc0).a = ad at *
        generalize (A.getD k sc0).m = mm at *
        generalize (A.getD k sc0).c = cc at *
        go_wp2
        refine wp_drawn_on (fun W' => Below wr.heap.size wr W') (by kernel_rfl) ((Below.refl _ _).drew) (fun hHeld => ?_)
        refine wpAnyH_ready (rs := [0]) (by kernel_rfl) (by simp) ?_
        refine AllReadyH.cons (o := { dst := some 36, op := Go.Op.call { callee := Go.Callee.value (Go.Operand.func 9), args := #[], argTypes := #[] }, type := 4, pos := "law.go:64", after := #[], guard := none }) rfl (fun K hK => ?_) AllReadyH.nil
        go_simp
        refine (slives_any _).mono ?_
        rintro e w3 ⟨rfl, b3⟩
        have hb0 := hHeld.trans (b3.mono hHeld.size)
        go_simp
        refine hK.out _ _ (hb0) (fun hHeld => ?_)
        clear hK K
        try simp only [Act.put, List.setIfInBounds_toArray, List.set_cons_zero, List.set_cons_succ]
        refine wpAnyH_take (i := 1) (oi := { dst := some 37, op := Go.Op.move (Go.Operand.tmp 36), type := 4, pos := "law.go:64", after := #[{ on := 0, ground := Go.Ground.data }, { on := 0, ground := Go.Ground.chain }], guard := none }) (v := ?v1) rfl (by kernel_rfl) (by kernel_rfl) (by kernel_rfl) (fun _ _ _ h => h) (Or.inl ⟨by kernel_rfl, ?h1⟩) (by assumption) ?r1
        case h1 => (intro w hSw; (try dsimp only at hSw); go_simp; try with_reducible rfl)
        try simp only [Act.put, List.setIfInBounds_toArray, List.set_cons_zero, List.set_cons_succ]
        refine wpAnyH_take (i := 2) (oi := { dst := some 38, op := Go.Op.move (Go.Operand.tmp 8), type := 4, pos := "law.go:64", after := #[{ on := 1, ground := Go.Ground.guard }], guard := some (1, true) }) (v := ?v2) rfl (by kernel_rfl) (by kernel_rfl) (by kernel_rfl) (fun _ _ _ h => h) (Or.inl ⟨by kernel_rfl, ?h2⟩) (by assumption) ?r2
        case h2 => (intro w hSw; (try dsimp only at hSw); go_simp; try with_reducible rfl)
        try simp only [Act.put, List.setIfInBounds_toArray, List.set_cons_zero, List.set_cons_succ]
        refine wpAnyH_take (i := 3) (oi := { dst := some 39, op := Go.Op.pick (Go.Operand.tmp 37) (Go.Operand.tmp 38) (Go.Operand.const (Go.Value.bool false)), type := 4, pos := "law.go:64", after := #[{ on := 1, ground := Go.Ground.data }, { on := 2, ground := Go.Ground.data }], guard := none }) (v := ?v3) rfl (by kernel_rfl) (by kernel_rfl) (by kernel_rfl) (fun _ _ _ h => h) (Or.inl ⟨by kernel_rfl, ?h3⟩) (by assumption) ?r3
        case h3 => (intro w hSw; (try dsimp only at hSw); go_simp; try with_reducible rfl)
        try simp only [Act.put, List.setIfInBounds_toArray, List.set_cons_zero, List.set_cons_succ]
        refine wpAnyH_take (i := 4) (oi := { dst := some 40, op := Go.Op.move (Go.Operand.tmp 39), type := 4, pos := "law.go:64", after := #[{ on := 3, ground := Go.Ground.data }, { on := 1, ground := Go.Ground.chain }], guard := none }) (v := ?v4) rfl (by kernel_rfl) (by kernel_rfl) (by kernel_rfl) (fun _ _ _ h => h) (Or.inl ⟨by kernel_rfl, ?h4⟩) (by assumption) ?r4
        case h4 => (intro w hSw; (try dsimp only at hSw); go_simp; try with_reducible rfl)
        try simp only [Act.put, List.setIfInBounds_toArray, List.set_cons_zero, List.set_cons_succ]
        refine wpAnyH_take (i := 5) (oi := { dst := some 41, op := Go.Op.move (Go.Operand.tmp 7), type := 25, pos := "law.go:64", after := #[{ on := 4, ground := Go.Ground.guard }], guard := some (4, true) }) (v := ?v5) rfl (by kernel_rfl) (by kernel_rfl) (by kernel_rfl) (fun _ _ _ h => h) (Or.inl ⟨by kernel_rfl, ?h5⟩) (by assumption) ?r5
        case h5 => (intro w hSw; (try dsimp only at hSw); go_simp; try with_reducible rfl)
        try simp only [Act.put, List.setIfInBounds_toArray, List.set_cons_zero, List.set_cons_succ]
        refine wpAnyH_take (i := 6) (oi := { dst := some 42, op := Go.Op.convert 25 9 (Go.Operand.tmp 41), type := 9, pos := "law.go:64", after := #[{ on := 5, ground := Go.Ground.data }, { on := 4, ground := Go.Ground.guard }], guard := some (4, true) }) (v := ?v6) rfl (by kernel_rfl) (by kernel_rfl) (by kernel_rfl) (fun _ _ _ h => h) (Or.inl ⟨by kernel_rfl, ?h6⟩) (by assumption) ?r6
        case h6 => (intro w hSw; (try dsimp only at hSw); go_simp; try with_reducible rfl)
        try simp only [Act.put, List.setIfInBounds_toArray, List.set_cons_zero, List.set_cons_succ]
        refine wpAnyH_take (i := 7) (oi := { dst := some 43, op := Go.Op.move (Go.Operand.tmp 0), type := 22, pos := "law.go:64", after := #[{ on := 4, ground := Go.Ground.guard }], guard := some (4, true) }) (v := ?v7) rfl (by kernel_rfl) (by kernel_rfl) (by kernel_rfl) (fun _ _ _ h => h) (Or.inl ⟨by kernel_rfl, ?h7⟩) (by assumption) ?r7
        case h7 => (intro w hSw; (try dsimp only at hSw); go_simp; try with_reducible rfl)
        try simp only [Act.put, List.setIfInBounds_toArray, List.set_cons_zero, List.set_cons_succ]
        refine wpAnyH_take (i := 8) (oi := { dst := some 44, op := Go.Op.move (Go.Operand.tmp 9), type := 3, pos := "law.go:64", after := #[{ on := 4, ground := Go.Ground.guard }], guard := some (4, true) }) (v := ?v8) rfl (by kernel_rfl) (by kernel_rfl) (by kernel_rfl) (fun _ _ _ h => h) (Or.inl ⟨by kernel_rfl, ?h8⟩) (by assumption) ?r8
        case h8 => (intro w hSw; (try dsimp only at hSw); go_simp; try with_reducible rfl)
        try simp only [Act.put, List.setIfInBounds_toArray, List.set_cons_zero, List.set_cons_succ]
        refine wpAnyH_take (i := 9) (oi := { dst := some 45, op := Go.Op.indexAddr 22 (Go.Operand.tmp 43) (Go.Operand.tmp 44), type := 0, pos := "law.go:64", after := #[{ on := 7, ground := Go.Ground.data }, { on := 8, ground := Go.Ground.data }, { on := 4, ground := Go.Ground.guard }], guard := some (4, true) }) (v := ?v9) rfl (by kernel_rfl) (by kernel_rfl) (by kernel_rfl) (fun _ _ _ h => h) (Or.inl ⟨by kernel_rfl, ?h9⟩) (by assumption) ?r9
        case h9 => (intro w hSw; (try dsimp only at hSw); go_simp; try with_reducible rfl)
        try simp only [Act.put, List.setIfInBounds_toArray, List.set_cons_zero, List.set_cons_succ]
        refine wpAnyH_take (i := 10) (oi := { dst := some 46, op := Go.Op.fieldAddr 39 (Go.Operand.tmp 45) 1, type := 0, pos := "law.go:64", after := #[{ on := 9, ground := Go.Ground.data }, { on := 4, ground := Go.Ground.guard }], guard := some (4, true) }) (v := ?v10) rfl (by kernel_rfl) (by kernel_rfl) (by kernel_rfl) (fun _ _ _ h => h) (Or.inl ⟨by kernel_rfl, ?h10⟩) (by assumption) ?r10
        case h10 => (intro w hSw; (try dsimp only at hSw); go_simp; try with_reducible rfl)
        try simp only [Act.put, List.setIfInBounds_toArray, List.set_cons_zero, List.set_cons_succ]
        refine wpAnyH_take (i := 11) (oi := { dst := some 47, op := Go.Op.load 25 (Go.Operand.tmp 46), type := 25, pos := "law.go:64", after := #[{ on := 10, ground := Go.Ground.data }, { on := 4, ground := Go.Ground.guard }], guard := some (4, true) }) (v := ?v11) rfl (by kernel_rfl) (by kernel_rfl) (by kernel_rfl) (fun _ _ _ h => h) (Or.inl ⟨by kernel_rfl, ?h11⟩) (by assumption) ?r11
        case h11 => (intro w hSw; (try dsimp only at hSw); go_simp; try with_reducible rfl)
        try simp only [Act.put, List.setIfInBounds_toArray, List.set_cons_zero, List.set_cons_succ]
        refine wpAnyH_take (i := 12) (oi := { dst := some 48, op := Go.Op.convert 25 9 (Go.Operand.tmp 47), type := 9, pos := "law.go:64", after := #[{ on := 11, ground := Go.Ground.data }, { on := 4, ground := Go.Ground.guard }], guard := some (4, true) }) (v := ?v12) rfl (by kernel_rfl) (by kernel_rfl) (by kernel_rfl) (fun _ _ _ h => h) (Or.inl ⟨by kernel_rfl, ?h12⟩) (by assumption) ?r12
        case h12 => (intro w hSw; (try dsimp only at hSw); go_simp; try with_reducible rfl)
        try simp only [Act.put, List.setIfInBounds_toArray, List.set_cons_zero, List.set_cons_succ]
        refine wpAnyH_take (i := 13) (oi := { dst := some 49, op := Go.Op.binOp Go.BinOp.eql 9 (Go.Operand.tmp 42) (Go.Operand.tmp 48) 9, type := 4, pos := "law.go:64", after := #[{ on := 6, ground := Go.Ground.data }, { on := 12, ground := Go.Ground.data }, { on := 4, ground := Go.Ground.guard }], guard := some (4, true) }) (v := ?v13) rfl (by kernel_rfl) (by kernel_rfl) (by kernel_rfl) (fun _ _ _ h => h) (Or.inl ⟨by kernel_rfl, ?h13⟩) (by assumption) ?r13
        case h13 => (intro w hSw; (try dsimp only at hSw); go_simp; try with_reducible rfl)
        try simp only [Act.put, List.setIfInBounds_toArray, List.set_cons_zero, List.set_cons_succ]
        refine wpAnyH_take (i := 14) (oi := { dst := some 50, op := Go.Op.pick (Go.Operand.tmp 40) (Go.Operand.tmp 49) (Go.Operand.const (Go.Value.bool false)), type := 4, pos := "law.go:64", after := #[{ on := 4, ground := Go.Ground.data }, { on := 13, ground := Go.Ground.data }], guard := none }) (v := ?v14) rfl (by kernel_rfl) (by kernel_rfl) (by kernel_rfl) (fun _ _ _ h => h) (Or.inl ⟨by kernel_rfl, ?h14⟩) (by assumption) ?r14
        case h14 => (intro w hSw; (try dsimp only at hSw); go_simp; try with_reducible rfl)
        try simp only [Act.put, List.setIfInBounds_toArray, List.set_cons_zero, List.set_cons_succ]
        refine wpAnyH_take (i := 15) (oi := { dst := some 51, op := Go.Op.move (Go.Operand.tmp 50), type := 4, pos := "law.go:64", after := #[{ on := 14, ground := Go.Ground.data }, { on := 4, ground := Go.Ground.chain }], guard := none }) (v := ?v15) rfl (by kernel_rfl) (by kernel_rfl) (by kernel_rfl) (fun _ _ _ h => h) (Or.inl ⟨by kernel_rfl, ?h15⟩) (by assumption) ?r15
        case h15 => (intro w hSw; (try dsimp only at hSw); go_simp; try with_reducible rfl)
        try simp only [Act.put, List.setIfInBounds_toArray, List.set_cons_zero, List.set_cons_succ]
        refine wpAnyH_take (i := 16) (oi := { dst := some 52, op := Go.Op.move (Go.Operand.tmp 0), type := 22, pos := "law.go:64", after := #[{ on := 15, ground := Go.Ground.guard }], guard := some (15, true) }) (v := ?v16) rfl (by kernel_rfl) (by kernel_rfl) (by kernel_rfl) (fun _ _ _ h => h) (Or.inl ⟨by kernel_rfl, ?h16⟩) (by assumption) ?r16
        case h16 => (intro w hSw; (try dsimp only at hSw); go_simp; try with_reducible rfl)
        try simp only [Act.put, List.setIfInBounds_toArray, List.set_cons_zero, List.set_cons_succ]
        refine wpAnyH_take (i := 17) (oi := { dst := some 53, op := Go.Op.move (Go.Operand.tmp 1), type := 22, pos := "law.go:64", after := #[{ on := 15, ground := Go.Ground.guard }], guard := some (15, true) }) (v := ?v17) rfl (by kernel_rfl) (by kernel_rfl) (by kernel_rfl) (fun _ _ _ h => h) (Or.inl ⟨by kernel_rfl, ?h17⟩) (by assumption) ?r17
        case h17 => (intro w hSw; (try dsimp only at hSw); go_simp; try with_reducible rfl)
        try simp only [Act.put, List.setIfInBounds_toArray, List.set_cons_zero, List.set_cons_succ]
        refine wpAnyH_take (i := 19) (oi := { dst := some 55, op := Go.Op.move (Go.Operand.tmp 0), type := 22, pos := "law.go:64", after := #[{ on := 15, ground := Go.Ground.guard }], guard := some (15, true) }) (v := ?v18) rfl (by kernel_rfl) (by kernel_rfl) (by kernel_rfl) (fun _ _ _ h => h) (Or.inl ⟨by kernel_rfl, ?h18⟩) (by assumption) ?r18
        case h18 => (intro w hSw; (try dsimp only at hSw); go_simp; try with_reducible rfl)
        try simp only [Act.put, List.setIfInBounds_toArray, List.set_cons_zero, List.set_cons_succ]
        refine wpAnyH_take (i := 20) (oi := { dst := some 56, op := Go.Op.move (Go.Operand.tmp 1), type := 22, pos := "law.go:64", after := #[{ on := 15, ground := Go.Ground.guard }], guard := some (15, true) }) (v := ?v19) rfl (by kernel_rfl) (by kernel_rfl) (by kernel_rfl) (fun _ _ _ h => h) (Or.inl ⟨by kernel_rfl, ?h19⟩) (by assumption) ?r19
        case h19 => (intro w hSw; (try dsimp only at hSw); go_simp; try with_reducible rfl)
        try simp only [Act.put, List.setIfInBounds_toArray, List.set_cons_zero, List.set_cons_succ]
        refine wpAnyH_ready (rs := [18]) (by kernel_rfl) (by simp) ?_
        refine AllReadyH.cons (o := { dst := some 54, op := Go.Op.call { callee := Go.Callee.value (Go.Operand.func 17), args := #[Go.Operand.tmp 52, Go.Operand.tmp 53], argTypes := #[22, 22] }, type := 4, pos := "law.go:64", after := #[{ on := 16, ground := Go.Ground.data }, { on := 17, ground := Go.Ground.data }, { on := 15, ground := Go.Ground.chain }, { on := 15, ground := Go.Ground.guard }], guard := some (15, true) }) rfl (fun K hK => ?_) AllReadyH.nil
        go_simp
        refine (hSS2.out _ hHeld).mono ?_
        rintro e w4 ⟨rfl, b4⟩
        have hb18 := hHeld.trans (b4.mono hHeld.size)
        go_simp
        refine hK.out _ _ (hb18) (fun hHeld => ?_)
        clear hK K
        try simp only [Act.put, List.setIfInBounds_toArray, List.set_cons_zero, List.set_cons_succ]
        refine wpAnyH_ready (rs := [21]) (by kernel_rfl) (by simp) ?_
        refine AllReadyH.cons (o := { dst := some 57, op := Go.Op.call { callee := Go.Callee.value (Go.Operand.func 14), args := #[Go.Operand.tmp 55, Go.Operand.tmp 56], argTypes := #[22, 22] }, type := 4, pos := "law.go:64", after := #[{ on := 19, ground := Go.Ground.data }, { on := 20, ground := Go.Ground.data }, { on := 18, ground := Go.Ground.chain }, { on := 15, ground := Go.Ground.guard }], guard := some (15, true) }) rfl (fun K hK => ?_) AllReadyH.nil
        go_simp
        refine (hRS2.out _ hHeld).mono ?_
        rintro e w5 ⟨rfl, b5⟩
        have hb21 := hHeld.trans (b5.mono hHeld.size)
        go_simp
        refine hK.out _ _ (hb21) (fun hHeld => ?_)
        clear hK K
        try simp only [Act.put, List.setIfInBounds_toArray, List.set_cons_zero, List.set_cons_succ]
        refine wpAnyH_take (i := 22) (oi := { dst := some 58, op := Go.Op.binOp Go.BinOp.eql 4 (Go.Operand.tmp 54) (Go.Operand.tmp 57) 4, type := 4, pos := "law.go:64", after := #[{ on := 18, ground := Go.Ground.data }, { on := 21, ground := Go.Ground.data }, { on := 15, ground := Go.Ground.guard }], guard := some (15, true) }) (v := ?v20) rfl (by kernel_rfl) (by kernel_rfl) (by kernel_rfl) (fun _ _ _ h => h) (Or.inl ⟨by kernel_rfl, ?h20⟩) (by assumption) ?r20
        case h20 => (intro w hSw; (try dsimp only at hSw); go_simp; try with_reducible rfl)
        try simp only [Act.put, List.setIfInBounds_toArray, List.set_cons_zero, List.set_cons_succ]
        refine wpAnyH_take (i := 23) (oi := { dst := some 59, op := Go.Op.pick (Go.Operand.tmp 51) (Go.Operand.tmp 58) (Go.Operand.const (Go.Value.bool false)), type := 4, pos := "law.go:64", after := #[{ on := 15, ground := Go.Ground.data }, { on := 22, ground := Go.Ground.data }], guard := none }) (v := ?v21) rfl (by kernel_rfl) (by kernel_rfl) (by kernel_rfl) (fun _ _ _ h => h) (Or.inl ⟨by kernel_rfl, ?h21⟩) (by assumption) ?r21
        case h21 => (intro w hSw; (try dsimp only at hSw); go_simp; try with_reducible rfl)
        try simp only [Act.put, List.setIfInBounds_toArray, List.set_cons_zero, List.set_cons_succ]
        refine wpAnyH_take (i := 24) (oi := { dst := some 6, op := Go.Op.assign (Go.Operand.tmp 59), type := 4, pos := "law.go:64", after := #[{ on := 23, ground := Go.Ground.data }, { on := 21, ground := Go.Ground.chain }, { on := 0, ground := Go.Ground.phase }, { on := 1, ground := Go.Ground.phase }, { on := 2, ground := Go.Ground.phase }, { on := 3, ground := Go.Ground.phase }, { on := 4, ground := Go.Ground.phase }, { on := 5, ground := Go.Ground.phase }, { on := 6, ground := Go.Ground.phase }, { on := 7, ground := Go.Ground.phase }, { on := 8, ground := Go.Ground.phase }, { on := 9, ground := Go.Ground.phase }, { on := 10, ground := Go.Ground.phase }, { on := 11, ground := Go.Ground.phase }, { on := 12, ground := Go.Ground.phase }, { on := 13, ground := Go.Ground.phase }, { on := 14, ground := Go.Ground.phase }, { on := 15, ground := Go.Ground.phase }, { on := 16, ground := Go.Ground.phase }, { on := 17, ground := Go.Ground.phase }, { on := 18, ground := Go.Ground.phase }, { on := 19, ground := Go.Ground.phase }, { on := 20, ground := Go.Ground.phase }, { on := 21, ground := Go.Ground.phase }, { on := 22, ground := Go.Ground.phase }, { on := 23, ground := Go.Ground.phase }], guard := none }) (v := ?v22) rfl (by kernel_rfl) (by kernel_rfl) (by kernel_rfl) (fun _ _ _ h => h) (Or.inl ⟨by kernel_rfl, ?h22⟩) (by assumption) ?r22
        case h22 => (intro w hSw; (try dsimp only at hSw); go_simp; try with_reducible rfl)
        try simp only [Act.put, List.setIfInBounds_toArray, List.set_cons_zero, List.set_cons_succ]
        refine wpAnyH_done (by kernel_rfl) ?_ _
        go_wp2
        go_ret
        exact ⟨by cases d <;> rfl, hbw'.out.trans (hHeld.mono hbw'.out.size)⟩
      · have htne : ¬ (A.getD k sc0).tag = tag := hbef'.out k (by omega)
        have htb : ((A.getD k sc0).tag == tag) = false := by simpa using htne
        clear ok hbw hbb
        generalize (A.getD k sc0).tag = tk at *
        generalize (A.getD k sc0).a = ad at *
        generalize (A.getD k sc0).m = mm at *
        generalize (A.getD k sc0).c = cc at *
        go_wp2
        go_roundw
        case rel => exact ⟨k + 1, by omega, by go_num, hbl⟩
        case measure => simp [intOf]; omega
  · have b1' := Lib.hid b1
    have hnone' := Lib.hid hnone
    clear b1 hnone hfind
    go_wp2
    go_loopw [9] (fun i wr => ∃ k : Nat, k ≤ na ∧ i = .int .i64 k ∧ Hid (Below w1.heap.size w1 wr)) (fun i _ => na - (intOf i).toNat)
    case atStart => exact ⟨0, Nat.zero_le _, rfl, Lib.hid (Below.refl _ _)⟩
    case round =>
      obtain ⟨k, hk, rfl, hbl⟩ := hrel
      have hbw := b1'.out.trans (hbl.out.mono b1'.out.size)
      by_cases hlt : k < na
      · obtain ⟨b, off, rfl, hbb, e1, e2, ok⟩ := (hA'.out.below hbw).at_ (i := k) (by have := hAn'.out; omega)
        have htne : ¬ (A.getD k sc0).tag = tag := hnone'.out k (by have := hAn'.out; omega)
        have htb : ((A.getD k sc0).tag == tag) = false := by simpa using htne
        clear ok hbw hbb
        generalize (A.getD k sc0).tag = tk at *
        generalize (A.getD k sc0).a = ad at *
        generalize (A.getD k sc0).m = mm at *
        generalize (A.getD k sc0).c = cc at *
        go_wp2
        go_roundw
        case rel => exact ⟨k + 1, by omega, by go_num, hbl⟩
        case measure => simp [intOf]; omega
      · have hSS2 := Lib.hid (hSS.out wr hbw)
        have hRS2 := Lib.hid (hRS.out wr hbw)
        have hbw' := Lib.hid hbw
        clear hbw hbl hSS hRS
        go_wp2_with fail
        refine (slives_any _).mono ?_
        rintro e w3 ⟨rfl, b3⟩
        have b3' := Lib.hid b3
        clear b3
        go_wp2_with fail
        refine (hSS2.out _ b3'.out).mono ?_
        rintro e w4 ⟨rfl, b4⟩
        have b4' := Lib.hid (b3'.out.trans (b4.mono b3'.out.size))
        clear b4
        go_wp2_with fail
        refine (hRS2.out _ b4'.out).mono ?_
        rintro e w5 ⟨rfl, b5⟩
        have b5' := Lib.hid (b4'.out.trans (b5.mono b4'.out.size))
        clear b5
        go_wp2
        go_ret
        exact ⟨by cases d <;> rfl, hbw'.out.trans (b5'.out.mono hbw'.out.size)⟩
end Go.Proofs.Ytnjdgnlgdokddaa
