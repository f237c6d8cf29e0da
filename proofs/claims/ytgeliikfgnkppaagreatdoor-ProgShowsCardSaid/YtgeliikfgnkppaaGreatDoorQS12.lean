/-
  Words and walks under the law's proof.
-/
import Derived.ArgAppend
import Derived.Deep.DeepCutAuto
import Derived.Test.YtgeliikfgnkppaaGreatDoorQS01
import Derived.Test.YtgeliikfgnkppaaGreatDoorQS05
import Derived.Test.YtgeliikfgnkppaaGreatDoorQS08
import Derived.Test.YtgeliikfgnkppaaGreatDoorQS11
namespace Go.Proofs.YtgeliikfgnkppaaGreatDoor
open Go.RowKit
set_option linter.unusedVariables false
set_option linter.unusedSimpArgs false
structure LSh (w : World) (a : Option Addr) (n cp : Nat) (l : List ByteArray) (W : World) : Prop where
  vars : TT W a n cp l
  bel : Below w.heap.size w W
  tab : Tab W
theorem LSh.below {w : World} {a : Option Addr} {n cp : Nat} {l : List ByteArray} {W W' : World} (h : LSh w a n cp l W) (hb : Below W.heap.size W W') : LSh w a n cp l W' :=
  ⟨h.vars.below hb, h.bel.trans (hb.mono h.bel.size), h.tab.on hb⟩
theorem vars_small {l : List ByteArray} (h : ∀ j, j < l.length → ¬ 200 < (l.getD j e0).size) : ∀ s ∈ l, s.size ≤ 9223372036854775806 := by
  intro s hs
  obtain ⟨j, hj, rfl⟩ := List.getElem_of_mem hs
  have := h j hj
  simp only [List.getD, List.getElem?_eq_getElem hj, Option.getD_some] at this
  omega
set_option maxRecDepth 100000 in
set_option maxHeartbeats 8000000 in
theorem pshows_big (a : Option Addr) (n cp : Nat) (l : List ByteArray) (k x y c d nn : Int) (w : World) (ht : Tab w) (h : TT w a n cp l) (HL : ∀ W, Tab W → Calls Tryz.prog 8 #[] W (Gives (.bool true) W)) (h20 : 20 < n) :
    Calls Tryz.prog 4 #[.slice a n cp, .agg #[.int .i64 k, .int .i64 x, .int .i64 y, .int .i64 c, .int .i64 d], .int .i64 nn] w (Gives (.bool true) w) := by
  obtain ⟨X0, hX0⟩ : ∃ X0, X0 = w.alloc (.cells #[.int .i64 k, .int .i64 x, .int .i64 y, .int .i64 c, .int .i64 d] 38) := ⟨_, rfl⟩
  have b0 : Below w.heap.size w X0 := by rw [hX0]; exact box_below _ _ _
  have HZ : Hid (Holds X0 w.heap.size 38 #[.int .i64 k, .int .i64 x, .int .i64 y, .int .i64 c, .int .i64 d]) := Lib.hid (by rw [hX0]; exact Holds.new w _ _)
  have L : Hid (LSh w a n cp l X0) := Lib.hid ⟨h.below b0, b0, ht.on b0⟩
  have hX0' := Lib.hid hX0
  clear hX0 b0
  have QL := Lib.hid HL
  have h20i : (20 : Int) < (n : Int) := by omega
  clear HL h ht
  go_enter Tryz.func4, Tryz.ntmps4
  go_wp2_with fail
  rw [← hX0'.out]
  with_reducible refine (QL.out X0 L.out.tab).mono ?_
  rintro e X9 ⟨rfl, bX9⟩
  replace L := Lib.hid (L.out.below bX9)
  clear bX9
  go_wp2
  go_ret
  exact ⟨rfl, L.out.bel⟩
set_option maxRecDepth 100000 in
set_option maxHeartbeats 8000000 in
theorem pshows_novars (a : Option Addr) (n cp : Nat) (l : List ByteArray) (k x y c d nn : Int) (w : World) (ht : Tab w) (h : TT w a n cp l) (HL : ∀ W, Tab W → Calls Tryz.prog 8 #[] W (Gives (.bool true) W)) (h20 : ¬ 20 < n) (hv : varsB l = false) :
    Calls Tryz.prog 4 #[.slice a n cp, .agg #[.int .i64 k, .int .i64 x, .int .i64 y, .int .i64 c, .int .i64 d], .int .i64 nn] w (Gives (.bool true) w) := by
  obtain ⟨X0, hX0⟩ : ∃ X0, X0 = w.alloc (.cells #[.int .i64 k, .int .i64 x, .int .i64 y, .int .i64 c, .int .i64 d] 38) := ⟨_, rfl⟩
  have b0 : Below w.heap.size w X0 := by rw [hX0]; exact box_below _ _ _
  have HZ : Hid (Holds X0 w.heap.size 38 #[.int .i64 k, .int .i64 x, .int .i64 y, .int .i64 c, .int .i64 d]) := Lib.hid (by rw [hX0]; exact Holds.new w _ _)
  have L : Hid (LSh w a n cp l X0) := Lib.hid ⟨h.below b0, b0, ht.on b0⟩
  have hX0' := Lib.hid hX0
  clear hX0 b0
  have h20i : ¬ (20 : Int) < (n : Int) := by omega
  have hE : Hid (showE l k x y c d = 110 ∧ showP l k x y c d = ⟨#[]⟩) := Lib.hid (by have e : showE l k x y c d = 110 := by { unfold showE; rw [hv]; rfl }; exact ⟨e, by unfold showP; rw [e]; rfl⟩)
  have hn := Lib.hid h.len
  have QL := Lib.hid HL
  have qsh := Lib.hid (fun W (hW : LSh w a n cp l W) => pshow_any a n cp l k x y c d W hW.tab hW.vars)
  have qr := Lib.hid (fun W => right_any k x y c d nn W)
  have qrr := Lib.hid (fun W => rright_any k x y c d nn W)
  have qr2 := Lib.hid (fun W => rright_any k x y c d (n : Int) W)
  rw [hE.out.1, hE.out.2] at qsh
  clear hE
  clear HL h ht
  go_enter Tryz.func4, Tryz.ntmps4
  go_wp2
  rw [← hX0'.out]
  clear hX0'
  go_loop [7] (fun y0 => ∃ j : Nat, j ≤ n ∧ y0 = .int .i64 j ∧ Hid (∀ t, t < j → ¬ 200 < (l.getD t e0).size)) (fun y0 => n - (intOf y0).toNat)
  case atStart => exact ⟨0, Nat.zero_le _, rfl, Lib.hid (fun t ht => by omega)⟩
  case round =>
    obtain ⟨j, hj, rfl, hal⟩ := hrel
    by_cases hlt : j < n
    · have hji : (j : Int) < (n : Int) := by omega
      have hkl : j < l.length := by rw [← hn.out]; exact hlt
      obtain ⟨b, off, rfl, hbl, hc⟩ := L.out.vars.at_ hkl
      have x0 := hc j hkl
      have hn2 : Hid (¬ 200 < (l.getD j e0).size → ∀ t, t < j + 1 → ¬ 200 < (l.getD t e0).size) := Lib.hid (fun h t ht => by by_cases e : t = j <;> first | (rw [e]; exact h) | exact hal.out t (by omega))
      clear hc hal
      generalize l.getD j e0 = v at *
      by_cases hs2 : 200 < v.size
      · have hsi : (200 : Int) < (v.size : Int) := by omega
        clear hn2
        go_wp2_with fail
        with_reducible refine (QL.out _ L.out.tab).mono ?_
        rintro e X9 ⟨rfl, bX9⟩
        replace L := Lib.hid (L.out.below bX9)
        clear bX9
        go_wp2
        go_ret
        exact ⟨rfl, L.out.bel⟩
      · have hsi : ¬ (200 : Int) < (v.size : Int) := by omega
        have hg := Lib.hid (hn2.out hs2)
        clear hn2
        go_wp2
        go_round
        case rel => exact ⟨j + 1, by omega, by go_num, hg⟩
        case measure => simp [intOf]; omega
    · have hji : ¬ (j : Int) < (n : Int) := by omega
      have hvs := Lib.hid (vars_small (fun t ht => hal.out t (by have := hn.out; omega)))
      clear hal
      have z0 := HZ.out.cell 0
      have z1 := HZ.out.cell 1
      have z2 := HZ.out.cell 2
      have z3 := HZ.out.cell 3
      have z4 := HZ.out.cell 4
      simp at z0 z1 z2 z3 z4
      go_wp2_with fail
      with_reducible refine (qsh.out _ L.out).mono ?_
      rintro e X2 ⟨rfl, bX2⟩
      replace L := Lib.hid (L.out.below bX2)
      replace HZ := Lib.hid (HZ.out.below bX2 HZ.out.lt)
      clear bX2
      clear z0 z1 z2 z3 z4
      have LF : ∀ W, Below X2.heap.size X2 W → LSh w a n cp l W := fun W hW => L.out.below hW
      have g0 : ∀ W, Below X2.heap.size X2 W → W.cell? ⟨w.heap.size, 0, none⟩ = some (.int .i64 k) := fun W hW => (HZ.out.below hW HZ.out.lt).cell 0
      have g1 : ∀ W, Below X2.heap.size X2 W → W.cell? ⟨w.heap.size, 1, none⟩ = some (.int .i64 x) := fun W hW => (HZ.out.below hW HZ.out.lt).cell 1
      have g2 : ∀ W, Below X2.heap.size X2 W → W.cell? ⟨w.heap.size, 2, none⟩ = some (.int .i64 y) := fun W hW => (HZ.out.below hW HZ.out.lt).cell 2
      have g3 : ∀ W, Below X2.heap.size X2 W → W.cell? ⟨w.heap.size, 3, none⟩ = some (.int .i64 c) := fun W hW => (HZ.out.below hW HZ.out.lt).cell 3
      have g4 : ∀ W, Below X2.heap.size X2 W → W.cell? ⟨w.heap.size, 4, none⟩ = some (.int .i64 d) := fun W hW => (HZ.out.below hW HZ.out.lt).cell 4
      generalize rightB k x y c d nn = RB at *
      go_wp2
      refine wp_drawn_on (fun W => Below X2.heap.size X2 W) (by kernel_rfl) ((Below.refl _ _).drew) (fun hHeld => ?_)
      refine wpAnyH_ready (rs := [0]) (by kernel_rfl) (by simp) ?_
      refine AllReadyH.cons (o := { dst := some 35, op := Go.Op.call { callee := Go.Callee.value (Go.Operand.func 8), args := #[], argTypes := #[] }, type := 4, pos := "law.go:63", after := #[], guard := none }) rfl (fun K hK => ?_) AllReadyH.nil
      go_simp
      with_reducible refine (QL.out _ (LF _ hHeld).tab).mono ?_
      rintro e t0 ⟨rfl, b0⟩
      go_simp
      refine hK.out _ _ (hHeld.trans (b0.mono hHeld.size)) (fun hHeld => ?_)
      clear hK K
      try simp only [Act.put, List.setIfInBounds_toArray, List.set_cons_zero, List.set_cons_succ]
      refine wpAnyH_take (i := 1) (oi := { dst := some 36, op := Go.Op.unOp Go.UnOp.not 4 (Go.Operand.tmp 35), type := 4, pos := "law.go:63", after := #[{ on := 0, ground := Go.Ground.data }], guard := none }) (v := ?v1) rfl (by kernel_rfl) (by kernel_rfl) (by kernel_rfl) (fun _ _ _ h => h) (Or.inl ⟨by kernel_rfl, ?h1⟩) (by assumption) ?r1
      case h1 => (intro w hSw; (try dsimp only at hSw); go_simp; try with_reducible rfl)
      try simp only [Act.put, List.setIfInBounds_toArray, List.set_cons_zero, List.set_cons_succ]
      refine wpAnyH_take (i := 2) (oi := { dst := some 37, op := Go.Op.move (Go.Operand.tmp 36), type := 4, pos := "law.go:63", after := #[{ on := 1, ground := Go.Ground.data }, { on := 0, ground := Go.Ground.chain }], guard := none }) (v := ?v2) rfl (by kernel_rfl) (by kernel_rfl) (by kernel_rfl) (fun _ _ _ h => h) (Or.inl ⟨by kernel_rfl, ?h2⟩) (by assumption) ?r2
      case h2 => (intro w hSw; (try dsimp only at hSw); go_simp; try with_reducible rfl)
      try simp only [Act.put, List.setIfInBounds_toArray, List.set_cons_zero, List.set_cons_succ]
      refine wpAnyH_take (i := 3) (oi := { dst := some 38, op := Go.Op.load 38 (Go.Operand.tmp 4), type := 38, pos := "law.go:63", after := #[{ on := 2, ground := Go.Ground.guard }], guard := some (2, false) }) (v := ?v3) rfl (by kernel_rfl) (by kernel_rfl) (by kernel_rfl) (fun _ _ _ h => h) (Or.inl ⟨by kernel_rfl, ?h3⟩) (by assumption) ?r3
      case h3 => (intro w hSw; (try dsimp only at hSw); go_simp; try with_reducible rfl)
      try simp only [Act.put, List.setIfInBounds_toArray, List.set_cons_zero, List.set_cons_succ]
      refine wpAnyH_take (i := 4) (oi := { dst := some 39, op := Go.Op.move (Go.Operand.tmp 2), type := 3, pos := "law.go:63", after := #[{ on := 2, ground := Go.Ground.guard }], guard := some (2, false) }) (v := ?v4) rfl (by kernel_rfl) (by kernel_rfl) (by kernel_rfl) (fun _ _ _ h => h) (Or.inl ⟨by kernel_rfl, ?h4⟩) (by assumption) ?r4
      case h4 => (intro w hSw; (try dsimp only at hSw); go_simp; try with_reducible rfl)
      try simp only [Act.put, List.setIfInBounds_toArray, List.set_cons_zero, List.set_cons_succ]
      refine wpAnyH_take (i := 6) (oi := { dst := some 41, op := Go.Op.load 38 (Go.Operand.tmp 4), type := 38, pos := "law.go:63", after := #[{ on := 2, ground := Go.Ground.guard }], guard := some (2, false) }) (v := ?v5) rfl (by kernel_rfl) (by kernel_rfl) (by kernel_rfl) (fun _ _ _ h => h) (Or.inl ⟨by kernel_rfl, ?h5⟩) (by assumption) ?r5
      case h5 => (intro w hSw; (try dsimp only at hSw); go_simp; try with_reducible rfl)
      try simp only [Act.put, List.setIfInBounds_toArray, List.set_cons_zero, List.set_cons_succ]
      refine wpAnyH_take (i := 7) (oi := { dst := some 42, op := Go.Op.move (Go.Operand.tmp 2), type := 3, pos := "law.go:63", after := #[{ on := 2, ground := Go.Ground.guard }], guard := some (2, false) }) (v := ?v6) rfl (by kernel_rfl) (by kernel_rfl) (by kernel_rfl) (fun _ _ _ h => h) (Or.inl ⟨by kernel_rfl, ?h6⟩) (by assumption) ?r6
      case h6 => (intro w hSw; (try dsimp only at hSw); go_simp; try with_reducible rfl)
      try simp only [Act.put, List.setIfInBounds_toArray, List.set_cons_zero, List.set_cons_succ]
      refine wpAnyH_ready (rs := [5]) (by kernel_rfl) (by simp) ?_
      refine AllReadyH.cons (o := { dst := some 40, op := Go.Op.call { callee := Go.Callee.value (Go.Operand.func 21), args := #[Go.Operand.tmp 38, Go.Operand.tmp 39], argTypes := #[38, 3] }, type := 4, pos := "law.go:63", after := #[{ on := 3, ground := Go.Ground.data }, { on := 4, ground := Go.Ground.data }, { on := 2, ground := Go.Ground.chain }, { on := 2, ground := Go.Ground.guard }], guard := some (2, false) }) rfl (fun K hK => ?_) AllReadyH.nil
      go_simp
      with_reducible refine (qr.out _).mono ?_
      rintro e t5 ⟨rfl, b5⟩
      go_simp
      refine hK.out _ _ (hHeld.trans (b5.mono hHeld.size)) (fun hHeld => ?_)
      clear hK K
      try simp only [Act.put, List.setIfInBounds_toArray, List.set_cons_zero, List.set_cons_succ]
      refine wpAnyH_ready (rs := [8]) (by kernel_rfl) (by simp) ?_
      refine AllReadyH.cons (o := { dst := some 43, op := Go.Op.call { callee := Go.Callee.value (Go.Operand.func 22), args := #[Go.Operand.tmp 41, Go.Operand.tmp 42], argTypes := #[38, 3] }, type := 4, pos := "law.go:63", after := #[{ on := 6, ground := Go.Ground.data }, { on := 7, ground := Go.Ground.data }, { on := 5, ground := Go.Ground.chain }, { on := 2, ground := Go.Ground.guard }], guard := some (2, false) }) rfl (fun K hK => ?_) AllReadyH.nil
      go_simp
      with_reducible refine (qrr.out _).mono ?_
      rintro e t8 ⟨rfl, b8⟩
      go_simp
      refine hK.out _ _ (hHeld.trans (b8.mono hHeld.size)) (fun hHeld => ?_)
      clear hK K
      try simp only [Act.put, List.setIfInBounds_toArray, List.set_cons_zero, List.set_cons_succ]
      refine wpAnyH_take (i := 9) (oi := { dst := some 44, op := Go.Op.binOp Go.BinOp.neq 4 (Go.Operand.tmp 40) (Go.Operand.tmp 43) 4, type := 4, pos := "law.go:63", after := #[{ on := 5, ground := Go.Ground.data }, { on := 8, ground := Go.Ground.data }, { on := 2, ground := Go.Ground.guard }], guard := some (2, false) }) (v := ?v7) rfl (by kernel_rfl) (by kernel_rfl) (by kernel_rfl) (fun _ _ _ h => h) (Or.inl ⟨by kernel_rfl, ?h7⟩) (by assumption) ?r7
      case h7 => (intro w hSw; (try dsimp only at hSw); go_simp; try with_reducible rfl)
      try simp only [Act.put, List.setIfInBounds_toArray, List.set_cons_zero, List.set_cons_succ]
      refine wpAnyH_take (i := 10) (oi := { dst := some 45, op := Go.Op.pick (Go.Operand.tmp 37) (Go.Operand.const (Go.Value.bool true)) (Go.Operand.tmp 44), type := 4, pos := "law.go:63", after := #[{ on := 2, ground := Go.Ground.data }, { on := 9, ground := Go.Ground.data }], guard := none }) (v := ?v8) rfl (by kernel_rfl) (by kernel_rfl) (by kernel_rfl) (fun _ _ _ h => h) (Or.inl ⟨by kernel_rfl, ?h8⟩) (by assumption) ?r8
      case h8 => (intro w hSw; (try dsimp only at hSw); go_simp; try with_reducible rfl)
      try simp only [Act.put, List.setIfInBounds_toArray, List.set_cons_zero, List.set_cons_succ]
      refine wpAnyH_done (by kernel_rfl) ?_ _
      obtain ⟨X3, hX3⟩ : ∃ X3, X3 = t8 := ⟨_, rfl⟩
      rw [← hX3] at hHeld ⊢
      replace L := Lib.hid (L.out.below hHeld)
      replace HZ := Lib.hid (HZ.out.below hHeld HZ.out.lt)
      clear hX3 hHeld LF g0 g1 g2 g3 g4
      have qv := Lib.hid (fun W (hW : LSh w a n cp l W) => rvars_any a n cp l hvs.out W hW.vars)
      rw [hv] at qv
      go_wp2_with fail
      with_reducible refine (qv.out _ L.out).mono ?_
      rintro e X4 ⟨rfl, mq, rfl⟩
      go_wp2
      go_ret
      exact ⟨rfl, Below.drewN L.out.bel mq⟩
set_option maxRecDepth 100000 in
set_option maxHeartbeats 8000000 in
theorem pshows_noright (a : Option Addr) (n cp : Nat) (l : List ByteArray) (k x y c d nn : Int) (w : World) (ht : Tab w) (h : TT w a n cp l) (HL : ∀ W, Tab W → Calls Tryz.prog 8 #[] W (Gives (.bool true) W)) (h20 : ¬ 20 < n) (hv : varsB l = true) (hr : rightB k x y c d (n : Int) = false) :
    Calls Tryz.prog 4 #[.slice a n cp, .agg #[.int .i64 k, .int .i64 x, .int .i64 y, .int .i64 c, .int .i64 d], .int .i64 nn] w (Gives (.bool true) w) := by
  obtain ⟨X0, hX0⟩ : ∃ X0, X0 = w.alloc (.cells #[.int .i64 k, .int .i64 x, .int .i64 y, .int .i64 c, .int .i64 d] 38) := ⟨_, rfl⟩
  have b0 : Below w.heap.size w X0 := by rw [hX0]; exact box_below _ _ _
  have HZ : Hid (Holds X0 w.heap.size 38 #[.int .i64 k, .int .i64 x, .int .i64 y, .int .i64 c, .int .i64 d]) := Lib.hid (by rw [hX0]; exact Holds.new w _ _)
  have L : Hid (LSh w a n cp l X0) := Lib.hid ⟨h.below b0, b0, ht.on b0⟩
  have hX0' := Lib.hid hX0
  clear hX0 b0
  have h20i : ¬ (20 : Int) < (n : Int) := by omega
  have hE : Hid (showE l k x y c d = 111 ∧ showP l k x y c d = ⟨#[]⟩) := Lib.hid (by have e : showE l k x y c d = 111 := by { unfold showE; rw [if_pos hv, ← h.len, hr]; rfl }; exact ⟨e, by unfold showP; rw [e]; rfl⟩)
  have hn := Lib.hid h.len
  have QL := Lib.hid HL
  have qsh := Lib.hid (fun W (hW : LSh w a n cp l W) => pshow_any a n cp l k x y c d W hW.tab hW.vars)
  have qr := Lib.hid (fun W => right_any k x y c d nn W)
  have qrr := Lib.hid (fun W => rright_any k x y c d nn W)
  have qr2 := Lib.hid (fun W => rright_any k x y c d (n : Int) W)
  rw [hE.out.1, hE.out.2] at qsh
  rw [hr] at qr2
  clear hE
  clear HL h ht hr
  go_enter Tryz.func4, Tryz.ntmps4
  go_wp2
  rw [← hX0'.out]
  clear hX0'
  go_loop [7] (fun y0 => ∃ j : Nat, j ≤ n ∧ y0 = .int .i64 j ∧ Hid (∀ t, t < j → ¬ 200 < (l.getD t e0).size)) (fun y0 => n - (intOf y0).toNat)
  case atStart => exact ⟨0, Nat.zero_le _, rfl, Lib.hid (fun t ht => by omega)⟩
  case round =>
    obtain ⟨j, hj, rfl, hal⟩ := hrel
    by_cases hlt : j < n
    · have hji : (j : Int) < (n : Int) := by omega
      have hkl : j < l.length := by rw [← hn.out]; exact hlt
      obtain ⟨b, off, rfl, hbl, hc⟩ := L.out.vars.at_ hkl
      have x0 := hc j hkl
      have hn2 : Hid (¬ 200 < (l.getD j e0).size → ∀ t, t < j + 1 → ¬ 200 < (l.getD t e0).size) := Lib.hid (fun h t ht => by by_cases e : t = j <;> first | (rw [e]; exact h) | exact hal.out t (by omega))
      clear hc hal
      generalize l.getD j e0 = v at *
      by_cases hs2 : 200 < v.size
      · have hsi : (200 : Int) < (v.size : Int) := by omega
        clear hn2
        go_wp2_with fail
        with_reducible refine (QL.out _ L.out.tab).mono ?_
        rintro e X9 ⟨rfl, bX9⟩
        replace L := Lib.hid (L.out.below bX9)
        clear bX9
        go_wp2
        go_ret
        exact ⟨rfl, L.out.bel⟩
      · have hsi : ¬ (200 : Int) < (v.size : Int) := by omega
        have hg := Lib.hid (hn2.out hs2)
        clear hn2
        go_wp2
        go_round
        case rel => exact ⟨j + 1, by omega, by go_num, hg⟩
        case measure => simp [intOf]; omega
    · have hji : ¬ (j : Int) < (n : Int) := by omega
      have hvs := Lib.hid (vars_small (fun t ht => hal.out t (by have := hn.out; omega)))
      clear hal
      have z0 := HZ.out.cell 0
      have z1 := HZ.out.cell 1
      have z2 := HZ.out.cell 2
      have z3 := HZ.out.cell 3
      have z4 := HZ.out.cell 4
      simp at z0 z1 z2 z3 z4
      go_wp2_with fail
      with_reducible refine (qsh.out _ L.out).mono ?_
      rintro e X2 ⟨rfl, bX2⟩
      replace L := Lib.hid (L.out.below bX2)
      replace HZ := Lib.hid (HZ.out.below bX2 HZ.out.lt)
      clear bX2
      clear z0 z1 z2 z3 z4
      have LF : ∀ W, Below X2.heap.size X2 W → LSh w a n cp l W := fun W hW => L.out.below hW
      have g0 : ∀ W, Below X2.heap.size X2 W → W.cell? ⟨w.heap.size, 0, none⟩ = some (.int .i64 k) := fun W hW => (HZ.out.below hW HZ.out.lt).cell 0
      have g1 : ∀ W, Below X2.heap.size X2 W → W.cell? ⟨w.heap.size, 1, none⟩ = some (.int .i64 x) := fun W hW => (HZ.out.below hW HZ.out.lt).cell 1
      have g2 : ∀ W, Below X2.heap.size X2 W → W.cell? ⟨w.heap.size, 2, none⟩ = some (.int .i64 y) := fun W hW => (HZ.out.below hW HZ.out.lt).cell 2
      have g3 : ∀ W, Below X2.heap.size X2 W → W.cell? ⟨w.heap.size, 3, none⟩ = some (.int .i64 c) := fun W hW => (HZ.out.below hW HZ.out.lt).cell 3
      have g4 : ∀ W, Below X2.heap.size X2 W → W.cell? ⟨w.heap.size, 4, none⟩ = some (.int .i64 d) := fun W hW => (HZ.out.below hW HZ.out.lt).cell 4
      generalize rightB k x y c d nn = RB at *
      go_wp2
      refine wp_drawn_on (fun W => Below X2.heap.size X2 W) (by kernel_rfl) ((Below.refl _ _).drew) (fun hHeld => ?_)
      refine wpAnyH_ready (rs := [0]) (by kernel_rfl) (by simp) ?_
      refine AllReadyH.cons (o := { dst := some 35, op := Go.Op.call { callee := Go.Callee.value (Go.Operand.func 8), args := #[], argTypes := #[] }, type := 4, pos := "law.go:63", after := #[], guard := none }) rfl (fun K hK => ?_) AllReadyH.nil
      go_simp
      with_reducible refine (QL.out _ (LF _ hHeld).tab).mono ?_
      rintro e t0 ⟨rfl, b0⟩
      go_simp
      refine hK.out _ _ (hHeld.trans (b0.mono hHeld.size)) (fun hHeld => ?_)
      clear hK K
      try simp only [Act.put, List.setIfInBounds_toArray, List.set_cons_zero, List.set_cons_succ]
      refine wpAnyH_take (i := 1) (oi := { dst := some 36, op := Go.Op.unOp Go.UnOp.not 4 (Go.Operand.tmp 35), type := 4, pos := "law.go:63", after := #[{ on := 0, ground := Go.Ground.data }], guard := none }) (v := ?v9) rfl (by kernel_rfl) (by kernel_rfl) (by kernel_rfl) (fun _ _ _ h => h) (Or.inl ⟨by kernel_rfl, ?h9⟩) (by assumption) ?r9
      case h9 => (intro w hSw; (try dsimp only at hSw); go_simp; try with_reducible rfl)
      try simp only [Act.put, List.setIfInBounds_toArray, List.set_cons_zero, List.set_cons_succ]
      refine wpAnyH_take (i := 2) (oi := { dst := some 37, op := Go.Op.move (Go.Operand.tmp 36), type := 4, pos := "law.go:63", after := #[{ on := 1, ground := Go.Ground.data }, { on := 0, ground := Go.Ground.chain }], guard := none }) (v := ?v10) rfl (by kernel_rfl) (by kernel_rfl) (by kernel_rfl) (fun _ _ _ h => h) (Or.inl ⟨by kernel_rfl, ?h10⟩) (by assumption) ?r10
      case h10 => (intro w hSw; (try dsimp only at hSw); go_simp; try with_reducible rfl)
      try simp only [Act.put, List.setIfInBounds_toArray, List.set_cons_zero, List.set_cons_succ]
      refine wpAnyH_take (i := 3) (oi := { dst := some 38, op := Go.Op.load 38 (Go.Operand.tmp 4), type := 38, pos := "law.go:63", after := #[{ on := 2, ground := Go.Ground.guard }], guard := some (2, false) }) (v := ?v11) rfl (by kernel_rfl) (by kernel_rfl) (by kernel_rfl) (fun _ _ _ h => h) (Or.inl ⟨by kernel_rfl, ?h11⟩) (by assumption) ?r11
      case h11 => (intro w hSw; (try dsimp only at hSw); go_simp; try with_reducible rfl)
      try simp only [Act.put, List.setIfInBounds_toArray, List.set_cons_zero, List.set_cons_succ]
      refine wpAnyH_take (i := 4) (oi := { dst := some 39, op := Go.Op.move (Go.Operand.tmp 2), type := 3, pos := "law.go:63", after := #[{ on := 2, ground := Go.Ground.guard }], guard := some (2, false) }) (v := ?v12) rfl (by kernel_rfl) (by kernel_rfl) (by kernel_rfl) (fun _ _ _ h => h) (Or.inl ⟨by kernel_rfl, ?h12⟩) (by assumption) ?r12
      case h12 => (intro w hSw; (try dsimp only at hSw); go_simp; try with_reducible rfl)
      try simp only [Act.put, List.setIfInBounds_toArray, List.set_cons_zero, List.set_cons_succ]
      refine wpAnyH_take (i := 6) (oi := { dst := some 41, op := Go.Op.load 38 (Go.Operand.tmp 4), type := 38, pos := "law.go:63", after := #[{ on := 2, ground := Go.Ground.guard }], guard := some (2, false) }) (v := ?v13) rfl (by kernel_rfl) (by kernel_rfl) (by kernel_rfl) (fun _ _ _ h => h) (Or.inl ⟨by kernel_rfl, ?h13⟩) (by assumption) ?r13
      case h13 => (intro w hSw; (try dsimp only at hSw); go_simp; try with_reducible rfl)
      try simp only [Act.put, List.setIfInBounds_toArray, List.set_cons_zero, List.set_cons_succ]
      refine wpAnyH_take (i := 7) (oi := { dst := some 42, op := Go.Op.move (Go.Operand.tmp 2), type := 3, pos := "law.go:63", after := #[{ on := 2, ground := Go.Ground.guard }], guard := some (2, false) }) (v := ?v14) rfl (by kernel_rfl) (by kernel_rfl) (by kernel_rfl) (fun _ _ _ h => h) (Or.inl ⟨by kernel_rfl, ?h14⟩) (by assumption) ?r14
      case h14 => (intro w hSw; (try dsimp only at hSw); go_simp; try with_reducible rfl)
      try simp only [Act.put, List.setIfInBounds_toArray, List.set_cons_zero, List.set_cons_succ]
      refine wpAnyH_ready (rs := [5]) (by kernel_rfl) (by simp) ?_
      refine AllReadyH.cons (o := { dst := some 40, op := Go.Op.call { callee := Go.Callee.value (Go.Operand.func 21), args := #[Go.Operand.tmp 38, Go.Operand.tmp 39], argTypes := #[38, 3] }, type := 4, pos := "law.go:63", after := #[{ on := 3, ground := Go.Ground.data }, { on := 4, ground := Go.Ground.data }, { on := 2, ground := Go.Ground.chain }, { on := 2, ground := Go.Ground.guard }], guard := some (2, false) }) rfl (fun K hK => ?_) AllReadyH.nil
      go_simp
      with_reducible refine (qr.out _).mono ?_
      rintro e t5 ⟨rfl, b5⟩
      go_simp
      refine hK.out _ _ (hHeld.trans (b5.mono hHeld.size)) (fun hHeld => ?_)
      clear hK K
      try simp only [Act.put, List.setIfInBounds_toArray, List.set_cons_zero, List.set_cons_succ]
      refine wpAnyH_ready (rs := [8]) (by kernel_rfl) (by simp) ?_
      refine AllReadyH.cons (o := { dst := some 43, op := Go.Op.call { callee := Go.Callee.value (Go.Operand.func 22), args := #[Go.Operand.tmp 41, Go.Operand.tmp 42], argTypes := #[38, 3] }, type := 4, pos := "law.go:63", after := #[{ on := 6, ground := Go.Ground.data }, { on := 7, ground := Go.Ground.data }, { on := 5, ground := Go.Ground.chain }, { on := 2, ground := Go.Ground.guard }], guard := some (2, false) }) rfl (fun K hK => ?_) AllReadyH.nil
      go_simp
      with_reducible refine (qrr.out _).mono ?_
      rintro e t8 ⟨rfl, b8⟩
      go_simp
      refine hK.out _ _ (hHeld.trans (b8.mono hHeld.size)) (fun hHeld => ?_)
      clear hK K
      try simp only [Act.put, List.setIfInBounds_toArray, List.set_cons_zero, List.set_cons_succ]
      refine wpAnyH_take (i := 9) (oi := { dst := some 44, op := Go.Op.binOp Go.BinOp.neq 4 (Go.Operand.tmp 40) (Go.Operand.tmp 43) 4, type := 4, pos := "law.go:63", after := #[{ on := 5, ground := Go.Ground.data }, { on := 8, ground := Go.Ground.data }, { on := 2, ground := Go.Ground.guard }], guard := some (2, false) }) (v := ?v15) rfl (by kernel_rfl) (by kernel_rfl) (by kernel_rfl) (fun _ _ _ h => h) (Or.inl ⟨by kernel_rfl, ?h15⟩) (by assumption) ?r15
      case h15 => (intro w hSw; (try dsimp only at hSw); go_simp; try with_reducible rfl)
      try simp only [Act.put, List.setIfInBounds_toArray, List.set_cons_zero, List.set_cons_succ]
      refine wpAnyH_take (i := 10) (oi := { dst := some 45, op := Go.Op.pick (Go.Operand.tmp 37) (Go.Operand.const (Go.Value.bool true)) (Go.Operand.tmp 44), type := 4, pos := "law.go:63", after := #[{ on := 2, ground := Go.Ground.data }, { on := 9, ground := Go.Ground.data }], guard := none }) (v := ?v16) rfl (by kernel_rfl) (by kernel_rfl) (by kernel_rfl) (fun _ _ _ h => h) (Or.inl ⟨by kernel_rfl, ?h16⟩) (by assumption) ?r16
      case h16 => (intro w hSw; (try dsimp only at hSw); go_simp; try with_reducible rfl)
      try simp only [Act.put, List.setIfInBounds_toArray, List.set_cons_zero, List.set_cons_succ]
      refine wpAnyH_done (by kernel_rfl) ?_ _
      obtain ⟨X3, hX3⟩ : ∃ X3, X3 = t8 := ⟨_, rfl⟩
      rw [← hX3] at hHeld ⊢
      replace L := Lib.hid (L.out.below hHeld)
      replace HZ := Lib.hid (HZ.out.below hHeld HZ.out.lt)
      clear hX3 hHeld LF g0 g1 g2 g3 g4
      have qv := Lib.hid (fun W (hW : LSh w a n cp l W) => rvars_any a n cp l hvs.out W hW.vars)
      rw [hv] at qv
      go_wp2_with fail
      with_reducible refine (qv.out _ L.out).mono ?_
      rintro e X4 ⟨rfl, mq, rfl⟩
      replace HZ := Lib.hid (HZ.out.drewN mq)
      replace L := Lib.hid (L.out.below (Below.drewN (Below.refl _ _) mq))
      generalize X3.drewN mq = X4 at *
      have z0 := HZ.out.cell 0
      have z1 := HZ.out.cell 1
      have z2 := HZ.out.cell 2
      have z3 := HZ.out.cell 3
      have z4 := HZ.out.cell 4
      simp at z0 z1 z2 z3 z4
      go_wp2_with fail
      with_reducible refine (qr2.out _).mono ?_
      rintro e X5 ⟨rfl, bX5⟩
      replace L := Lib.hid (L.out.below bX5)
      replace HZ := Lib.hid (HZ.out.below bX5 HZ.out.lt)
      clear bX5
      clear z0 z1 z2 z3 z4
      go_wp2
      go_ret
      exact ⟨rfl, L.out.bel⟩
set_option maxRecDepth 100000 in
set_option maxHeartbeats 8000000 in
theorem pshows_ok (a : Option Addr) (n cp : Nat) (l : List ByteArray) (k x y c d nn : Int) (w : World) (ht : Tab w) (h : TT w a n cp l) (HL : ∀ W, Tab W → Calls Tryz.prog 8 #[] W (Gives (.bool true) W)) (h20 : ¬ 20 < n) (hv : varsB l = true) (hr : rightB k x y c d (n : Int) = true) :
    Calls Tryz.prog 4 #[.slice a n cp, .agg #[.int .i64 k, .int .i64 x, .int .i64 y, .int .i64 c, .int .i64 d], .int .i64 nn] w (Gives (.bool true) w) := by
  obtain ⟨X0, hX0⟩ : ∃ X0, X0 = w.alloc (.cells #[.int .i64 k, .int .i64 x, .int .i64 y, .int .i64 c, .int .i64 d] 38) := ⟨_, rfl⟩
  have b0 : Below w.heap.size w X0 := by rw [hX0]; exact box_below _ _ _
  have HZ : Hid (Holds X0 w.heap.size 38 #[.int .i64 k, .int .i64 x, .int .i64 y, .int .i64 c, .int .i64 d]) := Lib.hid (by rw [hX0]; exact Holds.new w _ _)
  have L : Hid (LSh w a n cp l X0) := Lib.hid ⟨h.below b0, b0, ht.on b0⟩
  have hX0' := Lib.hid hX0
  clear hX0 b0
  have h20i : ¬ (20 : Int) < (n : Int) := by omega
  have hr' : rightB k x y c d (l.length : Int) = true := by rw [← h.len]; exact hr
  have hE : Hid (showE l k x y c d = 0 ∧ showP l k x y c d = stmtT l k x y c d) := Lib.hid (show_ok hv hr')
  have qp : Hid (∀ W, LSh w a n cp l W → Calls Tryz.prog 24 #[.slice a n cp, .string (stmtT l k x y c d)] W (Gives (.tuple #[.agg #[.int .i64 k, .int .i64 x, .int .i64 y, .int .i64 c, .int .i64 d], .int .i64 0]) W)) := Lib.hid (fun W hW => by have q := pparse_any a n cp l (stmtT l k x y c d) W hW.tab hW.vars; rw [parse_show hv hr'] at q; exact q)
  have qrs := Lib.hid (fun W (hW : LSh w a n cp l W) => rshow_any a n cp l (vars_sz hv) k x y c d hr W hW.vars)
  clear hr'
  have hn := Lib.hid h.len
  have QL := Lib.hid HL
  have qsh := Lib.hid (fun W (hW : LSh w a n cp l W) => pshow_any a n cp l k x y c d W hW.tab hW.vars)
  have qr := Lib.hid (fun W => right_any k x y c d nn W)
  have qrr := Lib.hid (fun W => rright_any k x y c d nn W)
  have qr2 := Lib.hid (fun W => rright_any k x y c d (n : Int) W)
  rw [hE.out.1, hE.out.2] at qsh
  rw [hr] at qr2
  clear hE
  generalize stmtT l k x y c d = T at *
  clear HL h ht hr
  go_enter Tryz.func4, Tryz.ntmps4
  go_wp2
  rw [← hX0'.out]
  clear hX0'
  go_loop [7] (fun y0 => ∃ j : Nat, j ≤ n ∧ y0 = .int .i64 j ∧ Hid (∀ t, t < j → ¬ 200 < (l.getD t e0).size)) (fun y0 => n - (intOf y0).toNat)
  case atStart => exact ⟨0, Nat.zero_le _, rfl, Lib.hid (fun t ht => by omega)⟩
  case round =>
    obtain ⟨j, hj, rfl, hal⟩ := hrel
    by_cases hlt : j < n
    · have hji : (j : Int) < (n : Int) := by omega
      have hkl : j < l.length := by rw [← hn.out]; exact hlt
      obtain ⟨b, off, rfl, hbl, hc⟩ := L.out.vars.at_ hkl
      have x0 := hc j hkl
      have hn2 : Hid (¬ 200 < (l.getD j e0).size → ∀ t, t < j + 1 → ¬ 200 < (l.getD t e0).size) := Lib.hid (fun h t ht => by by_cases e : t = j <;> first | (rw [e]; exact h) | exact hal.out t (by omega))
      clear hc hal
      generalize l.getD j e0 = v at *
      by_cases hs2 : 200 < v.size
      · have hsi : (200 : Int) < (v.size : Int) := by omega
        clear hn2
        go_wp2_with fail
        with_reducible refine (QL.out _ L.out.tab).mono ?_
        rintro e X9 ⟨rfl, bX9⟩
        replace L := Lib.hid (L.out.below bX9)
        clear bX9
        go_wp2
        go_ret
        exact ⟨rfl, L.out.bel⟩
      · have hsi : ¬ (200 : Int) < (v.size : Int) := by omega
        have hg := Lib.hid (hn2.out hs2)
        clear hn2
        go_wp2
        go_round
        case rel => exact ⟨j + 1, by omega, by go_num, hg⟩
        case measure => simp [intOf]; omega
    · have hji : ¬ (j : Int) < (n : Int) := by omega
      have hvs := Lib.hid (vars_small (fun t ht => hal.out t (by have := hn.out; omega)))
      clear hal
      have z0 := HZ.out.cell 0
      have z1 := HZ.out.cell 1
      have z2 := HZ.out.cell 2
      have z3 := HZ.out.cell 3
      have z4 := HZ.out.cell 4
      simp at z0 z1 z2 z3 z4
      go_wp2_with fail
      with_reducible refine (qsh.out _ L.out).mono ?_
      rintro e X2 ⟨rfl, bX2⟩
      replace L := Lib.hid (L.out.below bX2)
      replace HZ := Lib.hid (HZ.out.below bX2 HZ.out.lt)
      clear bX2
      clear z0 z1 z2 z3 z4
      have LF : ∀ W, Below X2.heap.size X2 W → LSh w a n cp l W := fun W hW => L.out.below hW
      have g0 : ∀ W, Below X2.heap.size X2 W → W.cell? ⟨w.heap.size, 0, none⟩ = some (.int .i64 k) := fun W hW => (HZ.out.below hW HZ.out.lt).cell 0
      have g1 : ∀ W, Below X2.heap.size X2 W → W.cell? ⟨w.heap.size, 1, none⟩ = some (.int .i64 x) := fun W hW => (HZ.out.below hW HZ.out.lt).cell 1
      have g2 : ∀ W, Below X2.heap.size X2 W → W.cell? ⟨w.heap.size, 2, none⟩ = some (.int .i64 y) := fun W hW => (HZ.out.below hW HZ.out.lt).cell 2
      have g3 : ∀ W, Below X2.heap.size X2 W → W.cell? ⟨w.heap.size, 3, none⟩ = some (.int .i64 c) := fun W hW => (HZ.out.below hW HZ.out.lt).cell 3
      have g4 : ∀ W, Below X2.heap.size X2 W → W.cell? ⟨w.heap.size, 4, none⟩ = some (.int .i64 d) := fun W hW => (HZ.out.below hW HZ.out.lt).cell 4
      generalize rightB k x y c d nn = RB at *
      go_wp2
      refine wp_drawn_on (fun W => Below X2.heap.size X2 W) (by kernel_rfl) ((Below.refl _ _).drew) (fun hHeld => ?_)
      refine wpAnyH_ready (rs := [0]) (by kernel_rfl) (by simp) ?_
      refine AllReadyH.cons (o := { dst := some 35, op := Go.Op.call { callee := Go.Callee.value (Go.Operand.func 8), args := #[], argTypes := #[] }, type := 4, pos := "law.go:63", after := #[], guard := none }) rfl (fun K hK => ?_) AllReadyH.nil
      go_simp
      with_reducible refine (QL.out _ (LF _ hHeld).tab).mono ?_
      rintro e t0 ⟨rfl, b0⟩
      go_simp
      refine hK.out _ _ (hHeld.trans (b0.mono hHeld.size)) (fun hHeld => ?_)
      clear hK K
      try simp only [Act.put, List.setIfInBounds_toArray, List.set_cons_zero, List.set_cons_succ]
      refine wpAnyH_take (i := 1) (oi := { dst := some 36, op := Go.Op.unOp Go.UnOp.not 4 (Go.Operand.tmp 35), type := 4, pos := "law.go:63", after := #[{ on := 0, ground := Go.Ground.data }], guard := none }) (v := ?v17) rfl (by kernel_rfl) (by kernel_rfl) (by kernel_rfl) (fun _ _ _ h => h) (Or.inl ⟨by kernel_rfl, ?h17⟩) (by assumption) ?r17
      case h17 => (intro w hSw; (try dsimp only at hSw); go_simp; try with_reducible rfl)
      try simp only [Act.put, List.setIfInBounds_toArray, List.set_cons_zero, List.set_cons_succ]
      refine wpAnyH_take (i := 2) (oi := { dst := some 37, op := Go.Op.move (Go.Operand.tmp 36), type := 4, pos := "law.go:63", after := #[{ on := 1, ground := Go.Ground.data }, { on := 0, ground := Go.Ground.chain }], guard := none }) (v := ?v18) rfl (by kernel_rfl) (by kernel_rfl) (by kernel_rfl) (fun _ _ _ h => h) (Or.inl ⟨by kernel_rfl, ?h18⟩) (by assumption) ?r18
      case h18 => (intro w hSw; (try dsimp only at hSw); go_simp; try with_reducible rfl)
      try simp only [Act.put, List.setIfInBounds_toArray, List.set_cons_zero, List.set_cons_succ]
      refine wpAnyH_take (i := 3) (oi := { dst := some 38, op := Go.Op.load 38 (Go.Operand.tmp 4), type := 38, pos := "law.go:63", after := #[{ on := 2, ground := Go.Ground.guard }], guard := some (2, false) }) (v := ?v19) rfl (by kernel_rfl) (by kernel_rfl) (by kernel_rfl) (fun _ _ _ h => h) (Or.inl ⟨by kernel_rfl, ?h19⟩) (by assumption) ?r19
      case h19 => (intro w hSw; (try dsimp only at hSw); go_simp; try with_reducible rfl)
      try simp only [Act.put, List.setIfInBounds_toArray, List.set_cons_zero, List.set_cons_succ]
      refine wpAnyH_take (i := 4) (oi := { dst := some 39, op := Go.Op.move (Go.Operand.tmp 2), type := 3, pos := "law.go:63", after := #[{ on := 2, ground := Go.Ground.guard }], guard := some (2, false) }) (v := ?v20) rfl (by kernel_rfl) (by kernel_rfl) (by kernel_rfl) (fun _ _ _ h => h) (Or.inl ⟨by kernel_rfl, ?h20⟩) (by assumption) ?r20
      case h20 => (intro w hSw; (try dsimp only at hSw); go_simp; try with_reducible rfl)
      try simp only [Act.put, List.setIfInBounds_toArray, List.set_cons_zero, List.set_cons_succ]
      refine wpAnyH_take (i := 6) (oi := { dst := some 41, op := Go.Op.load 38 (Go.Operand.tmp 4), type := 38, pos := "law.go:63", after := #[{ on := 2, ground := Go.Ground.guard }], guard := some (2, false) }) (v := ?v21) rfl (by kernel_rfl) (by kernel_rfl) (by kernel_rfl) (fun _ _ _ h => h) (Or.inl ⟨by kernel_rfl, ?h21⟩) (by assumption) ?r21
      case h21 => (intro w hSw; (try dsimp only at hSw); go_simp; try with_reducible rfl)
      try simp only [Act.put, List.setIfInBounds_toArray, List.set_cons_zero, List.set_cons_succ]
      refine wpAnyH_take (i := 7) (oi := { dst := some 42, op := Go.Op.move (Go.Operand.tmp 2), type := 3, pos := "law.go:63", after := #[{ on := 2, ground := Go.Ground.guard }], guard := some (2, false) }) (v := ?v22) rfl (by kernel_rfl) (by kernel_rfl) (by kernel_rfl) (fun _ _ _ h => h) (Or.inl ⟨by kernel_rfl, ?h22⟩) (by assumption) ?r22
      case h22 => (intro w hSw; (try dsimp only at hSw); go_simp; try with_reducible rfl)
      try simp only [Act.put, List.setIfInBounds_toArray, List.set_cons_zero, List.set_cons_succ]
      refine wpAnyH_ready (rs := [5]) (by kernel_rfl) (by simp) ?_
      refine AllReadyH.cons (o := { dst := some 40, op := Go.Op.call { callee := Go.Callee.value (Go.Operand.func 21), args := #[Go.Operand.tmp 38, Go.Operand.tmp 39], argTypes := #[38, 3] }, type := 4, pos := "law.go:63", after := #[{ on := 3, ground := Go.Ground.data }, { on := 4, ground := Go.Ground.data }, { on := 2, ground := Go.Ground.chain }, { on := 2, ground := Go.Ground.guard }], guard := some (2, false) }) rfl (fun K hK => ?_) AllReadyH.nil
      go_simp
      with_reducible refine (qr.out _).mono ?_
      rintro e t5 ⟨rfl, b5⟩
      go_simp
      refine hK.out _ _ (hHeld.trans (b5.mono hHeld.size)) (fun hHeld => ?_)
      clear hK K
      try simp only [Act.put, List.setIfInBounds_toArray, List.set_cons_zero, List.set_cons_succ]
      refine wpAnyH_ready (rs := [8]) (by kernel_rfl) (by simp) ?_
      refine AllReadyH.cons (o := { dst := some 43, op := Go.Op.call { callee := Go.Callee.value (Go.Operand.func 22), args := #[Go.Operand.tmp 41, Go.Operand.tmp 42], argTypes := #[38, 3] }, type := 4, pos := "law.go:63", after := #[{ on := 6, ground := Go.Ground.data }, { on := 7, ground := Go.Ground.data }, { on := 5, ground := Go.Ground.chain }, { on := 2, ground := Go.Ground.guard }], guard := some (2, false) }) rfl (fun K hK => ?_) AllReadyH.nil
      go_simp
      with_reducible refine (qrr.out _).mono ?_
      rintro e t8 ⟨rfl, b8⟩
      go_simp
      refine hK.out _ _ (hHeld.trans (b8.mono hHeld.size)) (fun hHeld => ?_)
      clear hK K
      try simp only [Act.put, List.setIfInBounds_toArray, List.set_cons_zero, List.set_cons_succ]
      refine wpAnyH_take (i := 9) (oi := { dst := some 44, op := Go.Op.binOp Go.BinOp.neq 4 (Go.Operand.tmp 40) (Go.Operand.tmp 43) 4, type := 4, pos := "law.go:63", after := #[{ on := 5, ground := Go.Ground.data }, { on := 8, ground := Go.Ground.data }, { on := 2, ground := Go.Ground.guard }], guard := some (2, false) }) (v := ?v23) rfl (by kernel_rfl) (by kernel_rfl) (by kernel_rfl) (fun _ _ _ h => h) (Or.inl ⟨by kernel_rfl, ?h23⟩) (by assumption) ?r23
      case h23 => (intro w hSw; (try dsimp only at hSw); go_simp; try with_reducible rfl)
      try simp only [Act.put, List.setIfInBounds_toArray, List.set_cons_zero, List.set_cons_succ]
      refine wpAnyH_take (i := 10) (oi := { dst := some 45, op := Go.Op.pick (Go.Operand.tmp 37) (Go.Operand.const (Go.Value.bool true)) (Go.Operand.tmp 44), type := 4, pos := "law.go:63", after := #[{ on := 2, ground := Go.Ground.data }, { on := 9, ground := Go.Ground.data }], guard := none }) (v := ?v24) rfl (by kernel_rfl) (by kernel_rfl) (by kernel_rfl) (fun _ _ _ h => h) (Or.inl ⟨by kernel_rfl, ?h24⟩) (by assumption) ?r24
      case h24 => (intro w hSw; (try dsimp only at hSw); go_simp; try with_reducible rfl)
      try simp only [Act.put, List.setIfInBounds_toArray, List.set_cons_zero, List.set_cons_succ]
      refine wpAnyH_done (by kernel_rfl) ?_ _
      obtain ⟨X3, hX3⟩ : ∃ X3, X3 = t8 := ⟨_, rfl⟩
      rw [← hX3] at hHeld ⊢
      replace L := Lib.hid (L.out.below hHeld)
      replace HZ := Lib.hid (HZ.out.below hHeld HZ.out.lt)
      clear hX3 hHeld LF g0 g1 g2 g3 g4
      have qv := Lib.hid (fun W (hW : LSh w a n cp l W) => rvars_any a n cp l hvs.out W hW.vars)
      rw [hv] at qv
      go_wp2_with fail
      with_reducible refine (qv.out _ L.out).mono ?_
      rintro e X4 ⟨rfl, mq, rfl⟩
      replace HZ := Lib.hid (HZ.out.drewN mq)
      replace L := Lib.hid (L.out.below (Below.drewN (Below.refl _ _) mq))
      generalize X3.drewN mq = X4 at *
      have z0 := HZ.out.cell 0
      have z1 := HZ.out.cell 1
      have z2 := HZ.out.cell 2
      have z3 := HZ.out.cell 3
      have z4 := HZ.out.cell 4
      simp at z0 z1 z2 z3 z4
      go_wp2_with fail
      with_reducible refine (qr2.out _).mono ?_
      rintro e X5 ⟨rfl, bX5⟩
      replace L := Lib.hid (L.out.below bX5)
      replace HZ := Lib.hid (HZ.out.below bX5 HZ.out.lt)
      clear bX5
      clear z0 z1 z2 z3 z4
      have z0 := HZ.out.cell 0
      have z1 := HZ.out.cell 1
      have z2 := HZ.out.cell 2
      have z3 := HZ.out.cell 3
      have z4 := HZ.out.cell 4
      simp at z0 z1 z2 z3 z4
      go_wp2_with fail
      with_reducible refine (qp.out _ L.out).mono ?_
      rintro e X6 ⟨rfl, bX6⟩
      replace L := Lib.hid (L.out.below bX6)
      replace HZ := Lib.hid (HZ.out.below bX6 HZ.out.lt)
      clear bX6
      clear z0 z1 z2 z3 z4
      obtain ⟨X7, hX7⟩ : ∃ X7, X7 = X6.alloc (.cells #[.int .i64 k, .int .i64 x, .int .i64 y, .int .i64 c, .int .i64 d] 38) := ⟨_, rfl⟩
      have B7 : Below X6.heap.size X6 X7 := by rw [hX7]; exact box_below _ _ _
      have HU : Hid (Holds X7 X6.heap.size 38 #[.int .i64 k, .int .i64 x, .int .i64 y, .int .i64 c, .int .i64 d]) := Lib.hid (by rw [hX7]; exact Holds.new _ _ _)
      replace L := Lib.hid (L.out.below B7)
      replace HZ := Lib.hid (HZ.out.below B7 HZ.out.lt)
      have hX7' := Lib.hid hX7
      clear B7 hX7
      have z0 := HZ.out.cell 0
      have z1 := HZ.out.cell 1
      have z2 := HZ.out.cell 2
      have z3 := HZ.out.cell 3
      have z4 := HZ.out.cell 4
      simp at z0 z1 z2 z3 z4
      rw [hX7'.out] at z0 z1 z2 z3 z4
      go_wp2_with fail
      rw [← hX7'.out]
      with_reducible refine (qrs.out _ L.out).mono ?_
      rintro e X8 ⟨rfl, bX8⟩
      replace L := Lib.hid (L.out.below bX8)
      replace HZ := Lib.hid (HZ.out.below bX8 HZ.out.lt)
      replace HU := Lib.hid (HU.out.below bX8 HU.out.lt)
      clear bX8 z0 z1 z2 z3 z4
      have z0 := HZ.out.cell 0
      have z1 := HZ.out.cell 1
      have z2 := HZ.out.cell 2
      have z3 := HZ.out.cell 3
      have z4 := HZ.out.cell 4
      simp at z0 z1 z2 z3 z4
      have y0 := HU.out.cell 0
      have y1 := HU.out.cell 1
      have y2 := HU.out.cell 2
      have y3 := HU.out.cell 3
      have y4 := HU.out.cell 4
      simp at y0 y1 y2 y3 y4
      go_wp2
      go_ret
      exact ⟨by simp, L.out.bel⟩
theorem progShows_given (a : Option Addr) (n cp : Nat) (l : List ByteArray) (k x y c d nn : Int) (w : World) (ht : Tab w) (h : TT w a n cp l) (HL : ∀ W, Tab W → Calls Tryz.prog 8 #[] W (Gives (.bool true) W)) :
    Calls Tryz.prog 4 #[.slice a n cp, .agg #[.int .i64 k, .int .i64 x, .int .i64 y, .int .i64 c, .int .i64 d], .int .i64 nn] w (Gives (.bool true) w) := by
  by_cases h20 : 20 < n
  · exact pshows_big a n cp l k x y c d nn w ht h HL h20
  · cases hv : varsB l
    · exact pshows_novars a n cp l k x y c d nn w ht h HL h20 hv
    · cases hr : rightB k x y c d (n : Int)
      · exact pshows_noright a n cp l k x y c d nn w ht h HL h20 hv hr
      · exact pshows_ok a n cp l k x y c d nn w ht h HL h20 hv hr
theorem progShows_walk (w : World) (ht : Tab w) (a : Option Addr) (n cp : Nat) (p : TSl w a n cp) (k : Int) (hk : (Lit.int .i64 k).wf = true) (x : Int) (hx : (Lit.int .i64 x).wf = true) (y : Int) (hy : (Lit.int .i64 y).wf = true) (c : Int) (hc : (Lit.int .i64 c).wf = true) (d : Int) (hd : (Lit.int .i64 d).wf = true) (nn : Int) (hnn : (Lit.int .i64 nn).wf = true) :
    Calls Tryz.prog 4 #[.slice a n cp, .agg #[.int .i64 k, .int .i64 x, .int .i64 y, .int .i64 c, .int .i64 d], .int .i64 nn] w (Gives (.bool true) w) := by
  obtain ⟨l, pt, ps, pm⟩ := p
  exact progShows_given a n cp l k x y c d nn w ht pt lives_any
end Go.Proofs.YtgeliikfgnkppaaGreatDoor
