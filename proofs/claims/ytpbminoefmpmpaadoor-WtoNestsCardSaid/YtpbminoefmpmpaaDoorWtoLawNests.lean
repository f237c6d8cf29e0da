/- WtoNests: its walk. (Written by gen-wto-law-nests.py.) -/
import Derived.Test.YtpbminoefmpmpaaDoorWtoHeads
import Derived.Test.YtpbminoefmpmpaaDoorWtoLives
import Derived.Test.YtpbminoefmpmpaaDoorWtoNestMath
import Derived.Test.YtpbminoefmpmpaaDoorCuts
import Derived.Deep.DeepCutAuto
namespace Go.Proofs.YtpbminoefmpmpaaDoor
open Go.RowKit
set_option linter.unusedVariables false
set_option linter.unusedSimpArgs false

set_option maxRecDepth 100000 in
set_option maxHeartbeats 4000000 in
theorem wnests_large (a1 a2 : Option Addr) (n1 c1 n2 c2 : Nat) (P S : List Int) (p : Int) (w : World) (ht : Tab w) (h : WA w a1 n1 c1 P a2 n2 c2 S) (hlg : (decide (200 < n1) || decide (200 < n2)) = true) : Calls Tryd.prog 5 #[.agg #[.slice a1 n1 c1, .slice a2 n2 c2], .int .i64 p] w (Gives (.bool true) w) := by
  have hlg' := Lib.hid hlg
  clear hlg
  obtain ⟨W1, hW1⟩ : ∃ W1, W1 = w.alloc (.cells #[.slice a1 n1 c1, .slice a2 n2 c2] 24) := ⟨_, rfl⟩
  have Z : Hid (Holds W1 (w.heap.size) 24 #[.slice a1 n1 c1, .slice a2 n2 c2]) := Lib.hid (by rw [hW1]; exact Holds.new w _ _)
  have BL := Lib.hid (show Below w.heap.size w W1 by rw [hW1]; exact box_below _ _ _)
  have A := Lib.hid (h.below BL.out)
  have T := Lib.hid (ht.below BL.out)
  have hW1' := Lib.hid hW1
  clear hW1
  have hm1 := h.p.max
  have hm2 := h.s.max
  clear h ht
  go_enter Tryd.func5, Tryd.ntmps5
  have k1 := Z.out.cell 0
  have k2 := Z.out.cell 1
  have q := Lib.hid (by have q := wlarge_any a1 a2 n1 c1 n2 c2 hm1 hm2 W1; rwa [hlg'.out] at q)
  go_wp2_with fail
  rw [← hW1'.out]
  with_reducible refine q.out.mono ?_
  rintro e u1 ⟨rfl, b1⟩
  clear k1 k2
  clear hW1'
  clear q
  replace Z := Lib.hid (Z.out.below b1 Z.out.lt)
  replace BL := Lib.hid (BL.out.trans (b1.mono BL.out.size))
  replace A := Lib.hid (A.out.below b1)
  replace T := Lib.hid (T.out.below b1)
  clear b1
  have q := Lib.hid (wlives_any u1 T.out)
  go_wp2_with fail
  with_reducible refine q.out.mono ?_
  rintro e u2 ⟨rfl, b2⟩
  clear q
  replace Z := Lib.hid (Z.out.below b2 Z.out.lt)
  replace BL := Lib.hid (BL.out.trans (b2.mono BL.out.size))
  replace A := Lib.hid (A.out.below b2)
  replace T := Lib.hid (T.out.below b2)
  clear b2
  go_wp2
  go_ret
  exact ⟨rfl, BL.out⟩
set_option maxRecDepth 100000 in
set_option maxHeartbeats 4000000 in
theorem wnests_ok (a1 a2 : Option Addr) (n1 c1 n2 c2 : Nat) (P S : List Int) (p : Int) (w : World) (ht : Tab w) (h : WA w a1 n1 c1 P a2 n2 c2 S) (hlg : (decide (200 < n1) || decide (200 < n2)) = false) : Calls Tryd.prog 5 #[.agg #[.slice a1 n1 c1, .slice a2 n2 c2], .int .i64 p] w (Gives (.bool true) w) := by
  have hlg' := Lib.hid hlg
  have hN := Lib.hid (nest_heads P S p)
  clear hlg
  have QHp := Lib.hid (fun W hA => heads_any a1 a2 n1 c1 n2 c2 P S p W hA)
  have QI := Lib.hid (fun hd W hA => in_any a1 a2 n1 c1 n2 c2 P S hd p W hA)
  have QD := Lib.hid (fun W hA => depth_any a1 a2 n1 c1 n2 c2 P S W hA)
  have hdeep := hN.out.deep
  have heach := Lib.hid hN.out.each
  clear hN
  generalize hL : headsW P S p = L at *
  have hL' := Lib.hid hL
  clear hL
  generalize depthW P S = D at *
  obtain ⟨W1, hW1⟩ : ∃ W1, W1 = w.alloc (.cells #[.slice a1 n1 c1, .slice a2 n2 c2] 24) := ⟨_, rfl⟩
  have Z : Hid (Holds W1 (w.heap.size) 24 #[.slice a1 n1 c1, .slice a2 n2 c2]) := Lib.hid (by rw [hW1]; exact Holds.new w _ _)
  have BL := Lib.hid (show Below w.heap.size w W1 by rw [hW1]; exact box_below _ _ _)
  have A := Lib.hid (h.below BL.out)
  have T := Lib.hid (ht.below BL.out)
  have hW1' := Lib.hid hW1
  clear hW1
  have hm1 := h.p.max
  have hm2 := h.s.max
  clear h ht
  go_enter Tryd.func5, Tryd.ntmps5
  have k1 := Z.out.cell 0
  have k2 := Z.out.cell 1
  have q := Lib.hid (by have q := wlarge_any a1 a2 n1 c1 n2 c2 hm1 hm2 W1; rwa [hlg'.out] at q)
  go_wp2_with fail
  rw [← hW1'.out]
  with_reducible refine q.out.mono ?_
  rintro e u1 ⟨rfl, b1⟩
  clear k1 k2
  clear hW1'
  clear q
  have k3 : u1.cell? ⟨w.heap.size, 0, none⟩ = some (.slice a1 n1 c1) := (Z.out.below b1 Z.out.lt).cell 0
  have k4 : u1.cell? ⟨w.heap.size, 1, none⟩ = some (.slice a2 n2 c2) := (Z.out.below b1 Z.out.lt).cell 1
  replace Z := Lib.hid (Z.out.below b1 Z.out.lt)
  replace BL := Lib.hid (BL.out.trans (b1.mono BL.out.size))
  replace A := Lib.hid (A.out.below b1)
  replace T := Lib.hid (T.out.below b1)
  clear b1
  have q := Lib.hid (QHp.out u1 A.out)
  go_wp2_with fail
  with_reducible refine q.out.mono ?_
  rintro e u2 ⟨aL, nL, cL, rfl, sL, b2⟩
  clear k3 k4
  clear q QHp
  replace Z := Lib.hid (Z.out.below b2 Z.out.lt)
  replace BL := Lib.hid (BL.out.trans (b2.mono BL.out.size))
  replace A := Lib.hid (A.out.below b2)
  replace T := Lib.hid (T.out.below b2)
  have SLL := Lib.hid (sL)
  clear b2 sL
  have q := Lib.hid (wlives_any u2 T.out)
  go_wp2_with fail
  with_reducible refine q.out.mono ?_
  rintro e u3 ⟨rfl, b3⟩
  clear q
  have k5 : u3.cell? ⟨w.heap.size, 0, none⟩ = some (.slice a1 n1 c1) := (Z.out.below b3 Z.out.lt).cell 0
  have k6 : u3.cell? ⟨w.heap.size, 1, none⟩ = some (.slice a2 n2 c2) := (Z.out.below b3 Z.out.lt).cell 1
  replace Z := Lib.hid (Z.out.below b3 Z.out.lt)
  replace BL := Lib.hid (BL.out.trans (b3.mono BL.out.size))
  replace A := Lib.hid (A.out.below b3)
  replace T := Lib.hid (T.out.below b3)
  replace SLL := Lib.hid (SLL.out.below b3)
  clear b3
  have hlen := Lib.hid SLL.out.len
  have hnD : (nL : Int) ≤ (D : Int) := by have := hlen.out; omega
  have hnD2 : decide ((D : Int) < (nL : Int)) = false := decide_eq_false (by omega)
  have hnD3 : decide (D < nL) = false := decide_eq_false (by omega)
  have hmx : (nL : Int) ≤ 9223372036854775807 := by have := SLL.out.max; omega
  clear hdeep
  have q := Lib.hid (QD.out u3 A.out)
  go_wp2_with fail
  with_reducible refine q.out.mono ?_
  rintro e u4 ⟨rfl, b4⟩
  clear k5 k6
  clear q QD
  replace Z := Lib.hid (Z.out.below b4 Z.out.lt)
  replace BL := Lib.hid (BL.out.trans (b4.mono BL.out.size))
  replace A := Lib.hid (A.out.below b4)
  replace T := Lib.hid (T.out.below b4)
  replace SLL := Lib.hid (SLL.out.below b4)
  clear b4
  have hcap := SLL.out.cap
  go_wp2
  clear hnD hnD2 hnD3
  go_loopw [6] (fun x wr => ∃ k : Nat, k ≤ nL ∧ x = .int .i64 k ∧ Hid (Below u4.heap.size u4 wr)) (fun x _ => nL - (intOf x).toNat)
  case atStart => exact ⟨0, by omega, rfl, Lib.hid (Below.refl _ _)⟩
  case round =>
    obtain ⟨k, hk, rfl, hB⟩ := hrel
    by_cases hlt : k < nL
    · have hkl : k < L.length := by rw [← hlen.out]; exact hlt
      replace Z := Lib.hid (Z.out.below hB.out Z.out.lt)
      replace A := Lib.hid (A.out.below hB.out)
      replace SLL := Lib.hid (SLL.out.below hB.out)
      obtain ⟨b, o, rfl, blt, e1⟩ := sees_num SLL.out.sees hkl
      have hki : (k : Int) < (nL : Int) := by omega
      have hk0 : (0 : Int) ≤ (k : Int) := by omega
      obtain ⟨hin, hhd⟩ := heach.out k hkl
      generalize L.getD k 0 = x at *
      have hin1 : decide (x ∈ L) = true := by
        rw [hhd] at hin
        exact decide_eq_true (List.mem_of_mem_take hin)
      have qi := Lib.hid (fun W (hW : Below wr.heap.size wr W) => by have q := QI.out x W (A.out.below hW); rw [hin1] at q; exact q)
      have qj := Lib.hid (fun W (hW : Below wr.heap.size wr W) => by have q := in_any a1 a2 n1 c1 n2 c2 P S x x W (A.out.below hW); rw [decide_eq_true hin] at q; exact q)
      have k201 : ∀ W, Below wr.heap.size wr W → W.cell? ⟨w.heap.size, 0, none⟩ = some (.slice a1 n1 c1) := fun W hW => (Z.out.below hW Z.out.lt).cell 0
      have k202 : ∀ W, Below wr.heap.size wr W → W.cell? ⟨w.heap.size, 1, none⟩ = some (.slice a2 n2 c2) := fun W hW => (Z.out.below hW Z.out.lt).cell 1
      have k203 : ∀ W, Below wr.heap.size wr W → W.cell? ⟨b, o + k, none⟩ = some (.int .i64 x) := fun W hW => (hW.cell (p := ⟨b, o + k, none⟩) blt).trans e1
      have hx' := Lib.hid hin
      have hhd' := Lib.hid hhd
      clear hin hin1 hhd e1
      go_upto_region 9 with fail
      go_cut [49] (fun t W => Below wr.heap.size wr W ∧ t = .bool false)
      case first =>
        refine wp_drawn_on (fun W => Below wr.heap.size wr W) (by kernel_rfl) ((Below.refl _ _).drew) (fun hHeld => ?_)
        refine wpAnyH_take (i := 0) (oi := { dst := some 29, op := Go.Op.load 24 (Go.Operand.tmp 2), type := 24, pos := "law.go:80", after := #[], guard := none }) (v := ?v1) rfl (by kernel_rfl) (by kernel_rfl) (by kernel_rfl) (fun _ _ _ h => h) (Or.inl ⟨by kernel_rfl, ?h1⟩) (by assumption) ?r1
        case h1 => (intro w hSw; (try dsimp only at hSw); go_simp; try with_reducible rfl)
        try simp only [Act.put, List.setIfInBounds_toArray, List.set_cons_zero, List.set_cons_succ]
        refine wpAnyH_take (i := 1) (oi := { dst := some 30, op := Go.Op.move (Go.Operand.tmp 5), type := 22, pos := "law.go:80", after := #[], guard := none }) (v := ?v2) rfl (by kernel_rfl) (by kernel_rfl) (by kernel_rfl) (fun _ _ _ h => h) (Or.inl ⟨by kernel_rfl, ?h2⟩) (by assumption) ?r2
        case h2 => (intro w hSw; (try dsimp only at hSw); go_simp; try with_reducible rfl)
        try simp only [Act.put, List.setIfInBounds_toArray, List.set_cons_zero, List.set_cons_succ]
        refine wpAnyH_take (i := 2) (oi := { dst := some 31, op := Go.Op.move (Go.Operand.tmp 6), type := 3, pos := "law.go:80", after := #[], guard := none }) (v := ?v3) rfl (by kernel_rfl) (by kernel_rfl) (by kernel_rfl) (fun _ _ _ h => h) (Or.inl ⟨by kernel_rfl, ?h3⟩) (by assumption) ?r3
        case h3 => (intro w hSw; (try dsimp only at hSw); go_simp; try with_reducible rfl)
        try simp only [Act.put, List.setIfInBounds_toArray, List.set_cons_zero, List.set_cons_succ]
        refine wpAnyH_take (i := 3) (oi := { dst := some 32, op := Go.Op.indexAddr 22 (Go.Operand.tmp 30) (Go.Operand.tmp 31), type := 0, pos := "law.go:80", after := #[{ on := 1, ground := Go.Ground.data }, { on := 2, ground := Go.Ground.data }], guard := none }) (v := ?v4) rfl (by kernel_rfl) (by kernel_rfl) (by kernel_rfl) (fun _ _ _ h => h) (Or.inl ⟨by kernel_rfl, ?h4⟩) (by assumption) ?r4
        case h4 => (intro w hSw; (try dsimp only at hSw); go_simp; try with_reducible rfl)
        try simp only [Act.put, List.setIfInBounds_toArray, List.set_cons_zero, List.set_cons_succ]
        refine wpAnyH_take (i := 4) (oi := { dst := some 33, op := Go.Op.load 3 (Go.Operand.tmp 32), type := 3, pos := "law.go:80", after := #[{ on := 3, ground := Go.Ground.data }], guard := none }) (v := ?v5) rfl (by kernel_rfl) (by kernel_rfl) (by kernel_rfl) (fun _ _ _ h => h) (Or.inl ⟨by kernel_rfl, ?h5⟩) (by assumption) ?r5
        case h5 => (intro w hSw; (try dsimp only at hSw); go_simp; try with_reducible rfl)
        try simp only [Act.put, List.setIfInBounds_toArray, List.set_cons_zero, List.set_cons_succ]
        refine wpAnyH_take (i := 5) (oi := { dst := some 34, op := Go.Op.move (Go.Operand.tmp 1), type := 3, pos := "law.go:80", after := #[], guard := none }) (v := ?v6) rfl (by kernel_rfl) (by kernel_rfl) (by kernel_rfl) (fun _ _ _ h => h) (Or.inl ⟨by kernel_rfl, ?h6⟩) (by assumption) ?r6
        case h6 => (intro w hSw; (try dsimp only at hSw); go_simp; try with_reducible rfl)
        try simp only [Act.put, List.setIfInBounds_toArray, List.set_cons_zero, List.set_cons_succ]
        refine wpAnyH_ready (rs := [6]) (by kernel_rfl) (by simp) ?_
        refine AllReadyH.cons (o := { dst := some 35, op := Go.Op.call { callee := Go.Callee.value (Go.Operand.func 17), args := #[Go.Operand.tmp 29, Go.Operand.tmp 33, Go.Operand.tmp 34], argTypes := #[24, 3, 3] }, type := 4, pos := "law.go:80", after := #[{ on := 0, ground := Go.Ground.data }, { on := 4, ground := Go.Ground.data }, { on := 5, ground := Go.Ground.data }], guard := none }) rfl (fun K hK => ?_) AllReadyH.nil
        go_simp
        with_reducible refine (qi.out _ hHeld).mono ?_
        rintro e t6 ⟨rfl, b6⟩
        go_simp
        refine hK.out _ _ (hHeld.trans (b6.mono hHeld.size)) (fun hHeld => ?_)
        clear hK K
        try simp only [Act.put, List.setIfInBounds_toArray, List.set_cons_zero, List.set_cons_succ]
        refine wpAnyH_take (i := 7) (oi := { dst := some 36, op := Go.Op.unOp Go.UnOp.not 4 (Go.Operand.tmp 35), type := 4, pos := "law.go:80", after := #[{ on := 6, ground := Go.Ground.data }], guard := none }) (v := ?v7) rfl (by kernel_rfl) (by kernel_rfl) (by kernel_rfl) (fun _ _ _ h => h) (Or.inl ⟨by kernel_rfl, ?h7⟩) (by assumption) ?r7
        case h7 => (intro w hSw; (try dsimp only at hSw); go_simp; try with_reducible rfl)
        try simp only [Act.put, List.setIfInBounds_toArray, List.set_cons_zero, List.set_cons_succ]
        refine wpAnyH_take (i := 8) (oi := { dst := some 37, op := Go.Op.move (Go.Operand.tmp 36), type := 4, pos := "law.go:80", after := #[{ on := 7, ground := Go.Ground.data }, { on := 6, ground := Go.Ground.chain }], guard := none }) (v := ?v8) rfl (by kernel_rfl) (by kernel_rfl) (by kernel_rfl) (fun _ _ _ h => h) (Or.inl ⟨by kernel_rfl, ?h8⟩) (by assumption) ?r8
        case h8 => (intro w hSw; (try dsimp only at hSw); go_simp; try with_reducible rfl)
        try simp only [Act.put, List.setIfInBounds_toArray, List.set_cons_zero, List.set_cons_succ]
        refine wpAnyH_take (i := 9) (oi := { dst := some 38, op := Go.Op.load 24 (Go.Operand.tmp 2), type := 24, pos := "law.go:80", after := #[{ on := 8, ground := Go.Ground.guard }], guard := some (8, false) }) (v := ?v9) rfl (by kernel_rfl) (by kernel_rfl) (by kernel_rfl) (fun _ _ _ h => h) (Or.inl ⟨by kernel_rfl, ?h9⟩) (by assumption) ?r9
        case h9 => (intro w hSw; (try dsimp only at hSw); go_simp; try with_reducible rfl)
        try simp only [Act.put, List.setIfInBounds_toArray, List.set_cons_zero, List.set_cons_succ]
        refine wpAnyH_take (i := 10) (oi := { dst := some 39, op := Go.Op.move (Go.Operand.tmp 5), type := 22, pos := "law.go:80", after := #[{ on := 8, ground := Go.Ground.guard }], guard := some (8, false) }) (v := ?v10) rfl (by kernel_rfl) (by kernel_rfl) (by kernel_rfl) (fun _ _ _ h => h) (Or.inl ⟨by kernel_rfl, ?h10⟩) (by assumption) ?r10
        case h10 => (intro w hSw; (try dsimp only at hSw); go_simp; try with_reducible rfl)
        try simp only [Act.put, List.setIfInBounds_toArray, List.set_cons_zero, List.set_cons_succ]
        refine wpAnyH_take (i := 11) (oi := { dst := some 40, op := Go.Op.move (Go.Operand.tmp 6), type := 3, pos := "law.go:80", after := #[{ on := 8, ground := Go.Ground.guard }], guard := some (8, false) }) (v := ?v11) rfl (by kernel_rfl) (by kernel_rfl) (by kernel_rfl) (fun _ _ _ h => h) (Or.inl ⟨by kernel_rfl, ?h11⟩) (by assumption) ?r11
        case h11 => (intro w hSw; (try dsimp only at hSw); go_simp; try with_reducible rfl)
        try simp only [Act.put, List.setIfInBounds_toArray, List.set_cons_zero, List.set_cons_succ]
        refine wpAnyH_take (i := 12) (oi := { dst := some 41, op := Go.Op.indexAddr 22 (Go.Operand.tmp 39) (Go.Operand.tmp 40), type := 0, pos := "law.go:80", after := #[{ on := 10, ground := Go.Ground.data }, { on := 11, ground := Go.Ground.data }, { on := 8, ground := Go.Ground.guard }], guard := some (8, false) }) (v := ?v12) rfl (by kernel_rfl) (by kernel_rfl) (by kernel_rfl) (fun _ _ _ h => h) (Or.inl ⟨by kernel_rfl, ?h12⟩) (by assumption) ?r12
        case h12 => (intro w hSw; (try dsimp only at hSw); go_simp; try with_reducible rfl)
        try simp only [Act.put, List.setIfInBounds_toArray, List.set_cons_zero, List.set_cons_succ]
        refine wpAnyH_take (i := 13) (oi := { dst := some 42, op := Go.Op.load 3 (Go.Operand.tmp 41), type := 3, pos := "law.go:80", after := #[{ on := 12, ground := Go.Ground.data }, { on := 8, ground := Go.Ground.guard }], guard := some (8, false) }) (v := ?v13) rfl (by kernel_rfl) (by kernel_rfl) (by kernel_rfl) (fun _ _ _ h => h) (Or.inl ⟨by kernel_rfl, ?h13⟩) (by assumption) ?r13
        case h13 => (intro w hSw; (try dsimp only at hSw); go_simp; try with_reducible rfl)
        try simp only [Act.put, List.setIfInBounds_toArray, List.set_cons_zero, List.set_cons_succ]
        refine wpAnyH_take (i := 14) (oi := { dst := some 43, op := Go.Op.move (Go.Operand.tmp 5), type := 22, pos := "law.go:80", after := #[{ on := 8, ground := Go.Ground.guard }], guard := some (8, false) }) (v := ?v14) rfl (by kernel_rfl) (by kernel_rfl) (by kernel_rfl) (fun _ _ _ h => h) (Or.inl ⟨by kernel_rfl, ?h14⟩) (by assumption) ?r14
        case h14 => (intro w hSw; (try dsimp only at hSw); go_simp; try with_reducible rfl)
        try simp only [Act.put, List.setIfInBounds_toArray, List.set_cons_zero, List.set_cons_succ]
        refine wpAnyH_take (i := 15) (oi := { dst := some 44, op := Go.Op.move (Go.Operand.tmp 6), type := 3, pos := "law.go:80", after := #[{ on := 8, ground := Go.Ground.guard }], guard := some (8, false) }) (v := ?v15) rfl (by kernel_rfl) (by kernel_rfl) (by kernel_rfl) (fun _ _ _ h => h) (Or.inl ⟨by kernel_rfl, ?h15⟩) (by assumption) ?r15
        case h15 => (intro w hSw; (try dsimp only at hSw); go_simp; try with_reducible rfl)
        try simp only [Act.put, List.setIfInBounds_toArray, List.set_cons_zero, List.set_cons_succ]
        refine wpAnyH_take (i := 16) (oi := { dst := some 45, op := Go.Op.indexAddr 22 (Go.Operand.tmp 43) (Go.Operand.tmp 44), type := 0, pos := "law.go:80", after := #[{ on := 14, ground := Go.Ground.data }, { on := 15, ground := Go.Ground.data }, { on := 8, ground := Go.Ground.guard }], guard := some (8, false) }) (v := ?v16) rfl (by kernel_rfl) (by kernel_rfl) (by kernel_rfl) (fun _ _ _ h => h) (Or.inl ⟨by kernel_rfl, ?h16⟩) (by assumption) ?r16
        case h16 => (intro w hSw; (try dsimp only at hSw); go_simp; try with_reducible rfl)
        try simp only [Act.put, List.setIfInBounds_toArray, List.set_cons_zero, List.set_cons_succ]
        refine wpAnyH_take (i := 17) (oi := { dst := some 46, op := Go.Op.load 3 (Go.Operand.tmp 45), type := 3, pos := "law.go:80", after := #[{ on := 16, ground := Go.Ground.data }, { on := 8, ground := Go.Ground.guard }], guard := some (8, false) }) (v := ?v17) rfl (by kernel_rfl) (by kernel_rfl) (by kernel_rfl) (fun _ _ _ h => h) (Or.inl ⟨by kernel_rfl, ?h17⟩) (by assumption) ?r17
        case h17 => (intro w hSw; (try dsimp only at hSw); go_simp; try with_reducible rfl)
        try simp only [Act.put, List.setIfInBounds_toArray, List.set_cons_zero, List.set_cons_succ]
        refine wpAnyH_ready (rs := [18]) (by kernel_rfl) (by simp) ?_
        refine AllReadyH.cons (o := { dst := some 47, op := Go.Op.call { callee := Go.Callee.value (Go.Operand.func 17), args := #[Go.Operand.tmp 38, Go.Operand.tmp 42, Go.Operand.tmp 46], argTypes := #[24, 3, 3] }, type := 4, pos := "law.go:80", after := #[{ on := 9, ground := Go.Ground.data }, { on := 13, ground := Go.Ground.data }, { on := 17, ground := Go.Ground.data }, { on := 8, ground := Go.Ground.chain }, { on := 8, ground := Go.Ground.guard }], guard := some (8, false) }) rfl (fun K hK => ?_) AllReadyH.nil
        go_simp
        with_reducible refine (qj.out _ hHeld).mono ?_
        rintro e t18 ⟨rfl, b18⟩
        go_simp
        refine hK.out _ _ (hHeld.trans (b18.mono hHeld.size)) (fun hHeld => ?_)
        clear hK K
        try simp only [Act.put, List.setIfInBounds_toArray, List.set_cons_zero, List.set_cons_succ]
        refine wpAnyH_take (i := 19) (oi := { dst := some 48, op := Go.Op.unOp Go.UnOp.not 4 (Go.Operand.tmp 47), type := 4, pos := "law.go:80", after := #[{ on := 18, ground := Go.Ground.data }, { on := 8, ground := Go.Ground.guard }], guard := some (8, false) }) (v := ?v18) rfl (by kernel_rfl) (by kernel_rfl) (by kernel_rfl) (fun _ _ _ h => h) (Or.inl ⟨by kernel_rfl, ?h18⟩) (by assumption) ?r18
        case h18 => (intro w hSw; (try dsimp only at hSw); go_simp; try with_reducible rfl)
        try simp only [Act.put, List.setIfInBounds_toArray, List.set_cons_zero, List.set_cons_succ]
        refine wpAnyH_take (i := 20) (oi := { dst := some 49, op := Go.Op.pick (Go.Operand.tmp 37) (Go.Operand.const (Go.Value.bool true)) (Go.Operand.tmp 48), type := 4, pos := "law.go:80", after := #[{ on := 8, ground := Go.Ground.data }, { on := 19, ground := Go.Ground.data }], guard := none }) (v := ?v19) rfl (by kernel_rfl) (by kernel_rfl) (by kernel_rfl) (fun _ _ _ h => h) (Or.inl ⟨by kernel_rfl, ?h19⟩) (by assumption) ?r19
        case h19 => (intro w hSw; (try dsimp only at hSw); go_simp; try with_reducible rfl)
        try simp only [Act.put, List.setIfInBounds_toArray, List.set_cons_zero, List.set_cons_succ]
        refine wpAnyH_done (by kernel_rfl) ?_ _
        go_wp2_with fail
        go_meet
        exact ⟨hHeld, rfl⟩
      case rest =>
        obtain ⟨hx, rfl⟩ := hcut
        replace Z := Lib.hid (Z.out.below hx Z.out.lt)
        replace A := Lib.hid (A.out.below hx)
        replace SLL := Lib.hid (SLL.out.below hx)
        replace hB := Lib.hid (hB.out.trans (hx.mono hB.out.size))
        have e1 := (hx.cell (p := ⟨b, o + k, none⟩) blt).trans (k203 wr (Below.refl _ _))
        have blt2 : b < wc.heap.size := Nat.lt_of_lt_of_le blt hx.size
        clear k201 k202 k203 qi qj hx blt hx'
        have qh := Lib.hid (fun W (hW : Below wc.heap.size wc W) => by have q := heads_any a1 a2 n1 c1 n2 c2 P S x W (A.out.below hW); rw [hhd'.out] at q; exact q)
        have k201 : ∀ W, Below wc.heap.size wc W → W.cell? ⟨w.heap.size, 0, none⟩ = some (.slice a1 n1 c1) := fun W hW => (Z.out.below hW Z.out.lt).cell 0
        have k202 : ∀ W, Below wc.heap.size wc W → W.cell? ⟨w.heap.size, 1, none⟩ = some (.slice a2 n2 c2) := fun W hW => (Z.out.below hW Z.out.lt).cell 1
        have k203 : ∀ W, Below wc.heap.size wc W → W.cell? ⟨b, o + k, none⟩ = some (.int .i64 x) := fun W hW => (hW.cell (p := ⟨b, o + k, none⟩) blt2).trans e1
        clear e1
        go_upto_region 11 with fail
        go_cut [7] (fun t W => Below wc.heap.size wc W ∧ ∃ a n c, t = .slice a n c ∧ SL W a n c (L.take (k + 1)))
        case first =>
          refine wp_drawn_on (fun W => Below wc.heap.size wc W) (by kernel_rfl) ((Below.refl _ _).drew) (fun hHeld => ?_)
          refine wpAnyH_take (i := 0) (oi := { dst := some 50, op := Go.Op.load 24 (Go.Operand.tmp 2), type := 24, pos := "law.go:83", after := #[], guard := none }) (v := ?v20) rfl (by kernel_rfl) (by kernel_rfl) (by kernel_rfl) (fun _ _ _ h => h) (Or.inl ⟨by kernel_rfl, ?h20⟩) (by assumption) ?r20
          case h20 => (intro w hSw; (try dsimp only at hSw); go_simp; try with_reducible rfl)
          try simp only [Act.put, List.setIfInBounds_toArray, List.set_cons_zero, List.set_cons_succ]
          refine wpAnyH_take (i := 1) (oi := { dst := some 51, op := Go.Op.move (Go.Operand.tmp 5), type := 22, pos := "law.go:83", after := #[], guard := none }) (v := ?v21) rfl (by kernel_rfl) (by kernel_rfl) (by kernel_rfl) (fun _ _ _ h => h) (Or.inl ⟨by kernel_rfl, ?h21⟩) (by assumption) ?r21
          case h21 => (intro w hSw; (try dsimp only at hSw); go_simp; try with_reducible rfl)
          try simp only [Act.put, List.setIfInBounds_toArray, List.set_cons_zero, List.set_cons_succ]
          refine wpAnyH_take (i := 2) (oi := { dst := some 52, op := Go.Op.move (Go.Operand.tmp 6), type := 3, pos := "law.go:83", after := #[], guard := none }) (v := ?v22) rfl (by kernel_rfl) (by kernel_rfl) (by kernel_rfl) (fun _ _ _ h => h) (Or.inl ⟨by kernel_rfl, ?h22⟩) (by assumption) ?r22
          case h22 => (intro w hSw; (try dsimp only at hSw); go_simp; try with_reducible rfl)
          try simp only [Act.put, List.setIfInBounds_toArray, List.set_cons_zero, List.set_cons_succ]
          refine wpAnyH_take (i := 3) (oi := { dst := some 53, op := Go.Op.indexAddr 22 (Go.Operand.tmp 51) (Go.Operand.tmp 52), type := 0, pos := "law.go:83", after := #[{ on := 1, ground := Go.Ground.data }, { on := 2, ground := Go.Ground.data }], guard := none }) (v := ?v23) rfl (by kernel_rfl) (by kernel_rfl) (by kernel_rfl) (fun _ _ _ h => h) (Or.inl ⟨by kernel_rfl, ?h23⟩) (by assumption) ?r23
          case h23 => (intro w hSw; (try dsimp only at hSw); go_simp; try with_reducible rfl)
          try simp only [Act.put, List.setIfInBounds_toArray, List.set_cons_zero, List.set_cons_succ]
          refine wpAnyH_take (i := 4) (oi := { dst := some 54, op := Go.Op.load 3 (Go.Operand.tmp 53), type := 3, pos := "law.go:83", after := #[{ on := 3, ground := Go.Ground.data }], guard := none }) (v := ?v24) rfl (by kernel_rfl) (by kernel_rfl) (by kernel_rfl) (fun _ _ _ h => h) (Or.inl ⟨by kernel_rfl, ?h24⟩) (by assumption) ?r24
          case h24 => (intro w hSw; (try dsimp only at hSw); go_simp; try with_reducible rfl)
          try simp only [Act.put, List.setIfInBounds_toArray, List.set_cons_zero, List.set_cons_succ]
          refine wpAnyH_ready (rs := [5]) (by kernel_rfl) (by simp) ?_
          refine AllReadyH.cons (o := { dst := some 55, op := Go.Op.call { callee := Go.Callee.value (Go.Operand.func 14), args := #[Go.Operand.tmp 50, Go.Operand.tmp 54], argTypes := #[24, 3] }, type := 22, pos := "law.go:83", after := #[{ on := 0, ground := Go.Ground.data }, { on := 4, ground := Go.Ground.data }], guard := none }) rfl (fun K hK => ?_) AllReadyH.nil
          go_simp
          with_reducible refine (qh.out _ hHeld).mono ?_
          rintro e t5 ⟨aM, nM, cM, rfl, sM, b5⟩
          go_simp
          refine hK.out _ _ (hHeld.trans (b5.mono hHeld.size)) (fun hHeld => ?_)
          clear hK K
          try simp only [Act.put, List.setIfInBounds_toArray, List.set_cons_zero, List.set_cons_succ]
          refine wpAnyH_take (i := 6) (oi := { dst := some 7, op := Go.Op.assign (Go.Operand.tmp 55), type := 22, pos := "law.go:83", after := #[{ on := 5, ground := Go.Ground.data }, { on := 5, ground := Go.Ground.chain }, { on := 0, ground := Go.Ground.phase }, { on := 1, ground := Go.Ground.phase }, { on := 2, ground := Go.Ground.phase }, { on := 3, ground := Go.Ground.phase }, { on := 4, ground := Go.Ground.phase }, { on := 5, ground := Go.Ground.phase }], guard := none }) (v := ?v25) rfl (by kernel_rfl) (by kernel_rfl) (by kernel_rfl) (fun _ _ _ h => h) (Or.inl ⟨by kernel_rfl, ?h25⟩) (by assumption) ?r25
          case h25 => (intro w hSw; (try dsimp only at hSw); go_simp; try with_reducible rfl)
          try simp only [Act.put, List.setIfInBounds_toArray, List.set_cons_zero, List.set_cons_succ]
          refine wpAnyH_done (by kernel_rfl) ?_ _
          go_wp2_with fail
          go_meet
          exact ⟨hHeld, _, _, _, rfl, sM⟩
        case rest =>
          obtain ⟨hx, aM, nM, cM, rfl, sM⟩ := hcut
          clear k201 k202 k203 qh
          replace Z := Lib.hid (Z.out.below hx Z.out.lt)
          replace A := Lib.hid (A.out.below hx)
          replace SLL := Lib.hid (SLL.out.below hx)
          replace hB := Lib.hid (hB.out.trans (hx.mono hB.out.size))
          clear hx
          obtain ⟨aC, hs1, hs2⟩ := SLL.out.sees.cut 0 (k + 1) cL (by omega) (by omega) (by have := SLL.out.len; omega)
          have sC := Lib.hid (show SL wc aC (k + 1) cL (L.take (k + 1)) from ⟨by rw [List.length_take]; omega, by omega, by omega, by simpa using hs2⟩)
          have g2 : ∀ W, (Instr.slice 22 (.slice (some ⟨b, o, none⟩) nL cL) none (some (.int .i64 ((k : Int) + 1))) none).run Tryd.prog W = .ok (.slice aC (k + 1) cL) W := fun W => by
            rw [show (k : Int) + 1 = ((k + 1 : Nat) : Int) by omega]
            exact cut_h Tryd.underlying22 (fun _ => rfl) (some ⟨b, o, none⟩) nL cL (k + 1) (by have := hs1; rwa [Nat.sub_zero, Nat.sub_zero] at this) (by omega) W
          have q := Lib.hid (by have q := wints_any aM aC (L.take (k + 1)) (L.take (k + 1)) nM (k + 1) cM cL wc sM sC.out; rw [show decide (L.take (k + 1) = L.take (k + 1)) = true by simp] at q; exact q)
          clear hs1 hs2 sM sC
          go_wp2_with fail
          with_reducible refine q.out.mono ?_
          rintro e w9 ⟨rfl, b9⟩
          replace hB := Lib.hid (hB.out.trans (b9.mono hB.out.size))
          clear q g2
          go_wp2
          go_roundw
          case rel => exact ⟨k + 1, by omega, by go_num, hB⟩
          case measure => simp [intOf]; omega
    · have hend := BL.out.trans (hB.out.mono BL.out.size)
      go_wp2
      go_ret
      exact ⟨rfl, hend⟩
theorem wtoNests_walk (w : World) (ht : Tab w) (a1 : Option Addr) (n1 c1 : Nat) (P : List Int) (hl1 : P.length = n1) (hm1 : n1 ≤ maxLen) (hc1 : n1 ≤ c1) (hw1 : ∀ n ∈ P, (Lit.int .i64 n).wf = true) (hs1 : Sees .i64 w.heap.size w a1 P) (a2 : Option Addr) (n2 c2 : Nat) (S : List Int) (hl2 : S.length = n2) (hm2 : n2 ≤ maxLen) (hc2 : n2 ≤ c2) (hw2 : ∀ n ∈ S, (Lit.int .i64 n).wf = true) (hs2 : Sees .i64 w.heap.size w a2 S) (p : Int) (hp : (Lit.int .i64 p).wf = true) : Calls Tryd.prog 5 #[.agg #[.slice a1 n1 c1, .slice a2 n2 c2], .int .i64 p] w (Gives (.bool true) w) := by
  have h : WA w a1 n1 c1 P a2 n2 c2 S := ⟨⟨hl1.symm, hc1, hm1, hs1⟩, ⟨hl2.symm, hc2, hm2, hs2⟩⟩
  cases hlg : (decide (200 < n1) || decide (200 < n2))
  · exact wnests_ok a1 a2 n1 c1 n2 c2 P S p w ht h hlg
  · exact wnests_large a1 a2 n1 c1 n2 c2 P S p w ht h hlg
end Go.Proofs.YtpbminoefmpmpaaDoor
