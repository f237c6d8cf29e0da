import Derived.Test.YtplgmmjppmpnoaaGreatDoorQ10
import Derived.Test.YtplgmmjppmpnoaaGreatDoorQ12
/- Values of variables, by the document. (Written by gen-postdoes.py.) -/
namespace Go.Proofs.YtplgmmjppmpnoaaGreatDoor
open Go.RowKit
set_option linter.unusedVariables false
set_option linter.unusedSimpArgs false

theorem rvalue_any (a : Option Addr) (v : List Int) (n c : Nat) (hn : n = v.length) (hl : n ≤ 1000) (i : Nat) (hi : i ≤ n) (B : Nat) (w : World) (h : Sees .i64 B w a v) : Calls Tryz.prog 15 #[.slice a n c, .int .i64 i] w (Tells (.int .i64 (valF v i)) w) := by
  unfold valF
  by_cases h0 : i = 0
  · subst h0
    rw [if_pos rfl]
    go_enter Tryz.func15, Tryz.ntmps15
    go_wp2
    go_ret
    exact ⟨rfl, rfl⟩
  · rw [if_neg h0]
    obtain ⟨k, rfl⟩ : ∃ k, i = k + 1 := ⟨i - 1, by omega⟩
    rw [Nat.add_sub_cancel]
    obtain ⟨b, off, rfl, -, hc⟩ := sees_at' h (i := k) (by omega)
    have hkn : k < n := by omega
    have hki : (k : Int) ≤ 1000 := by omega
    clear h hn
    generalize v.getD k 0 = x at *
    go_enter Tryz.func15, Tryz.ntmps15
    go_wp2
    go_ret
    exact ⟨rfl, rfl⟩
theorem rvalG_any (a : Option Addr) (v : List Int) (n c : Nat) (hl : n ≤ 1000) (i : Nat) (hi : i ≤ n) (w : World) (h : SL w a n c v) : Calls Tryz.prog 15 #[.slice a n c, .int .i64 i] w (Gives (.int .i64 (valF v i)) w) :=
  (rvalue_any a v n c h.len hl i hi _ w h.sees).mono (fun e w' h => by obtain ⟨h1, h2⟩ := h; subst h2; exact ⟨h1, Below.refl _ _⟩)
theorem rwith_any (a : Option Addr) (v : List Int) (n c : Nat) (h0 : n ≤ 1000) (i : Nat) (hi0 : 1 ≤ i) (hi : i ≤ n) (x : Int) (w : World) (h : SL w a n c v) : Calls Tryz.prog 13 #[.slice a n c, .int .i64 i, .int .i64 x] w (SlG n (withL v i x) w) := by
  obtain ⟨i0, hii, hz0, hz1, hz2⟩ := info_parts infoInt
  obtain ⟨k, rfl⟩ : ∃ k, i = k + 1 := ⟨i - 1, by omega⟩
  have hk : Hid (withL v (k + 1) x = v.set k x) := Lib.hid (by unfold withL; rw [Nat.add_sub_cancel])
  have hkn : (k : Int) < (n : Int) := by omega
  have hki : (k : Int) ≤ 1000 := by omega
  have hlm := Lib.hid (show v.length = n from h.len.symm)
  have hS := Lib.hid h
  have hnb : n ≤ 1000 := h0
  have hbe : Hid (Below w.heap.size w (w.alloc (.cells #[] 3))) := Lib.hid (box_below _ _ _)
  have hn0 : Hid (n ≠ 0) := Lib.hid (by omega)
  have hkl : Hid (k < v.length) := Lib.hid (by rw [← h.len]; omega)
  clear h hi0 hi h0
  generalize withL v (k + 1) x = L at *
  go_enter Tryz.func13, Tryz.ntmps13
  go_wp2_with (at_builtin; refine wpList_append_sees _ rfl (.tmp 8) (.tmp 9) 22 rfl w 3 i0 (.int .i64 0) 8 Tryz.underlying22 hii hz0 hz1 hz2 rfl .i64 _ [] (by exact own_empty 3 .i64 (Below.refl _ w)) (by exact hbe.out) w.heap.size a v (by exact hS.out.sees.below hbe.out) n c hS.out.len rfl rfl (by have := hlm.out; simp; omega) (by omega) ?_; intro v2 w2 hown2 hw2; simp only [List.nil_append] at hown2; rw [hlm.out] at hown2; obtain ⟨g, cap, rfl, hg⟩ := own_some hown2 hn0.out; have m0 := own_at hown2 (i := k) hkl.out; have mf := hown2.frozenAt k; have O2 := Lib.hid hown2; have b2 := Lib.hid hw2; have hg' := Lib.hid hg; clear hown2 hw2 hg)
  go_ret
  have O3 := own_put O2.out k x
  rw [← hk.out] at O3
  obtain ⟨a3, c3, e3, h3, s3⟩ := sees_own O3
  injection e3 with e4 e5 e6
  refine ⟨some ⟨g, 0, none⟩, cap, rfl, ⟨e5, own_cap O3, by omega, ?_⟩, b2.out.setCell (p := ⟨g, k, none⟩) hg'.out _⟩
  rw [e4]; exact s3
end Go.Proofs.YtplgmmjppmpnoaaGreatDoor
/- What the document says that a statement does with values. (Written by gen-postdoes.py.) -/
namespace Go.Proofs.YtplgmmjppmpnoaaGreatDoor
open Go.RowKit
set_option linter.unusedVariables false
set_option linter.unusedSimpArgs false

/-- Values and a number handed back. -/
def DoS (E : Int) (m : Nat) (l : List Int) (w : World) (e : Ending) (w' : World) : Prop := ∃ a c, e = .returned (.tuple #[.slice a m c, .int .i64 E]) ∧ SL w' a m c l ∧ Below w.heap.size w w'
set_option maxRecDepth 100000 in
set_option maxHeartbeats 1000000 in
theorem does_skip (n : Nat) (hn : n ≤ 8) (v : List Int)  (ch : Int)  (a : Option Addr) (ca : Nat) (w : World) (h : SL w a n ca v) : Calls Tryz.prog 12 #[.agg #[.int .i64 1, .int .i64 0, .int .i64 0, .int .i64 0, .int .i64 0], .slice a n ca, .int .i64 ch] w (DoS 0 n v w) := by
  obtain ⟨W1, hW1⟩ : ∃ W1, W1 = w.alloc (.cells #[.int .i64 1, .int .i64 0, .int .i64 0, .int .i64 0, .int .i64 0] 26) := ⟨_, rfl⟩
  have X1 : Holds W1 w.heap.size 26 #[.int .i64 1, .int .i64 0, .int .i64 0, .int .i64 0, .int .i64 0] := by rw [hW1]; exact Holds.new w _ _
  have BL := Lib.hid (show Below w.heap.size w W1 by rw [hW1]; exact box_below _ _ _)
  have S1 := Lib.hid (h.below BL.out)
  have hW1' := Lib.hid hW1
  have ZS := Lib.hid X1
  have hlen := Lib.hid h.len
  have k0 := X1.cell 0
  have k1 := X1.cell 1
  have k2 := X1.cell 2
  have k3 := X1.cell 3
  have k4 := X1.cell 4
  clear hW1 X1
  obtain ⟨i0, hii, hz0, hz1, hz2⟩ := info_parts infoInt
  have hbe : Hid (Below W1.heap.size W1 (W1.alloc (.cells #[] 3))) := Lib.hid (box_below _ _ _)
  have hlm := Lib.hid (show v.length = n from h.len.symm)
  clear h
  go_enter Tryz.func12, Tryz.ntmps12
  go_upto_region 17 with fail
  rw [← hW1'.out]
  clear hW1' k0 k1 k2 k3 k4
  go_wp2_with (at_builtin; refine wpList_append_sees _ rfl (.tmp 73) (.tmp 74) 22 rfl W1 3 i0 (.int .i64 0) 8 Tryz.underlying22 hii hz0 hz1 hz2 rfl .i64 _ [] (by exact own_empty 3 .i64 (Below.refl _ W1)) (by exact hbe.out) W1.heap.size a v (by exact S1.out.sees.below hbe.out) n ca hlen.out rfl rfl (by have := hlm.out; simp; omega) (by omega) ?_; intro v2 w2 hown2 hw2; simp only [List.nil_append] at hown2; have O2 := Lib.hid hown2; have b2 := Lib.hid hw2; clear hown2 hw2; obtain ⟨a3, c3, e3, h3, s3⟩ := sees_own O2.out; have h3' := Lib.hid h3; have s3' := Lib.hid s3; clear h3 s3; subst e3)
  go_ret2
  have hcap := own_cap O2.out
  rw [hlm.out] at hcap
  exact ⟨a3, c3, congrArg (fun z => Ending.returned (.tuple #[.slice a3 z c3, .int .i64 0])) hlm.out, ⟨hlm.out.symm, hcap, by omega, s3'.out⟩, BL.out.trans (b2.out.mono BL.out.size)⟩
set_option maxRecDepth 100000 in
set_option maxHeartbeats 1000000 in
theorem does_set_far (n : Nat) (hn : n ≤ 8) (v : List Int) (X Y : Nat) (c : Int) (ch : Int) (hX0 : 1 ≤ X) (hX : X ≤ n) (hY : Y ≤ n) (hc : -1099511627776 ≤ c ∧ c ≤ 1099511627776) (hv : -1099511627776 ≤ valF v Y ∧ valF v Y ≤ 1099511627776) (hf : farB (valF v Y + c) = true) (a : Option Addr) (ca : Nat) (w : World) (h : SL w a n ca v) : Calls Tryz.prog 12 #[.agg #[.int .i64 2, .int .i64 X, .int .i64 Y, .int .i64 c, .int .i64 0], .slice a n ca, .int .i64 ch] w (DoS 130 0 [] w) := by
  obtain ⟨W1, hW1⟩ : ∃ W1, W1 = w.alloc (.cells #[.int .i64 2, .int .i64 X, .int .i64 Y, .int .i64 c, .int .i64 0] 26) := ⟨_, rfl⟩
  have X1 : Holds W1 w.heap.size 26 #[.int .i64 2, .int .i64 X, .int .i64 Y, .int .i64 c, .int .i64 0] := by rw [hW1]; exact Holds.new w _ _
  have BL := Lib.hid (show Below w.heap.size w W1 by rw [hW1]; exact box_below _ _ _)
  have S1 := Lib.hid (h.below BL.out)
  have hW1' := Lib.hid hW1
  have ZS := Lib.hid X1
  have hlen := Lib.hid h.len
  have k0 := X1.cell 0
  have k1 := X1.cell 1
  have k2 := X1.cell 2
  have k3 := X1.cell 3
  have k4 := X1.cell 4
  clear hW1 X1
  have hwr : IntKind.i64.wrap (valF v Y + c) = valF v Y + c := wrap_small (by omega) (by omega)
  have qY := Lib.hid (fun W hs => rvalG_any a v n ca (by omega) Y hY W hs)
  have hfar := Lib.hid hf
  clear hf h
  generalize valF v Y = y at *
  go_enter Tryz.func12, Tryz.ntmps12
  go_wp2
  rw [← hW1'.out]
  have f0 : ∀ W, Below W1.heap.size W1 W → W.cell? ⟨w.heap.size, 1, none⟩ = some (.int .i64 X) := fun W hW => (ZS.out.below hW ZS.out.lt).cell 1
  have f1 : ∀ W, Below W1.heap.size W1 W → W.cell? ⟨w.heap.size, 2, none⟩ = some (.int .i64 Y) := fun W hW => (ZS.out.below hW ZS.out.lt).cell 2
  have f2 : ∀ W, Below W1.heap.size W1 W → W.cell? ⟨w.heap.size, 3, none⟩ = some (.int .i64 c) := fun W hW => (ZS.out.below hW ZS.out.lt).cell 3
  clear hW1' k0 k1 k2 k3 k4
  refine wp_drawn_on (fun W => Below W1.heap.size W1 W) (by kernel_rfl) (below_drew (Below.refl _ _)) (fun hHeld => ?_)
  refine wpAnyH_take (i := 0) (oi := { dst := some 13, op := Go.Op.move (Go.Operand.tmp 1), type := 22, pos := "ref.go:43", after := #[], guard := none }) (v := ?v1) rfl (by kernel_rfl) (by kernel_rfl) (by kernel_rfl) (fun _ _ _ h => h) (Or.inl ⟨by kernel_rfl, ?h1⟩) (by assumption) ?r1
  case h1 => (intro w hSw; (try dsimp only at hSw); go_simp; try with_reducible rfl)
  try simp only [Act.put, List.setIfInBounds_toArray, List.set_cons_zero, List.set_cons_succ]
  refine wpAnyH_take (i := 1) (oi := { dst := some 14, op := Go.Op.fieldAddr 26 (Go.Operand.tmp 3) 2, type := 0, pos := "ref.go:43", after := #[], guard := none }) (v := ?v2) rfl (by kernel_rfl) (by kernel_rfl) (by kernel_rfl) (fun _ _ _ h => h) (Or.inl ⟨by kernel_rfl, ?h2⟩) (by assumption) ?r2
  case h2 => (intro w hSw; (try dsimp only at hSw); go_simp; try with_reducible rfl)
  try simp only [Act.put, List.setIfInBounds_toArray, List.set_cons_zero, List.set_cons_succ]
  refine wpAnyH_take (i := 2) (oi := { dst := some 15, op := Go.Op.load 3 (Go.Operand.tmp 14), type := 3, pos := "ref.go:43", after := #[{ on := 1, ground := Go.Ground.data }], guard := none }) (v := ?v3) rfl (by kernel_rfl) (by kernel_rfl) (by kernel_rfl) (fun _ _ _ h => h) (Or.inl ⟨by kernel_rfl, ?h3⟩) (by assumption) ?r3
  case h3 => (intro w hSw; (try dsimp only at hSw); go_simp; try with_reducible rfl)
  try simp only [Act.put, List.setIfInBounds_toArray, List.set_cons_zero, List.set_cons_succ]
  refine wpAnyH_take (i := 4) (oi := { dst := some 17, op := Go.Op.fieldAddr 26 (Go.Operand.tmp 3) 3, type := 0, pos := "ref.go:43", after := #[], guard := none }) (v := ?v4) rfl (by kernel_rfl) (by kernel_rfl) (by kernel_rfl) (fun _ _ _ h => h) (Or.inl ⟨by kernel_rfl, ?h4⟩) (by assumption) ?r4
  case h4 => (intro w hSw; (try dsimp only at hSw); go_simp; try with_reducible rfl)
  try simp only [Act.put, List.setIfInBounds_toArray, List.set_cons_zero, List.set_cons_succ]
  refine wpAnyH_take (i := 5) (oi := { dst := some 18, op := Go.Op.load 3 (Go.Operand.tmp 17), type := 3, pos := "ref.go:43", after := #[{ on := 4, ground := Go.Ground.data }], guard := none }) (v := ?v5) rfl (by kernel_rfl) (by kernel_rfl) (by kernel_rfl) (fun _ _ _ h => h) (Or.inl ⟨by kernel_rfl, ?h5⟩) (by assumption) ?r5
  case h5 => (intro w hSw; (try dsimp only at hSw); go_simp; try with_reducible rfl)
  try simp only [Act.put, List.setIfInBounds_toArray, List.set_cons_zero, List.set_cons_succ]
  refine wpAnyH_ready (rs := [3]) (by kernel_rfl) (by simp) ?_
  refine AllReadyH.cons (o := { dst := some 16, op := Go.Op.call { callee := Go.Callee.value (Go.Operand.func 15), args := #[Go.Operand.tmp 13, Go.Operand.tmp 15], argTypes := #[22, 3] }, type := 3, pos := "ref.go:43", after := #[{ on := 0, ground := Go.Ground.data }, { on := 2, ground := Go.Ground.data }], guard := none }) rfl (fun K hK => ?_) AllReadyH.nil
  go_simp
  refine (qY.out _ (S1.out.below hHeld)).mono ?_
  rintro e v3 ⟨rfl, b3⟩
  go_simp
  refine hK.out _ _ (hHeld.trans (b3.mono hHeld.size)) (fun hHeld => ?_)
  clear hK K
  try simp only [Act.put, List.setIfInBounds_toArray, List.set_cons_zero, List.set_cons_succ]
  refine wpAnyH_take (i := 6) (oi := { dst := some 19, op := Go.Op.binOp Go.BinOp.add 3 (Go.Operand.tmp 16) (Go.Operand.tmp 18) 3, type := 3, pos := "ref.go:43", after := #[{ on := 3, ground := Go.Ground.data }, { on := 5, ground := Go.Ground.data }], guard := none }) (v := ?v6) rfl (by kernel_rfl) (by kernel_rfl) (by kernel_rfl) (fun _ _ _ h => h) (Or.inl ⟨by kernel_rfl, ?h6⟩) (by assumption) ?r6
  case h6 => (intro w hSw; (try dsimp only at hSw); go_simp; try with_reducible rfl)
  try simp only [Act.put, List.setIfInBounds_toArray, List.set_cons_zero, List.set_cons_succ]
  refine wpAnyH_take (i := 7) (oi := { dst := some 8, op := Go.Op.assign (Go.Operand.tmp 19), type := 3, pos := "ref.go:43", after := #[{ on := 6, ground := Go.Ground.data }, { on := 3, ground := Go.Ground.chain }, { on := 0, ground := Go.Ground.phase }, { on := 1, ground := Go.Ground.phase }, { on := 2, ground := Go.Ground.phase }, { on := 3, ground := Go.Ground.phase }, { on := 4, ground := Go.Ground.phase }, { on := 5, ground := Go.Ground.phase }, { on := 6, ground := Go.Ground.phase }], guard := none }) (v := ?v7) rfl (by kernel_rfl) (by kernel_rfl) (by kernel_rfl) (fun _ _ _ h => h) (Or.inl ⟨by kernel_rfl, ?h7⟩) (by assumption) ?r7
  case h7 => (intro w hSw; (try dsimp only at hSw); go_simp; try with_reducible rfl)
  try simp only [Act.put, List.setIfInBounds_toArray, List.set_cons_zero, List.set_cons_succ]
  refine wpAnyH_done (by kernel_rfl) ?_ _
  have bH := Lib.hid hHeld
  have bZ := Lib.hid (BL.out.trans (hHeld.mono BL.out.size))
  have SZ := Lib.hid (S1.out.below hHeld)
  have ZZ := Lib.hid (ZS.out.below hHeld ZS.out.lt)
  have g1 := ZZ.out.cell 1
  clear f0 f1 f2
  go_wp2_with fail
  refine (is_any _ _).mono ?_
  rintro e u1 ⟨rfl, rfl⟩
  rw [hfar.out]
  go_wp2
  go_ret2
  exact ⟨none, 0, rfl, SL.nil _, bZ.out⟩
set_option maxRecDepth 100000 in
set_option maxHeartbeats 1000000 in
theorem does_set_near (n : Nat) (hn : n ≤ 8) (v : List Int) (X Y : Nat) (c : Int) (ch : Int) (hX0 : 1 ≤ X) (hX : X ≤ n) (hY : Y ≤ n) (hc : -1099511627776 ≤ c ∧ c ≤ 1099511627776) (hv : -1099511627776 ≤ valF v Y ∧ valF v Y ≤ 1099511627776) (hf : farB (valF v Y + c) = false) (a : Option Addr) (ca : Nat) (w : World) (h : SL w a n ca v) : Calls Tryz.prog 12 #[.agg #[.int .i64 2, .int .i64 X, .int .i64 Y, .int .i64 c, .int .i64 0], .slice a n ca, .int .i64 ch] w (DoS 0 n (withL v X (valF v Y + c)) w) := by
  obtain ⟨W1, hW1⟩ : ∃ W1, W1 = w.alloc (.cells #[.int .i64 2, .int .i64 X, .int .i64 Y, .int .i64 c, .int .i64 0] 26) := ⟨_, rfl⟩
  have X1 : Holds W1 w.heap.size 26 #[.int .i64 2, .int .i64 X, .int .i64 Y, .int .i64 c, .int .i64 0] := by rw [hW1]; exact Holds.new w _ _
  have BL := Lib.hid (show Below w.heap.size w W1 by rw [hW1]; exact box_below _ _ _)
  have S1 := Lib.hid (h.below BL.out)
  have hW1' := Lib.hid hW1
  have ZS := Lib.hid X1
  have hlen := Lib.hid h.len
  have k0 := X1.cell 0
  have k1 := X1.cell 1
  have k2 := X1.cell 2
  have k3 := X1.cell 3
  have k4 := X1.cell 4
  clear hW1 X1
  have hwr : IntKind.i64.wrap (valF v Y + c) = valF v Y + c := wrap_small (by omega) (by omega)
  have qY := Lib.hid (fun W hs => rvalG_any a v n ca (by omega) Y hY W hs)
  have qW := Lib.hid (fun W hs => rwith_any a v n ca (by omega) X hX0 hX (valF v Y + c) W hs)
  generalize withL v X (valF v Y + c) = L at *
  have hfar := Lib.hid hf
  clear hf h
  generalize valF v Y = y at *
  go_enter Tryz.func12, Tryz.ntmps12
  go_wp2
  rw [← hW1'.out]
  have f0 : ∀ W, Below W1.heap.size W1 W → W.cell? ⟨w.heap.size, 1, none⟩ = some (.int .i64 X) := fun W hW => (ZS.out.below hW ZS.out.lt).cell 1
  have f1 : ∀ W, Below W1.heap.size W1 W → W.cell? ⟨w.heap.size, 2, none⟩ = some (.int .i64 Y) := fun W hW => (ZS.out.below hW ZS.out.lt).cell 2
  have f2 : ∀ W, Below W1.heap.size W1 W → W.cell? ⟨w.heap.size, 3, none⟩ = some (.int .i64 c) := fun W hW => (ZS.out.below hW ZS.out.lt).cell 3
  clear hW1' k0 k1 k2 k3 k4
  refine wp_drawn_on (fun W => Below W1.heap.size W1 W) (by kernel_rfl) (below_drew (Below.refl _ _)) (fun hHeld => ?_)
  refine wpAnyH_take (i := 0) (oi := { dst := some 13, op := Go.Op.move (Go.Operand.tmp 1), type := 22, pos := "ref.go:43", after := #[], guard := none }) (v := ?v8) rfl (by kernel_rfl) (by kernel_rfl) (by kernel_rfl) (fun _ _ _ h => h) (Or.inl ⟨by kernel_rfl, ?h8⟩) (by assumption) ?r8
  case h8 => (intro w hSw; (try dsimp only at hSw); go_simp; try with_reducible rfl)
  try simp only [Act.put, List.setIfInBounds_toArray, List.set_cons_zero, List.set_cons_succ]
  refine wpAnyH_take (i := 1) (oi := { dst := some 14, op := Go.Op.fieldAddr 26 (Go.Operand.tmp 3) 2, type := 0, pos := "ref.go:43", after := #[], guard := none }) (v := ?v9) rfl (by kernel_rfl) (by kernel_rfl) (by kernel_rfl) (fun _ _ _ h => h) (Or.inl ⟨by kernel_rfl, ?h9⟩) (by assumption) ?r9
  case h9 => (intro w hSw; (try dsimp only at hSw); go_simp; try with_reducible rfl)
  try simp only [Act.put, List.setIfInBounds_toArray, List.set_cons_zero, List.set_cons_succ]
  refine wpAnyH_take (i := 2) (oi := { dst := some 15, op := Go.Op.load 3 (Go.Operand.tmp 14), type := 3, pos := "ref.go:43", after := #[{ on := 1, ground := Go.Ground.data }], guard := none }) (v := ?v10) rfl (by kernel_rfl) (by kernel_rfl) (by kernel_rfl) (fun _ _ _ h => h) (Or.inl ⟨by kernel_rfl, ?h10⟩) (by assumption) ?r10
  case h10 => (intro w hSw; (try dsimp only at hSw); go_simp; try with_reducible rfl)
  try simp only [Act.put, List.setIfInBounds_toArray, List.set_cons_zero, List.set_cons_succ]
  refine wpAnyH_take (i := 4) (oi := { dst := some 17, op := Go.Op.fieldAddr 26 (Go.Operand.tmp 3) 3, type := 0, pos := "ref.go:43", after := #[], guard := none }) (v := ?v11) rfl (by kernel_rfl) (by kernel_rfl) (by kernel_rfl) (fun _ _ _ h => h) (Or.inl ⟨by kernel_rfl, ?h11⟩) (by assumption) ?r11
  case h11 => (intro w hSw; (try dsimp only at hSw); go_simp; try with_reducible rfl)
  try simp only [Act.put, List.setIfInBounds_toArray, List.set_cons_zero, List.set_cons_succ]
  refine wpAnyH_take (i := 5) (oi := { dst := some 18, op := Go.Op.load 3 (Go.Operand.tmp 17), type := 3, pos := "ref.go:43", after := #[{ on := 4, ground := Go.Ground.data }], guard := none }) (v := ?v12) rfl (by kernel_rfl) (by kernel_rfl) (by kernel_rfl) (fun _ _ _ h => h) (Or.inl ⟨by kernel_rfl, ?h12⟩) (by assumption) ?r12
  case h12 => (intro w hSw; (try dsimp only at hSw); go_simp; try with_reducible rfl)
  try simp only [Act.put, List.setIfInBounds_toArray, List.set_cons_zero, List.set_cons_succ]
  refine wpAnyH_ready (rs := [3]) (by kernel_rfl) (by simp) ?_
  refine AllReadyH.cons (o := { dst := some 16, op := Go.Op.call { callee := Go.Callee.value (Go.Operand.func 15), args := #[Go.Operand.tmp 13, Go.Operand.tmp 15], argTypes := #[22, 3] }, type := 3, pos := "ref.go:43", after := #[{ on := 0, ground := Go.Ground.data }, { on := 2, ground := Go.Ground.data }], guard := none }) rfl (fun K hK => ?_) AllReadyH.nil
  go_simp
  refine (qY.out _ (S1.out.below hHeld)).mono ?_
  rintro e v3 ⟨rfl, b3⟩
  go_simp
  refine hK.out _ _ (hHeld.trans (b3.mono hHeld.size)) (fun hHeld => ?_)
  clear hK K
  try simp only [Act.put, List.setIfInBounds_toArray, List.set_cons_zero, List.set_cons_succ]
  refine wpAnyH_take (i := 6) (oi := { dst := some 19, op := Go.Op.binOp Go.BinOp.add 3 (Go.Operand.tmp 16) (Go.Operand.tmp 18) 3, type := 3, pos := "ref.go:43", after := #[{ on := 3, ground := Go.Ground.data }, { on := 5, ground := Go.Ground.data }], guard := none }) (v := ?v13) rfl (by kernel_rfl) (by kernel_rfl) (by kernel_rfl) (fun _ _ _ h => h) (Or.inl ⟨by kernel_rfl, ?h13⟩) (by assumption) ?r13
  case h13 => (intro w hSw; (try dsimp only at hSw); go_simp; try with_reducible rfl)
  try simp only [Act.put, List.setIfInBounds_toArray, List.set_cons_zero, List.set_cons_succ]
  refine wpAnyH_take (i := 7) (oi := { dst := some 8, op := Go.Op.assign (Go.Operand.tmp 19), type := 3, pos := "ref.go:43", after := #[{ on := 6, ground := Go.Ground.data }, { on := 3, ground := Go.Ground.chain }, { on := 0, ground := Go.Ground.phase }, { on := 1, ground := Go.Ground.phase }, { on := 2, ground := Go.Ground.phase }, { on := 3, ground := Go.Ground.phase }, { on := 4, ground := Go.Ground.phase }, { on := 5, ground := Go.Ground.phase }, { on := 6, ground := Go.Ground.phase }], guard := none }) (v := ?v14) rfl (by kernel_rfl) (by kernel_rfl) (by kernel_rfl) (fun _ _ _ h => h) (Or.inl ⟨by kernel_rfl, ?h14⟩) (by assumption) ?r14
  case h14 => (intro w hSw; (try dsimp only at hSw); go_simp; try with_reducible rfl)
  try simp only [Act.put, List.setIfInBounds_toArray, List.set_cons_zero, List.set_cons_succ]
  refine wpAnyH_done (by kernel_rfl) ?_ _
  have bH := Lib.hid hHeld
  have bZ := Lib.hid (BL.out.trans (hHeld.mono BL.out.size))
  have SZ := Lib.hid (S1.out.below hHeld)
  have ZZ := Lib.hid (ZS.out.below hHeld ZS.out.lt)
  have g1 := ZZ.out.cell 1
  clear f0 f1 f2
  go_wp2_with fail
  refine (is_any _ _).mono ?_
  rintro e u1 ⟨rfl, rfl⟩
  rw [hfar.out]
  go_wp2_with fail
  refine (qW.out _ SZ.out).mono ?_
  rintro e u2 ⟨a2, c2, rfl, s2, b2⟩
  have S2 := Lib.hid s2
  have B2 := Lib.hid (bZ.out.trans (b2.mono bZ.out.size))
  clear s2 b2 g1
  go_wp2
  go_ret2
  exact ⟨a2, c2, rfl, S2.out, B2.out⟩
set_option maxRecDepth 100000 in
set_option maxHeartbeats 1000000 in
theorem does_pick_lo (n : Nat) (hn : n ≤ 8) (v : List Int) (X : Nat) (c d : Int) (ch : Int) (hX0 : 1 ≤ X) (hX : X ≤ n) (h1 : ch < c) (a : Option Addr) (ca : Nat) (w : World) (h : SL w a n ca v) : Calls Tryz.prog 12 #[.agg #[.int .i64 3, .int .i64 X, .int .i64 0, .int .i64 c, .int .i64 d], .slice a n ca, .int .i64 ch] w (DoS 130 0 [] w) := by
  obtain ⟨W1, hW1⟩ : ∃ W1, W1 = w.alloc (.cells #[.int .i64 3, .int .i64 X, .int .i64 0, .int .i64 c, .int .i64 d] 26) := ⟨_, rfl⟩
  have X1 : Holds W1 w.heap.size 26 #[.int .i64 3, .int .i64 X, .int .i64 0, .int .i64 c, .int .i64 d] := by rw [hW1]; exact Holds.new w _ _
  have BL := Lib.hid (show Below w.heap.size w W1 by rw [hW1]; exact box_below _ _ _)
  have S1 := Lib.hid (h.below BL.out)
  have hW1' := Lib.hid hW1
  have ZS := Lib.hid X1
  have hlen := Lib.hid h.len
  have k0 := X1.cell 0
  have k1 := X1.cell 1
  have k2 := X1.cell 2
  have k3 := X1.cell 3
  have k4 := X1.cell 4
  clear hW1 X1
  clear h
  go_enter Tryz.func12, Tryz.ntmps12
  go_wp2
  go_ret2
  rw [← hW1'.out]
  exact ⟨none, 0, rfl, SL.nil _, BL.out⟩
set_option maxRecDepth 100000 in
set_option maxHeartbeats 1000000 in
theorem does_pick_hi (n : Nat) (hn : n ≤ 8) (v : List Int) (X : Nat) (c d : Int) (ch : Int) (hX0 : 1 ≤ X) (hX : X ≤ n) (h1 : ¬ ch < c) (h2 : d < ch) (a : Option Addr) (ca : Nat) (w : World) (h : SL w a n ca v) : Calls Tryz.prog 12 #[.agg #[.int .i64 3, .int .i64 X, .int .i64 0, .int .i64 c, .int .i64 d], .slice a n ca, .int .i64 ch] w (DoS 130 0 [] w) := by
  obtain ⟨W1, hW1⟩ : ∃ W1, W1 = w.alloc (.cells #[.int .i64 3, .int .i64 X, .int .i64 0, .int .i64 c, .int .i64 d] 26) := ⟨_, rfl⟩
  have X1 : Holds W1 w.heap.size 26 #[.int .i64 3, .int .i64 X, .int .i64 0, .int .i64 c, .int .i64 d] := by rw [hW1]; exact Holds.new w _ _
  have BL := Lib.hid (show Below w.heap.size w W1 by rw [hW1]; exact box_below _ _ _)
  have S1 := Lib.hid (h.below BL.out)
  have hW1' := Lib.hid hW1
  have ZS := Lib.hid X1
  have hlen := Lib.hid h.len
  have k0 := X1.cell 0
  have k1 := X1.cell 1
  have k2 := X1.cell 2
  have k3 := X1.cell 3
  have k4 := X1.cell 4
  clear hW1 X1
  clear h
  go_enter Tryz.func12, Tryz.ntmps12
  go_wp2
  go_ret2
  rw [← hW1'.out]
  exact ⟨none, 0, rfl, SL.nil _, BL.out⟩
set_option maxRecDepth 100000 in
set_option maxHeartbeats 1000000 in
theorem does_pick_in (n : Nat) (hn : n ≤ 8) (v : List Int) (X : Nat) (c d : Int) (ch : Int) (hX0 : 1 ≤ X) (hX : X ≤ n) (h1 : ¬ ch < c) (h2 : ¬ d < ch) (a : Option Addr) (ca : Nat) (w : World) (h : SL w a n ca v) : Calls Tryz.prog 12 #[.agg #[.int .i64 3, .int .i64 X, .int .i64 0, .int .i64 c, .int .i64 d], .slice a n ca, .int .i64 ch] w (DoS 0 n (withL v X ch) w) := by
  obtain ⟨W1, hW1⟩ : ∃ W1, W1 = w.alloc (.cells #[.int .i64 3, .int .i64 X, .int .i64 0, .int .i64 c, .int .i64 d] 26) := ⟨_, rfl⟩
  have X1 : Holds W1 w.heap.size 26 #[.int .i64 3, .int .i64 X, .int .i64 0, .int .i64 c, .int .i64 d] := by rw [hW1]; exact Holds.new w _ _
  have BL := Lib.hid (show Below w.heap.size w W1 by rw [hW1]; exact box_below _ _ _)
  have S1 := Lib.hid (h.below BL.out)
  have hW1' := Lib.hid hW1
  have ZS := Lib.hid X1
  have hlen := Lib.hid h.len
  have k0 := X1.cell 0
  have k1 := X1.cell 1
  have k2 := X1.cell 2
  have k3 := X1.cell 3
  have k4 := X1.cell 4
  clear hW1 X1
  have qW := Lib.hid (fun W hs => rwith_any a v n ca (by omega) X hX0 hX ch W hs)
  generalize withL v X ch = L at *
  clear h
  go_enter Tryz.func12, Tryz.ntmps12
  go_wp2_with fail
  rw [← hW1'.out]
  refine (qW.out _ S1.out).mono ?_
  rintro e u2 ⟨a2, c2, rfl, s2, b2⟩
  have S2 := Lib.hid s2
  have B2 := Lib.hid (BL.out.trans (b2.mono BL.out.size))
  clear s2 b2 hW1' k0 k1 k2 k3 k4
  go_wp2
  go_ret2
  exact ⟨a2, c2, rfl, S2.out, B2.out⟩
set_option maxRecDepth 100000 in
set_option maxHeartbeats 1000000 in
theorem does_4_no (n : Nat) (hn : n ≤ 8) (v : List Int) (X Y : Nat) (c : Int) (ch : Int) (hX : X ≤ n) (hY : Y ≤ n) (hv : -1099511627776 ≤ valF v Y ∧ valF v Y ≤ 1099511627776) (hw : -1099511627776 ≤ valF v X ∧ valF v X ≤ 1099511627776) (hg : c < valF v X - valF v Y) (a : Option Addr) (ca : Nat) (w : World) (h : SL w a n ca v) : Calls Tryz.prog 12 #[.agg #[.int .i64 4, .int .i64 X, .int .i64 Y, .int .i64 c, .int .i64 0], .slice a n ca, .int .i64 ch] w (DoS 130 0 [] w) := by
  obtain ⟨W1, hW1⟩ : ∃ W1, W1 = w.alloc (.cells #[.int .i64 4, .int .i64 X, .int .i64 Y, .int .i64 c, .int .i64 0] 26) := ⟨_, rfl⟩
  have X1 : Holds W1 w.heap.size 26 #[.int .i64 4, .int .i64 X, .int .i64 Y, .int .i64 c, .int .i64 0] := by rw [hW1]; exact Holds.new w _ _
  have BL := Lib.hid (show Below w.heap.size w W1 by rw [hW1]; exact box_below _ _ _)
  have S1 := Lib.hid (h.below BL.out)
  have hW1' := Lib.hid hW1
  have ZS := Lib.hid X1
  have hlen := Lib.hid h.len
  have k0 := X1.cell 0
  have k1 := X1.cell 1
  have k2 := X1.cell 2
  have k3 := X1.cell 3
  have k4 := X1.cell 4
  clear hW1 X1
  have hwr : IntKind.i64.wrap (valF v X - valF v Y) = valF v X - valF v Y := wrap_small (by omega) (by omega)
  have qX := Lib.hid (fun W hs => rvalG_any a v n ca (by omega) X hX W hs)
  have qY := Lib.hid (fun W hs => rvalG_any a v n ca (by omega) Y hY W hs)
  clear h hv hw
  generalize valF v X = x at *
  generalize valF v Y = y at *
  go_enter Tryz.func12, Tryz.ntmps12
  go_wp2
  rw [← hW1'.out]
  have f0 : ∀ W, Below W1.heap.size W1 W → W.cell? ⟨w.heap.size, 1, none⟩ = some (.int .i64 X) := fun W hW => (ZS.out.below hW ZS.out.lt).cell 1
  have f1 : ∀ W, Below W1.heap.size W1 W → W.cell? ⟨w.heap.size, 2, none⟩ = some (.int .i64 Y) := fun W hW => (ZS.out.below hW ZS.out.lt).cell 2
  have f2 : ∀ W, Below W1.heap.size W1 W → W.cell? ⟨w.heap.size, 3, none⟩ = some (.int .i64 c) := fun W hW => (ZS.out.below hW ZS.out.lt).cell 3
  clear hW1' k0 k1 k2 k3 k4
  refine wp_drawn_on (fun W => Below W1.heap.size W1 W) (by kernel_rfl) (below_drew (Below.refl _ _)) (fun hHeld => ?_)
  refine wpAnyH_take (i := 0) (oi := { dst := some 47, op := Go.Op.move (Go.Operand.tmp 1), type := 22, pos := "ref.go:54", after := #[], guard := none }) (v := ?v15) rfl (by kernel_rfl) (by kernel_rfl) (by kernel_rfl) (fun _ _ _ h => h) (Or.inl ⟨by kernel_rfl, ?h15⟩) (by assumption) ?r15
  case h15 => (intro w hSw; (try dsimp only at hSw); go_simp; try with_reducible rfl)
  try simp only [Act.put, List.setIfInBounds_toArray, List.set_cons_zero, List.set_cons_succ]
  refine wpAnyH_take (i := 1) (oi := { dst := some 48, op := Go.Op.fieldAddr 26 (Go.Operand.tmp 3) 1, type := 0, pos := "ref.go:54", after := #[], guard := none }) (v := ?v16) rfl (by kernel_rfl) (by kernel_rfl) (by kernel_rfl) (fun _ _ _ h => h) (Or.inl ⟨by kernel_rfl, ?h16⟩) (by assumption) ?r16
  case h16 => (intro w hSw; (try dsimp only at hSw); go_simp; try with_reducible rfl)
  try simp only [Act.put, List.setIfInBounds_toArray, List.set_cons_zero, List.set_cons_succ]
  refine wpAnyH_take (i := 2) (oi := { dst := some 49, op := Go.Op.load 3 (Go.Operand.tmp 48), type := 3, pos := "ref.go:54", after := #[{ on := 1, ground := Go.Ground.data }], guard := none }) (v := ?v17) rfl (by kernel_rfl) (by kernel_rfl) (by kernel_rfl) (fun _ _ _ h => h) (Or.inl ⟨by kernel_rfl, ?h17⟩) (by assumption) ?r17
  case h17 => (intro w hSw; (try dsimp only at hSw); go_simp; try with_reducible rfl)
  try simp only [Act.put, List.setIfInBounds_toArray, List.set_cons_zero, List.set_cons_succ]
  refine wpAnyH_take (i := 4) (oi := { dst := some 51, op := Go.Op.move (Go.Operand.tmp 1), type := 22, pos := "ref.go:54", after := #[], guard := none }) (v := ?v18) rfl (by kernel_rfl) (by kernel_rfl) (by kernel_rfl) (fun _ _ _ h => h) (Or.inl ⟨by kernel_rfl, ?h18⟩) (by assumption) ?r18
  case h18 => (intro w hSw; (try dsimp only at hSw); go_simp; try with_reducible rfl)
  try simp only [Act.put, List.setIfInBounds_toArray, List.set_cons_zero, List.set_cons_succ]
  refine wpAnyH_take (i := 5) (oi := { dst := some 52, op := Go.Op.fieldAddr 26 (Go.Operand.tmp 3) 2, type := 0, pos := "ref.go:54", after := #[], guard := none }) (v := ?v19) rfl (by kernel_rfl) (by kernel_rfl) (by kernel_rfl) (fun _ _ _ h => h) (Or.inl ⟨by kernel_rfl, ?h19⟩) (by assumption) ?r19
  case h19 => (intro w hSw; (try dsimp only at hSw); go_simp; try with_reducible rfl)
  try simp only [Act.put, List.setIfInBounds_toArray, List.set_cons_zero, List.set_cons_succ]
  refine wpAnyH_take (i := 6) (oi := { dst := some 53, op := Go.Op.load 3 (Go.Operand.tmp 52), type := 3, pos := "ref.go:54", after := #[{ on := 5, ground := Go.Ground.data }], guard := none }) (v := ?v20) rfl (by kernel_rfl) (by kernel_rfl) (by kernel_rfl) (fun _ _ _ h => h) (Or.inl ⟨by kernel_rfl, ?h20⟩) (by assumption) ?r20
  case h20 => (intro w hSw; (try dsimp only at hSw); go_simp; try with_reducible rfl)
  try simp only [Act.put, List.setIfInBounds_toArray, List.set_cons_zero, List.set_cons_succ]
  refine wpAnyH_take (i := 9) (oi := { dst := some 56, op := Go.Op.fieldAddr 26 (Go.Operand.tmp 3) 3, type := 0, pos := "ref.go:54", after := #[], guard := none }) (v := ?v21) rfl (by kernel_rfl) (by kernel_rfl) (by kernel_rfl) (fun _ _ _ h => h) (Or.inl ⟨by kernel_rfl, ?h21⟩) (by assumption) ?r21
  case h21 => (intro w hSw; (try dsimp only at hSw); go_simp; try with_reducible rfl)
  try simp only [Act.put, List.setIfInBounds_toArray, List.set_cons_zero, List.set_cons_succ]
  refine wpAnyH_take (i := 10) (oi := { dst := some 57, op := Go.Op.load 3 (Go.Operand.tmp 56), type := 3, pos := "ref.go:54", after := #[{ on := 9, ground := Go.Ground.data }], guard := none }) (v := ?v22) rfl (by kernel_rfl) (by kernel_rfl) (by kernel_rfl) (fun _ _ _ h => h) (Or.inl ⟨by kernel_rfl, ?h22⟩) (by assumption) ?r22
  case h22 => (intro w hSw; (try dsimp only at hSw); go_simp; try with_reducible rfl)
  try simp only [Act.put, List.setIfInBounds_toArray, List.set_cons_zero, List.set_cons_succ]
  refine wpAnyH_ready (rs := [3]) (by kernel_rfl) (by simp) ?_
  refine AllReadyH.cons (o := { dst := some 50, op := Go.Op.call { callee := Go.Callee.value (Go.Operand.func 15), args := #[Go.Operand.tmp 47, Go.Operand.tmp 49], argTypes := #[22, 3] }, type := 3, pos := "ref.go:54", after := #[{ on := 0, ground := Go.Ground.data }, { on := 2, ground := Go.Ground.data }], guard := none }) rfl (fun K hK => ?_) AllReadyH.nil
  go_simp
  refine (qX.out _ (S1.out.below hHeld)).mono ?_
  rintro e v3 ⟨rfl, b3⟩
  go_simp
  refine hK.out _ _ (hHeld.trans (b3.mono hHeld.size)) (fun hHeld => ?_)
  clear hK K
  try simp only [Act.put, List.setIfInBounds_toArray, List.set_cons_zero, List.set_cons_succ]
  refine wpAnyH_ready (rs := [7]) (by kernel_rfl) (by simp) ?_
  refine AllReadyH.cons (o := { dst := some 54, op := Go.Op.call { callee := Go.Callee.value (Go.Operand.func 15), args := #[Go.Operand.tmp 51, Go.Operand.tmp 53], argTypes := #[22, 3] }, type := 3, pos := "ref.go:54", after := #[{ on := 4, ground := Go.Ground.data }, { on := 6, ground := Go.Ground.data }, { on := 3, ground := Go.Ground.chain }], guard := none }) rfl (fun K hK => ?_) AllReadyH.nil
  go_simp
  refine (qY.out _ (S1.out.below hHeld)).mono ?_
  rintro e v7 ⟨rfl, b7⟩
  go_simp
  refine hK.out _ _ (hHeld.trans (b7.mono hHeld.size)) (fun hHeld => ?_)
  clear hK K
  try simp only [Act.put, List.setIfInBounds_toArray, List.set_cons_zero, List.set_cons_succ]
  refine wpAnyH_take (i := 8) (oi := { dst := some 55, op := Go.Op.binOp Go.BinOp.sub 3 (Go.Operand.tmp 50) (Go.Operand.tmp 54) 3, type := 3, pos := "ref.go:54", after := #[{ on := 3, ground := Go.Ground.data }, { on := 7, ground := Go.Ground.data }], guard := none }) (v := ?v23) rfl (by kernel_rfl) (by kernel_rfl) (by kernel_rfl) (fun _ _ _ h => h) (Or.inl ⟨by kernel_rfl, ?h23⟩) (by assumption) ?r23
  case h23 => (intro w hSw; (try dsimp only at hSw); go_simp; try with_reducible rfl)
  try simp only [Act.put, List.setIfInBounds_toArray, List.set_cons_zero, List.set_cons_succ]
  refine wpAnyH_take (i := 11) (oi := { dst := some 58, op := Go.Op.binOp Go.BinOp.gtr 3 (Go.Operand.tmp 55) (Go.Operand.tmp 57) 3, type := 4, pos := "ref.go:54", after := #[{ on := 8, ground := Go.Ground.data }, { on := 10, ground := Go.Ground.data }], guard := none }) (v := ?v24) rfl (by kernel_rfl) (by kernel_rfl) (by kernel_rfl) (fun _ _ _ h => h) (Or.inl ⟨by kernel_rfl, ?h24⟩) (by assumption) ?r24
  case h24 => (intro w hSw; (try dsimp only at hSw); go_simp; try with_reducible rfl)
  try simp only [Act.put, List.setIfInBounds_toArray, List.set_cons_zero, List.set_cons_succ]
  refine wpAnyH_done (by kernel_rfl) ?_ _
  have bZ := Lib.hid (BL.out.trans (hHeld.mono BL.out.size))
  clear f0 f1 f2
  go_wp2
  go_ret2
  exact ⟨none, 0, rfl, SL.nil _, bZ.out⟩
set_option maxRecDepth 100000 in
set_option maxHeartbeats 1000000 in
theorem does_4_ok (n : Nat) (hn : n ≤ 8) (v : List Int) (X Y : Nat) (c : Int) (ch : Int) (hX : X ≤ n) (hY : Y ≤ n) (hv : -1099511627776 ≤ valF v Y ∧ valF v Y ≤ 1099511627776) (hw : -1099511627776 ≤ valF v X ∧ valF v X ≤ 1099511627776) (hg : ¬ c < valF v X - valF v Y) (a : Option Addr) (ca : Nat) (w : World) (h : SL w a n ca v) : Calls Tryz.prog 12 #[.agg #[.int .i64 4, .int .i64 X, .int .i64 Y, .int .i64 c, .int .i64 0], .slice a n ca, .int .i64 ch] w (DoS 0 n v w) := by
  obtain ⟨W1, hW1⟩ : ∃ W1, W1 = w.alloc (.cells #[.int .i64 4, .int .i64 X, .int .i64 Y, .int .i64 c, .int .i64 0] 26) := ⟨_, rfl⟩
  have X1 : Holds W1 w.heap.size 26 #[.int .i64 4, .int .i64 X, .int .i64 Y, .int .i64 c, .int .i64 0] := by rw [hW1]; exact Holds.new w _ _
  have BL := Lib.hid (show Below w.heap.size w W1 by rw [hW1]; exact box_below _ _ _)
  have S1 := Lib.hid (h.below BL.out)
  have hW1' := Lib.hid hW1
  have ZS := Lib.hid X1
  have hlen := Lib.hid h.len
  have k0 := X1.cell 0
  have k1 := X1.cell 1
  have k2 := X1.cell 2
  have k3 := X1.cell 3
  have k4 := X1.cell 4
  clear hW1 X1
  have hwr : IntKind.i64.wrap (valF v X - valF v Y) = valF v X - valF v Y := wrap_small (by omega) (by omega)
  have qX := Lib.hid (fun W hs => rvalG_any a v n ca (by omega) X hX W hs)
  have qY := Lib.hid (fun W hs => rvalG_any a v n ca (by omega) Y hY W hs)
  obtain ⟨i0, hii, hz0, hz1, hz2⟩ := info_parts infoInt
  have hlm := Lib.hid (show v.length = n from h.len.symm)
  clear h hv hw
  generalize valF v X = x at *
  generalize valF v Y = y at *
  go_enter Tryz.func12, Tryz.ntmps12
  go_wp2
  rw [← hW1'.out]
  have f0 : ∀ W, Below W1.heap.size W1 W → W.cell? ⟨w.heap.size, 1, none⟩ = some (.int .i64 X) := fun W hW => (ZS.out.below hW ZS.out.lt).cell 1
  have f1 : ∀ W, Below W1.heap.size W1 W → W.cell? ⟨w.heap.size, 2, none⟩ = some (.int .i64 Y) := fun W hW => (ZS.out.below hW ZS.out.lt).cell 2
  have f2 : ∀ W, Below W1.heap.size W1 W → W.cell? ⟨w.heap.size, 3, none⟩ = some (.int .i64 c) := fun W hW => (ZS.out.below hW ZS.out.lt).cell 3
  clear hW1' k0 k1 k2 k3 k4
  refine wp_drawn_on (fun W => Below W1.heap.size W1 W) (by kernel_rfl) (below_drew (Below.refl _ _)) (fun hHeld => ?_)
  refine wpAnyH_take (i := 0) (oi := { dst := some 47, op := Go.Op.move (Go.Operand.tmp 1), type := 22, pos := "ref.go:54", after := #[], guard := none }) (v := ?v25) rfl (by kernel_rfl) (by kernel_rfl) (by kernel_rfl) (fun _ _ _ h => h) (Or.inl ⟨by kernel_rfl, ?h25⟩) (by assumption) ?r25
  case h25 => (intro w hSw; (try dsimp only at hSw); go_simp; try with_reducible rfl)
  try simp only [Act.put, List.setIfInBounds_toArray, List.set_cons_zero, List.set_cons_succ]
  refine wpAnyH_take (i := 1) (oi := { dst := some 48, op := Go.Op.fieldAddr 26 (Go.Operand.tmp 3) 1, type := 0, pos := "ref.go:54", after := #[], guard := none }) (v := ?v26) rfl (by kernel_rfl) (by kernel_rfl) (by kernel_rfl) (fun _ _ _ h => h) (Or.inl ⟨by kernel_rfl, ?h26⟩) (by assumption) ?r26
  case h26 => (intro w hSw; (try dsimp only at hSw); go_simp; try with_reducible rfl)
  try simp only [Act.put, List.setIfInBounds_toArray, List.set_cons_zero, List.set_cons_succ]
  refine wpAnyH_take (i := 2) (oi := { dst := some 49, op := Go.Op.load 3 (Go.Operand.tmp 48), type := 3, pos := "ref.go:54", after := #[{ on := 1, ground := Go.Ground.data }], guard := none }) (v := ?v27) rfl (by kernel_rfl) (by kernel_rfl) (by kernel_rfl) (fun _ _ _ h => h) (Or.inl ⟨by kernel_rfl, ?h27⟩) (by assumption) ?r27
  case h27 => (intro w hSw; (try dsimp only at hSw); go_simp; try with_reducible rfl)
  try simp only [Act.put, List.setIfInBounds_toArray, List.set_cons_zero, List.set_cons_succ]
  refine wpAnyH_take (i := 4) (oi := { dst := some 51, op := Go.Op.move (Go.Operand.tmp 1), type := 22, pos := "ref.go:54", after := #[], guard := none }) (v := ?v28) rfl (by kernel_rfl) (by kernel_rfl) (by kernel_rfl) (fun _ _ _ h => h) (Or.inl ⟨by kernel_rfl, ?h28⟩) (by assumption) ?r28
  case h28 => (intro w hSw; (try dsimp only at hSw); go_simp; try with_reducible rfl)
  try simp only [Act.put, List.setIfInBounds_toArray, List.set_cons_zero, List.set_cons_succ]
  refine wpAnyH_take (i := 5) (oi := { dst := some 52, op := Go.Op.fieldAddr 26 (Go.Operand.tmp 3) 2, type := 0, pos := "ref.go:54", after := #[], guard := none }) (v := ?v29) rfl (by kernel_rfl) (by kernel_rfl) (by kernel_rfl) (fun _ _ _ h => h) (Or.inl ⟨by kernel_rfl, ?h29⟩) (by assumption) ?r29
  case h29 => (intro w hSw; (try dsimp only at hSw); go_simp; try with_reducible rfl)
  try simp only [Act.put, List.setIfInBounds_toArray, List.set_cons_zero, List.set_cons_succ]
  refine wpAnyH_take (i := 6) (oi := { dst := some 53, op := Go.Op.load 3 (Go.Operand.tmp 52), type := 3, pos := "ref.go:54", after := #[{ on := 5, ground := Go.Ground.data }], guard := none }) (v := ?v30) rfl (by kernel_rfl) (by kernel_rfl) (by kernel_rfl) (fun _ _ _ h => h) (Or.inl ⟨by kernel_rfl, ?h30⟩) (by assumption) ?r30
  case h30 => (intro w hSw; (try dsimp only at hSw); go_simp; try with_reducible rfl)
  try simp only [Act.put, List.setIfInBounds_toArray, List.set_cons_zero, List.set_cons_succ]
  refine wpAnyH_take (i := 9) (oi := { dst := some 56, op := Go.Op.fieldAddr 26 (Go.Operand.tmp 3) 3, type := 0, pos := "ref.go:54", after := #[], guard := none }) (v := ?v31) rfl (by kernel_rfl) (by kernel_rfl) (by kernel_rfl) (fun _ _ _ h => h) (Or.inl ⟨by kernel_rfl, ?h31⟩) (by assumption) ?r31
  case h31 => (intro w hSw; (try dsimp only at hSw); go_simp; try with_reducible rfl)
  try simp only [Act.put, List.setIfInBounds_toArray, List.set_cons_zero, List.set_cons_succ]
  refine wpAnyH_take (i := 10) (oi := { dst := some 57, op := Go.Op.load 3 (Go.Operand.tmp 56), type := 3, pos := "ref.go:54", after := #[{ on := 9, ground := Go.Ground.data }], guard := none }) (v := ?v32) rfl (by kernel_rfl) (by kernel_rfl) (by kernel_rfl) (fun _ _ _ h => h) (Or.inl ⟨by kernel_rfl, ?h32⟩) (by assumption) ?r32
  case h32 => (intro w hSw; (try dsimp only at hSw); go_simp; try with_reducible rfl)
  try simp only [Act.put, List.setIfInBounds_toArray, List.set_cons_zero, List.set_cons_succ]
  refine wpAnyH_ready (rs := [3]) (by kernel_rfl) (by simp) ?_
  refine AllReadyH.cons (o := { dst := some 50, op := Go.Op.call { callee := Go.Callee.value (Go.Operand.func 15), args := #[Go.Operand.tmp 47, Go.Operand.tmp 49], argTypes := #[22, 3] }, type := 3, pos := "ref.go:54", after := #[{ on := 0, ground := Go.Ground.data }, { on := 2, ground := Go.Ground.data }], guard := none }) rfl (fun K hK => ?_) AllReadyH.nil
  go_simp
  refine (qX.out _ (S1.out.below hHeld)).mono ?_
  rintro e v3 ⟨rfl, b3⟩
  go_simp
  refine hK.out _ _ (hHeld.trans (b3.mono hHeld.size)) (fun hHeld => ?_)
  clear hK K
  try simp only [Act.put, List.setIfInBounds_toArray, List.set_cons_zero, List.set_cons_succ]
  refine wpAnyH_ready (rs := [7]) (by kernel_rfl) (by simp) ?_
  refine AllReadyH.cons (o := { dst := some 54, op := Go.Op.call { callee := Go.Callee.value (Go.Operand.func 15), args := #[Go.Operand.tmp 51, Go.Operand.tmp 53], argTypes := #[22, 3] }, type := 3, pos := "ref.go:54", after := #[{ on := 4, ground := Go.Ground.data }, { on := 6, ground := Go.Ground.data }, { on := 3, ground := Go.Ground.chain }], guard := none }) rfl (fun K hK => ?_) AllReadyH.nil
  go_simp
  refine (qY.out _ (S1.out.below hHeld)).mono ?_
  rintro e v7 ⟨rfl, b7⟩
  go_simp
  refine hK.out _ _ (hHeld.trans (b7.mono hHeld.size)) (fun hHeld => ?_)
  clear hK K
  try simp only [Act.put, List.setIfInBounds_toArray, List.set_cons_zero, List.set_cons_succ]
  refine wpAnyH_take (i := 8) (oi := { dst := some 55, op := Go.Op.binOp Go.BinOp.sub 3 (Go.Operand.tmp 50) (Go.Operand.tmp 54) 3, type := 3, pos := "ref.go:54", after := #[{ on := 3, ground := Go.Ground.data }, { on := 7, ground := Go.Ground.data }], guard := none }) (v := ?v33) rfl (by kernel_rfl) (by kernel_rfl) (by kernel_rfl) (fun _ _ _ h => h) (Or.inl ⟨by kernel_rfl, ?h33⟩) (by assumption) ?r33
  case h33 => (intro w hSw; (try dsimp only at hSw); go_simp; try with_reducible rfl)
  try simp only [Act.put, List.setIfInBounds_toArray, List.set_cons_zero, List.set_cons_succ]
  refine wpAnyH_take (i := 11) (oi := { dst := some 58, op := Go.Op.binOp Go.BinOp.gtr 3 (Go.Operand.tmp 55) (Go.Operand.tmp 57) 3, type := 4, pos := "ref.go:54", after := #[{ on := 8, ground := Go.Ground.data }, { on := 10, ground := Go.Ground.data }], guard := none }) (v := ?v34) rfl (by kernel_rfl) (by kernel_rfl) (by kernel_rfl) (fun _ _ _ h => h) (Or.inl ⟨by kernel_rfl, ?h34⟩) (by assumption) ?r34
  case h34 => (intro w hSw; (try dsimp only at hSw); go_simp; try with_reducible rfl)
  try simp only [Act.put, List.setIfInBounds_toArray, List.set_cons_zero, List.set_cons_succ]
  refine wpAnyH_done (by kernel_rfl) ?_ _
  have bZ := Lib.hid (BL.out.trans (hHeld.mono BL.out.size))
  have SZ := Lib.hid (S1.out.below hHeld)
  have hbe : Hid (Below v7.heap.size v7 (v7.alloc (.cells #[] 3))) := Lib.hid (box_below _ _ _)
  clear f0 f1 f2
  go_upto_region 17 with fail
  go_wp2_with (at_builtin; refine wpList_append_sees _ rfl (.tmp 73) (.tmp 74) 22 rfl v7 3 i0 (.int .i64 0) 8 Tryz.underlying22 hii hz0 hz1 hz2 rfl .i64 _ [] (by exact own_empty 3 .i64 (Below.refl _ v7)) (by exact hbe.out) v7.heap.size a v (by exact SZ.out.sees.below hbe.out) n ca hlen.out rfl rfl (by have := hlm.out; simp; omega) (by omega) ?_; intro v2 w2 hown2 hw2; simp only [List.nil_append] at hown2; have O2 := Lib.hid hown2; have b2 := Lib.hid hw2; clear hown2 hw2; obtain ⟨a3, c3, e3, h3, s3⟩ := sees_own O2.out; have h3' := Lib.hid h3; have s3' := Lib.hid s3; clear h3 s3; subst e3)
  go_ret2
  have hcap := own_cap O2.out
  rw [hlm.out] at hcap
  exact ⟨a3, c3, congrArg (fun z => Ending.returned (.tuple #[.slice a3 z c3, .int .i64 0])) hlm.out, ⟨hlm.out.symm, hcap, by omega, s3'.out⟩, bZ.out.trans (b2.out.mono bZ.out.size)⟩
set_option maxRecDepth 100000 in
set_option maxHeartbeats 1000000 in
theorem does_5_no (n : Nat) (hn : n ≤ 8) (v : List Int) (X Y : Nat) (c : Int) (ch : Int) (hX : X ≤ n) (hY : Y ≤ n) (hv : -1099511627776 ≤ valF v Y ∧ valF v Y ≤ 1099511627776) (hw : -1099511627776 ≤ valF v X ∧ valF v X ≤ 1099511627776) (hg : c < valF v X - valF v Y) (a : Option Addr) (ca : Nat) (w : World) (h : SL w a n ca v) : Calls Tryz.prog 12 #[.agg #[.int .i64 5, .int .i64 X, .int .i64 Y, .int .i64 c, .int .i64 0], .slice a n ca, .int .i64 ch] w (DoS 131 0 [] w) := by
  obtain ⟨W1, hW1⟩ : ∃ W1, W1 = w.alloc (.cells #[.int .i64 5, .int .i64 X, .int .i64 Y, .int .i64 c, .int .i64 0] 26) := ⟨_, rfl⟩
  have X1 : Holds W1 w.heap.size 26 #[.int .i64 5, .int .i64 X, .int .i64 Y, .int .i64 c, .int .i64 0] := by rw [hW1]; exact Holds.new w _ _
  have BL := Lib.hid (show Below w.heap.size w W1 by rw [hW1]; exact box_below _ _ _)
  have S1 := Lib.hid (h.below BL.out)
  have hW1' := Lib.hid hW1
  have ZS := Lib.hid X1
  have hlen := Lib.hid h.len
  have k0 := X1.cell 0
  have k1 := X1.cell 1
  have k2 := X1.cell 2
  have k3 := X1.cell 3
  have k4 := X1.cell 4
  clear hW1 X1
  have hwr : IntKind.i64.wrap (valF v X - valF v Y) = valF v X - valF v Y := wrap_small (by omega) (by omega)
  have qX := Lib.hid (fun W hs => rvalG_any a v n ca (by omega) X hX W hs)
  have qY := Lib.hid (fun W hs => rvalG_any a v n ca (by omega) Y hY W hs)
  clear h hv hw
  generalize valF v X = x at *
  generalize valF v Y = y at *
  go_enter Tryz.func12, Tryz.ntmps12
  go_wp2
  rw [← hW1'.out]
  have f0 : ∀ W, Below W1.heap.size W1 W → W.cell? ⟨w.heap.size, 1, none⟩ = some (.int .i64 X) := fun W hW => (ZS.out.below hW ZS.out.lt).cell 1
  have f1 : ∀ W, Below W1.heap.size W1 W → W.cell? ⟨w.heap.size, 2, none⟩ = some (.int .i64 Y) := fun W hW => (ZS.out.below hW ZS.out.lt).cell 2
  have f2 : ∀ W, Below W1.heap.size W1 W → W.cell? ⟨w.heap.size, 3, none⟩ = some (.int .i64 c) := fun W hW => (ZS.out.below hW ZS.out.lt).cell 3
  clear hW1' k0 k1 k2 k3 k4
  refine wp_drawn_on (fun W => Below W1.heap.size W1 W) (by kernel_rfl) (below_drew (Below.refl _ _)) (fun hHeld => ?_)
  refine wpAnyH_take (i := 0) (oi := { dst := some 61, op := Go.Op.move (Go.Operand.tmp 1), type := 22, pos := "ref.go:58", after := #[], guard := none }) (v := ?v35) rfl (by kernel_rfl) (by kernel_rfl) (by kernel_rfl) (fun _ _ _ h => h) (Or.inl ⟨by kernel_rfl, ?h35⟩) (by assumption) ?r35
  case h35 => (intro w hSw; (try dsimp only at hSw); go_simp; try with_reducible rfl)
  try simp only [Act.put, List.setIfInBounds_toArray, List.set_cons_zero, List.set_cons_succ]
  refine wpAnyH_take (i := 1) (oi := { dst := some 62, op := Go.Op.fieldAddr 26 (Go.Operand.tmp 3) 1, type := 0, pos := "ref.go:58", after := #[], guard := none }) (v := ?v36) rfl (by kernel_rfl) (by kernel_rfl) (by kernel_rfl) (fun _ _ _ h => h) (Or.inl ⟨by kernel_rfl, ?h36⟩) (by assumption) ?r36
  case h36 => (intro w hSw; (try dsimp only at hSw); go_simp; try with_reducible rfl)
  try simp only [Act.put, List.setIfInBounds_toArray, List.set_cons_zero, List.set_cons_succ]
  refine wpAnyH_take (i := 2) (oi := { dst := some 63, op := Go.Op.load 3 (Go.Operand.tmp 62), type := 3, pos := "ref.go:58", after := #[{ on := 1, ground := Go.Ground.data }], guard := none }) (v := ?v37) rfl (by kernel_rfl) (by kernel_rfl) (by kernel_rfl) (fun _ _ _ h => h) (Or.inl ⟨by kernel_rfl, ?h37⟩) (by assumption) ?r37
  case h37 => (intro w hSw; (try dsimp only at hSw); go_simp; try with_reducible rfl)
  try simp only [Act.put, List.setIfInBounds_toArray, List.set_cons_zero, List.set_cons_succ]
  refine wpAnyH_take (i := 4) (oi := { dst := some 65, op := Go.Op.move (Go.Operand.tmp 1), type := 22, pos := "ref.go:58", after := #[], guard := none }) (v := ?v38) rfl (by kernel_rfl) (by kernel_rfl) (by kernel_rfl) (fun _ _ _ h => h) (Or.inl ⟨by kernel_rfl, ?h38⟩) (by assumption) ?r38
  case h38 => (intro w hSw; (try dsimp only at hSw); go_simp; try with_reducible rfl)
  try simp only [Act.put, List.setIfInBounds_toArray, List.set_cons_zero, List.set_cons_succ]
  refine wpAnyH_take (i := 5) (oi := { dst := some 66, op := Go.Op.fieldAddr 26 (Go.Operand.tmp 3) 2, type := 0, pos := "ref.go:58", after := #[], guard := none }) (v := ?v39) rfl (by kernel_rfl) (by kernel_rfl) (by kernel_rfl) (fun _ _ _ h => h) (Or.inl ⟨by kernel_rfl, ?h39⟩) (by assumption) ?r39
  case h39 => (intro w hSw; (try dsimp only at hSw); go_simp; try with_reducible rfl)
  try simp only [Act.put, List.setIfInBounds_toArray, List.set_cons_zero, List.set_cons_succ]
  refine wpAnyH_take (i := 6) (oi := { dst := some 67, op := Go.Op.load 3 (Go.Operand.tmp 66), type := 3, pos := "ref.go:58", after := #[{ on := 5, ground := Go.Ground.data }], guard := none }) (v := ?v40) rfl (by kernel_rfl) (by kernel_rfl) (by kernel_rfl) (fun _ _ _ h => h) (Or.inl ⟨by kernel_rfl, ?h40⟩) (by assumption) ?r40
  case h40 => (intro w hSw; (try dsimp only at hSw); go_simp; try with_reducible rfl)
  try simp only [Act.put, List.setIfInBounds_toArray, List.set_cons_zero, List.set_cons_succ]
  refine wpAnyH_take (i := 9) (oi := { dst := some 70, op := Go.Op.fieldAddr 26 (Go.Operand.tmp 3) 3, type := 0, pos := "ref.go:58", after := #[], guard := none }) (v := ?v41) rfl (by kernel_rfl) (by kernel_rfl) (by kernel_rfl) (fun _ _ _ h => h) (Or.inl ⟨by kernel_rfl, ?h41⟩) (by assumption) ?r41
  case h41 => (intro w hSw; (try dsimp only at hSw); go_simp; try with_reducible rfl)
  try simp only [Act.put, List.setIfInBounds_toArray, List.set_cons_zero, List.set_cons_succ]
  refine wpAnyH_take (i := 10) (oi := { dst := some 71, op := Go.Op.load 3 (Go.Operand.tmp 70), type := 3, pos := "ref.go:58", after := #[{ on := 9, ground := Go.Ground.data }], guard := none }) (v := ?v42) rfl (by kernel_rfl) (by kernel_rfl) (by kernel_rfl) (fun _ _ _ h => h) (Or.inl ⟨by kernel_rfl, ?h42⟩) (by assumption) ?r42
  case h42 => (intro w hSw; (try dsimp only at hSw); go_simp; try with_reducible rfl)
  try simp only [Act.put, List.setIfInBounds_toArray, List.set_cons_zero, List.set_cons_succ]
  refine wpAnyH_ready (rs := [3]) (by kernel_rfl) (by simp) ?_
  refine AllReadyH.cons (o := { dst := some 64, op := Go.Op.call { callee := Go.Callee.value (Go.Operand.func 15), args := #[Go.Operand.tmp 61, Go.Operand.tmp 63], argTypes := #[22, 3] }, type := 3, pos := "ref.go:58", after := #[{ on := 0, ground := Go.Ground.data }, { on := 2, ground := Go.Ground.data }], guard := none }) rfl (fun K hK => ?_) AllReadyH.nil
  go_simp
  refine (qX.out _ (S1.out.below hHeld)).mono ?_
  rintro e v3 ⟨rfl, b3⟩
  go_simp
  refine hK.out _ _ (hHeld.trans (b3.mono hHeld.size)) (fun hHeld => ?_)
  clear hK K
  try simp only [Act.put, List.setIfInBounds_toArray, List.set_cons_zero, List.set_cons_succ]
  refine wpAnyH_ready (rs := [7]) (by kernel_rfl) (by simp) ?_
  refine AllReadyH.cons (o := { dst := some 68, op := Go.Op.call { callee := Go.Callee.value (Go.Operand.func 15), args := #[Go.Operand.tmp 65, Go.Operand.tmp 67], argTypes := #[22, 3] }, type := 3, pos := "ref.go:58", after := #[{ on := 4, ground := Go.Ground.data }, { on := 6, ground := Go.Ground.data }, { on := 3, ground := Go.Ground.chain }], guard := none }) rfl (fun K hK => ?_) AllReadyH.nil
  go_simp
  refine (qY.out _ (S1.out.below hHeld)).mono ?_
  rintro e v7 ⟨rfl, b7⟩
  go_simp
  refine hK.out _ _ (hHeld.trans (b7.mono hHeld.size)) (fun hHeld => ?_)
  clear hK K
  try simp only [Act.put, List.setIfInBounds_toArray, List.set_cons_zero, List.set_cons_succ]
  refine wpAnyH_take (i := 8) (oi := { dst := some 69, op := Go.Op.binOp Go.BinOp.sub 3 (Go.Operand.tmp 64) (Go.Operand.tmp 68) 3, type := 3, pos := "ref.go:58", after := #[{ on := 3, ground := Go.Ground.data }, { on := 7, ground := Go.Ground.data }], guard := none }) (v := ?v43) rfl (by kernel_rfl) (by kernel_rfl) (by kernel_rfl) (fun _ _ _ h => h) (Or.inl ⟨by kernel_rfl, ?h43⟩) (by assumption) ?r43
  case h43 => (intro w hSw; (try dsimp only at hSw); go_simp; try with_reducible rfl)
  try simp only [Act.put, List.setIfInBounds_toArray, List.set_cons_zero, List.set_cons_succ]
  refine wpAnyH_take (i := 11) (oi := { dst := some 72, op := Go.Op.binOp Go.BinOp.gtr 3 (Go.Operand.tmp 69) (Go.Operand.tmp 71) 3, type := 4, pos := "ref.go:58", after := #[{ on := 8, ground := Go.Ground.data }, { on := 10, ground := Go.Ground.data }], guard := none }) (v := ?v44) rfl (by kernel_rfl) (by kernel_rfl) (by kernel_rfl) (fun _ _ _ h => h) (Or.inl ⟨by kernel_rfl, ?h44⟩) (by assumption) ?r44
  case h44 => (intro w hSw; (try dsimp only at hSw); go_simp; try with_reducible rfl)
  try simp only [Act.put, List.setIfInBounds_toArray, List.set_cons_zero, List.set_cons_succ]
  refine wpAnyH_done (by kernel_rfl) ?_ _
  have bZ := Lib.hid (BL.out.trans (hHeld.mono BL.out.size))
  clear f0 f1 f2
  go_wp2
  go_ret2
  exact ⟨none, 0, rfl, SL.nil _, bZ.out⟩
set_option maxRecDepth 100000 in
set_option maxHeartbeats 1000000 in
theorem does_5_ok (n : Nat) (hn : n ≤ 8) (v : List Int) (X Y : Nat) (c : Int) (ch : Int) (hX : X ≤ n) (hY : Y ≤ n) (hv : -1099511627776 ≤ valF v Y ∧ valF v Y ≤ 1099511627776) (hw : -1099511627776 ≤ valF v X ∧ valF v X ≤ 1099511627776) (hg : ¬ c < valF v X - valF v Y) (a : Option Addr) (ca : Nat) (w : World) (h : SL w a n ca v) : Calls Tryz.prog 12 #[.agg #[.int .i64 5, .int .i64 X, .int .i64 Y, .int .i64 c, .int .i64 0], .slice a n ca, .int .i64 ch] w (DoS 0 n v w) := by
  obtain ⟨W1, hW1⟩ : ∃ W1, W1 = w.alloc (.cells #[.int .i64 5, .int .i64 X, .int .i64 Y, .int .i64 c, .int .i64 0] 26) := ⟨_, rfl⟩
  have X1 : Holds W1 w.heap.size 26 #[.int .i64 5, .int .i64 X, .int .i64 Y, .int .i64 c, .int .i64 0] := by rw [hW1]; exact Holds.new w _ _
  have BL := Lib.hid (show Below w.heap.size w W1 by rw [hW1]; exact box_below _ _ _)
  have S1 := Lib.hid (h.below BL.out)
  have hW1' := Lib.hid hW1
  have ZS := Lib.hid X1
  have hlen := Lib.hid h.len
  have k0 := X1.cell 0
  have k1 := X1.cell 1
  have k2 := X1.cell 2
  have k3 := X1.cell 3
  have k4 := X1.cell 4
  clear hW1 X1
  have hwr : IntKind.i64.wrap (valF v X - valF v Y) = valF v X - valF v Y := wrap_small (by omega) (by omega)
  have qX := Lib.hid (fun W hs => rvalG_any a v n ca (by omega) X hX W hs)
  have qY := Lib.hid (fun W hs => rvalG_any a v n ca (by omega) Y hY W hs)
  obtain ⟨i0, hii, hz0, hz1, hz2⟩ := info_parts infoInt
  have hlm := Lib.hid (show v.length = n from h.len.symm)
  clear h hv hw
  generalize valF v X = x at *
  generalize valF v Y = y at *
  go_enter Tryz.func12, Tryz.ntmps12
  go_wp2
  rw [← hW1'.out]
  have f0 : ∀ W, Below W1.heap.size W1 W → W.cell? ⟨w.heap.size, 1, none⟩ = some (.int .i64 X) := fun W hW => (ZS.out.below hW ZS.out.lt).cell 1
  have f1 : ∀ W, Below W1.heap.size W1 W → W.cell? ⟨w.heap.size, 2, none⟩ = some (.int .i64 Y) := fun W hW => (ZS.out.below hW ZS.out.lt).cell 2
  have f2 : ∀ W, Below W1.heap.size W1 W → W.cell? ⟨w.heap.size, 3, none⟩ = some (.int .i64 c) := fun W hW => (ZS.out.below hW ZS.out.lt).cell 3
  clear hW1' k0 k1 k2 k3 k4
  refine wp_drawn_on (fun W => Below W1.heap.size W1 W) (by kernel_rfl) (below_drew (Below.refl _ _)) (fun hHeld => ?_)
  refine wpAnyH_take (i := 0) (oi := { dst := some 61, op := Go.Op.move (Go.Operand.tmp 1), type := 22, pos := "ref.go:58", after := #[], guard := none }) (v := ?v45) rfl (by kernel_rfl) (by kernel_rfl) (by kernel_rfl) (fun _ _ _ h => h) (Or.inl ⟨by kernel_rfl, ?h45⟩) (by assumption) ?r45
  case h45 => (intro w hSw; (try dsimp only at hSw); go_simp; try with_reducible rfl)
  try simp only [Act.put, List.setIfInBounds_toArray, List.set_cons_zero, List.set_cons_succ]
  refine wpAnyH_take (i := 1) (oi := { dst := some 62, op := Go.Op.fieldAddr 26 (Go.Operand.tmp 3) 1, type := 0, pos := "ref.go:58", after := #[], guard := none }) (v := ?v46) rfl (by kernel_rfl) (by kernel_rfl) (by kernel_rfl) (fun _ _ _ h => h) (Or.inl ⟨by kernel_rfl, ?h46⟩) (by assumption) ?r46
  case h46 => (intro w hSw; (try dsimp only at hSw); go_simp; try with_reducible rfl)
  try simp only [Act.put, List.setIfInBounds_toArray, List.set_cons_zero, List.set_cons_succ]
  refine wpAnyH_take (i := 2) (oi := { dst := some 63, op := Go.Op.load 3 (Go.Operand.tmp 62), type := 3, pos := "ref.go:58", after := #[{ on := 1, ground := Go.Ground.data }], guard := none }) (v := ?v47) rfl (by kernel_rfl) (by kernel_rfl) (by kernel_rfl) (fun _ _ _ h => h) (Or.inl ⟨by kernel_rfl, ?h47⟩) (by assumption) ?r47
  case h47 => (intro w hSw; (try dsimp only at hSw); go_simp; try with_reducible rfl)
  try simp only [Act.put, List.setIfInBounds_toArray, List.set_cons_zero, List.set_cons_succ]
  refine wpAnyH_take (i := 4) (oi := { dst := some 65, op := Go.Op.move (Go.Operand.tmp 1), type := 22, pos := "ref.go:58", after := #[], guard := none }) (v := ?v48) rfl (by kernel_rfl) (by kernel_rfl) (by kernel_rfl) (fun _ _ _ h => h) (Or.inl ⟨by kernel_rfl, ?h48⟩) (by assumption) ?r48
  case h48 => (intro w hSw; (try dsimp only at hSw); go_simp; try with_reducible rfl)
  try simp only [Act.put, List.setIfInBounds_toArray, List.set_cons_zero, List.set_cons_succ]
  refine wpAnyH_take (i := 5) (oi := { dst := some 66, op := Go.Op.fieldAddr 26 (Go.Operand.tmp 3) 2, type := 0, pos := "ref.go:58", after := #[], guard := none }) (v := ?v49) rfl (by kernel_rfl) (by kernel_rfl) (by kernel_rfl) (fun _ _ _ h => h) (Or.inl ⟨by kernel_rfl, ?h49⟩) (by assumption) ?r49
  case h49 => (intro w hSw; (try dsimp only at hSw); go_simp; try with_reducible rfl)
  try simp only [Act.put, List.setIfInBounds_toArray, List.set_cons_zero, List.set_cons_succ]
  refine wpAnyH_take (i := 6) (oi := { dst := some 67, op := Go.Op.load 3 (Go.Operand.tmp 66), type := 3, pos := "ref.go:58", after := #[{ on := 5, ground := Go.Ground.data }], guard := none }) (v := ?v50) rfl (by kernel_rfl) (by kernel_rfl) (by kernel_rfl) (fun _ _ _ h => h) (Or.inl ⟨by kernel_rfl, ?h50⟩) (by assumption) ?r50
  case h50 => (intro w hSw; (try dsimp only at hSw); go_simp; try with_reducible rfl)
  try simp only [Act.put, List.setIfInBounds_toArray, List.set_cons_zero, List.set_cons_succ]
  refine wpAnyH_take (i := 9) (oi := { dst := some 70, op := Go.Op.fieldAddr 26 (Go.Operand.tmp 3) 3, type := 0, pos := "ref.go:58", after := #[], guard := none }) (v := ?v51) rfl (by kernel_rfl) (by kernel_rfl) (by kernel_rfl) (fun _ _ _ h => h) (Or.inl ⟨by kernel_rfl, ?h51⟩) (by assumption) ?r51
  case h51 => (intro w hSw; (try dsimp only at hSw); go_simp; try with_reducible rfl)
  try simp only [Act.put, List.setIfInBounds_toArray, List.set_cons_zero, List.set_cons_succ]
  refine wpAnyH_take (i := 10) (oi := { dst := some 71, op := Go.Op.load 3 (Go.Operand.tmp 70), type := 3, pos := "ref.go:58", after := #[{ on := 9, ground := Go.Ground.data }], guard := none }) (v := ?v52) rfl (by kernel_rfl) (by kernel_rfl) (by kernel_rfl) (fun _ _ _ h => h) (Or.inl ⟨by kernel_rfl, ?h52⟩) (by assumption) ?r52
  case h52 => (intro w hSw; (try dsimp only at hSw); go_simp; try with_reducible rfl)
  try simp only [Act.put, List.setIfInBounds_toArray, List.set_cons_zero, List.set_cons_succ]
  refine wpAnyH_ready (rs := [3]) (by kernel_rfl) (by simp) ?_
  refine AllReadyH.cons (o := { dst := some 64, op := Go.Op.call { callee := Go.Callee.value (Go.Operand.func 15), args := #[Go.Operand.tmp 61, Go.Operand.tmp 63], argTypes := #[22, 3] }, type := 3, pos := "ref.go:58", after := #[{ on := 0, ground := Go.Ground.data }, { on := 2, ground := Go.Ground.data }], guard := none }) rfl (fun K hK => ?_) AllReadyH.nil
  go_simp
  refine (qX.out _ (S1.out.below hHeld)).mono ?_
  rintro e v3 ⟨rfl, b3⟩
  go_simp
  refine hK.out _ _ (hHeld.trans (b3.mono hHeld.size)) (fun hHeld => ?_)
  clear hK K
  try simp only [Act.put, List.setIfInBounds_toArray, List.set_cons_zero, List.set_cons_succ]
  refine wpAnyH_ready (rs := [7]) (by kernel_rfl) (by simp) ?_
  refine AllReadyH.cons (o := { dst := some 68, op := Go.Op.call { callee := Go.Callee.value (Go.Operand.func 15), args := #[Go.Operand.tmp 65, Go.Operand.tmp 67], argTypes := #[22, 3] }, type := 3, pos := "ref.go:58", after := #[{ on := 4, ground := Go.Ground.data }, { on := 6, ground := Go.Ground.data }, { on := 3, ground := Go.Ground.chain }], guard := none }) rfl (fun K hK => ?_) AllReadyH.nil
  go_simp
  refine (qY.out _ (S1.out.below hHeld)).mono ?_
  rintro e v7 ⟨rfl, b7⟩
  go_simp
  refine hK.out _ _ (hHeld.trans (b7.mono hHeld.size)) (fun hHeld => ?_)
  clear hK K
  try simp only [Act.put, List.setIfInBounds_toArray, List.set_cons_zero, List.set_cons_succ]
  refine wpAnyH_take (i := 8) (oi := { dst := some 69, op := Go.Op.binOp Go.BinOp.sub 3 (Go.Operand.tmp 64) (Go.Operand.tmp 68) 3, type := 3, pos := "ref.go:58", after := #[{ on := 3, ground := Go.Ground.data }, { on := 7, ground := Go.Ground.data }], guard := none }) (v := ?v53) rfl (by kernel_rfl) (by kernel_rfl) (by kernel_rfl) (fun _ _ _ h => h) (Or.inl ⟨by kernel_rfl, ?h53⟩) (by assumption) ?r53
  case h53 => (intro w hSw; (try dsimp only at hSw); go_simp; try with_reducible rfl)
  try simp only [Act.put, List.setIfInBounds_toArray, List.set_cons_zero, List.set_cons_succ]
  refine wpAnyH_take (i := 11) (oi := { dst := some 72, op := Go.Op.binOp Go.BinOp.gtr 3 (Go.Operand.tmp 69) (Go.Operand.tmp 71) 3, type := 4, pos := "ref.go:58", after := #[{ on := 8, ground := Go.Ground.data }, { on := 10, ground := Go.Ground.data }], guard := none }) (v := ?v54) rfl (by kernel_rfl) (by kernel_rfl) (by kernel_rfl) (fun _ _ _ h => h) (Or.inl ⟨by kernel_rfl, ?h54⟩) (by assumption) ?r54
  case h54 => (intro w hSw; (try dsimp only at hSw); go_simp; try with_reducible rfl)
  try simp only [Act.put, List.setIfInBounds_toArray, List.set_cons_zero, List.set_cons_succ]
  refine wpAnyH_done (by kernel_rfl) ?_ _
  have bZ := Lib.hid (BL.out.trans (hHeld.mono BL.out.size))
  have SZ := Lib.hid (S1.out.below hHeld)
  have hbe : Hid (Below v7.heap.size v7 (v7.alloc (.cells #[] 3))) := Lib.hid (box_below _ _ _)
  clear f0 f1 f2
  go_upto_region 17 with fail
  go_wp2_with (at_builtin; refine wpList_append_sees _ rfl (.tmp 73) (.tmp 74) 22 rfl v7 3 i0 (.int .i64 0) 8 Tryz.underlying22 hii hz0 hz1 hz2 rfl .i64 _ [] (by exact own_empty 3 .i64 (Below.refl _ v7)) (by exact hbe.out) v7.heap.size a v (by exact SZ.out.sees.below hbe.out) n ca hlen.out rfl rfl (by have := hlm.out; simp; omega) (by omega) ?_; intro v2 w2 hown2 hw2; simp only [List.nil_append] at hown2; have O2 := Lib.hid hown2; have b2 := Lib.hid hw2; clear hown2 hw2; obtain ⟨a3, c3, e3, h3, s3⟩ := sees_own O2.out; have h3' := Lib.hid h3; have s3' := Lib.hid s3; clear h3 s3; subst e3)
  go_ret2
  have hcap := own_cap O2.out
  rw [hlm.out] at hcap
  exact ⟨a3, c3, congrArg (fun z => Ending.returned (.tuple #[.slice a3 z c3, .int .i64 0])) hlm.out, ⟨hlm.out.symm, hcap, by omega, s3'.out⟩, bZ.out.trans (b2.out.mono bZ.out.size)⟩
end Go.Proofs.YtplgmmjppmpnoaaGreatDoor
