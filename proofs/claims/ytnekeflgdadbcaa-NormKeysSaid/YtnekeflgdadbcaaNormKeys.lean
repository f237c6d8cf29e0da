/- NormKeys: the walk of the statement's function. -/
import Derived.Test.YtnekeflgdadbcaaNormTells
import Derived.Test.YtnekeflgdadbcaaDrawn
namespace Go.Proofs.Ytnekeflgdadbcaa
open Go.RowKit
set_option linter.unusedVariables false
set_option linter.unusedSimpArgs false

/-- Numbers' bytes, with something behind. -/
theorem leb_cut {n m : Nat} (hn : n ≤ 9223372036854775807) (hm : m ≤ 9223372036854775807) {x y : List Int} (h : leb n ++ x = leb m ++ y) : n = m ∧ x = y := by
  have g1 := getL_leb0 (n := (n : Int)) (by omega) (by omega) x
  have g2 := getL_leb0 (n := (m : Int)) (by omega) (by omega) y
  simp only [Int.toNat_natCast] at g1 g2
  rw [h, g2] at g1
  have e : n = m := by have := congrArg Prod.fst g1; simp at this; omega
  subst e
  exact ⟨rfl, List.append_cancel_left h⟩
theorem codes_inj {a b : ByteArray} (h : codes a = codes b) : a = b := by rw [← str_codes a, h, str_codes]
theorem keyL_inj {k1 k2 : Int} (h1 : (Lit.int .i64 k1).wf = true) (h2 : (Lit.int .i64 k2).wf = true) {f1 f2 : ByteArray} (hf1 : f1.size ≤ 100000) (hf2 : f2.size ≤ 100000) {x1 x2 : List Int} (hx1 : x1.length ≤ 100000) (hx2 : x2.length ≤ 100000) (n1 : 0 ≤ k1) (n2 : 0 ≤ k2)
    (h : keyL k1 f1 x1 = keyL k2 f2 x2) : k1 = k2 ∧ f1 = f2 ∧ x1 = x2 := by
  have w1 := i64_wf h1
  have w2 := i64_wf h2
  unfold keyL at h
  obtain ⟨e1, h⟩ := leb_cut (by omega) (by omega) h
  rw [List.append_assoc, List.append_assoc] at h
  obtain ⟨e2, h⟩ := leb_cut (by omega) (by omega) h
  have hl : (codes f1).length = (codes f2).length := by rw [codes_length, codes_length]; exact e2
  obtain ⟨e3, h⟩ := List.append_inj h hl
  obtain ⟨e4, h⟩ := leb_cut (by omega) (by omega) h
  exact ⟨by omega, codes_inj e3, h⟩
theorem keyL_bs (k : Int) (f : ByteArray) {x : List Int} (hx : Bs x) : Bs (keyL k f x) := by
  intro c hc
  simp only [keyL, List.mem_append] at hc
  rcases hc with hc | (hc | hc) | hc | hc
  · exact leb_bytes _ c hc
  · exact leb_bytes _ c hc
  · exact codes_bs f c hc
  · exact leb_bytes _ c hc
  · exact hx c hc
theorem keyL_len (k : Int) (hk : (Lit.int .i64 k).wf = true) (f : ByteArray) (hf : f.size ≤ 1000) {x : List Int} (hx : x.length ≤ 1000) : (keyL k f x).length ≤ 100000 := by
  have := i64_wf hk
  have h1 := leb_len64 (n := (max k 0).toNat) (by omega)
  have h2 := leb_len64 (n := f.size) (by omega)
  have h3 := leb_len64 (n := x.length) (by omega)
  have h4 := codes_length f
  simp only [keyL, List.length_append]; omega

theorem keys_eq (k1 k2 : Int) (h1 : (Lit.int .i64 k1).wf = true) (h2 : (Lit.int .i64 k2).wf = true) (f1 f2 s1 s2 : ByteArray) (hf1 : f1.size ≤ 1000) (hf2 : f2.size ≤ 1000) (hs1 : s1.size ≤ 1000) (hs2 : s2.size ≤ 1000) (n1 : 0 ≤ k1) (n2 : 0 ≤ k2) :
    ((strOfNums (keyL k1 f1 (normS (codes s1)))).toList == (strOfNums (keyL k2 f2 (normS (codes s2)))).toList) = decide (k1 = k2 ∧ f1 = f2 ∧ partsL (codes s1) = partsL (codes s2)) := by
  have b1 := norm_bs (parts_bs _ (Nat.le_refl _) (codes_bs s1)) false
  have b2 := norm_bs (parts_bs _ (Nat.le_refl _) (codes_bs s2)) false
  have l1 := normS_len (codes s1)
  have l2 := normS_len (codes s2)
  rw [codes_length] at l1 l2
  by_cases h : k1 = k2 ∧ f1 = f2 ∧ partsL (codes s1) = partsL (codes s2)
  · rw [decide_eq_true h, h.1, h.2.1, (normS_inj _ _).2 h.2.2]; simp
  · rw [decide_eq_false h]
    refine str_ne (keyL_bs _ _ b1) (keyL_bs _ _ b2) fun e => h ?_
    obtain ⟨e1, e2, e3⟩ := keyL_inj h1 h2 (by omega) (by omega) (by omega) (by omega) n1 n2 e
    exact ⟨e1, e2, (normS_inj _ _).1 e3⟩

set_option maxRecDepth 100000 in
set_option maxHeartbeats 8000000 in
theorem keys_small (w : World) (k1 : Int) (h1 : (Lit.int .i64 k1).wf = true) (f1 s1 : ByteArray) (k2 : Int) (h2 : (Lit.int .i64 k2).wf = true) (f2 s2 : ByteArray) (hf1 : f1.size ≤ 300) (hf2 : f2.size ≤ 300) (hs1 : s1.size ≤ 300) (hs2 : s2.size ≤ 300) :
    Calls Try.prog 6 #[.int .i64 k1, .string f1, .string s1, .int .i64 k2, .string f2, .string s2] w (Gives (.bool true) w) := by
  have hl := Lib.hid (fun W => lives_any W)
  have hK1 := Lib.hid (fun W => key_any k1 h1 f1 s1 (by omega) (by omega) W)
  have hK2 := Lib.hid (fun W => key_any k2 h2 f2 s2 (by omega) (by omega) W)
  have hR1 := Lib.hid (fun W => rkey_any k1 h1 f1 s1 (by omega) (by omega) W)
  have hSm := Lib.hid (fun W => nsame_any s1 s2 (by omega) (by omega) W)
  have hkeys := Lib.hid (fun n1 n2 => keys_eq k1 k2 h1 h2 f1 f2 s1 s2 (by omega) (by omega) (by omega) (by omega) n1 n2)
  have hXX := beq_same (strOfNums (keyL k1 f1 (normS (codes s1))))
  have hff := beq_same f1
  have g1 : (f1.size : Int) ≤ 300 := by omega
  have g2 : (f2.size : Int) ≤ 300 := by omega
  have g3 : (s1.size : Int) ≤ 300 := by omega
  have g4 : (s2.size : Int) ≤ 300 := by omega
  have r1 := i64_wf h1
  have r2 := i64_wf h2
  clear hf1 hf2 hs1 hs2 h1 h2
  generalize keyL k1 f1 (normS (codes s1)) = L1 at *
  generalize keyL k2 f2 (normS (codes s2)) = L2 at *
  generalize partsL (codes s1) = p1 at *
  generalize partsL (codes s2) = p2 at *
  have hd : Hid (∀ (n1 : 0 ≤ k1) (n2 : 0 ≤ k2), ((strOfNums L1).toList == (strOfNums L2).toList) = (decide (k1 = k2) && (decide (f1 = f2) && decide (p1 = p2)))) := Lib.hid (fun n1 n2 => by rw [hkeys.out n1 n2]; simp)
  clear hkeys
  generalize decide (p1 = p2) = d at *
  go_enter Try.func6, Try.ntmps6
  go_wp2_with fail
  refine (hK1.out w).mono ?_
  intro e w1 q1
  obtain ⟨a1, c1, rfl, s1', b1⟩ := q1.open _ rfl
  have S1 := Lib.hid s1'
  have B1 := Lib.hid b1
  clear q1 s1' b1 hK1
  go_wp2_with fail
  refine (hK2.out w1).mono ?_
  intro e w2 q2
  obtain ⟨a2, c2, rfl, s2', b2⟩ := q2.open _ rfl
  have B2 := Lib.hid (B1.out.trans (b2.mono B1.out.size))
  have hcv1 : ∀ W, Below w2.heap.size w2 W → (convert 30 9 (.slice a1 L1.length c1)).run Try.prog W = .ok (.string (strOfNums L1)) W := fun W hW => conv_sees _ 9 5 Try.underlying30 Try.underlying5 Try.underlying9 ((S1.out.below b2).below (hW.mono b2.size)) L1.length c1 rfl
  have hcv2 : ∀ W, Below w2.heap.size w2 W → (convert 30 9 (.slice a2 L2.length c2)).run Try.prog W = .ok (.string (strOfNums L2)) W := fun W hW => conv_sees _ 9 5 Try.underlying30 Try.underlying5 Try.underlying9 (s2'.below hW) L2.length c2 rfl
  have hcv1' := Lib.hid hcv1
  have hcv2' := Lib.hid hcv2
  clear q2 s2' b2 hK2 B1 S1 hcv2
  go_wp2_with fail
  refine wp_drawn (by kernel_rfl) (fun hHeld => ?_)
  refine wpAnyH_ready (rs := [0]) (by kernel_rfl) (by simp) ?_
  refine AllReadyH.cons (o := { dst := some 43, op := Go.Op.call { callee := Go.Callee.value (Go.Operand.func 7), args := #[], argTypes := #[] }, type := 4, pos := "law.go:63", after := #[], guard := none }) rfl (fun K hK => ?_) AllReadyH.nil
  go_simp
  refine (hl.out _).mono ?_
  rintro e w4 ⟨rfl, hb4⟩
  have hb4' : Below w2.heap.size w2 w4 := hHeld.trans (hb4.mono (Nat.le_refl _))
  go_simp
  refine hK.out _ _ (hb4') (fun hHeld => ?_)
  clear hK K
  try simp only [Act.put, List.setIfInBounds_toArray, List.set_cons_zero, List.set_cons_succ]
  refine wpAnyH_now hHeld (fun hHeld => ?_)
  replace hcv1 := rebase hcv1 (hb4')
  refine wpAnyH_take (i := 1) (oi := { dst := some 44, op := Go.Op.unOp Go.UnOp.not 4 (Go.Operand.tmp 43), type := 4, pos := "law.go:63", after := #[{ on := 0, ground := Go.Ground.data }], guard := none }) (v := ?v1) rfl (by kernel_rfl) (by kernel_rfl) (by kernel_rfl) (fun _ _ _ h => h) (Or.inl ⟨by kernel_rfl, ?h1⟩) (by assumption) ?r1
  case h1 => (intro w hSw; (try dsimp only at hSw); go_simp; try with_reducible rfl)
  try simp only [Act.put, List.setIfInBounds_toArray, List.set_cons_zero, List.set_cons_succ]
  refine wpAnyH_take (i := 2) (oi := { dst := some 45, op := Go.Op.move (Go.Operand.tmp 44), type := 4, pos := "law.go:63", after := #[{ on := 1, ground := Go.Ground.data }, { on := 0, ground := Go.Ground.chain }], guard := none }) (v := ?v2) rfl (by kernel_rfl) (by kernel_rfl) (by kernel_rfl) (fun _ _ _ h => h) (Or.inl ⟨by kernel_rfl, ?h2⟩) (by assumption) ?r2
  case h2 => (intro w hSw; (try dsimp only at hSw); go_simp; try with_reducible rfl)
  try simp only [Act.put, List.setIfInBounds_toArray, List.set_cons_zero, List.set_cons_succ]
  refine wpAnyH_take (i := 3) (oi := { dst := some 46, op := Go.Op.move (Go.Operand.tmp 13), type := 30, pos := "law.go:63", after := #[{ on := 2, ground := Go.Ground.guard }], guard := some (2, false) }) (v := ?v3) rfl (by kernel_rfl) (by kernel_rfl) (by kernel_rfl) (fun _ _ _ h => h) (Or.inl ⟨by kernel_rfl, ?h3⟩) (by assumption) ?r3
  case h3 => (intro w hSw; (try dsimp only at hSw); go_simp; try with_reducible rfl)
  try simp only [Act.put, List.setIfInBounds_toArray, List.set_cons_zero, List.set_cons_succ]
  refine wpAnyH_take (i := 4) (oi := { dst := some 47, op := Go.Op.convert 30 9 (Go.Operand.tmp 46), type := 9, pos := "law.go:63", after := #[{ on := 3, ground := Go.Ground.data }, { on := 2, ground := Go.Ground.guard }], guard := some (2, false) }) (v := ?v4) rfl (by kernel_rfl) (by kernel_rfl) (by kernel_rfl) (fun _ _ _ h => h) (Or.inl ⟨by kernel_rfl, ?h4⟩) (by assumption) ?r4
  case h4 => (intro w hSw; (try dsimp only at hSw); go_simp; try with_reducible rfl)
  try simp only [Act.put, List.setIfInBounds_toArray, List.set_cons_zero, List.set_cons_succ]
  refine wpAnyH_take (i := 5) (oi := { dst := some 48, op := Go.Op.move (Go.Operand.tmp 0), type := 3, pos := "law.go:63", after := #[{ on := 2, ground := Go.Ground.guard }], guard := some (2, false) }) (v := ?v5) rfl (by kernel_rfl) (by kernel_rfl) (by kernel_rfl) (fun _ _ _ h => h) (Or.inl ⟨by kernel_rfl, ?h5⟩) (by assumption) ?r5
  case h5 => (intro w hSw; (try dsimp only at hSw); go_simp; try with_reducible rfl)
  try simp only [Act.put, List.setIfInBounds_toArray, List.set_cons_zero, List.set_cons_succ]
  refine wpAnyH_take (i := 6) (oi := { dst := some 49, op := Go.Op.move (Go.Operand.tmp 1), type := 9, pos := "law.go:63", after := #[{ on := 2, ground := Go.Ground.guard }], guard := some (2, false) }) (v := ?v6) rfl (by kernel_rfl) (by kernel_rfl) (by kernel_rfl) (fun _ _ _ h => h) (Or.inl ⟨by kernel_rfl, ?h6⟩) (by assumption) ?r6
  case h6 => (intro w hSw; (try dsimp only at hSw); go_simp; try with_reducible rfl)
  try simp only [Act.put, List.setIfInBounds_toArray, List.set_cons_zero, List.set_cons_succ]
  refine wpAnyH_take (i := 7) (oi := { dst := some 50, op := Go.Op.move (Go.Operand.tmp 2), type := 9, pos := "law.go:63", after := #[{ on := 2, ground := Go.Ground.guard }], guard := some (2, false) }) (v := ?v7) rfl (by kernel_rfl) (by kernel_rfl) (by kernel_rfl) (fun _ _ _ h => h) (Or.inl ⟨by kernel_rfl, ?h7⟩) (by assumption) ?r7
  case h7 => (intro w hSw; (try dsimp only at hSw); go_simp; try with_reducible rfl)
  try simp only [Act.put, List.setIfInBounds_toArray, List.set_cons_zero, List.set_cons_succ]
  refine wpAnyH_ready (rs := [8]) (by kernel_rfl) (by simp) ?_
  refine AllReadyH.cons (o := { dst := some 51, op := Go.Op.call { callee := Go.Callee.value (Go.Operand.func 15), args := #[Go.Operand.tmp 48, Go.Operand.tmp 49, Go.Operand.tmp 50], argTypes := #[3, 9, 9] }, type := 30, pos := "law.go:63", after := #[{ on := 5, ground := Go.Ground.data }, { on := 6, ground := Go.Ground.data }, { on := 7, ground := Go.Ground.data }, { on := 2, ground := Go.Ground.chain }, { on := 2, ground := Go.Ground.guard }], guard := some (2, false) }) rfl (fun K hK => ?_) AllReadyH.nil
  go_simp
  refine (hR1.out _).mono ?_
  intro e w5 h5
  obtain ⟨a5, c5, rfl, hs5, hb5⟩ := h5.open L1.length rfl
  have hcv5 : ∀ W, Below w5.heap.size w5 W → (convert 30 9 (.slice a5 L1.length c5)).run Try.prog W = .ok (.string (strOfNums L1)) W := fun W hW => conv_sees _ 9 5 Try.underlying30 Try.underlying5 Try.underlying9 (hs5.below hW) L1.length c5 rfl
  clear h5 hs5
  go_simp
  refine hK.out _ _ (hb5) (fun hHeld => ?_)
  clear hK K
  try simp only [Act.put, List.setIfInBounds_toArray, List.set_cons_zero, List.set_cons_succ]
  refine wpAnyH_now hHeld (fun hHeld => ?_)
  replace hcv1 := rebase hcv1 (hb5)
  refine wpAnyH_take (i := 9) (oi := { dst := some 52, op := Go.Op.convert 30 9 (Go.Operand.tmp 51), type := 9, pos := "law.go:63", after := #[{ on := 8, ground := Go.Ground.data }, { on := 2, ground := Go.Ground.guard }], guard := some (2, false) }) (v := ?v8) rfl (by kernel_rfl) (by kernel_rfl) (by kernel_rfl) (fun _ _ _ h => h) (Or.inl ⟨by kernel_rfl, ?h8⟩) (by assumption) ?r8
  case h8 => (intro w hSw; (try dsimp only at hSw); go_simp; try with_reducible rfl)
  try simp only [Act.put, List.setIfInBounds_toArray, List.set_cons_zero, List.set_cons_succ]
  refine wpAnyH_take (i := 10) (oi := { dst := some 53, op := Go.Op.binOp Go.BinOp.neq 9 (Go.Operand.tmp 47) (Go.Operand.tmp 52) 9, type := 4, pos := "law.go:63", after := #[{ on := 4, ground := Go.Ground.data }, { on := 9, ground := Go.Ground.data }, { on := 2, ground := Go.Ground.guard }], guard := some (2, false) }) (v := ?v9) rfl (by kernel_rfl) (by kernel_rfl) (by kernel_rfl) (fun _ _ _ h => h) (Or.inl ⟨by kernel_rfl, ?h9⟩) (by assumption) ?r9
  case h9 => (intro w hSw; (try dsimp only at hSw); go_simp; try with_reducible rfl)
  try simp only [Act.put, List.setIfInBounds_toArray, List.set_cons_zero, List.set_cons_succ]
  refine wpAnyH_take (i := 11) (oi := { dst := some 54, op := Go.Op.pick (Go.Operand.tmp 45) (Go.Operand.const (Go.Value.bool true)) (Go.Operand.tmp 53), type := 4, pos := "law.go:63", after := #[{ on := 2, ground := Go.Ground.data }, { on := 10, ground := Go.Ground.data }], guard := none }) (v := ?v10) rfl (by kernel_rfl) (by kernel_rfl) (by kernel_rfl) (fun _ _ _ h => h) (Or.inl ⟨by kernel_rfl, ?h10⟩) (by assumption) ?r10
  case h10 => (intro w hSw; (try dsimp only at hSw); go_simp; try with_reducible rfl)
  try simp only [Act.put, List.setIfInBounds_toArray, List.set_cons_zero, List.set_cons_succ]
  refine wpAnyH_done (by kernel_rfl) ?_ _
  have hb5' : Below w2.heap.size w2 w5 := hb4'.trans (hb5.mono hb4'.size)
  have B5 := Lib.hid (B2.out.trans (hb5'.mono B2.out.size))
  have hS5 := Lib.hid hb5'.size
  have hcA := Lib.hid hcv1
  have hcB := Lib.hid (fun (W : World) (hW : Below w5.heap.size w5 W) => hcv2'.out W (hb5'.trans (hW.mono hb5'.size)))
  clear hb4 hb5 hcv1 hcv1' hcv5 hb5' hcv2' hb4' B2 hR1 hl hXX
  try clear hHeld
  by_cases hf : f1 = f2
  · subst hf
    have hff := beq_same f1
    go_wp2_with fail
    refine (hSm.out _).mono ?_
    rintro e w6 ⟨rfl, b6⟩
    have B6 := Lib.hid (B5.out.trans (b6.mono B5.out.size))
    have fA := hcA.out w6 b6
    have fB := hcB.out w6 b6
    clear b6 hcA hcB hSm B5
    cases d
    · by_cases n1 : k1 < 0
      · clear hd
        go_wp2
        go_ret
        exact ⟨rfl, B6.out⟩
      by_cases n2 : k2 < 0
      · clear hd
        have n1' : 0 ≤ k1 := by omega
        go_wp2
        go_ret
        exact ⟨rfl, B6.out⟩
      have hS := hd.out (by omega) (by omega)
      have n1' : 0 ≤ k1 := by omega
      have n2' : 0 ≤ k2 := by omega
      clear hd
      by_cases ek : k1 = k2
      · subst ek
        simp only [Bool.and_self, decide_true, decide_false, Bool.true_and, Bool.false_and, Bool.and_true, Bool.and_false] at hS
        go_wp2
        go_ret
        exact ⟨rfl, B6.out⟩
      · have ek2 : (k1 == k2) = false := by simpa using ek
        simp only [Bool.and_self, ek, decide_true, decide_false, Bool.true_and, Bool.false_and, Bool.and_true, Bool.and_false] at hS
        go_wp2
        go_ret
        exact ⟨rfl, B6.out⟩
    · by_cases n1 : k1 < 0
      · clear hd
        go_wp2
        go_ret
        exact ⟨rfl, B6.out⟩
      by_cases n2 : k2 < 0
      · clear hd
        have n1' : 0 ≤ k1 := by omega
        go_wp2
        go_ret
        exact ⟨rfl, B6.out⟩
      have hS := hd.out (by omega) (by omega)
      have n1' : 0 ≤ k1 := by omega
      have n2' : 0 ≤ k2 := by omega
      clear hd
      by_cases ek : k1 = k2
      · subst ek
        simp only [Bool.and_self, decide_true, decide_false, Bool.true_and, Bool.false_and, Bool.and_true, Bool.and_false] at hS
        go_wp2
        go_ret
        exact ⟨rfl, B6.out⟩
      · have ek2 : (k1 == k2) = false := by simpa using ek
        simp only [Bool.and_self, ek, decide_true, decide_false, Bool.true_and, Bool.false_and, Bool.and_true, Bool.and_false] at hS
        go_wp2
        go_ret
        exact ⟨rfl, B6.out⟩
  · have hff2 : (f1.toList == f2.toList) = false := txt_ne hf
    have fA := hcA.out w5 (Below.refl _ _)
    have fB := hcB.out w5 (Below.refl _ _)
    clear hcA hcB hSm
    by_cases n1 : k1 < 0
    · clear hd
      go_wp2
      go_ret
      exact ⟨rfl, B5.out⟩
    by_cases n2 : k2 < 0
    · clear hd
      have n1' : 0 ≤ k1 := by omega
      go_wp2
      go_ret
      exact ⟨rfl, B5.out⟩
    have hS := hd.out (by omega) (by omega)
    have n1' : 0 ≤ k1 := by omega
    have n2' : 0 ≤ k2 := by omega
    clear hd
    by_cases ek : k1 = k2
    · subst ek
      simp only [hf, decide_true, decide_false, Bool.true_and, Bool.false_and, Bool.and_true, Bool.and_false] at hS
      go_wp2
      go_ret
      exact ⟨rfl, B5.out⟩
    · have ek2 : (k1 == k2) = false := by simpa using ek
      simp only [hf, ek, decide_true, decide_false, Bool.true_and, Bool.false_and, Bool.and_true, Bool.and_false] at hS
      go_wp2
      go_ret
      exact ⟨rfl, B5.out⟩

set_option maxRecDepth 100000 in
set_option maxHeartbeats 4000000 in
theorem normKeys_walk (w : World) (k1 : Int) (h1 : (Lit.int .i64 k1).wf = true) (f1 : ByteArray) (hf1 : f1.size ≤ maxLen) (hf1' : f1.size ≤ 140737488351232) (s1 : ByteArray) (hs1 : s1.size ≤ maxLen) (hs1' : s1.size ≤ 140737488351232)
    (k2 : Int) (h2 : (Lit.int .i64 k2).wf = true) (f2 : ByteArray) (hf2 : f2.size ≤ maxLen) (hf2' : f2.size ≤ 140737488351232) (s2 : ByteArray) (hs2 : s2.size ≤ maxLen) (hs2' : s2.size ≤ 140737488351232) :
    Calls Try.prog 6 #[.int .i64 k1, .string f1, .string s1, .int .i64 k2, .string f2, .string s2] w (Gives (.bool true) w) := by
  by_cases hsm : (f1.size ≤ 300 ∧ s1.size ≤ 300) ∧ (f2.size ≤ 300 ∧ s2.size ≤ 300)
  · exact keys_small w k1 h1 f1 s1 k2 h2 f2 s2 hsm.1.1 hsm.2.1 hsm.1.2 hsm.2.2
  have hl := Lib.hid (fun W => lives_any W)
  clear hf1 hf2 hs1 hs2 h1 h2
  have gg : ¬ (((f1.size : Int) ≤ 300 ∧ (s1.size : Int) ≤ 300) ∧ ((f2.size : Int) ≤ 300 ∧ (s2.size : Int) ≤ 300)) := by omega
  clear hsm
  have q1 : (f1.size : Int) ≤ 140737488351232 := by omega
  have q2 : (f2.size : Int) ≤ 140737488351232 := by omega
  have q3 : (s1.size : Int) ≤ 140737488351232 := by omega
  have q4 : (s2.size : Int) ≤ 140737488351232 := by omega
  clear hf1' hf2' hs1' hs2'
  by_cases a1 : (f1.size : Int) ≤ 300
  · by_cases a2 : (s1.size : Int) ≤ 300
    · by_cases a3 : (f2.size : Int) ≤ 300
      · have a4 : ¬ (s2.size : Int) ≤ 300 := by omega
        clear gg
        go_enter Try.func6, Try.ntmps6
        go_wp2_with fail
        refine (hl.out w).mono ?_
        rintro e w1 ⟨rfl, b1⟩
        go_wp2_with fail
        go_ret
        exact ⟨rfl, b1⟩
      · clear gg
        go_enter Try.func6, Try.ntmps6
        go_wp2_with fail
        refine (hl.out w).mono ?_
        rintro e w1 ⟨rfl, b1⟩
        go_wp2_with fail
        go_ret
        exact ⟨rfl, b1⟩
    · clear gg
      go_enter Try.func6, Try.ntmps6
      go_wp2_with fail
      refine (hl.out w).mono ?_
      rintro e w1 ⟨rfl, b1⟩
      go_wp2_with fail
      go_ret
      exact ⟨rfl, b1⟩
  · clear gg
    go_enter Try.func6, Try.ntmps6
    go_wp2_with fail
    refine (hl.out w).mono ?_
    rintro e w1 ⟨rfl, b1⟩
    go_wp2_with fail
    go_ret
    exact ⟨rfl, b1⟩
end Go.Proofs.Ytnekeflgdadbcaa
