/- The document's Show and Parse of an interval. -/
import Derived.Test.YthjpkbhgpjefpaaDoorItvTextMath
import Derived.Test.YthjpkbhgpjefpaaDoorItvRef
import Derived.Test.YthjpkbhgpjefpaaDoorValRefParse
namespace Go.Proofs.YthjpkbhgpjefpaaDoor
open Go.RowKit
set_option linter.unusedVariables false
set_option linter.unusedSimpArgs false

theorem rshow_itv (a b : Int) (w : World) : Calls Tryd.prog 37 #[.agg #[.int .i64 a, .int .i64 b]] w (Gives (.string (strB (showI (ofL a b) (ofH a b)))) w) := by
  have hp := Lib.hid (fun w => rplain_any a b w)
  have he := Lib.hid (fun w => rempty_plain a b w)
  have hi := of_in a b
  have s1 := fun w => refshow_any (ofL a b) (by omega) (by omega) w
  have s2 := fun w => refshow_any (ofH a b) (by omega) (by omega) w
  have hs : Hid (strB (showI (ofL a b) (ofH a b)) = if ofL a b == 1 && ofH a b == 0 then ⟨#[110, 111, 110, 101]⟩ else (((⟨#[91]⟩ ++ strB (showV (ofL a b))) ++ ⟨#[44, 32]⟩) ++ strB (showV (ofH a b))) ++ ⟨#[93]⟩) := Lib.hid (by
    unfold showI
    split
    · rfl
    · rw [← strB_app, ← strB_app, ← strB_app, ← strB_app]; rfl)
  have l1 : (strB (showV (ofL a b))).size ≤ 21 := by rw [strB_size]; exact showV_len (by omega)
  have l2 : (strB (showV (ofH a b))).size ≤ 21 := by rw [strB_size]; exact showV_len (by omega)
  generalize strB (showI (ofL a b) (ofH a b)) = T at *
  generalize strB (showV (ofL a b)) = t1 at *
  generalize strB (showV (ofH a b)) = t2 at *
  generalize ofL a b = a1 at *
  generalize ofH a b = b1 at *
  have q1 := Lib.hid s1
  have q2 := Lib.hid s2
  clear s1 s2
  obtain ⟨kx, hB, hS⟩ := box1 w a b
  go_enter Tryd.func37, Tryd.ntmps37
  go_wp2_with fail
  refine (hp.out _).mono ?_
  rintro e w1 ⟨rfl, h1⟩
  have jx := kx.on h1 (by omega)
  have jB := hB.trans (h1.mono (by omega))
  have jS := h1.size
  have r0 := jx.c0
  have r1 := jx.c1
  have r2 := jx.f0
  have r3 := jx.f1
  have jx := jx.set a1 b1
  have jB := below_two (h := w.heap.size) jB (by omega) a1 b1
  have jS : w.heap.size < ((w1.setCell ⟨w.heap.size, 0, none⟩ (.int .i64 a1)).setCell ⟨w.heap.size, 1, none⟩ (.int .i64 b1)).heap.size := by rw [size_two]; omega
  go_wp2_with fail
  generalize (w1.setCell ⟨w.heap.size, 0, none⟩ (.int .i64 a1)).setCell ⟨w.heap.size, 1, none⟩ (.int .i64 b1) = w3 at *
  clear kx hB hS h1 r0 r1 r2 r3
  refine (he.out _).mono ?_
  rintro e w4 ⟨rfl, h4⟩
  have jx := jx.on h4 (by omega)
  have jB := jB.trans (h4.mono (by omega))
  have jS := Nat.lt_of_lt_of_le jS h4.size
  clear h4
  by_cases e1 : (a1 == 1 && b1 == 0) = true
  · have hs := Lib.hid (hs.out.trans (if_pos e1))
    rw [e1]
    clear e1 jx jS
    go_wp2
    go_ret
    exact ⟨by rw [hs.out]; rfl, jB⟩
  · have hs := Lib.hid (hs.out.trans (if_neg e1))
    have e1 : (a1 == 1 && b1 == 0) = false := by simpa using e1
    rw [e1]
    clear e1
    generalize hg : w.heap.size = g at jx jB jS ⊢
    have hx0 : ∀ W, Below w4.heap.size w4 W → W.cell? ⟨g, 0, none⟩ = some (.int .i64 a1) := fun W hW => (jx.on hW (by omega)).c0
    have hx1 : ∀ W, Below w4.heap.size w4 W → W.cell? ⟨g, 1, none⟩ = some (.int .i64 b1) := fun W hW => (jx.on hW (by omega)).c1
    have z1 : ¬ 9223372036854775807 < 1 + t1.size := by omega
    have z2 : ¬ 9223372036854775807 < 1 + t1.size + 2 := by omega
    have z3 : ¬ 9223372036854775807 < 1 + t1.size + 2 + t2.size := by omega
    have z4 : ¬ 9223372036854775807 < 1 + t1.size + 2 + t2.size + 1 := by omega
    go_wp2
    refine wp_drawn (by kernel_rfl) (fun hHeld => ?_)
    refine wpAnyH_take (i := 0) (oi := { dst := some 7, op := Go.Op.fieldAddr 23 (Go.Operand.tmp 1) 0, type := 0, pos := "ref.go:124", after := #[], guard := none }) (v := ?v1) rfl (by kernel_rfl) (by kernel_rfl) (by kernel_rfl) (fun _ _ _ h => h) (Or.inl ⟨by kernel_rfl, ?h1⟩) (by assumption) ?r1
    case h1 => (intro w hSw; (try dsimp only at hSw); go_simp; try with_reducible rfl)
    try simp only [Act.put, List.setIfInBounds_toArray, List.set_cons_zero, List.set_cons_succ]
    refine wpAnyH_take (i := 1) (oi := { dst := some 8, op := Go.Op.load 3 (Go.Operand.tmp 7), type := 3, pos := "ref.go:124", after := #[{ on := 0, ground := Go.Ground.data }], guard := none }) (v := ?v2) rfl (by kernel_rfl) (by kernel_rfl) (by kernel_rfl) (fun _ _ _ h => h) (Or.inl ⟨by kernel_rfl, ?h2⟩) (by assumption) ?r2
    case h2 => (intro w hSw; (try dsimp only at hSw); go_simp; try with_reducible rfl)
    try simp only [Act.put, List.setIfInBounds_toArray, List.set_cons_zero, List.set_cons_succ]
    refine wpAnyH_take (i := 5) (oi := { dst := some 12, op := Go.Op.fieldAddr 23 (Go.Operand.tmp 1) 1, type := 0, pos := "ref.go:124", after := #[], guard := none }) (v := ?v3) rfl (by kernel_rfl) (by kernel_rfl) (by kernel_rfl) (fun _ _ _ h => h) (Or.inl ⟨by kernel_rfl, ?h3⟩) (by assumption) ?r3
    case h3 => (intro w hSw; (try dsimp only at hSw); go_simp; try with_reducible rfl)
    try simp only [Act.put, List.setIfInBounds_toArray, List.set_cons_zero, List.set_cons_succ]
    refine wpAnyH_take (i := 6) (oi := { dst := some 13, op := Go.Op.load 3 (Go.Operand.tmp 12), type := 3, pos := "ref.go:124", after := #[{ on := 5, ground := Go.Ground.data }], guard := none }) (v := ?v4) rfl (by kernel_rfl) (by kernel_rfl) (by kernel_rfl) (fun _ _ _ h => h) (Or.inl ⟨by kernel_rfl, ?h4⟩) (by assumption) ?r4
    case h4 => (intro w hSw; (try dsimp only at hSw); go_simp; try with_reducible rfl)
    try simp only [Act.put, List.setIfInBounds_toArray, List.set_cons_zero, List.set_cons_succ]
    refine wpAnyH_ready (rs := [2]) (by kernel_rfl) (by simp) ?_
    refine AllReadyH.cons (o := { dst := some 9, op := Go.Op.call { callee := Go.Callee.value (Go.Operand.func 53), args := #[Go.Operand.tmp 8], argTypes := #[3] }, type := 9, pos := "ref.go:124", after := #[{ on := 1, ground := Go.Ground.data }], guard := none }) rfl (fun K hK => ?_) AllReadyH.nil
    go_simp
    refine (q1.out _).mono ?_
    rintro e w5 ⟨rfl, rfl⟩
    go_simp
    refine hK.out _ _ hHeld (fun hHeld => ?_)
    clear hK K
    try simp only [Act.put, List.setIfInBounds_toArray, List.set_cons_zero, List.set_cons_succ]
    refine wpAnyH_take (i := 3) (oi := { dst := some 10, op := Go.Op.binOp Go.BinOp.add 9 (Go.Operand.const (Go.Value.string { data := #[91] })) (Go.Operand.tmp 9) 9, type := 9, pos := "ref.go:124", after := #[{ on := 2, ground := Go.Ground.data }], guard := none }) (v := ?v5) rfl (by kernel_rfl) (by kernel_rfl) (by kernel_rfl) (fun _ _ _ h => h) (Or.inl ⟨by kernel_rfl, ?h5⟩) (by assumption) ?r5
    case h5 => (intro w hSw; (try dsimp only at hSw); go_simp; try with_reducible rfl)
    try simp only [Act.put, List.setIfInBounds_toArray, List.set_cons_zero, List.set_cons_succ]
    refine wpAnyH_take (i := 4) (oi := { dst := some 11, op := Go.Op.binOp Go.BinOp.add 9 (Go.Operand.tmp 10) (Go.Operand.const (Go.Value.string { data := #[44, 32] })) 9, type := 9, pos := "ref.go:124", after := #[{ on := 3, ground := Go.Ground.data }], guard := none }) (v := ?v6) rfl (by kernel_rfl) (by kernel_rfl) (by kernel_rfl) (fun _ _ _ h => h) (Or.inl ⟨by kernel_rfl, ?h6⟩) (by assumption) ?r6
    case h6 => (intro w hSw; (try dsimp only at hSw); go_simp; try with_reducible rfl)
    try simp only [Act.put, List.setIfInBounds_toArray, List.set_cons_zero, List.set_cons_succ]
    refine wpAnyH_ready (rs := [7]) (by kernel_rfl) (by simp) ?_
    refine AllReadyH.cons (o := { dst := some 14, op := Go.Op.call { callee := Go.Callee.value (Go.Operand.func 53), args := #[Go.Operand.tmp 13], argTypes := #[3] }, type := 9, pos := "ref.go:124", after := #[{ on := 6, ground := Go.Ground.data }, { on := 2, ground := Go.Ground.chain }], guard := none }) rfl (fun K hK => ?_) AllReadyH.nil
    go_simp
    refine (q2.out _).mono ?_
    rintro e w6 ⟨rfl, rfl⟩
    go_simp
    refine hK.out _ _ hHeld (fun hHeld => ?_)
    clear hK K
    try simp only [Act.put, List.setIfInBounds_toArray, List.set_cons_zero, List.set_cons_succ]
    refine wpAnyH_take (i := 8) (oi := { dst := some 15, op := Go.Op.binOp Go.BinOp.add 9 (Go.Operand.tmp 11) (Go.Operand.tmp 14) 9, type := 9, pos := "ref.go:124", after := #[{ on := 4, ground := Go.Ground.data }, { on := 7, ground := Go.Ground.data }], guard := none }) (v := ?v7) rfl (by kernel_rfl) (by kernel_rfl) (by kernel_rfl) (fun _ _ _ h => h) (Or.inl ⟨by kernel_rfl, ?h7⟩) (by assumption) ?r7
    case h7 => (intro w hSw; (try dsimp only at hSw); go_simp; try with_reducible rfl)
    try simp only [Act.put, List.setIfInBounds_toArray, List.set_cons_zero, List.set_cons_succ]
    refine wpAnyH_take (i := 9) (oi := { dst := some 16, op := Go.Op.binOp Go.BinOp.add 9 (Go.Operand.tmp 15) (Go.Operand.const (Go.Value.string { data := #[93] })) 9, type := 9, pos := "ref.go:124", after := #[{ on := 8, ground := Go.Ground.data }], guard := none }) (v := ?v8) rfl (by kernel_rfl) (by kernel_rfl) (by kernel_rfl) (fun _ _ _ h => h) (Or.inl ⟨by kernel_rfl, ?h8⟩) (by assumption) ?r8
    case h8 => (intro w hSw; (try dsimp only at hSw); go_simp; try with_reducible rfl)
    try simp only [Act.put, List.setIfInBounds_toArray, List.set_cons_zero, List.set_cons_succ]
    refine wpAnyH_take (i := 10) (oi := { dst := some 2, op := Go.Op.assign (Go.Operand.tmp 16), type := 9, pos := "ref.go:124", after := #[{ on := 9, ground := Go.Ground.data }, { on := 7, ground := Go.Ground.chain }, { on := 0, ground := Go.Ground.phase }, { on := 1, ground := Go.Ground.phase }, { on := 2, ground := Go.Ground.phase }, { on := 3, ground := Go.Ground.phase }, { on := 4, ground := Go.Ground.phase }, { on := 5, ground := Go.Ground.phase }, { on := 6, ground := Go.Ground.phase }, { on := 7, ground := Go.Ground.phase }, { on := 8, ground := Go.Ground.phase }, { on := 9, ground := Go.Ground.phase }], guard := none }) (v := ?v9) rfl (by kernel_rfl) (by kernel_rfl) (by kernel_rfl) (fun _ _ _ h => h) (Or.inl ⟨by kernel_rfl, ?h9⟩) (by assumption) ?r9
    case h9 => (intro w hSw; (try dsimp only at hSw); go_simp; try with_reducible rfl)
    try simp only [Act.put, List.setIfInBounds_toArray, List.set_cons_zero, List.set_cons_succ]
    refine wpAnyH_done (by kernel_rfl) ?_ _
    go_wp2
    go_ret
    exact ⟨by rw [hs.out]; rfl, by rw [hg]; exact jB.drew⟩
/-- What parses, or does not, as the walk of the document's Parse asks it. -/
theorem cut_list (s : ByteArray) (i j : Nat) : (s.extract i j).data.toList = (s.data.toList.take j).drop i := by
  rw [ByteArray.data_extract, Array.toList_extract, List.extract_eq_take_drop, List.drop_take]
theorem cut_small (s : ByteArray) (i j : Nat) (h : s.size ≤ 1000) : (s.extract i j).size ≤ 1000 := by
  rw [ByteArray.size_extract]; omega

theorem no_form {E L H : Int} (h : E = 70 ∧ L = 0 ∧ H = 0) : false = (E == 0) ∧ 0 = L ∧ 0 = H := by obtain ⟨rfl, rfl, rfl⟩ := h; exact ⟨rfl, rfl, rfl⟩
set_option maxHeartbeats 2000000 in
theorem rparse_itv (s : ByteArray) (hm : s.size ≤ 1000) (w : World) : Calls Tryd.prog 36 #[.string s] w (Gives (.tuple #[.agg #[.int .i64 (pIL s.data.toList), .int .i64 (pIH s.data.toList)], .bool (pIE s.data.toList == 0)]) w) := by
  have hlen : s.data.toList.length = s.size := by rw [Array.length_toList]; rfl
  have htl : s.toList = s.data.toList := ByteArray.toList_eq ..
  have hn := Lib.hid (fun w => rnone_any w)
  obtain ⟨kr, hB, hS⟩ := box1 w 0 0
  by_cases hnone : s.data.toList = [110, 111, 110, 101]
  · have e1 : pIE s.data.toList = 0 := if_pos hnone
    have e2 : pIL s.data.toList = 1 := if_pos hnone
    have e3 : pIH s.data.toList = 0 := if_pos hnone
    have h1 : (s.toList == [110, 111, 110, 101]) = true := by rw [htl, hnone]; rfl
    rw [e1, e2, e3]
    clear e1 e2 e3 hnone htl hlen
    go_enter Tryd.func36, Tryd.ntmps36
    go_wp2_with fail
    refine (hn.out _).mono ?_
    rintro e w1 ⟨rfl, h1⟩
    have jr := kr.on h1 (by omega)
    have jB := hB.trans (h1.mono (by omega))
    have r0 := jr.c0
    have r1 := jr.c1
    have r2 := jr.f0
    have r3 := jr.f1
    have kk := Lib.hid (jr.set 1 0)
    have kb := Lib.hid (below_two (h := w.heap.size) jB (by omega) 1 0)
    clear kr hB hS jr jB h1
    go_wp2
    exact held_ret2 kk.out rfl rfl kb.out _ _ 2 3 rfl rfl rfl rfl rfl
  · have h1 : (s.toList == [110, 111, 110, 101]) = false := by rw [htl, beq_eq_false_iff_ne]; exact hnone
    have q1 : pIE s.data.toList = prE s.data.toList := if_neg hnone
    have q2 : pIL s.data.toList = prL s.data.toList := if_neg hnone
    have q3 : pIH s.data.toList = prH s.data.toList := if_neg hnone
    rw [q1, q2, q3]
    have hcomma := Lib.hid (fun k => pr_comma (s := s.data.toList) hnone (k := k))
    have hend := Lib.hid (pr_end (s := s.data.toList) hnone)
    have hlen' := Lib.hid hlen
    have hb' := Lib.hid (byte_at s)
    have r0 := kr.c0
    have r1 := kr.c1
    have r2 := kr.f0
    have r3 := kr.f1
    have kz := Lib.hid kr
    have bz := Lib.hid hB
    clear q1 q2 q3 hnone htl hlen hn
    generalize prE s.data.toList = E at *
    generalize prL s.data.toList = L at *
    generalize prH s.data.toList = H at *
    go_enter Tryd.func36, Tryd.ntmps36
    go_wp2
    go_loop [4] (fun i => ∃ k : Nat, 1 ≤ k ∧ k ≤ 1000 ∧ Hid (∀ j, 1 ≤ j → j < k → s.data.toList[j]? ≠ some 44) ∧ i = .int .i64 k) (fun i => 1001 - (intOf i).toNat)
    case atStart => exact ⟨1, by omega, by omega, Lib.hid (fun j h1 h2 => by omega), rfl⟩
    case round =>
      obtain ⟨k, hk1, hk2, hbef, rfl⟩ := hrel
      by_cases hlt : k + 1 < s.size
      · have hks : k < s.size := by omega
        obtain ⟨c, hcE⟩ : ∃ c, c = s[k]'hks := ⟨_, rfl⟩
        have hc := hb'.out k hks
        rw [← hcE] at hc
        by_cases hc44 : c = 44
        · have hcx : ((s[k]'hks).toNat : Int) = 44 := by rw [← hcE, hc44]; rfl
          have hq := hcomma.out k hk1 (by rw [hc, hc44]) hbef.out
          have f1 : (s.extract 1 k).data.toList = (s.data.toList.take k).drop 1 := cut_list s 1 k
          have f2 : (s.extract (k + 2) (s.size - 1)).data.toList = (s.data.toList.take (s.data.toList.length - 1)).drop (k + 2) := by rw [hlen'.out]; exact cut_list s (k + 2) (s.size - 1)
          have g1 := fun w => refparse_any (s.extract 1 k) (cut_small s _ _ hm) w
          have g2 := fun w => refparse_any (s.extract (k + 2) (s.size - 1)) (cut_small s _ _ hm) w
          have hlong := hq.1
          obtain ⟨hyes, hno⟩ := hq.2 _ _ f1 f2
          rw [hlen'.out] at hlong
          have g3 := fun w => rshow_itv (parseN (s.extract 1 k).data.toList) (parseN (s.extract (k + 2) (s.size - 1)).data.toList) w
          have hcmp := str_beq2 (strB (showI (ofL (parseN (s.extract 1 k).data.toList) (parseN (s.extract (k + 2) (s.size - 1)).data.toList)) (ofH (parseN (s.extract 1 k).data.toList) (parseN (s.extract (k + 2) (s.size - 1)).data.toList)))) s
          rw [show (strB (showI (ofL (parseN (s.extract 1 k).data.toList) (parseN (s.extract (k + 2) (s.size - 1)).data.toList)) (ofH (parseN (s.extract 1 k).data.toList) (parseN (s.extract (k + 2) (s.size - 1)).data.toList)))).data.toList = (showI (ofL (parseN (s.extract 1 k).data.toList) (parseN (s.extract (k + 2) (s.size - 1)).data.toList)) (ofH (parseN (s.extract 1 k).data.toList) (parseN (s.extract (k + 2) (s.size - 1)).data.toList))) from rfl] at hcmp
          have s1 : ∀ W, (Instr.slice 9 (.string s) (some (.int .i64 1)) (some (.int .i64 (k : Int))) none).run Tryd.prog W = .ok (.string (s.extract 1 k)) W := fun W => run_slice_string W 9 s .i64 .i64 1 (k : Int) rfl (by omega) (by omega) (by omega)
          clear f1 f2 hcomma hend hlen' hb' hbef hc hq
          generalize (s.extract 1 k) = X at *
          by_cases hl : s.size - 1 < k + 2
          · have hz := Lib.hid (no_form (hlong hl))
            have d6 : decide ((s.size : Int) - 1 < (k : Int) + 2) = true := by simp; omega
            have g1 := Lib.hid g1
            generalize parseN X.data.toList = n1 at *
            generalize (parseV X.data.toList).isSome = b1 at *
            clear hyes hno hlong g2 g3 hcmp
            go_wp2_with fail
            refine (g1.out _).mono ?_
            rintro e w' ⟨rfl, rfl⟩
            go_wp2
            refine held_ret2 kz.out hz.out.2.1 hz.out.2.2 bz.out _ _ 2 3 rfl rfl rfl ?_ rfl
            exact congrArg Value.bool hz.out.1
          · have d6 : decide ((s.size : Int) - 1 < (k : Int) + 2) = false := by simp; omega
            have s2 : ∀ W, (Instr.slice 9 (.string s) (some (.int .i64 ((k : Int) + 2))) (some (.int .i64 ((s.size : Int) - 1))) none).run Tryd.prog W = .ok (.string (s.extract (k + 2) (s.size - 1))) W := fun W => by
              have h := run_slice_string (P := Tryd.prog) W 9 s .i64 .i64 ((k : Int) + 2) ((s.size : Int) - 1) rfl (by omega) (by omega) (by omega)
              rw [show ((k : Int) + 2).toNat = k + 2 by omega, show ((s.size : Int) - 1).toNat = s.size - 1 by omega] at h
              exact h
            generalize (s.extract (k + 2) (s.size - 1)) = Y at *
            generalize showI (ofL (parseN X.data.toList) (parseN Y.data.toList)) (ofH (parseN X.data.toList) (parseN Y.data.toList)) = T at *
            generalize parseN X.data.toList = n1 at *
            generalize (parseV X.data.toList).isSome = b1 at *
            generalize parseN Y.data.toList = n2 at *
            generalize (parseV Y.data.toList).isSome = b2 at *
            have hK : (b1 = true ∧ b2 = true ∧ T = s.data.toList) ↔ (b1 && b2 && decide (T = s.data.toList)) = true := by simp [and_assoc]
            rw [hK] at hyes hno
            clear hK hlong
            generalize decide (T = s.data.toList) = OK at *
            have g1 := Lib.hid g1
            have g2 := Lib.hid g2
            have g3 := Lib.hid g3
            have hyes := Lib.hid hyes
            have hno := Lib.hid hno
            have bad : (b1 && b2 && OK) = false → Hid (false = (E == 0) ∧ 0 = L ∧ 0 = H) := fun h => Lib.hid (no_form (hno.out (by rw [h]; decide)))
            have good : (b1 && b2 && OK) = true → Hid (true = (E == 0) ∧ n1 = L ∧ n2 = H) := fun h => Lib.hid (by
              obtain ⟨e1, e2, e3⟩ := hyes.out h
              rw [e1, e2, e3]; exact ⟨rfl, rfl, rfl⟩)
            have kx := Held.new (w.alloc (.cells #[.int .i64 0, .int .i64 0] 23)) n1 n2
            rw [hS] at kx
            have kr2 := kr.alloc (by omega) (.cells #[.int .i64 n1, .int .i64 n2] 23)
            have hB2 := hB.alloc (by omega) (.cells #[.int .i64 n1, .int .i64 n2] 23)
            have kz2 := Lib.hid kr2
            have bz2 := Lib.hid hB2
            clear hyes hno
            cases b1
            · have hz := bad rfl
              clear bad good
              go_wp2_with fail
              refine (g1.out _).mono ?_
              rintro e w' ⟨rfl, rfl⟩
              go_wp2_with fail
              refine (g2.out _).mono ?_
              rintro e w' ⟨rfl, rfl⟩
              go_wp2
              refine held_ret2 kz2.out hz.out.2.1 hz.out.2.2 bz2.out _ _ 2 3 rfl rfl rfl ?_ rfl
              exact congrArg Value.bool hz.out.1
            · cases b2
              · have hz := bad rfl
                clear bad good
                go_wp2_with fail
                refine (g1.out _).mono ?_
                rintro e w' ⟨rfl, rfl⟩
                go_wp2_with fail
                refine (g2.out _).mono ?_
                rintro e w' ⟨rfl, rfl⟩
                go_wp2
                refine held_ret2 kz2.out hz.out.2.1 hz.out.2.2 bz2.out _ _ 2 3 rfl rfl rfl ?_ rfl
                exact congrArg Value.bool hz.out.1
              · have r0 := kr2.c0
                have r1 := kr2.c1
                have r2 := kr2.f0
                have r3 := kr2.f1
                have x0 := kx.c0
                have x1 := kx.c1
                go_wp2_with fail
                refine (g1.out _).mono ?_
                rintro e w' ⟨rfl, rfl⟩
                go_wp2_with fail
                refine (g2.out _).mono ?_
                rintro e w' ⟨rfl, rfl⟩
                go_wp2_with fail
                refine (g3.out _).mono ?_
                rintro e w3 ⟨rfl, h3⟩
                clear r0 r1 r2 r3 x0 x1
                have kr3 := kr2.on h3 (by simp only [size_alloc1]; omega)
                have kx3 := kx.on h3 (by simp only [size_alloc1]; omega)
                have hB3 := hB2.trans (h3.mono (by simp only [size_alloc1]; omega))
                have r0 := kr3.c0
                have r1 := kr3.c1
                have r2 := kr3.f0
                have r3 := kr3.f1
                have x0 := kx3.c0
                have x1 := kx3.c1
                cases OK
                · have hz := bad rfl
                  have kz3 := Lib.hid (kr3.set 0 0)
                  have bz3 := Lib.hid (below_two (h := w.heap.size) hB3 (by omega) 0 0)
                  clear bad good kr3 kx3 hB3 h3 kr2 kx hB2
                  go_wp2
                  refine held_ret2 kz3.out hz.out.2.1 hz.out.2.2 bz3.out _ _ 2 3 rfl rfl rfl ?_ rfl
                  exact congrArg Value.bool hz.out.1
                · have hz := good rfl
                  have kz3 := Lib.hid (kr3.set n1 n2)
                  have bz3 := Lib.hid (below_two (h := w.heap.size) hB3 (by omega) n1 n2)
                  clear bad good kr3 kx3 hB3 h3 kr2 kx hB2
                  go_wp2
                  refine held_ret2 kz3.out hz.out.2.1 hz.out.2.2 bz3.out _ _ 2 3 rfl rfl rfl ?_ rfl
                  exact congrArg Value.bool hz.out.1
        · obtain ⟨x, hx⟩ : ∃ x, x = c.toNat := ⟨_, rfl⟩
          have hcx : ((s[k]'hks).toNat : Int) = (x : Int) := by rw [← hcE, hx]
          have d4 : ((x : Int) == 44) = false := by
            rw [beq_eq_false_iff_ne]; intro h; apply hc44; apply UInt8.toNat_inj.1; show _ = 44; omega
          have hb2 := Lib.hid (show ∀ j, 1 ≤ j → j < k + 1 → s.data.toList[j]? ≠ some 44 by
            intro j h1 h2
            rcases Nat.lt_or_eq_of_le (Nat.le_of_lt_succ h2) with h | h
            · exact hbef.out j h1 h
            · subst h; rw [hc]; intro e; exact hc44 (Option.some.inj e))
          have hnat : x ≤ 255 := by rw [hx]; have := c.toNat_lt; omega
          clear hc hc44 hx hcE r0 r1 r2 r3
          go_wp2
          go_round
          case rel => exact ⟨k + 1, by omega, by omega, hb2, by go_num⟩
          case measure => simp [intOf]; omega
      · have hz := Lib.hid (no_form (hend.out (fun j h1 h2 => by
          rw [hlen'.out] at h2
          exact hbef.out j h1 (by omega))))
        have d5 : decide ((k : Int) + 1 < (s.size : Int)) = false := by simp; omega
        go_wp2
        refine held_ret2 kz.out hz.out.2.1 hz.out.2.2 bz.out _ _ 2 3 rfl rfl rfl ?_ rfl
        exact congrArg Value.bool hz.out.1
end Go.Proofs.YthjpkbhgpjefpaaDoor
