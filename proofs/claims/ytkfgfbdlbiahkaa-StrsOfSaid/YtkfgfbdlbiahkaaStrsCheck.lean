/- Which rows of texts are tables; whether two are the same: of both. -/
import Derived.Test.YtkfgfbdlbiahkaaStrsData
import Derived.Test.YtkfgfbdlbiahkaaShelf
import Derived.Laws.Cover1
namespace Go.Proofs.Ytkfgfbdlbiahkaa
open Go.RowKit
set_option linter.unusedVariables false
set_option linter.unusedSimpArgs false

def longB (l : List ByteArray) : Bool := l.any fun s => decide (256 < s.size)
def ascB (l : List ByteArray) : Bool := (List.range (l.length - 1)).all fun k => lt8 (byt (l.getD k e0)) (byt (l.getD (k + 1) e0))
def checkT (l : List ByteArray) : Int := if 4096 < l.length ∨ longB l = true then 3 else if ascB l then 0 else 50
theorem toList_byt (s : ByteArray) : s.toList = byt s := by unfold byt; rw [ByteArray.toList_eq]
theorem txt_eq (s t : ByteArray) : (s.toList == t.toList) = decide (s = t) := by
  rw [toList_byt, toList_byt, Bool.eq_iff_iff, beq_iff_eq, decide_eq_true_iff]
  exact ⟨byt_inj, fun h => by rw [h]⟩
theorem leq_no {x y : ByteArray} (h : lt8 (byt y) (byt x) = true) : Op.bytesLess x.toList y.toList = false ∧ (x.toList == y.toList) = false := by
  rw [toList_byt, toList_byt]
  refine ⟨lt8_asymm h, ?_⟩
  rw [beq_eq_false_iff_ne]
  intro e
  rw [e, lt8_irrefl] at h
  cases h
theorem leq_yes {x y : ByteArray} (h : lt8 (byt y) (byt x) = false) : Op.bytesLess x.toList y.toList = true ∨ Op.bytesLess x.toList y.toList = false ∧ (x.toList == y.toList) = true := by
  rw [toList_byt, toList_byt]
  cases h2 : Op.bytesLess (byt x) (byt y)
  · right
    have := lt8_tri h2 h
    rw [this]
    simp
  · exact .inl rfl
theorem long_no {l : List ByteArray} (h : ∀ t, t < l.length → ¬ 256 < (l.getD t e0).size) : longB l = false := by
  unfold longB
  rw [List.any_eq_false]
  intro s hs
  obtain ⟨t, ht, rfl⟩ := List.getElem_of_mem hs
  have := h t ht
  simpa [List.getD, ht] using this
theorem long_yes {l : List ByteArray} {t : Nat} (ht : t < l.length) (h : 256 < (l.getD t e0).size) : longB l = true := by
  unfold longB
  rw [List.any_eq_true]
  exact ⟨l.getD t e0, by simp [List.getD, ht], by simpa using h⟩
theorem asc_no {l : List ByteArray} {k : Nat} (hk : k + 1 < l.length) (h : lt8 (byt (l.getD k e0)) (byt (l.getD (k + 1) e0)) = false) : ascB l = false := by
  unfold ascB
  rw [List.all_eq_false]
  exact ⟨k, by simp; omega, by rw [h]; simp⟩
theorem asc_yes {l : List ByteArray} (h : ∀ t, t + 1 < l.length → lt8 (byt (l.getD t e0)) (byt (l.getD (t + 1) e0)) = true) : ascB l = true := by
  unfold ascB
  rw [List.all_eq_true]
  intro t ht
  exact h t (by simp at ht; omega)
set_option maxRecDepth 100000 in
theorem lens_any (s : ByteArray) (w : World) : Calls Try.prog 24 #[.string s] w fun e w' => e = .returned (.bool (decide (256 < s.size))) ∧ w = w' := by
  have hd : decide ((256 : Int) < (s.size : Int)) = decide (256 < s.size) := by rw [decide_eq_decide]; omega
  go_enter Try.func24, Try.ntmps24
  go_wp2
  go_ret
  first | exact ⟨rfl, rfl⟩ | exact ⟨ret_bool hd, rfl⟩
set_option maxRecDepth 100000 in
set_option maxHeartbeats 1000000 in
theorem indexL_any (a : Option Addr) (n c : Nat) (l : List ByteArray) (hn : n ≤ 9223372036854775806) (w : World) (h : TT w a n c l) :
    Calls Try.prog 46 #[.slice a n c, .func (.func 24) #[] #[]] w fun e w' => (∃ x : Int, e = .returned (.int .i64 x) ∧ (longB l = true ↔ 0 ≤ x)) ∧ w = w' := by
  have hlen := Lib.hid h.len
  have hT := Lib.hid h
  clear h
  go_enter Try.func46, Try.ntmps46
  go_wp2
  go_loop [8] (fun x => ∃ k : Nat, k ≤ n ∧ x = .int .i64 k ∧ Hid (∀ t, t < k → ¬ 256 < (l.getD t e0).size)) (fun x => n - (intOf x).toNat)
  case atStart => exact ⟨0, by omega, rfl, Lib.hid (by intro t ht; omega)⟩
  case round =>
    obtain ⟨k, hk, rfl, hal⟩ := hrel
    by_cases hlt : k < n
    · have hki : (k : Int) < (n : Int) := by omega
      have hki2 : (k : Int) ≤ 9223372036854775805 := by omega
      have hkl : k < l.length := by rw [← hlen.out]; exact hlt
      obtain ⟨b, off, rfl, -, hc⟩ := hT.out.at_ hkl
      have i0 := hc k hkl
      have hq := Lib.hid (fun W => lens_any (l.getD k e0) W)
      have hno : Hid (¬ 256 < (l.getD k e0).size → ∀ t, t < k + 1 → ¬ 256 < (l.getD t e0).size) := Lib.hid (fun h t ht => by
        by_cases e : t = k
        · rw [e]; exact h
        · exact hal.out t (by omega))
      have hyes : Hid (256 < (l.getD k e0).size → longB l = true) := Lib.hid (fun h => long_yes hkl h)
      clear hc hal hT hkl
      generalize l.getD k e0 = s at *
      by_cases hb : 256 < s.size
      · have hR := Lib.hid (hyes.out hb)
        rw [decide_eq_true hb] at hq
        clear hb hno hyes
        go_wp2_with fail
        refine (hq.out _).mono ?_
        rintro e w1 ⟨rfl, rfl⟩
        go_wp2
        go_ret
        exact ⟨⟨k, rfl, by simp [hR.out]⟩, rfl⟩
      · have hS := Lib.hid (hno.out hb)
        rw [decide_eq_false hb] at hq
        clear hb hno hyes
        go_wp2_with fail
        refine (hq.out _).mono ?_
        rintro e w1 ⟨rfl, rfl⟩
        go_wp2
        go_round
        case rel => exact ⟨k + 1, by omega, by go_num, hS⟩
        case measure => simp [intOf]; omega
    · have hke : k = n := by omega
      have hki : ¬ (k : Int) < (n : Int) := by omega
      have hR := Lib.hid (long_no (l := l) (fun t ht => hal.out t (by rw [hke, hlen.out]; exact ht)))
      clear hke hal hlt
      go_wp2
      go_ret
      exact ⟨⟨-1, rfl, by simp [hR.out]⟩, rfl⟩
set_option maxRecDepth 100000 in
theorem containsL_any (a : Option Addr) (n c : Nat) (l : List ByteArray) (hn : n ≤ 9223372036854775806) (w : World) (h : TT w a n c l) :
    Calls Try.prog 25 #[.slice a n c, .func (.func 24) #[] #[]] w fun e w' => e = .returned (.bool (longB l)) ∧ w = w' := by
  have hq := Lib.hid (indexL_any a n c l hn w h)
  go_enter Try.func25, Try.ntmps25
  go_wp2_with fail
  refine hq.out.mono ?_
  rintro e w1 ⟨⟨x, rfl, hx⟩, rfl⟩
  have hd : decide (0 ≤ x) = longB l := by
    cases hl : longB l
    · rw [hl] at hx; exact decide_eq_false (fun h => by have := hx.2 h; cases this)
    · exact decide_eq_true (hx.1 hl)
  clear hx hq
  go_wp2
  go_ret
  first | exact ⟨rfl, rfl⟩ | exact ⟨ret_bool hd, rfl⟩
set_option maxRecDepth 100000 in
set_option maxHeartbeats 2000000 in
theorem check_any (a : Option Addr) (n c : Nat) (l : List ByteArray) (hn : n ≤ 9223372036854775806) (w : World) (h : TT w a n c l) : Calls Try.prog 10 #[.slice a n c] w (DrawnB (.int .i64 (checkT l)) w) := by
  have hlen := Lib.hid h.len
  have hT := Lib.hid h
  have hq := Lib.hid (containsL_any a n c l hn w h)
  clear h
  by_cases hbig : 4096 < n
  · have hbi : (4096 : Int) < (n : Int) := by omega
    have hR : Hid (checkT l = 3) := Lib.hid (by unfold checkT; rw [if_pos (.inl (by rw [← hlen.out]; exact hbig))])
    clear hbig
    go_enter Try.func10, Try.ntmps10
    go_wp2
    go_ret
    exact ⟨ret_int hR.out.symm, 0, rfl⟩
  · have hbi : ¬ (4096 : Int) < (n : Int) := by omega
    cases hl : longB l
    · have hsm : Hid (¬ (4096 < l.length ∨ longB l = true)) := Lib.hid (by rw [hl, ← hlen.out]; simp; omega)
      rw [hl] at hq
      clear hl
      go_enter Try.func10, Try.ntmps10
      go_wp2_with fail
      refine hq.out.mono ?_
      rintro e w1 ⟨rfl, rfl⟩
      clear hq
      go_wp2
      go_loopw [4] (fun x wr => ∃ k m : Nat, (k + 1 ≤ n ∨ k = 0) ∧ x = .int .i64 ((k : Int) + 1) ∧ Hid (∀ t, t < k → lt8 (byt (l.getD t e0)) (byt (l.getD (t + 1) e0)) = true) ∧ wr = w.drewN m) (fun x _ => n + 1 - (intOf x).toNat)
      case atStart => exact ⟨0, 0, .inr rfl, by simp, Lib.hid (by intro t ht; omega), rfl⟩
      case round =>
        obtain ⟨k, m, hk, rfl, hal, rfl⟩ := hrel
        by_cases hlt : k + 1 < n
        · have hki : (k : Int) + 1 < (n : Int) := by omega
          have hki2 : (k : Int) ≤ 4096 := by omega
          have hkl : k + 1 < l.length := by rw [← hlen.out]; exact hlt
          obtain ⟨b, off, rfl, -, hc⟩ := hT.out.at_ hkl
          have x0 := hc k (by omega)
          have x1 := hc (k + 1) hkl
          have hno := Lib.hid (fun h => asc_no (l := l) hkl h)
          have hyes : Hid (lt8 (byt (l.getD k e0)) (byt (l.getD (k + 1) e0)) = true → ∀ t, t < k + 1 → lt8 (byt (l.getD t e0)) (byt (l.getD (t + 1) e0)) = true) := Lib.hid (fun h t ht => by
            by_cases e : t = k
            · rw [e]; exact h
            · exact hal.out t (by omega))
          have hX := Lib.hid (fun h => leq_no (x := l.getD (k + 1) e0) (y := l.getD k e0) h)
          have hY := Lib.hid (fun h => leq_yes (x := l.getD (k + 1) e0) (y := l.getD k e0) h)
          have hwr : IntKind.i64.wrap (k : Int) = k := by simp [IntKind.wrap, IntKind.bits, IntKind.signed]; omega
          have hwr2 : IntKind.i64.wrap ((k : Int) + 1 - 1) = k := by rw [show (k : Int) + 1 - 1 = k by omega]; exact hwr
          have hwr3 : IntKind.i64.wrap ((k : Int) + 1 + 1) = (k : Int) + 1 + 1 := by simp [IntKind.wrap, IntKind.bits, IntKind.signed]; omega
          have hnt : ((k : Int) + 1).toNat = k + 1 := by omega
          have hp1 : (0 : Int) ≤ (k : Int) + 1 := by omega
          have hp2 : k < n := by omega
          clear hc hal hT hkl
          generalize lt8 (byt (l.getD k e0)) (byt (l.getD (k + 1) e0)) = lb at *
          generalize l.getD k e0 = y at *
          generalize l.getD (k + 1) e0 = x at *
          have g0 : ∀ W, (∃ j, W = w.drewN j) → W.cell? ⟨b, off + k, none⟩ = some (.string y) := fun W hW => by obtain ⟨j, rfl⟩ := hW; exact x0
          have g1 : ∀ W, (∃ j, W = w.drewN j) → W.cell? ⟨b, off + (k + 1), none⟩ = some (.string x) := fun W hW => by obtain ⟨j, rfl⟩ := hW; exact x1
          clear x0 x1
          cases lb
          · have hR : Hid (checkT l = 50) := Lib.hid (by unfold checkT; rw [if_neg hsm.out, hno.out rfl]; rfl)
            have hYY := hY.out rfl
            clear hno hyes hX hY
            rcases hYY with h1 | ⟨h1, h2⟩
            · go_wp2
              refine wp_drawn_on (fun W => ∃ j, W = w.drewN j) (by kernel_rfl) (⟨m + 1, rfl⟩) (fun hHeld => ?_)
              refine wpAnyH_take (i := 0) (oi := { dst := some 19, op := Go.Op.move (Go.Operand.tmp 0), type := 22, pos := "strs.go:26", after := #[], guard := none }) (v := ?v1) rfl (by kernel_rfl) (by kernel_rfl) (by kernel_rfl) (fun _ _ _ h => h) (Or.inl ⟨by kernel_rfl, ?h1⟩) (by assumption) ?r1
              case h1 => (intro w hSw; (try dsimp only at hSw); go_simp; try with_reducible rfl)
              try simp only [Act.put, List.setIfInBounds_toArray, List.set_cons_zero, List.set_cons_succ]
              refine wpAnyH_take (i := 1) (oi := { dst := some 20, op := Go.Op.move (Go.Operand.tmp 4), type := 3, pos := "strs.go:26", after := #[], guard := none }) (v := ?v2) rfl (by kernel_rfl) (by kernel_rfl) (by kernel_rfl) (fun _ _ _ h => h) (Or.inl ⟨by kernel_rfl, ?h2⟩) (by assumption) ?r2
              case h2 => (intro w hSw; (try dsimp only at hSw); go_simp; try with_reducible rfl)
              try simp only [Act.put, List.setIfInBounds_toArray, List.set_cons_zero, List.set_cons_succ]
              refine wpAnyH_take (i := 2) (oi := { dst := some 21, op := Go.Op.indexAddr 22 (Go.Operand.tmp 19) (Go.Operand.tmp 20), type := 0, pos := "strs.go:26", after := #[{ on := 0, ground := Go.Ground.data }, { on := 1, ground := Go.Ground.data }], guard := none }) (v := ?v3) rfl (by kernel_rfl) (by kernel_rfl) (by kernel_rfl) (fun _ _ _ h => h) (Or.inl ⟨by kernel_rfl, ?h3⟩) (by assumption) ?r3
              case h3 => (intro w hSw; (try dsimp only at hSw); go_simp; try with_reducible rfl)
              try simp only [Act.put, List.setIfInBounds_toArray, List.set_cons_zero, List.set_cons_succ]
              refine wpAnyH_take (i := 3) (oi := { dst := some 22, op := Go.Op.load 9 (Go.Operand.tmp 21), type := 9, pos := "strs.go:26", after := #[{ on := 2, ground := Go.Ground.data }], guard := none }) (v := ?v4) rfl (by kernel_rfl) (by kernel_rfl) (by kernel_rfl) (fun _ _ _ h => h) (Or.inl ⟨by kernel_rfl, ?h4⟩) (by assumption) ?r4
              case h4 => (intro w hSw; (try dsimp only at hSw); go_simp; try with_reducible rfl)
              try simp only [Act.put, List.setIfInBounds_toArray, List.set_cons_zero, List.set_cons_succ]
              refine wpAnyH_take (i := 4) (oi := { dst := some 23, op := Go.Op.move (Go.Operand.tmp 0), type := 22, pos := "strs.go:26", after := #[], guard := none }) (v := ?v5) rfl (by kernel_rfl) (by kernel_rfl) (by kernel_rfl) (fun _ _ _ h => h) (Or.inl ⟨by kernel_rfl, ?h5⟩) (by assumption) ?r5
              case h5 => (intro w hSw; (try dsimp only at hSw); go_simp; try with_reducible rfl)
              try simp only [Act.put, List.setIfInBounds_toArray, List.set_cons_zero, List.set_cons_succ]
              refine wpAnyH_take (i := 5) (oi := { dst := some 24, op := Go.Op.move (Go.Operand.tmp 4), type := 3, pos := "strs.go:26", after := #[], guard := none }) (v := ?v6) rfl (by kernel_rfl) (by kernel_rfl) (by kernel_rfl) (fun _ _ _ h => h) (Or.inl ⟨by kernel_rfl, ?h6⟩) (by assumption) ?r6
              case h6 => (intro w hSw; (try dsimp only at hSw); go_simp; try with_reducible rfl)
              try simp only [Act.put, List.setIfInBounds_toArray, List.set_cons_zero, List.set_cons_succ]
              refine wpAnyH_take (i := 6) (oi := { dst := some 25, op := Go.Op.binOp Go.BinOp.sub 3 (Go.Operand.tmp 24) (Go.Operand.const (Go.Value.int Go.IntKind.i64 1)) 3, type := 3, pos := "strs.go:26", after := #[{ on := 5, ground := Go.Ground.data }], guard := none }) (v := ?v7) rfl (by kernel_rfl) (by kernel_rfl) (by kernel_rfl) (fun _ _ _ h => h) (Or.inl ⟨by kernel_rfl, ?h7⟩) (by assumption) ?r7
              case h7 => (intro w hSw; (try dsimp only at hSw); go_simp; try with_reducible rfl)
              try simp only [Act.put, List.setIfInBounds_toArray, List.set_cons_zero, List.set_cons_succ]
              refine wpAnyH_take (i := 7) (oi := { dst := some 26, op := Go.Op.indexAddr 22 (Go.Operand.tmp 23) (Go.Operand.tmp 25), type := 0, pos := "strs.go:26", after := #[{ on := 4, ground := Go.Ground.data }, { on := 6, ground := Go.Ground.data }], guard := none }) (v := ?v8) rfl (by kernel_rfl) (by kernel_rfl) (by kernel_rfl) (fun _ _ _ h => h) (Or.inl ⟨by kernel_rfl, ?h8⟩) (by assumption) ?r8
              case h8 => (intro w hSw; (try dsimp only at hSw); go_simp; try with_reducible rfl)
              try simp only [Act.put, List.setIfInBounds_toArray, List.set_cons_zero, List.set_cons_succ]
              refine wpAnyH_take (i := 8) (oi := { dst := some 27, op := Go.Op.load 9 (Go.Operand.tmp 26), type := 9, pos := "strs.go:26", after := #[{ on := 7, ground := Go.Ground.data }], guard := none }) (v := ?v9) rfl (by kernel_rfl) (by kernel_rfl) (by kernel_rfl) (fun _ _ _ h => h) (Or.inl ⟨by kernel_rfl, ?h9⟩) (by assumption) ?r9
              case h9 => (intro w hSw; (try dsimp only at hSw); go_simp; try with_reducible rfl)
              try simp only [Act.put, List.setIfInBounds_toArray, List.set_cons_zero, List.set_cons_succ]
              refine wpAnyH_take (i := 9) (oi := { dst := some 28, op := Go.Op.binOp Go.BinOp.leq 9 (Go.Operand.tmp 22) (Go.Operand.tmp 27) 9, type := 4, pos := "strs.go:26", after := #[{ on := 3, ground := Go.Ground.data }, { on := 8, ground := Go.Ground.data }], guard := none }) (v := ?v10) rfl (by kernel_rfl) (by kernel_rfl) (by kernel_rfl) (fun _ _ _ h => h) (Or.inl ⟨by kernel_rfl, ?h10⟩) (by assumption) ?r10
              case h10 => (intro w hSw; (try dsimp only at hSw); go_simp; try with_reducible rfl)
              try simp only [Act.put, List.setIfInBounds_toArray, List.set_cons_zero, List.set_cons_succ]
              refine wpAnyH_done (by kernel_rfl) ?_ _
              clear g0 g1
              go_wp2
              go_ret
              exact ⟨ret_int hR.out.symm, m + 1, rfl⟩
            · go_wp2
              refine wp_drawn_on (fun W => ∃ j, W = w.drewN j) (by kernel_rfl) (⟨m + 1, rfl⟩) (fun hHeld => ?_)
              refine wpAnyH_take (i := 0) (oi := { dst := some 19, op := Go.Op.move (Go.Operand.tmp 0), type := 22, pos := "strs.go:26", after := #[], guard := none }) (v := ?v11) rfl (by kernel_rfl) (by kernel_rfl) (by kernel_rfl) (fun _ _ _ h => h) (Or.inl ⟨by kernel_rfl, ?h11⟩) (by assumption) ?r11
              case h11 => (intro w hSw; (try dsimp only at hSw); go_simp; try with_reducible rfl)
              try simp only [Act.put, List.setIfInBounds_toArray, List.set_cons_zero, List.set_cons_succ]
              refine wpAnyH_take (i := 1) (oi := { dst := some 20, op := Go.Op.move (Go.Operand.tmp 4), type := 3, pos := "strs.go:26", after := #[], guard := none }) (v := ?v12) rfl (by kernel_rfl) (by kernel_rfl) (by kernel_rfl) (fun _ _ _ h => h) (Or.inl ⟨by kernel_rfl, ?h12⟩) (by assumption) ?r12
              case h12 => (intro w hSw; (try dsimp only at hSw); go_simp; try with_reducible rfl)
              try simp only [Act.put, List.setIfInBounds_toArray, List.set_cons_zero, List.set_cons_succ]
              refine wpAnyH_take (i := 2) (oi := { dst := some 21, op := Go.Op.indexAddr 22 (Go.Operand.tmp 19) (Go.Operand.tmp 20), type := 0, pos := "strs.go:26", after := #[{ on := 0, ground := Go.Ground.data }, { on := 1, ground := Go.Ground.data }], guard := none }) (v := ?v13) rfl (by kernel_rfl) (by kernel_rfl) (by kernel_rfl) (fun _ _ _ h => h) (Or.inl ⟨by kernel_rfl, ?h13⟩) (by assumption) ?r13
              case h13 => (intro w hSw; (try dsimp only at hSw); go_simp; try with_reducible rfl)
              try simp only [Act.put, List.setIfInBounds_toArray, List.set_cons_zero, List.set_cons_succ]
              refine wpAnyH_take (i := 3) (oi := { dst := some 22, op := Go.Op.load 9 (Go.Operand.tmp 21), type := 9, pos := "strs.go:26", after := #[{ on := 2, ground := Go.Ground.data }], guard := none }) (v := ?v14) rfl (by kernel_rfl) (by kernel_rfl) (by kernel_rfl) (fun _ _ _ h => h) (Or.inl ⟨by kernel_rfl, ?h14⟩) (by assumption) ?r14
              case h14 => (intro w hSw; (try dsimp only at hSw); go_simp; try with_reducible rfl)
              try simp only [Act.put, List.setIfInBounds_toArray, List.set_cons_zero, List.set_cons_succ]
              refine wpAnyH_take (i := 4) (oi := { dst := some 23, op := Go.Op.move (Go.Operand.tmp 0), type := 22, pos := "strs.go:26", after := #[], guard := none }) (v := ?v15) rfl (by kernel_rfl) (by kernel_rfl) (by kernel_rfl) (fun _ _ _ h => h) (Or.inl ⟨by kernel_rfl, ?h15⟩) (by assumption) ?r15
              case h15 => (intro w hSw; (try dsimp only at hSw); go_simp; try with_reducible rfl)
              try simp only [Act.put, List.setIfInBounds_toArray, List.set_cons_zero, List.set_cons_succ]
              refine wpAnyH_take (i := 5) (oi := { dst := some 24, op := Go.Op.move (Go.Operand.tmp 4), type := 3, pos := "strs.go:26", after := #[], guard := none }) (v := ?v16) rfl (by kernel_rfl) (by kernel_rfl) (by kernel_rfl) (fun _ _ _ h => h) (Or.inl ⟨by kernel_rfl, ?h16⟩) (by assumption) ?r16
              case h16 => (intro w hSw; (try dsimp only at hSw); go_simp; try with_reducible rfl)
              try simp only [Act.put, List.setIfInBounds_toArray, List.set_cons_zero, List.set_cons_succ]
              refine wpAnyH_take (i := 6) (oi := { dst := some 25, op := Go.Op.binOp Go.BinOp.sub 3 (Go.Operand.tmp 24) (Go.Operand.const (Go.Value.int Go.IntKind.i64 1)) 3, type := 3, pos := "strs.go:26", after := #[{ on := 5, ground := Go.Ground.data }], guard := none }) (v := ?v17) rfl (by kernel_rfl) (by kernel_rfl) (by kernel_rfl) (fun _ _ _ h => h) (Or.inl ⟨by kernel_rfl, ?h17⟩) (by assumption) ?r17
              case h17 => (intro w hSw; (try dsimp only at hSw); go_simp; try with_reducible rfl)
              try simp only [Act.put, List.setIfInBounds_toArray, List.set_cons_zero, List.set_cons_succ]
              refine wpAnyH_take (i := 7) (oi := { dst := some 26, op := Go.Op.indexAddr 22 (Go.Operand.tmp 23) (Go.Operand.tmp 25), type := 0, pos := "strs.go:26", after := #[{ on := 4, ground := Go.Ground.data }, { on := 6, ground := Go.Ground.data }], guard := none }) (v := ?v18) rfl (by kernel_rfl) (by kernel_rfl) (by kernel_rfl) (fun _ _ _ h => h) (Or.inl ⟨by kernel_rfl, ?h18⟩) (by assumption) ?r18
              case h18 => (intro w hSw; (try dsimp only at hSw); go_simp; try with_reducible rfl)
              try simp only [Act.put, List.setIfInBounds_toArray, List.set_cons_zero, List.set_cons_succ]
              refine wpAnyH_take (i := 8) (oi := { dst := some 27, op := Go.Op.load 9 (Go.Operand.tmp 26), type := 9, pos := "strs.go:26", after := #[{ on := 7, ground := Go.Ground.data }], guard := none }) (v := ?v19) rfl (by kernel_rfl) (by kernel_rfl) (by kernel_rfl) (fun _ _ _ h => h) (Or.inl ⟨by kernel_rfl, ?h19⟩) (by assumption) ?r19
              case h19 => (intro w hSw; (try dsimp only at hSw); go_simp; try with_reducible rfl)
              try simp only [Act.put, List.setIfInBounds_toArray, List.set_cons_zero, List.set_cons_succ]
              refine wpAnyH_take (i := 9) (oi := { dst := some 28, op := Go.Op.binOp Go.BinOp.leq 9 (Go.Operand.tmp 22) (Go.Operand.tmp 27) 9, type := 4, pos := "strs.go:26", after := #[{ on := 3, ground := Go.Ground.data }, { on := 8, ground := Go.Ground.data }], guard := none }) (v := ?v20) rfl (by kernel_rfl) (by kernel_rfl) (by kernel_rfl) (fun _ _ _ h => h) (Or.inl ⟨by kernel_rfl, ?h20⟩) (by assumption) ?r20
              case h20 => (intro w hSw; (try dsimp only at hSw); go_simp; try with_reducible rfl)
              try simp only [Act.put, List.setIfInBounds_toArray, List.set_cons_zero, List.set_cons_succ]
              refine wpAnyH_done (by kernel_rfl) ?_ _
              clear g0 g1
              go_wp2
              go_ret
              exact ⟨ret_int hR.out.symm, m + 1, rfl⟩
          · obtain ⟨h1, h2⟩ := hX.out rfl
            have hS := Lib.hid (hyes.out rfl)
            clear hno hyes hX hY
            go_wp2
            refine wp_drawn_on (fun W => ∃ j, W = w.drewN j) (by kernel_rfl) (⟨m + 1, rfl⟩) (fun hHeld => ?_)
            refine wpAnyH_take (i := 0) (oi := { dst := some 19, op := Go.Op.move (Go.Operand.tmp 0), type := 22, pos := "strs.go:26", after := #[], guard := none }) (v := ?v21) rfl (by kernel_rfl) (by kernel_rfl) (by kernel_rfl) (fun _ _ _ h => h) (Or.inl ⟨by kernel_rfl, ?h21⟩) (by assumption) ?r21
            case h21 => (intro w hSw; (try dsimp only at hSw); go_simp; try with_reducible rfl)
            try simp only [Act.put, List.setIfInBounds_toArray, List.set_cons_zero, List.set_cons_succ]
            refine wpAnyH_take (i := 1) (oi := { dst := some 20, op := Go.Op.move (Go.Operand.tmp 4), type := 3, pos := "strs.go:26", after := #[], guard := none }) (v := ?v22) rfl (by kernel_rfl) (by kernel_rfl) (by kernel_rfl) (fun _ _ _ h => h) (Or.inl ⟨by kernel_rfl, ?h22⟩) (by assumption) ?r22
            case h22 => (intro w hSw; (try dsimp only at hSw); go_simp; try with_reducible rfl)
            try simp only [Act.put, List.setIfInBounds_toArray, List.set_cons_zero, List.set_cons_succ]
            refine wpAnyH_take (i := 2) (oi := { dst := some 21, op := Go.Op.indexAddr 22 (Go.Operand.tmp 19) (Go.Operand.tmp 20), type := 0, pos := "strs.go:26", after := #[{ on := 0, ground := Go.Ground.data }, { on := 1, ground := Go.Ground.data }], guard := none }) (v := ?v23) rfl (by kernel_rfl) (by kernel_rfl) (by kernel_rfl) (fun _ _ _ h => h) (Or.inl ⟨by kernel_rfl, ?h23⟩) (by assumption) ?r23
            case h23 => (intro w hSw; (try dsimp only at hSw); go_simp; try with_reducible rfl)
            try simp only [Act.put, List.setIfInBounds_toArray, List.set_cons_zero, List.set_cons_succ]
            refine wpAnyH_take (i := 3) (oi := { dst := some 22, op := Go.Op.load 9 (Go.Operand.tmp 21), type := 9, pos := "strs.go:26", after := #[{ on := 2, ground := Go.Ground.data }], guard := none }) (v := ?v24) rfl (by kernel_rfl) (by kernel_rfl) (by kernel_rfl) (fun _ _ _ h => h) (Or.inl ⟨by kernel_rfl, ?h24⟩) (by assumption) ?r24
            case h24 => (intro w hSw; (try dsimp only at hSw); go_simp; try with_reducible rfl)
            try simp only [Act.put, List.setIfInBounds_toArray, List.set_cons_zero, List.set_cons_succ]
            refine wpAnyH_take (i := 4) (oi := { dst := some 23, op := Go.Op.move (Go.Operand.tmp 0), type := 22, pos := "strs.go:26", after := #[], guard := none }) (v := ?v25) rfl (by kernel_rfl) (by kernel_rfl) (by kernel_rfl) (fun _ _ _ h => h) (Or.inl ⟨by kernel_rfl, ?h25⟩) (by assumption) ?r25
            case h25 => (intro w hSw; (try dsimp only at hSw); go_simp; try with_reducible rfl)
            try simp only [Act.put, List.setIfInBounds_toArray, List.set_cons_zero, List.set_cons_succ]
            refine wpAnyH_take (i := 5) (oi := { dst := some 24, op := Go.Op.move (Go.Operand.tmp 4), type := 3, pos := "strs.go:26", after := #[], guard := none }) (v := ?v26) rfl (by kernel_rfl) (by kernel_rfl) (by kernel_rfl) (fun _ _ _ h => h) (Or.inl ⟨by kernel_rfl, ?h26⟩) (by assumption) ?r26
            case h26 => (intro w hSw; (try dsimp only at hSw); go_simp; try with_reducible rfl)
            try simp only [Act.put, List.setIfInBounds_toArray, List.set_cons_zero, List.set_cons_succ]
            refine wpAnyH_take (i := 6) (oi := { dst := some 25, op := Go.Op.binOp Go.BinOp.sub 3 (Go.Operand.tmp 24) (Go.Operand.const (Go.Value.int Go.IntKind.i64 1)) 3, type := 3, pos := "strs.go:26", after := #[{ on := 5, ground := Go.Ground.data }], guard := none }) (v := ?v27) rfl (by kernel_rfl) (by kernel_rfl) (by kernel_rfl) (fun _ _ _ h => h) (Or.inl ⟨by kernel_rfl, ?h27⟩) (by assumption) ?r27
            case h27 => (intro w hSw; (try dsimp only at hSw); go_simp; try with_reducible rfl)
            try simp only [Act.put, List.setIfInBounds_toArray, List.set_cons_zero, List.set_cons_succ]
            refine wpAnyH_take (i := 7) (oi := { dst := some 26, op := Go.Op.indexAddr 22 (Go.Operand.tmp 23) (Go.Operand.tmp 25), type := 0, pos := "strs.go:26", after := #[{ on := 4, ground := Go.Ground.data }, { on := 6, ground := Go.Ground.data }], guard := none }) (v := ?v28) rfl (by kernel_rfl) (by kernel_rfl) (by kernel_rfl) (fun _ _ _ h => h) (Or.inl ⟨by kernel_rfl, ?h28⟩) (by assumption) ?r28
            case h28 => (intro w hSw; (try dsimp only at hSw); go_simp; try with_reducible rfl)
            try simp only [Act.put, List.setIfInBounds_toArray, List.set_cons_zero, List.set_cons_succ]
            refine wpAnyH_take (i := 8) (oi := { dst := some 27, op := Go.Op.load 9 (Go.Operand.tmp 26), type := 9, pos := "strs.go:26", after := #[{ on := 7, ground := Go.Ground.data }], guard := none }) (v := ?v29) rfl (by kernel_rfl) (by kernel_rfl) (by kernel_rfl) (fun _ _ _ h => h) (Or.inl ⟨by kernel_rfl, ?h29⟩) (by assumption) ?r29
            case h29 => (intro w hSw; (try dsimp only at hSw); go_simp; try with_reducible rfl)
            try simp only [Act.put, List.setIfInBounds_toArray, List.set_cons_zero, List.set_cons_succ]
            refine wpAnyH_take (i := 9) (oi := { dst := some 28, op := Go.Op.binOp Go.BinOp.leq 9 (Go.Operand.tmp 22) (Go.Operand.tmp 27) 9, type := 4, pos := "strs.go:26", after := #[{ on := 3, ground := Go.Ground.data }, { on := 8, ground := Go.Ground.data }], guard := none }) (v := ?v30) rfl (by kernel_rfl) (by kernel_rfl) (by kernel_rfl) (fun _ _ _ h => h) (Or.inl ⟨by kernel_rfl, ?h30⟩) (by assumption) ?r30
            case h30 => (intro w hSw; (try dsimp only at hSw); go_simp; try with_reducible rfl)
            try simp only [Act.put, List.setIfInBounds_toArray, List.set_cons_zero, List.set_cons_succ]
            refine wpAnyH_done (by kernel_rfl) ?_ _
            clear g0 g1
            go_wp2
            go_roundw
            case rel => exact ⟨k + 1, m + 1, .inl (by omega), by go_num, hS, rfl⟩
            case measure => simp [intOf]; omega
        · have hki : ¬ (k : Int) + 1 < (n : Int) := by omega
          have hR : Hid (checkT l = 0) := Lib.hid (by unfold checkT; rw [if_neg hsm.out, asc_yes (fun t ht => hal.out t (by have := hlen.out; omega))]; rfl)
          have hki2 : (k : Int) ≤ 4096 := by omega
          clear hal hlt
          go_wp2
          go_ret
          exact ⟨ret_int hR.out.symm, m, rfl⟩
    · have hR : Hid (checkT l = 3) := Lib.hid (by unfold checkT; rw [if_pos (.inr hl)])
      rw [hl] at hq
      clear hl
      go_enter Try.func10, Try.ntmps10
      go_wp2_with fail
      refine hq.out.mono ?_
      rintro e w1 ⟨rfl, rfl⟩
      clear hq
      go_wp2
      go_ret
      exact ⟨ret_int hR.out.symm, 0, rfl⟩
set_option maxRecDepth 100000 in
set_option maxHeartbeats 2000000 in
theorem rcheck_any (a : Option Addr) (n c : Nat) (l : List ByteArray) (w : World) (h : TT w a n c l) : Calls Try.prog 9 #[.slice a n c] w (DrawnB (.int .i64 (checkT l)) w) := by
  have hlen := Lib.hid h.len
  have hT := Lib.hid h
  clear h
  by_cases hbig : 4096 < n
  · have hbi : (4096 : Int) < (n : Int) := by omega
    have hR : Hid (checkT l = 3) := Lib.hid (by unfold checkT; rw [if_pos (.inl (by rw [← hlen.out]; exact hbig))])
    clear hbig
    go_enter Try.func9, Try.ntmps9
    go_wp2
    go_ret
    exact ⟨ret_int hR.out.symm, 0, rfl⟩
  · have hbi : ¬ (4096 : Int) < (n : Int) := by omega
    go_enter Try.func9, Try.ntmps9
    go_wp2
    go_loop [3] (fun x => ∃ k : Nat, k ≤ n ∧ x = .int .i64 k ∧ Hid (∀ t, t < k → ¬ 256 < (l.getD t e0).size)) (fun x => n - (intOf x).toNat)
    case atStart => exact ⟨0, by omega, rfl, Lib.hid (by intro t ht; omega)⟩
    case round =>
      obtain ⟨k, hk, rfl, hal⟩ := hrel
      by_cases hlt : k < n
      · have hki : (k : Int) < (n : Int) := by omega
        have hki2 : (k : Int) ≤ 4096 := by omega
        have hkl : k < l.length := by rw [← hlen.out]; exact hlt
        obtain ⟨b, off, rfl, -, hc⟩ := hT.out.at_ hkl
        have i0 := hc k hkl
        have hno : Hid (¬ 256 < (l.getD k e0).size → ∀ t, t < k + 1 → ¬ 256 < (l.getD t e0).size) := Lib.hid (fun h t ht => by
          by_cases e : t = k
          · rw [e]; exact h
          · exact hal.out t (by omega))
        have hyes : Hid (256 < (l.getD k e0).size → checkT l = 3) := Lib.hid (fun h => by unfold checkT; rw [if_pos (.inr (long_yes hkl h))])
        clear hc hal hT hkl
        generalize l.getD k e0 = s at *
        by_cases hb : 256 < s.size
        · have hR := Lib.hid (hyes.out hb)
          have hbi2 : (256 : Int) < (s.size : Int) := by omega
          clear hb hno hyes
          go_wp2
          go_ret
          exact ⟨ret_int hR.out.symm, 0, rfl⟩
        · have hS := Lib.hid (hno.out hb)
          have hbi2 : ¬ (256 : Int) < (s.size : Int) := by omega
          clear hb hno hyes
          go_wp2
          go_round
          case rel => exact ⟨k + 1, by omega, by go_num, hS⟩
          case measure => simp [intOf]; omega
      · have hke : k = n := by omega
        have hki : ¬ (k : Int) < (n : Int) := by omega
        have hll := long_no (l := l) (fun t ht => hal.out t (by rw [hke, hlen.out]; exact ht))
        have hsm : Hid (¬ (4096 < l.length ∨ longB l = true)) := Lib.hid (by rw [hll, ← hlen.out]; simp; omega)
        clear hke hal hlt hll
        go_wp2
        go_loopw [4] (fun x wr => ∃ k m : Nat, (k + 1 ≤ n ∨ k = 0) ∧ x = .int .i64 ((k : Int) + 1) ∧ Hid (∀ t, t < k → lt8 (byt (l.getD t e0)) (byt (l.getD (t + 1) e0)) = true) ∧ wr = w.drewN m) (fun x _ => n + 1 - (intOf x).toNat)
        case atStart => exact ⟨0, 0, .inr rfl, by simp, Lib.hid (by intro t ht; omega), rfl⟩
        case round =>
          obtain ⟨k, m, hk, rfl, hal, rfl⟩ := hrel
          by_cases hlt : k + 1 < n
          · have hki : (k : Int) + 1 < (n : Int) := by omega
            have hki2 : (k : Int) ≤ 4096 := by omega
            have hkl : k + 1 < l.length := by rw [← hlen.out]; exact hlt
            obtain ⟨b, off, rfl, -, hc⟩ := hT.out.at_ hkl
            have x0 := hc k (by omega)
            have x1 := hc (k + 1) hkl
            have hno := Lib.hid (fun h => asc_no (l := l) hkl h)
            have hyes : Hid (lt8 (byt (l.getD k e0)) (byt (l.getD (k + 1) e0)) = true → ∀ t, t < k + 1 → lt8 (byt (l.getD t e0)) (byt (l.getD (t + 1) e0)) = true) := Lib.hid (fun h t ht => by
              by_cases e : t = k
              · rw [e]; exact h
              · exact hal.out t (by omega))
            have hX := Lib.hid (fun h => leq_no (x := l.getD (k + 1) e0) (y := l.getD k e0) h)
            have hY := Lib.hid (fun h => leq_yes (x := l.getD (k + 1) e0) (y := l.getD k e0) h)
            have hwr : IntKind.i64.wrap (k : Int) = k := by simp [IntKind.wrap, IntKind.bits, IntKind.signed]; omega
            have hwr2 : IntKind.i64.wrap ((k : Int) + 1 - 1) = k := by rw [show (k : Int) + 1 - 1 = k by omega]; exact hwr
            have hwr3 : IntKind.i64.wrap ((k : Int) + 1 + 1) = (k : Int) + 1 + 1 := by simp [IntKind.wrap, IntKind.bits, IntKind.signed]; omega
            have hnt : ((k : Int) + 1).toNat = k + 1 := by omega
            have hp1 : (0 : Int) ≤ (k : Int) + 1 := by omega
            have hp2 : k < n := by omega
            clear hc hal hT hkl
            generalize lt8 (byt (l.getD k e0)) (byt (l.getD (k + 1) e0)) = lb at *
            generalize l.getD k e0 = y at *
            generalize l.getD (k + 1) e0 = x at *
            have g0 : ∀ W, (∃ j, W = w.drewN j) → W.cell? ⟨b, off + k, none⟩ = some (.string y) := fun W hW => by obtain ⟨j, rfl⟩ := hW; exact x0
            have g1 : ∀ W, (∃ j, W = w.drewN j) → W.cell? ⟨b, off + (k + 1), none⟩ = some (.string x) := fun W hW => by obtain ⟨j, rfl⟩ := hW; exact x1
            clear x0 x1
            cases lb
            · have hR : Hid (checkT l = 50) := Lib.hid (by unfold checkT; rw [if_neg hsm.out, hno.out rfl]; rfl)
              have hYY := hY.out rfl
              clear hno hyes hX hY
              rcases hYY with h1 | ⟨h1, h2⟩
              · go_wp2
                refine wp_drawn_on (fun W => ∃ j, W = w.drewN j) (by kernel_rfl) (⟨m + 1, rfl⟩) (fun hHeld => ?_)
                refine wpAnyH_take (i := 0) (oi := { dst := some 26, op := Go.Op.move (Go.Operand.tmp 0), type := 22, pos := "ref.go:37", after := #[], guard := none }) (v := ?v31) rfl (by kernel_rfl) (by kernel_rfl) (by kernel_rfl) (fun _ _ _ h => h) (Or.inl ⟨by kernel_rfl, ?h31⟩) (by assumption) ?r31
                case h31 => (intro w hSw; (try dsimp only at hSw); go_simp; try with_reducible rfl)
                try simp only [Act.put, List.setIfInBounds_toArray, List.set_cons_zero, List.set_cons_succ]
                refine wpAnyH_take (i := 1) (oi := { dst := some 27, op := Go.Op.move (Go.Operand.tmp 4), type := 3, pos := "ref.go:37", after := #[], guard := none }) (v := ?v32) rfl (by kernel_rfl) (by kernel_rfl) (by kernel_rfl) (fun _ _ _ h => h) (Or.inl ⟨by kernel_rfl, ?h32⟩) (by assumption) ?r32
                case h32 => (intro w hSw; (try dsimp only at hSw); go_simp; try with_reducible rfl)
                try simp only [Act.put, List.setIfInBounds_toArray, List.set_cons_zero, List.set_cons_succ]
                refine wpAnyH_take (i := 2) (oi := { dst := some 28, op := Go.Op.indexAddr 22 (Go.Operand.tmp 26) (Go.Operand.tmp 27), type := 0, pos := "ref.go:37", after := #[{ on := 0, ground := Go.Ground.data }, { on := 1, ground := Go.Ground.data }], guard := none }) (v := ?v33) rfl (by kernel_rfl) (by kernel_rfl) (by kernel_rfl) (fun _ _ _ h => h) (Or.inl ⟨by kernel_rfl, ?h33⟩) (by assumption) ?r33
                case h33 => (intro w hSw; (try dsimp only at hSw); go_simp; try with_reducible rfl)
                try simp only [Act.put, List.setIfInBounds_toArray, List.set_cons_zero, List.set_cons_succ]
                refine wpAnyH_take (i := 3) (oi := { dst := some 29, op := Go.Op.load 9 (Go.Operand.tmp 28), type := 9, pos := "ref.go:37", after := #[{ on := 2, ground := Go.Ground.data }], guard := none }) (v := ?v34) rfl (by kernel_rfl) (by kernel_rfl) (by kernel_rfl) (fun _ _ _ h => h) (Or.inl ⟨by kernel_rfl, ?h34⟩) (by assumption) ?r34
                case h34 => (intro w hSw; (try dsimp only at hSw); go_simp; try with_reducible rfl)
                try simp only [Act.put, List.setIfInBounds_toArray, List.set_cons_zero, List.set_cons_succ]
                refine wpAnyH_take (i := 4) (oi := { dst := some 30, op := Go.Op.move (Go.Operand.tmp 0), type := 22, pos := "ref.go:37", after := #[], guard := none }) (v := ?v35) rfl (by kernel_rfl) (by kernel_rfl) (by kernel_rfl) (fun _ _ _ h => h) (Or.inl ⟨by kernel_rfl, ?h35⟩) (by assumption) ?r35
                case h35 => (intro w hSw; (try dsimp only at hSw); go_simp; try with_reducible rfl)
                try simp only [Act.put, List.setIfInBounds_toArray, List.set_cons_zero, List.set_cons_succ]
                refine wpAnyH_take (i := 5) (oi := { dst := some 31, op := Go.Op.move (Go.Operand.tmp 4), type := 3, pos := "ref.go:37", after := #[], guard := none }) (v := ?v36) rfl (by kernel_rfl) (by kernel_rfl) (by kernel_rfl) (fun _ _ _ h => h) (Or.inl ⟨by kernel_rfl, ?h36⟩) (by assumption) ?r36
                case h36 => (intro w hSw; (try dsimp only at hSw); go_simp; try with_reducible rfl)
                try simp only [Act.put, List.setIfInBounds_toArray, List.set_cons_zero, List.set_cons_succ]
                refine wpAnyH_take (i := 6) (oi := { dst := some 32, op := Go.Op.binOp Go.BinOp.sub 3 (Go.Operand.tmp 31) (Go.Operand.const (Go.Value.int Go.IntKind.i64 1)) 3, type := 3, pos := "ref.go:37", after := #[{ on := 5, ground := Go.Ground.data }], guard := none }) (v := ?v37) rfl (by kernel_rfl) (by kernel_rfl) (by kernel_rfl) (fun _ _ _ h => h) (Or.inl ⟨by kernel_rfl, ?h37⟩) (by assumption) ?r37
                case h37 => (intro w hSw; (try dsimp only at hSw); go_simp; try with_reducible rfl)
                try simp only [Act.put, List.setIfInBounds_toArray, List.set_cons_zero, List.set_cons_succ]
                refine wpAnyH_take (i := 7) (oi := { dst := some 33, op := Go.Op.indexAddr 22 (Go.Operand.tmp 30) (Go.Operand.tmp 32), type := 0, pos := "ref.go:37", after := #[{ on := 4, ground := Go.Ground.data }, { on := 6, ground := Go.Ground.data }], guard := none }) (v := ?v38) rfl (by kernel_rfl) (by kernel_rfl) (by kernel_rfl) (fun _ _ _ h => h) (Or.inl ⟨by kernel_rfl, ?h38⟩) (by assumption) ?r38
                case h38 => (intro w hSw; (try dsimp only at hSw); go_simp; try with_reducible rfl)
                try simp only [Act.put, List.setIfInBounds_toArray, List.set_cons_zero, List.set_cons_succ]
                refine wpAnyH_take (i := 8) (oi := { dst := some 34, op := Go.Op.load 9 (Go.Operand.tmp 33), type := 9, pos := "ref.go:37", after := #[{ on := 7, ground := Go.Ground.data }], guard := none }) (v := ?v39) rfl (by kernel_rfl) (by kernel_rfl) (by kernel_rfl) (fun _ _ _ h => h) (Or.inl ⟨by kernel_rfl, ?h39⟩) (by assumption) ?r39
                case h39 => (intro w hSw; (try dsimp only at hSw); go_simp; try with_reducible rfl)
                try simp only [Act.put, List.setIfInBounds_toArray, List.set_cons_zero, List.set_cons_succ]
                refine wpAnyH_take (i := 9) (oi := { dst := some 35, op := Go.Op.binOp Go.BinOp.leq 9 (Go.Operand.tmp 29) (Go.Operand.tmp 34) 9, type := 4, pos := "ref.go:37", after := #[{ on := 3, ground := Go.Ground.data }, { on := 8, ground := Go.Ground.data }], guard := none }) (v := ?v40) rfl (by kernel_rfl) (by kernel_rfl) (by kernel_rfl) (fun _ _ _ h => h) (Or.inl ⟨by kernel_rfl, ?h40⟩) (by assumption) ?r40
                case h40 => (intro w hSw; (try dsimp only at hSw); go_simp; try with_reducible rfl)
                try simp only [Act.put, List.setIfInBounds_toArray, List.set_cons_zero, List.set_cons_succ]
                refine wpAnyH_done (by kernel_rfl) ?_ _
                clear g0 g1
                go_wp2
                go_ret
                exact ⟨ret_int hR.out.symm, m + 1, rfl⟩
              · go_wp2
                refine wp_drawn_on (fun W => ∃ j, W = w.drewN j) (by kernel_rfl) (⟨m + 1, rfl⟩) (fun hHeld => ?_)
                refine wpAnyH_take (i := 0) (oi := { dst := some 26, op := Go.Op.move (Go.Operand.tmp 0), type := 22, pos := "ref.go:37", after := #[], guard := none }) (v := ?v41) rfl (by kernel_rfl) (by kernel_rfl) (by kernel_rfl) (fun _ _ _ h => h) (Or.inl ⟨by kernel_rfl, ?h41⟩) (by assumption) ?r41
                case h41 => (intro w hSw; (try dsimp only at hSw); go_simp; try with_reducible rfl)
                try simp only [Act.put, List.setIfInBounds_toArray, List.set_cons_zero, List.set_cons_succ]
                refine wpAnyH_take (i := 1) (oi := { dst := some 27, op := Go.Op.move (Go.Operand.tmp 4), type := 3, pos := "ref.go:37", after := #[], guard := none }) (v := ?v42) rfl (by kernel_rfl) (by kernel_rfl) (by kernel_rfl) (fun _ _ _ h => h) (Or.inl ⟨by kernel_rfl, ?h42⟩) (by assumption) ?r42
                case h42 => (intro w hSw; (try dsimp only at hSw); go_simp; try with_reducible rfl)
                try simp only [Act.put, List.setIfInBounds_toArray, List.set_cons_zero, List.set_cons_succ]
                refine wpAnyH_take (i := 2) (oi := { dst := some 28, op := Go.Op.indexAddr 22 (Go.Operand.tmp 26) (Go.Operand.tmp 27), type := 0, pos := "ref.go:37", after := #[{ on := 0, ground := Go.Ground.data }, { on := 1, ground := Go.Ground.data }], guard := none }) (v := ?v43) rfl (by kernel_rfl) (by kernel_rfl) (by kernel_rfl) (fun _ _ _ h => h) (Or.inl ⟨by kernel_rfl, ?h43⟩) (by assumption) ?r43
                case h43 => (intro w hSw; (try dsimp only at hSw); go_simp; try with_reducible rfl)
                try simp only [Act.put, List.setIfInBounds_toArray, List.set_cons_zero, List.set_cons_succ]
                refine wpAnyH_take (i := 3) (oi := { dst := some 29, op := Go.Op.load 9 (Go.Operand.tmp 28), type := 9, pos := "ref.go:37", after := #[{ on := 2, ground := Go.Ground.data }], guard := none }) (v := ?v44) rfl (by kernel_rfl) (by kernel_rfl) (by kernel_rfl) (fun _ _ _ h => h) (Or.inl ⟨by kernel_rfl, ?h44⟩) (by assumption) ?r44
                case h44 => (intro w hSw; (try dsimp only at hSw); go_simp; try with_reducible rfl)
                try simp only [Act.put, List.setIfInBounds_toArray, List.set_cons_zero, List.set_cons_succ]
                refine wpAnyH_take (i := 4) (oi := { dst := some 30, op := Go.Op.move (Go.Operand.tmp 0), type := 22, pos := "ref.go:37", after := #[], guard := none }) (v := ?v45) rfl (by kernel_rfl) (by kernel_rfl) (by kernel_rfl) (fun _ _ _ h => h) (Or.inl ⟨by kernel_rfl, ?h45⟩) (by assumption) ?r45
                case h45 => (intro w hSw; (try dsimp only at hSw); go_simp; try with_reducible rfl)
                try simp only [Act.put, List.setIfInBounds_toArray, List.set_cons_zero, List.set_cons_succ]
                refine wpAnyH_take (i := 5) (oi := { dst := some 31, op := Go.Op.move (Go.Operand.tmp 4), type := 3, pos := "ref.go:37", after := #[], guard := none }) (v := ?v46) rfl (by kernel_rfl) (by kernel_rfl) (by kernel_rfl) (fun _ _ _ h => h) (Or.inl ⟨by kernel_rfl, ?h46⟩) (by assumption) ?r46
                case h46 => (intro w hSw; (try dsimp only at hSw); go_simp; try with_reducible rfl)
                try simp only [Act.put, List.setIfInBounds_toArray, List.set_cons_zero, List.set_cons_succ]
                refine wpAnyH_take (i := 6) (oi := { dst := some 32, op := Go.Op.binOp Go.BinOp.sub 3 (Go.Operand.tmp 31) (Go.Operand.const (Go.Value.int Go.IntKind.i64 1)) 3, type := 3, pos := "ref.go:37", after := #[{ on := 5, ground := Go.Ground.data }], guard := none }) (v := ?v47) rfl (by kernel_rfl) (by kernel_rfl) (by kernel_rfl) (fun _ _ _ h => h) (Or.inl ⟨by kernel_rfl, ?h47⟩) (by assumption) ?r47
                case h47 => (intro w hSw; (try dsimp only at hSw); go_simp; try with_reducible rfl)
                try simp only [Act.put, List.setIfInBounds_toArray, List.set_cons_zero, List.set_cons_succ]
                refine wpAnyH_take (i := 7) (oi := { dst := some 33, op := Go.Op.indexAddr 22 (Go.Operand.tmp 30) (Go.Operand.tmp 32), type := 0, pos := "ref.go:37", after := #[{ on := 4, ground := Go.Ground.data }, { on := 6, ground := Go.Ground.data }], guard := none }) (v := ?v48) rfl (by kernel_rfl) (by kernel_rfl) (by kernel_rfl) (fun _ _ _ h => h) (Or.inl ⟨by kernel_rfl, ?h48⟩) (by assumption) ?r48
                case h48 => (intro w hSw; (try dsimp only at hSw); go_simp; try with_reducible rfl)
                try simp only [Act.put, List.setIfInBounds_toArray, List.set_cons_zero, List.set_cons_succ]
                refine wpAnyH_take (i := 8) (oi := { dst := some 34, op := Go.Op.load 9 (Go.Operand.tmp 33), type := 9, pos := "ref.go:37", after := #[{ on := 7, ground := Go.Ground.data }], guard := none }) (v := ?v49) rfl (by kernel_rfl) (by kernel_rfl) (by kernel_rfl) (fun _ _ _ h => h) (Or.inl ⟨by kernel_rfl, ?h49⟩) (by assumption) ?r49
                case h49 => (intro w hSw; (try dsimp only at hSw); go_simp; try with_reducible rfl)
                try simp only [Act.put, List.setIfInBounds_toArray, List.set_cons_zero, List.set_cons_succ]
                refine wpAnyH_take (i := 9) (oi := { dst := some 35, op := Go.Op.binOp Go.BinOp.leq 9 (Go.Operand.tmp 29) (Go.Operand.tmp 34) 9, type := 4, pos := "ref.go:37", after := #[{ on := 3, ground := Go.Ground.data }, { on := 8, ground := Go.Ground.data }], guard := none }) (v := ?v50) rfl (by kernel_rfl) (by kernel_rfl) (by kernel_rfl) (fun _ _ _ h => h) (Or.inl ⟨by kernel_rfl, ?h50⟩) (by assumption) ?r50
                case h50 => (intro w hSw; (try dsimp only at hSw); go_simp; try with_reducible rfl)
                try simp only [Act.put, List.setIfInBounds_toArray, List.set_cons_zero, List.set_cons_succ]
                refine wpAnyH_done (by kernel_rfl) ?_ _
                clear g0 g1
                go_wp2
                go_ret
                exact ⟨ret_int hR.out.symm, m + 1, rfl⟩
            · obtain ⟨h1, h2⟩ := hX.out rfl
              have hS := Lib.hid (hyes.out rfl)
              clear hno hyes hX hY
              go_wp2
              refine wp_drawn_on (fun W => ∃ j, W = w.drewN j) (by kernel_rfl) (⟨m + 1, rfl⟩) (fun hHeld => ?_)
              refine wpAnyH_take (i := 0) (oi := { dst := some 26, op := Go.Op.move (Go.Operand.tmp 0), type := 22, pos := "ref.go:37", after := #[], guard := none }) (v := ?v51) rfl (by kernel_rfl) (by kernel_rfl) (by kernel_rfl) (fun _ _ _ h => h) (Or.inl ⟨by kernel_rfl, ?h51⟩) (by assumption) ?r51
              case h51 => (intro w hSw; (try dsimp only at hSw); go_simp; try with_reducible rfl)
              try simp only [Act.put, List.setIfInBounds_toArray, List.set_cons_zero, List.set_cons_succ]
              refine wpAnyH_take (i := 1) (oi := { dst := some 27, op := Go.Op.move (Go.Operand.tmp 4), type := 3, pos := "ref.go:37", after := #[], guard := none }) (v := ?v52) rfl (by kernel_rfl) (by kernel_rfl) (by kernel_rfl) (fun _ _ _ h => h) (Or.inl ⟨by kernel_rfl, ?h52⟩) (by assumption) ?r52
              case h52 => (intro w hSw; (try dsimp only at hSw); go_simp; try with_reducible rfl)
              try simp only [Act.put, List.setIfInBounds_toArray, List.set_cons_zero, List.set_cons_succ]
              refine wpAnyH_take (i := 2) (oi := { dst := some 28, op := Go.Op.indexAddr 22 (Go.Operand.tmp 26) (Go.Operand.tmp 27), type := 0, pos := "ref.go:37", after := #[{ on := 0, ground := Go.Ground.data }, { on := 1, ground := Go.Ground.data }], guard := none }) (v := ?v53) rfl (by kernel_rfl) (by kernel_rfl) (by kernel_rfl) (fun _ _ _ h => h) (Or.inl ⟨by kernel_rfl, ?h53⟩) (by assumption) ?r53
              case h53 => (intro w hSw; (try dsimp only at hSw); go_simp; try with_reducible rfl)
              try simp only [Act.put, List.setIfInBounds_toArray, List.set_cons_zero, List.set_cons_succ]
              refine wpAnyH_take (i := 3) (oi := { dst := some 29, op := Go.Op.load 9 (Go.Operand.tmp 28), type := 9, pos := "ref.go:37", after := #[{ on := 2, ground := Go.Ground.data }], guard := none }) (v := ?v54) rfl (by kernel_rfl) (by kernel_rfl) (by kernel_rfl) (fun _ _ _ h => h) (Or.inl ⟨by kernel_rfl, ?h54⟩) (by assumption) ?r54
              case h54 => (intro w hSw; (try dsimp only at hSw); go_simp; try with_reducible rfl)
              try simp only [Act.put, List.setIfInBounds_toArray, List.set_cons_zero, List.set_cons_succ]
              refine wpAnyH_take (i := 4) (oi := { dst := some 30, op := Go.Op.move (Go.Operand.tmp 0), type := 22, pos := "ref.go:37", after := #[], guard := none }) (v := ?v55) rfl (by kernel_rfl) (by kernel_rfl) (by kernel_rfl) (fun _ _ _ h => h) (Or.inl ⟨by kernel_rfl, ?h55⟩) (by assumption) ?r55
              case h55 => (intro w hSw; (try dsimp only at hSw); go_simp; try with_reducible rfl)
              try simp only [Act.put, List.setIfInBounds_toArray, List.set_cons_zero, List.set_cons_succ]
              refine wpAnyH_take (i := 5) (oi := { dst := some 31, op := Go.Op.move (Go.Operand.tmp 4), type := 3, pos := "ref.go:37", after := #[], guard := none }) (v := ?v56) rfl (by kernel_rfl) (by kernel_rfl) (by kernel_rfl) (fun _ _ _ h => h) (Or.inl ⟨by kernel_rfl, ?h56⟩) (by assumption) ?r56
              case h56 => (intro w hSw; (try dsimp only at hSw); go_simp; try with_reducible rfl)
              try simp only [Act.put, List.setIfInBounds_toArray, List.set_cons_zero, List.set_cons_succ]
              refine wpAnyH_take (i := 6) (oi := { dst := some 32, op := Go.Op.binOp Go.BinOp.sub 3 (Go.Operand.tmp 31) (Go.Operand.const (Go.Value.int Go.IntKind.i64 1)) 3, type := 3, pos := "ref.go:37", after := #[{ on := 5, ground := Go.Ground.data }], guard := none }) (v := ?v57) rfl (by kernel_rfl) (by kernel_rfl) (by kernel_rfl) (fun _ _ _ h => h) (Or.inl ⟨by kernel_rfl, ?h57⟩) (by assumption) ?r57
              case h57 => (intro w hSw; (try dsimp only at hSw); go_simp; try with_reducible rfl)
              try simp only [Act.put, List.setIfInBounds_toArray, List.set_cons_zero, List.set_cons_succ]
              refine wpAnyH_take (i := 7) (oi := { dst := some 33, op := Go.Op.indexAddr 22 (Go.Operand.tmp 30) (Go.Operand.tmp 32), type := 0, pos := "ref.go:37", after := #[{ on := 4, ground := Go.Ground.data }, { on := 6, ground := Go.Ground.data }], guard := none }) (v := ?v58) rfl (by kernel_rfl) (by kernel_rfl) (by kernel_rfl) (fun _ _ _ h => h) (Or.inl ⟨by kernel_rfl, ?h58⟩) (by assumption) ?r58
              case h58 => (intro w hSw; (try dsimp only at hSw); go_simp; try with_reducible rfl)
              try simp only [Act.put, List.setIfInBounds_toArray, List.set_cons_zero, List.set_cons_succ]
              refine wpAnyH_take (i := 8) (oi := { dst := some 34, op := Go.Op.load 9 (Go.Operand.tmp 33), type := 9, pos := "ref.go:37", after := #[{ on := 7, ground := Go.Ground.data }], guard := none }) (v := ?v59) rfl (by kernel_rfl) (by kernel_rfl) (by kernel_rfl) (fun _ _ _ h => h) (Or.inl ⟨by kernel_rfl, ?h59⟩) (by assumption) ?r59
              case h59 => (intro w hSw; (try dsimp only at hSw); go_simp; try with_reducible rfl)
              try simp only [Act.put, List.setIfInBounds_toArray, List.set_cons_zero, List.set_cons_succ]
              refine wpAnyH_take (i := 9) (oi := { dst := some 35, op := Go.Op.binOp Go.BinOp.leq 9 (Go.Operand.tmp 29) (Go.Operand.tmp 34) 9, type := 4, pos := "ref.go:37", after := #[{ on := 3, ground := Go.Ground.data }, { on := 8, ground := Go.Ground.data }], guard := none }) (v := ?v60) rfl (by kernel_rfl) (by kernel_rfl) (by kernel_rfl) (fun _ _ _ h => h) (Or.inl ⟨by kernel_rfl, ?h60⟩) (by assumption) ?r60
              case h60 => (intro w hSw; (try dsimp only at hSw); go_simp; try with_reducible rfl)
              try simp only [Act.put, List.setIfInBounds_toArray, List.set_cons_zero, List.set_cons_succ]
              refine wpAnyH_done (by kernel_rfl) ?_ _
              clear g0 g1
              go_wp2
              go_roundw
              case rel => exact ⟨k + 1, m + 1, .inl (by omega), by go_num, hS, rfl⟩
              case measure => simp [intOf]; omega
          · have hki : ¬ (k : Int) + 1 < (n : Int) := by omega
            have hR : Hid (checkT l = 0) := Lib.hid (by unfold checkT; rw [if_neg hsm.out, asc_yes (fun t ht => hal.out t (by have := hlen.out; omega))]; rfl)
            have hki2 : (k : Int) ≤ 4096 := by omega
            clear hal hlt
            go_wp2
            go_ret
            exact ⟨ret_int hR.out.symm, m, rfl⟩
end Go.Proofs.Ytkfgfbdlbiahkaa
