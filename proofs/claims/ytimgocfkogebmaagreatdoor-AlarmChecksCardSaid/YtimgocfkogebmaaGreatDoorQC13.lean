/-
  Words and walks under the law's proof.
-/
import Derived.Test.YtimgocfkogebmaaGreatDoorQC12
namespace Go.Proofs.YtimgocfkogebmaaGreatDoor
open Go.RowKit
set_option linter.unusedVariables false
set_option linter.unusedSimpArgs false
theorem ro_pair (A B : AlD) (w : World) (cs : Array Value) (hc : cs.toList = alC A ++ alC B) : RO alC (w.alloc (.cells cs 23)) (some ⟨w.heap.size, 0, none⟩) 2 2 [A, B] :=
  ⟨rfl, Nat.le_refl _, by simp [maxLen], by have := seesC_lit w 23 cs; rw [hc] at this; simpa using this⟩
theorem pair_w {A B : AlD} (hA : alW A) (hB : alW B) : ∀ s ∈ [A, B], alW s := by
  intro s hs
  simp at hs
  rcases hs with rfl | rfl
  · exact hA
  · exact hB
set_option maxRecDepth 100000 in
set_option maxHeartbeats 16000000 in
theorem alarmChecks_all (w : World) (ht : Tab w) (ak asv al : Int) (af afi ax : ByteArray) (bk bsv bl : Int) (bf bfi bx : ByteArray) (hA : alW (⟨ak, asv, af, afi, al, ax⟩ : AlD)) (hB : alW (⟨bk, bsv, bf, bfi, bl, bx⟩ : AlD)) (sl : Option Addr) (n c : Nat) (row : AlSl w sl n c) :
    Calls Tryz.prog 3 #[.agg #[.int .i64 ak, .int .i64 asv, .string af, .string afi, .int .i64 al, .string ax], .agg #[.int .i64 bk, .int .i64 bsv, .string bf, .string bfi, .int .i64 bl, .string bx], .slice sl n c] w (Gives (.bool true) w) := by
  obtain ⟨l, hRO, hW, hnb⟩ := row
  obtain ⟨W1, hW1⟩ : ∃ W1, W1 = w.alloc (.cells #[.int .i64 ak, .int .i64 asv, .string af, .string afi, .int .i64 al, .string ax] 23) := ⟨_, rfl⟩
  obtain ⟨W2, hW2⟩ : ∃ W2, W2 = W1.alloc (.cells #[.int .i64 bk, .int .i64 bsv, .string bf, .string bfi, .int .i64 bl, .string bx] 23) := ⟨_, rfl⟩
  obtain ⟨U, hU⟩ : ∃ U, U = W2.alloc (.cells #[.int .i64 ak, .int .i64 asv, .string af, .string afi, .int .i64 al, .string ax, .int .i64 bk, .int .i64 bsv, .string bf, .string bfi, .int .i64 bl, .string bx] 23) := ⟨_, rfl⟩
  have z1 : W1.heap.size = w.heap.size + 1 := by rw [hW1]; simp
  have z2 : W2.heap.size = w.heap.size + 1 + 1 := by rw [hW2]; simp [z1]
  have b1 : Below w.heap.size w W1 := by rw [hW1]; exact box_below _ _ _
  have b2 : Below W1.heap.size W1 W2 := by rw [hW2]; exact box_below _ _ _
  have b3 : Below W2.heap.size W2 U := by rw [hU]; exact box_below _ _ _
  have b23 := b2.trans (b3.mono b2.size)
  have BL := Lib.hid (b1.trans (b23.mono b1.size))
  have HA := Lib.hid (Holds.below (w := W1) (g := w.heap.size) (t := 23) (cs := #[.int .i64 ak, .int .i64 asv, .string af, .string afi, .int .i64 al, .string ax]) (by rw [hW1]; exact Holds.new _ _ _) b23 (by omega))
  have HB := Lib.hid (Holds.below (w := W2) (g := w.heap.size + 1) (t := 23) (cs := #[.int .i64 bk, .int .i64 bsv, .string bf, .string bfi, .int .i64 bl, .string bx]) (by rw [hW2, ← z1]; exact Holds.new _ _ _) b3 (by omega))
  have R0 : RO alC U (some ⟨w.heap.size + 1 + 1, 0, none⟩) 2 2 [(⟨ak, asv, af, afi, al, ax⟩ : AlD), (⟨bk, bsv, bf, bfi, bl, bx⟩ : AlD)] := by rw [hU, ← z2]; exact ro_pair _ _ _ _ rfl
  have q1 := Lib.hid (alarge_any [(⟨ak, asv, af, afi, al, ax⟩ : AlD), (⟨bk, bsv, bf, bfi, bl, bx⟩ : AlD)] _ 2 2 U R0 (pair_w hA hB))
  have RL := Lib.hid (hRO.below BL.out)
  have q2 := Lib.hid (alarge_any l sl n c U RL.out hW)
  have TU := Lib.hid (ht.on BL.out)
  have qv := Lib.hid (fun W hT => alives_any W hT)
  have hh := Lib.hid (And.intro hW1 (And.intro hW2 hU))
  have hln := Lib.hid hRO.len
  have hla : ¬ (0 : Nat) = 1 := by omega
  clear hla R0 b1 b2 b3 b23 z1 z2 hW1 hW2 hU ht hRO
  cases hb1 : bigA [(⟨ak, asv, af, afi, al, ax⟩ : AlD), (⟨bk, bsv, bf, bfi, bl, bx⟩ : AlD)] with
  | true =>
    rw [hb1] at q1
    clear hb1 hA hB hW q2 RL HA HB
    have qq := Lib.hid (qv.out _ TU.out)
    go_enter Tryz.func3, Tryz.ntmps3
    go_wp2_with fail
    rw [← hh.out.1, ← hh.out.2.1, ← hh.out.2.2]
    with_reducible refine q1.out.mono ?_
    rintro e w1 ⟨rfl, rfl⟩
    clear q1 hh
    go_wp2_with fail
    with_reducible refine qq.out.mono ?_
    rintro e w2 ⟨rfl, b⟩
    have hf := Lib.hid (BL.out.trans (b.mono BL.out.size))
    clear b qq
    go_wp2
    go_ret
    exact ⟨rfl, hf.out⟩
  | false =>
  cases hb2 : bigA l with
  | true =>
    rw [hb1] at q1
    rw [hb2] at q2
    clear hb1 hb2 hA hB hW RL HA HB
    have qq := Lib.hid (qv.out _ TU.out)
    go_enter Tryz.func3, Tryz.ntmps3
    go_wp2_with fail
    rw [← hh.out.1, ← hh.out.2.1, ← hh.out.2.2]
    with_reducible refine q1.out.mono ?_
    rintro e w1 ⟨rfl, rfl⟩
    clear q1 hh
    go_wp2_with fail
    with_reducible refine q2.out.mono ?_
    rintro e w1 ⟨rfl, rfl⟩
    clear q2
    go_wp2_with fail
    with_reducible refine qq.out.mono ?_
    rintro e w2 ⟨rfl, b⟩
    have hf := Lib.hid (BL.out.trans (b.mono BL.out.size))
    clear b qq
    go_wp2
    go_ret
    exact ⟨rfl, hf.out⟩
  | false =>
  rw [hb1] at q1
  rw [hb2] at q2
  obtain ⟨hl1, -⟩ := small_of hb2
  have hn5 : n ≤ 100 := by rw [hln.out]; exact hl1
  have QCk := Lib.hid (fun W => acheck_any (⟨ak, asv, af, afi, al, ax⟩ : AlD) W)
  have QRc := Lib.hid (fun W => racheck_any (⟨ak, asv, af, afi, al, ax⟩ : AlD) (by obtain ⟨-, -, x1, x2, -, x3⟩ := hA; exact ⟨by omega, by omega, by omega⟩) W)
  have QC := Lib.hid (fun W => acmpo_any (⟨ak, asv, af, afi, al, ax⟩ : AlD) (⟨bk, bsv, bf, bfi, bl, bx⟩ : AlD) W)
  have QRC := Lib.hid (fun W => acmp_any (⟨ak, asv, af, afi, al, ax⟩ : AlD) (⟨bk, bsv, bf, bfi, bl, bx⟩ : AlD) W)
  have QS := Lib.hid (fun W (hW : RO alC W sl n c l) => asort_any sl n c l W hW (by omega))
  have QRS := Lib.hid (fun W (hW : RO alC W sl n c l) => rasorted_any sl n c l (by omega) W hW)
  have QE : Hid (∀ W L m a c a' c', RO alC W a m c L → RO alC W a' m c' L → Calls Tryz.prog 13 #[.slice a m c, .slice a' m c'] W (Gives (.bool true) W)) := Lib.hid (fun W L m a c a' c' h1 h2 => by
    have q := ralSame_any a a' m m c c' L L W h1 h2
    rw [lv_same] at q
    exact q.mono fun e w' h => drawn_gives h)
  have QM : Hid (∀ W a' c', RO alC W sl n c l → RO alC W a' 2 c' [(⟨ak, asv, af, afi, al, ax⟩ : AlD), (⟨bk, bsv, bf, bfi, bl, bx⟩ : AlD)] → Calls Tryz.prog 16 #[.slice sl n c, .slice a' 2 c'] W (Gives (.bool (sameA l [(⟨ak, asv, af, afi, al, ax⟩ : AlD), (⟨bk, bsv, bf, bfi, bl, bx⟩ : AlD)])) W)) := Lib.hid (fun W a' c' h1 h2 => (alSame_any sl a' n 2 c c' l [(⟨ak, asv, af, afi, al, ax⟩ : AlD), (⟨bk, bsv, bf, bfi, bl, bx⟩ : AlD)] W h1 h2).mono fun e w' h => drawn_gives h)
  have QRM : Hid (∀ W a' c', RO alC W sl n c l → RO alC W a' 2 c' [(⟨ak, asv, af, afi, al, ax⟩ : AlD), (⟨bk, bsv, bf, bfi, bl, bx⟩ : AlD)] → Calls Tryz.prog 13 #[.slice sl n c, .slice a' 2 c'] W (Gives (.bool (sameA l [(⟨ak, asv, af, afi, al, ax⟩ : AlD), (⟨bk, bsv, bf, bfi, bl, bx⟩ : AlD)])) W)) := Lib.hid (fun W a' c' h1 h2 => (ralSame_any sl a' n 2 c c' l [(⟨ak, asv, af, afi, al, ax⟩ : AlD), (⟨bk, bsv, bf, bfi, bl, bx⟩ : AlD)] W h1 h2).mono fun e w' h => drawn_gives h)
  have hE : Hid (chkA (⟨ak, asv, af, afi, al, ax⟩ : AlD) = if alB (⟨ak, asv, af, afi, al, ax⟩ : AlD) = true then 0 else 170) := Lib.hid rfl
  have hP : Hid (∀ (W : World) (cs : Array Value), cs.toList = alC (⟨ak, asv, af, afi, al, ax⟩ : AlD) ++ alC (⟨bk, bsv, bf, bfi, bl, bx⟩ : AlD) → RO alC (W.alloc (.cells cs 23)) (some ⟨W.heap.size, 0, none⟩) 2 2 [(⟨ak, asv, af, afi, al, ax⟩ : AlD), (⟨bk, bsv, bf, bfi, bl, bx⟩ : AlD)]) := Lib.hid (fun W cs h => ro_pair _ _ W cs h)
  have hPc : Hid ((#[.int .i64 ak, .int .i64 asv, .string af, .string afi, .int .i64 al, .string ax, .int .i64 bk, .int .i64 bsv, .string bf, .string bfi, .int .i64 bl, .string bx] : Array Value).toList = alC (⟨ak, asv, af, afi, al, ax⟩ : AlD) ++ alC (⟨bk, bsv, bf, bfi, bl, bx⟩ : AlD)) := Lib.hid rfl
  clear hb1 hb2 hA hB hW hl1 hnb
  generalize sameA l [(⟨ak, asv, af, afi, al, ax⟩ : AlD), (⟨bk, bsv, bf, bfi, bl, bx⟩ : AlD)] = sb at *
  generalize sortC cmpA l = S at *
  generalize cmpA (⟨ak, asv, af, afi, al, ax⟩ : AlD) (⟨bk, bsv, bf, bfi, bl, bx⟩ : AlD) = cv at *
  generalize chkA (⟨ak, asv, af, afi, al, ax⟩ : AlD) = E at *
  generalize alB (⟨ak, asv, af, afi, al, ax⟩ : AlD) = ab at *
  have x0 := HA.out.cell 0
  have x1 := HA.out.cell 1
  have x2 := HA.out.cell 2
  have x3 := HA.out.cell 3
  have x4 := HA.out.cell 4
  have x5 := HA.out.cell 5
  simp at x0 x1 x2 x3 x4 x5
  go_enter Tryz.func3, Tryz.ntmps3
  go_wp2_with fail
  rw [← hh.out.1, ← hh.out.2.1, ← hh.out.2.2]
  with_reducible refine q1.out.mono ?_
  rintro e w1 ⟨rfl, rfl⟩
  clear q1 hh
  go_wp2_with fail
  with_reducible refine q2.out.mono ?_
  rintro e w1 ⟨rfl, rfl⟩
  clear q2
  go_wp2_with fail
  with_reducible refine (QCk.out _).mono ?_
  rintro e u1 ⟨rfl, b1⟩
  clear x0 x1 x2 x3 x4 x5 QCk
  replace HA := Lib.hid (HA.out.below b1 HA.out.lt)
  replace HB := Lib.hid (HB.out.below b1 HB.out.lt)
  replace RL := Lib.hid (RL.out.below b1)
  replace BL := Lib.hid (BL.out.trans (b1.mono BL.out.size))
  replace TU := Lib.hid (TU.out.on b1)
  clear b1
  have FL : ∀ W, Below u1.heap.size u1 W → RO alC W sl n c l := fun W hW => RL.out.below hW
  have FT : ∀ W, Below u1.heap.size u1 W → Tab W := fun W hW => TU.out.on hW
  have FB : ∀ W, Below u1.heap.size u1 W → Below w.heap.size w W := fun W hW => BL.out.trans (hW.mono BL.out.size)
  have x0 : ∀ W, Below u1.heap.size u1 W → W.cell? ⟨w.heap.size, 0, none⟩ = some (.int .i64 ak) := fun W hW => (HA.out.below hW HA.out.lt).cell 0
  have y0 : ∀ W, Below u1.heap.size u1 W → W.cell? ⟨w.heap.size + 1, 0, none⟩ = some (.int .i64 bk) := fun W hW => (HB.out.below hW HB.out.lt).cell 0
  have x1 : ∀ W, Below u1.heap.size u1 W → W.cell? ⟨w.heap.size, 1, none⟩ = some (.int .i64 asv) := fun W hW => (HA.out.below hW HA.out.lt).cell 1
  have y1 : ∀ W, Below u1.heap.size u1 W → W.cell? ⟨w.heap.size + 1, 1, none⟩ = some (.int .i64 bsv) := fun W hW => (HB.out.below hW HB.out.lt).cell 1
  have x2 : ∀ W, Below u1.heap.size u1 W → W.cell? ⟨w.heap.size, 2, none⟩ = some (.string af) := fun W hW => (HA.out.below hW HA.out.lt).cell 2
  have y2 : ∀ W, Below u1.heap.size u1 W → W.cell? ⟨w.heap.size + 1, 2, none⟩ = some (.string bf) := fun W hW => (HB.out.below hW HB.out.lt).cell 2
  have x3 : ∀ W, Below u1.heap.size u1 W → W.cell? ⟨w.heap.size, 3, none⟩ = some (.string afi) := fun W hW => (HA.out.below hW HA.out.lt).cell 3
  have y3 : ∀ W, Below u1.heap.size u1 W → W.cell? ⟨w.heap.size + 1, 3, none⟩ = some (.string bfi) := fun W hW => (HB.out.below hW HB.out.lt).cell 3
  have x4 : ∀ W, Below u1.heap.size u1 W → W.cell? ⟨w.heap.size, 4, none⟩ = some (.int .i64 al) := fun W hW => (HA.out.below hW HA.out.lt).cell 4
  have y4 : ∀ W, Below u1.heap.size u1 W → W.cell? ⟨w.heap.size + 1, 4, none⟩ = some (.int .i64 bl) := fun W hW => (HB.out.below hW HB.out.lt).cell 4
  have x5 : ∀ W, Below u1.heap.size u1 W → W.cell? ⟨w.heap.size, 5, none⟩ = some (.string ax) := fun W hW => (HA.out.below hW HA.out.lt).cell 5
  have y5 : ∀ W, Below u1.heap.size u1 W → W.cell? ⟨w.heap.size + 1, 5, none⟩ = some (.string bx) := fun W hW => (HB.out.below hW HB.out.lt).cell 5
  have hsg : w.heap.size + 1 < u1.heap.size := HB.out.lt
  have hni : (n : Int) ≤ 100 := by omega
  clear HA HB RL BL TU hln
  cases ab with
  | true =>
    have hr : E = 0 := by rw [hE.out]; rfl
    clear hE
    subst hr
    go_wp2
    refine wp_drawn (by kernel_rfl) (fun hHeld => ?_)
    refine wpAnyH_ready (rs := [0]) (by kernel_rfl) (by simp) ?_
    refine AllReadyH.cons (o := { dst := some 19, op := Go.Op.call { callee := Go.Callee.value (Go.Operand.func 8), args := #[], argTypes := #[] }, type := 4, pos := "law.go:45", after := #[], guard := none }) rfl (fun K hK => ?_) AllReadyH.nil
    go_simp
    with_reducible refine (qv.out _ (FT _ hHeld)).mono ?_
    rintro e v0 ⟨rfl, b0⟩
    have hB0 := hHeld.trans (b0.mono hHeld.size)
    go_simp
    refine hK.out _ _ (hB0) (fun hHeld => ?_)
    clear hK K
    try simp only [Act.put, List.setIfInBounds_toArray, List.set_cons_zero, List.set_cons_succ]
    refine wpAnyH_now hHeld (fun hHeld => ?_)
    replace FL := rebase FL (hB0)
    replace FT := rebase FT (hB0)
    replace FB := rebase FB (hB0)
    replace x0 := rebase x0 (hB0)
    replace x1 := rebase x1 (hB0)
    replace x2 := rebase x2 (hB0)
    replace x3 := rebase x3 (hB0)
    replace x4 := rebase x4 (hB0)
    replace x5 := rebase x5 (hB0)
    replace y0 := rebase y0 (hB0)
    replace y1 := rebase y1 (hB0)
    replace y2 := rebase y2 (hB0)
    replace y3 := rebase y3 (hB0)
    replace y4 := rebase y4 (hB0)
    replace y5 := rebase y5 (hB0)
    refine wpAnyH_take (i := 1) (oi := { dst := some 20, op := Go.Op.move (Go.Operand.tmp 19), type := 4, pos := "law.go:45", after := #[{ on := 0, ground := Go.Ground.data }, { on := 0, ground := Go.Ground.chain }], guard := none }) (v := ?v1) rfl (by kernel_rfl) (by kernel_rfl) (by kernel_rfl) (fun _ _ _ h => h) (Or.inl ⟨by kernel_rfl, ?h1⟩) (by assumption) ?r1
    case h1 => (intro w hSw; (try dsimp only at hSw); go_simp; try with_reducible rfl)
    try simp only [Act.put, List.setIfInBounds_toArray, List.set_cons_zero, List.set_cons_succ]
    refine wpAnyH_take (i := 2) (oi := { dst := some 21, op := Go.Op.move (Go.Operand.tmp 7), type := 27, pos := "law.go:45", after := #[{ on := 1, ground := Go.Ground.guard }], guard := some (1, true) }) (v := ?v2) rfl (by kernel_rfl) (by kernel_rfl) (by kernel_rfl) (fun _ _ _ h => h) (Or.inl ⟨by kernel_rfl, ?h2⟩) (by assumption) ?r2
    case h2 => (intro w hSw; (try dsimp only at hSw); go_simp; try with_reducible rfl)
    try simp only [Act.put, List.setIfInBounds_toArray, List.set_cons_zero, List.set_cons_succ]
    refine wpAnyH_take (i := 3) (oi := { dst := some 22, op := Go.Op.binOp Go.BinOp.eql 27 (Go.Operand.tmp 21) (Go.Operand.const (Go.Value.int Go.IntKind.i64 0)) 27, type := 4, pos := "law.go:45", after := #[{ on := 2, ground := Go.Ground.data }, { on := 1, ground := Go.Ground.guard }], guard := some (1, true) }) (v := ?v3) rfl (by kernel_rfl) (by kernel_rfl) (by kernel_rfl) (fun _ _ _ h => h) (Or.inl ⟨by kernel_rfl, ?h3⟩) (by assumption) ?r3
    case h3 => (intro w hSw; (try dsimp only at hSw); go_simp; try with_reducible rfl)
    try simp only [Act.put, List.setIfInBounds_toArray, List.set_cons_zero, List.set_cons_succ]
    refine wpAnyH_take (i := 4) (oi := { dst := some 23, op := Go.Op.load 23 (Go.Operand.tmp 3), type := 23, pos := "law.go:45", after := #[{ on := 1, ground := Go.Ground.guard }], guard := some (1, true) }) (v := ?v4) rfl (by kernel_rfl) (by kernel_rfl) (by kernel_rfl) (fun _ _ _ h => h) (Or.inl ⟨by kernel_rfl, ?h4⟩) (by assumption) ?r4
    case h4 => (intro w hSw; (try dsimp only at hSw); go_simp; try with_reducible rfl)
    try simp only [Act.put, List.setIfInBounds_toArray, List.set_cons_zero, List.set_cons_succ]
    refine wpAnyH_ready (rs := [5]) (by kernel_rfl) (by simp) ?_
    refine AllReadyH.cons (o := { dst := some 24, op := Go.Op.call { callee := Go.Callee.value (Go.Operand.func 10), args := #[Go.Operand.tmp 23], argTypes := #[23] }, type := 4, pos := "law.go:45", after := #[{ on := 4, ground := Go.Ground.data }, { on := 1, ground := Go.Ground.chain }, { on := 1, ground := Go.Ground.guard }], guard := some (1, true) }) rfl (fun K hK => ?_) AllReadyH.nil
    go_simp
    with_reducible refine (QRc.out _).mono ?_
    rintro e v5 ⟨rfl, b5⟩
    have hB5 := hHeld.trans (b5.mono hHeld.size)
    go_simp
    refine hK.out _ _ (hB5) (fun hHeld => ?_)
    clear hK K
    try simp only [Act.put, List.setIfInBounds_toArray, List.set_cons_zero, List.set_cons_succ]
    refine wpAnyH_now hHeld (fun hHeld => ?_)
    replace FL := rebase FL (hB5)
    replace FT := rebase FT (hB5)
    replace FB := rebase FB (hB5)
    replace x0 := rebase x0 (hB5)
    replace x1 := rebase x1 (hB5)
    replace x2 := rebase x2 (hB5)
    replace x3 := rebase x3 (hB5)
    replace x4 := rebase x4 (hB5)
    replace x5 := rebase x5 (hB5)
    replace y0 := rebase y0 (hB5)
    replace y1 := rebase y1 (hB5)
    replace y2 := rebase y2 (hB5)
    replace y3 := rebase y3 (hB5)
    replace y4 := rebase y4 (hB5)
    replace y5 := rebase y5 (hB5)
    refine wpAnyH_take (i := 6) (oi := { dst := some 25, op := Go.Op.binOp Go.BinOp.eql 4 (Go.Operand.tmp 22) (Go.Operand.tmp 24) 4, type := 4, pos := "law.go:45", after := #[{ on := 3, ground := Go.Ground.data }, { on := 5, ground := Go.Ground.data }, { on := 1, ground := Go.Ground.guard }], guard := some (1, true) }) (v := ?v5) rfl (by kernel_rfl) (by kernel_rfl) (by kernel_rfl) (fun _ _ _ h => h) (Or.inl ⟨by kernel_rfl, ?h5⟩) (by assumption) ?r5
    case h5 => (intro w hSw; (try dsimp only at hSw); go_simp; try with_reducible rfl)
    try simp only [Act.put, List.setIfInBounds_toArray, List.set_cons_zero, List.set_cons_succ]
    refine wpAnyH_take (i := 7) (oi := { dst := some 26, op := Go.Op.pick (Go.Operand.tmp 20) (Go.Operand.tmp 25) (Go.Operand.const (Go.Value.bool false)), type := 4, pos := "law.go:45", after := #[{ on := 1, ground := Go.Ground.data }, { on := 6, ground := Go.Ground.data }], guard := none }) (v := ?v6) rfl (by kernel_rfl) (by kernel_rfl) (by kernel_rfl) (fun _ _ _ h => h) (Or.inl ⟨by kernel_rfl, ?h6⟩) (by assumption) ?r6
    case h6 => (intro w hSw; (try dsimp only at hSw); go_simp; try with_reducible rfl)
    try simp only [Act.put, List.setIfInBounds_toArray, List.set_cons_zero, List.set_cons_succ]
    refine wpAnyH_take (i := 8) (oi := { dst := some 27, op := Go.Op.move (Go.Operand.tmp 26), type := 4, pos := "law.go:45", after := #[{ on := 7, ground := Go.Ground.data }, { on := 5, ground := Go.Ground.chain }], guard := none }) (v := ?v7) rfl (by kernel_rfl) (by kernel_rfl) (by kernel_rfl) (fun _ _ _ h => h) (Or.inl ⟨by kernel_rfl, ?h7⟩) (by assumption) ?r7
    case h7 => (intro w hSw; (try dsimp only at hSw); go_simp; try with_reducible rfl)
    try simp only [Act.put, List.setIfInBounds_toArray, List.set_cons_zero, List.set_cons_succ]
    refine wpAnyH_take (i := 9) (oi := { dst := some 28, op := Go.Op.move (Go.Operand.tmp 7), type := 27, pos := "law.go:45", after := #[{ on := 8, ground := Go.Ground.guard }], guard := some (8, true) }) (v := ?v8) rfl (by kernel_rfl) (by kernel_rfl) (by kernel_rfl) (fun _ _ _ h => h) (Or.inl ⟨by kernel_rfl, ?h8⟩) (by assumption) ?r8
    case h8 => (intro w hSw; (try dsimp only at hSw); go_simp; try with_reducible rfl)
    try simp only [Act.put, List.setIfInBounds_toArray, List.set_cons_zero, List.set_cons_succ]
    refine wpAnyH_take (i := 10) (oi := { dst := some 29, op := Go.Op.binOp Go.BinOp.eql 27 (Go.Operand.tmp 28) (Go.Operand.const (Go.Value.int Go.IntKind.i64 0)) 27, type := 4, pos := "law.go:45", after := #[{ on := 9, ground := Go.Ground.data }, { on := 8, ground := Go.Ground.guard }], guard := some (8, true) }) (v := ?v9) rfl (by kernel_rfl) (by kernel_rfl) (by kernel_rfl) (fun _ _ _ h => h) (Or.inl ⟨by kernel_rfl, ?h9⟩) (by assumption) ?r9
    case h9 => (intro w hSw; (try dsimp only at hSw); go_simp; try with_reducible rfl)
    try simp only [Act.put, List.setIfInBounds_toArray, List.set_cons_zero, List.set_cons_succ]
    refine wpAnyH_take (i := 11) (oi := { dst := some 30, op := Go.Op.move (Go.Operand.tmp 29), type := 4, pos := "law.go:45", after := #[{ on := 10, ground := Go.Ground.data }, { on := 8, ground := Go.Ground.chain }, { on := 8, ground := Go.Ground.guard }], guard := some (8, true) }) (v := ?v10) rfl (by kernel_rfl) (by kernel_rfl) (by kernel_rfl) (fun _ _ _ h => h) (Or.inl ⟨by kernel_rfl, ?h10⟩) (by assumption) ?r10
    case h10 => (intro w hSw; (try dsimp only at hSw); go_simp; try with_reducible rfl)
    try simp only [Act.put, List.setIfInBounds_toArray, List.set_cons_zero, List.set_cons_succ]
    refine wpAnyH_take (i := 12) (oi := { dst := some 31, op := Go.Op.move (Go.Operand.tmp 7), type := 27, pos := "law.go:45", after := #[{ on := 11, ground := Go.Ground.guard }], guard := some (11, false) }) (v := undef) rfl (by kernel_rfl) (by kernel_rfl) (by kernel_rfl) (fun _ _ _ h => h) (Or.inr ⟨by kernel_rfl, rfl⟩) (by assumption) ?_
    try simp only [Act.put, List.setIfInBounds_toArray, List.set_cons_zero, List.set_cons_succ]
    refine wpAnyH_take (i := 13) (oi := { dst := some 32, op := Go.Op.binOp Go.BinOp.eql 27 (Go.Operand.tmp 31) (Go.Operand.const (Go.Value.int Go.IntKind.i64 170)) 27, type := 4, pos := "law.go:45", after := #[{ on := 12, ground := Go.Ground.data }, { on := 11, ground := Go.Ground.guard }], guard := some (11, false) }) (v := undef) rfl (by kernel_rfl) (by kernel_rfl) (by kernel_rfl) (fun _ _ _ h => h) (Or.inr ⟨by kernel_rfl, rfl⟩) (by assumption) ?_
    try simp only [Act.put, List.setIfInBounds_toArray, List.set_cons_zero, List.set_cons_succ]
    refine wpAnyH_take (i := 14) (oi := { dst := some 33, op := Go.Op.pick (Go.Operand.tmp 30) (Go.Operand.const (Go.Value.bool true)) (Go.Operand.tmp 32), type := 4, pos := "law.go:45", after := #[{ on := 11, ground := Go.Ground.data }, { on := 13, ground := Go.Ground.data }, { on := 8, ground := Go.Ground.guard }], guard := some (8, true) }) (v := ?v13) rfl (by kernel_rfl) (by kernel_rfl) (by kernel_rfl) (fun _ _ _ h => h) (Or.inl ⟨by kernel_rfl, ?h13⟩) (by assumption) ?r13
    case h13 => (intro w hSw; (try dsimp only at hSw); go_simp; try with_reducible rfl)
    try simp only [Act.put, List.setIfInBounds_toArray, List.set_cons_zero, List.set_cons_succ]
    refine wpAnyH_take (i := 15) (oi := { dst := some 34, op := Go.Op.pick (Go.Operand.tmp 27) (Go.Operand.tmp 33) (Go.Operand.const (Go.Value.bool false)), type := 4, pos := "law.go:45", after := #[{ on := 8, ground := Go.Ground.data }, { on := 14, ground := Go.Ground.data }], guard := none }) (v := ?v14) rfl (by kernel_rfl) (by kernel_rfl) (by kernel_rfl) (fun _ _ _ h => h) (Or.inl ⟨by kernel_rfl, ?h14⟩) (by assumption) ?r14
    case h14 => (intro w hSw; (try dsimp only at hSw); go_simp; try with_reducible rfl)
    try simp only [Act.put, List.setIfInBounds_toArray, List.set_cons_zero, List.set_cons_succ]
    refine wpAnyH_take (i := 16) (oi := { dst := some 35, op := Go.Op.move (Go.Operand.tmp 34), type := 4, pos := "law.go:45", after := #[{ on := 15, ground := Go.Ground.data }, { on := 11, ground := Go.Ground.chain }], guard := none }) (v := ?v15) rfl (by kernel_rfl) (by kernel_rfl) (by kernel_rfl) (fun _ _ _ h => h) (Or.inl ⟨by kernel_rfl, ?h15⟩) (by assumption) ?r15
    case h15 => (intro w hSw; (try dsimp only at hSw); go_simp; try with_reducible rfl)
    try simp only [Act.put, List.setIfInBounds_toArray, List.set_cons_zero, List.set_cons_succ]
    refine wpAnyH_take (i := 17) (oi := { dst := some 36, op := Go.Op.load 23 (Go.Operand.tmp 3), type := 23, pos := "law.go:45", after := #[{ on := 16, ground := Go.Ground.guard }], guard := some (16, true) }) (v := ?v16) rfl (by kernel_rfl) (by kernel_rfl) (by kernel_rfl) (fun _ _ _ h => h) (Or.inl ⟨by kernel_rfl, ?h16⟩) (by assumption) ?r16
    case h16 => (intro w hSw; (try dsimp only at hSw); go_simp; try with_reducible rfl)
    try simp only [Act.put, List.setIfInBounds_toArray, List.set_cons_zero, List.set_cons_succ]
    refine wpAnyH_take (i := 18) (oi := { dst := some 37, op := Go.Op.load 23 (Go.Operand.tmp 4), type := 23, pos := "law.go:45", after := #[{ on := 16, ground := Go.Ground.guard }], guard := some (16, true) }) (v := ?v17) rfl (by kernel_rfl) (by kernel_rfl) (by kernel_rfl) (fun _ _ _ h => h) (Or.inl ⟨by kernel_rfl, ?h17⟩) (by assumption) ?r17
    case h17 => (intro w hSw; (try dsimp only at hSw); go_simp; try with_reducible rfl)
    try simp only [Act.put, List.setIfInBounds_toArray, List.set_cons_zero, List.set_cons_succ]
    refine wpAnyH_take (i := 20) (oi := { dst := some 39, op := Go.Op.load 23 (Go.Operand.tmp 3), type := 23, pos := "law.go:45", after := #[{ on := 16, ground := Go.Ground.guard }], guard := some (16, true) }) (v := ?v18) rfl (by kernel_rfl) (by kernel_rfl) (by kernel_rfl) (fun _ _ _ h => h) (Or.inl ⟨by kernel_rfl, ?h18⟩) (by assumption) ?r18
    case h18 => (intro w hSw; (try dsimp only at hSw); go_simp; try with_reducible rfl)
    try simp only [Act.put, List.setIfInBounds_toArray, List.set_cons_zero, List.set_cons_succ]
    refine wpAnyH_take (i := 21) (oi := { dst := some 40, op := Go.Op.load 23 (Go.Operand.tmp 4), type := 23, pos := "law.go:45", after := #[{ on := 16, ground := Go.Ground.guard }], guard := some (16, true) }) (v := ?v19) rfl (by kernel_rfl) (by kernel_rfl) (by kernel_rfl) (fun _ _ _ h => h) (Or.inl ⟨by kernel_rfl, ?h19⟩) (by assumption) ?r19
    case h19 => (intro w hSw; (try dsimp only at hSw); go_simp; try with_reducible rfl)
    try simp only [Act.put, List.setIfInBounds_toArray, List.set_cons_zero, List.set_cons_succ]
    refine wpAnyH_ready (rs := [19]) (by kernel_rfl) (by simp) ?_
    refine AllReadyH.cons (o := { dst := some 38, op := Go.Op.call { callee := Go.Callee.value (Go.Operand.func 11), args := #[Go.Operand.tmp 36, Go.Operand.tmp 37], argTypes := #[23, 23] }, type := 3, pos := "law.go:45", after := #[{ on := 17, ground := Go.Ground.data }, { on := 18, ground := Go.Ground.data }, { on := 16, ground := Go.Ground.chain }, { on := 16, ground := Go.Ground.guard }], guard := some (16, true) }) rfl (fun K hK => ?_) AllReadyH.nil
    go_simp
    with_reducible refine (QC.out _).mono ?_
    rintro e v19 ⟨rfl, b19⟩
    have hB19 := hHeld.trans (b19.mono hHeld.size)
    go_simp
    refine hK.out _ _ (hB19) (fun hHeld => ?_)
    clear hK K
    try simp only [Act.put, List.setIfInBounds_toArray, List.set_cons_zero, List.set_cons_succ]
    refine wpAnyH_now hHeld (fun hHeld => ?_)
    replace FL := rebase FL (hB19)
    replace FT := rebase FT (hB19)
    replace FB := rebase FB (hB19)
    replace x0 := rebase x0 (hB19)
    replace x1 := rebase x1 (hB19)
    replace x2 := rebase x2 (hB19)
    replace x3 := rebase x3 (hB19)
    replace x4 := rebase x4 (hB19)
    replace x5 := rebase x5 (hB19)
    replace y0 := rebase y0 (hB19)
    replace y1 := rebase y1 (hB19)
    replace y2 := rebase y2 (hB19)
    replace y3 := rebase y3 (hB19)
    replace y4 := rebase y4 (hB19)
    replace y5 := rebase y5 (hB19)
    refine wpAnyH_ready (rs := [22]) (by kernel_rfl) (by simp) ?_
    refine AllReadyH.cons (o := { dst := some 41, op := Go.Op.call { callee := Go.Callee.value (Go.Operand.func 12), args := #[Go.Operand.tmp 39, Go.Operand.tmp 40], argTypes := #[23, 23] }, type := 3, pos := "law.go:45", after := #[{ on := 20, ground := Go.Ground.data }, { on := 21, ground := Go.Ground.data }, { on := 19, ground := Go.Ground.chain }, { on := 16, ground := Go.Ground.guard }], guard := some (16, true) }) rfl (fun K hK => ?_) AllReadyH.nil
    go_simp
    with_reducible refine (QRC.out _).mono ?_
    rintro e v22 ⟨rfl, b22⟩
    have hB22 := hHeld.trans (b22.mono hHeld.size)
    go_simp
    refine hK.out _ _ (hB22) (fun hHeld => ?_)
    clear hK K
    try simp only [Act.put, List.setIfInBounds_toArray, List.set_cons_zero, List.set_cons_succ]
    refine wpAnyH_now hHeld (fun hHeld => ?_)
    replace FL := rebase FL (hB22)
    replace FT := rebase FT (hB22)
    replace FB := rebase FB (hB22)
    replace x0 := rebase x0 (hB22)
    replace x1 := rebase x1 (hB22)
    replace x2 := rebase x2 (hB22)
    replace x3 := rebase x3 (hB22)
    replace x4 := rebase x4 (hB22)
    replace x5 := rebase x5 (hB22)
    replace y0 := rebase y0 (hB22)
    replace y1 := rebase y1 (hB22)
    replace y2 := rebase y2 (hB22)
    replace y3 := rebase y3 (hB22)
    replace y4 := rebase y4 (hB22)
    replace y5 := rebase y5 (hB22)
    refine wpAnyH_take (i := 23) (oi := { dst := some 42, op := Go.Op.binOp Go.BinOp.eql 3 (Go.Operand.tmp 38) (Go.Operand.tmp 41) 3, type := 4, pos := "law.go:45", after := #[{ on := 19, ground := Go.Ground.data }, { on := 22, ground := Go.Ground.data }, { on := 16, ground := Go.Ground.guard }], guard := some (16, true) }) (v := ?v20) rfl (by kernel_rfl) (by kernel_rfl) (by kernel_rfl) (fun _ _ _ h => h) (Or.inl ⟨by kernel_rfl, ?h20⟩) (by assumption) ?r20
    case h20 => (intro w hSw; (try dsimp only at hSw); go_simp; try with_reducible rfl)
    try simp only [Act.put, List.setIfInBounds_toArray, List.set_cons_zero, List.set_cons_succ]
    refine wpAnyH_take (i := 24) (oi := { dst := some 43, op := Go.Op.pick (Go.Operand.tmp 35) (Go.Operand.tmp 42) (Go.Operand.const (Go.Value.bool false)), type := 4, pos := "law.go:45", after := #[{ on := 16, ground := Go.Ground.data }, { on := 23, ground := Go.Ground.data }], guard := none }) (v := ?v21) rfl (by kernel_rfl) (by kernel_rfl) (by kernel_rfl) (fun _ _ _ h => h) (Or.inl ⟨by kernel_rfl, ?h21⟩) (by assumption) ?r21
    case h21 => (intro w hSw; (try dsimp only at hSw); go_simp; try with_reducible rfl)
    try simp only [Act.put, List.setIfInBounds_toArray, List.set_cons_zero, List.set_cons_succ]
    refine wpAnyH_take (i := 25) (oi := { dst := some 44, op := Go.Op.move (Go.Operand.tmp 43), type := 4, pos := "law.go:45", after := #[{ on := 24, ground := Go.Ground.data }, { on := 22, ground := Go.Ground.chain }], guard := none }) (v := ?v22) rfl (by kernel_rfl) (by kernel_rfl) (by kernel_rfl) (fun _ _ _ h => h) (Or.inl ⟨by kernel_rfl, ?h22⟩) (by assumption) ?r22
    case h22 => (intro w hSw; (try dsimp only at hSw); go_simp; try with_reducible rfl)
    try simp only [Act.put, List.setIfInBounds_toArray, List.set_cons_zero, List.set_cons_succ]
    refine wpAnyH_take (i := 26) (oi := { dst := some 45, op := Go.Op.move (Go.Operand.tmp 2), type := 24, pos := "law.go:45", after := #[{ on := 25, ground := Go.Ground.guard }], guard := some (25, true) }) (v := ?v23) rfl (by kernel_rfl) (by kernel_rfl) (by kernel_rfl) (fun _ _ _ h => h) (Or.inl ⟨by kernel_rfl, ?h23⟩) (by assumption) ?r23
    case h23 => (intro w hSw; (try dsimp only at hSw); go_simp; try with_reducible rfl)
    try simp only [Act.put, List.setIfInBounds_toArray, List.set_cons_zero, List.set_cons_succ]
    refine wpAnyH_take (i := 28) (oi := { dst := some 47, op := Go.Op.move (Go.Operand.tmp 2), type := 24, pos := "law.go:45", after := #[{ on := 25, ground := Go.Ground.guard }], guard := some (25, true) }) (v := ?v24) rfl (by kernel_rfl) (by kernel_rfl) (by kernel_rfl) (fun _ _ _ h => h) (Or.inl ⟨by kernel_rfl, ?h24⟩) (by assumption) ?r24
    case h24 => (intro w hSw; (try dsimp only at hSw); go_simp; try with_reducible rfl)
    try simp only [Act.put, List.setIfInBounds_toArray, List.set_cons_zero, List.set_cons_succ]
    refine wpAnyH_ready (rs := [27]) (by kernel_rfl) (by simp) ?_
    refine AllReadyH.cons (o := { dst := some 46, op := Go.Op.call { callee := Go.Callee.value (Go.Operand.func 14), args := #[Go.Operand.tmp 45], argTypes := #[24] }, type := 24, pos := "law.go:45", after := #[{ on := 26, ground := Go.Ground.data }, { on := 25, ground := Go.Ground.chain }, { on := 25, ground := Go.Ground.guard }], guard := some (25, true) }) rfl (fun K hK => ?_) AllReadyH.nil
    go_simp
    with_reducible refine (QS.out _ (FL _ hHeld)).mono ?_
    rintro e v27 ⟨a27, c27, rfl, h27, b27⟩
    have hB27 := hHeld.trans (b27.mono hHeld.size)
    have R27 : ∀ W, Below v27.heap.size v27 W → RO alC W a27 S.length c27 S := fun W hW => h27.below hW
    go_simp
    refine hK.out _ _ (hB27) (fun hHeld => ?_)
    clear hK K
    try simp only [Act.put, List.setIfInBounds_toArray, List.set_cons_zero, List.set_cons_succ]
    refine wpAnyH_now hHeld (fun hHeld => ?_)
    replace FL := rebase FL (hB27)
    replace FT := rebase FT (hB27)
    replace FB := rebase FB (hB27)
    replace x0 := rebase x0 (hB27)
    replace x1 := rebase x1 (hB27)
    replace x2 := rebase x2 (hB27)
    replace x3 := rebase x3 (hB27)
    replace x4 := rebase x4 (hB27)
    replace x5 := rebase x5 (hB27)
    replace y0 := rebase y0 (hB27)
    replace y1 := rebase y1 (hB27)
    replace y2 := rebase y2 (hB27)
    replace y3 := rebase y3 (hB27)
    replace y4 := rebase y4 (hB27)
    replace y5 := rebase y5 (hB27)
    refine wpAnyH_ready (rs := [29]) (by kernel_rfl) (by simp) ?_
    refine AllReadyH.cons (o := { dst := some 48, op := Go.Op.call { callee := Go.Callee.value (Go.Operand.func 15), args := #[Go.Operand.tmp 47], argTypes := #[24] }, type := 24, pos := "law.go:45", after := #[{ on := 28, ground := Go.Ground.data }, { on := 27, ground := Go.Ground.chain }, { on := 25, ground := Go.Ground.guard }], guard := some (25, true) }) rfl (fun K hK => ?_) AllReadyH.nil
    go_simp
    with_reducible refine (QRS.out _ (FL _ hHeld)).mono ?_
    rintro e v29 ⟨a29, c29, rfl, h29, b29⟩
    have hB29 := hHeld.trans (b29.mono hHeld.size)
    have R29 : ∀ W, Below v29.heap.size v29 W → RO alC W a29 S.length c29 S := fun W hW => h29.below hW
    go_simp
    refine hK.out _ _ (hB29) (fun hHeld => ?_)
    clear hK K
    try simp only [Act.put, List.setIfInBounds_toArray, List.set_cons_zero, List.set_cons_succ]
    refine wpAnyH_now hHeld (fun hHeld => ?_)
    replace FL := rebase FL (hB29)
    replace FT := rebase FT (hB29)
    replace FB := rebase FB (hB29)
    replace x0 := rebase x0 (hB29)
    replace x1 := rebase x1 (hB29)
    replace x2 := rebase x2 (hB29)
    replace x3 := rebase x3 (hB29)
    replace x4 := rebase x4 (hB29)
    replace x5 := rebase x5 (hB29)
    replace y0 := rebase y0 (hB29)
    replace y1 := rebase y1 (hB29)
    replace y2 := rebase y2 (hB29)
    replace y3 := rebase y3 (hB29)
    replace y4 := rebase y4 (hB29)
    replace y5 := rebase y5 (hB29)
    replace R27 := rebase R27 (hB29)
    refine wpAnyH_ready (rs := [30]) (by kernel_rfl) (by simp) ?_
    refine AllReadyH.cons (o := { dst := some 49, op := Go.Op.call { callee := Go.Callee.value (Go.Operand.func 13), args := #[Go.Operand.tmp 46, Go.Operand.tmp 48], argTypes := #[24, 24] }, type := 4, pos := "law.go:45", after := #[{ on := 27, ground := Go.Ground.data }, { on := 29, ground := Go.Ground.data }, { on := 29, ground := Go.Ground.chain }, { on := 25, ground := Go.Ground.guard }], guard := some (25, true) }) rfl (fun K hK => ?_) AllReadyH.nil
    go_simp
    with_reducible refine (QE.out _ S _ _ _ _ _ (R27 _ hHeld) (R29 _ hHeld)).mono ?_
    rintro e v30 ⟨rfl, b30⟩
    have hB30 := hHeld.trans (b30.mono hHeld.size)
    go_simp
    refine hK.out _ _ (hB30) (fun hHeld => ?_)
    clear hK K
    try simp only [Act.put, List.setIfInBounds_toArray, List.set_cons_zero, List.set_cons_succ]
    refine wpAnyH_now hHeld (fun hHeld => ?_)
    replace FL := rebase FL (hB30)
    replace FT := rebase FT (hB30)
    replace FB := rebase FB (hB30)
    replace x0 := rebase x0 (hB30)
    replace x1 := rebase x1 (hB30)
    replace x2 := rebase x2 (hB30)
    replace x3 := rebase x3 (hB30)
    replace x4 := rebase x4 (hB30)
    replace x5 := rebase x5 (hB30)
    replace y0 := rebase y0 (hB30)
    replace y1 := rebase y1 (hB30)
    replace y2 := rebase y2 (hB30)
    replace y3 := rebase y3 (hB30)
    replace y4 := rebase y4 (hB30)
    replace y5 := rebase y5 (hB30)
    replace R27 := rebase R27 (hB30)
    replace R29 := rebase R29 (hB30)
    refine wpAnyH_take (i := 31) (oi := { dst := some 50, op := Go.Op.pick (Go.Operand.tmp 44) (Go.Operand.tmp 49) (Go.Operand.const (Go.Value.bool false)), type := 4, pos := "law.go:45", after := #[{ on := 25, ground := Go.Ground.data }, { on := 30, ground := Go.Ground.data }], guard := none }) (v := ?v25) rfl (by kernel_rfl) (by kernel_rfl) (by kernel_rfl) (fun _ _ _ h => h) (Or.inl ⟨by kernel_rfl, ?h25⟩) (by assumption) ?r25
    case h25 => (intro w hSw; (try dsimp only at hSw); go_simp; try with_reducible rfl)
    try simp only [Act.put, List.setIfInBounds_toArray, List.set_cons_zero, List.set_cons_succ]
    refine wpAnyH_take (i := 32) (oi := { dst := some 51, op := Go.Op.move (Go.Operand.tmp 50), type := 4, pos := "law.go:45", after := #[{ on := 31, ground := Go.Ground.data }, { on := 30, ground := Go.Ground.chain }], guard := none }) (v := ?v26) rfl (by kernel_rfl) (by kernel_rfl) (by kernel_rfl) (fun _ _ _ h => h) (Or.inl ⟨by kernel_rfl, ?h26⟩) (by assumption) ?r26
    case h26 => (intro w hSw; (try dsimp only at hSw); go_simp; try with_reducible rfl)
    try simp only [Act.put, List.setIfInBounds_toArray, List.set_cons_zero, List.set_cons_succ]
    refine wpAnyH_take (i := 33) (oi := { dst := some 52, op := Go.Op.move (Go.Operand.tmp 2), type := 24, pos := "law.go:45", after := #[{ on := 32, ground := Go.Ground.guard }], guard := some (32, true) }) (v := ?v27) rfl (by kernel_rfl) (by kernel_rfl) (by kernel_rfl) (fun _ _ _ h => h) (Or.inl ⟨by kernel_rfl, ?h27⟩) (by assumption) ?r27
    case h27 => (intro w hSw; (try dsimp only at hSw); go_simp; try with_reducible rfl)
    try simp only [Act.put, List.setIfInBounds_toArray, List.set_cons_zero, List.set_cons_succ]
    refine wpAnyH_take (i := 34) (oi := { dst := some 53, op := Go.Op.load 23 (Go.Operand.tmp 3), type := 23, pos := "law.go:45", after := #[{ on := 32, ground := Go.Ground.guard }], guard := some (32, true) }) (v := ?v28) rfl (by kernel_rfl) (by kernel_rfl) (by kernel_rfl) (fun _ _ _ h => h) (Or.inl ⟨by kernel_rfl, ?h28⟩) (by assumption) ?r28
    case h28 => (intro w hSw; (try dsimp only at hSw); go_simp; try with_reducible rfl)
    try simp only [Act.put, List.setIfInBounds_toArray, List.set_cons_zero, List.set_cons_succ]
    refine wpAnyH_take (i := 35) (oi := { dst := some 54, op := Go.Op.load 23 (Go.Operand.tmp 4), type := 23, pos := "law.go:45", after := #[{ on := 32, ground := Go.Ground.guard }], guard := some (32, true) }) (v := ?v29) rfl (by kernel_rfl) (by kernel_rfl) (by kernel_rfl) (fun _ _ _ h => h) (Or.inl ⟨by kernel_rfl, ?h29⟩) (by assumption) ?r29
    case h29 => (intro w hSw; (try dsimp only at hSw); go_simp; try with_reducible rfl)
    try simp only [Act.put, List.setIfInBounds_toArray, List.set_cons_zero, List.set_cons_succ]
    refine wpAnyH_take (i := 38) (oi := { dst := some 57, op := Go.Op.move (Go.Operand.tmp 2), type := 24, pos := "law.go:45", after := #[{ on := 32, ground := Go.Ground.guard }], guard := some (32, true) }) (v := ?v30) rfl (by kernel_rfl) (by kernel_rfl) (by kernel_rfl) (fun _ _ _ h => h) (Or.inl ⟨by kernel_rfl, ?h30⟩) (by assumption) ?r30
    case h30 => (intro w hSw; (try dsimp only at hSw); go_simp; try with_reducible rfl)
    try simp only [Act.put, List.setIfInBounds_toArray, List.set_cons_zero, List.set_cons_succ]
    refine wpAnyH_take (i := 39) (oi := { dst := some 58, op := Go.Op.load 23 (Go.Operand.tmp 3), type := 23, pos := "law.go:45", after := #[{ on := 32, ground := Go.Ground.guard }], guard := some (32, true) }) (v := ?v31) rfl (by kernel_rfl) (by kernel_rfl) (by kernel_rfl) (fun _ _ _ h => h) (Or.inl ⟨by kernel_rfl, ?h31⟩) (by assumption) ?r31
    case h31 => (intro w hSw; (try dsimp only at hSw); go_simp; try with_reducible rfl)
    try simp only [Act.put, List.setIfInBounds_toArray, List.set_cons_zero, List.set_cons_succ]
    refine wpAnyH_take (i := 40) (oi := { dst := some 59, op := Go.Op.load 23 (Go.Operand.tmp 4), type := 23, pos := "law.go:45", after := #[{ on := 32, ground := Go.Ground.guard }], guard := some (32, true) }) (v := ?v32) rfl (by kernel_rfl) (by kernel_rfl) (by kernel_rfl) (fun _ _ _ h => h) (Or.inl ⟨by kernel_rfl, ?h32⟩) (by assumption) ?r32
    case h32 => (intro w hSw; (try dsimp only at hSw); go_simp; try with_reducible rfl)
    try simp only [Act.put, List.setIfInBounds_toArray, List.set_cons_zero, List.set_cons_succ]
    refine wpAnyH_ready (rs := [36, 41]) (by kernel_rfl) (by simp) ?_
    refine AllReadyH.cons (o := { dst := some 55, op := Go.Op.buildSlice 24 2 #[(0, Go.Operand.tmp 53), (1, Go.Operand.tmp 54)], type := 24, pos := "law.go:45", after := #[{ on := 34, ground := Go.Ground.data }, { on := 35, ground := Go.Ground.data }, { on := 32, ground := Go.Ground.guard }], guard := some (32, true) }) rfl (fun K hK => ?_) (AllReadyH.cons (o := { dst := some 60, op := Go.Op.buildSlice 24 2 #[(0, Go.Operand.tmp 58), (1, Go.Operand.tmp 59)], type := 24, pos := "law.go:45", after := #[{ on := 39, ground := Go.Ground.data }, { on := 40, ground := Go.Ground.data }, { on := 32, ground := Go.Ground.guard }], guard := some (32, true) }) rfl (fun K hK => ?_) AllReadyH.nil)
    · go_simp
      obtain ⟨v36, ht36⟩ : ∃ v36, v36 = v30.alloc (.cells #[.int .i64 ak, .int .i64 asv, .string af, .string afi, .int .i64 al, .string ax, .int .i64 bk, .int .i64 bsv, .string bf, .string bfi, .int .i64 bl, .string bx] 23) := ⟨_, rfl⟩
      have sP36' : RO alC v36 (some ⟨v30.heap.size, 0, none⟩) 2 2 [(⟨ak, asv, af, afi, al, ax⟩ : AlD), (⟨bk, bsv, bf, bfi, bl, bx⟩ : AlD)] := (by rw [ht36]; exact hP.out _ _ hPc.out)
      have hB36 := hHeld.alloc hHeld.size (.cells #[.int .i64 ak, .int .i64 asv, .string af, .string afi, .int .i64 al, .string ax, .int .i64 bk, .int .i64 bsv, .string bf, .string bfi, .int .i64 bl, .string bx] 23)
      rw [← ht36] at hB36
      rw [← ht36]
      clear ht36
      have P36 : ∀ W, Below v36.heap.size v36 W → RO alC W (some ⟨v30.heap.size, 0, none⟩) 2 2 [(⟨ak, asv, af, afi, al, ax⟩ : AlD), (⟨bk, bsv, bf, bfi, bl, bx⟩ : AlD)] := fun W hW => sP36'.below hW
      refine hK.out _ _ (hB36) (fun hHeld => ?_)
      clear hK K
      try simp only [Act.put, List.setIfInBounds_toArray, List.set_cons_zero, List.set_cons_succ]
      refine wpAnyH_now hHeld (fun hHeld => ?_)
      replace FL := rebase FL (hB36)
      replace FT := rebase FT (hB36)
      replace FB := rebase FB (hB36)
      replace x0 := rebase x0 (hB36)
      replace x1 := rebase x1 (hB36)
      replace x2 := rebase x2 (hB36)
      replace x3 := rebase x3 (hB36)
      replace x4 := rebase x4 (hB36)
      replace x5 := rebase x5 (hB36)
      replace y0 := rebase y0 (hB36)
      replace y1 := rebase y1 (hB36)
      replace y2 := rebase y2 (hB36)
      replace y3 := rebase y3 (hB36)
      replace y4 := rebase y4 (hB36)
      replace y5 := rebase y5 (hB36)
      replace R27 := rebase R27 (hB36)
      replace R29 := rebase R29 (hB36)
      refine wpAnyH_ready (rs := [37, 41]) (by kernel_rfl) (by simp) ?_
      refine AllReadyH.cons (o := { dst := some 56, op := Go.Op.call { callee := Go.Callee.value (Go.Operand.func 16), args := #[Go.Operand.tmp 52, Go.Operand.tmp 55], argTypes := #[24, 24] }, type := 4, pos := "law.go:45", after := #[{ on := 33, ground := Go.Ground.data }, { on := 36, ground := Go.Ground.data }, { on := 32, ground := Go.Ground.chain }, { on := 32, ground := Go.Ground.guard }], guard := some (32, true) }) rfl (fun K hK => ?_) (AllReadyH.cons (o := { dst := some 60, op := Go.Op.buildSlice 24 2 #[(0, Go.Operand.tmp 58), (1, Go.Operand.tmp 59)], type := 24, pos := "law.go:45", after := #[{ on := 39, ground := Go.Ground.data }, { on := 40, ground := Go.Ground.data }, { on := 32, ground := Go.Ground.guard }], guard := some (32, true) }) rfl (fun K hK => ?_) AllReadyH.nil)
      · go_simp
        with_reducible refine (QM.out _ _ _ (FL _ hHeld) (P36 _ hHeld)).mono ?_
        rintro e v37 ⟨rfl, b37⟩
        have hB37 := hHeld.trans (b37.mono hHeld.size)
        go_simp
        refine hK.out _ _ (hB37) (fun hHeld => ?_)
        clear hK K
        try simp only [Act.put, List.setIfInBounds_toArray, List.set_cons_zero, List.set_cons_succ]
        refine wpAnyH_now hHeld (fun hHeld => ?_)
        replace FL := rebase FL (hB37)
        replace FT := rebase FT (hB37)
        replace FB := rebase FB (hB37)
        replace x0 := rebase x0 (hB37)
        replace x1 := rebase x1 (hB37)
        replace x2 := rebase x2 (hB37)
        replace x3 := rebase x3 (hB37)
        replace x4 := rebase x4 (hB37)
        replace x5 := rebase x5 (hB37)
        replace y0 := rebase y0 (hB37)
        replace y1 := rebase y1 (hB37)
        replace y2 := rebase y2 (hB37)
        replace y3 := rebase y3 (hB37)
        replace y4 := rebase y4 (hB37)
        replace y5 := rebase y5 (hB37)
        replace R27 := rebase R27 (hB37)
        replace R29 := rebase R29 (hB37)
        replace P36 := rebase P36 (hB37)
        refine wpAnyH_ready (rs := [41]) (by kernel_rfl) (by simp) ?_
        refine AllReadyH.cons (o := { dst := some 60, op := Go.Op.buildSlice 24 2 #[(0, Go.Operand.tmp 58), (1, Go.Operand.tmp 59)], type := 24, pos := "law.go:45", after := #[{ on := 39, ground := Go.Ground.data }, { on := 40, ground := Go.Ground.data }, { on := 32, ground := Go.Ground.guard }], guard := some (32, true) }) rfl (fun K hK => ?_) AllReadyH.nil
        go_simp
        obtain ⟨v41, ht41⟩ : ∃ v41, v41 = v37.alloc (.cells #[.int .i64 ak, .int .i64 asv, .string af, .string afi, .int .i64 al, .string ax, .int .i64 bk, .int .i64 bsv, .string bf, .string bfi, .int .i64 bl, .string bx] 23) := ⟨_, rfl⟩
        have sP41' : RO alC v41 (some ⟨v37.heap.size, 0, none⟩) 2 2 [(⟨ak, asv, af, afi, al, ax⟩ : AlD), (⟨bk, bsv, bf, bfi, bl, bx⟩ : AlD)] := (by rw [ht41]; exact hP.out _ _ hPc.out)
        have hB41 := hHeld.alloc hHeld.size (.cells #[.int .i64 ak, .int .i64 asv, .string af, .string afi, .int .i64 al, .string ax, .int .i64 bk, .int .i64 bsv, .string bf, .string bfi, .int .i64 bl, .string bx] 23)
        rw [← ht41] at hB41
        rw [← ht41]
        clear ht41
        have P41 : ∀ W, Below v41.heap.size v41 W → RO alC W (some ⟨v37.heap.size, 0, none⟩) 2 2 [(⟨ak, asv, af, afi, al, ax⟩ : AlD), (⟨bk, bsv, bf, bfi, bl, bx⟩ : AlD)] := fun W hW => sP41'.below hW
        refine hK.out _ _ (hB41) (fun hHeld => ?_)
        clear hK K
        try simp only [Act.put, List.setIfInBounds_toArray, List.set_cons_zero, List.set_cons_succ]
        refine wpAnyH_now hHeld (fun hHeld => ?_)
        replace FL := rebase FL (hB41)
        replace FT := rebase FT (hB41)
        replace FB := rebase FB (hB41)
        replace x0 := rebase x0 (hB41)
        replace x1 := rebase x1 (hB41)
        replace x2 := rebase x2 (hB41)
        replace x3 := rebase x3 (hB41)
        replace x4 := rebase x4 (hB41)
        replace x5 := rebase x5 (hB41)
        replace y0 := rebase y0 (hB41)
        replace y1 := rebase y1 (hB41)
        replace y2 := rebase y2 (hB41)
        replace y3 := rebase y3 (hB41)
        replace y4 := rebase y4 (hB41)
        replace y5 := rebase y5 (hB41)
        replace R27 := rebase R27 (hB41)
        replace R29 := rebase R29 (hB41)
        replace P36 := rebase P36 (hB41)
        refine wpAnyH_ready (rs := [42]) (by kernel_rfl) (by simp) ?_
        refine AllReadyH.cons (o := { dst := some 61, op := Go.Op.call { callee := Go.Callee.value (Go.Operand.func 13), args := #[Go.Operand.tmp 57, Go.Operand.tmp 60], argTypes := #[24, 24] }, type := 4, pos := "law.go:45", after := #[{ on := 38, ground := Go.Ground.data }, { on := 41, ground := Go.Ground.data }, { on := 37, ground := Go.Ground.chain }, { on := 32, ground := Go.Ground.guard }], guard := some (32, true) }) rfl (fun K hK => ?_) AllReadyH.nil
        go_simp
        with_reducible refine (QRM.out _ _ _ (FL _ hHeld) (P41 _ hHeld)).mono ?_
        rintro e v42 ⟨rfl, b42⟩
        have hB42 := hHeld.trans (b42.mono hHeld.size)
        go_simp
        refine hK.out _ _ (hB42) (fun hHeld => ?_)
        clear hK K
        try simp only [Act.put, List.setIfInBounds_toArray, List.set_cons_zero, List.set_cons_succ]
        refine wpAnyH_now hHeld (fun hHeld => ?_)
        replace FL := rebase FL (hB42)
        replace FT := rebase FT (hB42)
        replace FB := rebase FB (hB42)
        replace x0 := rebase x0 (hB42)
        replace x1 := rebase x1 (hB42)
        replace x2 := rebase x2 (hB42)
        replace x3 := rebase x3 (hB42)
        replace x4 := rebase x4 (hB42)
        replace x5 := rebase x5 (hB42)
        replace y0 := rebase y0 (hB42)
        replace y1 := rebase y1 (hB42)
        replace y2 := rebase y2 (hB42)
        replace y3 := rebase y3 (hB42)
        replace y4 := rebase y4 (hB42)
        replace y5 := rebase y5 (hB42)
        replace R27 := rebase R27 (hB42)
        replace R29 := rebase R29 (hB42)
        replace P36 := rebase P36 (hB42)
        replace P41 := rebase P41 (hB42)
        refine wpAnyH_take (i := 43) (oi := { dst := some 62, op := Go.Op.binOp Go.BinOp.eql 4 (Go.Operand.tmp 56) (Go.Operand.tmp 61) 4, type := 4, pos := "law.go:45", after := #[{ on := 37, ground := Go.Ground.data }, { on := 42, ground := Go.Ground.data }, { on := 32, ground := Go.Ground.guard }], guard := some (32, true) }) (v := ?v33) rfl (by kernel_rfl) (by kernel_rfl) (by kernel_rfl) (fun _ _ _ h => h) (Or.inl ⟨by kernel_rfl, ?h33⟩) (by assumption) ?r33
        case h33 => (intro w hSw; (try dsimp only at hSw); go_simp; try with_reducible rfl)
        try simp only [Act.put, List.setIfInBounds_toArray, List.set_cons_zero, List.set_cons_succ]
        refine wpAnyH_take (i := 44) (oi := { dst := some 63, op := Go.Op.pick (Go.Operand.tmp 51) (Go.Operand.tmp 62) (Go.Operand.const (Go.Value.bool false)), type := 4, pos := "law.go:45", after := #[{ on := 32, ground := Go.Ground.data }, { on := 43, ground := Go.Ground.data }], guard := none }) (v := ?v34) rfl (by kernel_rfl) (by kernel_rfl) (by kernel_rfl) (fun _ _ _ h => h) (Or.inl ⟨by kernel_rfl, ?h34⟩) (by assumption) ?r34
        case h34 => (intro w hSw; (try dsimp only at hSw); go_simp; try with_reducible rfl)
        try simp only [Act.put, List.setIfInBounds_toArray, List.set_cons_zero, List.set_cons_succ]
        refine wpAnyH_take (i := 45) (oi := { dst := some 6, op := Go.Op.assign (Go.Operand.tmp 63), type := 4, pos := "law.go:45", after := #[{ on := 44, ground := Go.Ground.data }, { on := 42, ground := Go.Ground.chain }, { on := 0, ground := Go.Ground.phase }, { on := 1, ground := Go.Ground.phase }, { on := 2, ground := Go.Ground.phase }, { on := 3, ground := Go.Ground.phase }, { on := 4, ground := Go.Ground.phase }, { on := 5, ground := Go.Ground.phase }, { on := 6, ground := Go.Ground.phase }, { on := 7, ground := Go.Ground.phase }, { on := 8, ground := Go.Ground.phase }, { on := 9, ground := Go.Ground.phase }, { on := 10, ground := Go.Ground.phase }, { on := 11, ground := Go.Ground.phase }, { on := 12, ground := Go.Ground.phase }, { on := 13, ground := Go.Ground.phase }, { on := 14, ground := Go.Ground.phase }, { on := 15, ground := Go.Ground.phase }, { on := 16, ground := Go.Ground.phase }, { on := 17, ground := Go.Ground.phase }, { on := 18, ground := Go.Ground.phase }, { on := 19, ground := Go.Ground.phase }, { on := 20, ground := Go.Ground.phase }, { on := 21, ground := Go.Ground.phase }, { on := 22, ground := Go.Ground.phase }, { on := 23, ground := Go.Ground.phase }, { on := 24, ground := Go.Ground.phase }, { on := 25, ground := Go.Ground.phase }, { on := 26, ground := Go.Ground.phase }, { on := 27, ground := Go.Ground.phase }, { on := 28, ground := Go.Ground.phase }, { on := 29, ground := Go.Ground.phase }, { on := 30, ground := Go.Ground.phase }, { on := 31, ground := Go.Ground.phase }, { on := 32, ground := Go.Ground.phase }, { on := 33, ground := Go.Ground.phase }, { on := 34, ground := Go.Ground.phase }, { on := 35, ground := Go.Ground.phase }, { on := 36, ground := Go.Ground.phase }, { on := 37, ground := Go.Ground.phase }, { on := 38, ground := Go.Ground.phase }, { on := 39, ground := Go.Ground.phase }, { on := 40, ground := Go.Ground.phase }, { on := 41, ground := Go.Ground.phase }, { on := 42, ground := Go.Ground.phase }, { on := 43, ground := Go.Ground.phase }, { on := 44, ground := Go.Ground.phase }], guard := none }) (v := ?v35) rfl (by kernel_rfl) (by kernel_rfl) (by kernel_rfl) (fun _ _ _ h => h) (Or.inl ⟨by kernel_rfl, ?h35⟩) (by assumption) ?r35
        case h35 => (intro w hSw; (try dsimp only at hSw); go_simp; try with_reducible rfl)
        try simp only [Act.put, List.setIfInBounds_toArray, List.set_cons_zero, List.set_cons_succ]
        refine wpAnyH_done (by kernel_rfl) ?_ _
        have hfin := Lib.hid (FB _ hHeld)
        clear x0 x1 x2 x3 x4 x5 y0 y1 y2 y3 y4 y5 FL FT FB
        go_wp2
        go_ret
        exact ⟨rfl, hfin.out⟩
      · go_simp
        obtain ⟨v41, ht41⟩ : ∃ v41, v41 = v36.alloc (.cells #[.int .i64 ak, .int .i64 asv, .string af, .string afi, .int .i64 al, .string ax, .int .i64 bk, .int .i64 bsv, .string bf, .string bfi, .int .i64 bl, .string bx] 23) := ⟨_, rfl⟩
        have sP41' : RO alC v41 (some ⟨v36.heap.size, 0, none⟩) 2 2 [(⟨ak, asv, af, afi, al, ax⟩ : AlD), (⟨bk, bsv, bf, bfi, bl, bx⟩ : AlD)] := (by rw [ht41]; exact hP.out _ _ hPc.out)
        have hB41 := hHeld.alloc hHeld.size (.cells #[.int .i64 ak, .int .i64 asv, .string af, .string afi, .int .i64 al, .string ax, .int .i64 bk, .int .i64 bsv, .string bf, .string bfi, .int .i64 bl, .string bx] 23)
        rw [← ht41] at hB41
        rw [← ht41]
        clear ht41
        have P41 : ∀ W, Below v41.heap.size v41 W → RO alC W (some ⟨v36.heap.size, 0, none⟩) 2 2 [(⟨ak, asv, af, afi, al, ax⟩ : AlD), (⟨bk, bsv, bf, bfi, bl, bx⟩ : AlD)] := fun W hW => sP41'.below hW
        refine hK.out _ _ (hB41) (fun hHeld => ?_)
        clear hK K
        try simp only [Act.put, List.setIfInBounds_toArray, List.set_cons_zero, List.set_cons_succ]
        refine wpAnyH_now hHeld (fun hHeld => ?_)
        replace FL := rebase FL (hB41)
        replace FT := rebase FT (hB41)
        replace FB := rebase FB (hB41)
        replace x0 := rebase x0 (hB41)
        replace x1 := rebase x1 (hB41)
        replace x2 := rebase x2 (hB41)
        replace x3 := rebase x3 (hB41)
        replace x4 := rebase x4 (hB41)
        replace x5 := rebase x5 (hB41)
        replace y0 := rebase y0 (hB41)
        replace y1 := rebase y1 (hB41)
        replace y2 := rebase y2 (hB41)
        replace y3 := rebase y3 (hB41)
        replace y4 := rebase y4 (hB41)
        replace y5 := rebase y5 (hB41)
        replace R27 := rebase R27 (hB41)
        replace R29 := rebase R29 (hB41)
        replace P36 := rebase P36 (hB41)
        refine wpAnyH_ready (rs := [37]) (by kernel_rfl) (by simp) ?_
        refine AllReadyH.cons (o := { dst := some 56, op := Go.Op.call { callee := Go.Callee.value (Go.Operand.func 16), args := #[Go.Operand.tmp 52, Go.Operand.tmp 55], argTypes := #[24, 24] }, type := 4, pos := "law.go:45", after := #[{ on := 33, ground := Go.Ground.data }, { on := 36, ground := Go.Ground.data }, { on := 32, ground := Go.Ground.chain }, { on := 32, ground := Go.Ground.guard }], guard := some (32, true) }) rfl (fun K hK => ?_) AllReadyH.nil
        go_simp
        with_reducible refine (QM.out _ _ _ (FL _ hHeld) (P36 _ hHeld)).mono ?_
        rintro e v37 ⟨rfl, b37⟩
        have hB37 := hHeld.trans (b37.mono hHeld.size)
        go_simp
        refine hK.out _ _ (hB37) (fun hHeld => ?_)
        clear hK K
        try simp only [Act.put, List.setIfInBounds_toArray, List.set_cons_zero, List.set_cons_succ]
        refine wpAnyH_now hHeld (fun hHeld => ?_)
        replace FL := rebase FL (hB37)
        replace FT := rebase FT (hB37)
        replace FB := rebase FB (hB37)
        replace x0 := rebase x0 (hB37)
        replace x1 := rebase x1 (hB37)
        replace x2 := rebase x2 (hB37)
        replace x3 := rebase x3 (hB37)
        replace x4 := rebase x4 (hB37)
        replace x5 := rebase x5 (hB37)
        replace y0 := rebase y0 (hB37)
        replace y1 := rebase y1 (hB37)
        replace y2 := rebase y2 (hB37)
        replace y3 := rebase y3 (hB37)
        replace y4 := rebase y4 (hB37)
        replace y5 := rebase y5 (hB37)
        replace R27 := rebase R27 (hB37)
        replace R29 := rebase R29 (hB37)
        replace P36 := rebase P36 (hB37)
        replace P41 := rebase P41 (hB37)
        refine wpAnyH_ready (rs := [42]) (by kernel_rfl) (by simp) ?_
        refine AllReadyH.cons (o := { dst := some 61, op := Go.Op.call { callee := Go.Callee.value (Go.Operand.func 13), args := #[Go.Operand.tmp 57, Go.Operand.tmp 60], argTypes := #[24, 24] }, type := 4, pos := "law.go:45", after := #[{ on := 38, ground := Go.Ground.data }, { on := 41, ground := Go.Ground.data }, { on := 37, ground := Go.Ground.chain }, { on := 32, ground := Go.Ground.guard }], guard := some (32, true) }) rfl (fun K hK => ?_) AllReadyH.nil
        go_simp
        with_reducible refine (QRM.out _ _ _ (FL _ hHeld) (P41 _ hHeld)).mono ?_
        rintro e v42 ⟨rfl, b42⟩
        have hB42 := hHeld.trans (b42.mono hHeld.size)
        go_simp
        refine hK.out _ _ (hB42) (fun hHeld => ?_)
        clear hK K
        try simp only [Act.put, List.setIfInBounds_toArray, List.set_cons_zero, List.set_cons_succ]
        refine wpAnyH_now hHeld (fun hHeld => ?_)
        replace FL := rebase FL (hB42)
        replace FT := rebase FT (hB42)
        replace FB := rebase FB (hB42)
        replace x0 := rebase x0 (hB42)
        replace x1 := rebase x1 (hB42)
        replace x2 := rebase x2 (hB42)
        replace x3 := rebase x3 (hB42)
        replace x4 := rebase x4 (hB42)
        replace x5 := rebase x5 (hB42)
        replace y0 := rebase y0 (hB42)
        replace y1 := rebase y1 (hB42)
        replace y2 := rebase y2 (hB42)
        replace y3 := rebase y3 (hB42)
        replace y4 := rebase y4 (hB42)
        replace y5 := rebase y5 (hB42)
        replace R27 := rebase R27 (hB42)
        replace R29 := rebase R29 (hB42)
        replace P36 := rebase P36 (hB42)
        replace P41 := rebase P41 (hB42)
        refine wpAnyH_take (i := 43) (oi := { dst := some 62, op := Go.Op.binOp Go.BinOp.eql 4 (Go.Operand.tmp 56) (Go.Operand.tmp 61) 4, type := 4, pos := "law.go:45", after := #[{ on := 37, ground := Go.Ground.data }, { on := 42, ground := Go.Ground.data }, { on := 32, ground := Go.Ground.guard }], guard := some (32, true) }) (v := ?v36) rfl (by kernel_rfl) (by kernel_rfl) (by kernel_rfl) (fun _ _ _ h => h) (Or.inl ⟨by kernel_rfl, ?h36⟩) (by assumption) ?r36
        case h36 => (intro w hSw; (try dsimp only at hSw); go_simp; try with_reducible rfl)
        try simp only [Act.put, List.setIfInBounds_toArray, List.set_cons_zero, List.set_cons_succ]
        refine wpAnyH_take (i := 44) (oi := { dst := some 63, op := Go.Op.pick (Go.Operand.tmp 51) (Go.Operand.tmp 62) (Go.Operand.const (Go.Value.bool false)), type := 4, pos := "law.go:45", after := #[{ on := 32, ground := Go.Ground.data }, { on := 43, ground := Go.Ground.data }], guard := none }) (v := ?v37) rfl (by kernel_rfl) (by kernel_rfl) (by kernel_rfl) (fun _ _ _ h => h) (Or.inl ⟨by kernel_rfl, ?h37⟩) (by assumption) ?r37
        case h37 => (intro w hSw; (try dsimp only at hSw); go_simp; try with_reducible rfl)
        try simp only [Act.put, List.setIfInBounds_toArray, List.set_cons_zero, List.set_cons_succ]
        refine wpAnyH_take (i := 45) (oi := { dst := some 6, op := Go.Op.assign (Go.Operand.tmp 63), type := 4, pos := "law.go:45", after := #[{ on := 44, ground := Go.Ground.data }, { on := 42, ground := Go.Ground.chain }, { on := 0, ground := Go.Ground.phase }, { on := 1, ground := Go.Ground.phase }, { on := 2, ground := Go.Ground.phase }, { on := 3, ground := Go.Ground.phase }, { on := 4, ground := Go.Ground.phase }, { on := 5, ground := Go.Ground.phase }, { on := 6, ground := Go.Ground.phase }, { on := 7, ground := Go.Ground.phase }, { on := 8, ground := Go.Ground.phase }, { on := 9, ground := Go.Ground.phase }, { on := 10, ground := Go.Ground.phase }, { on := 11, ground := Go.Ground.phase }, { on := 12, ground := Go.Ground.phase }, { on := 13, ground := Go.Ground.phase }, { on := 14, ground := Go.Ground.phase }, { on := 15, ground := Go.Ground.phase }, { on := 16, ground := Go.Ground.phase }, { on := 17, ground := Go.Ground.phase }, { on := 18, ground := Go.Ground.phase }, { on := 19, ground := Go.Ground.phase }, { on := 20, ground := Go.Ground.phase }, { on := 21, ground := Go.Ground.phase }, { on := 22, ground := Go.Ground.phase }, { on := 23, ground := Go.Ground.phase }, { on := 24, ground := Go.Ground.phase }, { on := 25, ground := Go.Ground.phase }, { on := 26, ground := Go.Ground.phase }, { on := 27, ground := Go.Ground.phase }, { on := 28, ground := Go.Ground.phase }, { on := 29, ground := Go.Ground.phase }, { on := 30, ground := Go.Ground.phase }, { on := 31, ground := Go.Ground.phase }, { on := 32, ground := Go.Ground.phase }, { on := 33, ground := Go.Ground.phase }, { on := 34, ground := Go.Ground.phase }, { on := 35, ground := Go.Ground.phase }, { on := 36, ground := Go.Ground.phase }, { on := 37, ground := Go.Ground.phase }, { on := 38, ground := Go.Ground.phase }, { on := 39, ground := Go.Ground.phase }, { on := 40, ground := Go.Ground.phase }, { on := 41, ground := Go.Ground.phase }, { on := 42, ground := Go.Ground.phase }, { on := 43, ground := Go.Ground.phase }, { on := 44, ground := Go.Ground.phase }], guard := none }) (v := ?v38) rfl (by kernel_rfl) (by kernel_rfl) (by kernel_rfl) (fun _ _ _ h => h) (Or.inl ⟨by kernel_rfl, ?h38⟩) (by assumption) ?r38
        case h38 => (intro w hSw; (try dsimp only at hSw); go_simp; try with_reducible rfl)
        try simp only [Act.put, List.setIfInBounds_toArray, List.set_cons_zero, List.set_cons_succ]
        refine wpAnyH_done (by kernel_rfl) ?_ _
        have hfin := Lib.hid (FB _ hHeld)
        clear x0 x1 x2 x3 x4 x5 y0 y1 y2 y3 y4 y5 FL FT FB
        go_wp2
        go_ret
        exact ⟨rfl, hfin.out⟩
    · go_simp
      obtain ⟨v41, ht41⟩ : ∃ v41, v41 = v30.alloc (.cells #[.int .i64 ak, .int .i64 asv, .string af, .string afi, .int .i64 al, .string ax, .int .i64 bk, .int .i64 bsv, .string bf, .string bfi, .int .i64 bl, .string bx] 23) := ⟨_, rfl⟩
      have sP41' : RO alC v41 (some ⟨v30.heap.size, 0, none⟩) 2 2 [(⟨ak, asv, af, afi, al, ax⟩ : AlD), (⟨bk, bsv, bf, bfi, bl, bx⟩ : AlD)] := (by rw [ht41]; exact hP.out _ _ hPc.out)
      have hB41 := hHeld.alloc hHeld.size (.cells #[.int .i64 ak, .int .i64 asv, .string af, .string afi, .int .i64 al, .string ax, .int .i64 bk, .int .i64 bsv, .string bf, .string bfi, .int .i64 bl, .string bx] 23)
      rw [← ht41] at hB41
      rw [← ht41]
      clear ht41
      have P41 : ∀ W, Below v41.heap.size v41 W → RO alC W (some ⟨v30.heap.size, 0, none⟩) 2 2 [(⟨ak, asv, af, afi, al, ax⟩ : AlD), (⟨bk, bsv, bf, bfi, bl, bx⟩ : AlD)] := fun W hW => sP41'.below hW
      refine hK.out _ _ (hB41) (fun hHeld => ?_)
      clear hK K
      try simp only [Act.put, List.setIfInBounds_toArray, List.set_cons_zero, List.set_cons_succ]
      refine wpAnyH_now hHeld (fun hHeld => ?_)
      replace FL := rebase FL (hB41)
      replace FT := rebase FT (hB41)
      replace FB := rebase FB (hB41)
      replace x0 := rebase x0 (hB41)
      replace x1 := rebase x1 (hB41)
      replace x2 := rebase x2 (hB41)
      replace x3 := rebase x3 (hB41)
      replace x4 := rebase x4 (hB41)
      replace x5 := rebase x5 (hB41)
      replace y0 := rebase y0 (hB41)
      replace y1 := rebase y1 (hB41)
      replace y2 := rebase y2 (hB41)
      replace y3 := rebase y3 (hB41)
      replace y4 := rebase y4 (hB41)
      replace y5 := rebase y5 (hB41)
      replace R27 := rebase R27 (hB41)
      replace R29 := rebase R29 (hB41)
      refine wpAnyH_ready (rs := [36]) (by kernel_rfl) (by simp) ?_
      refine AllReadyH.cons (o := { dst := some 55, op := Go.Op.buildSlice 24 2 #[(0, Go.Operand.tmp 53), (1, Go.Operand.tmp 54)], type := 24, pos := "law.go:45", after := #[{ on := 34, ground := Go.Ground.data }, { on := 35, ground := Go.Ground.data }, { on := 32, ground := Go.Ground.guard }], guard := some (32, true) }) rfl (fun K hK => ?_) AllReadyH.nil
      go_simp
      obtain ⟨v36, ht36⟩ : ∃ v36, v36 = v41.alloc (.cells #[.int .i64 ak, .int .i64 asv, .string af, .string afi, .int .i64 al, .string ax, .int .i64 bk, .int .i64 bsv, .string bf, .string bfi, .int .i64 bl, .string bx] 23) := ⟨_, rfl⟩
      have sP36' : RO alC v36 (some ⟨v41.heap.size, 0, none⟩) 2 2 [(⟨ak, asv, af, afi, al, ax⟩ : AlD), (⟨bk, bsv, bf, bfi, bl, bx⟩ : AlD)] := (by rw [ht36]; exact hP.out _ _ hPc.out)
      have hB36 := hHeld.alloc hHeld.size (.cells #[.int .i64 ak, .int .i64 asv, .string af, .string afi, .int .i64 al, .string ax, .int .i64 bk, .int .i64 bsv, .string bf, .string bfi, .int .i64 bl, .string bx] 23)
      rw [← ht36] at hB36
      rw [← ht36]
      clear ht36
      have P36 : ∀ W, Below v36.heap.size v36 W → RO alC W (some ⟨v41.heap.size, 0, none⟩) 2 2 [(⟨ak, asv, af, afi, al, ax⟩ : AlD), (⟨bk, bsv, bf, bfi, bl, bx⟩ : AlD)] := fun W hW => sP36'.below hW
      refine hK.out _ _ (hB36) (fun hHeld => ?_)
      clear hK K
      try simp only [Act.put, List.setIfInBounds_toArray, List.set_cons_zero, List.set_cons_succ]
      refine wpAnyH_now hHeld (fun hHeld => ?_)
      replace FL := rebase FL (hB36)
      replace FT := rebase FT (hB36)
      replace FB := rebase FB (hB36)
      replace x0 := rebase x0 (hB36)
      replace x1 := rebase x1 (hB36)
      replace x2 := rebase x2 (hB36)
      replace x3 := rebase x3 (hB36)
      replace x4 := rebase x4 (hB36)
      replace x5 := rebase x5 (hB36)
      replace y0 := rebase y0 (hB36)
      replace y1 := rebase y1 (hB36)
      replace y2 := rebase y2 (hB36)
      replace y3 := rebase y3 (hB36)
      replace y4 := rebase y4 (hB36)
      replace y5 := rebase y5 (hB36)
      replace R27 := rebase R27 (hB36)
      replace R29 := rebase R29 (hB36)
      replace P41 := rebase P41 (hB36)
      refine wpAnyH_ready (rs := [37]) (by kernel_rfl) (by simp) ?_
      refine AllReadyH.cons (o := { dst := some 56, op := Go.Op.call { callee := Go.Callee.value (Go.Operand.func 16), args := #[Go.Operand.tmp 52, Go.Operand.tmp 55], argTypes := #[24, 24] }, type := 4, pos := "law.go:45", after := #[{ on := 33, ground := Go.Ground.data }, { on := 36, ground := Go.Ground.data }, { on := 32, ground := Go.Ground.chain }, { on := 32, ground := Go.Ground.guard }], guard := some (32, true) }) rfl (fun K hK => ?_) AllReadyH.nil
      go_simp
      with_reducible refine (QM.out _ _ _ (FL _ hHeld) (P36 _ hHeld)).mono ?_
      rintro e v37 ⟨rfl, b37⟩
      have hB37 := hHeld.trans (b37.mono hHeld.size)
      go_simp
      refine hK.out _ _ (hB37) (fun hHeld => ?_)
      clear hK K
      try simp only [Act.put, List.setIfInBounds_toArray, List.set_cons_zero, List.set_cons_succ]
      refine wpAnyH_now hHeld (fun hHeld => ?_)
      replace FL := rebase FL (hB37)
      replace FT := rebase FT (hB37)
      replace FB := rebase FB (hB37)
      replace x0 := rebase x0 (hB37)
      replace x1 := rebase x1 (hB37)
      replace x2 := rebase x2 (hB37)
      replace x3 := rebase x3 (hB37)
      replace x4 := rebase x4 (hB37)
      replace x5 := rebase x5 (hB37)
      replace y0 := rebase y0 (hB37)
      replace y1 := rebase y1 (hB37)
      replace y2 := rebase y2 (hB37)
      replace y3 := rebase y3 (hB37)
      replace y4 := rebase y4 (hB37)
      replace y5 := rebase y5 (hB37)
      replace R27 := rebase R27 (hB37)
      replace R29 := rebase R29 (hB37)
      replace P41 := rebase P41 (hB37)
      replace P36 := rebase P36 (hB37)
      refine wpAnyH_ready (rs := [42]) (by kernel_rfl) (by simp) ?_
      refine AllReadyH.cons (o := { dst := some 61, op := Go.Op.call { callee := Go.Callee.value (Go.Operand.func 13), args := #[Go.Operand.tmp 57, Go.Operand.tmp 60], argTypes := #[24, 24] }, type := 4, pos := "law.go:45", after := #[{ on := 38, ground := Go.Ground.data }, { on := 41, ground := Go.Ground.data }, { on := 37, ground := Go.Ground.chain }, { on := 32, ground := Go.Ground.guard }], guard := some (32, true) }) rfl (fun K hK => ?_) AllReadyH.nil
      go_simp
      with_reducible refine (QRM.out _ _ _ (FL _ hHeld) (P41 _ hHeld)).mono ?_
      rintro e v42 ⟨rfl, b42⟩
      have hB42 := hHeld.trans (b42.mono hHeld.size)
      go_simp
      refine hK.out _ _ (hB42) (fun hHeld => ?_)
      clear hK K
      try simp only [Act.put, List.setIfInBounds_toArray, List.set_cons_zero, List.set_cons_succ]
      refine wpAnyH_now hHeld (fun hHeld => ?_)
      replace FL := rebase FL (hB42)
      replace FT := rebase FT (hB42)
      replace FB := rebase FB (hB42)
      replace x0 := rebase x0 (hB42)
      replace x1 := rebase x1 (hB42)
      replace x2 := rebase x2 (hB42)
      replace x3 := rebase x3 (hB42)
      replace x4 := rebase x4 (hB42)
      replace x5 := rebase x5 (hB42)
      replace y0 := rebase y0 (hB42)
      replace y1 := rebase y1 (hB42)
      replace y2 := rebase y2 (hB42)
      replace y3 := rebase y3 (hB42)
      replace y4 := rebase y4 (hB42)
      replace y5 := rebase y5 (hB42)
      replace R27 := rebase R27 (hB42)
      replace R29 := rebase R29 (hB42)
      replace P41 := rebase P41 (hB42)
      replace P36 := rebase P36 (hB42)
      refine wpAnyH_take (i := 43) (oi := { dst := some 62, op := Go.Op.binOp Go.BinOp.eql 4 (Go.Operand.tmp 56) (Go.Operand.tmp 61) 4, type := 4, pos := "law.go:45", after := #[{ on := 37, ground := Go.Ground.data }, { on := 42, ground := Go.Ground.data }, { on := 32, ground := Go.Ground.guard }], guard := some (32, true) }) (v := ?v39) rfl (by kernel_rfl) (by kernel_rfl) (by kernel_rfl) (fun _ _ _ h => h) (Or.inl ⟨by kernel_rfl, ?h39⟩) (by assumption) ?r39
      case h39 => (intro w hSw; (try dsimp only at hSw); go_simp; try with_reducible rfl)
      try simp only [Act.put, List.setIfInBounds_toArray, List.set_cons_zero, List.set_cons_succ]
      refine wpAnyH_take (i := 44) (oi := { dst := some 63, op := Go.Op.pick (Go.Operand.tmp 51) (Go.Operand.tmp 62) (Go.Operand.const (Go.Value.bool false)), type := 4, pos := "law.go:45", after := #[{ on := 32, ground := Go.Ground.data }, { on := 43, ground := Go.Ground.data }], guard := none }) (v := ?v40) rfl (by kernel_rfl) (by kernel_rfl) (by kernel_rfl) (fun _ _ _ h => h) (Or.inl ⟨by kernel_rfl, ?h40⟩) (by assumption) ?r40
      case h40 => (intro w hSw; (try dsimp only at hSw); go_simp; try with_reducible rfl)
      try simp only [Act.put, List.setIfInBounds_toArray, List.set_cons_zero, List.set_cons_succ]
      refine wpAnyH_take (i := 45) (oi := { dst := some 6, op := Go.Op.assign (Go.Operand.tmp 63), type := 4, pos := "law.go:45", after := #[{ on := 44, ground := Go.Ground.data }, { on := 42, ground := Go.Ground.chain }, { on := 0, ground := Go.Ground.phase }, { on := 1, ground := Go.Ground.phase }, { on := 2, ground := Go.Ground.phase }, { on := 3, ground := Go.Ground.phase }, { on := 4, ground := Go.Ground.phase }, { on := 5, ground := Go.Ground.phase }, { on := 6, ground := Go.Ground.phase }, { on := 7, ground := Go.Ground.phase }, { on := 8, ground := Go.Ground.phase }, { on := 9, ground := Go.Ground.phase }, { on := 10, ground := Go.Ground.phase }, { on := 11, ground := Go.Ground.phase }, { on := 12, ground := Go.Ground.phase }, { on := 13, ground := Go.Ground.phase }, { on := 14, ground := Go.Ground.phase }, { on := 15, ground := Go.Ground.phase }, { on := 16, ground := Go.Ground.phase }, { on := 17, ground := Go.Ground.phase }, { on := 18, ground := Go.Ground.phase }, { on := 19, ground := Go.Ground.phase }, { on := 20, ground := Go.Ground.phase }, { on := 21, ground := Go.Ground.phase }, { on := 22, ground := Go.Ground.phase }, { on := 23, ground := Go.Ground.phase }, { on := 24, ground := Go.Ground.phase }, { on := 25, ground := Go.Ground.phase }, { on := 26, ground := Go.Ground.phase }, { on := 27, ground := Go.Ground.phase }, { on := 28, ground := Go.Ground.phase }, { on := 29, ground := Go.Ground.phase }, { on := 30, ground := Go.Ground.phase }, { on := 31, ground := Go.Ground.phase }, { on := 32, ground := Go.Ground.phase }, { on := 33, ground := Go.Ground.phase }, { on := 34, ground := Go.Ground.phase }, { on := 35, ground := Go.Ground.phase }, { on := 36, ground := Go.Ground.phase }, { on := 37, ground := Go.Ground.phase }, { on := 38, ground := Go.Ground.phase }, { on := 39, ground := Go.Ground.phase }, { on := 40, ground := Go.Ground.phase }, { on := 41, ground := Go.Ground.phase }, { on := 42, ground := Go.Ground.phase }, { on := 43, ground := Go.Ground.phase }, { on := 44, ground := Go.Ground.phase }], guard := none }) (v := ?v41) rfl (by kernel_rfl) (by kernel_rfl) (by kernel_rfl) (fun _ _ _ h => h) (Or.inl ⟨by kernel_rfl, ?h41⟩) (by assumption) ?r41
      case h41 => (intro w hSw; (try dsimp only at hSw); go_simp; try with_reducible rfl)
      try simp only [Act.put, List.setIfInBounds_toArray, List.set_cons_zero, List.set_cons_succ]
      refine wpAnyH_done (by kernel_rfl) ?_ _
      have hfin := Lib.hid (FB _ hHeld)
      clear x0 x1 x2 x3 x4 x5 y0 y1 y2 y3 y4 y5 FL FT FB
      go_wp2
      go_ret
      exact ⟨rfl, hfin.out⟩
  | false =>
    have hr : E = 170 := by rw [hE.out]; rfl
    clear hE
    subst hr
    go_wp2
    refine wp_drawn (by kernel_rfl) (fun hHeld => ?_)
    refine wpAnyH_ready (rs := [0]) (by kernel_rfl) (by simp) ?_
    refine AllReadyH.cons (o := { dst := some 19, op := Go.Op.call { callee := Go.Callee.value (Go.Operand.func 8), args := #[], argTypes := #[] }, type := 4, pos := "law.go:45", after := #[], guard := none }) rfl (fun K hK => ?_) AllReadyH.nil
    go_simp
    with_reducible refine (qv.out _ (FT _ hHeld)).mono ?_
    rintro e v0 ⟨rfl, b0⟩
    have hB0 := hHeld.trans (b0.mono hHeld.size)
    go_simp
    refine hK.out _ _ (hB0) (fun hHeld => ?_)
    clear hK K
    try simp only [Act.put, List.setIfInBounds_toArray, List.set_cons_zero, List.set_cons_succ]
    refine wpAnyH_now hHeld (fun hHeld => ?_)
    replace FL := rebase FL (hB0)
    replace FT := rebase FT (hB0)
    replace FB := rebase FB (hB0)
    replace x0 := rebase x0 (hB0)
    replace x1 := rebase x1 (hB0)
    replace x2 := rebase x2 (hB0)
    replace x3 := rebase x3 (hB0)
    replace x4 := rebase x4 (hB0)
    replace x5 := rebase x5 (hB0)
    replace y0 := rebase y0 (hB0)
    replace y1 := rebase y1 (hB0)
    replace y2 := rebase y2 (hB0)
    replace y3 := rebase y3 (hB0)
    replace y4 := rebase y4 (hB0)
    replace y5 := rebase y5 (hB0)
    refine wpAnyH_take (i := 1) (oi := { dst := some 20, op := Go.Op.move (Go.Operand.tmp 19), type := 4, pos := "law.go:45", after := #[{ on := 0, ground := Go.Ground.data }, { on := 0, ground := Go.Ground.chain }], guard := none }) (v := ?v42) rfl (by kernel_rfl) (by kernel_rfl) (by kernel_rfl) (fun _ _ _ h => h) (Or.inl ⟨by kernel_rfl, ?h42⟩) (by assumption) ?r42
    case h42 => (intro w hSw; (try dsimp only at hSw); go_simp; try with_reducible rfl)
    try simp only [Act.put, List.setIfInBounds_toArray, List.set_cons_zero, List.set_cons_succ]
    refine wpAnyH_take (i := 2) (oi := { dst := some 21, op := Go.Op.move (Go.Operand.tmp 7), type := 27, pos := "law.go:45", after := #[{ on := 1, ground := Go.Ground.guard }], guard := some (1, true) }) (v := ?v43) rfl (by kernel_rfl) (by kernel_rfl) (by kernel_rfl) (fun _ _ _ h => h) (Or.inl ⟨by kernel_rfl, ?h43⟩) (by assumption) ?r43
    case h43 => (intro w hSw; (try dsimp only at hSw); go_simp; try with_reducible rfl)
    try simp only [Act.put, List.setIfInBounds_toArray, List.set_cons_zero, List.set_cons_succ]
    refine wpAnyH_take (i := 3) (oi := { dst := some 22, op := Go.Op.binOp Go.BinOp.eql 27 (Go.Operand.tmp 21) (Go.Operand.const (Go.Value.int Go.IntKind.i64 0)) 27, type := 4, pos := "law.go:45", after := #[{ on := 2, ground := Go.Ground.data }, { on := 1, ground := Go.Ground.guard }], guard := some (1, true) }) (v := ?v44) rfl (by kernel_rfl) (by kernel_rfl) (by kernel_rfl) (fun _ _ _ h => h) (Or.inl ⟨by kernel_rfl, ?h44⟩) (by assumption) ?r44
    case h44 => (intro w hSw; (try dsimp only at hSw); go_simp; try with_reducible rfl)
    try simp only [Act.put, List.setIfInBounds_toArray, List.set_cons_zero, List.set_cons_succ]
    refine wpAnyH_take (i := 4) (oi := { dst := some 23, op := Go.Op.load 23 (Go.Operand.tmp 3), type := 23, pos := "law.go:45", after := #[{ on := 1, ground := Go.Ground.guard }], guard := some (1, true) }) (v := ?v45) rfl (by kernel_rfl) (by kernel_rfl) (by kernel_rfl) (fun _ _ _ h => h) (Or.inl ⟨by kernel_rfl, ?h45⟩) (by assumption) ?r45
    case h45 => (intro w hSw; (try dsimp only at hSw); go_simp; try with_reducible rfl)
    try simp only [Act.put, List.setIfInBounds_toArray, List.set_cons_zero, List.set_cons_succ]
    refine wpAnyH_ready (rs := [5]) (by kernel_rfl) (by simp) ?_
    refine AllReadyH.cons (o := { dst := some 24, op := Go.Op.call { callee := Go.Callee.value (Go.Operand.func 10), args := #[Go.Operand.tmp 23], argTypes := #[23] }, type := 4, pos := "law.go:45", after := #[{ on := 4, ground := Go.Ground.data }, { on := 1, ground := Go.Ground.chain }, { on := 1, ground := Go.Ground.guard }], guard := some (1, true) }) rfl (fun K hK => ?_) AllReadyH.nil
    go_simp
    with_reducible refine (QRc.out _).mono ?_
    rintro e v5 ⟨rfl, b5⟩
    have hB5 := hHeld.trans (b5.mono hHeld.size)
    go_simp
    refine hK.out _ _ (hB5) (fun hHeld => ?_)
    clear hK K
    try simp only [Act.put, List.setIfInBounds_toArray, List.set_cons_zero, List.set_cons_succ]
    refine wpAnyH_now hHeld (fun hHeld => ?_)
    replace FL := rebase FL (hB5)
    replace FT := rebase FT (hB5)
    replace FB := rebase FB (hB5)
    replace x0 := rebase x0 (hB5)
    replace x1 := rebase x1 (hB5)
    replace x2 := rebase x2 (hB5)
    replace x3 := rebase x3 (hB5)
    replace x4 := rebase x4 (hB5)
    replace x5 := rebase x5 (hB5)
    replace y0 := rebase y0 (hB5)
    replace y1 := rebase y1 (hB5)
    replace y2 := rebase y2 (hB5)
    replace y3 := rebase y3 (hB5)
    replace y4 := rebase y4 (hB5)
    replace y5 := rebase y5 (hB5)
    refine wpAnyH_take (i := 6) (oi := { dst := some 25, op := Go.Op.binOp Go.BinOp.eql 4 (Go.Operand.tmp 22) (Go.Operand.tmp 24) 4, type := 4, pos := "law.go:45", after := #[{ on := 3, ground := Go.Ground.data }, { on := 5, ground := Go.Ground.data }, { on := 1, ground := Go.Ground.guard }], guard := some (1, true) }) (v := ?v46) rfl (by kernel_rfl) (by kernel_rfl) (by kernel_rfl) (fun _ _ _ h => h) (Or.inl ⟨by kernel_rfl, ?h46⟩) (by assumption) ?r46
    case h46 => (intro w hSw; (try dsimp only at hSw); go_simp; try with_reducible rfl)
    try simp only [Act.put, List.setIfInBounds_toArray, List.set_cons_zero, List.set_cons_succ]
    refine wpAnyH_take (i := 7) (oi := { dst := some 26, op := Go.Op.pick (Go.Operand.tmp 20) (Go.Operand.tmp 25) (Go.Operand.const (Go.Value.bool false)), type := 4, pos := "law.go:45", after := #[{ on := 1, ground := Go.Ground.data }, { on := 6, ground := Go.Ground.data }], guard := none }) (v := ?v47) rfl (by kernel_rfl) (by kernel_rfl) (by kernel_rfl) (fun _ _ _ h => h) (Or.inl ⟨by kernel_rfl, ?h47⟩) (by assumption) ?r47
    case h47 => (intro w hSw; (try dsimp only at hSw); go_simp; try with_reducible rfl)
    try simp only [Act.put, List.setIfInBounds_toArray, List.set_cons_zero, List.set_cons_succ]
    refine wpAnyH_take (i := 8) (oi := { dst := some 27, op := Go.Op.move (Go.Operand.tmp 26), type := 4, pos := "law.go:45", after := #[{ on := 7, ground := Go.Ground.data }, { on := 5, ground := Go.Ground.chain }], guard := none }) (v := ?v48) rfl (by kernel_rfl) (by kernel_rfl) (by kernel_rfl) (fun _ _ _ h => h) (Or.inl ⟨by kernel_rfl, ?h48⟩) (by assumption) ?r48
    case h48 => (intro w hSw; (try dsimp only at hSw); go_simp; try with_reducible rfl)
    try simp only [Act.put, List.setIfInBounds_toArray, List.set_cons_zero, List.set_cons_succ]
    refine wpAnyH_take (i := 9) (oi := { dst := some 28, op := Go.Op.move (Go.Operand.tmp 7), type := 27, pos := "law.go:45", after := #[{ on := 8, ground := Go.Ground.guard }], guard := some (8, true) }) (v := ?v49) rfl (by kernel_rfl) (by kernel_rfl) (by kernel_rfl) (fun _ _ _ h => h) (Or.inl ⟨by kernel_rfl, ?h49⟩) (by assumption) ?r49
    case h49 => (intro w hSw; (try dsimp only at hSw); go_simp; try with_reducible rfl)
    try simp only [Act.put, List.setIfInBounds_toArray, List.set_cons_zero, List.set_cons_succ]
    refine wpAnyH_take (i := 10) (oi := { dst := some 29, op := Go.Op.binOp Go.BinOp.eql 27 (Go.Operand.tmp 28) (Go.Operand.const (Go.Value.int Go.IntKind.i64 0)) 27, type := 4, pos := "law.go:45", after := #[{ on := 9, ground := Go.Ground.data }, { on := 8, ground := Go.Ground.guard }], guard := some (8, true) }) (v := ?v50) rfl (by kernel_rfl) (by kernel_rfl) (by kernel_rfl) (fun _ _ _ h => h) (Or.inl ⟨by kernel_rfl, ?h50⟩) (by assumption) ?r50
    case h50 => (intro w hSw; (try dsimp only at hSw); go_simp; try with_reducible rfl)
    try simp only [Act.put, List.setIfInBounds_toArray, List.set_cons_zero, List.set_cons_succ]
    refine wpAnyH_take (i := 11) (oi := { dst := some 30, op := Go.Op.move (Go.Operand.tmp 29), type := 4, pos := "law.go:45", after := #[{ on := 10, ground := Go.Ground.data }, { on := 8, ground := Go.Ground.chain }, { on := 8, ground := Go.Ground.guard }], guard := some (8, true) }) (v := ?v51) rfl (by kernel_rfl) (by kernel_rfl) (by kernel_rfl) (fun _ _ _ h => h) (Or.inl ⟨by kernel_rfl, ?h51⟩) (by assumption) ?r51
    case h51 => (intro w hSw; (try dsimp only at hSw); go_simp; try with_reducible rfl)
    try simp only [Act.put, List.setIfInBounds_toArray, List.set_cons_zero, List.set_cons_succ]
    refine wpAnyH_take (i := 12) (oi := { dst := some 31, op := Go.Op.move (Go.Operand.tmp 7), type := 27, pos := "law.go:45", after := #[{ on := 11, ground := Go.Ground.guard }], guard := some (11, false) }) (v := ?v52) rfl (by kernel_rfl) (by kernel_rfl) (by kernel_rfl) (fun _ _ _ h => h) (Or.inl ⟨by kernel_rfl, ?h52⟩) (by assumption) ?r52
    case h52 => (intro w hSw; (try dsimp only at hSw); go_simp; try with_reducible rfl)
    try simp only [Act.put, List.setIfInBounds_toArray, List.set_cons_zero, List.set_cons_succ]
    refine wpAnyH_take (i := 13) (oi := { dst := some 32, op := Go.Op.binOp Go.BinOp.eql 27 (Go.Operand.tmp 31) (Go.Operand.const (Go.Value.int Go.IntKind.i64 170)) 27, type := 4, pos := "law.go:45", after := #[{ on := 12, ground := Go.Ground.data }, { on := 11, ground := Go.Ground.guard }], guard := some (11, false) }) (v := ?v53) rfl (by kernel_rfl) (by kernel_rfl) (by kernel_rfl) (fun _ _ _ h => h) (Or.inl ⟨by kernel_rfl, ?h53⟩) (by assumption) ?r53
    case h53 => (intro w hSw; (try dsimp only at hSw); go_simp; try with_reducible rfl)
    try simp only [Act.put, List.setIfInBounds_toArray, List.set_cons_zero, List.set_cons_succ]
    refine wpAnyH_take (i := 14) (oi := { dst := some 33, op := Go.Op.pick (Go.Operand.tmp 30) (Go.Operand.const (Go.Value.bool true)) (Go.Operand.tmp 32), type := 4, pos := "law.go:45", after := #[{ on := 11, ground := Go.Ground.data }, { on := 13, ground := Go.Ground.data }, { on := 8, ground := Go.Ground.guard }], guard := some (8, true) }) (v := ?v54) rfl (by kernel_rfl) (by kernel_rfl) (by kernel_rfl) (fun _ _ _ h => h) (Or.inl ⟨by kernel_rfl, ?h54⟩) (by assumption) ?r54
    case h54 => (intro w hSw; (try dsimp only at hSw); go_simp; try with_reducible rfl)
    try simp only [Act.put, List.setIfInBounds_toArray, List.set_cons_zero, List.set_cons_succ]
    refine wpAnyH_take (i := 15) (oi := { dst := some 34, op := Go.Op.pick (Go.Operand.tmp 27) (Go.Operand.tmp 33) (Go.Operand.const (Go.Value.bool false)), type := 4, pos := "law.go:45", after := #[{ on := 8, ground := Go.Ground.data }, { on := 14, ground := Go.Ground.data }], guard := none }) (v := ?v55) rfl (by kernel_rfl) (by kernel_rfl) (by kernel_rfl) (fun _ _ _ h => h) (Or.inl ⟨by kernel_rfl, ?h55⟩) (by assumption) ?r55
    case h55 => (intro w hSw; (try dsimp only at hSw); go_simp; try with_reducible rfl)
    try simp only [Act.put, List.setIfInBounds_toArray, List.set_cons_zero, List.set_cons_succ]
    refine wpAnyH_take (i := 16) (oi := { dst := some 35, op := Go.Op.move (Go.Operand.tmp 34), type := 4, pos := "law.go:45", after := #[{ on := 15, ground := Go.Ground.data }, { on := 11, ground := Go.Ground.chain }], guard := none }) (v := ?v56) rfl (by kernel_rfl) (by kernel_rfl) (by kernel_rfl) (fun _ _ _ h => h) (Or.inl ⟨by kernel_rfl, ?h56⟩) (by assumption) ?r56
    case h56 => (intro w hSw; (try dsimp only at hSw); go_simp; try with_reducible rfl)
    try simp only [Act.put, List.setIfInBounds_toArray, List.set_cons_zero, List.set_cons_succ]
    refine wpAnyH_take (i := 17) (oi := { dst := some 36, op := Go.Op.load 23 (Go.Operand.tmp 3), type := 23, pos := "law.go:45", after := #[{ on := 16, ground := Go.Ground.guard }], guard := some (16, true) }) (v := ?v57) rfl (by kernel_rfl) (by kernel_rfl) (by kernel_rfl) (fun _ _ _ h => h) (Or.inl ⟨by kernel_rfl, ?h57⟩) (by assumption) ?r57
    case h57 => (intro w hSw; (try dsimp only at hSw); go_simp; try with_reducible rfl)
    try simp only [Act.put, List.setIfInBounds_toArray, List.set_cons_zero, List.set_cons_succ]
    refine wpAnyH_take (i := 18) (oi := { dst := some 37, op := Go.Op.load 23 (Go.Operand.tmp 4), type := 23, pos := "law.go:45", after := #[{ on := 16, ground := Go.Ground.guard }], guard := some (16, true) }) (v := ?v58) rfl (by kernel_rfl) (by kernel_rfl) (by kernel_rfl) (fun _ _ _ h => h) (Or.inl ⟨by kernel_rfl, ?h58⟩) (by assumption) ?r58
    case h58 => (intro w hSw; (try dsimp only at hSw); go_simp; try with_reducible rfl)
    try simp only [Act.put, List.setIfInBounds_toArray, List.set_cons_zero, List.set_cons_succ]
    refine wpAnyH_take (i := 20) (oi := { dst := some 39, op := Go.Op.load 23 (Go.Operand.tmp 3), type := 23, pos := "law.go:45", after := #[{ on := 16, ground := Go.Ground.guard }], guard := some (16, true) }) (v := ?v59) rfl (by kernel_rfl) (by kernel_rfl) (by kernel_rfl) (fun _ _ _ h => h) (Or.inl ⟨by kernel_rfl, ?h59⟩) (by assumption) ?r59
    case h59 => (intro w hSw; (try dsimp only at hSw); go_simp; try with_reducible rfl)
    try simp only [Act.put, List.setIfInBounds_toArray, List.set_cons_zero, List.set_cons_succ]
    refine wpAnyH_take (i := 21) (oi := { dst := some 40, op := Go.Op.load 23 (Go.Operand.tmp 4), type := 23, pos := "law.go:45", after := #[{ on := 16, ground := Go.Ground.guard }], guard := some (16, true) }) (v := ?v60) rfl (by kernel_rfl) (by kernel_rfl) (by kernel_rfl) (fun _ _ _ h => h) (Or.inl ⟨by kernel_rfl, ?h60⟩) (by assumption) ?r60
    case h60 => (intro w hSw; (try dsimp only at hSw); go_simp; try with_reducible rfl)
    try simp only [Act.put, List.setIfInBounds_toArray, List.set_cons_zero, List.set_cons_succ]
    refine wpAnyH_ready (rs := [19]) (by kernel_rfl) (by simp) ?_
    refine AllReadyH.cons (o := { dst := some 38, op := Go.Op.call { callee := Go.Callee.value (Go.Operand.func 11), args := #[Go.Operand.tmp 36, Go.Operand.tmp 37], argTypes := #[23, 23] }, type := 3, pos := "law.go:45", after := #[{ on := 17, ground := Go.Ground.data }, { on := 18, ground := Go.Ground.data }, { on := 16, ground := Go.Ground.chain }, { on := 16, ground := Go.Ground.guard }], guard := some (16, true) }) rfl (fun K hK => ?_) AllReadyH.nil
    go_simp
    with_reducible refine (QC.out _).mono ?_
    rintro e v19 ⟨rfl, b19⟩
    have hB19 := hHeld.trans (b19.mono hHeld.size)
    go_simp
    refine hK.out _ _ (hB19) (fun hHeld => ?_)
    clear hK K
    try simp only [Act.put, List.setIfInBounds_toArray, List.set_cons_zero, List.set_cons_succ]
    refine wpAnyH_now hHeld (fun hHeld => ?_)
    replace FL := rebase FL (hB19)
    replace FT := rebase FT (hB19)
    replace FB := rebase FB (hB19)
    replace x0 := rebase x0 (hB19)
    replace x1 := rebase x1 (hB19)
    replace x2 := rebase x2 (hB19)
    replace x3 := rebase x3 (hB19)
    replace x4 := rebase x4 (hB19)
    replace x5 := rebase x5 (hB19)
    replace y0 := rebase y0 (hB19)
    replace y1 := rebase y1 (hB19)
    replace y2 := rebase y2 (hB19)
    replace y3 := rebase y3 (hB19)
    replace y4 := rebase y4 (hB19)
    replace y5 := rebase y5 (hB19)
    refine wpAnyH_ready (rs := [22]) (by kernel_rfl) (by simp) ?_
    refine AllReadyH.cons (o := { dst := some 41, op := Go.Op.call { callee := Go.Callee.value (Go.Operand.func 12), args := #[Go.Operand.tmp 39, Go.Operand.tmp 40], argTypes := #[23, 23] }, type := 3, pos := "law.go:45", after := #[{ on := 20, ground := Go.Ground.data }, { on := 21, ground := Go.Ground.data }, { on := 19, ground := Go.Ground.chain }, { on := 16, ground := Go.Ground.guard }], guard := some (16, true) }) rfl (fun K hK => ?_) AllReadyH.nil
    go_simp
    with_reducible refine (QRC.out _).mono ?_
    rintro e v22 ⟨rfl, b22⟩
    have hB22 := hHeld.trans (b22.mono hHeld.size)
    go_simp
    refine hK.out _ _ (hB22) (fun hHeld => ?_)
    clear hK K
    try simp only [Act.put, List.setIfInBounds_toArray, List.set_cons_zero, List.set_cons_succ]
    refine wpAnyH_now hHeld (fun hHeld => ?_)
    replace FL := rebase FL (hB22)
    replace FT := rebase FT (hB22)
    replace FB := rebase FB (hB22)
    replace x0 := rebase x0 (hB22)
    replace x1 := rebase x1 (hB22)
    replace x2 := rebase x2 (hB22)
    replace x3 := rebase x3 (hB22)
    replace x4 := rebase x4 (hB22)
    replace x5 := rebase x5 (hB22)
    replace y0 := rebase y0 (hB22)
    replace y1 := rebase y1 (hB22)
    replace y2 := rebase y2 (hB22)
    replace y3 := rebase y3 (hB22)
    replace y4 := rebase y4 (hB22)
    replace y5 := rebase y5 (hB22)
    refine wpAnyH_take (i := 23) (oi := { dst := some 42, op := Go.Op.binOp Go.BinOp.eql 3 (Go.Operand.tmp 38) (Go.Operand.tmp 41) 3, type := 4, pos := "law.go:45", after := #[{ on := 19, ground := Go.Ground.data }, { on := 22, ground := Go.Ground.data }, { on := 16, ground := Go.Ground.guard }], guard := some (16, true) }) (v := ?v61) rfl (by kernel_rfl) (by kernel_rfl) (by kernel_rfl) (fun _ _ _ h => h) (Or.inl ⟨by kernel_rfl, ?h61⟩) (by assumption) ?r61
    case h61 => (intro w hSw; (try dsimp only at hSw); go_simp; try with_reducible rfl)
    try simp only [Act.put, List.setIfInBounds_toArray, List.set_cons_zero, List.set_cons_succ]
    refine wpAnyH_take (i := 24) (oi := { dst := some 43, op := Go.Op.pick (Go.Operand.tmp 35) (Go.Operand.tmp 42) (Go.Operand.const (Go.Value.bool false)), type := 4, pos := "law.go:45", after := #[{ on := 16, ground := Go.Ground.data }, { on := 23, ground := Go.Ground.data }], guard := none }) (v := ?v62) rfl (by kernel_rfl) (by kernel_rfl) (by kernel_rfl) (fun _ _ _ h => h) (Or.inl ⟨by kernel_rfl, ?h62⟩) (by assumption) ?r62
    case h62 => (intro w hSw; (try dsimp only at hSw); go_simp; try with_reducible rfl)
    try simp only [Act.put, List.setIfInBounds_toArray, List.set_cons_zero, List.set_cons_succ]
    refine wpAnyH_take (i := 25) (oi := { dst := some 44, op := Go.Op.move (Go.Operand.tmp 43), type := 4, pos := "law.go:45", after := #[{ on := 24, ground := Go.Ground.data }, { on := 22, ground := Go.Ground.chain }], guard := none }) (v := ?v63) rfl (by kernel_rfl) (by kernel_rfl) (by kernel_rfl) (fun _ _ _ h => h) (Or.inl ⟨by kernel_rfl, ?h63⟩) (by assumption) ?r63
    case h63 => (intro w hSw; (try dsimp only at hSw); go_simp; try with_reducible rfl)
    try simp only [Act.put, List.setIfInBounds_toArray, List.set_cons_zero, List.set_cons_succ]
    refine wpAnyH_take (i := 26) (oi := { dst := some 45, op := Go.Op.move (Go.Operand.tmp 2), type := 24, pos := "law.go:45", after := #[{ on := 25, ground := Go.Ground.guard }], guard := some (25, true) }) (v := ?v64) rfl (by kernel_rfl) (by kernel_rfl) (by kernel_rfl) (fun _ _ _ h => h) (Or.inl ⟨by kernel_rfl, ?h64⟩) (by assumption) ?r64
    case h64 => (intro w hSw; (try dsimp only at hSw); go_simp; try with_reducible rfl)
    try simp only [Act.put, List.setIfInBounds_toArray, List.set_cons_zero, List.set_cons_succ]
    refine wpAnyH_take (i := 28) (oi := { dst := some 47, op := Go.Op.move (Go.Operand.tmp 2), type := 24, pos := "law.go:45", after := #[{ on := 25, ground := Go.Ground.guard }], guard := some (25, true) }) (v := ?v65) rfl (by kernel_rfl) (by kernel_rfl) (by kernel_rfl) (fun _ _ _ h => h) (Or.inl ⟨by kernel_rfl, ?h65⟩) (by assumption) ?r65
    case h65 => (intro w hSw; (try dsimp only at hSw); go_simp; try with_reducible rfl)
    try simp only [Act.put, List.setIfInBounds_toArray, List.set_cons_zero, List.set_cons_succ]
    refine wpAnyH_ready (rs := [27]) (by kernel_rfl) (by simp) ?_
    refine AllReadyH.cons (o := { dst := some 46, op := Go.Op.call { callee := Go.Callee.value (Go.Operand.func 14), args := #[Go.Operand.tmp 45], argTypes := #[24] }, type := 24, pos := "law.go:45", after := #[{ on := 26, ground := Go.Ground.data }, { on := 25, ground := Go.Ground.chain }, { on := 25, ground := Go.Ground.guard }], guard := some (25, true) }) rfl (fun K hK => ?_) AllReadyH.nil
    go_simp
    with_reducible refine (QS.out _ (FL _ hHeld)).mono ?_
    rintro e v27 ⟨a27, c27, rfl, h27, b27⟩
    have hB27 := hHeld.trans (b27.mono hHeld.size)
    have R27 : ∀ W, Below v27.heap.size v27 W → RO alC W a27 S.length c27 S := fun W hW => h27.below hW
    go_simp
    refine hK.out _ _ (hB27) (fun hHeld => ?_)
    clear hK K
    try simp only [Act.put, List.setIfInBounds_toArray, List.set_cons_zero, List.set_cons_succ]
    refine wpAnyH_now hHeld (fun hHeld => ?_)
    replace FL := rebase FL (hB27)
    replace FT := rebase FT (hB27)
    replace FB := rebase FB (hB27)
    replace x0 := rebase x0 (hB27)
    replace x1 := rebase x1 (hB27)
    replace x2 := rebase x2 (hB27)
    replace x3 := rebase x3 (hB27)
    replace x4 := rebase x4 (hB27)
    replace x5 := rebase x5 (hB27)
    replace y0 := rebase y0 (hB27)
    replace y1 := rebase y1 (hB27)
    replace y2 := rebase y2 (hB27)
    replace y3 := rebase y3 (hB27)
    replace y4 := rebase y4 (hB27)
    replace y5 := rebase y5 (hB27)
    refine wpAnyH_ready (rs := [29]) (by kernel_rfl) (by simp) ?_
    refine AllReadyH.cons (o := { dst := some 48, op := Go.Op.call { callee := Go.Callee.value (Go.Operand.func 15), args := #[Go.Operand.tmp 47], argTypes := #[24] }, type := 24, pos := "law.go:45", after := #[{ on := 28, ground := Go.Ground.data }, { on := 27, ground := Go.Ground.chain }, { on := 25, ground := Go.Ground.guard }], guard := some (25, true) }) rfl (fun K hK => ?_) AllReadyH.nil
    go_simp
    with_reducible refine (QRS.out _ (FL _ hHeld)).mono ?_
    rintro e v29 ⟨a29, c29, rfl, h29, b29⟩
    have hB29 := hHeld.trans (b29.mono hHeld.size)
    have R29 : ∀ W, Below v29.heap.size v29 W → RO alC W a29 S.length c29 S := fun W hW => h29.below hW
    go_simp
    refine hK.out _ _ (hB29) (fun hHeld => ?_)
    clear hK K
    try simp only [Act.put, List.setIfInBounds_toArray, List.set_cons_zero, List.set_cons_succ]
    refine wpAnyH_now hHeld (fun hHeld => ?_)
    replace FL := rebase FL (hB29)
    replace FT := rebase FT (hB29)
    replace FB := rebase FB (hB29)
    replace x0 := rebase x0 (hB29)
    replace x1 := rebase x1 (hB29)
    replace x2 := rebase x2 (hB29)
    replace x3 := rebase x3 (hB29)
    replace x4 := rebase x4 (hB29)
    replace x5 := rebase x5 (hB29)
    replace y0 := rebase y0 (hB29)
    replace y1 := rebase y1 (hB29)
    replace y2 := rebase y2 (hB29)
    replace y3 := rebase y3 (hB29)
    replace y4 := rebase y4 (hB29)
    replace y5 := rebase y5 (hB29)
    replace R27 := rebase R27 (hB29)
    refine wpAnyH_ready (rs := [30]) (by kernel_rfl) (by simp) ?_
    refine AllReadyH.cons (o := { dst := some 49, op := Go.Op.call { callee := Go.Callee.value (Go.Operand.func 13), args := #[Go.Operand.tmp 46, Go.Operand.tmp 48], argTypes := #[24, 24] }, type := 4, pos := "law.go:45", after := #[{ on := 27, ground := Go.Ground.data }, { on := 29, ground := Go.Ground.data }, { on := 29, ground := Go.Ground.chain }, { on := 25, ground := Go.Ground.guard }], guard := some (25, true) }) rfl (fun K hK => ?_) AllReadyH.nil
    go_simp
    with_reducible refine (QE.out _ S _ _ _ _ _ (R27 _ hHeld) (R29 _ hHeld)).mono ?_
    rintro e v30 ⟨rfl, b30⟩
    have hB30 := hHeld.trans (b30.mono hHeld.size)
    go_simp
    refine hK.out _ _ (hB30) (fun hHeld => ?_)
    clear hK K
    try simp only [Act.put, List.setIfInBounds_toArray, List.set_cons_zero, List.set_cons_succ]
    refine wpAnyH_now hHeld (fun hHeld => ?_)
    replace FL := rebase FL (hB30)
    replace FT := rebase FT (hB30)
    replace FB := rebase FB (hB30)
    replace x0 := rebase x0 (hB30)
    replace x1 := rebase x1 (hB30)
    replace x2 := rebase x2 (hB30)
    replace x3 := rebase x3 (hB30)
    replace x4 := rebase x4 (hB30)
    replace x5 := rebase x5 (hB30)
    replace y0 := rebase y0 (hB30)
    replace y1 := rebase y1 (hB30)
    replace y2 := rebase y2 (hB30)
    replace y3 := rebase y3 (hB30)
    replace y4 := rebase y4 (hB30)
    replace y5 := rebase y5 (hB30)
    replace R27 := rebase R27 (hB30)
    replace R29 := rebase R29 (hB30)
    refine wpAnyH_take (i := 31) (oi := { dst := some 50, op := Go.Op.pick (Go.Operand.tmp 44) (Go.Operand.tmp 49) (Go.Operand.const (Go.Value.bool false)), type := 4, pos := "law.go:45", after := #[{ on := 25, ground := Go.Ground.data }, { on := 30, ground := Go.Ground.data }], guard := none }) (v := ?v66) rfl (by kernel_rfl) (by kernel_rfl) (by kernel_rfl) (fun _ _ _ h => h) (Or.inl ⟨by kernel_rfl, ?h66⟩) (by assumption) ?r66
    case h66 => (intro w hSw; (try dsimp only at hSw); go_simp; try with_reducible rfl)
    try simp only [Act.put, List.setIfInBounds_toArray, List.set_cons_zero, List.set_cons_succ]
    refine wpAnyH_take (i := 32) (oi := { dst := some 51, op := Go.Op.move (Go.Operand.tmp 50), type := 4, pos := "law.go:45", after := #[{ on := 31, ground := Go.Ground.data }, { on := 30, ground := Go.Ground.chain }], guard := none }) (v := ?v67) rfl (by kernel_rfl) (by kernel_rfl) (by kernel_rfl) (fun _ _ _ h => h) (Or.inl ⟨by kernel_rfl, ?h67⟩) (by assumption) ?r67
    case h67 => (intro w hSw; (try dsimp only at hSw); go_simp; try with_reducible rfl)
    try simp only [Act.put, List.setIfInBounds_toArray, List.set_cons_zero, List.set_cons_succ]
    refine wpAnyH_take (i := 33) (oi := { dst := some 52, op := Go.Op.move (Go.Operand.tmp 2), type := 24, pos := "law.go:45", after := #[{ on := 32, ground := Go.Ground.guard }], guard := some (32, true) }) (v := ?v68) rfl (by kernel_rfl) (by kernel_rfl) (by kernel_rfl) (fun _ _ _ h => h) (Or.inl ⟨by kernel_rfl, ?h68⟩) (by assumption) ?r68
    case h68 => (intro w hSw; (try dsimp only at hSw); go_simp; try with_reducible rfl)
    try simp only [Act.put, List.setIfInBounds_toArray, List.set_cons_zero, List.set_cons_succ]
    refine wpAnyH_take (i := 34) (oi := { dst := some 53, op := Go.Op.load 23 (Go.Operand.tmp 3), type := 23, pos := "law.go:45", after := #[{ on := 32, ground := Go.Ground.guard }], guard := some (32, true) }) (v := ?v69) rfl (by kernel_rfl) (by kernel_rfl) (by kernel_rfl) (fun _ _ _ h => h) (Or.inl ⟨by kernel_rfl, ?h69⟩) (by assumption) ?r69
    case h69 => (intro w hSw; (try dsimp only at hSw); go_simp; try with_reducible rfl)
    try simp only [Act.put, List.setIfInBounds_toArray, List.set_cons_zero, List.set_cons_succ]
    refine wpAnyH_take (i := 35) (oi := { dst := some 54, op := Go.Op.load 23 (Go.Operand.tmp 4), type := 23, pos := "law.go:45", after := #[{ on := 32, ground := Go.Ground.guard }], guard := some (32, true) }) (v := ?v70) rfl (by kernel_rfl) (by kernel_rfl) (by kernel_rfl) (fun _ _ _ h => h) (Or.inl ⟨by kernel_rfl, ?h70⟩) (by assumption) ?r70
    case h70 => (intro w hSw; (try dsimp only at hSw); go_simp; try with_reducible rfl)
    try simp only [Act.put, List.setIfInBounds_toArray, List.set_cons_zero, List.set_cons_succ]
    refine wpAnyH_take (i := 38) (oi := { dst := some 57, op := Go.Op.move (Go.Operand.tmp 2), type := 24, pos := "law.go:45", after := #[{ on := 32, ground := Go.Ground.guard }], guard := some (32, true) }) (v := ?v71) rfl (by kernel_rfl) (by kernel_rfl) (by kernel_rfl) (fun _ _ _ h => h) (Or.inl ⟨by kernel_rfl, ?h71⟩) (by assumption) ?r71
    case h71 => (intro w hSw; (try dsimp only at hSw); go_simp; try with_reducible rfl)
    try simp only [Act.put, List.setIfInBounds_toArray, List.set_cons_zero, List.set_cons_succ]
    refine wpAnyH_take (i := 39) (oi := { dst := some 58, op := Go.Op.load 23 (Go.Operand.tmp 3), type := 23, pos := "law.go:45", after := #[{ on := 32, ground := Go.Ground.guard }], guard := some (32, true) }) (v := ?v72) rfl (by kernel_rfl) (by kernel_rfl) (by kernel_rfl) (fun _ _ _ h => h) (Or.inl ⟨by kernel_rfl, ?h72⟩) (by assumption) ?r72
    case h72 => (intro w hSw; (try dsimp only at hSw); go_simp; try with_reducible rfl)
    try simp only [Act.put, List.setIfInBounds_toArray, List.set_cons_zero, List.set_cons_succ]
    refine wpAnyH_take (i := 40) (oi := { dst := some 59, op := Go.Op.load 23 (Go.Operand.tmp 4), type := 23, pos := "law.go:45", after := #[{ on := 32, ground := Go.Ground.guard }], guard := some (32, true) }) (v := ?v73) rfl (by kernel_rfl) (by kernel_rfl) (by kernel_rfl) (fun _ _ _ h => h) (Or.inl ⟨by kernel_rfl, ?h73⟩) (by assumption) ?r73
    case h73 => (intro w hSw; (try dsimp only at hSw); go_simp; try with_reducible rfl)
    try simp only [Act.put, List.setIfInBounds_toArray, List.set_cons_zero, List.set_cons_succ]
    refine wpAnyH_ready (rs := [36, 41]) (by kernel_rfl) (by simp) ?_
    refine AllReadyH.cons (o := { dst := some 55, op := Go.Op.buildSlice 24 2 #[(0, Go.Operand.tmp 53), (1, Go.Operand.tmp 54)], type := 24, pos := "law.go:45", after := #[{ on := 34, ground := Go.Ground.data }, { on := 35, ground := Go.Ground.data }, { on := 32, ground := Go.Ground.guard }], guard := some (32, true) }) rfl (fun K hK => ?_) (AllReadyH.cons (o := { dst := some 60, op := Go.Op.buildSlice 24 2 #[(0, Go.Operand.tmp 58), (1, Go.Operand.tmp 59)], type := 24, pos := "law.go:45", after := #[{ on := 39, ground := Go.Ground.data }, { on := 40, ground := Go.Ground.data }, { on := 32, ground := Go.Ground.guard }], guard := some (32, true) }) rfl (fun K hK => ?_) AllReadyH.nil)
    · go_simp
      obtain ⟨v36, ht36⟩ : ∃ v36, v36 = v30.alloc (.cells #[.int .i64 ak, .int .i64 asv, .string af, .string afi, .int .i64 al, .string ax, .int .i64 bk, .int .i64 bsv, .string bf, .string bfi, .int .i64 bl, .string bx] 23) := ⟨_, rfl⟩
      have sP36' : RO alC v36 (some ⟨v30.heap.size, 0, none⟩) 2 2 [(⟨ak, asv, af, afi, al, ax⟩ : AlD), (⟨bk, bsv, bf, bfi, bl, bx⟩ : AlD)] := (by rw [ht36]; exact hP.out _ _ hPc.out)
      have hB36 := hHeld.alloc hHeld.size (.cells #[.int .i64 ak, .int .i64 asv, .string af, .string afi, .int .i64 al, .string ax, .int .i64 bk, .int .i64 bsv, .string bf, .string bfi, .int .i64 bl, .string bx] 23)
      rw [← ht36] at hB36
      rw [← ht36]
      clear ht36
      have P36 : ∀ W, Below v36.heap.size v36 W → RO alC W (some ⟨v30.heap.size, 0, none⟩) 2 2 [(⟨ak, asv, af, afi, al, ax⟩ : AlD), (⟨bk, bsv, bf, bfi, bl, bx⟩ : AlD)] := fun W hW => sP36'.below hW
      refine hK.out _ _ (hB36) (fun hHeld => ?_)
      clear hK K
      try simp only [Act.put, List.setIfInBounds_toArray, List.set_cons_zero, List.set_cons_succ]
      refine wpAnyH_now hHeld (fun hHeld => ?_)
      replace FL := rebase FL (hB36)
      replace FT := rebase FT (hB36)
      replace FB := rebase FB (hB36)
      replace x0 := rebase x0 (hB36)
      replace x1 := rebase x1 (hB36)
      replace x2 := rebase x2 (hB36)
      replace x3 := rebase x3 (hB36)
      replace x4 := rebase x4 (hB36)
      replace x5 := rebase x5 (hB36)
      replace y0 := rebase y0 (hB36)
      replace y1 := rebase y1 (hB36)
      replace y2 := rebase y2 (hB36)
      replace y3 := rebase y3 (hB36)
      replace y4 := rebase y4 (hB36)
      replace y5 := rebase y5 (hB36)
      replace R27 := rebase R27 (hB36)
      replace R29 := rebase R29 (hB36)
      refine wpAnyH_ready (rs := [37, 41]) (by kernel_rfl) (by simp) ?_
      refine AllReadyH.cons (o := { dst := some 56, op := Go.Op.call { callee := Go.Callee.value (Go.Operand.func 16), args := #[Go.Operand.tmp 52, Go.Operand.tmp 55], argTypes := #[24, 24] }, type := 4, pos := "law.go:45", after := #[{ on := 33, ground := Go.Ground.data }, { on := 36, ground := Go.Ground.data }, { on := 32, ground := Go.Ground.chain }, { on := 32, ground := Go.Ground.guard }], guard := some (32, true) }) rfl (fun K hK => ?_) (AllReadyH.cons (o := { dst := some 60, op := Go.Op.buildSlice 24 2 #[(0, Go.Operand.tmp 58), (1, Go.Operand.tmp 59)], type := 24, pos := "law.go:45", after := #[{ on := 39, ground := Go.Ground.data }, { on := 40, ground := Go.Ground.data }, { on := 32, ground := Go.Ground.guard }], guard := some (32, true) }) rfl (fun K hK => ?_) AllReadyH.nil)
      · go_simp
        with_reducible refine (QM.out _ _ _ (FL _ hHeld) (P36 _ hHeld)).mono ?_
        rintro e v37 ⟨rfl, b37⟩
        have hB37 := hHeld.trans (b37.mono hHeld.size)
        go_simp
        refine hK.out _ _ (hB37) (fun hHeld => ?_)
        clear hK K
        try simp only [Act.put, List.setIfInBounds_toArray, List.set_cons_zero, List.set_cons_succ]
        refine wpAnyH_now hHeld (fun hHeld => ?_)
        replace FL := rebase FL (hB37)
        replace FT := rebase FT (hB37)
        replace FB := rebase FB (hB37)
        replace x0 := rebase x0 (hB37)
        replace x1 := rebase x1 (hB37)
        replace x2 := rebase x2 (hB37)
        replace x3 := rebase x3 (hB37)
        replace x4 := rebase x4 (hB37)
        replace x5 := rebase x5 (hB37)
        replace y0 := rebase y0 (hB37)
        replace y1 := rebase y1 (hB37)
        replace y2 := rebase y2 (hB37)
        replace y3 := rebase y3 (hB37)
        replace y4 := rebase y4 (hB37)
        replace y5 := rebase y5 (hB37)
        replace R27 := rebase R27 (hB37)
        replace R29 := rebase R29 (hB37)
        replace P36 := rebase P36 (hB37)
        refine wpAnyH_ready (rs := [41]) (by kernel_rfl) (by simp) ?_
        refine AllReadyH.cons (o := { dst := some 60, op := Go.Op.buildSlice 24 2 #[(0, Go.Operand.tmp 58), (1, Go.Operand.tmp 59)], type := 24, pos := "law.go:45", after := #[{ on := 39, ground := Go.Ground.data }, { on := 40, ground := Go.Ground.data }, { on := 32, ground := Go.Ground.guard }], guard := some (32, true) }) rfl (fun K hK => ?_) AllReadyH.nil
        go_simp
        obtain ⟨v41, ht41⟩ : ∃ v41, v41 = v37.alloc (.cells #[.int .i64 ak, .int .i64 asv, .string af, .string afi, .int .i64 al, .string ax, .int .i64 bk, .int .i64 bsv, .string bf, .string bfi, .int .i64 bl, .string bx] 23) := ⟨_, rfl⟩
        have sP41' : RO alC v41 (some ⟨v37.heap.size, 0, none⟩) 2 2 [(⟨ak, asv, af, afi, al, ax⟩ : AlD), (⟨bk, bsv, bf, bfi, bl, bx⟩ : AlD)] := (by rw [ht41]; exact hP.out _ _ hPc.out)
        have hB41 := hHeld.alloc hHeld.size (.cells #[.int .i64 ak, .int .i64 asv, .string af, .string afi, .int .i64 al, .string ax, .int .i64 bk, .int .i64 bsv, .string bf, .string bfi, .int .i64 bl, .string bx] 23)
        rw [← ht41] at hB41
        rw [← ht41]
        clear ht41
        have P41 : ∀ W, Below v41.heap.size v41 W → RO alC W (some ⟨v37.heap.size, 0, none⟩) 2 2 [(⟨ak, asv, af, afi, al, ax⟩ : AlD), (⟨bk, bsv, bf, bfi, bl, bx⟩ : AlD)] := fun W hW => sP41'.below hW
        refine hK.out _ _ (hB41) (fun hHeld => ?_)
        clear hK K
        try simp only [Act.put, List.setIfInBounds_toArray, List.set_cons_zero, List.set_cons_succ]
        refine wpAnyH_now hHeld (fun hHeld => ?_)
        replace FL := rebase FL (hB41)
        replace FT := rebase FT (hB41)
        replace FB := rebase FB (hB41)
        replace x0 := rebase x0 (hB41)
        replace x1 := rebase x1 (hB41)
        replace x2 := rebase x2 (hB41)
        replace x3 := rebase x3 (hB41)
        replace x4 := rebase x4 (hB41)
        replace x5 := rebase x5 (hB41)
        replace y0 := rebase y0 (hB41)
        replace y1 := rebase y1 (hB41)
        replace y2 := rebase y2 (hB41)
        replace y3 := rebase y3 (hB41)
        replace y4 := rebase y4 (hB41)
        replace y5 := rebase y5 (hB41)
        replace R27 := rebase R27 (hB41)
        replace R29 := rebase R29 (hB41)
        replace P36 := rebase P36 (hB41)
        refine wpAnyH_ready (rs := [42]) (by kernel_rfl) (by simp) ?_
        refine AllReadyH.cons (o := { dst := some 61, op := Go.Op.call { callee := Go.Callee.value (Go.Operand.func 13), args := #[Go.Operand.tmp 57, Go.Operand.tmp 60], argTypes := #[24, 24] }, type := 4, pos := "law.go:45", after := #[{ on := 38, ground := Go.Ground.data }, { on := 41, ground := Go.Ground.data }, { on := 37, ground := Go.Ground.chain }, { on := 32, ground := Go.Ground.guard }], guard := some (32, true) }) rfl (fun K hK => ?_) AllReadyH.nil
        go_simp
        with_reducible refine (QRM.out _ _ _ (FL _ hHeld) (P41 _ hHeld)).mono ?_
        rintro e v42 ⟨rfl, b42⟩
        have hB42 := hHeld.trans (b42.mono hHeld.size)
        go_simp
        refine hK.out _ _ (hB42) (fun hHeld => ?_)
        clear hK K
        try simp only [Act.put, List.setIfInBounds_toArray, List.set_cons_zero, List.set_cons_succ]
        refine wpAnyH_now hHeld (fun hHeld => ?_)
        replace FL := rebase FL (hB42)
        replace FT := rebase FT (hB42)
        replace FB := rebase FB (hB42)
        replace x0 := rebase x0 (hB42)
        replace x1 := rebase x1 (hB42)
        replace x2 := rebase x2 (hB42)
        replace x3 := rebase x3 (hB42)
        replace x4 := rebase x4 (hB42)
        replace x5 := rebase x5 (hB42)
        replace y0 := rebase y0 (hB42)
        replace y1 := rebase y1 (hB42)
        replace y2 := rebase y2 (hB42)
        replace y3 := rebase y3 (hB42)
        replace y4 := rebase y4 (hB42)
        replace y5 := rebase y5 (hB42)
        replace R27 := rebase R27 (hB42)
        replace R29 := rebase R29 (hB42)
        replace P36 := rebase P36 (hB42)
        replace P41 := rebase P41 (hB42)
        refine wpAnyH_take (i := 43) (oi := { dst := some 62, op := Go.Op.binOp Go.BinOp.eql 4 (Go.Operand.tmp 56) (Go.Operand.tmp 61) 4, type := 4, pos := "law.go:45", after := #[{ on := 37, ground := Go.Ground.data }, { on := 42, ground := Go.Ground.data }, { on := 32, ground := Go.Ground.guard }], guard := some (32, true) }) (v := ?v74) rfl (by kernel_rfl) (by kernel_rfl) (by kernel_rfl) (fun _ _ _ h => h) (Or.inl ⟨by kernel_rfl, ?h74⟩) (by assumption) ?r74
        case h74 => (intro w hSw; (try dsimp only at hSw); go_simp; try with_reducible rfl)
        try simp only [Act.put, List.setIfInBounds_toArray, List.set_cons_zero, List.set_cons_succ]
        refine wpAnyH_take (i := 44) (oi := { dst := some 63, op := Go.Op.pick (Go.Operand.tmp 51) (Go.Operand.tmp 62) (Go.Operand.const (Go.Value.bool false)), type := 4, pos := "law.go:45", after := #[{ on := 32, ground := Go.Ground.data }, { on := 43, ground := Go.Ground.data }], guard := none }) (v := ?v75) rfl (by kernel_rfl) (by kernel_rfl) (by kernel_rfl) (fun _ _ _ h => h) (Or.inl ⟨by kernel_rfl, ?h75⟩) (by assumption) ?r75
        case h75 => (intro w hSw; (try dsimp only at hSw); go_simp; try with_reducible rfl)
        try simp only [Act.put, List.setIfInBounds_toArray, List.set_cons_zero, List.set_cons_succ]
        refine wpAnyH_take (i := 45) (oi := { dst := some 6, op := Go.Op.assign (Go.Operand.tmp 63), type := 4, pos := "law.go:45", after := #[{ on := 44, ground := Go.Ground.data }, { on := 42, ground := Go.Ground.chain }, { on := 0, ground := Go.Ground.phase }, { on := 1, ground := Go.Ground.phase }, { on := 2, ground := Go.Ground.phase }, { on := 3, ground := Go.Ground.phase }, { on := 4, ground := Go.Ground.phase }, { on := 5, ground := Go.Ground.phase }, { on := 6, ground := Go.Ground.phase }, { on := 7, ground := Go.Ground.phase }, { on := 8, ground := Go.Ground.phase }, { on := 9, ground := Go.Ground.phase }, { on := 10, ground := Go.Ground.phase }, { on := 11, ground := Go.Ground.phase }, { on := 12, ground := Go.Ground.phase }, { on := 13, ground := Go.Ground.phase }, { on := 14, ground := Go.Ground.phase }, { on := 15, ground := Go.Ground.phase }, { on := 16, ground := Go.Ground.phase }, { on := 17, ground := Go.Ground.phase }, { on := 18, ground := Go.Ground.phase }, { on := 19, ground := Go.Ground.phase }, { on := 20, ground := Go.Ground.phase }, { on := 21, ground := Go.Ground.phase }, { on := 22, ground := Go.Ground.phase }, { on := 23, ground := Go.Ground.phase }, { on := 24, ground := Go.Ground.phase }, { on := 25, ground := Go.Ground.phase }, { on := 26, ground := Go.Ground.phase }, { on := 27, ground := Go.Ground.phase }, { on := 28, ground := Go.Ground.phase }, { on := 29, ground := Go.Ground.phase }, { on := 30, ground := Go.Ground.phase }, { on := 31, ground := Go.Ground.phase }, { on := 32, ground := Go.Ground.phase }, { on := 33, ground := Go.Ground.phase }, { on := 34, ground := Go.Ground.phase }, { on := 35, ground := Go.Ground.phase }, { on := 36, ground := Go.Ground.phase }, { on := 37, ground := Go.Ground.phase }, { on := 38, ground := Go.Ground.phase }, { on := 39, ground := Go.Ground.phase }, { on := 40, ground := Go.Ground.phase }, { on := 41, ground := Go.Ground.phase }, { on := 42, ground := Go.Ground.phase }, { on := 43, ground := Go.Ground.phase }, { on := 44, ground := Go.Ground.phase }], guard := none }) (v := ?v76) rfl (by kernel_rfl) (by kernel_rfl) (by kernel_rfl) (fun _ _ _ h => h) (Or.inl ⟨by kernel_rfl, ?h76⟩) (by assumption) ?r76
        case h76 => (intro w hSw; (try dsimp only at hSw); go_simp; try with_reducible rfl)
        try simp only [Act.put, List.setIfInBounds_toArray, List.set_cons_zero, List.set_cons_succ]
        refine wpAnyH_done (by kernel_rfl) ?_ _
        have hfin := Lib.hid (FB _ hHeld)
        clear x0 x1 x2 x3 x4 x5 y0 y1 y2 y3 y4 y5 FL FT FB
        go_wp2
        go_ret
        exact ⟨rfl, hfin.out⟩
      · go_simp
        obtain ⟨v41, ht41⟩ : ∃ v41, v41 = v36.alloc (.cells #[.int .i64 ak, .int .i64 asv, .string af, .string afi, .int .i64 al, .string ax, .int .i64 bk, .int .i64 bsv, .string bf, .string bfi, .int .i64 bl, .string bx] 23) := ⟨_, rfl⟩
        have sP41' : RO alC v41 (some ⟨v36.heap.size, 0, none⟩) 2 2 [(⟨ak, asv, af, afi, al, ax⟩ : AlD), (⟨bk, bsv, bf, bfi, bl, bx⟩ : AlD)] := (by rw [ht41]; exact hP.out _ _ hPc.out)
        have hB41 := hHeld.alloc hHeld.size (.cells #[.int .i64 ak, .int .i64 asv, .string af, .string afi, .int .i64 al, .string ax, .int .i64 bk, .int .i64 bsv, .string bf, .string bfi, .int .i64 bl, .string bx] 23)
        rw [← ht41] at hB41
        rw [← ht41]
        clear ht41
        have P41 : ∀ W, Below v41.heap.size v41 W → RO alC W (some ⟨v36.heap.size, 0, none⟩) 2 2 [(⟨ak, asv, af, afi, al, ax⟩ : AlD), (⟨bk, bsv, bf, bfi, bl, bx⟩ : AlD)] := fun W hW => sP41'.below hW
        refine hK.out _ _ (hB41) (fun hHeld => ?_)
        clear hK K
        try simp only [Act.put, List.setIfInBounds_toArray, List.set_cons_zero, List.set_cons_succ]
        refine wpAnyH_now hHeld (fun hHeld => ?_)
        replace FL := rebase FL (hB41)
        replace FT := rebase FT (hB41)
        replace FB := rebase FB (hB41)
        replace x0 := rebase x0 (hB41)
        replace x1 := rebase x1 (hB41)
        replace x2 := rebase x2 (hB41)
        replace x3 := rebase x3 (hB41)
        replace x4 := rebase x4 (hB41)
        replace x5 := rebase x5 (hB41)
        replace y0 := rebase y0 (hB41)
        replace y1 := rebase y1 (hB41)
        replace y2 := rebase y2 (hB41)
        replace y3 := rebase y3 (hB41)
        replace y4 := rebase y4 (hB41)
        replace y5 := rebase y5 (hB41)
        replace R27 := rebase R27 (hB41)
        replace R29 := rebase R29 (hB41)
        replace P36 := rebase P36 (hB41)
        refine wpAnyH_ready (rs := [37]) (by kernel_rfl) (by simp) ?_
        refine AllReadyH.cons (o := { dst := some 56, op := Go.Op.call { callee := Go.Callee.value (Go.Operand.func 16), args := #[Go.Operand.tmp 52, Go.Operand.tmp 55], argTypes := #[24, 24] }, type := 4, pos := "law.go:45", after := #[{ on := 33, ground := Go.Ground.data }, { on := 36, ground := Go.Ground.data }, { on := 32, ground := Go.Ground.chain }, { on := 32, ground := Go.Ground.guard }], guard := some (32, true) }) rfl (fun K hK => ?_) AllReadyH.nil
        go_simp
        with_reducible refine (QM.out _ _ _ (FL _ hHeld) (P36 _ hHeld)).mono ?_
        rintro e v37 ⟨rfl, b37⟩
        have hB37 := hHeld.trans (b37.mono hHeld.size)
        go_simp
        refine hK.out _ _ (hB37) (fun hHeld => ?_)
        clear hK K
        try simp only [Act.put, List.setIfInBounds_toArray, List.set_cons_zero, List.set_cons_succ]
        refine wpAnyH_now hHeld (fun hHeld => ?_)
        replace FL := rebase FL (hB37)
        replace FT := rebase FT (hB37)
        replace FB := rebase FB (hB37)
        replace x0 := rebase x0 (hB37)
        replace x1 := rebase x1 (hB37)
        replace x2 := rebase x2 (hB37)
        replace x3 := rebase x3 (hB37)
        replace x4 := rebase x4 (hB37)
        replace x5 := rebase x5 (hB37)
        replace y0 := rebase y0 (hB37)
        replace y1 := rebase y1 (hB37)
        replace y2 := rebase y2 (hB37)
        replace y3 := rebase y3 (hB37)
        replace y4 := rebase y4 (hB37)
        replace y5 := rebase y5 (hB37)
        replace R27 := rebase R27 (hB37)
        replace R29 := rebase R29 (hB37)
        replace P36 := rebase P36 (hB37)
        replace P41 := rebase P41 (hB37)
        refine wpAnyH_ready (rs := [42]) (by kernel_rfl) (by simp) ?_
        refine AllReadyH.cons (o := { dst := some 61, op := Go.Op.call { callee := Go.Callee.value (Go.Operand.func 13), args := #[Go.Operand.tmp 57, Go.Operand.tmp 60], argTypes := #[24, 24] }, type := 4, pos := "law.go:45", after := #[{ on := 38, ground := Go.Ground.data }, { on := 41, ground := Go.Ground.data }, { on := 37, ground := Go.Ground.chain }, { on := 32, ground := Go.Ground.guard }], guard := some (32, true) }) rfl (fun K hK => ?_) AllReadyH.nil
        go_simp
        with_reducible refine (QRM.out _ _ _ (FL _ hHeld) (P41 _ hHeld)).mono ?_
        rintro e v42 ⟨rfl, b42⟩
        have hB42 := hHeld.trans (b42.mono hHeld.size)
        go_simp
        refine hK.out _ _ (hB42) (fun hHeld => ?_)
        clear hK K
        try simp only [Act.put, List.setIfInBounds_toArray, List.set_cons_zero, List.set_cons_succ]
        refine wpAnyH_now hHeld (fun hHeld => ?_)
        replace FL := rebase FL (hB42)
        replace FT := rebase FT (hB42)
        replace FB := rebase FB (hB42)
        replace x0 := rebase x0 (hB42)
        replace x1 := rebase x1 (hB42)
        replace x2 := rebase x2 (hB42)
        replace x3 := rebase x3 (hB42)
        replace x4 := rebase x4 (hB42)
        replace x5 := rebase x5 (hB42)
        replace y0 := rebase y0 (hB42)
        replace y1 := rebase y1 (hB42)
        replace y2 := rebase y2 (hB42)
        replace y3 := rebase y3 (hB42)
        replace y4 := rebase y4 (hB42)
        replace y5 := rebase y5 (hB42)
        replace R27 := rebase R27 (hB42)
        replace R29 := rebase R29 (hB42)
        replace P36 := rebase P36 (hB42)
        replace P41 := rebase P41 (hB42)
        refine wpAnyH_take (i := 43) (oi := { dst := some 62, op := Go.Op.binOp Go.BinOp.eql 4 (Go.Operand.tmp 56) (Go.Operand.tmp 61) 4, type := 4, pos := "law.go:45", after := #[{ on := 37, ground := Go.Ground.data }, { on := 42, ground := Go.Ground.data }, { on := 32, ground := Go.Ground.guard }], guard := some (32, true) }) (v := ?v77) rfl (by kernel_rfl) (by kernel_rfl) (by kernel_rfl) (fun _ _ _ h => h) (Or.inl ⟨by kernel_rfl, ?h77⟩) (by assumption) ?r77
        case h77 => (intro w hSw; (try dsimp only at hSw); go_simp; try with_reducible rfl)
        try simp only [Act.put, List.setIfInBounds_toArray, List.set_cons_zero, List.set_cons_succ]
        refine wpAnyH_take (i := 44) (oi := { dst := some 63, op := Go.Op.pick (Go.Operand.tmp 51) (Go.Operand.tmp 62) (Go.Operand.const (Go.Value.bool false)), type := 4, pos := "law.go:45", after := #[{ on := 32, ground := Go.Ground.data }, { on := 43, ground := Go.Ground.data }], guard := none }) (v := ?v78) rfl (by kernel_rfl) (by kernel_rfl) (by kernel_rfl) (fun _ _ _ h => h) (Or.inl ⟨by kernel_rfl, ?h78⟩) (by assumption) ?r78
        case h78 => (intro w hSw; (try dsimp only at hSw); go_simp; try with_reducible rfl)
        try simp only [Act.put, List.setIfInBounds_toArray, List.set_cons_zero, List.set_cons_succ]
        refine wpAnyH_take (i := 45) (oi := { dst := some 6, op := Go.Op.assign (Go.Operand.tmp 63), type := 4, pos := "law.go:45", after := #[{ on := 44, ground := Go.Ground.data }, { on := 42, ground := Go.Ground.chain }, { on := 0, ground := Go.Ground.phase }, { on := 1, ground := Go.Ground.phase }, { on := 2, ground := Go.Ground.phase }, { on := 3, ground := Go.Ground.phase }, { on := 4, ground := Go.Ground.phase }, { on := 5, ground := Go.Ground.phase }, { on := 6, ground := Go.Ground.phase }, { on := 7, ground := Go.Ground.phase }, { on := 8, ground := Go.Ground.phase }, { on := 9, ground := Go.Ground.phase }, { on := 10, ground := Go.Ground.phase }, { on := 11, ground := Go.Ground.phase }, { on := 12, ground := Go.Ground.phase }, { on := 13, ground := Go.Ground.phase }, { on := 14, ground := Go.Ground.phase }, { on := 15, ground := Go.Ground.phase }, { on := 16, ground := Go.Ground.phase }, { on := 17, ground := Go.Ground.phase }, { on := 18, ground := Go.Ground.phase }, { on := 19, ground := Go.Ground.phase }, { on := 20, ground := Go.Ground.phase }, { on := 21, ground := Go.Ground.phase }, { on := 22, ground := Go.Ground.phase }, { on := 23, ground := Go.Ground.phase }, { on := 24, ground := Go.Ground.phase }, { on := 25, ground := Go.Ground.phase }, { on := 26, ground := Go.Ground.phase }, { on := 27, ground := Go.Ground.phase }, { on := 28, ground := Go.Ground.phase }, { on := 29, ground := Go.Ground.phase }, { on := 30, ground := Go.Ground.phase }, { on := 31, ground := Go.Ground.phase }, { on := 32, ground := Go.Ground.phase }, { on := 33, ground := Go.Ground.phase }, { on := 34, ground := Go.Ground.phase }, { on := 35, ground := Go.Ground.phase }, { on := 36, ground := Go.Ground.phase }, { on := 37, ground := Go.Ground.phase }, { on := 38, ground := Go.Ground.phase }, { on := 39, ground := Go.Ground.phase }, { on := 40, ground := Go.Ground.phase }, { on := 41, ground := Go.Ground.phase }, { on := 42, ground := Go.Ground.phase }, { on := 43, ground := Go.Ground.phase }, { on := 44, ground := Go.Ground.phase }], guard := none }) (v := ?v79) rfl (by kernel_rfl) (by kernel_rfl) (by kernel_rfl) (fun _ _ _ h => h) (Or.inl ⟨by kernel_rfl, ?h79⟩) (by assumption) ?r79
        case h79 => (intro w hSw; (try dsimp only at hSw); go_simp; try with_reducible rfl)
        try simp only [Act.put, List.setIfInBounds_toArray, List.set_cons_zero, List.set_cons_succ]
        refine wpAnyH_done (by kernel_rfl) ?_ _
        have hfin := Lib.hid (FB _ hHeld)
        clear x0 x1 x2 x3 x4 x5 y0 y1 y2 y3 y4 y5 FL FT FB
        go_wp2
        go_ret
        exact ⟨rfl, hfin.out⟩
    · go_simp
      obtain ⟨v41, ht41⟩ : ∃ v41, v41 = v30.alloc (.cells #[.int .i64 ak, .int .i64 asv, .string af, .string afi, .int .i64 al, .string ax, .int .i64 bk, .int .i64 bsv, .string bf, .string bfi, .int .i64 bl, .string bx] 23) := ⟨_, rfl⟩
      have sP41' : RO alC v41 (some ⟨v30.heap.size, 0, none⟩) 2 2 [(⟨ak, asv, af, afi, al, ax⟩ : AlD), (⟨bk, bsv, bf, bfi, bl, bx⟩ : AlD)] := (by rw [ht41]; exact hP.out _ _ hPc.out)
      have hB41 := hHeld.alloc hHeld.size (.cells #[.int .i64 ak, .int .i64 asv, .string af, .string afi, .int .i64 al, .string ax, .int .i64 bk, .int .i64 bsv, .string bf, .string bfi, .int .i64 bl, .string bx] 23)
      rw [← ht41] at hB41
      rw [← ht41]
      clear ht41
      have P41 : ∀ W, Below v41.heap.size v41 W → RO alC W (some ⟨v30.heap.size, 0, none⟩) 2 2 [(⟨ak, asv, af, afi, al, ax⟩ : AlD), (⟨bk, bsv, bf, bfi, bl, bx⟩ : AlD)] := fun W hW => sP41'.below hW
      refine hK.out _ _ (hB41) (fun hHeld => ?_)
      clear hK K
      try simp only [Act.put, List.setIfInBounds_toArray, List.set_cons_zero, List.set_cons_succ]
      refine wpAnyH_now hHeld (fun hHeld => ?_)
      replace FL := rebase FL (hB41)
      replace FT := rebase FT (hB41)
      replace FB := rebase FB (hB41)
      replace x0 := rebase x0 (hB41)
      replace x1 := rebase x1 (hB41)
      replace x2 := rebase x2 (hB41)
      replace x3 := rebase x3 (hB41)
      replace x4 := rebase x4 (hB41)
      replace x5 := rebase x5 (hB41)
      replace y0 := rebase y0 (hB41)
      replace y1 := rebase y1 (hB41)
      replace y2 := rebase y2 (hB41)
      replace y3 := rebase y3 (hB41)
      replace y4 := rebase y4 (hB41)
      replace y5 := rebase y5 (hB41)
      replace R27 := rebase R27 (hB41)
      replace R29 := rebase R29 (hB41)
      refine wpAnyH_ready (rs := [36]) (by kernel_rfl) (by simp) ?_
      refine AllReadyH.cons (o := { dst := some 55, op := Go.Op.buildSlice 24 2 #[(0, Go.Operand.tmp 53), (1, Go.Operand.tmp 54)], type := 24, pos := "law.go:45", after := #[{ on := 34, ground := Go.Ground.data }, { on := 35, ground := Go.Ground.data }, { on := 32, ground := Go.Ground.guard }], guard := some (32, true) }) rfl (fun K hK => ?_) AllReadyH.nil
      go_simp
      obtain ⟨v36, ht36⟩ : ∃ v36, v36 = v41.alloc (.cells #[.int .i64 ak, .int .i64 asv, .string af, .string afi, .int .i64 al, .string ax, .int .i64 bk, .int .i64 bsv, .string bf, .string bfi, .int .i64 bl, .string bx] 23) := ⟨_, rfl⟩
      have sP36' : RO alC v36 (some ⟨v41.heap.size, 0, none⟩) 2 2 [(⟨ak, asv, af, afi, al, ax⟩ : AlD), (⟨bk, bsv, bf, bfi, bl, bx⟩ : AlD)] := (by rw [ht36]; exact hP.out _ _ hPc.out)
      have hB36 := hHeld.alloc hHeld.size (.cells #[.int .i64 ak, .int .i64 asv, .string af, .string afi, .int .i64 al, .string ax, .int .i64 bk, .int .i64 bsv, .string bf, .string bfi, .int .i64 bl, .string bx] 23)
      rw [← ht36] at hB36
      rw [← ht36]
      clear ht36
      have P36 : ∀ W, Below v36.heap.size v36 W → RO alC W (some ⟨v41.heap.size, 0, none⟩) 2 2 [(⟨ak, asv, af, afi, al, ax⟩ : AlD), (⟨bk, bsv, bf, bfi, bl, bx⟩ : AlD)] := fun W hW => sP36'.below hW
      refine hK.out _ _ (hB36) (fun hHeld => ?_)
      clear hK K
      try simp only [Act.put, List.setIfInBounds_toArray, List.set_cons_zero, List.set_cons_succ]
      refine wpAnyH_now hHeld (fun hHeld => ?_)
      replace FL := rebase FL (hB36)
      replace FT := rebase FT (hB36)
      replace FB := rebase FB (hB36)
      replace x0 := rebase x0 (hB36)
      replace x1 := rebase x1 (hB36)
      replace x2 := rebase x2 (hB36)
      replace x3 := rebase x3 (hB36)
      replace x4 := rebase x4 (hB36)
      replace x5 := rebase x5 (hB36)
      replace y0 := rebase y0 (hB36)
      replace y1 := rebase y1 (hB36)
      replace y2 := rebase y2 (hB36)
      replace y3 := rebase y3 (hB36)
      replace y4 := rebase y4 (hB36)
      replace y5 := rebase y5 (hB36)
      replace R27 := rebase R27 (hB36)
      replace R29 := rebase R29 (hB36)
      replace P41 := rebase P41 (hB36)
      refine wpAnyH_ready (rs := [37]) (by kernel_rfl) (by simp) ?_
      refine AllReadyH.cons (o := { dst := some 56, op := Go.Op.call { callee := Go.Callee.value (Go.Operand.func 16), args := #[Go.Operand.tmp 52, Go.Operand.tmp 55], argTypes := #[24, 24] }, type := 4, pos := "law.go:45", after := #[{ on := 33, ground := Go.Ground.data }, { on := 36, ground := Go.Ground.data }, { on := 32, ground := Go.Ground.chain }, { on := 32, ground := Go.Ground.guard }], guard := some (32, true) }) rfl (fun K hK => ?_) AllReadyH.nil
      go_simp
      with_reducible refine (QM.out _ _ _ (FL _ hHeld) (P36 _ hHeld)).mono ?_
      rintro e v37 ⟨rfl, b37⟩
      have hB37 := hHeld.trans (b37.mono hHeld.size)
      go_simp
      refine hK.out _ _ (hB37) (fun hHeld => ?_)
      clear hK K
      try simp only [Act.put, List.setIfInBounds_toArray, List.set_cons_zero, List.set_cons_succ]
      refine wpAnyH_now hHeld (fun hHeld => ?_)
      replace FL := rebase FL (hB37)
      replace FT := rebase FT (hB37)
      replace FB := rebase FB (hB37)
      replace x0 := rebase x0 (hB37)
      replace x1 := rebase x1 (hB37)
      replace x2 := rebase x2 (hB37)
      replace x3 := rebase x3 (hB37)
      replace x4 := rebase x4 (hB37)
      replace x5 := rebase x5 (hB37)
      replace y0 := rebase y0 (hB37)
      replace y1 := rebase y1 (hB37)
      replace y2 := rebase y2 (hB37)
      replace y3 := rebase y3 (hB37)
      replace y4 := rebase y4 (hB37)
      replace y5 := rebase y5 (hB37)
      replace R27 := rebase R27 (hB37)
      replace R29 := rebase R29 (hB37)
      replace P41 := rebase P41 (hB37)
      replace P36 := rebase P36 (hB37)
      refine wpAnyH_ready (rs := [42]) (by kernel_rfl) (by simp) ?_
      refine AllReadyH.cons (o := { dst := some 61, op := Go.Op.call { callee := Go.Callee.value (Go.Operand.func 13), args := #[Go.Operand.tmp 57, Go.Operand.tmp 60], argTypes := #[24, 24] }, type := 4, pos := "law.go:45", after := #[{ on := 38, ground := Go.Ground.data }, { on := 41, ground := Go.Ground.data }, { on := 37, ground := Go.Ground.chain }, { on := 32, ground := Go.Ground.guard }], guard := some (32, true) }) rfl (fun K hK => ?_) AllReadyH.nil
      go_simp
      with_reducible refine (QRM.out _ _ _ (FL _ hHeld) (P41 _ hHeld)).mono ?_
      rintro e v42 ⟨rfl, b42⟩
      have hB42 := hHeld.trans (b42.mono hHeld.size)
      go_simp
      refine hK.out _ _ (hB42) (fun hHeld => ?_)
      clear hK K
      try simp only [Act.put, List.setIfInBounds_toArray, List.set_cons_zero, List.set_cons_succ]
      refine wpAnyH_now hHeld (fun hHeld => ?_)
      replace FL := rebase FL (hB42)
      replace FT := rebase FT (hB42)
      replace FB := rebase FB (hB42)
      replace x0 := rebase x0 (hB42)
      replace x1 := rebase x1 (hB42)
      replace x2 := rebase x2 (hB42)
      replace x3 := rebase x3 (hB42)
      replace x4 := rebase x4 (hB42)
      replace x5 := rebase x5 (hB42)
      replace y0 := rebase y0 (hB42)
      replace y1 := rebase y1 (hB42)
      replace y2 := rebase y2 (hB42)
      replace y3 := rebase y3 (hB42)
      replace y4 := rebase y4 (hB42)
      replace y5 := rebase y5 (hB42)
      replace R27 := rebase R27 (hB42)
      replace R29 := rebase R29 (hB42)
      replace P41 := rebase P41 (hB42)
      replace P36 := rebase P36 (hB42)
      refine wpAnyH_take (i := 43) (oi := { dst := some 62, op := Go.Op.binOp Go.BinOp.eql 4 (Go.Operand.tmp 56) (Go.Operand.tmp 61) 4, type := 4, pos := "law.go:45", after := #[{ on := 37, ground := Go.Ground.data }, { on := 42, ground := Go.Ground.data }, { on := 32, ground := Go.Ground.guard }], guard := some (32, true) }) (v := ?v80) rfl (by kernel_rfl) (by kernel_rfl) (by kernel_rfl) (fun _ _ _ h => h) (Or.inl ⟨by kernel_rfl, ?h80⟩) (by assumption) ?r80
      case h80 => (intro w hSw; (try dsimp only at hSw); go_simp; try with_reducible rfl)
      try simp only [Act.put, List.setIfInBounds_toArray, List.set_cons_zero, List.set_cons_succ]
      refine wpAnyH_take (i := 44) (oi := { dst := some 63, op := Go.Op.pick (Go.Operand.tmp 51) (Go.Operand.tmp 62) (Go.Operand.const (Go.Value.bool false)), type := 4, pos := "law.go:45", after := #[{ on := 32, ground := Go.Ground.data }, { on := 43, ground := Go.Ground.data }], guard := none }) (v := ?v81) rfl (by kernel_rfl) (by kernel_rfl) (by kernel_rfl) (fun _ _ _ h => h) (Or.inl ⟨by kernel_rfl, ?h81⟩) (by assumption) ?r81
      case h81 => (intro w hSw; (try dsimp only at hSw); go_simp; try with_reducible rfl)
      try simp only [Act.put, List.setIfInBounds_toArray, List.set_cons_zero, List.set_cons_succ]
      refine wpAnyH_take (i := 45) (oi := { dst := some 6, op := Go.Op.assign (Go.Operand.tmp 63), type := 4, pos := "law.go:45", after := #[{ on := 44, ground := Go.Ground.data }, { on := 42, ground := Go.Ground.chain }, { on := 0, ground := Go.Ground.phase }, { on := 1, ground := Go.Ground.phase }, { on := 2, ground := Go.Ground.phase }, { on := 3, ground := Go.Ground.phase }, { on := 4, ground := Go.Ground.phase }, { on := 5, ground := Go.Ground.phase }, { on := 6, ground := Go.Ground.phase }, { on := 7, ground := Go.Ground.phase }, { on := 8, ground := Go.Ground.phase }, { on := 9, ground := Go.Ground.phase }, { on := 10, ground := Go.Ground.phase }, { on := 11, ground := Go.Ground.phase }, { on := 12, ground := Go.Ground.phase }, { on := 13, ground := Go.Ground.phase }, { on := 14, ground := Go.Ground.phase }, { on := 15, ground := Go.Ground.phase }, { on := 16, ground := Go.Ground.phase }, { on := 17, ground := Go.Ground.phase }, { on := 18, ground := Go.Ground.phase }, { on := 19, ground := Go.Ground.phase }, { on := 20, ground := Go.Ground.phase }, { on := 21, ground := Go.Ground.phase }, { on := 22, ground := Go.Ground.phase }, { on := 23, ground := Go.Ground.phase }, { on := 24, ground := Go.Ground.phase }, { on := 25, ground := Go.Ground.phase }, { on := 26, ground := Go.Ground.phase }, { on := 27, ground := Go.Ground.phase }, { on := 28, ground := Go.Ground.phase }, { on := 29, ground := Go.Ground.phase }, { on := 30, ground := Go.Ground.phase }, { on := 31, ground := Go.Ground.phase }, { on := 32, ground := Go.Ground.phase }, { on := 33, ground := Go.Ground.phase }, { on := 34, ground := Go.Ground.phase }, { on := 35, ground := Go.Ground.phase }, { on := 36, ground := Go.Ground.phase }, { on := 37, ground := Go.Ground.phase }, { on := 38, ground := Go.Ground.phase }, { on := 39, ground := Go.Ground.phase }, { on := 40, ground := Go.Ground.phase }, { on := 41, ground := Go.Ground.phase }, { on := 42, ground := Go.Ground.phase }, { on := 43, ground := Go.Ground.phase }, { on := 44, ground := Go.Ground.phase }], guard := none }) (v := ?v82) rfl (by kernel_rfl) (by kernel_rfl) (by kernel_rfl) (fun _ _ _ h => h) (Or.inl ⟨by kernel_rfl, ?h82⟩) (by assumption) ?r82
      case h82 => (intro w hSw; (try dsimp only at hSw); go_simp; try with_reducible rfl)
      try simp only [Act.put, List.setIfInBounds_toArray, List.set_cons_zero, List.set_cons_succ]
      refine wpAnyH_done (by kernel_rfl) ?_ _
      have hfin := Lib.hid (FB _ hHeld)
      clear x0 x1 x2 x3 x4 x5 y0 y1 y2 y3 y4 y5 FL FT FB
      go_wp2
      go_ret
      exact ⟨rfl, hfin.out⟩
theorem alarmChecks_walk (w : World) (ht : Tab w) (ak : Int) (ha0 : (Lit.int .i64 ak).wf = true) (asv : Int) (ha1 : (Lit.int .i64 asv).wf = true) (af : ByteArray) (ha2 : af.size ≤ 9223372036854775807) (qa2 : af.size ≤ 140737488351232) (afi : ByteArray) (ha3 : afi.size ≤ 9223372036854775807) (qa3 : afi.size ≤ 140737488351232) (al : Int) (ha4 : (Lit.int .i64 al).wf = true) (ax : ByteArray) (ha5 : ax.size ≤ 9223372036854775807) (qa5 : ax.size ≤ 140737488351232) (bk : Int) (hb0 : (Lit.int .i64 bk).wf = true) (bsv : Int) (hb1 : (Lit.int .i64 bsv).wf = true) (bf : ByteArray) (hb2 : bf.size ≤ 9223372036854775807) (qb2 : bf.size ≤ 140737488351232) (bfi : ByteArray) (hb3 : bfi.size ≤ 9223372036854775807) (qb3 : bfi.size ≤ 140737488351232) (bl : Int) (hb4 : (Lit.int .i64 bl).wf = true) (bx : ByteArray) (hb5 : bx.size ≤ 9223372036854775807) (qb5 : bx.size ≤ 140737488351232) (sl : Option Addr) (n c : Nat) (row : AlSl w sl n c) :
    Calls Tryz.prog 3 #[.agg #[.int .i64 ak, .int .i64 asv, .string af, .string afi, .int .i64 al, .string ax], .agg #[.int .i64 bk, .int .i64 bsv, .string bf, .string bfi, .int .i64 bl, .string bx], .slice sl n c] w (Gives (.bool true) w) :=
  alarmChecks_all w ht ak asv al af afi ax bk bsv bl bf bfi bx ⟨ha0, ha1, qa2, qa3, ha4, qa5⟩ ⟨hb0, hb1, qb2, qb3, hb4, qb5⟩ sl n c row
end Go.Proofs.YtimgocfkogebmaaGreatDoor
