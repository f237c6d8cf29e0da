/-
  Words and walks under the law's proof.
-/
import Derived.Lib.SmallJoins
import Derived.Deep.Fields
import Derived.OpenShut
import Derived.Test.YtimgocfkogebmaaGreatDoorQR08
import Derived.Test.YtimgocfkogebmaaGreatDoorQR11
namespace Go.Proofs.YtimgocfkogebmaaGreatDoor
open Go.RowKit Go.ChangeShapes Go.WideShapes Go.Deep
set_option linter.unusedVariables false
theorem open_agg6 {H : Type} {enc : TypeId × Value → H} {P : Program} {w : World} {base : Nat} {spare : Nat → Bool} {held : Bool} {r : Go.Reach} {b0 : Nat} {t : TypeId} {f0 f1 f2 f3 f4 f5 : Field} {v : Value} {d : DataW H} {p : List MemPlace} (hs : P.underlying t = some (.struct #[f0, f1, f2, f3, f4, f5])) (hone : oneCellFields P #[f0, f1, f2, f3, f4, f5] = true) (hC : P.cellsOf t = 6)
    (hv : Value.okWide P w r b0 t v) (h : DataW.Trod enc P w base spare held t v d p) :
    ∃ (v0 v1 v2 v3 v4 v5 : Value) (y0 y1 y2 y3 y4 y5 : DataW H × List MemPlace) (n : Nat), v = .agg #[v0, v1, v2, v3, v4, v5] ∧ d = .agg [y0.1, y1.1, y2.1, y3.1, y4.1, y5.1] ∧ p = y0.2 ++ (y1.2 ++ (y2.2 ++ (y3.2 ++ (y4.2 ++ y5.2)))) ∧
      DataW.trod enc P w base spare held n f0.type [v0] = some y0 ∧ DataW.trod enc P w base spare held n f1.type [v1] = some y1 ∧ DataW.trod enc P w base spare held n f2.type [v2] = some y2 ∧ DataW.trod enc P w base spare held n f3.type [v3] = some y3 ∧ DataW.trod enc P w base spare held n f4.type [v4] = some y4 ∧ DataW.trod enc P w base spare held n f5.type [v5] = some y5 := by
  obtain ⟨cs, rfl, hsz⟩ := okWide_struct hs hv
  obtain ⟨l⟩ := cs
  have hl5 : l.length = 6 := by simpa using hsz.trans hC
  match l, hl5 with
  | [c0, c1, c2, c3, c4, c5], _ =>
  obtain ⟨fuel, hf⟩ := h
  obtain ⟨xs, n, _, hx, hl, hlen, hf⟩ := DataW.trod_struct hs hf
  match xs, hlen with
  | [y0, y1, y2, y3, y4, y5], _ =>
  have h0 := hf 0 f0 rfl
  have h1 := hf 1 f1 rfl
  have h2 := hf 2 f2 rfl
  have h3 := hf 3 f3 rfl
  have h4 := hf 4 f4 rfl
  have h5 := hf 5 f5 rfl
  obtain ⟨o0, k0⟩ := hone_of hone 0 f0 rfl
  obtain ⟨o1, k1⟩ := hone_of hone 1 f1 rfl
  obtain ⟨o2, k2⟩ := hone_of hone 2 f2 rfl
  obtain ⟨o3, k3⟩ := hone_of hone 3 f3 rfl
  obtain ⟨o4, k4⟩ := hone_of hone 4 f4 rfl
  obtain ⟨o5, k5⟩ := hone_of hone 5 f5 rfl
  simp only [Prod.mk.injEq] at hx
  exact ⟨c0, c1, c2, c3, c4, c5, y0, y1, y2, y3, y4, y5, n, rfl, by simpa using hx.1, by simpa using hx.2, by simpa [Value.cells, o0, k0] using h0, by simpa [Value.cells, o1, k1] using h1, by simpa [Value.cells, o2, k2] using h2, by simpa [Value.cells, o3, k3] using h3, by simpa [Value.cells, o4, k4] using h4, by simpa [Value.cells, o5, k5] using h5⟩
end Go.Proofs.YtimgocfkogebmaaGreatDoor
namespace Go.Proofs.YtimgocfkogebmaaGreatDoor
open Go.RowKit
set_option linter.unusedVariables false
set_option linter.unusedSimpArgs false
theorem ro_three (A B C : AlD) (w : World) (cs : Array Value) (hc : cs.toList = alC A ++ (alC B ++ alC C)) : RO alC (w.alloc (.cells cs 23)) (some ⟨w.heap.size, 0, none⟩) 3 3 [A, B, C] :=
  ⟨rfl, Nat.le_refl _, by simp [maxLen], by have := seesC_lit w 23 cs; rw [hc] at this; simpa using this⟩
theorem three_w {A B C : AlD} (hA : alW A) (hB : alW B) (hC : alW C) : ∀ s ∈ [A, B, C], alW s := by
  intro s hs
  simp at hs
  rcases hs with rfl | rfl | rfl
  · exact hA
  · exact hB
  · exact hC
theorem sortA_again (l : List AlD) : sortC cmpA (sortC cmpA l) = sortC cmpA l := (sortC_is cmA (List.Perm.refl _) (sortC_sorted cmA l)).symm
theorem sortA_pair (l : List AlD) {i j : Nat} (hij : i < j) (hj : j < (sortC cmpA l).length) : cmpA ((sortC cmpA l).getD i al0) ((sortC cmpA l).getD j al0) ≤ 0 := by
  have h := List.pairwise_iff_getElem.1 (sortC_sorted cmA l) i j (by omega) hj hij
  simpa [List.getD, hj, show i < (sortC cmpA l).length by omega] using h
set_option maxRecDepth 100000 in
theorem al_neq (A B : AlD) (h : ¬ A = B) (W : World) : (binOp BinOp.eql 23 (.agg #[.int .i64 A.kind, .int .i64 A.sev, .string A.fn, .string A.file, .int .i64 A.line, .string A.expr]) (.agg #[.int .i64 B.kind, .int .i64 B.sev, .string B.fn, .string B.file, .int .i64 B.line, .string B.expr])).run Tryz.prog W = .ok (.bool false) W := by
  obtain ⟨q, hq⟩ : ∃ q : Bool, q = false := ⟨_, rfl⟩
  rw [← hq]
  have hh : q = true ↔ A = B := by rw [hq]; constructor <;> intro x <;> simp_all
  clear hq h
  go_simp
  exact al_cmp A B (fun b => Result.ok (Value.bool b) W) q hh
set_option maxRecDepth 100000 in
set_option maxHeartbeats 16000000 in
theorem alarmOrder_all (w : World) (ht : Tab w) (ak asv al : Int) (af afi ax : ByteArray) (bk bsv bl : Int) (bf bfi bx : ByteArray) (ck csv cl : Int) (cf cfi cx : ByteArray) (hA : alW (⟨ak, asv, af, afi, al, ax⟩ : AlD)) (hB : alW (⟨bk, bsv, bf, bfi, bl, bx⟩ : AlD)) (hC : alW (⟨ck, csv, cf, cfi, cl, cx⟩ : AlD)) (sl : Option Addr) (n c : Nat) (row : AlSl w sl n c) :
    Calls Tryz.prog 6 #[.agg #[.int .i64 ak, .int .i64 asv, .string af, .string afi, .int .i64 al, .string ax], .agg #[.int .i64 bk, .int .i64 bsv, .string bf, .string bfi, .int .i64 bl, .string bx], .agg #[.int .i64 ck, .int .i64 csv, .string cf, .string cfi, .int .i64 cl, .string cx], .slice sl n c] w (Gives (.bool true) w) := by
  obtain ⟨l, hRO, hW, hnb⟩ := row
  obtain ⟨W1, hW1⟩ : ∃ W1, W1 = w.alloc (.cells #[.int .i64 ak, .int .i64 asv, .string af, .string afi, .int .i64 al, .string ax] 23) := ⟨_, rfl⟩
  obtain ⟨W2, hW2⟩ : ∃ W2, W2 = W1.alloc (.cells #[.int .i64 bk, .int .i64 bsv, .string bf, .string bfi, .int .i64 bl, .string bx] 23) := ⟨_, rfl⟩
  obtain ⟨W3, hW3⟩ : ∃ W3, W3 = W2.alloc (.cells #[.int .i64 ck, .int .i64 csv, .string cf, .string cfi, .int .i64 cl, .string cx] 23) := ⟨_, rfl⟩
  obtain ⟨U, hU⟩ : ∃ U, U = W3.alloc (.cells #[.int .i64 ak, .int .i64 asv, .string af, .string afi, .int .i64 al, .string ax, .int .i64 bk, .int .i64 bsv, .string bf, .string bfi, .int .i64 bl, .string bx, .int .i64 ck, .int .i64 csv, .string cf, .string cfi, .int .i64 cl, .string cx] 23) := ⟨_, rfl⟩
  have z1 : W1.heap.size = w.heap.size + 1 := by rw [hW1]; simp
  have z2 : W2.heap.size = w.heap.size + 1 + 1 := by rw [hW2]; simp [z1]
  have z3 : W3.heap.size = w.heap.size + 1 + 1 + 1 := by rw [hW3]; simp [z2]
  have b1 : Below w.heap.size w W1 := by rw [hW1]; exact box_below _ _ _
  have b2 : Below W1.heap.size W1 W2 := by rw [hW2]; exact box_below _ _ _
  have b3 : Below W2.heap.size W2 W3 := by rw [hW3]; exact box_below _ _ _
  have b4 : Below W3.heap.size W3 U := by rw [hU]; exact box_below _ _ _
  have b34 := b3.trans (b4.mono b3.size)
  have b24 := b2.trans (b34.mono b2.size)
  have BL := Lib.hid (b1.trans (b24.mono b1.size))
  have HA := Lib.hid (Holds.below (w := W1) (g := w.heap.size) (t := 23) (cs := #[.int .i64 ak, .int .i64 asv, .string af, .string afi, .int .i64 al, .string ax]) (by rw [hW1]; exact Holds.new _ _ _) b24 (by omega))
  have HB := Lib.hid (Holds.below (w := W2) (g := w.heap.size + 1) (t := 23) (cs := #[.int .i64 bk, .int .i64 bsv, .string bf, .string bfi, .int .i64 bl, .string bx]) (by rw [hW2, ← z1]; exact Holds.new _ _ _) b34 (by omega))
  have HC := Lib.hid (Holds.below (w := W3) (g := w.heap.size + 1 + 1) (t := 23) (cs := #[.int .i64 ck, .int .i64 csv, .string cf, .string cfi, .int .i64 cl, .string cx]) (by rw [hW3, ← z2]; exact Holds.new _ _ _) b4 (by omega))
  have R0 : RO alC U (some ⟨w.heap.size + 1 + 1 + 1, 0, none⟩) 3 3 [(⟨ak, asv, af, afi, al, ax⟩ : AlD), (⟨bk, bsv, bf, bfi, bl, bx⟩ : AlD), (⟨ck, csv, cf, cfi, cl, cx⟩ : AlD)] := by rw [hU, ← z3]; exact ro_three _ _ _ _ _ rfl
  have q1 := Lib.hid (alarge_any [(⟨ak, asv, af, afi, al, ax⟩ : AlD), (⟨bk, bsv, bf, bfi, bl, bx⟩ : AlD), (⟨ck, csv, cf, cfi, cl, cx⟩ : AlD)] _ 3 3 U R0 (three_w hA hB hC))
  have RL := Lib.hid (hRO.below BL.out)
  have q2 := Lib.hid (alarge_any l sl n c U RL.out hW)
  have TU := Lib.hid (ht.on BL.out)
  have qv := Lib.hid (fun W hT => alives_any W hT)
  have hh := Lib.hid (And.intro hW1 (And.intro hW2 (And.intro hW3 hU)))
  have hln := Lib.hid hRO.len
  clear R0 b1 b2 b3 b4 b34 b24 z1 z2 z3 hW1 hW2 hW3 hU ht hRO
  cases hb1 : bigA [(⟨ak, asv, af, afi, al, ax⟩ : AlD), (⟨bk, bsv, bf, bfi, bl, bx⟩ : AlD), (⟨ck, csv, cf, cfi, cl, cx⟩ : AlD)] with
  | true =>
    rw [hb1] at q1
    clear hb1 hA hB hC hW q2 RL HA HB HC
    have qq := Lib.hid (qv.out _ TU.out)
    go_enter Tryz.func6, Tryz.ntmps6
    go_wp2_with fail
    rw [← hh.out.1, ← hh.out.2.1, ← hh.out.2.2.1, ← hh.out.2.2.2]
    with_reducible refine q1.out.mono ?_
    rintro e w1 ⟨rfl, rfl⟩
    clear q1 hh
    go_wp2_with fail
    with_reducible refine qq.out.mono ?_
    rintro e w2 ⟨rfl, b⟩
    have hf := Lib.hid (BL.out.trans (b.mono BL.out.size))
    clear b qq
    go_wp2
    go_ret
    exact ⟨rfl, hf.out⟩
  | false =>
  cases hb2 : bigA l with
  | true =>
    rw [hb1] at q1
    rw [hb2] at q2
    clear hb1 hb2 hA hB hC hW RL HA HB HC
    have qq := Lib.hid (qv.out _ TU.out)
    go_enter Tryz.func6, Tryz.ntmps6
    go_wp2_with fail
    rw [← hh.out.1, ← hh.out.2.1, ← hh.out.2.2.1, ← hh.out.2.2.2]
    with_reducible refine q1.out.mono ?_
    rintro e w1 ⟨rfl, rfl⟩
    clear q1 hh
    go_wp2_with fail
    with_reducible refine q2.out.mono ?_
    rintro e w1 ⟨rfl, rfl⟩
    clear q2
    go_wp2_with fail
    with_reducible refine qq.out.mono ?_
    rintro e w2 ⟨rfl, b⟩
    have hf := Lib.hid (BL.out.trans (b.mono BL.out.size))
    clear b qq
    go_wp2
    go_ret
    exact ⟨rfl, hf.out⟩
  | false =>
  rw [hb1] at q1
  rw [hb2] at q2
  obtain ⟨hl1, -⟩ := small_of hb2
  have hn5 : n ≤ 100 := by rw [hln.out]; exact hl1
  have QAB := Lib.hid (fun W => acmpo_any (⟨ak, asv, af, afi, al, ax⟩ : AlD) (⟨bk, bsv, bf, bfi, bl, bx⟩ : AlD) W)
  have QBC := Lib.hid (fun W => acmpo_any (⟨bk, bsv, bf, bfi, bl, bx⟩ : AlD) (⟨ck, csv, cf, cfi, cl, cx⟩ : AlD) W)
  have QAC := Lib.hid (fun W => acmpo_any (⟨ak, asv, af, afi, al, ax⟩ : AlD) (⟨ck, csv, cf, cfi, cl, cx⟩ : AlD) W)
  have QBA := Lib.hid (fun W => acmpo_any (⟨bk, bsv, bf, bfi, bl, bx⟩ : AlD) (⟨ak, asv, af, afi, al, ax⟩ : AlD) W)
  have QC2 := Lib.hid (fun X Y W => acmpo_any X Y W)
  have QS : Hid (∀ W, RO alC W sl n c l → Calls Tryz.prog 14 #[.slice sl n c] W (fun e w' => ∃ a' c', e = .returned (.slice a' n c') ∧ RO alC w' a' n c' (sortC cmpA l) ∧ Below W.heap.size W w')) := Lib.hid (fun W hW => (asort_any sl n c l W hW (by omega)).mono (by
    rintro e w' ⟨a', c', rfl, h1, h2⟩
    rw [sortA_len, ← hln.out] at h1
    rw [sortA_len, ← hln.out]
    exact ⟨a', c', rfl, h1, h2⟩))
  have QS2 : Hid (∀ W a c, RO alC W a n c (sortC cmpA l) → Calls Tryz.prog 14 #[.slice a n c] W (fun e w' => ∃ a' c', e = .returned (.slice a' n c') ∧ RO alC w' a' n c' (sortC cmpA l) ∧ Below W.heap.size W w')) := Lib.hid (fun W a c hW => (asort_any a n c _ W hW (by omega)).mono (by
    rintro e w' ⟨a', c', rfl, h1, h2⟩
    rw [sortA_again, ← hW.len] at h1
    rw [sortA_again, ← hW.len]
    exact ⟨a', c', rfl, h1, h2⟩))
  have QM : Hid (∀ W L m a c a' c', RO alC W a m c L → RO alC W a' m c' L → Calls Tryz.prog 16 #[.slice a m c, .slice a' m c'] W (Gives (.bool true) W)) := Lib.hid (fun W L m a c a' c' h1 h2 => by
    have q := alSame_any a a' m m c c' L L W h1 h2
    rw [lv_same] at q
    exact q.mono fun e w' h => drawn_gives h)
  have hsp : Hid (∀ i j, i < j → j < n → cmpA ((sortC cmpA l).getD i al0) ((sortC cmpA l).getD j al0) ≤ 0) := Lib.hid (fun i j hij hj => sortA_pair l hij (by rw [sortA_len, ← hln.out]; exact hj))
  have hr := Lib.hid (cmA.range (⟨ak, asv, af, afi, al, ax⟩ : AlD) (⟨bk, bsv, bf, bfi, bl, bx⟩ : AlD))
  have hzr := Lib.hid (cmA.zero (⟨ak, asv, af, afi, al, ax⟩ : AlD) (⟨bk, bsv, bf, bfi, bl, bx⟩ : AlD))
  have han := Lib.hid (cmA.anti (⟨ak, asv, af, afi, al, ax⟩ : AlD) (⟨bk, bsv, bf, bfi, bl, bx⟩ : AlD))
  have htr := Lib.hid (cmA.trans (⟨ak, asv, af, afi, al, ax⟩ : AlD) (⟨bk, bsv, bf, bfi, bl, bx⟩ : AlD) (⟨ck, csv, cf, cfi, cl, cx⟩ : AlD))
  have hne : Hid (¬ (⟨ak, asv, af, afi, al, ax⟩ : AlD) = (⟨bk, bsv, bf, bfi, bl, bx⟩ : AlD) → ∀ W, (binOp BinOp.eql 23 (.agg #[.int .i64 ak, .int .i64 asv, .string af, .string afi, .int .i64 al, .string ax]) (.agg #[.int .i64 bk, .int .i64 bsv, .string bf, .string bfi, .int .i64 bl, .string bx])).run Tryz.prog W = .ok (.bool false) W) := Lib.hid (fun h W => al_neq (⟨ak, asv, af, afi, al, ax⟩ : AlD) (⟨bk, bsv, bf, bfi, bl, bx⟩ : AlD) h W)
  clear hb1 hb2 hA hB hC hW hl1 hnb
  generalize sortC cmpA l = S at *
  generalize cmpA (⟨ak, asv, af, afi, al, ax⟩ : AlD) (⟨bk, bsv, bf, bfi, bl, bx⟩ : AlD) = x at *
  generalize cmpA (⟨bk, bsv, bf, bfi, bl, bx⟩ : AlD) (⟨ck, csv, cf, cfi, cl, cx⟩ : AlD) = y at *
  generalize cmpA (⟨ak, asv, af, afi, al, ax⟩ : AlD) (⟨ck, csv, cf, cfi, cl, cx⟩ : AlD) = z at *
  generalize cmpA (⟨bk, bsv, bf, bfi, bl, bx⟩ : AlD) (⟨ak, asv, af, afi, al, ax⟩ : AlD) = xx at *
  have hni : (n : Int) ≤ 100 := by omega
  have p0 : ∀ W, Below U.heap.size U W → W.cell? ⟨w.heap.size, 0, none⟩ = some (.int .i64 ak) := fun W hW => (HA.out.below hW HA.out.lt).cell 0
  have s0 : ∀ W, Below U.heap.size U W → W.cell? ⟨w.heap.size + 1, 0, none⟩ = some (.int .i64 bk) := fun W hW => (HB.out.below hW HB.out.lt).cell 0
  have r0 : ∀ W, Below U.heap.size U W → W.cell? ⟨w.heap.size + 1 + 1, 0, none⟩ = some (.int .i64 ck) := fun W hW => (HC.out.below hW HC.out.lt).cell 0
  have p1 : ∀ W, Below U.heap.size U W → W.cell? ⟨w.heap.size, 1, none⟩ = some (.int .i64 asv) := fun W hW => (HA.out.below hW HA.out.lt).cell 1
  have s1 : ∀ W, Below U.heap.size U W → W.cell? ⟨w.heap.size + 1, 1, none⟩ = some (.int .i64 bsv) := fun W hW => (HB.out.below hW HB.out.lt).cell 1
  have r1 : ∀ W, Below U.heap.size U W → W.cell? ⟨w.heap.size + 1 + 1, 1, none⟩ = some (.int .i64 csv) := fun W hW => (HC.out.below hW HC.out.lt).cell 1
  have p2 : ∀ W, Below U.heap.size U W → W.cell? ⟨w.heap.size, 2, none⟩ = some (.string af) := fun W hW => (HA.out.below hW HA.out.lt).cell 2
  have s2 : ∀ W, Below U.heap.size U W → W.cell? ⟨w.heap.size + 1, 2, none⟩ = some (.string bf) := fun W hW => (HB.out.below hW HB.out.lt).cell 2
  have r2 : ∀ W, Below U.heap.size U W → W.cell? ⟨w.heap.size + 1 + 1, 2, none⟩ = some (.string cf) := fun W hW => (HC.out.below hW HC.out.lt).cell 2
  have p3 : ∀ W, Below U.heap.size U W → W.cell? ⟨w.heap.size, 3, none⟩ = some (.string afi) := fun W hW => (HA.out.below hW HA.out.lt).cell 3
  have s3 : ∀ W, Below U.heap.size U W → W.cell? ⟨w.heap.size + 1, 3, none⟩ = some (.string bfi) := fun W hW => (HB.out.below hW HB.out.lt).cell 3
  have r3 : ∀ W, Below U.heap.size U W → W.cell? ⟨w.heap.size + 1 + 1, 3, none⟩ = some (.string cfi) := fun W hW => (HC.out.below hW HC.out.lt).cell 3
  have p4 : ∀ W, Below U.heap.size U W → W.cell? ⟨w.heap.size, 4, none⟩ = some (.int .i64 al) := fun W hW => (HA.out.below hW HA.out.lt).cell 4
  have s4 : ∀ W, Below U.heap.size U W → W.cell? ⟨w.heap.size + 1, 4, none⟩ = some (.int .i64 bl) := fun W hW => (HB.out.below hW HB.out.lt).cell 4
  have r4 : ∀ W, Below U.heap.size U W → W.cell? ⟨w.heap.size + 1 + 1, 4, none⟩ = some (.int .i64 cl) := fun W hW => (HC.out.below hW HC.out.lt).cell 4
  have p5 : ∀ W, Below U.heap.size U W → W.cell? ⟨w.heap.size, 5, none⟩ = some (.string ax) := fun W hW => (HA.out.below hW HA.out.lt).cell 5
  have s5 : ∀ W, Below U.heap.size U W → W.cell? ⟨w.heap.size + 1, 5, none⟩ = some (.string bx) := fun W hW => (HB.out.below hW HB.out.lt).cell 5
  have r5 : ∀ W, Below U.heap.size U W → W.cell? ⟨w.heap.size + 1 + 1, 5, none⟩ = some (.string cx) := fun W hW => (HC.out.below hW HC.out.lt).cell 5
  go_enter Tryz.func6, Tryz.ntmps6
  go_wp2_with fail
  rw [← hh.out.1, ← hh.out.2.1, ← hh.out.2.2.1, ← hh.out.2.2.2]
  with_reducible refine q1.out.mono ?_
  rintro e w1 ⟨rfl, rfl⟩
  clear q1 hh
  go_wp2_with fail
  with_reducible refine q2.out.mono ?_
  rintro e w1 ⟨rfl, rfl⟩
  clear q2
  go_wp2
  refine wp_drawn_on (fun W => Below U.heap.size U W) (by kernel_rfl) ((Below.refl _ _).drew) (fun hHeld => ?_)
  refine wpAnyH_take (i := 0) (oi := { dst := some 24, op := Go.Op.load 23 (Go.Operand.tmp 4), type := 23, pos := "law.go:115", after := #[], guard := none }) (v := ?v1) rfl (by kernel_rfl) (by kernel_rfl) (by kernel_rfl) (fun _ _ _ h => h) (Or.inl ⟨by kernel_rfl, ?h1⟩) (by assumption) ?r1
  case h1 => (intro w hSw; (try dsimp only at hSw); go_simp; try with_reducible rfl)
  try simp only [Act.put, List.setIfInBounds_toArray, List.set_cons_zero, List.set_cons_succ]
  refine wpAnyH_take (i := 1) (oi := { dst := some 25, op := Go.Op.load 23 (Go.Operand.tmp 5), type := 23, pos := "law.go:115", after := #[], guard := none }) (v := ?v2) rfl (by kernel_rfl) (by kernel_rfl) (by kernel_rfl) (fun _ _ _ h => h) (Or.inl ⟨by kernel_rfl, ?h2⟩) (by assumption) ?r2
  case h2 => (intro w hSw; (try dsimp only at hSw); go_simp; try with_reducible rfl)
  try simp only [Act.put, List.setIfInBounds_toArray, List.set_cons_zero, List.set_cons_succ]
  refine wpAnyH_take (i := 3) (oi := { dst := some 27, op := Go.Op.load 23 (Go.Operand.tmp 5), type := 23, pos := "law.go:115", after := #[], guard := none }) (v := ?v3) rfl (by kernel_rfl) (by kernel_rfl) (by kernel_rfl) (fun _ _ _ h => h) (Or.inl ⟨by kernel_rfl, ?h3⟩) (by assumption) ?r3
  case h3 => (intro w hSw; (try dsimp only at hSw); go_simp; try with_reducible rfl)
  try simp only [Act.put, List.setIfInBounds_toArray, List.set_cons_zero, List.set_cons_succ]
  refine wpAnyH_take (i := 4) (oi := { dst := some 28, op := Go.Op.load 23 (Go.Operand.tmp 6), type := 23, pos := "law.go:115", after := #[], guard := none }) (v := ?v4) rfl (by kernel_rfl) (by kernel_rfl) (by kernel_rfl) (fun _ _ _ h => h) (Or.inl ⟨by kernel_rfl, ?h4⟩) (by assumption) ?r4
  case h4 => (intro w hSw; (try dsimp only at hSw); go_simp; try with_reducible rfl)
  try simp only [Act.put, List.setIfInBounds_toArray, List.set_cons_zero, List.set_cons_succ]
  refine wpAnyH_take (i := 6) (oi := { dst := some 30, op := Go.Op.load 23 (Go.Operand.tmp 4), type := 23, pos := "law.go:115", after := #[], guard := none }) (v := ?v5) rfl (by kernel_rfl) (by kernel_rfl) (by kernel_rfl) (fun _ _ _ h => h) (Or.inl ⟨by kernel_rfl, ?h5⟩) (by assumption) ?r5
  case h5 => (intro w hSw; (try dsimp only at hSw); go_simp; try with_reducible rfl)
  try simp only [Act.put, List.setIfInBounds_toArray, List.set_cons_zero, List.set_cons_succ]
  refine wpAnyH_take (i := 7) (oi := { dst := some 31, op := Go.Op.load 23 (Go.Operand.tmp 6), type := 23, pos := "law.go:115", after := #[], guard := none }) (v := ?v6) rfl (by kernel_rfl) (by kernel_rfl) (by kernel_rfl) (fun _ _ _ h => h) (Or.inl ⟨by kernel_rfl, ?h6⟩) (by assumption) ?r6
  case h6 => (intro w hSw; (try dsimp only at hSw); go_simp; try with_reducible rfl)
  try simp only [Act.put, List.setIfInBounds_toArray, List.set_cons_zero, List.set_cons_succ]
  refine wpAnyH_ready (rs := [2]) (by kernel_rfl) (by simp) ?_
  refine AllReadyH.cons (o := { dst := some 26, op := Go.Op.call { callee := Go.Callee.value (Go.Operand.func 11), args := #[Go.Operand.tmp 24, Go.Operand.tmp 25], argTypes := #[23, 23] }, type := 3, pos := "law.go:115", after := #[{ on := 0, ground := Go.Ground.data }, { on := 1, ground := Go.Ground.data }], guard := none }) rfl (fun K hK => ?_) AllReadyH.nil
  go_simp
  with_reducible refine (QAB.out _).mono ?_
  rintro e v2 ⟨rfl, b2⟩
  go_simp
  refine hK.out _ _ (hHeld.trans (b2.mono hHeld.size)) (fun hHeld => ?_)
  clear hK K
  try simp only [Act.put, List.setIfInBounds_toArray, List.set_cons_zero, List.set_cons_succ]
  refine wpAnyH_ready (rs := [5]) (by kernel_rfl) (by simp) ?_
  refine AllReadyH.cons (o := { dst := some 29, op := Go.Op.call { callee := Go.Callee.value (Go.Operand.func 11), args := #[Go.Operand.tmp 27, Go.Operand.tmp 28], argTypes := #[23, 23] }, type := 3, pos := "law.go:115", after := #[{ on := 3, ground := Go.Ground.data }, { on := 4, ground := Go.Ground.data }, { on := 2, ground := Go.Ground.chain }], guard := none }) rfl (fun K hK => ?_) AllReadyH.nil
  go_simp
  with_reducible refine (QBC.out _).mono ?_
  rintro e v5 ⟨rfl, b5⟩
  go_simp
  refine hK.out _ _ (hHeld.trans (b5.mono hHeld.size)) (fun hHeld => ?_)
  clear hK K
  try simp only [Act.put, List.setIfInBounds_toArray, List.set_cons_zero, List.set_cons_succ]
  refine wpAnyH_ready (rs := [8]) (by kernel_rfl) (by simp) ?_
  refine AllReadyH.cons (o := { dst := some 32, op := Go.Op.call { callee := Go.Callee.value (Go.Operand.func 11), args := #[Go.Operand.tmp 30, Go.Operand.tmp 31], argTypes := #[23, 23] }, type := 3, pos := "law.go:115", after := #[{ on := 6, ground := Go.Ground.data }, { on := 7, ground := Go.Ground.data }, { on := 5, ground := Go.Ground.chain }], guard := none }) rfl (fun K hK => ?_) AllReadyH.nil
  go_simp
  with_reducible refine (QAC.out _).mono ?_
  rintro e v8 ⟨rfl, b8⟩
  go_simp
  refine hK.out _ _ (hHeld.trans (b8.mono hHeld.size)) (fun hHeld => ?_)
  clear hK K
  try simp only [Act.put, List.setIfInBounds_toArray, List.set_cons_zero, List.set_cons_succ]
  refine wpAnyH_take (i := 9) (oi := { dst := some 9, op := Go.Op.assign (Go.Operand.tmp 26), type := 3, pos := "law.go:115", after := #[{ on := 2, ground := Go.Ground.data }, { on := 8, ground := Go.Ground.chain }, { on := 0, ground := Go.Ground.phase }, { on := 1, ground := Go.Ground.phase }, { on := 2, ground := Go.Ground.phase }, { on := 3, ground := Go.Ground.textOnly Go.Departure.lateStores }, { on := 4, ground := Go.Ground.textOnly Go.Departure.lateStores }, { on := 5, ground := Go.Ground.textOnly Go.Departure.lateStoresUnsure }, { on := 6, ground := Go.Ground.textOnly Go.Departure.lateStores }, { on := 7, ground := Go.Ground.textOnly Go.Departure.lateStores }, { on := 8, ground := Go.Ground.textOnly Go.Departure.lateStoresUnsure }], guard := none }) (v := ?v7) rfl (by kernel_rfl) (by kernel_rfl) (by kernel_rfl) (fun _ _ _ h => h) (Or.inl ⟨by kernel_rfl, ?h7⟩) (by assumption) ?r7
  case h7 => (intro w hSw; (try dsimp only at hSw); go_simp; try with_reducible rfl)
  try simp only [Act.put, List.setIfInBounds_toArray, List.set_cons_zero, List.set_cons_succ]
  refine wpAnyH_take (i := 10) (oi := { dst := some 10, op := Go.Op.assign (Go.Operand.tmp 29), type := 3, pos := "law.go:115", after := #[{ on := 5, ground := Go.Ground.data }, { on := 9, ground := Go.Ground.chain }, { on := 0, ground := Go.Ground.phase }, { on := 1, ground := Go.Ground.phase }, { on := 2, ground := Go.Ground.phase }, { on := 3, ground := Go.Ground.phase }, { on := 4, ground := Go.Ground.phase }, { on := 5, ground := Go.Ground.phase }, { on := 6, ground := Go.Ground.textOnly Go.Departure.lateStores }, { on := 7, ground := Go.Ground.textOnly Go.Departure.lateStores }, { on := 8, ground := Go.Ground.textOnly Go.Departure.lateStoresUnsure }, { on := 9, ground := Go.Ground.phase }], guard := none }) (v := ?v8) rfl (by kernel_rfl) (by kernel_rfl) (by kernel_rfl) (fun _ _ _ h => h) (Or.inl ⟨by kernel_rfl, ?h8⟩) (by assumption) ?r8
  case h8 => (intro w hSw; (try dsimp only at hSw); go_simp; try with_reducible rfl)
  try simp only [Act.put, List.setIfInBounds_toArray, List.set_cons_zero, List.set_cons_succ]
  refine wpAnyH_take (i := 11) (oi := { dst := some 11, op := Go.Op.assign (Go.Operand.tmp 32), type := 3, pos := "law.go:115", after := #[{ on := 8, ground := Go.Ground.data }, { on := 10, ground := Go.Ground.chain }, { on := 0, ground := Go.Ground.phase }, { on := 1, ground := Go.Ground.phase }, { on := 2, ground := Go.Ground.phase }, { on := 3, ground := Go.Ground.phase }, { on := 4, ground := Go.Ground.phase }, { on := 5, ground := Go.Ground.phase }, { on := 6, ground := Go.Ground.phase }, { on := 7, ground := Go.Ground.phase }, { on := 8, ground := Go.Ground.phase }, { on := 9, ground := Go.Ground.phase }, { on := 10, ground := Go.Ground.phase }], guard := none }) (v := ?v9) rfl (by kernel_rfl) (by kernel_rfl) (by kernel_rfl) (fun _ _ _ h => h) (Or.inl ⟨by kernel_rfl, ?h9⟩) (by assumption) ?r9
  case h9 => (intro w hSw; (try dsimp only at hSw); go_simp; try with_reducible rfl)
  try simp only [Act.put, List.setIfInBounds_toArray, List.set_cons_zero, List.set_cons_succ]
  refine wpAnyH_done (by kernel_rfl) ?_ _
  replace HA := Lib.hid (HA.out.below hHeld HA.out.lt)
  replace HB := Lib.hid (HB.out.below hHeld HB.out.lt)
  replace RL := Lib.hid (RL.out.below hHeld)
  replace BL := Lib.hid (BL.out.trans (hHeld.mono BL.out.size))
  replace TU := Lib.hid (TU.out.on hHeld)
  clear hHeld b2 b5 b8 p0 p1 p2 p3 p4 p5 s0 s1 s2 s3 s4 s5 r0 r1 r2 r3 r4 r5 HC QAB QBC QAC
  go_upto_region 4 with fail
  go_cut [62] (fun t W => t = .bool false ∧ Below v8.heap.size v8 W)
  case first =>
    go_wp2_with fail
    with_reducible refine (qv.out _ TU.out).mono ?_
    rintro e v9 ⟨rfl, b9⟩
    have HA9 := HA.out.below b9 HA.out.lt
    have HB9 := HB.out.below b9 HB.out.lt
    have p0 := HA9.cell 0
    have q0 := HB9.cell 0
    have p1 := HA9.cell 1
    have q1 := HB9.cell 1
    have p2 := HA9.cell 2
    have q2 := HB9.cell 2
    have p3 := HA9.cell 3
    have q3 := HB9.cell 3
    have p4 := HA9.cell 4
    have q4 := HB9.cell 4
    have p5 := HA9.cell 5
    have q5 := HB9.cell 5
    simp at p0 q0 p1 q1 p2 q2 p3 q3 p4 q4 p5 q5
    go_wp2_with fail
    with_reducible refine (QBA.out _).mono ?_
    rintro e v10 ⟨rfl, b10⟩
    clear p0 q0 p1 q1 p2 q2 p3 q3 p4 q4 p5 q5
    have HA10 := HA9.below b10 HA9.lt
    have HB10 := HB9.below b10 HB9.lt
    have hB10 := Lib.hid (b9.trans (b10.mono b9.size))
    have p0 := HA10.cell 0
    have q0 := HB10.cell 0
    have p1 := HA10.cell 1
    have q1 := HB10.cell 1
    have p2 := HA10.cell 2
    have q2 := HB10.cell 2
    have p3 := HA10.cell 3
    have q3 := HB10.cell 3
    have p4 := HA10.cell 4
    have q4 := HB10.cell 4
    have p5 := HA10.cell 5
    have q5 := HB10.cell 5
    simp at p0 q0 p1 q1 p2 q2 p3 q3 p4 q4 p5 q5
    clear HA9 HB9 HA10 HB10 b9 b10
    have hxx := han.out
    rcases hr.out with hx | hx | hx
    · subst hx
      obtain rfl : xx = 1 := by omega
      clear hxx han hr
      have hq := hne.out (fun h => by have := hzr.out.2 h; omega)
      clear hzr hne
      by_cases hy : y ≤ 0
      · have hz : ¬ 0 < z := by have := htr.out (by omega) hy; omega
        clear htr
        go_wp2_with fail
        go_meet
        exact ⟨congrArg Value.bool (decide_eq_false (by omega)), hB10.out⟩
      · clear htr
        go_wp2_with fail
        go_meet
        exact ⟨rfl, hB10.out⟩
    · subst hx
      obtain rfl : xx = 0 := by omega
      clear hxx han hr
      have he := hzr.out.1 rfl
      injection he with e1 e2 e3 e4 e5 e6
      subst e1 e2 e3 e4 e5 e6
      clear hzr hne
      by_cases hy : y ≤ 0
      · have hz : ¬ 0 < z := by have := htr.out (by omega) hy; omega
        clear htr
        go_wp2_with fail
        go_meet
        exact ⟨congrArg Value.bool (decide_eq_false (by omega)), hB10.out⟩
      · clear htr
        go_wp2_with fail
        go_meet
        exact ⟨rfl, hB10.out⟩
    · subst hx
      obtain rfl : xx = -1 := by omega
      clear hxx han hr
      have hq := hne.out (fun h => by have := hzr.out.2 h; omega)
      clear hzr hne
      clear htr
      go_wp2_with fail
      go_meet
      exact ⟨rfl, hB10.out⟩
  case rest =>
    obtain ⟨rfl, hx⟩ := hcut
    replace RL := Lib.hid (RL.out.below hx)
    replace BL := Lib.hid (BL.out.trans (hx.mono BL.out.size))
    clear hx HA HB TU qv QBA htr hne han hzr hr hln
    go_wp2_with fail
    with_reducible refine (QS.out _ RL.out).mono ?_
    rintro e u1 ⟨sa, sc, rfl, hs, b1⟩
    have RS := Lib.hid hs
    replace BL := Lib.hid (BL.out.trans (b1.mono BL.out.size))
    clear b1 hs QS RL
    go_wp2
    go_loopw [13] (fun v wr => ∃ i : Nat, 1 ≤ i ∧ v = .int .i64 i ∧ Hid (Below u1.heap.size u1 wr)) (fun v _ => n - (intOf v).toNat)
    case atStart => exact ⟨1, Nat.le_refl _, rfl, Lib.hid (Below.refl _ _)⟩
    case round =>
      obtain ⟨i, hi1, rfl, hB⟩ := hrel
      generalize wr = g0 at *
      by_cases hlt : i < n
      · have hii : (i : Int) < (n : Int) := by omega
        obtain ⟨j, hj⟩ : ∃ j, i = j + 1 := ⟨i - 1, by omega⟩
        have hjn : j < n := by omega
        obtain ⟨b, off, rfl, hbl, x0, x1, x2, x3, x4, x5⟩ := al_at (RS.out.below hB.out) hlt
        obtain ⟨b', off', hbb, -, y0, y1, y2, y3, y4, y5⟩ := al_at (RS.out.below hB.out) hjn
        injection hbb with hbb
        injection hbb with hb1 hb2
        subst hb1 hb2
        have hle := hsp.out j i (by omega) hlt
        have q := Lib.hid (QC2.out (S.getD j al0) (S.getD i al0))
        have p0 : ∀ W, Below g0.heap.size g0 W → W.cell? ⟨b, off + i * 6, none⟩ = some (.int .i64 (S.getD i al0).kind) := fun W hW => (hW.cell (p := ⟨b, off + i * 6, none⟩) hbl).trans x0
        have r0 : ∀ W, Below g0.heap.size g0 W → W.cell? ⟨b, off + j * 6, none⟩ = some (.int .i64 (S.getD j al0).kind) := fun W hW => (hW.cell (p := ⟨b, off + j * 6, none⟩) hbl).trans y0
        have p1 : ∀ W, Below g0.heap.size g0 W → W.cell? ⟨b, off + i * 6 + 1, none⟩ = some (.int .i64 (S.getD i al0).sev) := fun W hW => (hW.cell (p := ⟨b, off + i * 6 + 1, none⟩) hbl).trans x1
        have r1 : ∀ W, Below g0.heap.size g0 W → W.cell? ⟨b, off + j * 6 + 1, none⟩ = some (.int .i64 (S.getD j al0).sev) := fun W hW => (hW.cell (p := ⟨b, off + j * 6 + 1, none⟩) hbl).trans y1
        have p2 : ∀ W, Below g0.heap.size g0 W → W.cell? ⟨b, off + i * 6 + 2, none⟩ = some (.string (S.getD i al0).fn) := fun W hW => (hW.cell (p := ⟨b, off + i * 6 + 2, none⟩) hbl).trans x2
        have r2 : ∀ W, Below g0.heap.size g0 W → W.cell? ⟨b, off + j * 6 + 2, none⟩ = some (.string (S.getD j al0).fn) := fun W hW => (hW.cell (p := ⟨b, off + j * 6 + 2, none⟩) hbl).trans y2
        have p3 : ∀ W, Below g0.heap.size g0 W → W.cell? ⟨b, off + i * 6 + 3, none⟩ = some (.string (S.getD i al0).file) := fun W hW => (hW.cell (p := ⟨b, off + i * 6 + 3, none⟩) hbl).trans x3
        have r3 : ∀ W, Below g0.heap.size g0 W → W.cell? ⟨b, off + j * 6 + 3, none⟩ = some (.string (S.getD j al0).file) := fun W hW => (hW.cell (p := ⟨b, off + j * 6 + 3, none⟩) hbl).trans y3
        have p4 : ∀ W, Below g0.heap.size g0 W → W.cell? ⟨b, off + i * 6 + 4, none⟩ = some (.int .i64 (S.getD i al0).line) := fun W hW => (hW.cell (p := ⟨b, off + i * 6 + 4, none⟩) hbl).trans x4
        have r4 : ∀ W, Below g0.heap.size g0 W → W.cell? ⟨b, off + j * 6 + 4, none⟩ = some (.int .i64 (S.getD j al0).line) := fun W hW => (hW.cell (p := ⟨b, off + j * 6 + 4, none⟩) hbl).trans y4
        have p5 : ∀ W, Below g0.heap.size g0 W → W.cell? ⟨b, off + i * 6 + 5, none⟩ = some (.string (S.getD i al0).expr) := fun W hW => (hW.cell (p := ⟨b, off + i * 6 + 5, none⟩) hbl).trans x5
        have r5 : ∀ W, Below g0.heap.size g0 W → W.cell? ⟨b, off + j * 6 + 5, none⟩ = some (.string (S.getD j al0).expr) := fun W hW => (hW.cell (p := ⟨b, off + j * 6 + 5, none⟩) hbl).trans y5
        clear x0 x1 x2 x3 x4 x5 y0 y1 y2 y3 y4 y5
        generalize cmpA (S.getD j al0) (S.getD i al0) = cv at *
        generalize S.getD i al0 = X at *
        generalize S.getD j al0 = Y at *
        obtain ⟨gk, gsv, gf, gfi, gl, gx⟩ := X
        obtain ⟨jk, jsv, jf, jfi, jl, jx⟩ := Y
        dsimp only at *
        have hji : (j : Int) < (n : Int) := by omega
        have hj0 : (0 : Int) ≤ (j : Int) := by omega
        have hjw : wrap64 ((i : Int) - 1) = (j : Int) := by unfold wrap64; omega
        have hjw2 : IntKind.i64.wrap ((i : Int) - 1) = (j : Int) := by rw [IntKind.wrap_i64]; omega
        have hcv : ¬ 0 < cv := by omega
        have hcvb : decide (0 < cv) = false := decide_eq_false hcv
        clear hj hle
        go_wp2
        refine wp_drawn_on (fun W => Below g0.heap.size g0 W) (by kernel_rfl) ((Below.refl _ _).drew) (fun hHeld => ?_)
        refine wpAnyH_take (i := 0) (oi := { dst := some 71, op := Go.Op.move (Go.Operand.tmp 12), type := 24, pos := "law.go:121", after := #[], guard := none }) (v := ?v10) rfl (by kernel_rfl) (by kernel_rfl) (by kernel_rfl) (fun _ _ _ h => h) (Or.inl ⟨by kernel_rfl, ?h10⟩) (by assumption) ?r10
        case h10 => (intro w hSw; (try dsimp only at hSw); go_simp; try with_reducible rfl)
        try simp only [Act.put, List.setIfInBounds_toArray, List.set_cons_zero, List.set_cons_succ]
        refine wpAnyH_take (i := 1) (oi := { dst := some 72, op := Go.Op.move (Go.Operand.tmp 13), type := 3, pos := "law.go:121", after := #[], guard := none }) (v := ?v11) rfl (by kernel_rfl) (by kernel_rfl) (by kernel_rfl) (fun _ _ _ h => h) (Or.inl ⟨by kernel_rfl, ?h11⟩) (by assumption) ?r11
        case h11 => (intro w hSw; (try dsimp only at hSw); go_simp; try with_reducible rfl)
        try simp only [Act.put, List.setIfInBounds_toArray, List.set_cons_zero, List.set_cons_succ]
        refine wpAnyH_take (i := 2) (oi := { dst := some 73, op := Go.Op.binOp Go.BinOp.sub 3 (Go.Operand.tmp 72) (Go.Operand.const (Go.Value.int Go.IntKind.i64 1)) 3, type := 3, pos := "law.go:121", after := #[{ on := 1, ground := Go.Ground.data }], guard := none }) (v := ?v12) rfl (by kernel_rfl) (by kernel_rfl) (by kernel_rfl) (fun _ _ _ h => h) (Or.inl ⟨by kernel_rfl, ?h12⟩) (by assumption) ?r12
        case h12 => (intro w hSw; (try dsimp only at hSw); go_simp; try with_reducible rfl)
        try simp only [Act.put, List.setIfInBounds_toArray, List.set_cons_zero, List.set_cons_succ]
        refine wpAnyH_take (i := 3) (oi := { dst := some 74, op := Go.Op.indexAddr 24 (Go.Operand.tmp 71) (Go.Operand.tmp 73), type := 0, pos := "law.go:121", after := #[{ on := 0, ground := Go.Ground.data }, { on := 2, ground := Go.Ground.data }], guard := none }) (v := ?v13) rfl (by kernel_rfl) (by kernel_rfl) (by kernel_rfl) (fun _ _ _ h => h) (Or.inl ⟨by kernel_rfl, ?h13⟩) (by assumption) ?r13
        case h13 => (intro w hSw; (try dsimp only at hSw); go_simp; try with_reducible rfl)
        try simp only [Act.put, List.setIfInBounds_toArray, List.set_cons_zero, List.set_cons_succ]
        refine wpAnyH_take (i := 4) (oi := { dst := some 75, op := Go.Op.load 23 (Go.Operand.tmp 74), type := 23, pos := "law.go:121", after := #[{ on := 3, ground := Go.Ground.data }], guard := none }) (v := ?v14) rfl (by kernel_rfl) (by kernel_rfl) (by kernel_rfl) (fun _ _ _ h => h) (Or.inl ⟨by kernel_rfl, ?h14⟩) (by assumption) ?r14
        case h14 => (intro w hSw; (try dsimp only at hSw); go_simp; try with_reducible rfl)
        try simp only [Act.put, List.setIfInBounds_toArray, List.set_cons_zero, List.set_cons_succ]
        refine wpAnyH_take (i := 5) (oi := { dst := some 76, op := Go.Op.move (Go.Operand.tmp 12), type := 24, pos := "law.go:121", after := #[], guard := none }) (v := ?v15) rfl (by kernel_rfl) (by kernel_rfl) (by kernel_rfl) (fun _ _ _ h => h) (Or.inl ⟨by kernel_rfl, ?h15⟩) (by assumption) ?r15
        case h15 => (intro w hSw; (try dsimp only at hSw); go_simp; try with_reducible rfl)
        try simp only [Act.put, List.setIfInBounds_toArray, List.set_cons_zero, List.set_cons_succ]
        refine wpAnyH_take (i := 6) (oi := { dst := some 77, op := Go.Op.move (Go.Operand.tmp 13), type := 3, pos := "law.go:121", after := #[], guard := none }) (v := ?v16) rfl (by kernel_rfl) (by kernel_rfl) (by kernel_rfl) (fun _ _ _ h => h) (Or.inl ⟨by kernel_rfl, ?h16⟩) (by assumption) ?r16
        case h16 => (intro w hSw; (try dsimp only at hSw); go_simp; try with_reducible rfl)
        try simp only [Act.put, List.setIfInBounds_toArray, List.set_cons_zero, List.set_cons_succ]
        refine wpAnyH_take (i := 7) (oi := { dst := some 78, op := Go.Op.indexAddr 24 (Go.Operand.tmp 76) (Go.Operand.tmp 77), type := 0, pos := "law.go:121", after := #[{ on := 5, ground := Go.Ground.data }, { on := 6, ground := Go.Ground.data }], guard := none }) (v := ?v17) rfl (by kernel_rfl) (by kernel_rfl) (by kernel_rfl) (fun _ _ _ h => h) (Or.inl ⟨by kernel_rfl, ?h17⟩) (by assumption) ?r17
        case h17 => (intro w hSw; (try dsimp only at hSw); go_simp; try with_reducible rfl)
        try simp only [Act.put, List.setIfInBounds_toArray, List.set_cons_zero, List.set_cons_succ]
        refine wpAnyH_take (i := 8) (oi := { dst := some 79, op := Go.Op.load 23 (Go.Operand.tmp 78), type := 23, pos := "law.go:121", after := #[{ on := 7, ground := Go.Ground.data }], guard := none }) (v := ?v18) rfl (by kernel_rfl) (by kernel_rfl) (by kernel_rfl) (fun _ _ _ h => h) (Or.inl ⟨by kernel_rfl, ?h18⟩) (by assumption) ?r18
        case h18 => (intro w hSw; (try dsimp only at hSw); go_simp; try with_reducible rfl)
        try simp only [Act.put, List.setIfInBounds_toArray, List.set_cons_zero, List.set_cons_succ]
        refine wpAnyH_ready (rs := [9]) (by kernel_rfl) (by simp) ?_
        refine AllReadyH.cons (o := { dst := some 80, op := Go.Op.call { callee := Go.Callee.value (Go.Operand.func 11), args := #[Go.Operand.tmp 75, Go.Operand.tmp 79], argTypes := #[23, 23] }, type := 3, pos := "law.go:121", after := #[{ on := 4, ground := Go.Ground.data }, { on := 8, ground := Go.Ground.data }], guard := none }) rfl (fun K hK => ?_) AllReadyH.nil
        go_simp
        with_reducible refine (q.out _).mono ?_
        rintro e v9 ⟨rfl, b9⟩
        go_simp
        refine hK.out _ _ (hHeld.trans (b9.mono hHeld.size)) (fun hHeld => ?_)
        clear hK K
        try simp only [Act.put, List.setIfInBounds_toArray, List.set_cons_zero, List.set_cons_succ]
        refine wpAnyH_take (i := 10) (oi := { dst := some 81, op := Go.Op.binOp Go.BinOp.gtr 3 (Go.Operand.tmp 80) (Go.Operand.const (Go.Value.int Go.IntKind.i64 0)) 3, type := 4, pos := "law.go:121", after := #[{ on := 9, ground := Go.Ground.data }], guard := none }) (v := ?v19) rfl (by kernel_rfl) (by kernel_rfl) (by kernel_rfl) (fun _ _ _ h => h) (Or.inl ⟨by kernel_rfl, ?h19⟩) (by assumption) ?r19
        case h19 => (intro w hSw; (try dsimp only at hSw); go_simp; try with_reducible rfl)
        try simp only [Act.put, List.setIfInBounds_toArray, List.set_cons_zero, List.set_cons_succ]
        refine wpAnyH_done (by kernel_rfl) ?_ _
        have hB2 := Lib.hid (hB.out.trans (hHeld.mono hB.out.size))
        clear hHeld b9 q p0 p1 p2 p3 p4 p5 r0 r1 r2 r3 r4 r5
        go_wp2
        go_roundw
        case rel => exact ⟨i + 1, by omega, by go_num, hB2⟩
        case measure => simp [intOf]; omega
      · have hii : ¬ (i : Int) < (n : Int) := by omega
        have RSg := Lib.hid (RS.out.below hB.out)
        have BLg := Lib.hid (BL.out.trans (hB.out.mono BL.out.size))
        clear hsp QC2 hB RS BL
        go_wp2_with fail
        with_reducible refine (QS2.out _ _ _ RSg.out).mono ?_
        rintro e u2 ⟨sa2, sc2, rfl, hs2, b2⟩
        have qq := Lib.hid (QM.out _ S n _ _ _ _ hs2 (RSg.out.below b2))
        have BL2 := Lib.hid (BLg.out.trans (b2.mono BLg.out.size))
        clear b2 hs2 QS2 QM
        go_wp2_with fail
        with_reducible refine qq.out.mono ?_
        rintro e u3 ⟨rfl, b3⟩
        have hfin := Lib.hid (BL2.out.trans (b3.mono BL2.out.size))
        clear b3 qq
        go_wp2
        go_ret
        exact ⟨rfl, hfin.out⟩
theorem alarmOrder_walk (w : World) (ht : Tab w) (ak : Int) (ha0 : (Lit.int .i64 ak).wf = true) (asv : Int) (ha1 : (Lit.int .i64 asv).wf = true) (af : ByteArray) (ha2 : af.size ≤ 9223372036854775807) (qa2 : af.size ≤ 140737488351232) (afi : ByteArray) (ha3 : afi.size ≤ 9223372036854775807) (qa3 : afi.size ≤ 140737488351232) (al : Int) (ha4 : (Lit.int .i64 al).wf = true) (ax : ByteArray) (ha5 : ax.size ≤ 9223372036854775807) (qa5 : ax.size ≤ 140737488351232) (bk : Int) (hb0 : (Lit.int .i64 bk).wf = true) (bsv : Int) (hb1 : (Lit.int .i64 bsv).wf = true) (bf : ByteArray) (hb2 : bf.size ≤ 9223372036854775807) (qb2 : bf.size ≤ 140737488351232) (bfi : ByteArray) (hb3 : bfi.size ≤ 9223372036854775807) (qb3 : bfi.size ≤ 140737488351232) (bl : Int) (hb4 : (Lit.int .i64 bl).wf = true) (bx : ByteArray) (hb5 : bx.size ≤ 9223372036854775807) (qb5 : bx.size ≤ 140737488351232) (ck : Int) (hc0 : (Lit.int .i64 ck).wf = true) (csv : Int) (hc1 : (Lit.int .i64 csv).wf = true) (cf : ByteArray) (hc2 : cf.size ≤ 9223372036854775807) (qc2 : cf.size ≤ 140737488351232) (cfi : ByteArray) (hc3 : cfi.size ≤ 9223372036854775807) (qc3 : cfi.size ≤ 140737488351232) (cl : Int) (hc4 : (Lit.int .i64 cl).wf = true) (cx : ByteArray) (hc5 : cx.size ≤ 9223372036854775807) (qc5 : cx.size ≤ 140737488351232) (sl : Option Addr) (n c : Nat) (row : AlSl w sl n c) :
    Calls Tryz.prog 6 #[.agg #[.int .i64 ak, .int .i64 asv, .string af, .string afi, .int .i64 al, .string ax], .agg #[.int .i64 bk, .int .i64 bsv, .string bf, .string bfi, .int .i64 bl, .string bx], .agg #[.int .i64 ck, .int .i64 csv, .string cf, .string cfi, .int .i64 cl, .string cx], .slice sl n c] w (Gives (.bool true) w) :=
  alarmOrder_all w ht ak asv al af afi ax bk bsv bl bf bfi bx ck csv cl cf cfi cx ⟨ha0, ha1, qa2, qa3, ha4, qa5⟩ ⟨hb0, hb1, qb2, qb3, hb4, qb5⟩ ⟨hc0, hc1, qc2, qc3, hc4, qc5⟩ sl n c row
end Go.Proofs.YtimgocfkogebmaaGreatDoor
