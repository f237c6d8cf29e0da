/-
  Words and walks under the law's proof.
-/
import Derived.Test.YtpchncpcckfghaaGreatQM05
import Derived.Test.YtpchncpcckfghaaGreatQM06
import Derived.Test.YtpchncpcckfghaaGreatQM07
import Derived.Test.YtpchncpcckfghaaGreatQM09
import Derived.Test.YtpchncpcckfghaaGreatQM10
namespace Go.Proofs.YtpchncpcckfghaaGreat
open Go.RowKit
set_option linter.unusedVariables false
set_option linter.unusedSimpArgs false
def rkF (l : List AlD) (i k : Nat) : Nat := (List.range k).countP fun j => aheadB cmpA l al0 j i && decide (keyA (l.getD j al0) = keyA (l.getD i al0))
theorem rkF_le (l : List AlD) (i k : Nat) : rkF l i k ≤ k := by
  unfold rkF
  exact Nat.le_trans List.countP_le_length (by simp)
theorem rkF_step (l : List AlD) (i k : Nat) : rkF l i (k + 1) = rkF l i k + (if (aheadB cmpA l al0 k i && decide (keyA (l.getD k al0) = keyA (l.getD i al0))) = true then 1 else 0) := by
  unfold rkF
  rw [List.range_succ, List.countP_append, List.countP_cons, List.countP_nil]
  simp
theorem key_test (a b : AlD) : ((strOfNums (keyA a)).toList == (strOfNums (keyA b)).toList) = decide (keyA a = keyA b) := by
  by_cases h : keyA a = keyA b
  · rw [h]; simp
  · rw [decide_eq_false h]; exact str_ne (keyA_bs _) (keyA_bs _) h
set_option maxRecDepth 100000 in
set_option maxHeartbeats 8000000 in
theorem rrank_any (l : List AlD) (a : Option Addr) (n c : Nat) (w : World) (h : RO alC w a n c l) (hW : ∀ s ∈ l, alW s) (hS : ∀ s ∈ l, smallA s) (i : Nat) (hi : i < n) (hn : n ≤ 100) :
    Calls Tryz.prog 49 #[.slice a n c, .int .i64 i] w (Gives (.int .i64 (rankA l i : Int)) w) := by
  have hlen := h.len
  have hm : (n : Int) ≤ 100 := by omega
  have hii : (i : Int) < (n : Int) := by omega
  have hRO := Lib.hid h
  have hend : Hid (rkF l i n = rankA l i) := Lib.hid (by rw [hlen]; rfl)
  have hst := Lib.hid (rkF_step l i)
  have hle := Lib.hid (rkF_le l i)
  have hg : Hid (∀ j, j < n → alW (l.getD j al0) ∧ smallA (l.getD j al0)) := Lib.hid (fun j hj => by
    have q : l.getD j al0 ∈ l := (by rw [hlen] at hj; simp [List.getD, hj])
    exact ⟨hW _ q, hS _ q⟩)
  clear h hW hS hlen
  go_enter Tryz.func49, Tryz.ntmps49
  go_wp2
  go_loopw [5, 6] (fun x y wr => ∃ k : Nat, k ≤ n ∧ x = .int .i64 (rkF l i k : Nat) ∧ y = .int .i64 k ∧ Hid (Below w.heap.size w wr)) (fun _ y _ => n - (intOf y).toNat)
  case atStart => exact ⟨0, Nat.zero_le _, rfl, rfl, Lib.hid (Below.refl _ _)⟩
  case round =>
    obtain ⟨k, hk, rfl, rfl, hB⟩ := hrel
    generalize wr = u0 at *
    by_cases hlt : k < n
    · have hki : (k : Int) < (n : Int) := by omega
      have hR := hRO.out.below hB.out
      obtain ⟨b, off, rfl, hlb, x0, x1, x2, x3, x4, x5⟩ := al_at hR hlt
      obtain ⟨b', off', hbb, -, z0, z1, z2, z3, z4, z5⟩ := al_at hR hi
      injection hbb with hbb
      injection hbb with hb1 hb2
      subst hb1 hb2
      obtain ⟨⟨wk, -⟩, smk⟩ := hg.out k hlt
      obtain ⟨⟨wi, -⟩, smi⟩ := hg.out i hi
      have q1 := Lib.hid (fun W => acmp_any (l.getD k al0) (l.getD i al0) W)
      have q2 := Lib.hid (fun W => rfkey_any (l.getD k al0) wk smk W)
      have q3 := Lib.hid (fun W => rfkey_any (l.getD i al0) wi smi W)
      have ht := key_test (l.getD k al0) (l.getD i al0)
      have hs := hst.out k
      have hah : aheadB cmpA l al0 k i = (decide (cmpA (l.getD k al0) (l.getD i al0) < 0) || (decide (cmpA (l.getD k al0) (l.getD i al0) = 0) && decide (k < i))) := rfl
      rw [hah] at hs
      have hlek := hle.out k
      clear hR wk wi smk smi hah
      have y0 : ∀ W, Below u0.heap.size u0 W → W.cell? ⟨b, off + k * 6, none⟩ = some (.int .i64 (l.getD k al0).kind) := fun W hW => (hW.cell (p := ⟨b, off + k * 6, none⟩) hlb).trans x0
      have y1 : ∀ W, Below u0.heap.size u0 W → W.cell? ⟨b, off + k * 6 + 1, none⟩ = some (.int .i64 (l.getD k al0).sev) := fun W hW => (hW.cell (p := ⟨b, off + k * 6 + 1, none⟩) hlb).trans x1
      have y2 : ∀ W, Below u0.heap.size u0 W → W.cell? ⟨b, off + k * 6 + 2, none⟩ = some (.string (l.getD k al0).fn) := fun W hW => (hW.cell (p := ⟨b, off + k * 6 + 2, none⟩) hlb).trans x2
      have y3 : ∀ W, Below u0.heap.size u0 W → W.cell? ⟨b, off + k * 6 + 3, none⟩ = some (.string (l.getD k al0).file) := fun W hW => (hW.cell (p := ⟨b, off + k * 6 + 3, none⟩) hlb).trans x3
      have y4 : ∀ W, Below u0.heap.size u0 W → W.cell? ⟨b, off + k * 6 + 4, none⟩ = some (.int .i64 (l.getD k al0).line) := fun W hW => (hW.cell (p := ⟨b, off + k * 6 + 4, none⟩) hlb).trans x4
      have y5 : ∀ W, Below u0.heap.size u0 W → W.cell? ⟨b, off + k * 6 + 5, none⟩ = some (.string (l.getD k al0).expr) := fun W hW => (hW.cell (p := ⟨b, off + k * 6 + 5, none⟩) hlb).trans x5
      have p0 : ∀ W, Below u0.heap.size u0 W → W.cell? ⟨b, off + i * 6, none⟩ = some (.int .i64 (l.getD i al0).kind) := fun W hW => (hW.cell (p := ⟨b, off + i * 6, none⟩) hlb).trans z0
      have p1 : ∀ W, Below u0.heap.size u0 W → W.cell? ⟨b, off + i * 6 + 1, none⟩ = some (.int .i64 (l.getD i al0).sev) := fun W hW => (hW.cell (p := ⟨b, off + i * 6 + 1, none⟩) hlb).trans z1
      have p2 : ∀ W, Below u0.heap.size u0 W → W.cell? ⟨b, off + i * 6 + 2, none⟩ = some (.string (l.getD i al0).fn) := fun W hW => (hW.cell (p := ⟨b, off + i * 6 + 2, none⟩) hlb).trans z2
      have p3 : ∀ W, Below u0.heap.size u0 W → W.cell? ⟨b, off + i * 6 + 3, none⟩ = some (.string (l.getD i al0).file) := fun W hW => (hW.cell (p := ⟨b, off + i * 6 + 3, none⟩) hlb).trans z3
      have p4 : ∀ W, Below u0.heap.size u0 W → W.cell? ⟨b, off + i * 6 + 4, none⟩ = some (.int .i64 (l.getD i al0).line) := fun W hW => (hW.cell (p := ⟨b, off + i * 6 + 4, none⟩) hlb).trans z4
      have p5 : ∀ W, Below u0.heap.size u0 W → W.cell? ⟨b, off + i * 6 + 5, none⟩ = some (.string (l.getD i al0).expr) := fun W hW => (hW.cell (p := ⟨b, off + i * 6 + 5, none⟩) hlb).trans z5
      clear x0 x1 x2 x3 x4 x5 z0 z1 z2 z3 z4 z5
      obtain ⟨r1, hr1⟩ : ∃ r1, r1 = rkF l i (k + 1) := ⟨_, rfl⟩
      rw [← hr1] at hs
      have hr1' := Lib.hid hr1
      clear hr1
      generalize rkF l i k = r0 at *
      generalize cmpA (l.getD k al0) (l.getD i al0) = cv at *
      generalize decide (keyA (l.getD k al0) = keyA (l.getD i al0)) = bq at *
      generalize strOfNums (keyA (l.getD k al0)) = s1 at *
      generalize strOfNums (keyA (l.getD i al0)) = s2 at *
      generalize l.getD k al0 = A at *
      generalize l.getD i al0 = B at *
      obtain ⟨ak, av, af, ai, al, ax⟩ := A
      obtain ⟨bk, bv, bf, bi, bl, bx⟩ := B
      dsimp only at *
      have hr0 : (r0 : Int) ≤ 100 := by omega
      have hs' := Lib.hid hs
      clear hs hlek
      have go1 : ∀ (V : World) (hV : Hid (Below u0.heap.size u0 V)) (r : Nat), Hid (r = r1) → Hid (Below w.heap.size w V) := fun V hV r hr => Lib.hid (hB.out.trans (hV.out.mono hB.out.size))
      have go1' := Lib.hid go1
      clear go1
      by_cases hneg : cv < 0
      · have hne : (cv == 0) = false := by rw [beq_eq_false_iff_ne]; omega
        cases bq with
        | true =>
          have hr : Hid (r0 + 1 = r1) := Lib.hid (by rw [hs'.out, decide_eq_true hneg]; simp)
          clear hs' hst
          go_wp2
          refine wp_drawn_on (fun W => Below u0.heap.size u0 W) (by kernel_rfl) ((Below.refl _ _).drew) (fun hHeld => ?_)
          refine wT 0 (v := ?v1) rfl (by kernel_rfl) (fun _ _ _ h => h) ?h1 (by assumption) ?r1
          case h1 => (intro w hSw; (try dsimp only at hSw); go_simp; try with_reducible rfl)
          refine wT 1 (v := ?v2) rfl (by kernel_rfl) (fun _ _ _ h => h) ?h2 (by assumption) ?r2
          case h2 => (intro w hSw; (try dsimp only at hSw); go_simp; try with_reducible rfl)
          refine wT 2 (v := ?v3) rfl (by kernel_rfl) (fun _ _ _ h => h) ?h3 (by assumption) ?r3
          case h3 => (intro w hSw; (try dsimp only at hSw); go_simp; try with_reducible rfl)
          refine wT 3 (v := ?v4) rfl (by kernel_rfl) (fun _ _ _ h => h) ?h4 (by assumption) ?r4
          case h4 => (intro w hSw; (try dsimp only at hSw); go_simp; try with_reducible rfl)
          refine wT 4 (v := ?v5) rfl (by kernel_rfl) (fun _ _ _ h => h) ?h5 (by assumption) ?r5
          case h5 => (intro w hSw; (try dsimp only at hSw); go_simp; try with_reducible rfl)
          refine wT 5 (v := ?v6) rfl (by kernel_rfl) (fun _ _ _ h => h) ?h6 (by assumption) ?r6
          case h6 => (intro w hSw; (try dsimp only at hSw); go_simp; try with_reducible rfl)
          refine wT 6 (v := ?v7) rfl (by kernel_rfl) (fun _ _ _ h => h) ?h7 (by assumption) ?r7
          case h7 => (intro w hSw; (try dsimp only at hSw); go_simp; try with_reducible rfl)
          refine wT 7 (v := ?v8) rfl (by kernel_rfl) (fun _ _ _ h => h) ?h8 (by assumption) ?r8
          case h8 => (intro w hSw; (try dsimp only at hSw); go_simp; try with_reducible rfl)
          try simp only [Act.put, List.setIfInBounds_toArray, List.set_cons_zero, List.set_cons_succ]
          refine wpAnyH_ready (rs := [8]) (by kernel_rfl) (by simp) ?_
          refine AllReadyH.cons (o := ⟨_, _, _, _, _, _⟩) rfl (fun K hK => ?_) AllReadyH.nil
          go_simp
          with_reducible refine (q1.out _).mono ?_
          rintro e u1 ⟨rfl, b1⟩
          go_simp
          refine hK.out _ _ (hHeld.trans (b1.mono hHeld.size)) (fun hHeld => ?_)
          clear hK K
          refine wT 9 (v := ?v9) rfl (by kernel_rfl) (fun _ _ _ h => h) ?h9 (by assumption) ?r9
          case h9 => (intro w hSw; (try dsimp only at hSw); go_simp; try with_reducible rfl)
          try simp only [Act.put, List.setIfInBounds_toArray, List.set_cons_zero, List.set_cons_succ]
          refine wpAnyH_done (by kernel_rfl) ?_ _
          have hX2 : Below u0.heap.size u0 u1 := hHeld
          clear hHeld b1 q1
          go_wp2
          refine wp_drawn_on (fun W => Below u0.heap.size u0 W) (by kernel_rfl) (hX2.drew) (fun hHeld => ?_)
          refine wT 0 (v := ?v10) rfl (by kernel_rfl) (fun _ _ _ h => h) ?h10 (by assumption) ?r10
          case h10 => (intro w hSw; (try dsimp only at hSw); go_simp; try with_reducible rfl)
          refine wT 1 (v := ?v11) rfl (by kernel_rfl) (fun _ _ _ h => h) ?h11 (by assumption) ?r11
          case h11 => (intro w hSw; (try dsimp only at hSw); go_simp; try with_reducible rfl)
          refine wT 2 (v := ?v12) rfl (by kernel_rfl) (fun _ _ _ h => h) ?h12 (by assumption) ?r12
          case h12 => (intro w hSw; (try dsimp only at hSw); go_simp; try with_reducible rfl)
          refine wS 3 rfl (by kernel_rfl) (fun _ _ _ h => h) (by assumption) ?_
          refine wS 4 rfl (by kernel_rfl) (fun _ _ _ h => h) (by assumption) ?_
          refine wS 5 rfl (by kernel_rfl) (fun _ _ _ h => h) (by assumption) ?_
          refine wS 6 rfl (by kernel_rfl) (fun _ _ _ h => h) (by assumption) ?_
          refine wS 7 rfl (by kernel_rfl) (fun _ _ _ h => h) (by assumption) ?_
          refine wS 8 rfl (by kernel_rfl) (fun _ _ _ h => h) (by assumption) ?_
          refine wS 9 rfl (by kernel_rfl) (fun _ _ _ h => h) (by assumption) ?_
          refine wT 10 (v := ?v20) rfl (by kernel_rfl) (fun _ _ _ h => h) ?h20 (by assumption) ?r20
          case h20 => (intro w hSw; (try dsimp only at hSw); go_simp; try with_reducible rfl)
          refine wT 11 (v := ?v21) rfl (by kernel_rfl) (fun _ _ _ h => h) ?h21 (by assumption) ?r21
          case h21 => (intro w hSw; (try dsimp only at hSw); go_simp; try with_reducible rfl)
          refine wT 12 (v := ?v22) rfl (by kernel_rfl) (fun _ _ _ h => h) ?h22 (by assumption) ?r22
          case h22 => (intro w hSw; (try dsimp only at hSw); go_simp; try with_reducible rfl)
          refine wT 13 (v := ?v23) rfl (by kernel_rfl) (fun _ _ _ h => h) ?h23 (by assumption) ?r23
          case h23 => (intro w hSw; (try dsimp only at hSw); go_simp; try with_reducible rfl)
          refine wT 14 (v := ?v24) rfl (by kernel_rfl) (fun _ _ _ h => h) ?h24 (by assumption) ?r24
          case h24 => (intro w hSw; (try dsimp only at hSw); go_simp; try with_reducible rfl)
          refine wT 15 (v := ?v25) rfl (by kernel_rfl) (fun _ _ _ h => h) ?h25 (by assumption) ?r25
          case h25 => (intro w hSw; (try dsimp only at hSw); go_simp; try with_reducible rfl)
          refine wT 17 (v := ?v26) rfl (by kernel_rfl) (fun _ _ _ h => h) ?h26 (by assumption) ?r26
          case h26 => (intro w hSw; (try dsimp only at hSw); go_simp; try with_reducible rfl)
          refine wT 18 (v := ?v27) rfl (by kernel_rfl) (fun _ _ _ h => h) ?h27 (by assumption) ?r27
          case h27 => (intro w hSw; (try dsimp only at hSw); go_simp; try with_reducible rfl)
          refine wT 19 (v := ?v28) rfl (by kernel_rfl) (fun _ _ _ h => h) ?h28 (by assumption) ?r28
          case h28 => (intro w hSw; (try dsimp only at hSw); go_simp; try with_reducible rfl)
          refine wT 20 (v := ?v29) rfl (by kernel_rfl) (fun _ _ _ h => h) ?h29 (by assumption) ?r29
          case h29 => (intro w hSw; (try dsimp only at hSw); go_simp; try with_reducible rfl)
          try simp only [Act.put, List.setIfInBounds_toArray, List.set_cons_zero, List.set_cons_succ]
          refine wpAnyH_ready (rs := [16]) (by kernel_rfl) (by simp) ?_
          refine AllReadyH.cons (o := ⟨_, _, _, _, _, _⟩) rfl (fun K hK => ?_) AllReadyH.nil
          go_simp
          with_reducible refine (q2.out _).mono ?_
          rintro e u2 ⟨rfl, b2⟩
          go_simp
          refine hK.out _ _ (hHeld.trans (b2.mono hHeld.size)) (fun hHeld => ?_)
          clear hK K
          try simp only [Act.put, List.setIfInBounds_toArray, List.set_cons_zero, List.set_cons_succ]
          refine wpAnyH_ready (rs := [21]) (by kernel_rfl) (by simp) ?_
          refine AllReadyH.cons (o := ⟨_, _, _, _, _, _⟩) rfl (fun K hK => ?_) AllReadyH.nil
          go_simp
          with_reducible refine (q3.out _).mono ?_
          rintro e u3 ⟨rfl, b3⟩
          go_simp
          refine hK.out _ _ (hHeld.trans (b3.mono hHeld.size)) (fun hHeld => ?_)
          clear hK K
          refine wT 22 (v := ?v30) rfl (by kernel_rfl) (fun _ _ _ h => h) ?h30 (by assumption) ?r30
          case h30 => (intro w hSw; (try dsimp only at hSw); go_simp; try with_reducible rfl)
          refine wT 23 (v := ?v31) rfl (by kernel_rfl) (fun _ _ _ h => h) ?h31 (by assumption) ?r31
          case h31 => (intro w hSw; (try dsimp only at hSw); go_simp; try with_reducible rfl)
          try simp only [Act.put, List.setIfInBounds_toArray, List.set_cons_zero, List.set_cons_succ]
          refine wpAnyH_done (by kernel_rfl) ?_ _
          have hY := go1'.out _ (Lib.hid hHeld) r1 (Lib.hid rfl)
          clear hHeld hX2 go1'
          go_wp2
          go_roundw
          case rel => exact ⟨k + 1, by omega, by rw [← hr1'.out, ← hr.out] <;> first | rfl | go_num, by go_num, hY⟩
          case measure => simp [intOf]; omega
        | false =>
          have hr : Hid (r0 = r1) := Lib.hid (by rw [hs'.out, decide_eq_true hneg]; simp)
          clear hs' hst
          go_wp2
          refine wp_drawn_on (fun W => Below u0.heap.size u0 W) (by kernel_rfl) ((Below.refl _ _).drew) (fun hHeld => ?_)
          refine wT 0 (v := ?v32) rfl (by kernel_rfl) (fun _ _ _ h => h) ?h32 (by assumption) ?r32
          case h32 => (intro w hSw; (try dsimp only at hSw); go_simp; try with_reducible rfl)
          refine wT 1 (v := ?v33) rfl (by kernel_rfl) (fun _ _ _ h => h) ?h33 (by assumption) ?r33
          case h33 => (intro w hSw; (try dsimp only at hSw); go_simp; try with_reducible rfl)
          refine wT 2 (v := ?v34) rfl (by kernel_rfl) (fun _ _ _ h => h) ?h34 (by assumption) ?r34
          case h34 => (intro w hSw; (try dsimp only at hSw); go_simp; try with_reducible rfl)
          refine wT 3 (v := ?v35) rfl (by kernel_rfl) (fun _ _ _ h => h) ?h35 (by assumption) ?r35
          case h35 => (intro w hSw; (try dsimp only at hSw); go_simp; try with_reducible rfl)
          refine wT 4 (v := ?v36) rfl (by kernel_rfl) (fun _ _ _ h => h) ?h36 (by assumption) ?r36
          case h36 => (intro w hSw; (try dsimp only at hSw); go_simp; try with_reducible rfl)
          refine wT 5 (v := ?v37) rfl (by kernel_rfl) (fun _ _ _ h => h) ?h37 (by assumption) ?r37
          case h37 => (intro w hSw; (try dsimp only at hSw); go_simp; try with_reducible rfl)
          refine wT 6 (v := ?v38) rfl (by kernel_rfl) (fun _ _ _ h => h) ?h38 (by assumption) ?r38
          case h38 => (intro w hSw; (try dsimp only at hSw); go_simp; try with_reducible rfl)
          refine wT 7 (v := ?v39) rfl (by kernel_rfl) (fun _ _ _ h => h) ?h39 (by assumption) ?r39
          case h39 => (intro w hSw; (try dsimp only at hSw); go_simp; try with_reducible rfl)
          try simp only [Act.put, List.setIfInBounds_toArray, List.set_cons_zero, List.set_cons_succ]
          refine wpAnyH_ready (rs := [8]) (by kernel_rfl) (by simp) ?_
          refine AllReadyH.cons (o := ⟨_, _, _, _, _, _⟩) rfl (fun K hK => ?_) AllReadyH.nil
          go_simp
          with_reducible refine (q1.out _).mono ?_
          rintro e u1 ⟨rfl, b1⟩
          go_simp
          refine hK.out _ _ (hHeld.trans (b1.mono hHeld.size)) (fun hHeld => ?_)
          clear hK K
          refine wT 9 (v := ?v40) rfl (by kernel_rfl) (fun _ _ _ h => h) ?h40 (by assumption) ?r40
          case h40 => (intro w hSw; (try dsimp only at hSw); go_simp; try with_reducible rfl)
          try simp only [Act.put, List.setIfInBounds_toArray, List.set_cons_zero, List.set_cons_succ]
          refine wpAnyH_done (by kernel_rfl) ?_ _
          have hX2 : Below u0.heap.size u0 u1 := hHeld
          clear hHeld b1 q1
          go_wp2
          refine wp_drawn_on (fun W => Below u0.heap.size u0 W) (by kernel_rfl) (hX2.drew) (fun hHeld => ?_)
          refine wT 0 (v := ?v41) rfl (by kernel_rfl) (fun _ _ _ h => h) ?h41 (by assumption) ?r41
          case h41 => (intro w hSw; (try dsimp only at hSw); go_simp; try with_reducible rfl)
          refine wT 1 (v := ?v42) rfl (by kernel_rfl) (fun _ _ _ h => h) ?h42 (by assumption) ?r42
          case h42 => (intro w hSw; (try dsimp only at hSw); go_simp; try with_reducible rfl)
          refine wT 2 (v := ?v43) rfl (by kernel_rfl) (fun _ _ _ h => h) ?h43 (by assumption) ?r43
          case h43 => (intro w hSw; (try dsimp only at hSw); go_simp; try with_reducible rfl)
          refine wS 3 rfl (by kernel_rfl) (fun _ _ _ h => h) (by assumption) ?_
          refine wS 4 rfl (by kernel_rfl) (fun _ _ _ h => h) (by assumption) ?_
          refine wS 5 rfl (by kernel_rfl) (fun _ _ _ h => h) (by assumption) ?_
          refine wS 6 rfl (by kernel_rfl) (fun _ _ _ h => h) (by assumption) ?_
          refine wS 7 rfl (by kernel_rfl) (fun _ _ _ h => h) (by assumption) ?_
          refine wS 8 rfl (by kernel_rfl) (fun _ _ _ h => h) (by assumption) ?_
          refine wS 9 rfl (by kernel_rfl) (fun _ _ _ h => h) (by assumption) ?_
          refine wT 10 (v := ?v51) rfl (by kernel_rfl) (fun _ _ _ h => h) ?h51 (by assumption) ?r51
          case h51 => (intro w hSw; (try dsimp only at hSw); go_simp; try with_reducible rfl)
          refine wT 11 (v := ?v52) rfl (by kernel_rfl) (fun _ _ _ h => h) ?h52 (by assumption) ?r52
          case h52 => (intro w hSw; (try dsimp only at hSw); go_simp; try with_reducible rfl)
          refine wT 12 (v := ?v53) rfl (by kernel_rfl) (fun _ _ _ h => h) ?h53 (by assumption) ?r53
          case h53 => (intro w hSw; (try dsimp only at hSw); go_simp; try with_reducible rfl)
          refine wT 13 (v := ?v54) rfl (by kernel_rfl) (fun _ _ _ h => h) ?h54 (by assumption) ?r54
          case h54 => (intro w hSw; (try dsimp only at hSw); go_simp; try with_reducible rfl)
          refine wT 14 (v := ?v55) rfl (by kernel_rfl) (fun _ _ _ h => h) ?h55 (by assumption) ?r55
          case h55 => (intro w hSw; (try dsimp only at hSw); go_simp; try with_reducible rfl)
          refine wT 15 (v := ?v56) rfl (by kernel_rfl) (fun _ _ _ h => h) ?h56 (by assumption) ?r56
          case h56 => (intro w hSw; (try dsimp only at hSw); go_simp; try with_reducible rfl)
          refine wT 17 (v := ?v57) rfl (by kernel_rfl) (fun _ _ _ h => h) ?h57 (by assumption) ?r57
          case h57 => (intro w hSw; (try dsimp only at hSw); go_simp; try with_reducible rfl)
          refine wT 18 (v := ?v58) rfl (by kernel_rfl) (fun _ _ _ h => h) ?h58 (by assumption) ?r58
          case h58 => (intro w hSw; (try dsimp only at hSw); go_simp; try with_reducible rfl)
          refine wT 19 (v := ?v59) rfl (by kernel_rfl) (fun _ _ _ h => h) ?h59 (by assumption) ?r59
          case h59 => (intro w hSw; (try dsimp only at hSw); go_simp; try with_reducible rfl)
          refine wT 20 (v := ?v60) rfl (by kernel_rfl) (fun _ _ _ h => h) ?h60 (by assumption) ?r60
          case h60 => (intro w hSw; (try dsimp only at hSw); go_simp; try with_reducible rfl)
          try simp only [Act.put, List.setIfInBounds_toArray, List.set_cons_zero, List.set_cons_succ]
          refine wpAnyH_ready (rs := [16]) (by kernel_rfl) (by simp) ?_
          refine AllReadyH.cons (o := ⟨_, _, _, _, _, _⟩) rfl (fun K hK => ?_) AllReadyH.nil
          go_simp
          with_reducible refine (q2.out _).mono ?_
          rintro e u2 ⟨rfl, b2⟩
          go_simp
          refine hK.out _ _ (hHeld.trans (b2.mono hHeld.size)) (fun hHeld => ?_)
          clear hK K
          try simp only [Act.put, List.setIfInBounds_toArray, List.set_cons_zero, List.set_cons_succ]
          refine wpAnyH_ready (rs := [21]) (by kernel_rfl) (by simp) ?_
          refine AllReadyH.cons (o := ⟨_, _, _, _, _, _⟩) rfl (fun K hK => ?_) AllReadyH.nil
          go_simp
          with_reducible refine (q3.out _).mono ?_
          rintro e u3 ⟨rfl, b3⟩
          go_simp
          refine hK.out _ _ (hHeld.trans (b3.mono hHeld.size)) (fun hHeld => ?_)
          clear hK K
          refine wT 22 (v := ?v61) rfl (by kernel_rfl) (fun _ _ _ h => h) ?h61 (by assumption) ?r61
          case h61 => (intro w hSw; (try dsimp only at hSw); go_simp; try with_reducible rfl)
          refine wT 23 (v := ?v62) rfl (by kernel_rfl) (fun _ _ _ h => h) ?h62 (by assumption) ?r62
          case h62 => (intro w hSw; (try dsimp only at hSw); go_simp; try with_reducible rfl)
          try simp only [Act.put, List.setIfInBounds_toArray, List.set_cons_zero, List.set_cons_succ]
          refine wpAnyH_done (by kernel_rfl) ?_ _
          have hY := go1'.out _ (Lib.hid hHeld) r1 (Lib.hid rfl)
          clear hHeld hX2 go1'
          go_wp2
          go_roundw
          case rel => exact ⟨k + 1, by omega, by rw [← hr1'.out, ← hr.out] <;> first | rfl | go_num, by go_num, hY⟩
          case measure => simp [intOf]; omega
      · by_cases hz : cv = 0
        · subst hz
          by_cases hki2 : k < i
          · have hki3 : (k : Int) < (i : Int) := by omega
            cases bq with
            | true =>
              have hr : Hid (r0 + 1 = r1) := Lib.hid (by rw [hs'.out, decide_eq_true hki2]; simp)
              clear hs' hst
              go_wp2
              refine wp_drawn_on (fun W => Below u0.heap.size u0 W) (by kernel_rfl) ((Below.refl _ _).drew) (fun hHeld => ?_)
              refine wT 0 (v := ?v63) rfl (by kernel_rfl) (fun _ _ _ h => h) ?h63 (by assumption) ?r63
              case h63 => (intro w hSw; (try dsimp only at hSw); go_simp; try with_reducible rfl)
              refine wT 1 (v := ?v64) rfl (by kernel_rfl) (fun _ _ _ h => h) ?h64 (by assumption) ?r64
              case h64 => (intro w hSw; (try dsimp only at hSw); go_simp; try with_reducible rfl)
              refine wT 2 (v := ?v65) rfl (by kernel_rfl) (fun _ _ _ h => h) ?h65 (by assumption) ?r65
              case h65 => (intro w hSw; (try dsimp only at hSw); go_simp; try with_reducible rfl)
              refine wT 3 (v := ?v66) rfl (by kernel_rfl) (fun _ _ _ h => h) ?h66 (by assumption) ?r66
              case h66 => (intro w hSw; (try dsimp only at hSw); go_simp; try with_reducible rfl)
              refine wT 4 (v := ?v67) rfl (by kernel_rfl) (fun _ _ _ h => h) ?h67 (by assumption) ?r67
              case h67 => (intro w hSw; (try dsimp only at hSw); go_simp; try with_reducible rfl)
              refine wT 5 (v := ?v68) rfl (by kernel_rfl) (fun _ _ _ h => h) ?h68 (by assumption) ?r68
              case h68 => (intro w hSw; (try dsimp only at hSw); go_simp; try with_reducible rfl)
              refine wT 6 (v := ?v69) rfl (by kernel_rfl) (fun _ _ _ h => h) ?h69 (by assumption) ?r69
              case h69 => (intro w hSw; (try dsimp only at hSw); go_simp; try with_reducible rfl)
              refine wT 7 (v := ?v70) rfl (by kernel_rfl) (fun _ _ _ h => h) ?h70 (by assumption) ?r70
              case h70 => (intro w hSw; (try dsimp only at hSw); go_simp; try with_reducible rfl)
              try simp only [Act.put, List.setIfInBounds_toArray, List.set_cons_zero, List.set_cons_succ]
              refine wpAnyH_ready (rs := [8]) (by kernel_rfl) (by simp) ?_
              refine AllReadyH.cons (o := ⟨_, _, _, _, _, _⟩) rfl (fun K hK => ?_) AllReadyH.nil
              go_simp
              with_reducible refine (q1.out _).mono ?_
              rintro e u1 ⟨rfl, b1⟩
              go_simp
              refine hK.out _ _ (hHeld.trans (b1.mono hHeld.size)) (fun hHeld => ?_)
              clear hK K
              refine wT 9 (v := ?v71) rfl (by kernel_rfl) (fun _ _ _ h => h) ?h71 (by assumption) ?r71
              case h71 => (intro w hSw; (try dsimp only at hSw); go_simp; try with_reducible rfl)
              try simp only [Act.put, List.setIfInBounds_toArray, List.set_cons_zero, List.set_cons_succ]
              refine wpAnyH_done (by kernel_rfl) ?_ _
              have hX2 : Below u0.heap.size u0 u1 := hHeld
              clear hHeld b1 q1
              go_wp2
              refine wp_drawn_on (fun W => Below u0.heap.size u0 W) (by kernel_rfl) (hX2.drew) (fun hHeld => ?_)
              refine wT 0 (v := ?v72) rfl (by kernel_rfl) (fun _ _ _ h => h) ?h72 (by assumption) ?r72
              case h72 => (intro w hSw; (try dsimp only at hSw); go_simp; try with_reducible rfl)
              refine wT 1 (v := ?v73) rfl (by kernel_rfl) (fun _ _ _ h => h) ?h73 (by assumption) ?r73
              case h73 => (intro w hSw; (try dsimp only at hSw); go_simp; try with_reducible rfl)
              refine wT 2 (v := ?v74) rfl (by kernel_rfl) (fun _ _ _ h => h) ?h74 (by assumption) ?r74
              case h74 => (intro w hSw; (try dsimp only at hSw); go_simp; try with_reducible rfl)
              refine wT 3 (v := ?v75) rfl (by kernel_rfl) (fun _ _ _ h => h) ?h75 (by assumption) ?r75
              case h75 => (intro w hSw; (try dsimp only at hSw); go_simp; try with_reducible rfl)
              refine wT 4 (v := ?v76) rfl (by kernel_rfl) (fun _ _ _ h => h) ?h76 (by assumption) ?r76
              case h76 => (intro w hSw; (try dsimp only at hSw); go_simp; try with_reducible rfl)
              refine wT 5 (v := ?v77) rfl (by kernel_rfl) (fun _ _ _ h => h) ?h77 (by assumption) ?r77
              case h77 => (intro w hSw; (try dsimp only at hSw); go_simp; try with_reducible rfl)
              refine wT 6 (v := ?v78) rfl (by kernel_rfl) (fun _ _ _ h => h) ?h78 (by assumption) ?r78
              case h78 => (intro w hSw; (try dsimp only at hSw); go_simp; try with_reducible rfl)
              refine wT 7 (v := ?v79) rfl (by kernel_rfl) (fun _ _ _ h => h) ?h79 (by assumption) ?r79
              case h79 => (intro w hSw; (try dsimp only at hSw); go_simp; try with_reducible rfl)
              refine wT 8 (v := ?v80) rfl (by kernel_rfl) (fun _ _ _ h => h) ?h80 (by assumption) ?r80
              case h80 => (intro w hSw; (try dsimp only at hSw); go_simp; try with_reducible rfl)
              refine wT 9 (v := ?v81) rfl (by kernel_rfl) (fun _ _ _ h => h) ?h81 (by assumption) ?r81
              case h81 => (intro w hSw; (try dsimp only at hSw); go_simp; try with_reducible rfl)
              refine wT 10 (v := ?v82) rfl (by kernel_rfl) (fun _ _ _ h => h) ?h82 (by assumption) ?r82
              case h82 => (intro w hSw; (try dsimp only at hSw); go_simp; try with_reducible rfl)
              refine wT 11 (v := ?v83) rfl (by kernel_rfl) (fun _ _ _ h => h) ?h83 (by assumption) ?r83
              case h83 => (intro w hSw; (try dsimp only at hSw); go_simp; try with_reducible rfl)
              refine wT 12 (v := ?v84) rfl (by kernel_rfl) (fun _ _ _ h => h) ?h84 (by assumption) ?r84
              case h84 => (intro w hSw; (try dsimp only at hSw); go_simp; try with_reducible rfl)
              refine wT 13 (v := ?v85) rfl (by kernel_rfl) (fun _ _ _ h => h) ?h85 (by assumption) ?r85
              case h85 => (intro w hSw; (try dsimp only at hSw); go_simp; try with_reducible rfl)
              refine wT 14 (v := ?v86) rfl (by kernel_rfl) (fun _ _ _ h => h) ?h86 (by assumption) ?r86
              case h86 => (intro w hSw; (try dsimp only at hSw); go_simp; try with_reducible rfl)
              refine wT 15 (v := ?v87) rfl (by kernel_rfl) (fun _ _ _ h => h) ?h87 (by assumption) ?r87
              case h87 => (intro w hSw; (try dsimp only at hSw); go_simp; try with_reducible rfl)
              refine wT 17 (v := ?v88) rfl (by kernel_rfl) (fun _ _ _ h => h) ?h88 (by assumption) ?r88
              case h88 => (intro w hSw; (try dsimp only at hSw); go_simp; try with_reducible rfl)
              refine wT 18 (v := ?v89) rfl (by kernel_rfl) (fun _ _ _ h => h) ?h89 (by assumption) ?r89
              case h89 => (intro w hSw; (try dsimp only at hSw); go_simp; try with_reducible rfl)
              refine wT 19 (v := ?v90) rfl (by kernel_rfl) (fun _ _ _ h => h) ?h90 (by assumption) ?r90
              case h90 => (intro w hSw; (try dsimp only at hSw); go_simp; try with_reducible rfl)
              refine wT 20 (v := ?v91) rfl (by kernel_rfl) (fun _ _ _ h => h) ?h91 (by assumption) ?r91
              case h91 => (intro w hSw; (try dsimp only at hSw); go_simp; try with_reducible rfl)
              try simp only [Act.put, List.setIfInBounds_toArray, List.set_cons_zero, List.set_cons_succ]
              refine wpAnyH_ready (rs := [16]) (by kernel_rfl) (by simp) ?_
              refine AllReadyH.cons (o := ⟨_, _, _, _, _, _⟩) rfl (fun K hK => ?_) AllReadyH.nil
              go_simp
              with_reducible refine (q2.out _).mono ?_
              rintro e u2 ⟨rfl, b2⟩
              go_simp
              refine hK.out _ _ (hHeld.trans (b2.mono hHeld.size)) (fun hHeld => ?_)
              clear hK K
              try simp only [Act.put, List.setIfInBounds_toArray, List.set_cons_zero, List.set_cons_succ]
              refine wpAnyH_ready (rs := [21]) (by kernel_rfl) (by simp) ?_
              refine AllReadyH.cons (o := ⟨_, _, _, _, _, _⟩) rfl (fun K hK => ?_) AllReadyH.nil
              go_simp
              with_reducible refine (q3.out _).mono ?_
              rintro e u3 ⟨rfl, b3⟩
              go_simp
              refine hK.out _ _ (hHeld.trans (b3.mono hHeld.size)) (fun hHeld => ?_)
              clear hK K
              refine wT 22 (v := ?v92) rfl (by kernel_rfl) (fun _ _ _ h => h) ?h92 (by assumption) ?r92
              case h92 => (intro w hSw; (try dsimp only at hSw); go_simp; try with_reducible rfl)
              refine wT 23 (v := ?v93) rfl (by kernel_rfl) (fun _ _ _ h => h) ?h93 (by assumption) ?r93
              case h93 => (intro w hSw; (try dsimp only at hSw); go_simp; try with_reducible rfl)
              try simp only [Act.put, List.setIfInBounds_toArray, List.set_cons_zero, List.set_cons_succ]
              refine wpAnyH_done (by kernel_rfl) ?_ _
              have hY := go1'.out _ (Lib.hid hHeld) r1 (Lib.hid rfl)
              clear hHeld hX2 go1'
              go_wp2
              go_roundw
              case rel => exact ⟨k + 1, by omega, by rw [← hr1'.out, ← hr.out] <;> first | rfl | go_num, by go_num, hY⟩
              case measure => simp [intOf]; omega
            | false =>
              have hr : Hid (r0 = r1) := Lib.hid (by rw [hs'.out, decide_eq_true hki2]; simp)
              clear hs' hst
              go_wp2
              refine wp_drawn_on (fun W => Below u0.heap.size u0 W) (by kernel_rfl) ((Below.refl _ _).drew) (fun hHeld => ?_)
              refine wT 0 (v := ?v94) rfl (by kernel_rfl) (fun _ _ _ h => h) ?h94 (by assumption) ?r94
              case h94 => (intro w hSw; (try dsimp only at hSw); go_simp; try with_reducible rfl)
              refine wT 1 (v := ?v95) rfl (by kernel_rfl) (fun _ _ _ h => h) ?h95 (by assumption) ?r95
              case h95 => (intro w hSw; (try dsimp only at hSw); go_simp; try with_reducible rfl)
              refine wT 2 (v := ?v96) rfl (by kernel_rfl) (fun _ _ _ h => h) ?h96 (by assumption) ?r96
              case h96 => (intro w hSw; (try dsimp only at hSw); go_simp; try with_reducible rfl)
              refine wT 3 (v := ?v97) rfl (by kernel_rfl) (fun _ _ _ h => h) ?h97 (by assumption) ?r97
              case h97 => (intro w hSw; (try dsimp only at hSw); go_simp; try with_reducible rfl)
              refine wT 4 (v := ?v98) rfl (by kernel_rfl) (fun _ _ _ h => h) ?h98 (by assumption) ?r98
              case h98 => (intro w hSw; (try dsimp only at hSw); go_simp; try with_reducible rfl)
              refine wT 5 (v := ?v99) rfl (by kernel_rfl) (fun _ _ _ h => h) ?h99 (by assumption) ?r99
              case h99 => (intro w hSw; (try dsimp only at hSw); go_simp; try with_reducible rfl)
              refine wT 6 (v := ?v100) rfl (by kernel_rfl) (fun _ _ _ h => h) ?h100 (by assumption) ?r100
              case h100 => (intro w hSw; (try dsimp only at hSw); go_simp; try with_reducible rfl)
              refine wT 7 (v := ?v101) rfl (by kernel_rfl) (fun _ _ _ h => h) ?h101 (by assumption) ?r101
              case h101 => (intro w hSw; (try dsimp only at hSw); go_simp; try with_reducible rfl)
              try simp only [Act.put, List.setIfInBounds_toArray, List.set_cons_zero, List.set_cons_succ]
              refine wpAnyH_ready (rs := [8]) (by kernel_rfl) (by simp) ?_
              refine AllReadyH.cons (o := ⟨_, _, _, _, _, _⟩) rfl (fun K hK => ?_) AllReadyH.nil
              go_simp
              with_reducible refine (q1.out _).mono ?_
              rintro e u1 ⟨rfl, b1⟩
              go_simp
              refine hK.out _ _ (hHeld.trans (b1.mono hHeld.size)) (fun hHeld => ?_)
              clear hK K
              refine wT 9 (v := ?v102) rfl (by kernel_rfl) (fun _ _ _ h => h) ?h102 (by assumption) ?r102
              case h102 => (intro w hSw; (try dsimp only at hSw); go_simp; try with_reducible rfl)
              try simp only [Act.put, List.setIfInBounds_toArray, List.set_cons_zero, List.set_cons_succ]
              refine wpAnyH_done (by kernel_rfl) ?_ _
              have hX2 : Below u0.heap.size u0 u1 := hHeld
              clear hHeld b1 q1
              go_wp2
              refine wp_drawn_on (fun W => Below u0.heap.size u0 W) (by kernel_rfl) (hX2.drew) (fun hHeld => ?_)
              refine wT 0 (v := ?v103) rfl (by kernel_rfl) (fun _ _ _ h => h) ?h103 (by assumption) ?r103
              case h103 => (intro w hSw; (try dsimp only at hSw); go_simp; try with_reducible rfl)
              refine wT 1 (v := ?v104) rfl (by kernel_rfl) (fun _ _ _ h => h) ?h104 (by assumption) ?r104
              case h104 => (intro w hSw; (try dsimp only at hSw); go_simp; try with_reducible rfl)
              refine wT 2 (v := ?v105) rfl (by kernel_rfl) (fun _ _ _ h => h) ?h105 (by assumption) ?r105
              case h105 => (intro w hSw; (try dsimp only at hSw); go_simp; try with_reducible rfl)
              refine wT 3 (v := ?v106) rfl (by kernel_rfl) (fun _ _ _ h => h) ?h106 (by assumption) ?r106
              case h106 => (intro w hSw; (try dsimp only at hSw); go_simp; try with_reducible rfl)
              refine wT 4 (v := ?v107) rfl (by kernel_rfl) (fun _ _ _ h => h) ?h107 (by assumption) ?r107
              case h107 => (intro w hSw; (try dsimp only at hSw); go_simp; try with_reducible rfl)
              refine wT 5 (v := ?v108) rfl (by kernel_rfl) (fun _ _ _ h => h) ?h108 (by assumption) ?r108
              case h108 => (intro w hSw; (try dsimp only at hSw); go_simp; try with_reducible rfl)
              refine wT 6 (v := ?v109) rfl (by kernel_rfl) (fun _ _ _ h => h) ?h109 (by assumption) ?r109
              case h109 => (intro w hSw; (try dsimp only at hSw); go_simp; try with_reducible rfl)
              refine wT 7 (v := ?v110) rfl (by kernel_rfl) (fun _ _ _ h => h) ?h110 (by assumption) ?r110
              case h110 => (intro w hSw; (try dsimp only at hSw); go_simp; try with_reducible rfl)
              refine wT 8 (v := ?v111) rfl (by kernel_rfl) (fun _ _ _ h => h) ?h111 (by assumption) ?r111
              case h111 => (intro w hSw; (try dsimp only at hSw); go_simp; try with_reducible rfl)
              refine wT 9 (v := ?v112) rfl (by kernel_rfl) (fun _ _ _ h => h) ?h112 (by assumption) ?r112
              case h112 => (intro w hSw; (try dsimp only at hSw); go_simp; try with_reducible rfl)
              refine wT 10 (v := ?v113) rfl (by kernel_rfl) (fun _ _ _ h => h) ?h113 (by assumption) ?r113
              case h113 => (intro w hSw; (try dsimp only at hSw); go_simp; try with_reducible rfl)
              refine wT 11 (v := ?v114) rfl (by kernel_rfl) (fun _ _ _ h => h) ?h114 (by assumption) ?r114
              case h114 => (intro w hSw; (try dsimp only at hSw); go_simp; try with_reducible rfl)
              refine wT 12 (v := ?v115) rfl (by kernel_rfl) (fun _ _ _ h => h) ?h115 (by assumption) ?r115
              case h115 => (intro w hSw; (try dsimp only at hSw); go_simp; try with_reducible rfl)
              refine wT 13 (v := ?v116) rfl (by kernel_rfl) (fun _ _ _ h => h) ?h116 (by assumption) ?r116
              case h116 => (intro w hSw; (try dsimp only at hSw); go_simp; try with_reducible rfl)
              refine wT 14 (v := ?v117) rfl (by kernel_rfl) (fun _ _ _ h => h) ?h117 (by assumption) ?r117
              case h117 => (intro w hSw; (try dsimp only at hSw); go_simp; try with_reducible rfl)
              refine wT 15 (v := ?v118) rfl (by kernel_rfl) (fun _ _ _ h => h) ?h118 (by assumption) ?r118
              case h118 => (intro w hSw; (try dsimp only at hSw); go_simp; try with_reducible rfl)
              refine wT 17 (v := ?v119) rfl (by kernel_rfl) (fun _ _ _ h => h) ?h119 (by assumption) ?r119
              case h119 => (intro w hSw; (try dsimp only at hSw); go_simp; try with_reducible rfl)
              refine wT 18 (v := ?v120) rfl (by kernel_rfl) (fun _ _ _ h => h) ?h120 (by assumption) ?r120
              case h120 => (intro w hSw; (try dsimp only at hSw); go_simp; try with_reducible rfl)
              refine wT 19 (v := ?v121) rfl (by kernel_rfl) (fun _ _ _ h => h) ?h121 (by assumption) ?r121
              case h121 => (intro w hSw; (try dsimp only at hSw); go_simp; try with_reducible rfl)
              refine wT 20 (v := ?v122) rfl (by kernel_rfl) (fun _ _ _ h => h) ?h122 (by assumption) ?r122
              case h122 => (intro w hSw; (try dsimp only at hSw); go_simp; try with_reducible rfl)
              try simp only [Act.put, List.setIfInBounds_toArray, List.set_cons_zero, List.set_cons_succ]
              refine wpAnyH_ready (rs := [16]) (by kernel_rfl) (by simp) ?_
              refine AllReadyH.cons (o := ⟨_, _, _, _, _, _⟩) rfl (fun K hK => ?_) AllReadyH.nil
              go_simp
              with_reducible refine (q2.out _).mono ?_
              rintro e u2 ⟨rfl, b2⟩
              go_simp
              refine hK.out _ _ (hHeld.trans (b2.mono hHeld.size)) (fun hHeld => ?_)
              clear hK K
              try simp only [Act.put, List.setIfInBounds_toArray, List.set_cons_zero, List.set_cons_succ]
              refine wpAnyH_ready (rs := [21]) (by kernel_rfl) (by simp) ?_
              refine AllReadyH.cons (o := ⟨_, _, _, _, _, _⟩) rfl (fun K hK => ?_) AllReadyH.nil
              go_simp
              with_reducible refine (q3.out _).mono ?_
              rintro e u3 ⟨rfl, b3⟩
              go_simp
              refine hK.out _ _ (hHeld.trans (b3.mono hHeld.size)) (fun hHeld => ?_)
              clear hK K
              refine wT 22 (v := ?v123) rfl (by kernel_rfl) (fun _ _ _ h => h) ?h123 (by assumption) ?r123
              case h123 => (intro w hSw; (try dsimp only at hSw); go_simp; try with_reducible rfl)
              refine wT 23 (v := ?v124) rfl (by kernel_rfl) (fun _ _ _ h => h) ?h124 (by assumption) ?r124
              case h124 => (intro w hSw; (try dsimp only at hSw); go_simp; try with_reducible rfl)
              try simp only [Act.put, List.setIfInBounds_toArray, List.set_cons_zero, List.set_cons_succ]
              refine wpAnyH_done (by kernel_rfl) ?_ _
              have hY := go1'.out _ (Lib.hid hHeld) r1 (Lib.hid rfl)
              clear hHeld hX2 go1'
              go_wp2
              go_roundw
              case rel => exact ⟨k + 1, by omega, by rw [← hr1'.out, ← hr.out] <;> first | rfl | go_num, by go_num, hY⟩
              case measure => simp [intOf]; omega
          · have hki3 : ¬ (k : Int) < (i : Int) := by omega
            have hnb : decide ((k : Int) < (i : Int)) = false := decide_eq_false hki3
            have hnc : decide (k < i) = false := decide_eq_false hki2
            have hr : Hid (r0 = r1) := Lib.hid (by rw [hs'.out, decide_eq_false hki2]; simp)
            clear hs' hst
            go_wp2
            refine wp_drawn_on (fun W => Below u0.heap.size u0 W) (by kernel_rfl) ((Below.refl _ _).drew) (fun hHeld => ?_)
            refine wT 0 (v := ?v125) rfl (by kernel_rfl) (fun _ _ _ h => h) ?h125 (by assumption) ?r125
            case h125 => (intro w hSw; (try dsimp only at hSw); go_simp; try with_reducible rfl)
            refine wT 1 (v := ?v126) rfl (by kernel_rfl) (fun _ _ _ h => h) ?h126 (by assumption) ?r126
            case h126 => (intro w hSw; (try dsimp only at hSw); go_simp; try with_reducible rfl)
            refine wT 2 (v := ?v127) rfl (by kernel_rfl) (fun _ _ _ h => h) ?h127 (by assumption) ?r127
            case h127 => (intro w hSw; (try dsimp only at hSw); go_simp; try with_reducible rfl)
            refine wT 3 (v := ?v128) rfl (by kernel_rfl) (fun _ _ _ h => h) ?h128 (by assumption) ?r128
            case h128 => (intro w hSw; (try dsimp only at hSw); go_simp; try with_reducible rfl)
            refine wT 4 (v := ?v129) rfl (by kernel_rfl) (fun _ _ _ h => h) ?h129 (by assumption) ?r129
            case h129 => (intro w hSw; (try dsimp only at hSw); go_simp; try with_reducible rfl)
            refine wT 5 (v := ?v130) rfl (by kernel_rfl) (fun _ _ _ h => h) ?h130 (by assumption) ?r130
            case h130 => (intro w hSw; (try dsimp only at hSw); go_simp; try with_reducible rfl)
            refine wT 6 (v := ?v131) rfl (by kernel_rfl) (fun _ _ _ h => h) ?h131 (by assumption) ?r131
            case h131 => (intro w hSw; (try dsimp only at hSw); go_simp; try with_reducible rfl)
            refine wT 7 (v := ?v132) rfl (by kernel_rfl) (fun _ _ _ h => h) ?h132 (by assumption) ?r132
            case h132 => (intro w hSw; (try dsimp only at hSw); go_simp; try with_reducible rfl)
            try simp only [Act.put, List.setIfInBounds_toArray, List.set_cons_zero, List.set_cons_succ]
            refine wpAnyH_ready (rs := [8]) (by kernel_rfl) (by simp) ?_
            refine AllReadyH.cons (o := ⟨_, _, _, _, _, _⟩) rfl (fun K hK => ?_) AllReadyH.nil
            go_simp
            with_reducible refine (q1.out _).mono ?_
            rintro e u1 ⟨rfl, b1⟩
            go_simp
            refine hK.out _ _ (hHeld.trans (b1.mono hHeld.size)) (fun hHeld => ?_)
            clear hK K
            refine wT 9 (v := ?v133) rfl (by kernel_rfl) (fun _ _ _ h => h) ?h133 (by assumption) ?r133
            case h133 => (intro w hSw; (try dsimp only at hSw); go_simp; try with_reducible rfl)
            try simp only [Act.put, List.setIfInBounds_toArray, List.set_cons_zero, List.set_cons_succ]
            refine wpAnyH_done (by kernel_rfl) ?_ _
            have hX2 : Below u0.heap.size u0 u1 := hHeld
            clear hHeld b1 q1
            go_wp2
            refine wp_drawn_on (fun W => Below u0.heap.size u0 W) (by kernel_rfl) (hX2.drew) (fun hHeld => ?_)
            refine wT 0 (v := ?v134) rfl (by kernel_rfl) (fun _ _ _ h => h) ?h134 (by assumption) ?r134
            case h134 => (intro w hSw; (try dsimp only at hSw); go_simp; try with_reducible rfl)
            refine wT 1 (v := ?v135) rfl (by kernel_rfl) (fun _ _ _ h => h) ?h135 (by assumption) ?r135
            case h135 => (intro w hSw; (try dsimp only at hSw); go_simp; try with_reducible rfl)
            refine wT 2 (v := ?v136) rfl (by kernel_rfl) (fun _ _ _ h => h) ?h136 (by assumption) ?r136
            case h136 => (intro w hSw; (try dsimp only at hSw); go_simp; try with_reducible rfl)
            refine wT 3 (v := ?v137) rfl (by kernel_rfl) (fun _ _ _ h => h) ?h137 (by assumption) ?r137
            case h137 => (intro w hSw; (try dsimp only at hSw); go_simp; try with_reducible rfl)
            refine wT 4 (v := ?v138) rfl (by kernel_rfl) (fun _ _ _ h => h) ?h138 (by assumption) ?r138
            case h138 => (intro w hSw; (try dsimp only at hSw); go_simp; try with_reducible rfl)
            refine wT 5 (v := ?v139) rfl (by kernel_rfl) (fun _ _ _ h => h) ?h139 (by assumption) ?r139
            case h139 => (intro w hSw; (try dsimp only at hSw); go_simp; try with_reducible rfl)
            refine wT 6 (v := ?v140) rfl (by kernel_rfl) (fun _ _ _ h => h) ?h140 (by assumption) ?r140
            case h140 => (intro w hSw; (try dsimp only at hSw); go_simp; try with_reducible rfl)
            refine wT 7 (v := ?v141) rfl (by kernel_rfl) (fun _ _ _ h => h) ?h141 (by assumption) ?r141
            case h141 => (intro w hSw; (try dsimp only at hSw); go_simp; try with_reducible rfl)
            refine wT 8 (v := ?v142) rfl (by kernel_rfl) (fun _ _ _ h => h) ?h142 (by assumption) ?r142
            case h142 => (intro w hSw; (try dsimp only at hSw); go_simp; try with_reducible rfl)
            refine wT 9 (v := ?v143) rfl (by kernel_rfl) (fun _ _ _ h => h) ?h143 (by assumption) ?r143
            case h143 => (intro w hSw; (try dsimp only at hSw); go_simp; try with_reducible rfl)
            refine wT 10 (v := ?v144) rfl (by kernel_rfl) (fun _ _ _ h => h) ?h144 (by assumption) ?r144
            case h144 => (intro w hSw; (try dsimp only at hSw); go_simp; try with_reducible rfl)
            refine wT 11 (v := ?v145) rfl (by kernel_rfl) (fun _ _ _ h => h) ?h145 (by assumption) ?r145
            case h145 => (intro w hSw; (try dsimp only at hSw); go_simp; try with_reducible rfl)
            refine wS 12 rfl (by kernel_rfl) (fun _ _ _ h => h) (by assumption) ?_
            refine wS 13 rfl (by kernel_rfl) (fun _ _ _ h => h) (by assumption) ?_
            refine wS 14 rfl (by kernel_rfl) (fun _ _ _ h => h) (by assumption) ?_
            refine wS 15 rfl (by kernel_rfl) (fun _ _ _ h => h) (by assumption) ?_
            refine wS 16 rfl (by kernel_rfl) (fun _ _ _ h => h) (by assumption) ?_
            refine wS 17 rfl (by kernel_rfl) (fun _ _ _ h => h) (by assumption) ?_
            refine wS 18 rfl (by kernel_rfl) (fun _ _ _ h => h) (by assumption) ?_
            refine wS 19 rfl (by kernel_rfl) (fun _ _ _ h => h) (by assumption) ?_
            refine wS 20 rfl (by kernel_rfl) (fun _ _ _ h => h) (by assumption) ?_
            refine wS 21 rfl (by kernel_rfl) (fun _ _ _ h => h) (by assumption) ?_
            refine wS 22 rfl (by kernel_rfl) (fun _ _ _ h => h) (by assumption) ?_
            refine wT 23 (v := ?v157) rfl (by kernel_rfl) (fun _ _ _ h => h) ?h157 (by assumption) ?r157
            case h157 => (intro w hSw; (try dsimp only at hSw); go_simp; try with_reducible rfl)
            try simp only [Act.put, List.setIfInBounds_toArray, List.set_cons_zero, List.set_cons_succ]
            refine wpAnyH_done (by kernel_rfl) ?_ _
            have hY := go1'.out _ (Lib.hid hHeld) r1 (Lib.hid rfl)
            clear hHeld hX2 go1'
            go_wp2
            go_roundw
            case rel => exact ⟨k + 1, by omega, by rw [← hr1'.out, ← hr.out] <;> first | rfl | go_num, by go_num, hY⟩
            case measure => simp [intOf]; omega
        · have hne : (cv == 0) = false := by rw [beq_eq_false_iff_ne]; exact hz
          have hnb : decide (cv < 0) = false := decide_eq_false hneg
          have hr : Hid (r0 = r1) := Lib.hid (by rw [hs'.out, decide_eq_false hneg, decide_eq_false hz]; simp)
          clear hs' hst
          go_wp2
          refine wp_drawn_on (fun W => Below u0.heap.size u0 W) (by kernel_rfl) ((Below.refl _ _).drew) (fun hHeld => ?_)
          refine wT 0 (v := ?v158) rfl (by kernel_rfl) (fun _ _ _ h => h) ?h158 (by assumption) ?r158
          case h158 => (intro w hSw; (try dsimp only at hSw); go_simp; try with_reducible rfl)
          refine wT 1 (v := ?v159) rfl (by kernel_rfl) (fun _ _ _ h => h) ?h159 (by assumption) ?r159
          case h159 => (intro w hSw; (try dsimp only at hSw); go_simp; try with_reducible rfl)
          refine wT 2 (v := ?v160) rfl (by kernel_rfl) (fun _ _ _ h => h) ?h160 (by assumption) ?r160
          case h160 => (intro w hSw; (try dsimp only at hSw); go_simp; try with_reducible rfl)
          refine wT 3 (v := ?v161) rfl (by kernel_rfl) (fun _ _ _ h => h) ?h161 (by assumption) ?r161
          case h161 => (intro w hSw; (try dsimp only at hSw); go_simp; try with_reducible rfl)
          refine wT 4 (v := ?v162) rfl (by kernel_rfl) (fun _ _ _ h => h) ?h162 (by assumption) ?r162
          case h162 => (intro w hSw; (try dsimp only at hSw); go_simp; try with_reducible rfl)
          refine wT 5 (v := ?v163) rfl (by kernel_rfl) (fun _ _ _ h => h) ?h163 (by assumption) ?r163
          case h163 => (intro w hSw; (try dsimp only at hSw); go_simp; try with_reducible rfl)
          refine wT 6 (v := ?v164) rfl (by kernel_rfl) (fun _ _ _ h => h) ?h164 (by assumption) ?r164
          case h164 => (intro w hSw; (try dsimp only at hSw); go_simp; try with_reducible rfl)
          refine wT 7 (v := ?v165) rfl (by kernel_rfl) (fun _ _ _ h => h) ?h165 (by assumption) ?r165
          case h165 => (intro w hSw; (try dsimp only at hSw); go_simp; try with_reducible rfl)
          try simp only [Act.put, List.setIfInBounds_toArray, List.set_cons_zero, List.set_cons_succ]
          refine wpAnyH_ready (rs := [8]) (by kernel_rfl) (by simp) ?_
          refine AllReadyH.cons (o := ⟨_, _, _, _, _, _⟩) rfl (fun K hK => ?_) AllReadyH.nil
          go_simp
          with_reducible refine (q1.out _).mono ?_
          rintro e u1 ⟨rfl, b1⟩
          go_simp
          refine hK.out _ _ (hHeld.trans (b1.mono hHeld.size)) (fun hHeld => ?_)
          clear hK K
          refine wT 9 (v := ?v166) rfl (by kernel_rfl) (fun _ _ _ h => h) ?h166 (by assumption) ?r166
          case h166 => (intro w hSw; (try dsimp only at hSw); go_simp; try with_reducible rfl)
          try simp only [Act.put, List.setIfInBounds_toArray, List.set_cons_zero, List.set_cons_succ]
          refine wpAnyH_done (by kernel_rfl) ?_ _
          have hX2 : Below u0.heap.size u0 u1 := hHeld
          clear hHeld b1 q1
          go_wp2
          refine wp_drawn_on (fun W => Below u0.heap.size u0 W) (by kernel_rfl) (hX2.drew) (fun hHeld => ?_)
          refine wT 0 (v := ?v167) rfl (by kernel_rfl) (fun _ _ _ h => h) ?h167 (by assumption) ?r167
          case h167 => (intro w hSw; (try dsimp only at hSw); go_simp; try with_reducible rfl)
          refine wT 1 (v := ?v168) rfl (by kernel_rfl) (fun _ _ _ h => h) ?h168 (by assumption) ?r168
          case h168 => (intro w hSw; (try dsimp only at hSw); go_simp; try with_reducible rfl)
          refine wT 2 (v := ?v169) rfl (by kernel_rfl) (fun _ _ _ h => h) ?h169 (by assumption) ?r169
          case h169 => (intro w hSw; (try dsimp only at hSw); go_simp; try with_reducible rfl)
          refine wT 3 (v := ?v170) rfl (by kernel_rfl) (fun _ _ _ h => h) ?h170 (by assumption) ?r170
          case h170 => (intro w hSw; (try dsimp only at hSw); go_simp; try with_reducible rfl)
          refine wT 4 (v := ?v171) rfl (by kernel_rfl) (fun _ _ _ h => h) ?h171 (by assumption) ?r171
          case h171 => (intro w hSw; (try dsimp only at hSw); go_simp; try with_reducible rfl)
          refine wT 5 (v := ?v172) rfl (by kernel_rfl) (fun _ _ _ h => h) ?h172 (by assumption) ?r172
          case h172 => (intro w hSw; (try dsimp only at hSw); go_simp; try with_reducible rfl)
          refine wS 6 rfl (by kernel_rfl) (fun _ _ _ h => h) (by assumption) ?_
          refine wS 7 rfl (by kernel_rfl) (fun _ _ _ h => h) (by assumption) ?_
          refine wS 8 rfl (by kernel_rfl) (fun _ _ _ h => h) (by assumption) ?_
          refine wT 9 (v := ?v176) rfl (by kernel_rfl) (fun _ _ _ h => h) ?h176 (by assumption) ?r176
          case h176 => (intro w hSw; (try dsimp only at hSw); go_simp; try with_reducible rfl)
          refine wT 10 (v := ?v177) rfl (by kernel_rfl) (fun _ _ _ h => h) ?h177 (by assumption) ?r177
          case h177 => (intro w hSw; (try dsimp only at hSw); go_simp; try with_reducible rfl)
          refine wT 11 (v := ?v178) rfl (by kernel_rfl) (fun _ _ _ h => h) ?h178 (by assumption) ?r178
          case h178 => (intro w hSw; (try dsimp only at hSw); go_simp; try with_reducible rfl)
          refine wS 12 rfl (by kernel_rfl) (fun _ _ _ h => h) (by assumption) ?_
          refine wS 13 rfl (by kernel_rfl) (fun _ _ _ h => h) (by assumption) ?_
          refine wS 14 rfl (by kernel_rfl) (fun _ _ _ h => h) (by assumption) ?_
          refine wS 15 rfl (by kernel_rfl) (fun _ _ _ h => h) (by assumption) ?_
          refine wS 16 rfl (by kernel_rfl) (fun _ _ _ h => h) (by assumption) ?_
          refine wS 17 rfl (by kernel_rfl) (fun _ _ _ h => h) (by assumption) ?_
          refine wS 18 rfl (by kernel_rfl) (fun _ _ _ h => h) (by assumption) ?_
          refine wS 19 rfl (by kernel_rfl) (fun _ _ _ h => h) (by assumption) ?_
          refine wS 20 rfl (by kernel_rfl) (fun _ _ _ h => h) (by assumption) ?_
          refine wS 21 rfl (by kernel_rfl) (fun _ _ _ h => h) (by assumption) ?_
          refine wS 22 rfl (by kernel_rfl) (fun _ _ _ h => h) (by assumption) ?_
          refine wT 23 (v := ?v190) rfl (by kernel_rfl) (fun _ _ _ h => h) ?h190 (by assumption) ?r190
          case h190 => (intro w hSw; (try dsimp only at hSw); go_simp; try with_reducible rfl)
          try simp only [Act.put, List.setIfInBounds_toArray, List.set_cons_zero, List.set_cons_succ]
          refine wpAnyH_done (by kernel_rfl) ?_ _
          have hY := go1'.out _ (Lib.hid hHeld) r1 (Lib.hid rfl)
          clear hHeld hX2 go1'
          go_wp2
          go_roundw
          case rel => exact ⟨k + 1, by omega, by rw [← hr1'.out, ← hr.out] <;> first | rfl | go_num, by go_num, hY⟩
          case measure => simp [intOf]; omega
    · obtain rfl : k = n := by omega
      have hki : ¬ (k : Int) < (k : Int) := by omega
      rw [hend.out]
      go_wp2
      go_ret
      exact ⟨rfl, hB.out⟩
end Go.Proofs.YtpchncpcckfghaaGreat
namespace Go.Proofs.YtpchncpcckfghaaGreat
open Go.RowKit
set_option linter.unusedVariables false
set_option linter.unusedSimpArgs false
theorem infoU64' : (Tryz.prog.info? 36).map (fun i => (i.zero, i.size, i.bytes)) = some (some (.int .u64 0), 1, 8) := by kernel_rfl
theorem one_rank (a : AlD) (r : Nat) : oneA a (r : Int) = oneK (keyA a) r := by
  unfold oneA
  rw [show (max (r : Int) 0).toNat = r by omega]
theorem fing_take (l : List AlD) {k : Nat} (hk : k < l.length) : (fingA l).take (k + 1) = (fingA l).take k ++ [oneK (keyA (l.getD k al0)) (rankA l k)] := by
  rw [List.take_add_one, ← fing_at l hk]
  have : k < (fingA l).length := by rw [fing_len]; exact hk
  simp [List.getD, this]
theorem fone_r (a : AlD) (hk : (Lit.int .i64 a.kind).wf = true) (h : smallA a) (r : Nat) (hr : r ≤ 100) (w : World) :
    Calls Tryz.prog 48 #[.agg #[.int .i64 a.kind, .int .i64 a.sev, .string a.fn, .string a.file, .int .i64 a.line, .string a.expr], .int .i64 r] w (Gives (.int .u64 (oneK (keyA a) r)) w) := by
  have q := rfone_any a hk h (r : Int) (by simp [Lit.wf, IntKind.min, IntKind.max, IntKind.signed, IntKind.bits]; omega) w
  rwa [one_rank] at q
set_option maxRecDepth 100000 in
set_option maxHeartbeats 4000000 in
theorem rfofs_any (l : List AlD) (a : Option Addr) (n c : Nat) (w : World) (h : RO alC w a n c l) (hW : ∀ s ∈ l, alW s) (hS : ∀ s ∈ l, smallA s) (hn : n ≤ 100) :
    Calls Tryz.prog 27 #[.slice a n c] w (Made 36 .u64 w (fingA l)) := by
  obtain ⟨i0, hi, hz0, hz1, hz2⟩ := info_parts infoU64'
  have hlen := h.len
  have hm : (n : Int) ≤ 100 := by omega
  have hRO := Lib.hid h
  have hlen' := Lib.hid hlen
  have hg : Hid (∀ j, j < n → alW (l.getD j al0) ∧ smallA (l.getD j al0)) := Lib.hid (fun j hj => by
    have q : l.getD j al0 ∈ l := (by rw [hlen] at hj; simp [List.getD, hj])
    exact ⟨hW _ q, hS _ q⟩)
  have hrk := Lib.hid (fun (k : Nat) (hk : k < n) (W : World) (h : RO alC W a n c l) => rrank_any l a n c W h hW hS k hk hn)
  have hrl := Lib.hid (fun i => rank_le l i)
  have htk := Lib.hid (fun (k : Nat) (hk : k < n) => fing_take l (k := k) (by rw [← hlen]; exact hk))
  have hfl : Hid ((fingA l).length = n) := Lib.hid (by rw [fing_len, hlen])
  clear h hW hS hlen
  generalize fingA l = FL at *
  go_enter Tryz.func27, Tryz.ntmps27
  go_wp2
  go_loopw [3, 4] (fun x y wr => ∃ k : Nat, k ≤ n ∧ y = .int .i64 k ∧ Hid (wr.ownsRow w.heap.size 36 1 x k (nums .u64 (FL.take k))) ∧ Hid (Below w.heap.size w wr)) (fun _ y _ => n - (intOf y).toNat)
  case atStart => exact ⟨0, Nat.zero_le _, rfl, Lib.hid ⟨by simp [nums], .inl ⟨rfl, rfl⟩⟩, Lib.hid (Below.refl _ _)⟩
  case round =>
    obtain ⟨k, hk, rfl, hO, hB⟩ := hrel
    generalize wr = g0 at *
    by_cases hlt : k < n
    · have hki : (k : Int) < (n : Int) := by omega
      obtain ⟨b, off, rfl, hlb, x0, x1, x2, x3, x4, x5⟩ := al_at hRO.out hlt
      obtain ⟨⟨wk, -⟩, smk⟩ := hg.out k hlt
      have hr100 : rankA l k ≤ 100 := by have := hrl.out k; have := hlen'.out; omega
      have q1 := Lib.hid (hrk.out k hlt)
      have q2 := Lib.hid (fun W => fone_r (l.getD k al0) wk smk (rankA l k) hr100 W)
      have ht := Lib.hid (htk.out k hlt)
      have hFk : Hid ((FL.take k).length = k) := Lib.hid (by have := hfl.out; simp; omega)
      clear wk smk hr100
      have y0 : ∀ W, Below w.heap.size w W → W.cell? ⟨b, off + k * 6, none⟩ = some (.int .i64 (l.getD k al0).kind) := fun W hW => (hW.cell (p := ⟨b, off + k * 6, none⟩) hlb).trans x0
      have y1 : ∀ W, Below w.heap.size w W → W.cell? ⟨b, off + k * 6 + 1, none⟩ = some (.int .i64 (l.getD k al0).sev) := fun W hW => (hW.cell (p := ⟨b, off + k * 6 + 1, none⟩) hlb).trans x1
      have y2 : ∀ W, Below w.heap.size w W → W.cell? ⟨b, off + k * 6 + 2, none⟩ = some (.string (l.getD k al0).fn) := fun W hW => (hW.cell (p := ⟨b, off + k * 6 + 2, none⟩) hlb).trans x2
      have y3 : ∀ W, Below w.heap.size w W → W.cell? ⟨b, off + k * 6 + 3, none⟩ = some (.string (l.getD k al0).file) := fun W hW => (hW.cell (p := ⟨b, off + k * 6 + 3, none⟩) hlb).trans x3
      have y4 : ∀ W, Below w.heap.size w W → W.cell? ⟨b, off + k * 6 + 4, none⟩ = some (.int .i64 (l.getD k al0).line) := fun W hW => (hW.cell (p := ⟨b, off + k * 6 + 4, none⟩) hlb).trans x4
      have y5 : ∀ W, Below w.heap.size w W → W.cell? ⟨b, off + k * 6 + 5, none⟩ = some (.string (l.getD k al0).expr) := fun W hW => (hW.cell (p := ⟨b, off + k * 6 + 5, none⟩) hlb).trans x5
      clear x0 x1 x2 x3 x4 x5
      generalize oneK (keyA (l.getD k al0)) (rankA l k) = R at *
      generalize rankA l k = r at *
      generalize l.getD k al0 = A at *
      obtain ⟨ak, av, af, ai, al, ax⟩ := A
      dsimp only at *
      have hst := Lib.hid (hB.out.drew)
      go_wp2
      refine wp_drawn_on (fun W => Below w.heap.size w W) (by kernel_rfl) (hst.out) (fun hHeld => ?_)
      refine wT 0 (v := ?v1) rfl (by kernel_rfl) (fun _ _ _ h => h) ?h1 (by assumption) ?r1
      case h1 => (intro w hSw; (try dsimp only at hSw); go_simp; try with_reducible rfl)
      refine wT 1 (v := ?v2) rfl (by kernel_rfl) (fun _ _ _ h => h) ?h2 (by assumption) ?r2
      case h2 => (intro w hSw; (try dsimp only at hSw); go_simp; try with_reducible rfl)
      refine wT 2 (v := ?v3) rfl (by kernel_rfl) (fun _ _ _ h => h) ?h3 (by assumption) ?r3
      case h3 => (intro w hSw; (try dsimp only at hSw); go_simp; try with_reducible rfl)
      refine wT 3 (v := ?v4) rfl (by kernel_rfl) (fun _ _ _ h => h) ?h4 (by assumption) ?r4
      case h4 => (intro w hSw; (try dsimp only at hSw); go_simp; try with_reducible rfl)
      refine wT 4 (v := ?v5) rfl (by kernel_rfl) (fun _ _ _ h => h) ?h5 (by assumption) ?r5
      case h5 => (intro w hSw; (try dsimp only at hSw); go_simp; try with_reducible rfl)
      refine wT 5 (v := ?v6) rfl (by kernel_rfl) (fun _ _ _ h => h) ?h6 (by assumption) ?r6
      case h6 => (intro w hSw; (try dsimp only at hSw); go_simp; try with_reducible rfl)
      refine wT 6 (v := ?v7) rfl (by kernel_rfl) (fun _ _ _ h => h) ?h7 (by assumption) ?r7
      case h7 => (intro w hSw; (try dsimp only at hSw); go_simp; try with_reducible rfl)
      try simp only [Act.put, List.setIfInBounds_toArray, List.set_cons_zero, List.set_cons_succ]
      refine wpAnyH_ready (rs := [7]) (by kernel_rfl) (by simp) ?_
      refine AllReadyH.cons (o := ⟨_, _, _, _, _, _⟩) rfl (fun K hK => ?_) AllReadyH.nil
      go_simp
      with_reducible refine (q1.out _ (hRO.out.below hHeld)).mono ?_
      rintro e g1 ⟨rfl, b1⟩
      go_simp
      refine hK.out _ _ (hHeld.trans (b1.mono hHeld.size)) (fun hHeld => ?_)
      clear hK K
      try simp only [Act.put, List.setIfInBounds_toArray, List.set_cons_zero, List.set_cons_succ]
      refine wpAnyH_ready (rs := [8]) (by kernel_rfl) (by simp) ?_
      refine AllReadyH.cons (o := ⟨_, _, _, _, _, _⟩) rfl (fun K hK => ?_) AllReadyH.nil
      go_simp
      with_reducible refine (q2.out _).mono ?_
      rintro e g2 ⟨rfl, b2⟩
      go_simp
      refine hK.out _ _ (hHeld.trans (b2.mono hHeld.size)) (fun hHeld => ?_)
      clear hK K
      try simp only [Act.put, List.setIfInBounds_toArray, List.set_cons_zero, List.set_cons_succ]
      refine wpAnyH_ready (rs := [9]) (by kernel_rfl) (by simp) ?_
      refine AllReadyH.cons (o := ⟨_, _, _, _, _, _⟩) rfl (fun K hK => ?_) AllReadyH.nil
      go_simp
      refine hK.out _ _ (hHeld.alloc hHeld.size _) (fun hHeld => ?_)
      clear hK K
      try simp only [Act.put, List.setIfInBounds_toArray, List.set_cons_zero, List.set_cons_succ]
      refine wpAnyH_ready (rs := [10]) (by kernel_rfl) (by simp) ?_
      refine AllReadyH.cons (o := ⟨_, _, _, _, _, _⟩) rfl (fun K hK => ?_) AllReadyH.nil
      have hOz := own_below (own_below (own_below hO.out (Below.fromDrew b1)) b2) (box_below g2 #[.int .u64 R] 36)
      refine wp_append_foot _ (.tmp 11) (.tmp 20) 55 rfl 36 i0 (.int .u64 0) 8 Tryz.underlying55 hi hz0 hz1 hz2 rfl .u64 u3 (FL.take k) (by rw [hFk.out]; exact own_zero hOz) _ _ [R] (sees_new .u64 g2 36 [R] _ rfl) 1 1 rfl rfl rfl (by rw [hFk.out]; unfold maxLen; simp only [List.length_singleton]; omega) (by rw [hFk.out]; simp only [List.length_singleton]; omega) ?_
      intro v' g3 own1 grow1 blk1
      have hg2 : Below w.heap.size w g3 := hHeld.grown grow1 hHeld.size (fun q hq => (hOz.lt q hq).1)
      have own2 : g3.ownsRow w.heap.size 36 1 v' (k + 1) (nums .u64 (FL.take (k + 1))) := (by
      rw [ht.out]
      have e1 : (FL.take k ++ [R]).length = k + 1 := (by rw [List.length_append, hFk.out]; rfl)
      rw [e1] at own1
      exact own_from own1 (fun q hq => (blk1.elim (fun h => (hOz.lt q (by rw [← h]; exact hq)).1) (fun h => (by rw [h] at hq; injection hq with hq; rw [← hq]; exact hHeld.size)))))
      refine hK.out _ _ (hg2) (fun hHeld => ?_)
      clear hK K
      refine wT 11 (v := ?v8) rfl (by kernel_rfl) (fun _ _ _ h => h) ?h8 (by assumption) ?r8
      case h8 => (intro w hSw; (try dsimp only at hSw); go_simp; try with_reducible rfl)
      try simp only [Act.put, List.setIfInBounds_toArray, List.set_cons_zero, List.set_cons_succ]
      refine wpAnyH_done (by kernel_rfl) ?_ _
      have own3 := Lib.hid own2
      have hg3 := Lib.hid hHeld
      clear own1 own2 grow1 blk1 hOz hg2 hHeld b1 b2 hO hB hst
      go_wp2
      go_roundw
      case rel => exact ⟨k + 1, by omega, by go_num, own3, hg3⟩
      case measure => simp [intOf]; omega
    · obtain rfl : k = n := by omega
      have hki : ¬ (k : Int) < (k : Int) := by omega
      have hO2 := hO.out
      rw [List.take_of_length_le (by rw [hfl.out]; exact Nat.le_refl _)] at hO2
      have hO3 := Lib.hid hO2
      clear hO2 hO
      go_wp2
      go_ret
      exact ⟨_, rfl, by rw [hfl.out]; exact hO3.out, hB.out⟩
end Go.Proofs.YtpchncpcckfghaaGreat
namespace Go.Proofs.YtpchncpcckfghaaGreat
open Go.RowKit
set_option linter.unusedVariables false
theorem rbmatch_any (w : World) (a1 a2 : Option Addr) (n1 n2 c1 c2 : Nat) (l : List MkD) (A : List AlD) (hn1 : n1 ≤ 5000) (h1 : RO mkC w a1 n1 c1 l) (h2 : RO alC w a2 n2 c2 A) (hW : ∀ s ∈ A, alW s) (hS : ∀ s ∈ A, smallA s) (hn : n2 ≤ 100) :
    Calls Tryz.prog 14 #[.slice a1 n1 c1, .slice a2 n2 c2] w (SpG1 w (splitD l A (fingA A))) := by
  have m1 := h1.len
  have m2 := h2.len
  have q := rbmatch_gen w a1 a2 n1 n2 c1 c2 l A (fingA A) hn1 hn h1 h2 (by rw [fing_len, m2]) (fun W hB => rfofs_any A a2 n2 c2 W (h2.below hB) hW hS hn)
  have e : splitD l A (fingA A) = ⟨partL al0 (fun k => hasB l ((fingA A).getD k 0)) true A n2, partL al0 (fun k => hasB l ((fingA A).getD k 0)) false A n2, partL mk0 (fun k => decide ((l.getD k mk0).f ∈ fingA A)) true l n1, partL mk0 (fun k => decide ((l.getD k mk0).f ∈ fingA A)) false l n1⟩ := by rw [m1, m2]; rfl
  rw [e]
  exact q
end Go.Proofs.YtpchncpcckfghaaGreat
namespace Go.Proofs.YtpchncpcckfghaaGreat
open Go.RowKit
set_option linter.unusedVariables false
set_option linter.unusedSimpArgs false
set_option maxRecDepth 100000 in
set_option maxHeartbeats 8000000 in
theorem matches_bad (w : World) (a1 a2 : Option Addr) (n1 n2 c1 c2 : Nat) (l : List MkD) (A : List AlD) (hw1 : ∀ t ∈ l, mkW t) (hw2 : ∀ t ∈ A, alW t) (hg1 : bigMk 300 l = false) (hg2 : bigA A = false) (h1 : RO mkC w a1 n1 c1 l) (h2 : RO alC w a2 n2 c2 A) (hb : baseB l = false) :
    Calls Tryz.prog 3 #[.slice a1 n1 c1, .slice a2 n2 c2] w (Gives (.bool true) w) := by
  have m1 := h1.len
  have qg1 := blarge_any w a1 n1 c1 l 300 h1 hw1
  have qg2 := alarge_any A a2 n2 c2 w h2 hw2
  rw [hg1] at qg1
  rw [hg2] at qg2
  have QG1 := Lib.hid qg1
  have QG2 := Lib.hid qg2
  have qlv := Lib.hid (fun W => blives_any W)
  have hz1 := Lib.hid (fun t (ht : t < n1) => by
    have h5 := (bigMk_no hg1).2 (l.getD t mk0) (by have htl : t < l.length := by omega
                                                   simp [List.getD, htl])
    omega : ∀ t, t < n1 → (l.getD t mk0).note.size ≤ 9223372036854775806)
  have qB := Lib.hid (fun W hW => by have := rbbase_any W a1 n1 c1 l (h1.below hW) hz1.out; rw [hb] at this; exact this)
  have qM := Lib.hid (bmatch_bad w a1 a2 n1 n2 c1 c2 l hb h1)
  have qS := Lib.hid (fun W v h => lsame_any W v ⟨none, 0, 0, none, 0, 0, none, 0, 0, none, 0, 0⟩ ⟨[], [], [], []⟩ ⟨[], [], [], []⟩ h ⟨RO.nil _, RO.nil _, RO.nil _, RO.nil _⟩)
  clear qg1 qg2 h1 h2 hw1 hw2 hg1 hg2 m1 hb
  go_enter Tryz.func3, Tryz.ntmps3
  go_wp2_with fail
  with_reducible refine QG1.out.mono ?_
  rintro e w1 ⟨rfl, rfl⟩
  go_wp2_with fail
  with_reducible refine QG2.out.mono ?_
  rintro e w1 ⟨rfl, rfl⟩
  go_wp2_with fail
  refine qM.out.mono ?_
  rintro e w1 ⟨⟨x1, y1, z1, x2, y2, z2, x3, y3, z3, x4, y4, z4⟩, rfl, hR, b1⟩
  dsimp only [SpV.cells]
  have q1 := Lib.hid (fun W hW => qS.out W _ (hR.below (w' := W) hW))
  dsimp only [SpV.cells] at q1
  obtain ⟨V4, hV4⟩ : ∃ W, W = w1.alloc (.cells #[.slice x1 y1 z1, .slice x2 y2 z2, .slice x3 y3 z3, .slice x4 y4 z4] 28) := ⟨_, rfl⟩
  obtain ⟨gm, hgm⟩ : ∃ g, g = w1.heap.size := ⟨_, rfl⟩
  have c4 : Below w1.heap.size w1 V4 := by rw [hV4]; exact box_below _ _ _
  have HM := Lib.hid (show Holds V4 gm 28 #[.slice x1 y1 z1, .slice x2 y2 z2, .slice x3 y3 z3, .slice x4 y4 z4] by rw [hV4, hgm]; exact Holds.new _ _ _)
  have q4 := Lib.hid (fun W hW => q1.out W (c4.trans (Below.mono hW c4.size)))
  have B4 := Lib.hid (b1.trans (c4.mono b1.size))
  have hV4' := Lib.hid hV4
  have hgm' := Lib.hid hgm
  clear b1 c4 hV4 hgm hR q1 qM qS QG1 QG2
  go_upto_region 4 with (fail)
  rw [← hV4'.out, ← hgm'.out]
  clear hV4' hgm'
  go_wp2_with fail
  with_reducible refine (qlv.out _).mono ?_
  rintro e w5 ⟨rfl, b5⟩
  have B5 := Lib.hid (B4.out.trans (b5.mono B4.out.size))
  have D5 := Lib.hid (show Below V4.heap.size V4 w5 from b5)
  clear b5
  go_wp2_with fail
  refine (qB.out _ B5.out).mono ?_
  rintro e w6 ⟨rfl, m6, rfl⟩
  have B6 := Lib.hid (Below.drewN B5.out m6)
  have D6 := Lib.hid (Below.drewN D5.out m6)
  clear B5 D5
  generalize w5.drewN m6 = w6 at *
  have HM6 := HM.out.below D6.out HM.out.lt
  have k0 := HM6.cell 0
  have k1 := HM6.cell 1
  have k2 := HM6.cell 2
  have k3 := HM6.cell 3
  simp at k0 k1 k2 k3
  have Q6 := Lib.hid (q4.out _ D6.out)
  clear q4 HM6 HM B4
  go_wp2_with fail
  refine Q6.out.mono ?_
  rintro e w7 ⟨rfl, b7⟩
  have B7 := Lib.hid (B6.out.trans (b7.mono B6.out.size))
  clear b7 B6 D6 Q6 k0 k1 k2 k3
  go_wp2
  exact bodyPost_ret (results_tmp rfl _ _ _) rfl ⟨rfl, B7.out⟩
set_option maxRecDepth 100000 in
set_option maxHeartbeats 8000000 in
theorem matches_ok (w : World) (a1 a2 : Option Addr) (n1 n2 c1 c2 : Nat) (l : List MkD) (A : List AlD) (hw1 : ∀ t ∈ l, mkW t) (hw2 : ∀ t ∈ A, alW t) (hg1 : bigMk 300 l = false) (hg2 : bigA A = false) (h1 : RO mkC w a1 n1 c1 l) (h2 : RO alC w a2 n2 c2 A) (hb : baseB l = true) :
    Calls Tryz.prog 3 #[.slice a1 n1 c1, .slice a2 n2 c2] w (Gives (.bool true) w) := by
  have m1 := h1.len
  have m2 := h2.len
  have qg1 := blarge_any w a1 n1 c1 l 300 h1 hw1
  have qg2 := alarge_any A a2 n2 c2 w h2 hw2
  rw [hg1] at qg1
  rw [hg2] at qg2
  have QG1 := Lib.hid qg1
  have QG2 := Lib.hid qg2
  have qlv := Lib.hid (fun W => blives_any W)
  have hz1 := Lib.hid (fun t (ht : t < n1) => by
    have h5 := (bigMk_no hg1).2 (l.getD t mk0) (by have htl : t < l.length := by omega
                                                   simp [List.getD, htl])
    omega : ∀ t, t < n1 → (l.getD t mk0).note.size ≤ 9223372036854775806)
  have hsm := small_of hg2
  have hS : ∀ s ∈ A, smallA s := fun s hs => by obtain ⟨p, q, r⟩ := hsm.2 s hs; exact ⟨p, by omega, r⟩
  have hn2 : n2 ≤ 100 := by have := hsm.1; omega
  have qB := Lib.hid (fun W hW => by have := rbbase_any W a1 n1 c1 l (h1.below hW) hz1.out; rw [hb] at this; exact this)
  have qM := Lib.hid (bmatch_ok w a1 a2 n1 n2 c1 c2 l A hb h1 h2 hw2 hS hn2 (pdqOK_any (n := n2) (by omega)))
  rw [prints_fing m2] at qM
  have qR := Lib.hid (fun W hW => rbmatch_any W a1 a2 n1 n2 c1 c2 l A (by have := (bigMk_no hg1).1; omega) (h1.below hW) (h2.below hW) hw2 hS hn2)
  generalize splitD l A (fingA A) = D at *
  have qS := Lib.hid (fun W v u h1 h2 => by have := lsame_any W v u D D h1 h2; rw [sameS_refl] at this; exact this)
  clear qg1 qg2 h1 h2 hw1 hw2 hg1 hg2 m1 m2 hb hsm hS hn2
  go_enter Tryz.func3, Tryz.ntmps3
  go_wp2_with fail
  with_reducible refine QG1.out.mono ?_
  rintro e w1 ⟨rfl, rfl⟩
  go_wp2_with fail
  with_reducible refine QG2.out.mono ?_
  rintro e w1 ⟨rfl, rfl⟩
  go_wp2_with fail
  refine qM.out.mono ?_
  rintro e w1 ⟨⟨x1, y1, z1, x2, y2, z2, x3, y3, z3, x4, y4, z4⟩, rfl, hR, b1⟩
  dsimp only [SpV.cells]
  obtain ⟨V4, hV4⟩ : ∃ W, W = w1.alloc (.cells #[.slice x1 y1 z1, .slice x2 y2 z2, .slice x3 y3 z3, .slice x4 y4 z4] 28) := ⟨_, rfl⟩
  obtain ⟨gm, hgm⟩ : ∃ g, g = w1.heap.size := ⟨_, rfl⟩
  have c4 : Below w1.heap.size w1 V4 := by rw [hV4]; exact box_below _ _ _
  have HM := Lib.hid (show Holds V4 gm 28 #[.slice x1 y1 z1, .slice x2 y2 z2, .slice x3 y3 z3, .slice x4 y4 z4] by rw [hV4, hgm]; exact Holds.new _ _ _)
  have R4 := Lib.hid (hR.below c4)
  have B4 := Lib.hid (b1.trans (c4.mono b1.size))
  have hV4' := Lib.hid hV4
  have hgm' := Lib.hid hgm
  clear b1 c4 hV4 hgm hR qM QG1 QG2
  go_upto_region 4 with (fail)
  rw [← hV4'.out, ← hgm'.out]
  clear hV4' hgm'
  go_wp2_with fail
  with_reducible refine (qlv.out _).mono ?_
  rintro e w5 ⟨rfl, b5⟩
  have B5 := Lib.hid (B4.out.trans (b5.mono B4.out.size))
  have D5 := Lib.hid (show Below V4.heap.size V4 w5 from b5)
  clear b5
  go_wp2_with fail
  refine (qB.out _ B5.out).mono ?_
  rintro e w6 ⟨rfl, m6, rfl⟩
  have B6 := Lib.hid (Below.drewN B5.out m6)
  have D6 := Lib.hid (Below.drewN D5.out m6)
  clear B5 D5
  generalize w5.drewN m6 = X at *
  have HM6 := Lib.hid (HM.out.below D6.out HM.out.lt)
  have R6 := Lib.hid (R4.out.below D6.out)
  have QR := Lib.hid (fun W hW => qR.out W (B6.out.trans (Below.mono hW B6.out.size)))
  have k0 : ∀ W, Below X.heap.size X W → W.cell? ⟨gm, 0, none⟩ = some (.slice x1 y1 z1) := fun W hW => (HM6.out.below hW HM6.out.lt).cell 0
  have k1 : ∀ W, Below X.heap.size X W → W.cell? ⟨gm, 1, none⟩ = some (.slice x2 y2 z2) := fun W hW => (HM6.out.below hW HM6.out.lt).cell 1
  have k2 : ∀ W, Below X.heap.size X W → W.cell? ⟨gm, 2, none⟩ = some (.slice x3 y3 z3) := fun W hW => (HM6.out.below hW HM6.out.lt).cell 2
  have k3 : ∀ W, Below X.heap.size X W → W.cell? ⟨gm, 3, none⟩ = some (.slice x4 y4 z4) := fun W hW => (HM6.out.below hW HM6.out.lt).cell 3
  clear HM B4 qR qB qlv D6 R4
  go_upto_region 8 with (fail)
  refine wp_drawn_on (fun W => Below X.heap.size X W) (by kernel_rfl) ((Below.refl _ _).drew) (fun hHeld => ?_)
  refine wT 0 (v := ?v1) rfl (by kernel_rfl) (fun _ _ _ h => h) ?h1 (by assumption) ?r1
  case h1 => (intro w hSw; (try dsimp only at hSw); go_simp; try with_reducible rfl)
  refine wT 1 (v := ?v2) rfl (by kernel_rfl) (fun _ _ _ h => h) ?h2 (by assumption) ?r2
  case h2 => (intro w hSw; (try dsimp only at hSw); go_simp; try with_reducible rfl)
  refine wT 2 (v := ?v3) rfl (by kernel_rfl) (fun _ _ _ h => h) ?h3 (by assumption) ?r3
  case h3 => (intro w hSw; (try dsimp only at hSw); go_simp; try with_reducible rfl)
  refine wT 3 (v := ?v4) rfl (by kernel_rfl) (fun _ _ _ h => h) ?h4 (by assumption) ?r4
  case h4 => (intro w hSw; (try dsimp only at hSw); go_simp; try with_reducible rfl)
  refine wT 4 (v := ?v5) rfl (by kernel_rfl) (fun _ _ _ h => h) ?h5 (by assumption) ?r5
  case h5 => (intro w hSw; (try dsimp only at hSw); go_simp; try with_reducible rfl)
  refine wT 5 (v := ?v6) rfl (by kernel_rfl) (fun _ _ _ h => h) ?h6 (by assumption) ?r6
  case h6 => (intro w hSw; (try dsimp only at hSw); go_simp; try with_reducible rfl)
  try simp only [Act.put, List.setIfInBounds_toArray, List.set_cons_zero, List.set_cons_succ]
  refine wpAnyH_ready (rs := [6]) (by kernel_rfl) (by simp) ?_
  refine AllReadyH.cons (o := ⟨_, _, _, _, _, _⟩) rfl (fun K hK => ?_) AllReadyH.nil
  go_simp
  with_reducible refine (QR.out _ hHeld).mono ?_
  rintro e w6 ⟨⟨u1, v1, s1, u2, v2, s2, u3, v3, s3, u4, v4, s4⟩, rfl, hR2, b6⟩
  have hx6 : Below X.heap.size X w6 := hHeld.trans (b6.mono hHeld.size)
  dsimp only [SpV.cells]
  go_simp
  refine hK.out _ _ (hx6) (fun hHeld => ?_)
  clear hK K
  try simp only [Act.put, List.setIfInBounds_toArray, List.set_cons_zero, List.set_cons_succ]
  refine wpAnyH_ready (rs := [7]) (by kernel_rfl) (by simp) ?_
  refine AllReadyH.cons (o := ⟨_, _, _, _, _, _⟩) rfl (fun K hK => ?_) AllReadyH.nil
  go_simp
  have q7 := qS.out _ _ _ (R6.out.below hHeld) hR2
  dsimp only [SpV.cells] at q7
  with_reducible refine q7.mono ?_
  rintro e w7 ⟨rfl, b7⟩
  have hx7 : Below X.heap.size X w7 := hHeld.trans (b7.mono hHeld.size)
  go_simp
  refine hK.out _ _ (hx7) (fun hHeld => ?_)
  clear hK K
  refine wT 8 (v := ?v7) rfl (by kernel_rfl) (fun _ _ _ h => h) ?h7 (by assumption) ?r7
  case h7 => (intro w hSw; (try dsimp only at hSw); go_simp; try with_reducible rfl)
  refine wT 9 (v := ?v8) rfl (by kernel_rfl) (fun _ _ _ h => h) ?h8 (by assumption) ?r8
  case h8 => (intro w hSw; (try dsimp only at hSw); go_simp; try with_reducible rfl)
  try simp only [Act.put, List.setIfInBounds_toArray, List.set_cons_zero, List.set_cons_succ]
  refine wpAnyH_done (by kernel_rfl) ?_ _
  have BF := Lib.hid (B6.out.trans (Below.mono hHeld B6.out.size))
  clear k0 k1 k2 k3 hHeld hx6 hx7 b6 b7 hR2 q7
  go_wp2
  exact bodyPost_ret (results_tmp rfl _ _ _) rfl ⟨rfl, BF.out⟩
set_option maxRecDepth 100000 in
set_option maxHeartbeats 4000000 in
theorem matches_big (w : World) (a1 a2 : Option Addr) (n1 n2 c1 c2 : Nat) (l : List MkD) (A : List AlD) (hw1 : ∀ t ∈ l, mkW t) (hw2 : ∀ t ∈ A, alW t) (hg : bigMk 300 l = true ∨ (bigMk 300 l = false ∧ bigA A = true)) (h1 : RO mkC w a1 n1 c1 l) (h2 : RO alC w a2 n2 c2 A) :
    Calls Tryz.prog 3 #[.slice a1 n1 c1, .slice a2 n2 c2] w (Gives (.bool true) w) := by
  have qg1 := blarge_any w a1 n1 c1 l 300 h1 hw1
  have qg2 := alarge_any A a2 n2 c2 w h2 hw2
  have qlv := Lib.hid (fun W => blives_any W)
  rcases hg with hg | ⟨hg, hg2⟩
  · rw [hg] at qg1
    have QG1 := Lib.hid qg1
    clear qg1 qg2 h1 h2 hw1 hw2 hg
    go_enter Tryz.func3, Tryz.ntmps3
    go_wp2_with fail
    with_reducible refine QG1.out.mono ?_
    rintro e w1 ⟨rfl, rfl⟩
    go_wp2_with fail
    with_reducible refine (qlv.out _).mono ?_
    rintro e w2 ⟨rfl, b2⟩
    have b2' := Lib.hid b2
    clear b2
    go_wp2
    exact bodyPost_ret (results_tmp rfl _ _ _) rfl ⟨rfl, b2'.out⟩
  · rw [hg] at qg1
    rw [hg2] at qg2
    have QG1 := Lib.hid qg1
    have QG2 := Lib.hid qg2
    clear qg1 qg2 h1 h2 hw1 hw2 hg hg2
    go_enter Tryz.func3, Tryz.ntmps3
    go_wp2_with fail
    with_reducible refine QG1.out.mono ?_
    rintro e w1 ⟨rfl, rfl⟩
    go_wp2_with fail
    with_reducible refine QG2.out.mono ?_
    rintro e w1 ⟨rfl, rfl⟩
    go_wp2_with fail
    with_reducible refine (qlv.out _).mono ?_
    rintro e w2 ⟨rfl, b2⟩
    have b2' := Lib.hid b2
    clear b2
    go_wp2
    exact bodyPost_ret (results_tmp rfl _ _ _) rfl ⟨rfl, b2'.out⟩
theorem baseMatches_walk (w : World) (a1 : Option Addr) (n1 c1 : Nat) (row1 : MkSl w a1 n1 c1) (a2 : Option Addr) (n2 c2 : Nat) (row2 : AlSl w a2 n2 c2) :
    Calls Tryz.prog 3 #[.slice a1 n1 c1, .slice a2 n2 c2] w (Gives (.bool true) w) := by
  obtain ⟨l, h1, hw1, -⟩ := row1
  obtain ⟨A, h2, hw2, -⟩ := row2
  cases hg1 : bigMk 300 l with
  | true => exact matches_big w a1 a2 n1 n2 c1 c2 l A hw1 hw2 (.inl hg1) h1 h2
  | false =>
  cases hg2 : bigA A with
  | true => exact matches_big w a1 a2 n1 n2 c1 c2 l A hw1 hw2 (.inr ⟨hg1, hg2⟩) h1 h2
  | false =>
  cases hb : baseB l with
  | true => exact matches_ok w a1 a2 n1 n2 c1 c2 l A hw1 hw2 hg1 hg2 h1 h2 hb
  | false => exact matches_bad w a1 a2 n1 n2 c1 c2 l A hw1 hw2 hg1 hg2 h1 h2 hb
end Go.Proofs.YtpchncpcckfghaaGreat
