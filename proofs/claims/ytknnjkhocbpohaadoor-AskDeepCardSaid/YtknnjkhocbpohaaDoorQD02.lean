/-
  Words and walks under the law's proof.
-/
import Derived.Deep.QuietTactic
import Derived.BigQuiet
import Derived.BigRegion
import Derived.Deep.DeepCutAuto
import Derived.Lib.BufferMore
import Derived.Handy
import Derived.Test.YtknnjkhocbpohaaDoorQD01
namespace Go.Proofs.YtknnjkhocbpohaaDoor
open Go.RowKit
set_option linter.unusedVariables false
set_option linter.unusedSimpArgs false
theorem RO.belowE {α : Type} {f : α → List Value} {w w' : World} {X : List Nat} {a : Option Addr} {n c : Nat} {l : List α} (h : RO f w a n c l) (hb : BelowE X w.heap.size w w') (hx : ∀ b off, a = some ⟨b, off, none⟩ → b ∉ X) : RO f w' a n c l := by
  refine ⟨h.len, h.cap, h.max, ?_⟩
  rcases h.sees with e | ⟨b, off, e1, hB, hc⟩
  · exact .inl e
  · exact .inr ⟨b, off, e1, Nat.lt_of_lt_of_le hB hb.size, fun i u hu => (hb.cell (p := ⟨b, off + i, none⟩) hB (hx b off e1)).trans (hc i u hu)⟩
def Off (a : Option Addr) (g : Nat) : Prop := ∀ b off, a = some ⟨b, off, none⟩ → b ∉ [g]
theorem off_new {α : Type} {f : α → List Value} {w : World} {a : Option Addr} {n c : Nat} {l : List α} (h : RO f w a n c l) (hl : (l.flatMap f) ≠ []) : Off a w.heap.size := by
  intro b off e
  rcases h.sees with e1 | ⟨b2, off2, e1, hB, _⟩
  · exact absurd e1 hl
  · rw [e1] at e
    injection e with e
    injection e with e2 e3
    subst e2
    simp
    omega
structure FiltE (w : World) (g : Nat) (a : Option Addr) (n c : Nat) (p mo dp : Nat) (X : Nat × Nat) (e : Ending) (w' : World) : Prop where
  ret : e = .returned (.bool (decide (X.1 ≠ 0)))
  bel : BelowE [g] w.heap.size w w'
  blk : ∃ p' mo' : Nat, Holds w' g 47 #[.slice a n c, .int .i64 (p' : Int), .int .i64 (mo' : Int)] ∧ (X.1 ≠ 0 → p' = p + X.1 ∧ mo' = max mo (dp + X.2 - 1))
def FiltOK (N : Nat) : Prop := ∀ (w : World) (g : Nat) (a : Option Addr) (n c p mo dp : Nat) (l : List TmD), n - p < N → p ≤ n → RO tmC w a n c l → (∀ t ∈ l, tmS t) → ATab w → 2 < g → Off a g →
  Holds w g 47 #[.slice a n c, .int .i64 (p : Int), .int .i64 (mo : Int)] → dp + (n - p) ≤ 1000000 → mo ≤ 1000000 →
  Calls Tryd.prog 25 #[.pointer (some ⟨g, 0, none⟩), .int .i64 (dp : Int)] w (FiltE w g a n c p mo dp (takeL (l.drop p)))
set_option maxRecDepth 100000 in
set_option maxHeartbeats 4000000 in
theorem filt_end (w : World) (g : Nat) (a : Option Addr) (n c mo dp : Nat) (l : List TmD) (hln : l.length = n) (hm : (n : Int) ≤ 9223372036854775807) (hg : Holds w g 47 #[.slice a n c, .int .i64 (n : Int), .int .i64 (mo : Int)]) :
    Calls Tryd.prog 25 #[.pointer (some ⟨g, 0, none⟩), .int .i64 (dp : Int)] w (FiltE w g a n c n mo dp (takeL (l.drop n))) := by
  have hT : Hid (takeL (l.drop n) = (0, 0)) := Lib.hid (by rw [List.drop_of_length_le (by omega)]; rfl)
  have k0 := hg.cell 0
  have k1 := hg.cell 1
  have k2 := hg.cell 2
  simp at k0 k1 k2
  have HG := Lib.hid hg
  generalize takeL (l.drop n) = X at *
  have e1 : ((n : Int) == (n : Int)) = true := by simp
  clear hg hln
  go_enter Tryd.func25, Tryd.ntmps25
  go_wp2
  go_quiet (fail)
  go_wp2
  go_ret
  exact ⟨by rw [hT.out]; rfl, BelowE.drewN (BelowE.refl _ _ _) _, n, mo, HG.out.drewN _, by rw [hT.out]; exact fun h => absurd rfl h⟩
end Go.Proofs.YtknnjkhocbpohaaDoor
namespace Go.Proofs.YtknnjkhocbpohaaDoor
open Go.RowKit
set_option linter.unusedVariables false
set_option linter.unusedSimpArgs false
set_option maxRecDepth 100000 in
set_option maxHeartbeats 8000000 in
theorem filt_bad (w : World) (g : Nat) (a : Option Addr) (n c p mo dp : Nat) (l : List TmD) (o f r k : Int) (s : ByteArray) (R : List TmD) (hD : l.drop p = ⟨o, f, r, k, s⟩ :: R) (hp : p < n) (hr : RO tmC w a n c l) (hs : tmS ⟨o, f, r, k, s⟩) (ht : ATab w) (h2 : 2 < g) (hoff : Off a g) (hg : Holds w g 47 #[.slice a n c, .int .i64 (p : Int), .int .i64 (mo : Int)]) (hb : rightT ⟨o, f, r, k, s⟩ = false) :
    Calls Tryd.prog 25 #[.pointer (some ⟨g, 0, none⟩), .int .i64 (dp : Int)] w (FiltE w g a n c p mo dp (takeL (l.drop p))) := by
  have hT : Hid (takeL (l.drop p) = (0, 0)) := Lib.hid (by rw [hD, takeL_cons, hb]; rfl)
  have hq : l.getD p tm0 = ⟨o, f, r, k, s⟩ := by
    have h1 : (l.drop p)[0]? = some ⟨o, f, r, k, s⟩ := by rw [hD]; rfl
    rw [List.getElem?_drop] at h1
    simp only [Nat.add_zero] at h1
    simp [List.getD, h1]
  have hm : (n : Int) ≤ 9223372036854775807 := by have := hr.max'; omega
  have hpi : (p : Int) < (n : Int) := by omega
  have hpe : ((p : Int) == (n : Int)) = false := by simp; omega
  have hpn : (p == n) = false := by simp; omega
  obtain ⟨b, off, rfl, hbl, x0, x1, x2, x3, x4⟩ := tm_at hr hp
  rw [hq] at x0 x1 x2 x3 x4
  dsimp only at x0 x1 x2 x3 x4
  have qr := Lib.hid (fun W hW => qright_any ⟨o, f, r, k, s⟩ (txt_ok s) (qstr_empty s) (tmS_max hs) W hW)
  rw [hb] at qr
  have TW := Lib.hid ht
  have HG := Lib.hid hg
  have k0 : ∀ W, Below w.heap.size w W → W.cell? ⟨g, 0, none⟩ = some (.slice (some ⟨b, off, none⟩) n c) := fun W hW => (HG.out.below hW HG.out.lt).cell 0
  have k1 : ∀ W, Below w.heap.size w W → W.cell? ⟨g, 1, none⟩ = some (.int .i64 (p : Int)) := fun W hW => (HG.out.below hW HG.out.lt).cell 1
  have y0 : ∀ W, Below w.heap.size w W → W.cell? ⟨b, off + p * 5, none⟩ = some (.int .i64 o) := fun W hW => (hW.cell (p := ⟨b, off + p * 5, none⟩) hbl).trans x0
  have y1 : ∀ W, Below w.heap.size w W → W.cell? ⟨b, off + p * 5 + 1, none⟩ = some (.int .i64 f) := fun W hW => (hW.cell (p := ⟨b, off + p * 5 + 1, none⟩) hbl).trans x1
  have y2 : ∀ W, Below w.heap.size w W → W.cell? ⟨b, off + p * 5 + 2, none⟩ = some (.int .i64 r) := fun W hW => (hW.cell (p := ⟨b, off + p * 5 + 2, none⟩) hbl).trans x2
  have y3 : ∀ W, Below w.heap.size w W → W.cell? ⟨b, off + p * 5 + 3, none⟩ = some (.int .i64 k) := fun W hW => (hW.cell (p := ⟨b, off + p * 5 + 3, none⟩) hbl).trans x3
  have y4 : ∀ W, Below w.heap.size w W → W.cell? ⟨b, off + p * 5 + 4, none⟩ = some (.string s) := fun W hW => (hW.cell (p := ⟨b, off + p * 5 + 4, none⟩) hbl).trans x4
  generalize takeL (l.drop p) = X at *
  clear x0 x1 x2 x3 x4 hr hs ht hg hb hq hD
  go_enter Tryd.func25, Tryd.ntmps25
  go_wp2
  refine wp_drawn_on (fun W => Below w.heap.size w W) (by kernel_rfl) ((Below.refl _ _).drew) (fun hHeld => ?_)
  refine wT 0 (v := ?v1) rfl (by kernel_rfl) (fun _ _ _ h => h) ?h1 (by assumption) ?r1
  case h1 => (intro w hSw; (try dsimp only at hSw); go_simp; try with_reducible rfl)
  refine wT 1 (v := ?v2) rfl (by kernel_rfl) (fun _ _ _ h => h) ?h2 (by assumption) ?r2
  case h2 => (intro w hSw; (try dsimp only at hSw); go_simp; try with_reducible rfl)
  refine wT 2 (v := ?v3) rfl (by kernel_rfl) (fun _ _ _ h => h) ?h3 (by assumption) ?r3
  case h3 => (intro w hSw; (try dsimp only at hSw); go_simp; try with_reducible rfl)
  refine wT 3 (v := ?v4) rfl (by kernel_rfl) (fun _ _ _ h => h) ?h4 (by assumption) ?r4
  case h4 => (intro w hSw; (try dsimp only at hSw); go_simp; try with_reducible rfl)
  refine wT 4 (v := ?v5) rfl (by kernel_rfl) (fun _ _ _ h => h) ?h5 (by assumption) ?r5
  case h5 => (intro w hSw; (try dsimp only at hSw); go_simp; try with_reducible rfl)
  refine wT 5 (v := ?v6) rfl (by kernel_rfl) (fun _ _ _ h => h) ?h6 (by assumption) ?r6
  case h6 => (intro w hSw; (try dsimp only at hSw); go_simp; try with_reducible rfl)
  refine wT 6 (v := ?v7) rfl (by kernel_rfl) (fun _ _ _ h => h) ?h7 (by assumption) ?r7
  case h7 => (intro w hSw; (try dsimp only at hSw); go_simp; try with_reducible rfl)
  refine wT 7 (v := ?v8) rfl (by kernel_rfl) (fun _ _ _ h => h) ?h8 (by assumption) ?r8
  case h8 => (intro w hSw; (try dsimp only at hSw); go_simp; try with_reducible rfl)
  refine wT 8 (v := ?v9) rfl (by kernel_rfl) (fun _ _ _ h => h) ?h9 (by assumption) ?r9
  case h9 => (intro w hSw; (try dsimp only at hSw); go_simp; try with_reducible rfl)
  refine wT 9 (v := ?v10) rfl (by kernel_rfl) (fun _ _ _ h => h) ?h10 (by assumption) ?r10
  case h10 => (intro w hSw; (try dsimp only at hSw); go_simp; try with_reducible rfl)
  refine wT 10 (v := ?v11) rfl (by kernel_rfl) (fun _ _ _ h => h) ?h11 (by assumption) ?r11
  case h11 => (intro w hSw; (try dsimp only at hSw); go_simp; try with_reducible rfl)
  refine wT 11 (v := ?v12) rfl (by kernel_rfl) (fun _ _ _ h => h) ?h12 (by assumption) ?r12
  case h12 => (intro w hSw; (try dsimp only at hSw); go_simp; try with_reducible rfl)
  refine wT 12 (v := ?v13) rfl (by kernel_rfl) (fun _ _ _ h => h) ?h13 (by assumption) ?r13
  case h13 => (intro w hSw; (try dsimp only at hSw); go_simp; try with_reducible rfl)
  refine wT 13 (v := ?v14) rfl (by kernel_rfl) (fun _ _ _ h => h) ?h14 (by assumption) ?r14
  case h14 => (intro w hSw; (try dsimp only at hSw); go_simp; try with_reducible rfl)
  refine wT 14 (v := ?v15) rfl (by kernel_rfl) (fun _ _ _ h => h) ?h15 (by assumption) ?r15
  case h15 => (intro w hSw; (try dsimp only at hSw); go_simp; try with_reducible rfl)
  refine wT 15 (v := ?v16) rfl (by kernel_rfl) (fun _ _ _ h => h) ?h16 (by assumption) ?r16
  case h16 => (intro w hSw; (try dsimp only at hSw); go_simp; try with_reducible rfl)
  refine wT 16 (v := ?v17) rfl (by kernel_rfl) (fun _ _ _ h => h) ?h17 (by assumption) ?r17
  case h17 => (intro w hSw; (try dsimp only at hSw); go_simp; try with_reducible rfl)
  refine wT 17 (v := ?v18) rfl (by kernel_rfl) (fun _ _ _ h => h) ?h18 (by assumption) ?r18
  case h18 => (intro w hSw; (try dsimp only at hSw); go_simp; try with_reducible rfl)
  refine wT 18 (v := ?v19) rfl (by kernel_rfl) (fun _ _ _ h => h) ?h19 (by assumption) ?r19
  case h19 => (intro w hSw; (try dsimp only at hSw); go_simp; try with_reducible rfl)
  refine wT 19 (v := ?v20) rfl (by kernel_rfl) (fun _ _ _ h => h) ?h20 (by assumption) ?r20
  case h20 => (intro w hSw; (try dsimp only at hSw); go_simp; try with_reducible rfl)
  refine wT 20 (v := ?v21) rfl (by kernel_rfl) (fun _ _ _ h => h) ?h21 (by assumption) ?r21
  case h21 => (intro w hSw; (try dsimp only at hSw); go_simp; try with_reducible rfl)
  try simp only [Act.put, List.setIfInBounds_toArray, List.set_cons_zero, List.set_cons_succ]
  refine wpAnyH_ready (rs := [21]) (by kernel_rfl) (by simp) ?_
  refine AllReadyH.cons (o := ⟨_, _, _, _, _, _⟩) rfl (fun K hK => ?_) AllReadyH.nil
  go_simp
  with_reducible refine (qr.out _ (TW.out.on hHeld)).mono ?_
  rintro e v2 ⟨rfl, b2⟩
  go_simp
  refine hK.out _ _ (hHeld.trans (b2.mono hHeld.size)) (fun hHeld => ?_)
  clear hK K
  refine wT 22 (v := ?v22) rfl (by kernel_rfl) (fun _ _ _ h => h) ?h22 (by assumption) ?r22
  case h22 => (intro w hSw; (try dsimp only at hSw); go_simp; try with_reducible rfl)
  refine wT 23 (v := ?v23) rfl (by kernel_rfl) (fun _ _ _ h => h) ?h23 (by assumption) ?r23
  case h23 => (intro w hSw; (try dsimp only at hSw); go_simp; try with_reducible rfl)
  try simp only [Act.put, List.setIfInBounds_toArray, List.set_cons_zero, List.set_cons_succ]
  refine wpAnyH_done (by kernel_rfl) ?_ _
  clear k0 k1 y0 y1 y2 y3 y4 b2
  go_wp2
  go_ret
  exact ⟨by rw [hT.out]; rfl, BelowE.of hHeld, p, mo, HG.out.below hHeld HG.out.lt, by rw [hT.out]; exact fun h => absurd rfl h⟩
theorem steps_in {l : List TmD} {p n : Nat} {t : TmD} {R : List TmD} (hD : l.drop p = t :: R) (hn : n = l.length) (i : Nat) : (stepsL (l.drop p) i).1 + p ≤ n ∧ 1 ≤ (stepsL (l.drop p) i).1 ∧ (stepsL (l.drop p) i).2 + 1 ≤ n - p := by
  have e : (l.drop p).length = n - p := by rw [List.length_drop, hn]
  have z1 := steps_le t R i
  have z2 := steps_pos (l.drop p) i
  have z3 := steps_deep t R i
  rw [← hD, e] at z1 z3
  omega
theorem walker_set {V : World} {g : Nat} {a : Option Addr} {n c p mo dp : Nat} (h : Holds V g 47 #[.slice a n c, .int .i64 (p : Int), .int .i64 (mo : Int)]) :
    Holds ((V.setCell ⟨g, 1, none⟩ (.int .i64 ((p : Int) + 1))).setCell ⟨g, 2, none⟩ (.int .i64 (max (mo : Int) (dp : Int)))) g 47 #[.slice a n c, .int .i64 ((p + 1 : Nat) : Int), .int .i64 ((max mo dp : Nat) : Int)] := by
  have := ((h.set 1 (.int .i64 ((p : Int) + 1))).set 2 (.int .i64 (max (mo : Int) (dp : Int))))
  rw [show ((p + 1 : Nat) : Int) = (p : Int) + 1 by omega, show ((max mo dp : Nat) : Int) = max (mo : Int) (dp : Int) by omega]
  exact this
theorem arity_two (o : Int) : arity o ≤ 2 := by unfold arity; split <;> (try split) <;> omega
theorem walker_next {W : World} {g : Nat} {a : Option Addr} {n c p mo dp A D y1 y2 p' mo' : Nat} (h : Holds W g 47 #[.slice a n c, .int .i64 (p' : Int), .int .i64 (mo' : Int)]) (e1 : p' = p + A + y1) (e2 : mo' = max (max mo (dp + D)) (dp + 1 + y2 - 1)) :
    Holds W g 47 #[.slice a n c, .int .i64 ((p + (A + y1) : Nat) : Int), .int .i64 ((max mo (dp + max D y2) : Nat) : Int)] := by
  rw [e1, e2] at h
  rw [show p + (A + y1) = p + A + y1 by omega, show max mo (dp + max D y2) = max (max mo (dp + D)) (dp + 1 + y2 - 1) by omega]
  exact h
set_option maxRecDepth 100000 in
set_option maxHeartbeats 8000000 in
theorem filt_ok (N : Nat) (ih : FiltOK N) (w : World) (g : Nat) (a : Option Addr) (n c p mo dp : Nat) (l : List TmD) (o f r k : Int) (s : ByteArray) (R : List TmD) (hN : n - p < N + 1) (hD : l.drop p = ⟨o, f, r, k, s⟩ :: R) (hp : p < n) (hr : RO tmC w a n c l) (hall : ∀ t ∈ l, tmS t) (ht : ATab w) (h2 : 2 < g) (hoff : Off a g) (hg : Holds w g 47 #[.slice a n c, .int .i64 (p : Int), .int .i64 (mo : Int)]) (hdp : dp + (n - p) ≤ 1000000) (hmo : mo ≤ 1000000) (hb : rightT ⟨o, f, r, k, s⟩ = true) :
    Calls Tryd.prog 25 #[.pointer (some ⟨g, 0, none⟩), .int .i64 (dp : Int)] w (FiltE w g a n c p mo dp (takeL (l.drop p))) := by
  have hq : l.getD p tm0 = ⟨o, f, r, k, s⟩ := by
    have h1 : (l.drop p)[0]? = some ⟨o, f, r, k, s⟩ := by rw [hD]; rfl
    rw [List.getElem?_drop] at h1
    simp only [Nat.add_zero] at h1
    simp [List.getD, h1]
  have hs : tmS ⟨o, f, r, k, s⟩ := hall _ (by rw [← hq]; rw [show l.getD p tm0 = l[p]'(by rw [← hr.len]; exact hp) by simp [List.getD, show p < l.length by rw [← hr.len]; exact hp]]; exact List.getElem_mem _)
  have hm : (n : Int) ≤ 9223372036854775807 := by have := hr.max'; omega
  have hpi : (p : Int) < (n : Int) := by omega
  have hpe : ((p : Int) == (n : Int)) = false := by simp; omega
  have hpn : (p == n) = false := by simp; omega
  have ho := right_ops hb
  have hops := Lib.hid ho
  dsimp only at ho
  obtain ⟨b, off, rfl, hbl, x0, x1, x2, x3, x4⟩ := tm_at hr hp
  rw [hq] at x0 x1 x2 x3 x4
  dsimp only at x0 x1 x2 x3 x4
  have qr := Lib.hid (fun W hW => qright_any ⟨o, f, r, k, s⟩ (txt_ok s) (qstr_empty s) (tmS_max hs) W hW)
  rw [hb] at qr
  have TW := Lib.hid ht
  have HG := Lib.hid hg
  have RW := Lib.hid hr
  have k0 : ∀ W, Below w.heap.size w W → W.cell? ⟨g, 0, none⟩ = some (.slice (some ⟨b, off, none⟩) n c) := fun W hW => (HG.out.below hW HG.out.lt).cell 0
  have k1 : ∀ W, Below w.heap.size w W → W.cell? ⟨g, 1, none⟩ = some (.int .i64 (p : Int)) := fun W hW => (HG.out.below hW HG.out.lt).cell 1
  have y0 : ∀ W, Below w.heap.size w W → W.cell? ⟨b, off + p * 5, none⟩ = some (.int .i64 o) := fun W hW => (hW.cell (p := ⟨b, off + p * 5, none⟩) hbl).trans x0
  have y1 : ∀ W, Below w.heap.size w W → W.cell? ⟨b, off + p * 5 + 1, none⟩ = some (.int .i64 f) := fun W hW => (hW.cell (p := ⟨b, off + p * 5 + 1, none⟩) hbl).trans x1
  have y2 : ∀ W, Below w.heap.size w W → W.cell? ⟨b, off + p * 5 + 2, none⟩ = some (.int .i64 r) := fun W hW => (hW.cell (p := ⟨b, off + p * 5 + 2, none⟩) hbl).trans x2
  have y3 : ∀ W, Below w.heap.size w W → W.cell? ⟨b, off + p * 5 + 3, none⟩ = some (.int .i64 k) := fun W hW => (hW.cell (p := ⟨b, off + p * 5 + 3, none⟩) hbl).trans x3
  have y4 : ∀ W, Below w.heap.size w W → W.cell? ⟨b, off + p * 5 + 4, none⟩ = some (.string s) := fun W hW => (hW.cell (p := ⟨b, off + p * 5 + 4, none⟩) hbl).trans x4
  have hfin := Lib.hid (fun gg => take_all (t := ⟨o, f, r, k, s⟩) (r := R) hb gg)
  have hD' := Lib.hid hD
  have ih' := Lib.hid ih
  have hall' := Lib.hid hall
  have hoff' := Lib.hid hoff
  clear ih hall hoff
  generalize hX : takeL (l.drop p) = X at *
  have hX' := Lib.hid hX
  clear x0 x1 x2 x3 x4 hr hs ht hg hb hq hX hD
  go_enter Tryd.func25, Tryd.ntmps25
  go_wp2
  refine wp_drawn_on (fun W => Below w.heap.size w W) (by kernel_rfl) ((Below.refl _ _).drew) (fun hHeld => ?_)
  refine wT 0 (v := ?v24) rfl (by kernel_rfl) (fun _ _ _ h => h) ?h24 (by assumption) ?r24
  case h24 => (intro w hSw; (try dsimp only at hSw); go_simp; try with_reducible rfl)
  refine wT 1 (v := ?v25) rfl (by kernel_rfl) (fun _ _ _ h => h) ?h25 (by assumption) ?r25
  case h25 => (intro w hSw; (try dsimp only at hSw); go_simp; try with_reducible rfl)
  refine wT 2 (v := ?v26) rfl (by kernel_rfl) (fun _ _ _ h => h) ?h26 (by assumption) ?r26
  case h26 => (intro w hSw; (try dsimp only at hSw); go_simp; try with_reducible rfl)
  refine wT 3 (v := ?v27) rfl (by kernel_rfl) (fun _ _ _ h => h) ?h27 (by assumption) ?r27
  case h27 => (intro w hSw; (try dsimp only at hSw); go_simp; try with_reducible rfl)
  refine wT 4 (v := ?v28) rfl (by kernel_rfl) (fun _ _ _ h => h) ?h28 (by assumption) ?r28
  case h28 => (intro w hSw; (try dsimp only at hSw); go_simp; try with_reducible rfl)
  refine wT 5 (v := ?v29) rfl (by kernel_rfl) (fun _ _ _ h => h) ?h29 (by assumption) ?r29
  case h29 => (intro w hSw; (try dsimp only at hSw); go_simp; try with_reducible rfl)
  refine wT 6 (v := ?v30) rfl (by kernel_rfl) (fun _ _ _ h => h) ?h30 (by assumption) ?r30
  case h30 => (intro w hSw; (try dsimp only at hSw); go_simp; try with_reducible rfl)
  refine wT 7 (v := ?v31) rfl (by kernel_rfl) (fun _ _ _ h => h) ?h31 (by assumption) ?r31
  case h31 => (intro w hSw; (try dsimp only at hSw); go_simp; try with_reducible rfl)
  refine wT 8 (v := ?v32) rfl (by kernel_rfl) (fun _ _ _ h => h) ?h32 (by assumption) ?r32
  case h32 => (intro w hSw; (try dsimp only at hSw); go_simp; try with_reducible rfl)
  refine wT 9 (v := ?v33) rfl (by kernel_rfl) (fun _ _ _ h => h) ?h33 (by assumption) ?r33
  case h33 => (intro w hSw; (try dsimp only at hSw); go_simp; try with_reducible rfl)
  refine wT 10 (v := ?v34) rfl (by kernel_rfl) (fun _ _ _ h => h) ?h34 (by assumption) ?r34
  case h34 => (intro w hSw; (try dsimp only at hSw); go_simp; try with_reducible rfl)
  refine wT 11 (v := ?v35) rfl (by kernel_rfl) (fun _ _ _ h => h) ?h35 (by assumption) ?r35
  case h35 => (intro w hSw; (try dsimp only at hSw); go_simp; try with_reducible rfl)
  refine wT 12 (v := ?v36) rfl (by kernel_rfl) (fun _ _ _ h => h) ?h36 (by assumption) ?r36
  case h36 => (intro w hSw; (try dsimp only at hSw); go_simp; try with_reducible rfl)
  refine wT 13 (v := ?v37) rfl (by kernel_rfl) (fun _ _ _ h => h) ?h37 (by assumption) ?r37
  case h37 => (intro w hSw; (try dsimp only at hSw); go_simp; try with_reducible rfl)
  refine wT 14 (v := ?v38) rfl (by kernel_rfl) (fun _ _ _ h => h) ?h38 (by assumption) ?r38
  case h38 => (intro w hSw; (try dsimp only at hSw); go_simp; try with_reducible rfl)
  refine wT 15 (v := ?v39) rfl (by kernel_rfl) (fun _ _ _ h => h) ?h39 (by assumption) ?r39
  case h39 => (intro w hSw; (try dsimp only at hSw); go_simp; try with_reducible rfl)
  refine wT 16 (v := ?v40) rfl (by kernel_rfl) (fun _ _ _ h => h) ?h40 (by assumption) ?r40
  case h40 => (intro w hSw; (try dsimp only at hSw); go_simp; try with_reducible rfl)
  refine wT 17 (v := ?v41) rfl (by kernel_rfl) (fun _ _ _ h => h) ?h41 (by assumption) ?r41
  case h41 => (intro w hSw; (try dsimp only at hSw); go_simp; try with_reducible rfl)
  refine wT 18 (v := ?v42) rfl (by kernel_rfl) (fun _ _ _ h => h) ?h42 (by assumption) ?r42
  case h42 => (intro w hSw; (try dsimp only at hSw); go_simp; try with_reducible rfl)
  refine wT 19 (v := ?v43) rfl (by kernel_rfl) (fun _ _ _ h => h) ?h43 (by assumption) ?r43
  case h43 => (intro w hSw; (try dsimp only at hSw); go_simp; try with_reducible rfl)
  refine wT 20 (v := ?v44) rfl (by kernel_rfl) (fun _ _ _ h => h) ?h44 (by assumption) ?r44
  case h44 => (intro w hSw; (try dsimp only at hSw); go_simp; try with_reducible rfl)
  try simp only [Act.put, List.setIfInBounds_toArray, List.set_cons_zero, List.set_cons_succ]
  refine wpAnyH_ready (rs := [21]) (by kernel_rfl) (by simp) ?_
  refine AllReadyH.cons (o := ⟨_, _, _, _, _, _⟩) rfl (fun K hK => ?_) AllReadyH.nil
  go_simp
  with_reducible refine (qr.out _ (TW.out.on hHeld)).mono ?_
  rintro e v2 ⟨rfl, b2⟩
  go_simp
  refine hK.out _ _ (hHeld.trans (b2.mono hHeld.size)) (fun hHeld => ?_)
  clear hK K
  refine wT 22 (v := ?v45) rfl (by kernel_rfl) (fun _ _ _ h => h) ?h45 (by assumption) ?r45
  case h45 => (intro w hSw; (try dsimp only at hSw); go_simp; try with_reducible rfl)
  refine wT 23 (v := ?v46) rfl (by kernel_rfl) (fun _ _ _ h => h) ?h46 (by assumption) ?r46
  case h46 => (intro w hSw; (try dsimp only at hSw); go_simp; try with_reducible rfl)
  try simp only [Act.put, List.setIfInBounds_toArray, List.set_cons_zero, List.set_cons_succ]
  refine wpAnyH_done (by kernel_rfl) ?_ _
  have z0 := k0 v2 hHeld
  have z1 := k1 v2 hHeld
  have zy0 := y0 v2 hHeld
  have zy1 := y1 v2 hHeld
  have zy2 := y2 v2 hHeld
  have zy3 := y3 v2 hHeld
  have zy4 := y4 v2 hHeld
  have HG2 := Lib.hid (HG.out.below hHeld HG.out.lt)
  have RW2 := Lib.hid (RW.out.below hHeld)
  have hHeld2 := Lib.hid hHeld
  have hgl : g < v2.heap.size := HG2.out.lt
  have hbl2 : b < v2.heap.size := Nat.lt_of_lt_of_le hbl hHeld.size
  clear k0 k1 y0 y1 y2 y3 y4 b2 hHeld
  go_wp2
  go_region
  obtain ⟨gt, hgt⟩ : ∃ gt, gt = v2.heap.size := ⟨_, rfl⟩
  have hgg : g ≠ gt := by omega
  have h1 := TW.out.size
  have h1' := hHeld2.out.size
  obtain ⟨V3, hV3⟩ : ∃ V3, V3 = (v2.alloc (.cells #[.int .i64 o, .int .i64 f, .int .i64 r, .int .i64 k, .string s] 38)).drew := ⟨_, rfl⟩
  have B3 : Below v2.heap.size v2 V3 := by rw [hV3]; exact (box_below _ _ _).drew
  have HT : Hid (Holds V3 gt 38 #[.int .i64 o, .int .i64 f, .int .i64 r, .int .i64 k, .string s]) := Lib.hid (by rw [hV3, hgt]; exact Holds.drew (Holds.new _ _ _))
  have HG3 := Lib.hid (HG2.out.below B3 HG2.out.lt)
  have RW3 := Lib.hid (RW2.out.below B3)
  have T3 := Lib.hid ((TW.out.on hHeld2.out).on B3)
  have BB := Lib.hid (hHeld2.out.trans (B3.mono hHeld2.out.size))
  have hgt3 : 2 < gt := by omega
  have hV3' := Lib.hid hV3
  have hgt' := Lib.hid hgt
  rw [← hV3, ← hgt]
  clear hV3 hgt B3 z0 z1 zy0 zy1 zy2 zy3 zy4 HG2 RW2 hgl hbl2 h1 h1'
  clear hV3' hgt'
  have k0 := HG3.out.cell 0
  have k1 := HG3.out.cell 1
  have k2 := HG3.out.cell 2
  have f0 := HG3.out.free 0
  have f1 := HG3.out.free 1
  have f2 := HG3.out.free 2
  have t0 := HT.out.cell 0
  simp at k0 k1 k2 t0
  obtain ⟨q, rfl⟩ := Int.eq_ofNat_of_zero_le (show 0 ≤ o by omega)
  have hq6 : (q : Int) < 6 := by omega
  have ab := T3.out.about q (by omega)
  have hab := about_is (q : Int) ho.1 ho.2
  rw [Int.toNat_natCast] at hab
  rw [hab] at ab
  have g0 : (0 : Nat) ≠ g := by omega
  have g0' : g ≠ 0 := by omega
  clear ab t0
  go_upto_region 6 with fail
  obtain ⟨V5, hV5⟩ : ∃ V5, V5 = (V3.setCell ⟨g, 1, none⟩ (.int .i64 ((p : Int) + 1))).setCell ⟨g, 2, none⟩ (.int .i64 (max (mo : Int) (dp : Int))) := ⟨_, rfl⟩
  have E5 : BelowE [g] V3.heap.size V3 V5 := by rw [hV5]; exact ((BelowE.refl _ _ _).setIn (by simp) _).setIn (by simp) _
  have HG5 : Hid (Holds V5 g 47 #[.slice (some ⟨b, off, none⟩) n c, .int .i64 (((p + 1 : Nat) : Int)), .int .i64 ((max mo dp : Nat) : Int)]) := Lib.hid (by rw [hV5]; exact walker_set HG3.out)
  have HT5 := HT.out.belowE E5 HT.out.lt (by simp; omega)
  have RW5 := Lib.hid (RW3.out.belowE E5 hoff'.out)
  have T5 := Lib.hid (T3.out.onE E5 (by simp; omega))
  have BE := Lib.hid ((BelowE.of (X := [g]) BB.out).trans (E5.mono BB.out.size))
  have ab := T5.out.about q (by omega)
  rw [hab] at ab
  have t0 := HT5.cell 0
  simp at t0
  rw [← hV5]
  clear hV5 E5 HT5 HG3 RW3 T3 HT BB k0 k1 k2 f0 f1 f2
  have ho' := Lib.hid ho
  have har2 : arity (q : Int) ≤ 2 := arity_two _
  obtain ⟨m, hm0⟩ : ∃ m, m = arity (q : Int) := ⟨_, rfl⟩
  rw [← hm0] at ab har2
  have hfin2 : Hid (goodU (l.drop p) m → X = ((stepsL (l.drop p) m).1, (stepsL (l.drop p) m).2 + 1)) := Lib.hid (fun gg => by rw [← hX'.out, hm0]; rw [hD'.out]; exact hfin.out (by rw [hm0, hD'.out] at gg; exact gg))
  have hnone : Hid (∀ i, i < m → goodU (l.drop p) i → (takeL ((l.drop p).drop (stepsL (l.drop p) i).1)).1 = 0 → X = (0, 0)) := Lib.hid (fun i hi gg z => by rw [← hX'.out]; rw [hD'.out] at gg z ⊢; exact take_none (by rw [← hm0]; exact hi) gg z)
  have hst : Hid (∀ i, (stepsL (l.drop p) i).1 + p ≤ n ∧ 1 ≤ (stepsL (l.drop p) i).1 ∧ (stepsL (l.drop p) i).2 + 1 ≤ n - p) := Lib.hid (fun i => steps_in hD'.out RW5.out.len i)
  have hnx : Hid (∀ i, goodU (l.drop p) i → (takeL ((l.drop p).drop (stepsL (l.drop p) i).1)).1 ≠ 0 → goodU (l.drop p) (i + 1)) := Lib.hid (fun i gg z => goodU_next gg z)
  have hss : Hid (∀ i, stepsL (l.drop p) (i + 1) = ((stepsL (l.drop p) i).1 + (takeL ((l.drop p).drop (stepsL (l.drop p) i).1)).1, max (stepsL (l.drop p) i).2 (takeL ((l.drop p).drop (stepsL (l.drop p) i).1)).2)) := Lib.hid (fun i => rfl)
  have hs0 : Hid (stepsL (l.drop p) 0 = (1, 0)) := Lib.hid rfl
  have hg0 : Hid (goodU (l.drop p) 0) := Lib.hid (fun j hj => by omega)
  have hm0' := Lib.hid hm0
  clear hm0 hab hfin ho
  have hmi : (m : Int) ≤ 2 := by omega
  go_wp2
  go_loopw [60] (fun x wr => ∃ i : Nat, i ≤ m ∧ x = .int .i64 (i : Int) ∧ Hid (goodU (l.drop p) i) ∧ Hid (BelowE [g] w.heap.size w wr) ∧ Hid (BelowE [g] V5.heap.size V5 wr) ∧ Hid (Holds wr g 47 #[.slice (some ⟨b, off, none⟩) n c, .int .i64 ((p + (stepsL (l.drop p) i).1 : Nat) : Int), .int .i64 ((max mo (dp + (stepsL (l.drop p) i).2) : Nat) : Int)])) (fun x _ => m - (intOf x).toNat)
  case atStart => exact ⟨0, Nat.zero_le _, rfl, hg0, BE, Lib.hid (BelowE.refl _ _ _), Lib.hid (by rw [hs0.out]; exact HG5.out)⟩
  case round =>
    obtain ⟨i, hi, rfl, hg, hB, hV, hH⟩ := hrel
    generalize wr = u0 at *
    by_cases hlt : i < m
    · have hii : (i : Int) < (m : Int) := by omega
      obtain ⟨z1, z2, z3⟩ := hst.out i
      have qF := ih'.out u0 g (some ⟨b, off, none⟩) n c (p + (stepsL (l.drop p) i).1) (max mo (dp + (stepsL (l.drop p) i).2)) (dp + 1) l (by omega) (by omega) (RW5.out.belowE hV.out hoff'.out) hall'.out (T5.out.onE hV.out (by simp; omega)) h2 hoff'.out hH.out (by omega) (by omega)
      rw [← List.drop_drop] at qF
      have y1 := fun z => hnone.out i hlt hg.out z
      have y2 := fun z => hnx.out i hg.out z
      have y3 := hss.out i
      have qF' := Lib.hid qF
      have y1' := Lib.hid y1
      have y2' := Lib.hid y2
      have y3' := Lib.hid y3
      have hdw : wrap64 ((dp : Int) + 1) = ((dp + 1 : Nat) : Int) := by unfold wrap64; omega
      clear qF y1 y2 y3 hH
      generalize takeL ((l.drop p).drop (stepsL (l.drop p) i).1) = Y at *
      go_wp2_with fail
      refine qF'.out.mono ?_
      rintro e u1 ⟨rfl, b1, p', mo', hH1, hpm⟩
      have hB1 := Lib.hid (hB.out.trans (b1.mono hB.out.size))
      have hV1 := Lib.hid (hV.out.trans (b1.mono hV.out.size))
      have hH1' := Lib.hid hH1
      have hpm' := Lib.hid hpm
      clear b1 hH1 hpm hB hV qF'
      by_cases hz : Y.1 = 0
      · have hF : Hid (X = (0, 0)) := Lib.hid (y1'.out hz)
        have hzd : decide (Y.1 ≠ 0) = false := by simp [hz]
        clear y1' y2' y3'
        go_wp2
        go_ret
        exact ⟨by rw [hF.out]; rfl, hB1.out, p', mo', hH1'.out, by rw [hF.out]; exact fun h => absurd rfl h⟩
      · have hzd : decide (Y.1 ≠ 0) = true := by simp [hz]
        obtain ⟨e1, e2⟩ := hpm'.out hz
        have hg1 := Lib.hid (y2'.out hz)
        have hHn : Hid (Holds u1 g 47 #[.slice (some ⟨b, off, none⟩) n c, .int .i64 ((p + (stepsL (l.drop p) (i + 1)).1 : Nat) : Int), .int .i64 ((max mo (dp + (stepsL (l.drop p) (i + 1)).2) : Nat) : Int)]) := Lib.hid (by rw [y3'.out]; exact walker_next hH1'.out e1 e2)
        clear y1' y2' y3' e1 e2 hpm' hH1' hz
        go_wp2
        go_roundw
        case rel => exact ⟨i + 1, by omega, by go_num, hg1, hB1, hV1, hHn⟩
        case measure => simp [intOf]; omega
    · have hii : ¬ (i : Int) < (m : Int) := by omega
      obtain rfl : i = m := by omega
      have hF := Lib.hid (hfin2.out hg.out)
      obtain ⟨z1, z2, z3⟩ := hst.out i
      clear hfin2 hnone hst hnx hss
      go_wp2
      go_ret
      exact ⟨by rw [hF.out]; simp; omega, hB.out, _, _, hH.out, by rw [hF.out]; intro _; exact ⟨rfl, by dsimp only; omega⟩⟩
end Go.Proofs.YtknnjkhocbpohaaDoor
namespace Go.Proofs.YtknnjkhocbpohaaDoor
open Go.RowKit
set_option linter.unusedVariables false
set_option linter.unusedSimpArgs false
theorem filt_any : ∀ N, FiltOK N
  | 0 => fun w g a n c p mo dp l h => absurd h (by omega)
  | N + 1 => fun w g a n c p mo dp l h hp hr hs ht h2 hoff hg hdp hmo => by
    have ih := filt_any N
    have hlen := hr.len
    by_cases he : p = n
    · subst he
      exact filt_end w g a p c mo dp l hlen.symm (by have := hr.max'; omega) hg
    · cases hD : l.drop p with
      | nil =>
        have := congrArg List.length hD
        rw [List.length_drop] at this
        simp at this
        omega
      | cons t R =>
        obtain ⟨o, f, r, k, s⟩ := t
        have hts : tmS ⟨o, f, r, k, s⟩ := hs _ (List.mem_of_mem_drop (i := p) (by rw [hD]; exact List.mem_cons_self))
        rw [← hD]
        cases hb : rightT ⟨o, f, r, k, s⟩
        · exact filt_bad w g a n c p mo dp l o f r k s R hD (by omega) hr hts ht h2 hoff hg hb
        · exact filt_ok N ih w g a n c p mo dp l o f r k s R h hD (by omega) hr hs ht h2 hoff hg hdp hmo hb
theorem filt_new (w : World) (a : Option Addr) (n c p : Nat) (l : List TmD) (hp : p ≤ n) (hn : n ≤ 100000) (hr : RO tmC w a n c l) (hs : ∀ t ∈ l, tmS t) (ht : ATab w) :
    Calls Tryd.prog 25 #[.pointer (some ⟨w.heap.size, 0, none⟩), .int .i64 1] (w.alloc (.cells #[.slice a n c, .int .i64 (p : Int), .int .i64 0] 47))
      (FiltE (w.alloc (.cells #[.slice a n c, .int .i64 (p : Int), .int .i64 0] 47)) w.heap.size a n c p 0 1 (takeL (l.drop p))) := by
  by_cases h0 : p = n
  · subst h0
    exact filt_end _ w.heap.size a p c 0 1 l hr.len.symm (by omega) (Holds.new _ _ _)
  · have hb := box_below w #[.slice a n c, .int .i64 (p : Int), .int .i64 0] 47
    exact filt_any (n + 1) _ w.heap.size a n c p 0 1 l (by omega) hp (hr.below hb) hs (ht.on hb) (by have := ht.size; omega) (off_new hr (by
      intro e
      have := congrArg List.length e
      rw [flat_len tmC_len] at this
      have := hr.len
      simp at *
      omega)) (Holds.new _ _ _) (by omega) (by omega)
theorem filtE_of (l : List TmD) (h1 : l.length ≤ 128) (X : Nat × Nat) (hX : takeL l = X) : filtE l = if X.1 = 0 then 320 else if X.1 < l.length then 320 else if 32 < X.2 then 3 else 0 := by
  unfold filtE
  rw [if_neg (by omega), hX]
  by_cases h2 : X.1 = 0
  · rw [if_pos (.inl h2), if_pos h2]
  · rw [if_neg h2]
    by_cases h3 : X.1 < l.length
    · rw [if_pos (.inr h3), if_pos h3]
    · rw [if_neg (by omega), if_neg h3]
set_option maxRecDepth 100000 in
set_option maxHeartbeats 4000000 in
theorem qfilter_any (w : World) (a : Option Addr) (n c : Nat) (l : List TmD) (hr : RO tmC w a n c l) (hs : ∀ t ∈ l, tmS t) (ht : ATab w) : Calls Tryd.prog 13 #[.slice a n c] w (Gives (.int .i64 (filtE l)) w) := by
  have hm : (n : Int) ≤ 9223372036854775807 := by have := hr.max'; omega
  have hlen := hr.len
  by_cases h1 : 128 < n
  · have hF : Hid (filtE l = 3) := Lib.hid (by unfold filtE; rw [if_pos (by omega)])
    have h1i : (128 : Int) < (n : Int) := by omega
    generalize filtE l = E at *
    clear hr hs ht hlen
    go_enter Tryd.func13, Tryd.ntmps13
    go_wp2
    go_ret
    exact ⟨by rw [hF.out]; rfl, Below.refl _ _⟩
  · have h1i : ¬ (128 : Int) < (n : Int) := by omega
    have hX := filtE_of l (by omega) _ rfl
    have q := filt_new w a n c 0 l (Nat.zero_le _) (by omega) hr hs ht
    rw [List.drop_zero] at q
    have hle := takeL_le l
    rw [← hlen] at hX hle
    have hX' := Lib.hid hX
    have q' := Lib.hid q
    have b0 := Lib.hid (box_below w #[.slice a n c, .int .i64 0, .int .i64 0] 47)
    obtain ⟨U, hU⟩ : ∃ U, U = w.alloc (.cells #[.slice a n c, .int .i64 0, .int .i64 0] 47) := ⟨_, rfl⟩
    have bU : Below w.heap.size w U := by rw [hU]; exact b0.out
    have q2 : Hid (Calls Tryd.prog 25 #[.pointer (some ⟨w.heap.size, 0, none⟩), .int .i64 1] U (FiltE U w.heap.size a n c 0 0 1 (takeL l))) := Lib.hid (by rw [hU]; exact q)
    have hlt : w.heap.size < U.heap.size := by rw [hU]; simp
    have hU' := Lib.hid hU
    have bU' := Lib.hid bU
    generalize takeL l = X at *
    generalize filtE l = E at *
    obtain ⟨X1, X2⟩ := X
    dsimp only at hle
    clear hX q q' hU bU b0 hr hs ht hlen
    go_enter Tryd.func13, Tryd.ntmps13
    go_wp2_with fail
    rw [← hU'.out]
    refine q2.out.mono ?_
    rintro e u1 ⟨rfl, b1, p', mo', hH, hpm⟩
    have hbel : Below w.heap.size w u1 := bU'.out.trans ((b1.mono (Nat.le_of_lt hlt)).less (fun x hx hlx => by simp at hx; omega) |>.none)
    have hb' := Lib.hid hbel
    have k1 := hH.cell 1
    have k2 := hH.cell 2
    simp at k1 k2
    clear q2 b1 hU' bU' hbel hH hlt
    by_cases hz : X1 = 0
    · have hd : decide (X1 ≠ 0) = false := by simp [hz]
      have hF : Hid (E = 320) := Lib.hid (by rw [hX'.out, if_pos hz])
      clear hX' hpm hz
      go_wp2
      go_ret
      exact ⟨by rw [hF.out]; rfl, hb'.out⟩
    · have hd : decide (X1 ≠ 0) = true := by simp [hz]
      obtain ⟨e1, e2⟩ := hpm hz
      simp only [Nat.zero_add] at e1
      have e2' : mo' = X2 := by rw [e2]; simp only; omega
      clear hpm e2
      subst e1 e2'
      by_cases h3 : p' < n
      · have h3i : (p' : Int) < (n : Int) := by omega
        have hF : Hid (E = 320) := Lib.hid (by rw [hX'.out, if_neg hz, if_pos h3])
        clear hX' hz
        go_wp2
        go_ret
        exact ⟨by rw [hF.out]; rfl, hb'.out⟩
      · have h3i : ¬ (p' : Int) < (n : Int) := by omega
        by_cases h4 : 32 < mo'
        · have h4i : (32 : Int) < (mo' : Int) := by omega
          have hF : Hid (E = 3) := Lib.hid (by rw [hX'.out, if_neg hz, if_neg h3, if_pos h4])
          clear hX' hz
          go_wp2
          go_ret
          exact ⟨by rw [hF.out]; rfl, hb'.out⟩
        · have h4i : ¬ (32 : Int) < (mo' : Int) := by omega
          have hF : Hid (E = 0) := Lib.hid (by rw [hX'.out, if_neg hz, if_neg h3, if_neg h4])
          clear hX' hz
          go_wp2
          go_ret
          exact ⟨by rw [hF.out]; rfl, hb'.out⟩
def nestN (l : List TmD) : Nat := if filtE l = 0 then (takeL l).2 else 0
set_option maxRecDepth 100000 in
set_option maxHeartbeats 4000000 in
theorem qnest_any (w : World) (a : Option Addr) (n c : Nat) (l : List TmD) (hr : RO tmC w a n c l) (hs : ∀ t ∈ l, tmS t) (ht : ATab w) : Calls Tryd.prog 14 #[.slice a n c] w (Gives (.int .i64 (nestN l : Int)) w) := by
  have qf := Lib.hid (qfilter_any w a n c l hr hs ht)
  by_cases h0 : filtE l = 0
  · have hF : Hid (nestN l = (takeL l).2) := Lib.hid (by unfold nestN; rw [if_pos h0])
    have hn : n ≤ 128 := by
      unfold filtE at h0
      by_cases h1 : 128 < l.length
      · rw [if_pos h1] at h0; omega
      · rw [hr.len]; omega
    have hX1 : (takeL l).1 ≠ 0 := by
      intro e
      unfold filtE at h0
      rw [if_neg (by rw [← hr.len]; omega), if_pos (.inl e)] at h0
      omega
    rw [h0] at qf
    have qn := Lib.hid (fun W (hb : Below w.heap.size w W) => by
      have q := filt_new W a n c 0 l (Nat.zero_le _) (by omega) (hr.below hb) hs (ht.on hb)
      rw [List.drop_zero] at q
      exact q)
    generalize nestN l = E at *
    generalize takeL l = X at *
    obtain ⟨X1, X2⟩ := X
    dsimp only at hX1 hF
    clear h0 hr hs ht
    go_enter Tryd.func14, Tryd.ntmps14
    go_wp2_with fail
    refine qf.out.mono ?_
    rintro e u1 ⟨rfl, b1⟩
    have q2 := Lib.hid (qn.out u1 b1)
    have hh := Lib.hid b1
    clear b1 qf qn
    obtain ⟨U, hU⟩ : ∃ U, U = u1.alloc (.cells #[.slice a n c, .int .i64 0, .int .i64 0] 47) := ⟨_, rfl⟩
    have bU : Below u1.heap.size u1 U := by rw [hU]; exact box_below _ _ _
    have q3 : Hid (Calls Tryd.prog 25 #[.pointer (some ⟨u1.heap.size, 0, none⟩), .int .i64 1] U (FiltE U u1.heap.size a n c 0 0 1 (X1, X2))) := Lib.hid (by rw [hU]; exact q2.out)
    have hlt : u1.heap.size < U.heap.size := by rw [hU]; simp
    have hU' := Lib.hid hU
    have bU' := Lib.hid (hh.out.trans (bU.mono hh.out.size))
    have hsz := Lib.hid hh.out.size
    clear hU bU q2 hh
    go_wp2_with fail
    rw [← hU'.out]
    refine q3.out.mono ?_
    rintro e u2 ⟨rfl, b1, p', mo', hH, hpm⟩
    have hbel : Below w.heap.size w u2 := bU'.out.trans (((b1.mono (Nat.le_trans hsz.out (Nat.le_of_lt hlt))).less (fun x hx hlx => by simp at hx; have := hsz.out; omega)).none)
    have hb' := Lib.hid hbel
    have k2 := hH.cell 2
    simp at k2
    obtain ⟨e1, e2⟩ := hpm hX1
    have e2' : Hid (mo' = X2) := Lib.hid (by rw [e2]; simp only; omega)
    clear q3 b1 hU' bU' hbel hH hlt e1 e2 hX1 hpm
    go_wp2
    go_ret
    exact ⟨by rw [hF.out, ← e2'.out]; rfl, hb'.out⟩
  · have hF : Hid (nestN l = 0) := Lib.hid (by unfold nestN; rw [if_neg h0])
    have hE : (filtE l != 0) = true := by simpa using h0
    generalize nestN l = E at *
    generalize filtE l = G at *
    clear h0 hr hs ht
    go_enter Tryd.func14, Tryd.ntmps14
    go_wp2_with fail
    refine qf.out.mono ?_
    rintro e u1 ⟨rfl, b1⟩
    have hb' := Lib.hid b1
    clear b1
    go_wp2
    go_ret
    exact ⟨by rw [hF.out]; rfl, hb'.out⟩
end Go.Proofs.YtknnjkhocbpohaaDoor
namespace Go.Proofs.YtknnjkhocbpohaaDoor
open Go.RowKit
set_option linter.unusedVariables false
set_option linter.unusedSimpArgs false
structure QuD where
  l : List TmD
  ord : Int
  bck : Int
  frm : Int
  mst : Int
deriving DecidableEq
def chkQ (q : QuD) : Int := if filtE q.l = 0 then (if (decide (1 ≤ q.ord) && (decide (q.ord ≤ 10) && (decide (0 ≤ q.bck) && decide (q.bck ≤ 1)))) && (decide (0 ≤ q.frm) && (decide (q.frm ≤ 1048576) && (decide (1 ≤ q.mst) && decide (q.mst ≤ 100)))) then 0 else 320) else filtE q.l
def sameQ (q r : QuD) : Bool := sameT5 q.l r.l && (decide (q.ord = r.ord) && (decide (q.bck = r.bck) && (decide (q.frm = r.frm) && decide (q.mst = r.mst))))
theorem chkQ_bad {q : QuD} (h : filtE q.l ≠ 0) : chkQ q = filtE q.l := by unfold chkQ; rw [if_neg h]
theorem chkQ_ok {q : QuD} (h : filtE q.l = 0) : chkQ q = if (decide (1 ≤ q.ord) && (decide (q.ord ≤ 10) && (decide (0 ≤ q.bck) && decide (q.bck ≤ 1)))) && (decide (0 ≤ q.frm) && (decide (q.frm ≤ 1048576) && (decide (1 ≤ q.mst) && decide (q.mst ≤ 100)))) then 0 else 320 := by unfold chkQ; rw [if_pos h]
set_option maxRecDepth 100000 in
set_option maxHeartbeats 4000000 in
theorem qcheck_any (w : World) (a : Option Addr) (n c : Nat) (q : QuD) (hr : RO tmC w a n c q.l) (hs : ∀ t ∈ q.l, tmS t) (ht : ATab w) : Calls Tryd.prog 11 #[.agg #[.slice a n c, .int .i64 q.ord, .int .i64 q.bck, .int .i64 q.frm, .int .i64 q.mst]] w (Gives (.int .i64 (chkQ q)) w) := by
  obtain ⟨l, o, b, f, m⟩ := q
  dsimp only at hr hs ⊢
  obtain ⟨U, hU⟩ : ∃ U, U = w.alloc (.cells #[.slice a n c, .int .i64 o, .int .i64 b, .int .i64 f, .int .i64 m] 24) := ⟨_, rfl⟩
  have bU : Below w.heap.size w U := by rw [hU]; exact box_below _ _ _
  have HQ := Lib.hid (show Holds U w.heap.size 24 #[.slice a n c, .int .i64 o, .int .i64 b, .int .i64 f, .int .i64 m] by rw [hU]; exact Holds.new _ _ _)
  have qf := Lib.hid (qfilter_any U a n c l (hr.below bU) hs (ht.on bU))
  have hU' := Lib.hid hU
  have bU' := Lib.hid bU
  clear hU bU hr hs ht
  by_cases h0 : filtE l = 0
  · have hR := Lib.hid (chkQ_ok (q := ⟨l, o, b, f, m⟩) h0)
    dsimp only at hR
    rw [h0] at qf
    clear h0
    generalize chkQ _ = R at *
    have fin : ∀ (v : Int) (W : World), (v = R) → Below U.heap.size U W → Gives (.int .i64 R) w (.returned (.int .i64 v)) W := fun v W h1 h2 => ⟨by rw [h1], bU'.out.trans (h2.mono bU'.out.size)⟩
    have fin' := Lib.hid fin
    clear fin
    have key : ∀ (P : Prop), (∀ (k0 : True), P) → P := fun P h => h trivial
    clear key
    by_cases c1 : 1 ≤ o ∧ o ≤ 10
    rotate_left
    · have hF : Hid (R = 320) := Lib.hid (by rw [hR.out]; rw [if_neg (by simp; omega)])
      have d1 : (decide (1 ≤ o) && decide (o ≤ 10)) = false := by simp; omega
      clear hR
      go_enter Tryd.func11, Tryd.ntmps11
      go_wp2_with fail
      rw [← hU'.out]
      refine qf.out.mono ?_
      rintro e u1 ⟨rfl, b1⟩
      have HQ1 := HQ.out.below b1 HQ.out.lt
      have k1 := HQ1.cell 1
      have k2 := HQ1.cell 2
      have k3 := HQ1.cell 3
      have k4 := HQ1.cell 4
      simp at k1 k2 k3 k4
      have hb1 := Lib.hid b1
      clear HQ1 b1 qf hU'
      rcases (show ¬ 1 ≤ o ∨ (1 ≤ o ∧ ¬ o ≤ 10) by omega) with c2 | ⟨c2, c3⟩
      · have d2 : decide (1 ≤ o) = false := decide_eq_false c2
        clear c1 d1
        go_wp2
        go_ret
        exact fin'.out _ _ hF.out.symm hb1.out
      · have d2 : decide (1 ≤ o) = true := decide_eq_true c2
        have d3 : decide (o ≤ 10) = false := decide_eq_false c3
        clear c1 d1
        go_wp2
        go_ret
        exact fin'.out _ _ hF.out.symm hb1.out
    have d1 : decide (1 ≤ o) = true := decide_eq_true c1.1
    have d2 : decide (o ≤ 10) = true := decide_eq_true c1.2
    rw [d1, d2] at hR
    by_cases c2 : b = 0 ∨ b = 1
    rotate_left
    · have hF : Hid (R = 320) := Lib.hid (by rw [hR.out]; rw [if_neg (by simp; omega)])
      have e0 : (b == 0) = false := by simp; omega
      have e1 : (b == 1) = false := by simp; omega
      clear hR c2
      go_enter Tryd.func11, Tryd.ntmps11
      go_wp2_with fail
      rw [← hU'.out]
      refine qf.out.mono ?_
      rintro e u1 ⟨rfl, b1⟩
      have HQ1 := HQ.out.below b1 HQ.out.lt
      have k1 := HQ1.cell 1
      have k2 := HQ1.cell 2
      have k3 := HQ1.cell 3
      have k4 := HQ1.cell 4
      simp at k1 k2 k3 k4
      have hb1 := Lib.hid b1
      clear HQ1 b1 qf hU'
      go_wp2
      go_ret
      exact fin'.out _ _ hF.out.symm hb1.out
    have hbb : (decide (0 ≤ b) && decide (b ≤ 1)) = true := by simp; omega
    have hR2 : Hid (R = if (decide (0 ≤ f) && (decide (f ≤ 1048576) && (decide (1 ≤ m) && decide (m ≤ 100)))) = true then 0 else 320) := Lib.hid (by rw [hR.out, hbb]; simp)
    clear hR hbb
    have hb01 : (b == 0) = true ∨ ((b == 0) = false ∧ (b == 1) = true) := by
      rcases c2 with rfl | rfl
      · exact .inl rfl
      · exact .inr ⟨rfl, rfl⟩
    clear c2
    obtain ⟨rr, hrr⟩ : ∃ rr : Int, rr = R := ⟨_, rfl⟩
    by_cases c3 : 0 ≤ f
    rotate_left
    · have hF : Hid (R = 320) := Lib.hid (by rw [hR2.out]; rw [if_neg (by simp; omega)])
      have d3 : decide (f < 0) = true := decide_eq_true (by omega)
      rcases hb01 with e0 | ⟨e0, e1⟩
      all_goals
        go_enter Tryd.func11, Tryd.ntmps11
        go_wp2_with fail
        rw [← hU'.out]
        refine qf.out.mono ?_
        rintro e u1 ⟨rfl, b1⟩
        have HQ1 := HQ.out.below b1 HQ.out.lt
        have k1 := HQ1.cell 1
        have k2 := HQ1.cell 2
        have k3 := HQ1.cell 3
        have k4 := HQ1.cell 4
        simp at k1 k2 k3 k4
        have hb1 := Lib.hid b1
        clear HQ1 b1 qf hU' hR2 hrr
        go_wp2
        go_ret
        exact fin'.out _ _ hF.out.symm hb1.out
    have d3 : decide (f < 0) = false := decide_eq_false (by omega)
    by_cases c4 : f ≤ 1048576
    rotate_left
    · have hF : Hid (R = 320) := Lib.hid (by rw [hR2.out]; rw [if_neg (by simp; omega)])
      have d4 : decide (1048576 < f) = true := decide_eq_true (by omega)
      rcases hb01 with e0 | ⟨e0, e1⟩
      all_goals
        go_enter Tryd.func11, Tryd.ntmps11
        go_wp2_with fail
        rw [← hU'.out]
        refine qf.out.mono ?_
        rintro e u1 ⟨rfl, b1⟩
        have HQ1 := HQ.out.below b1 HQ.out.lt
        have k1 := HQ1.cell 1
        have k2 := HQ1.cell 2
        have k3 := HQ1.cell 3
        have k4 := HQ1.cell 4
        simp at k1 k2 k3 k4
        have hb1 := Lib.hid b1
        clear HQ1 b1 qf hU' hR2 hrr
        go_wp2
        go_ret
        exact fin'.out _ _ hF.out.symm hb1.out
    have d4 : decide (1048576 < f) = false := decide_eq_false (by omega)
    by_cases c5 : 1 ≤ m
    rotate_left
    · have hF : Hid (R = 320) := Lib.hid (by rw [hR2.out]; rw [if_neg (by simp; omega)])
      have d5 : decide (m < 1) = true := decide_eq_true (by omega)
      rcases hb01 with e0 | ⟨e0, e1⟩
      all_goals
        go_enter Tryd.func11, Tryd.ntmps11
        go_wp2_with fail
        rw [← hU'.out]
        refine qf.out.mono ?_
        rintro e u1 ⟨rfl, b1⟩
        have HQ1 := HQ.out.below b1 HQ.out.lt
        have k1 := HQ1.cell 1
        have k2 := HQ1.cell 2
        have k3 := HQ1.cell 3
        have k4 := HQ1.cell 4
        simp at k1 k2 k3 k4
        have hb1 := Lib.hid b1
        clear HQ1 b1 qf hU' hR2 hrr
        go_wp2
        go_ret
        exact fin'.out _ _ hF.out.symm hb1.out
    have d5 : decide (m < 1) = false := decide_eq_false (by omega)
    have hF : Hid (R = if 100 < m then 320 else 0) := Lib.hid (by
      rw [hR2.out]
      by_cases c6 : 100 < m
      · rw [if_pos c6, if_neg (by simp; omega)]
      · rw [if_neg c6, if_pos (by simp; omega)])
    by_cases c6 : 100 < m
    · have hF2 : Hid (R = 320) := Lib.hid (by rw [hF.out, if_pos c6])
      have d6 : decide (100 < m) = true := decide_eq_true c6
      rcases hb01 with e0 | ⟨e0, e1⟩
      all_goals
        go_enter Tryd.func11, Tryd.ntmps11
        go_wp2_with fail
        rw [← hU'.out]
        refine qf.out.mono ?_
        rintro e u1 ⟨rfl, b1⟩
        have HQ1 := HQ.out.below b1 HQ.out.lt
        have k1 := HQ1.cell 1
        have k2 := HQ1.cell 2
        have k3 := HQ1.cell 3
        have k4 := HQ1.cell 4
        simp at k1 k2 k3 k4
        have hb1 := Lib.hid b1
        clear HQ1 b1 qf hU' hR2 hrr
        go_wp2
        go_ret
        exact fin'.out _ _ hF2.out.symm hb1.out
    · have hF2 : Hid (R = 0) := Lib.hid (by rw [hF.out, if_neg c6])
      have d6 : decide (100 < m) = false := decide_eq_false c6
      rcases hb01 with e0 | ⟨e0, e1⟩
      all_goals
        go_enter Tryd.func11, Tryd.ntmps11
        go_wp2_with fail
        rw [← hU'.out]
        refine qf.out.mono ?_
        rintro e u1 ⟨rfl, b1⟩
        have HQ1 := HQ.out.below b1 HQ.out.lt
        have k1 := HQ1.cell 1
        have k2 := HQ1.cell 2
        have k3 := HQ1.cell 3
        have k4 := HQ1.cell 4
        simp at k1 k2 k3 k4
        have hb1 := Lib.hid b1
        clear HQ1 b1 qf hU' hR2 hrr
        go_wp2
        go_ret
        exact fin'.out _ _ hF2.out.symm hb1.out
  · have hR := Lib.hid (chkQ_bad (q := ⟨l, o, b, f, m⟩) h0)
    dsimp only at hR
    have hE : (filtE l != 0) = true := by simpa using h0
    generalize chkQ _ = R at *
    generalize filtE l = E at *
    clear h0
    go_enter Tryd.func11, Tryd.ntmps11
    go_wp2_with fail
    rw [← hU'.out]
    refine qf.out.mono ?_
    rintro e u1 ⟨rfl, b1⟩
    have hb1 := Lib.hid (bU'.out.trans (b1.mono bU'.out.size))
    clear b1 qf hU'
    go_wp2
    go_ret
    exact ⟨by rw [hR.out]; rfl, hb1.out⟩
end Go.Proofs.YtknnjkhocbpohaaDoor
namespace Go.Proofs.YtknnjkhocbpohaaDoor
open Go.RowKit
set_option linter.unusedVariables false
set_option linter.unusedSimpArgs false
def TmGives (w : World) (l : List TmD) (e : Ending) (w' : World) : Prop := ∃ a c, e = .returned (.slice a l.length c) ∧ RO tmC w' a l.length c l ∧ Below w.heap.size w w'
set_option maxRecDepth 100000 in
set_option maxHeartbeats 1000000 in
theorem tclone_any (a : Option Addr) (n c : Nat) (l : List TmD) (w : World) (h : RO tmC w a n c l) (hn : n ≤ 1000000) : Calls Tryd.prog 27 #[.slice a n c] w (TmGives w l) := by
  have hlen := h.len
  cases a with
  | none =>
    have hl : l = [] := by
      rcases h.sees with e | ⟨b, off, e, _⟩
      · have h1 := congrArg List.length e
        rw [flat_len tmC_len] at h1
        simp at h1
        exact List.length_eq_zero_iff.1 (by omega)
      · cases e
    subst hl
    obtain rfl : n = 0 := hlen
    have hq := fun W => Lib.run_eql_slice_nil_nil (P := Tryd.prog) W (t := 22) (e := 38) 0 c Tryd.underlying22
    clear h
    go_enter Tryd.func27, Tryd.ntmps27
    go_wp2
    go_ret
    exact ⟨_, _, rfl, RO.nil _, Below.refl _ _⟩
  | some ad =>
    obtain ⟨i0, z0, hi, hz, h6, h72, hz6⟩ := infoTmZ
    have hb1 := Lib.hid (box_below w #[] 38)
    have hs := Lib.hid ((h.sees.below hb1.out).mono hb1.out.size)
    have hro : Hid ((w.alloc (.cells #[] 38)).ownsRow w.heap.size 38 5 (.slice (some ⟨w.heap.size, 0, none⟩) 0 0) 0 []) := Lib.hid (own_cells w 38 5 0 #[] (by simp) (by simp [maxLen]))
    have hfl : Hid ((tmcells l).length = n * 5) := Lib.hid (by rw [tmcells_len, hlen])
    have hone : Hid (∀ u ∈ tmcells l, u.oneCell' = true) := Lib.hid (fun u hu => tmcells_one hu)
    have hs' : Hid (SeesC (w.alloc (.cells #[] 38)).heap.size (w.alloc (.cells #[] 38)) (some ad) (tmcells l)) := hs
    have hlen' := Lib.hid hlen
    clear h hlen hs
    generalize hcse : tmcells l = cs at *
    have hcse' := Lib.hid hcse
    clear hcse
    have hq := fun W => Lib.run_eql_slice_some_nil (P := Tryd.prog) W (t := 22) (e := 38) ad n c Tryd.underlying22
    go_enter Tryd.func27, Tryd.ntmps27
    go_wp2_with (at_builtin; go_loud (refine wpList_append_cellsB _ rfl (.tmp 5) (.tmp 6) 22 rfl w 38 i0 z0 5 48 Tryd.underlying22 hi hz h6 h72 hz6 (by decide) _ 0 [] hro.out hb1.out _ (some ad) n c cs hfl.out hs'.out hone.out rfl rfl (by simp [maxLen]; omega) (by omega) ?_); intro v3 w3 own3 b3; simp only [List.nil_append, Nat.zero_add] at own3)
    go_ret
    have own4 : w3.ownsRow w.heap.size 38 5 v3 l.length (tmcells l) := by rw [← hlen'.out, hcse'.out]; exact own3
    obtain ⟨a', c', rfl, hro'⟩ := tro_own own4
    exact ⟨a', c', rfl, hro', b3⟩
end Go.Proofs.YtknnjkhocbpohaaDoor
namespace Go.Proofs.YtknnjkhocbpohaaDoor
open Go.RowKit
set_option linter.unusedVariables false
set_option linter.unusedSimpArgs false
theorem sameQ_of (l r : List TmD) (o b f m o' b' f' m' : Int) : sameQ ⟨l, o, b, f, m⟩ ⟨r, o', b', f', m'⟩ = (sameT5 l r && (decide (o = o') && (decide (b = b') && (decide (f = f') && decide (m = m'))))) := rfl
set_option maxRecDepth 100000 in
set_option maxHeartbeats 4000000 in
theorem qsame_any (w : World) (a1 : Option Addr) (n1 c1 : Nat) (q : QuD) (a2 : Option Addr) (n2 c2 : Nat) (r : QuD) (h1 : RO tmC w a1 n1 c1 q.l) (h2 : RO tmC w a2 n2 c2 r.l) : Calls Tryd.prog 15 #[.agg #[.slice a1 n1 c1, .int .i64 q.ord, .int .i64 q.bck, .int .i64 q.frm, .int .i64 q.mst], .agg #[.slice a2 n2 c2, .int .i64 r.ord, .int .i64 r.bck, .int .i64 r.frm, .int .i64 r.mst]] w (Gives (.bool (sameQ q r)) w) := by
  obtain ⟨l, o, b, f, m⟩ := q
  obtain ⟨k, o', b', f', m'⟩ := r
  dsimp only at h1 h2 ⊢
  have hR := Lib.hid (sameQ_of l k o b f m o' b' f' m')
  obtain ⟨U, hU⟩ : ∃ U, U = (w.alloc (.cells #[.slice a1 n1 c1, .int .i64 o, .int .i64 b, .int .i64 f, .int .i64 m] 24)).alloc (.cells #[.slice a2 n2 c2, .int .i64 o', .int .i64 b', .int .i64 f', .int .i64 m'] 24) := ⟨_, rfl⟩
  have bU : Below w.heap.size w U := by rw [hU]; exact box2_below _ _ _ _ _
  have q := Lib.hid (tmEqual_any a1 a2 n1 n2 c1 c2 l k U (h1.below bU) (h2.below bU))
  have HA := Lib.hid (show Holds U w.heap.size 24 #[.slice a1 n1 c1, .int .i64 o, .int .i64 b, .int .i64 f, .int .i64 m] by rw [hU]; exact (Holds.new _ _ _).alloc _)
  have HB := Lib.hid (show Holds U (w.heap.size + 1) 24 #[.slice a2 n2 c2, .int .i64 o', .int .i64 b', .int .i64 f', .int .i64 m'] by
    rw [hU]
    have := Holds.new (w.alloc (.cells #[.slice a1 n1 c1, .int .i64 o, .int .i64 b, .int .i64 f, .int .i64 m] 24)) 24 #[.slice a2 n2 c2, .int .i64 o', .int .i64 b', .int .i64 f', .int .i64 m']
    rwa [show (w.alloc (.cells #[.slice a1 n1 c1, .int .i64 o, .int .i64 b, .int .i64 f, .int .i64 m] 24)).heap.size = w.heap.size + 1 by simp] at this)
  have hU' := Lib.hid hU
  have bU' := Lib.hid bU
  generalize sameQ _ _ = R at *
  generalize sameT5 l k = S at *
  clear hU bU h1 h2
  by_cases ef : f = f'
  rotate_left
  · have hF : Hid (R = false) := Lib.hid (by rw [hR.out, decide_eq_false ef]; simp)
    have xf : (f == f') = false := by simpa using ef
    clear hR q ef
    go_enter Tryd.func15, Tryd.ntmps15
    go_wp2
    rw [← hU'.out]
    go_ret
    exact ⟨ret_bool hF.out.symm, bU'.out⟩
  subst ef
  by_cases em : m = m'
  rotate_left
  · have hF : Hid (R = false) := Lib.hid (by rw [hR.out, decide_eq_false em]; simp)
    have xm : (m == m') = false := by simpa using em
    clear hR q em
    go_enter Tryd.func15, Tryd.ntmps15
    go_wp2
    rw [← hU'.out]
    go_ret
    exact ⟨ret_bool hF.out.symm, bU'.out⟩
  subst em
  by_cases eo : o = o'
  rotate_left
  · have hF : Hid (R = false) := Lib.hid (by rw [hR.out, decide_eq_false eo]; simp)
    have xo : (o == o') = false := by simpa using eo
    clear hR q eo
    go_enter Tryd.func15, Tryd.ntmps15
    go_wp2
    rw [← hU'.out]
    go_ret
    exact ⟨ret_bool hF.out.symm, bU'.out⟩
  subst eo
  by_cases eb : b = b'
  rotate_left
  · have hF : Hid (R = false) := Lib.hid (by rw [hR.out, decide_eq_false eb]; simp)
    have xb : (b == b') = false := by simpa using eb
    clear hR q eb
    go_enter Tryd.func15, Tryd.ntmps15
    go_wp2
    rw [← hU'.out]
    go_ret
    exact ⟨ret_bool hF.out.symm, bU'.out⟩
  subst eb
  have hF : Hid (R = S) := Lib.hid (by rw [hR.out]; simp)
  clear hR HA HB
  go_enter Tryd.func15, Tryd.ntmps15
  go_wp2_with fail
  rw [← hU'.out]
  refine q.out.mono ?_
  rintro e u1 ⟨rfl, j, rfl⟩
  go_wp2
  go_ret
  exact ⟨ret_bool hF.out.symm, Below.drewN bU'.out j⟩
theorem info_query : (Tryd.prog.info? 24).map (·.size) = some 5 := by kernel_rfl
theorem ro_one (w : World) (y : TmD) (fr : Nat × Nat := (0, 0)) : RO tmC (w.alloc (.cells #[.int .i64 y.op, .int .i64 y.fld, .int .i64 y.rel, .int .i64 y.num, .string y.txt] 38 fr)) (some ⟨w.heap.size, 0, none⟩) 1 1 [y] :=
  ⟨rfl, Nat.le_refl _, by simp [maxLen], by have := seesC_lit w 38 #[.int .i64 y.op, .int .i64 y.fld, .int .i64 y.rel, .int .i64 y.num, .string y.txt] fr; simpa [tmC] using this⟩
def PlainE (w : World) (e : Ending) (w' : World) : Prop := ∃ a, e = .returned (.agg #[.slice a 1 1, .int .i64 10, .int .i64 0, .int .i64 0, .int .i64 100]) ∧ RO tmC w' a 1 1 [opT 1] ∧ Below w.heap.size w w'
set_option maxRecDepth 100000 in
set_option maxHeartbeats 4000000 in
theorem qplain_any (w : World) : Calls Tryd.prog 22 #[] w (PlainE w) := by
  go_enter Tryd.func22, Tryd.ntmps22
  go_wp2
  have hsz : (w.alloc (.cells #[.slice (some ⟨w.heap.size + 1, 0, none⟩) 1 1, .int .i64 10, .int .i64 0, .int .i64 0, .int .i64 100] 24)).heap.size = w.heap.size + 1 := by simp
  have hq := (Holds.new w 24 #[.slice (some ⟨w.heap.size + 1, 0, none⟩) 1 1, .int .i64 10, .int .i64 0, .int .i64 0, .int .i64 100]).alloc (.cells #[.int .i64 1, .int .i64 0, .int .i64 0, .int .i64 0, .string ⟨#[]⟩] 38)
  have hr := ro_one (w.alloc (.cells #[.slice (some ⟨w.heap.size + 1, 0, none⟩) 1 1, .int .i64 10, .int .i64 0, .int .i64 0, .int .i64 100] 24)) (opT 1)
  rw [hsz] at hr
  refine bodyPost_ret (results_cell_row (show Tryd.f22.results = #[.cell 0 24] by kernel_rfl) _ _ w.heap.size 24 #[.slice (some ⟨w.heap.size + 1, 0, none⟩) 1 1, .int .i64 10, .int .i64 0, .int .i64 0, .int .i64 100] (0, 0) _ rfl hq Tryd.underlying24 rfl (by rw [info_query]; rfl)) rfl ?_
  exact ⟨_, rfl, hr, box2_below _ _ _ _ _⟩
end Go.Proofs.YtknnjkhocbpohaaDoor
namespace Go.Proofs.YtknnjkhocbpohaaDoor
open Go.RowKit
set_option linter.unusedVariables false
set_option linter.unusedSimpArgs false
def partA (l : List TmD) : List TmD := if 3 ≤ (l.getD 0 tm0).op then (l.take (1 + (takeL (l.drop 1)).1)).drop 1 else []
def partB (l : List TmD) : List TmD := if 3 ≤ (l.getD 0 tm0).op then l.drop (1 + (takeL (l.drop 1)).1) else []
def partIs (l : List TmD) : Bool := decide (3 ≤ (l.getD 0 tm0).op)
def PartE (w : World) (A B : List TmD) (q : Bool) (e : Ending) (w' : World) : Prop := ∃ a1 c1 a2 c2, e = .returned (.tuple #[.slice a1 A.length c1, .slice a2 B.length c2, .bool q]) ∧ RO tmC w' a1 A.length c1 A ∧ RO tmC w' a2 B.length c2 B ∧ Below w.heap.size w w'
theorem arity_zero {o : Int} (h1 : 1 ≤ o) (h2 : o ≤ 5) : arity o = 0 ↔ ¬ 3 ≤ o := by
  have hf : o = 1 ∨ o = 2 ∨ o = 3 ∨ o = 4 ∨ o = 5 := by omega
  rcases hf with rfl | rfl | rfl | rfl | rfl <;> decide
theorem filt_first {l : List TmD} (h : filtE l = 0) : ∃ t R, l = t :: R ∧ rightT t = true ∧ l.length ≤ 128 ∧ (3 ≤ t.op → (takeL (l.drop 1)).1 ≠ 0) := by
  obtain ⟨f, hf, hl, _, h128⟩ := filtE_tree h
  cases f with
  | leaf t => exact ⟨t, [], hl, hf.1, h128, fun h3 => by rcases hf.2 with e | e <;> omega⟩
  | neg a =>
    refine ⟨opT 3, a.ser, hl, right_opT (by omega), h128, fun _ => ?_⟩
    rw [hl]
    have := takeL_ser a hf []
    rw [List.append_nil] at this
    show (takeL a.ser).1 ≠ 0
    rw [this]
    have := ser_pos a
    simp only
    omega
  | bin o a b =>
    refine ⟨opT o, a.ser ++ b.ser, hl, right_opT (by have := hf.1; omega), h128, fun _ => ?_⟩
    rw [hl]
    have := takeL_ser a hf.2.1 b.ser
    show (takeL (a.ser ++ b.ser)).1 ≠ 0
    rw [this]
    have := ser_pos a
    simp only
    omega
set_option maxRecDepth 100000 in
set_option maxHeartbeats 4000000 in
theorem qparts_ok (w : World) (a : Option Addr) (n c : Nat) (l : List TmD) (hr : RO tmC w a n c l) (hs : ∀ t ∈ l, tmS t) (ht : ATab w) (h0 : filtE l = 0) : Calls Tryd.prog 17 #[.slice a n c] w (PartE w (partA l) (partB l) (partIs l)) := by
  have qf := Lib.hid (qfilter_any w a n c l hr hs ht)
  obtain ⟨t, R, hl, hrt, h128, h3n⟩ := filt_first h0
  rw [h0] at qf
  have hlen := hr.len
  have hn : 1 ≤ n := by rw [hlen, hl]; simp
  have hn0 : (0 : Int) < (n : Int) := by omega
  have ho := right_ops hrt
  have h00 : l.getD 0 tm0 = t := by rw [hl]; rfl
  obtain ⟨b, off, rfl, hbl, x0, -, -, -, -⟩ := tm_at hr (i := 0) (by omega)
  simp only [Nat.zero_mul, Nat.add_zero] at x0
  rw [h00] at x0
  obtain ⟨q, hq⟩ := Int.eq_ofNat_of_zero_le (show 0 ≤ t.op by omega)
  have hq6 : (q : Int) < 6 := by omega
  rw [hq] at x0
  have hab := about_is (q : Int) (by omega) (by omega)
  rw [Int.toNat_natCast] at hab
  have TW := Lib.hid ht
  have RW := Lib.hid hr
  have HS := Lib.hid hs
  by_cases h3 : 3 ≤ t.op
  · have hA : Hid (partA l = (l.take (1 + (takeL (l.drop 1)).1)).drop 1) := Lib.hid (by unfold partA; rw [h00, if_pos h3])
    have hB : Hid (partB l = l.drop (1 + (takeL (l.drop 1)).1)) := Lib.hid (by unfold partB; rw [h00, if_pos h3])
    have hI : Hid (partIs l = true) := Lib.hid (by unfold partIs; rw [h00, decide_eq_true h3])
    have hX0 := h3n h3
    have har : 1 ≤ arity (q : Int) := by
      rcases Nat.eq_zero_or_pos (arity (q : Int)) with e | e
      · exact absurd ((arity_zero (by omega) (by omega)).1 e) (by omega)
      · exact e
    have hle := takeL_le (l.drop 1)
    rw [List.length_drop, ← hlen] at hle
    have qn := Lib.hid (fun W (hb : Below w.heap.size w W) => filt_new W (some ⟨b, off, none⟩) n c 1 l hn (by omega) (RW.out.below hb) hs (TW.out.on hb))
    obtain ⟨a2, hcut2, hro2⟩ := ro_mid hr 1 (1 + (takeL (l.drop 1)).1) (by omega) (by omega)
    obtain ⟨a3, hcut3, hro3⟩ := ro_from hr (1 + (takeL (l.drop 1)).1) (by omega)
    have qA := Lib.hid (fun W (hb : Below w.heap.size w W) => tclone_any a2 _ _ _ W (hro2.below hb) (by omega))
    have qB := Lib.hid (fun W (hb : Below w.heap.size w W) => tclone_any a3 _ _ _ W (hro3.below hb) (by omega))
    generalize takeL (l.drop 1) = X at *
    obtain ⟨X1, X2⟩ := X
    dsimp only at hle hA hB hcut2 hcut3 hX0
    obtain ⟨E1, hE1⟩ : ∃ E1, E1 = 1 + X1 := ⟨_, rfl⟩
    rw [← hE1] at hA hB hcut2 hcut3 qA qB
    have hn128 : n ≤ 128 := by omega
    have hxi : (E1 : Int) ≤ (n : Int) := by omega
    have hx1 : (1 : Int) ≤ (E1 : Int) := by omega
    have hE1' := Lib.hid hE1
    have hcut2' : ∀ W, (Instr.slice 22 (.slice (some ⟨b, off, none⟩) n c) (some (.int .i64 1)) (some (.int .i64 (E1 : Int))) none).run Tryd.prog W = .ok (.slice a2 (E1 - 1) (c - 1)) W := hcut2
    have ab : ∀ W, Below w.heap.size w W → W.cell? ⟨0, q, none⟩ = some (.int .i64 (arity (q : Int) : Int)) := fun W hW => by rw [← hab]; exact (TW.out.on hW).about q (by omega)
    have x0' : ∀ W, Below w.heap.size w W → W.cell? ⟨b, off, none⟩ = some (.int .i64 (q : Int)) := fun W hW => (hW.cell (p := ⟨b, off, none⟩) hbl).trans x0
    obtain ⟨m, hm⟩ : ∃ m, m = arity (q : Int) := ⟨_, rfl⟩
    rw [← hm] at ab har
    have hm0 : ((m : Int) == 0) = false := by simp; omega
    have hmn0 : (m == 0) = false := by simp; omega
    have ab' := Lib.hid ab
    have x0'' := Lib.hid x0'
    clear hE1 hcut2 hro2 hro3 hr hs ht hl hrt h128 h3n hlen ho h00 hq hab h3 hm ab x0' h0 x0 har
    go_enter Tryd.func17, Tryd.ntmps17
    go_wp2_with fail
    refine qf.out.mono ?_
    rintro e u1 ⟨rfl, b1⟩
    have ab1 := ab'.out u1 b1
    have xx1 := x0''.out u1 b1
    have q2 := Lib.hid (qn.out u1 b1)
    have hb1 := Lib.hid b1
    clear b1 qf qn ab' x0''
    obtain ⟨U, hU⟩ : ∃ U, U = u1.alloc (.cells #[.slice (some ⟨b, off, none⟩) n c, .int .i64 1, .int .i64 0] 47) := ⟨_, rfl⟩
    have bU : Below u1.heap.size u1 U := by rw [hU]; exact box_below _ _ _
    have q3 : Hid (Calls Tryd.prog 25 #[.pointer (some ⟨u1.heap.size, 0, none⟩), .int .i64 1] U (FiltE U u1.heap.size (some ⟨b, off, none⟩) n c 1 0 1 (X1, X2))) := Lib.hid (by rw [hU]; exact q2.out)
    have hlt : u1.heap.size < U.heap.size := by rw [hU]; simp
    have hU' := Lib.hid hU
    have bU' := Lib.hid (hb1.out.trans (bU.mono hb1.out.size))
    have hsz := Lib.hid hb1.out.size
    clear hU bU q2 hb1
    go_wp2_with fail
    rw [← hU'.out]
    refine q3.out.mono ?_
    rintro e u2 ⟨rfl, b1, p', mo', hH, hpm⟩
    have hbel : Below w.heap.size w u2 := bU'.out.trans (((b1.mono (Nat.le_trans hsz.out (Nat.le_of_lt hlt))).less (fun x hx hlx => by simp at hx; have := hsz.out; omega)).none)
    obtain ⟨e1, -⟩ := hpm hX0
    have e1' : p' = E1 := by rw [hE1'.out]; exact e1
    clear e1
    subst e1'
    have HB := Lib.hid hbel
    have HH := Lib.hid hH
    have hgd : decide (X1 ≠ 0) = true := by simp at hX0; simp [hX0]
    generalize u1.heap.size = gw at *
    clear q3 b1 hU' bU' hbel hH hlt hpm hX0 ab1 xx1 hsz
    have k1 : ∀ W, Below u2.heap.size u2 W → W.cell? ⟨gw, 1, none⟩ = some (.int .i64 (p' : Int)) := fun W hW => (HH.out.below hW HH.out.lt).cell 1
    go_wp2
    refine wp_drawn_on (fun W => Below u2.heap.size u2 W) (by kernel_rfl) ((Below.refl _ _).drew) (fun hHeld => ?_)
    refine wT 0 (v := ?v12) rfl (by kernel_rfl) (fun _ _ _ h => h) ?h12 (by assumption) ?r12
    case h12 => (intro w hSw; (try dsimp only at hSw); go_simp; try with_reducible rfl)
    refine wT 1 (v := ?v13) rfl (by kernel_rfl) (fun _ _ _ h => h) ?h13 (by assumption) ?r13
    case h13 => (intro w hSw; (try dsimp only at hSw); go_simp; try with_reducible rfl)
    refine wT 2 (v := ?v14) rfl (by kernel_rfl) (fun _ _ _ h => h) ?h14 (by assumption) ?r14
    case h14 => (intro w hSw; (try dsimp only at hSw); go_simp; try with_reducible rfl)
    refine wT 3 (v := ?v15) rfl (by kernel_rfl) (fun _ _ _ h => h) ?h15 (by assumption) ?r15
    case h15 => (intro w hSw; (try dsimp only at hSw); go_simp; try with_reducible rfl)
    refine wT 4 (v := ?v16) rfl (by kernel_rfl) (fun _ _ _ h => h) ?h16 (by assumption) ?r16
    case h16 => (intro w hSw; (try dsimp only at hSw); go_simp; try with_reducible rfl)
    refine wT 5 (v := ?v17) rfl (by kernel_rfl) (fun _ _ _ h => h) ?h17 (by assumption) ?r17
    case h17 => (intro w hSw; (try dsimp only at hSw); go_simp; try with_reducible rfl)
    refine wT 7 (v := ?v18) rfl (by kernel_rfl) (fun _ _ _ h => h) ?h18 (by assumption) ?r18
    case h18 => (intro w hSw; (try dsimp only at hSw); go_simp; try with_reducible rfl)
    refine wT 8 (v := ?v19) rfl (by kernel_rfl) (fun _ _ _ h => h) ?h19 (by assumption) ?r19
    case h19 => (intro w hSw; (try dsimp only at hSw); go_simp; try with_reducible rfl)
    refine wT 9 (v := ?v20) rfl (by kernel_rfl) (fun _ _ _ h => h) ?h20 (by assumption) ?r20
    case h20 => (intro w hSw; (try dsimp only at hSw); go_simp; try with_reducible rfl)
    refine wT 10 (v := ?v21) rfl (by kernel_rfl) (fun _ _ _ h => h) ?h21 (by assumption) ?r21
    case h21 => (intro w hSw; (try dsimp only at hSw); go_simp; try with_reducible rfl)
    refine wT 11 (v := ?v22) rfl (by kernel_rfl) (fun _ _ _ h => h) ?h22 (by assumption) ?r22
    case h22 => (intro w hSw; (try dsimp only at hSw); go_simp; try with_reducible rfl)
    refine wT 12 (v := ?v23) rfl (by kernel_rfl) (fun _ _ _ h => h) ?h23 (by assumption) ?r23
    case h23 => (intro w hSw; (try dsimp only at hSw); go_simp; try with_reducible rfl)
    try simp only [Act.put, List.setIfInBounds_toArray, List.set_cons_zero, List.set_cons_succ]
    refine wpAnyH_ready (rs := [6]) (by kernel_rfl) (by simp) ?_
    refine AllReadyH.cons (o := ⟨_, _, _, _, _, _⟩) rfl (fun K hK => ?_) AllReadyH.nil
    go_simp
    with_reducible refine (qA.out _ (HB.out.trans (hHeld.mono HB.out.size))).mono ?_
    rintro e v6 ⟨a6, c6, rfl, r6, b6⟩
    go_simp
    refine hK.out _ _ (hHeld.trans (b6.mono hHeld.size)) (fun hHeld => ?_)
    clear hK K
    try simp only [Act.put, List.setIfInBounds_toArray, List.set_cons_zero, List.set_cons_succ]
    refine wpAnyH_ready (rs := [13]) (by kernel_rfl) (by simp) ?_
    refine AllReadyH.cons (o := ⟨_, _, _, _, _, _⟩) rfl (fun K hK => ?_) AllReadyH.nil
    go_simp
    with_reducible refine (qB.out _ (HB.out.trans (hHeld.mono HB.out.size))).mono ?_
    rintro e v13 ⟨a13, c13, rfl, r13, b13⟩
    go_simp
    refine hK.out _ _ (hHeld.trans (b13.mono hHeld.size)) (fun hHeld => ?_)
    clear hK K
    refine wT 14 (v := ?v24) rfl (by kernel_rfl) (fun _ _ _ h => h) ?h24 (by assumption) ?r24
    case h24 => (intro w hSw; (try dsimp only at hSw); go_simp; try with_reducible rfl)
    refine wT 15 (v := ?v25) rfl (by kernel_rfl) (fun _ _ _ h => h) ?h25 (by assumption) ?r25
    case h25 => (intro w hSw; (try dsimp only at hSw); go_simp; try with_reducible rfl)
    refine wT 16 (v := ?v26) rfl (by kernel_rfl) (fun _ _ _ h => h) ?h26 (by assumption) ?r26
    case h26 => (intro w hSw; (try dsimp only at hSw); go_simp; try with_reducible rfl)
    try simp only [Act.put, List.setIfInBounds_toArray, List.set_cons_zero, List.set_cons_succ]
    refine wpAnyH_done (by kernel_rfl) ?_ _
    have hend := Lib.hid (HB.out.trans (hHeld.mono HB.out.size))
    first | have hro := Lib.hid (And.intro (r6.below b13) r13) | have hro := Lib.hid (And.intro r6 (r13.below b6))
    clear k1 hcut2' hcut3 hHeld b6 b13 r6 r13
    go_wp2
    go_ret3
    rw [hA.out, hB.out, hI.out]
    exact ⟨a6, c6, a13, c13, by simp only [List.length_drop, List.length_take]; rfl, hro.out.1, hro.out.2, hend.out⟩
  · have hA : Hid (partA l = []) := Lib.hid (by unfold partA; rw [h00, if_neg h3])
    have hB : Hid (partB l = []) := Lib.hid (by unfold partB; rw [h00, if_neg h3])
    have hI : Hid (partIs l = false) := Lib.hid (by unfold partIs; rw [h00, decide_eq_false h3])
    have har : arity (q : Int) = 0 := (arity_zero (by omega) (by omega)).2 (by omega)
    rw [har] at hab
    have ab' : Hid (∀ W, Below w.heap.size w W → W.cell? ⟨0, q, none⟩ = some (.int .i64 0)) := Lib.hid (fun W hW => by
      have := (TW.out.on hW).about q (by omega)
      rw [hab] at this
      exact this)
    have x0'' : Hid (∀ W, Below w.heap.size w W → W.cell? ⟨b, off, none⟩ = some (.int .i64 (q : Int))) := Lib.hid (fun W hW => (hW.cell (p := ⟨b, off, none⟩) hbl).trans x0)
    clear hr hs ht hl hrt h128 h3n hlen ho h00 hq hab h3 har h0 x0
    go_enter Tryd.func17, Tryd.ntmps17
    go_wp2_with fail
    refine qf.out.mono ?_
    rintro e u1 ⟨rfl, b1⟩
    have ab1 := ab'.out u1 b1
    have xx1 := x0''.out u1 b1
    have hb1 := Lib.hid b1
    clear b1 qf ab' x0''
    go_wp2
    go_ret3
    rw [hA.out, hB.out, hI.out]
    exact ⟨none, 0, none, 0, rfl, RO.nil _, RO.nil _, hb1.out⟩
end Go.Proofs.YtknnjkhocbpohaaDoor
