/- file: Write, Cut, Clear. -/
import Derived.Test.YtjhakmpinloioaaFilePay
namespace Go.Proofs.Ytjhakmpinloioaa
open Go.RowKit
set_option linter.unusedVariables false
set_option linter.unusedSimpArgs false

theorem Tells.before {r : Int × St} {d : Nat} {F : List Nat} {w w1 w' : World} {e : Ending} (hb : Below w.heap.size w w1) (h : Tells r d F w1 e w') : Tells r d F w e w' := by
  obtain ⟨h0, F', h1, h2⟩ := h
  exact ⟨h0, F', h1, h2.before hb⟩
theorem three_boxes (w : World) (x y z : Value) (hx : x.oneCell' = true) (t1 t2 t3 : TypeId) : ∃ W, W = ((w.alloc (.cells #[x] t1)).alloc (.cells #[y] t2)).alloc (.cells #[z] t3) ∧ Below w.heap.size w W ∧
    W.cell? ⟨w.heap.size, 0, none⟩ = some x ∧ W.cell? ⟨w.heap.size + 1, 0, none⟩ = some y ∧ W.cell? ⟨w.heap.size + 1 + 1, 0, none⟩ = some z :=
  ⟨_, rfl, (((Below.refl _ _).alloc (Nat.le_refl _) _).alloc (by simp) _).alloc (by simp; omega) _, by simp [go_sem], by simp [go_sem], by simp [go_sem]⟩

theorem write_off (d : Nat) (F : List Nat) (s : St) (n : Int) (A : Option Addr) (m c : Nat) (b : List Int) (w : World) (h : Dk w d F s) (hf : s.fine) (ho : s.off = true) :
    Calls Try.prog 14 #[.pointer (some ⟨d, 0, none⟩), .int .i64 n, .slice A m c] w (Tells (writeO s n b) d F w) := by
  obtain ⟨W0, hW0, hB, kd, kn, kb⟩ := three_boxes w (.pointer (some ⟨d, 0, none⟩)) (.int .i64 n) (.slice A m c) rfl 25 3 30
  have hW0' := Lib.hid hW0
  clear hW0
  have hall := h.all
  have hmem := h.mem
  have gd : w.heap.size ∉ F := fun hm => by have := hall _ hm; omega
  have gn : w.heap.size + 1 ∉ F := fun hm => by have := hall _ hm; omega
  have gb : w.heap.size + 1 + 1 ∉ F := fun hm => by have := hall _ hm; omega
  have hD := h.below hB
  have ld := h.lt
  have hdead := Lib.hid (dead_any d F s W0 hD)
  rw [ho] at hdead
  have hres : Tells (writeO s n b) d F w (.returned (.int .i64 280)) W0 := by
    have : (writeO s n b) = (280, s) := by simp [writeO, ho]
    rw [this]
    exact ⟨rfl, F, hD, Turns.none F hB⟩
  have hres' := Lib.hid hres
  clear hD hres hall
  go_enter Try.func14, Try.ntmps14
  go_wp2_with fail
  rw [← hW0'.out]
  refine hdead.out.mono ?_
  rintro e w' ⟨rfl, rfl⟩
  go_wp2
  go_ret
  exact hres'.out

theorem write_bad (d : Nat) (F : List Nat) (s : St) (n : Int) (A : Option Addr) (m c : Nat) (b : List Int) (w : World) (h : Dk w d F s) (hf : s.fine) (ho : s.off = false) (hn : n ≠ 0 ∧ n ≠ 1) :
    Calls Try.prog 14 #[.pointer (some ⟨d, 0, none⟩), .int .i64 n, .slice A m c] w (Tells (writeO s n b) d F w) := by
  obtain ⟨W0, hW0, hB, kd, kn, kb⟩ := three_boxes w (.pointer (some ⟨d, 0, none⟩)) (.int .i64 n) (.slice A m c) rfl 25 3 30
  have hW0' := Lib.hid hW0
  clear hW0
  have hall := h.all
  have hmem := h.mem
  have gd : w.heap.size ∉ F := fun hm => by have := hall _ hm; omega
  have gn : w.heap.size + 1 ∉ F := fun hm => by have := hall _ hm; omega
  have gb : w.heap.size + 1 + 1 ∉ F := fun hm => by have := hall _ hm; omega
  have hD := h.below hB
  have ld := h.lt
  have hdead := Lib.hid (dead_any d F s W0 hD)
  rw [ho] at hdead
  have hres : Tells (writeO s n b) d F w (.returned (.int .i64 1)) W0 := by
    have : (writeO s n b) = (1, s) := by simp [writeO, ho, hn]
    rw [this]
    exact ⟨rfl, F, hD, Turns.none F hB⟩
  have hres' := Lib.hid hres
  have hhas := Lib.hid (has_no d n 0 (by omega) W0)
  clear hD hres hall hn
  go_enter Try.func14, Try.ntmps14
  go_wp2_with fail
  rw [← hW0'.out]
  refine hdead.out.mono ?_
  rintro e w' ⟨rfl, rfl⟩
  go_wp2_with fail
  refine hhas.out.mono ?_
  rintro e w' ⟨rfl, rfl⟩
  go_wp2
  go_ret
  exact hres'.out

theorem write_full_0 (d : Nat) (F : List Nat) (s : St) (A : Option Addr) (m c : Nat) (b : List Int) (w : World) (h : Dk w d F s) (hf : s.fine) (ho : s.off = false) (hm : m = b.length) (hs : SeesE [d] .u8 w.heap.size w A b) (hc : m ≤ c) (hbl : b.length ≤ 50000000) (hfull : 4194304 < (s.l 0).length + b.length) :
    Calls Try.prog 14 #[.pointer (some ⟨d, 0, none⟩), .int .i64 0, .slice A m c] w (Tells (writeO s 0 b) d F w) := by
  obtain ⟨W0, hW0, hB, kd, kn, kb⟩ := three_boxes w (.pointer (some ⟨d, 0, none⟩)) (.int .i64 0) (.slice A m c) rfl 25 3 30
  have hW0' := Lib.hid hW0
  clear hW0
  have hall := h.all
  have hmem := h.mem
  have gd : w.heap.size ∉ F := fun hm => by have := hall _ hm; omega
  have gn : w.heap.size + 1 ∉ F := fun hm => by have := hall _ hm; omega
  have gb : w.heap.size + 1 + 1 ∉ F := fun hm => by have := hall _ hm; omega
  have hD := h.below hB
  have ld := h.lt
  have hdead := Lib.hid (dead_any d F s W0 hD)
  rw [ho] at hdead
  have hhas := has_0 d F s 0 W0 hD (by have := hf; unfold St.fine at this; omega)
  rw [show decide ((0 : Int) ≤ 0 ∧ 0 ≤ ((s.l 0).length : Int)) = true by simp; try omega] at hhas
  have hhas' := Lib.hid hhas
  obtain ⟨v0, v1, h1, o0, o1, -⟩ := h
  have c0 := (h1.below hB ld).cell 0
  simp at c0
  obtain ⟨av, cv, rfl, -, -⟩ := sees_own o0
  have hres : ∀ m, Tells (writeO s 0 b) d F w (.returned (.int .i64 2)) (W0.drewN m) := fun m => by
    have : (writeO s 0 b) = (2, s) := by simp [writeO, ho, hfull]
    rw [this]
    exact ⟨rfl, F, hD.below (Below.drewN (Below.refl _ _) m), Turns.none F (Below.drewN hB m)⟩
  have hres' := Lib.hid hres
  have hbig : ¬ (((s.l 0).length : Int) + (m : Int) ≤ 4194304) := by omega
  have hd1 : decide ((4194304 : Int) < ((s.l 0).length : Int) + (m : Int)) = true := by simp; omega
  have hf1 : ((s.l 0).length : Int) ≤ 4194304 := by have := hf; unfold St.fine at this; omega
  have hmb : m ≤ 50000000 := by omega
  clear hD hres hall o0 o1 h1 hhas hm hs hfull hf
  go_enter Try.func14, Try.ntmps14
  go_wp2_with fail
  rw [← hW0'.out]
  refine hdead.out.mono ?_
  rintro e w' ⟨rfl, rfl⟩
  go_wp2_with fail
  refine hhas'.out.mono ?_
  rintro e w' ⟨rfl, rfl⟩
  go_wp2
  go_quiet (fail)
  go_wp2
  go_ret
  exact hres'.out nq

theorem write_pay_0 (d : Nat) (F : List Nat) (s : St) (A : Option Addr) (m c : Nat) (b : List Int) (w : World) (h : Dk w d F s) (hf : s.fine) (ho : s.off = false) (hm : m = b.length) (hs : SeesE [d] .u8 w.heap.size w A b) (hc : m ≤ c) (hbl : b.length ≤ 50000000) (hfit : ¬ 4194304 < (s.l 0).length + b.length) :
    Calls Try.prog 14 #[.pointer (some ⟨d, 0, none⟩), .int .i64 0, .slice A m c] w (Tells (writeO s 0 b) d F w) := by
  obtain ⟨W0, hW0, hB, kd, kn, kb⟩ := three_boxes w (.pointer (some ⟨d, 0, none⟩)) (.int .i64 0) (.slice A m c) rfl 25 3 30
  have hW0' := Lib.hid hW0
  clear hW0
  have hall := h.all
  have hmem := h.mem
  have gd : w.heap.size ∉ F := fun hm => by have := hall _ hm; omega
  have gn : w.heap.size + 1 ∉ F := fun hm => by have := hall _ hm; omega
  have gb : w.heap.size + 1 + 1 ∉ F := fun hm => by have := hall _ hm; omega
  have hD := h.below hB
  have ld := h.lt
  have hdead := Lib.hid (dead_any d F s W0 hD)
  rw [ho] at hdead
  have hhas := has_0 d F s 0 W0 hD (by have := hf; unfold St.fine at this; omega)
  rw [show decide ((0 : Int) ≤ 0 ∧ 0 ≤ ((s.l 0).length : Int)) = true by simp; try omega] at hhas
  have hhas' := Lib.hid hhas
  obtain ⟨v0, v1, h1, o0, o1, -⟩ := h
  have c0 := (h1.below hB ld).cell 0
  simp at c0
  obtain ⟨av, cv, rfl, -, -⟩ := sees_own o0
  have hf1 : (s.l 0).length ≤ 4194304 := by have := hf; unfold St.fine at this; omega
  have hleft : s.left ≤ 9223372036854775807 := hf.2.2
  have kk : ∀ w1, BelowE [d] W0.heap.size W0 w1 → w1.cell? ⟨w.heap.size, 0, none⟩ = some (.pointer (some ⟨d, 0, none⟩)) ∧ w1.cell? ⟨w.heap.size + 1, 0, none⟩ = some (.int .i64 0) ∧ w1.cell? ⟨w.heap.size + 1 + 1, 0, none⟩ = some (.slice A m c) := fun w1 hb1 =>
    ⟨(hb1.cell (p := ⟨w.heap.size, 0, none⟩) (World.block_lt_of_cell? _ _ kd) (by simp; omega)).trans kd, (hb1.cell (p := ⟨w.heap.size + 1, 0, none⟩) (World.block_lt_of_cell? _ _ kn) (by simp; omega)).trans kn, (hb1.cell (p := ⟨w.heap.size + 1 + 1, 0, none⟩) (World.block_lt_of_cell? _ _ kb) (by simp; omega)).trans kb⟩
  have hpay : ∀ q, Calls Try.prog 30 #[.pointer (some ⟨d, 0, none⟩), .int .i64 m, .func (.func 31) #[] #[.pointer (some ⟨w.heap.size, 0, none⟩), .pointer (some ⟨w.heap.size + 1, 0, none⟩), .pointer (some ⟨w.heap.size + 1 + 1, 0, none⟩)]] (W0.drewN q) (Tells (writeO s 0 b) d F (W0.drewN q)) := by
    intro q
    have hDq : Dk (W0.drewN q) d F s := hD.below (Below.drewN (Below.refl _ _) q)
    cases ha : s.armed
    · have hr : (writeO s 0 b) = (0, s.with_ (upd s.l 0 (s.l 0 ++ b.take b.length))) := by
        simp [writeO, ho, hfit, St.code, St.after, St.paid, ha, St.with_]
      rw [hr, ← hm]
      obtain ⟨q1, q2, q3⟩ := kk (W0.drewN q) ((BelowE.refl _ _ _).drewN q)
      exact pay_free_wr d F s _ m (by omega) _ _ _ _ hDq ha (wr_0 d F s m A m c b _ _ _ _ hDq q1 q2 q3 gd gn gb hm ((hs.sees.below (Below.drewN hB q)).mono hB.size) (by omega) hc (by omega))
    · by_cases hcl : b.length ≤ s.left
      · have hr : (writeO s 0 b) = (0, (St.mk s.l s.off true (s.left - m)).with_ (upd s.l 0 (s.l 0 ++ b.take m))) := by
          have h1 : ¬ s.left < b.length := by omega
          simp [writeO, ho, hfit, St.code, St.after, St.paid, ha, St.with_, h1, hm, Nat.min_eq_left hcl]
        rw [hr]
        refine pay_enough_wr d F s _ m hleft _ _ _ _ hDq ha (by omega) fun w1 hd1 hb1 u => ?_
        have hb2 : BelowE [d] W0.heap.size W0 w1 := BelowE.fromDrewN q hb1
        obtain ⟨q1, q2, q3⟩ := kk w1 hb2
        exact wrD_0 d F (St.mk s.l s.off true (s.left - m)) m A m c b u _ _ _ w1 hd1 q1 q2 q3 gd gn gb hm (((hs.belowE (.of hB)).mono hB.size).belowE hb2 |>.mono hb2.size).sees (by omega) hc (by simpa using (by omega : (s.l 0).length + b.length ≤ 100000000))
      · have hr : (writeO s 0 b) = (280, (St.mk s.l true false 0).with_ (upd s.l 0 (s.l 0 ++ b.take s.left))) := by
          have h1 : s.left < b.length := by omega
          simp [writeO, ho, hfit, St.code, St.after, St.paid, ha, St.with_, h1, Nat.min_eq_right (Nat.le_of_lt h1)]
        rw [hr]
        refine pay_short_wr d F s _ m (by omega) _ _ _ _ hDq ha (by omega) fun w1 hd1 hb1 u => ?_
        have hb2 : BelowE [d] W0.heap.size W0 w1 := BelowE.fromDrewN q hb1
        obtain ⟨q1, q2, q3⟩ := kk w1 hb2
        exact wrD_0 d F (St.mk s.l true false 0) s.left A m c b u _ _ _ w1 hd1 q1 q2 q3 gd gn gb hm (((hs.belowE (.of hB)).mono hB.size).belowE hb2 |>.mono hb2.size).sees (by omega) hc (by simpa using (by omega : (s.l 0).length + b.length ≤ 100000000))
  have hpay' := Lib.hid hpay
  have hB' := Lib.hid hB
  have hd2 : decide ((4194304 : Int) < ((s.l 0).length : Int) + (m : Int)) = false := by simp; omega
  have hsm : ((s.l 0).length : Int) + (m : Int) ≤ 4194304 := by omega
  have hf1' : ((s.l 0).length : Int) ≤ 4194304 := by omega
  have hmb : m ≤ 50000000 := by omega
  clear hf1 hfit hbl hm hs
  clear hD hall o0 o1 h1 hhas hpay kk hB
  have hmf : ∀ (fn : Fn) (first cap : Array Value) (w : World), (Instr.makeFunc fn first cap).run Try.prog w = .ok (.func fn first cap) w := fun _ _ _ _ => rfl
  go_enter Try.func14, Try.ntmps14
  go_wp2_with fail
  rw [← hW0'.out]
  refine hdead.out.mono ?_
  rintro e w' ⟨rfl, rfl⟩
  go_wp2_with fail
  refine hhas'.out.mono ?_
  rintro e w' ⟨rfl, rfl⟩
  go_wp2
  go_quiet (fail)
  go_wp2_with fail
  refine (hpay'.out nq).mono ?_
  intro e w1 ht
  have ht' := Lib.hid ht
  obtain ⟨rfl, -⟩ := ht
  go_wp2
  go_ret
  exact Tells.before (Below.drewN hB'.out nq) ht'.out

theorem write_full_1 (d : Nat) (F : List Nat) (s : St) (A : Option Addr) (m c : Nat) (b : List Int) (w : World) (h : Dk w d F s) (hf : s.fine) (ho : s.off = false) (hm : m = b.length) (hs : SeesE [d] .u8 w.heap.size w A b) (hc : m ≤ c) (hbl : b.length ≤ 50000000) (hfull : 4194304 < (s.l 1).length + b.length) :
    Calls Try.prog 14 #[.pointer (some ⟨d, 0, none⟩), .int .i64 1, .slice A m c] w (Tells (writeO s 1 b) d F w) := by
  obtain ⟨W0, hW0, hB, kd, kn, kb⟩ := three_boxes w (.pointer (some ⟨d, 0, none⟩)) (.int .i64 1) (.slice A m c) rfl 25 3 30
  have hW0' := Lib.hid hW0
  clear hW0
  have hall := h.all
  have hmem := h.mem
  have gd : w.heap.size ∉ F := fun hm => by have := hall _ hm; omega
  have gn : w.heap.size + 1 ∉ F := fun hm => by have := hall _ hm; omega
  have gb : w.heap.size + 1 + 1 ∉ F := fun hm => by have := hall _ hm; omega
  have hD := h.below hB
  have ld := h.lt
  have hdead := Lib.hid (dead_any d F s W0 hD)
  rw [ho] at hdead
  have hhas := has_1 d F s 0 W0 hD (by have := hf; unfold St.fine at this; omega)
  rw [show decide ((0 : Int) ≤ 0 ∧ 0 ≤ ((s.l 1).length : Int)) = true by simp; try omega] at hhas
  have hhas' := Lib.hid hhas
  obtain ⟨v0, v1, h1, o0, o1, -⟩ := h
  have c0 := (h1.below hB ld).cell 1
  simp at c0
  obtain ⟨av, cv, rfl, -, -⟩ := sees_own o1
  have hres : ∀ m, Tells (writeO s 1 b) d F w (.returned (.int .i64 2)) (W0.drewN m) := fun m => by
    have : (writeO s 1 b) = (2, s) := by simp [writeO, ho, hfull]
    rw [this]
    exact ⟨rfl, F, hD.below (Below.drewN (Below.refl _ _) m), Turns.none F (Below.drewN hB m)⟩
  have hres' := Lib.hid hres
  have hbig : ¬ (((s.l 1).length : Int) + (m : Int) ≤ 4194304) := by omega
  have hd1 : decide ((4194304 : Int) < ((s.l 1).length : Int) + (m : Int)) = true := by simp; omega
  have hf1 : ((s.l 1).length : Int) ≤ 4194304 := by have := hf; unfold St.fine at this; omega
  have hmb : m ≤ 50000000 := by omega
  clear hD hres hall o0 o1 h1 hhas hm hs hfull hf
  go_enter Try.func14, Try.ntmps14
  go_wp2_with fail
  rw [← hW0'.out]
  refine hdead.out.mono ?_
  rintro e w' ⟨rfl, rfl⟩
  go_wp2_with fail
  refine hhas'.out.mono ?_
  rintro e w' ⟨rfl, rfl⟩
  go_wp2
  go_quiet (fail)
  go_wp2
  go_ret
  exact hres'.out nq

theorem write_pay_1 (d : Nat) (F : List Nat) (s : St) (A : Option Addr) (m c : Nat) (b : List Int) (w : World) (h : Dk w d F s) (hf : s.fine) (ho : s.off = false) (hm : m = b.length) (hs : SeesE [d] .u8 w.heap.size w A b) (hc : m ≤ c) (hbl : b.length ≤ 50000000) (hfit : ¬ 4194304 < (s.l 1).length + b.length) :
    Calls Try.prog 14 #[.pointer (some ⟨d, 0, none⟩), .int .i64 1, .slice A m c] w (Tells (writeO s 1 b) d F w) := by
  obtain ⟨W0, hW0, hB, kd, kn, kb⟩ := three_boxes w (.pointer (some ⟨d, 0, none⟩)) (.int .i64 1) (.slice A m c) rfl 25 3 30
  have hW0' := Lib.hid hW0
  clear hW0
  have hall := h.all
  have hmem := h.mem
  have gd : w.heap.size ∉ F := fun hm => by have := hall _ hm; omega
  have gn : w.heap.size + 1 ∉ F := fun hm => by have := hall _ hm; omega
  have gb : w.heap.size + 1 + 1 ∉ F := fun hm => by have := hall _ hm; omega
  have hD := h.below hB
  have ld := h.lt
  have hdead := Lib.hid (dead_any d F s W0 hD)
  rw [ho] at hdead
  have hhas := has_1 d F s 0 W0 hD (by have := hf; unfold St.fine at this; omega)
  rw [show decide ((0 : Int) ≤ 0 ∧ 0 ≤ ((s.l 1).length : Int)) = true by simp; try omega] at hhas
  have hhas' := Lib.hid hhas
  obtain ⟨v0, v1, h1, o0, o1, -⟩ := h
  have c0 := (h1.below hB ld).cell 1
  simp at c0
  obtain ⟨av, cv, rfl, -, -⟩ := sees_own o1
  have hf1 : (s.l 1).length ≤ 4194304 := by have := hf; unfold St.fine at this; omega
  have hleft : s.left ≤ 9223372036854775807 := hf.2.2
  have kk : ∀ w1, BelowE [d] W0.heap.size W0 w1 → w1.cell? ⟨w.heap.size, 0, none⟩ = some (.pointer (some ⟨d, 0, none⟩)) ∧ w1.cell? ⟨w.heap.size + 1, 0, none⟩ = some (.int .i64 1) ∧ w1.cell? ⟨w.heap.size + 1 + 1, 0, none⟩ = some (.slice A m c) := fun w1 hb1 =>
    ⟨(hb1.cell (p := ⟨w.heap.size, 0, none⟩) (World.block_lt_of_cell? _ _ kd) (by simp; omega)).trans kd, (hb1.cell (p := ⟨w.heap.size + 1, 0, none⟩) (World.block_lt_of_cell? _ _ kn) (by simp; omega)).trans kn, (hb1.cell (p := ⟨w.heap.size + 1 + 1, 0, none⟩) (World.block_lt_of_cell? _ _ kb) (by simp; omega)).trans kb⟩
  have hpay : ∀ q, Calls Try.prog 30 #[.pointer (some ⟨d, 0, none⟩), .int .i64 m, .func (.func 31) #[] #[.pointer (some ⟨w.heap.size, 0, none⟩), .pointer (some ⟨w.heap.size + 1, 0, none⟩), .pointer (some ⟨w.heap.size + 1 + 1, 0, none⟩)]] (W0.drewN q) (Tells (writeO s 1 b) d F (W0.drewN q)) := by
    intro q
    have hDq : Dk (W0.drewN q) d F s := hD.below (Below.drewN (Below.refl _ _) q)
    cases ha : s.armed
    · have hr : (writeO s 1 b) = (0, s.with_ (upd s.l 1 (s.l 1 ++ b.take b.length))) := by
        simp [writeO, ho, hfit, St.code, St.after, St.paid, ha, St.with_]
      rw [hr, ← hm]
      obtain ⟨q1, q2, q3⟩ := kk (W0.drewN q) ((BelowE.refl _ _ _).drewN q)
      exact pay_free_wr d F s _ m (by omega) _ _ _ _ hDq ha (wr_1 d F s m A m c b _ _ _ _ hDq q1 q2 q3 gd gn gb hm ((hs.sees.below (Below.drewN hB q)).mono hB.size) (by omega) hc (by omega))
    · by_cases hcl : b.length ≤ s.left
      · have hr : (writeO s 1 b) = (0, (St.mk s.l s.off true (s.left - m)).with_ (upd s.l 1 (s.l 1 ++ b.take m))) := by
          have h1 : ¬ s.left < b.length := by omega
          simp [writeO, ho, hfit, St.code, St.after, St.paid, ha, St.with_, h1, hm, Nat.min_eq_left hcl]
        rw [hr]
        refine pay_enough_wr d F s _ m hleft _ _ _ _ hDq ha (by omega) fun w1 hd1 hb1 u => ?_
        have hb2 : BelowE [d] W0.heap.size W0 w1 := BelowE.fromDrewN q hb1
        obtain ⟨q1, q2, q3⟩ := kk w1 hb2
        exact wrD_1 d F (St.mk s.l s.off true (s.left - m)) m A m c b u _ _ _ w1 hd1 q1 q2 q3 gd gn gb hm (((hs.belowE (.of hB)).mono hB.size).belowE hb2 |>.mono hb2.size).sees (by omega) hc (by simpa using (by omega : (s.l 1).length + b.length ≤ 100000000))
      · have hr : (writeO s 1 b) = (280, (St.mk s.l true false 0).with_ (upd s.l 1 (s.l 1 ++ b.take s.left))) := by
          have h1 : s.left < b.length := by omega
          simp [writeO, ho, hfit, St.code, St.after, St.paid, ha, St.with_, h1, Nat.min_eq_right (Nat.le_of_lt h1)]
        rw [hr]
        refine pay_short_wr d F s _ m (by omega) _ _ _ _ hDq ha (by omega) fun w1 hd1 hb1 u => ?_
        have hb2 : BelowE [d] W0.heap.size W0 w1 := BelowE.fromDrewN q hb1
        obtain ⟨q1, q2, q3⟩ := kk w1 hb2
        exact wrD_1 d F (St.mk s.l true false 0) s.left A m c b u _ _ _ w1 hd1 q1 q2 q3 gd gn gb hm (((hs.belowE (.of hB)).mono hB.size).belowE hb2 |>.mono hb2.size).sees (by omega) hc (by simpa using (by omega : (s.l 1).length + b.length ≤ 100000000))
  have hpay' := Lib.hid hpay
  have hB' := Lib.hid hB
  have hd2 : decide ((4194304 : Int) < ((s.l 1).length : Int) + (m : Int)) = false := by simp; omega
  have hsm : ((s.l 1).length : Int) + (m : Int) ≤ 4194304 := by omega
  have hf1' : ((s.l 1).length : Int) ≤ 4194304 := by omega
  have hmb : m ≤ 50000000 := by omega
  clear hf1 hfit hbl hm hs
  clear hD hall o0 o1 h1 hhas hpay kk hB
  have hmf : ∀ (fn : Fn) (first cap : Array Value) (w : World), (Instr.makeFunc fn first cap).run Try.prog w = .ok (.func fn first cap) w := fun _ _ _ _ => rfl
  go_enter Try.func14, Try.ntmps14
  go_wp2_with fail
  rw [← hW0'.out]
  refine hdead.out.mono ?_
  rintro e w' ⟨rfl, rfl⟩
  go_wp2_with fail
  refine hhas'.out.mono ?_
  rintro e w' ⟨rfl, rfl⟩
  go_wp2
  go_quiet (fail)
  go_wp2_with fail
  refine (hpay'.out nq).mono ?_
  intro e w1 ht
  have ht' := Lib.hid ht
  obtain ⟨rfl, -⟩ := ht
  go_wp2
  go_ret
  exact Tells.before (Below.drewN hB'.out nq) ht'.out

theorem write_any (d : Nat) (F : List Nat) (s : St) (n : Int) (A : Option Addr) (m c : Nat) (b : List Int) (w : World) (h : Dk w d F s) (hf : s.fine) (hm : m = b.length) (hs : SeesE [d] .u8 w.heap.size w A b) (hc : m ≤ c) (hbl : b.length ≤ 50000000) :
    Calls Try.prog 14 #[.pointer (some ⟨d, 0, none⟩), .int .i64 n, .slice A m c] w (Tells (writeO s n b) d F w) := by
  cases ho : s.off
  · by_cases hn : n ≠ 0 ∧ n ≠ 1
    · exact write_bad d F s n A m c b w h hf ho hn
    · have : n = 0 ∨ n = 1 := by omega
      rcases this with rfl | rfl
      · by_cases hfull : 4194304 < (s.l 0).length + b.length
        · exact write_full_0 d F s A m c b w h hf ho hm hs hc hbl hfull
        · exact write_pay_0 d F s A m c b w h hf ho hm hs hc hbl hfull
      · by_cases hfull : 4194304 < (s.l 1).length + b.length
        · exact write_full_1 d F s A m c b w h hf ho hm hs hc hbl hfull
        · exact write_pay_1 d F s A m c b w h hf ho hm hs hc hbl hfull
  · exact write_off d F s n A m c b w h hf ho
end Go.Proofs.Ytjhakmpinloioaa
