/- file: Cut, Clear. -/
import Derived.Test.YtjhakmpinloioaaFileWrite
namespace Go.Proofs.Ytjhakmpinloioaa
open Go.RowKit
set_option linter.unusedVariables false
set_option linter.unusedSimpArgs false

theorem cut_off (d : Nat) (F : List Nat) (s : St) (n m : Int) (w : World) (h : Dk w d F s) (hf : s.fine) (ho : s.off = true) :
    Calls Try.prog 19 #[.pointer (some ⟨d, 0, none⟩), .int .i64 n, .int .i64 m] w (Tells (cutO s n m) d F w) := by
  obtain ⟨W0, hW0, hB, kd, kn, kb⟩ := three_boxes w (.pointer (some ⟨d, 0, none⟩)) (.int .i64 n) (.int .i64 m) rfl 25 3 3
  have hW0' := Lib.hid hW0
  clear hW0
  have hall := h.all
  have hmem := h.mem
  have gd : w.heap.size ∉ F := fun hm => by have := hall _ hm; omega
  have gn : w.heap.size + 1 ∉ F := fun hm => by have := hall _ hm; omega
  have gb : w.heap.size + 1 + 1 ∉ F := fun hm => by have := hall _ hm; omega
  have hD := h.below hB
  have ld := h.lt
  have hdead := Lib.hid (dead_any d F s W0 hD)
  rw [ho] at hdead
  have hres : Tells (cutO s n m) d F w (.returned (.int .i64 280)) W0 := by
    have : (cutO s n m) = (280, s) := by simp [cutO, ho]
    rw [this]
    exact ⟨rfl, F, hD, Turns.none F hB⟩
  have hres' := Lib.hid hres
  clear hD hres hall
  go_enter Try.func19, Try.ntmps19
  go_wp2_with fail
  rw [← hW0'.out]
  refine hdead.out.mono ?_
  rintro e w' ⟨rfl, rfl⟩
  go_wp2
  go_ret
  exact hres'.out

theorem cut_bad (d : Nat) (F : List Nat) (s : St) (n m : Int) (w : World) (h : Dk w d F s) (hf : s.fine) (ho : s.off = false) (hn : n ≠ 0 ∧ n ≠ 1) :
    Calls Try.prog 19 #[.pointer (some ⟨d, 0, none⟩), .int .i64 n, .int .i64 m] w (Tells (cutO s n m) d F w) := by
  obtain ⟨W0, hW0, hB, kd, kn, kb⟩ := three_boxes w (.pointer (some ⟨d, 0, none⟩)) (.int .i64 n) (.int .i64 m) rfl 25 3 3
  have hW0' := Lib.hid hW0
  clear hW0
  have hall := h.all
  have hmem := h.mem
  have gd : w.heap.size ∉ F := fun hm => by have := hall _ hm; omega
  have gn : w.heap.size + 1 ∉ F := fun hm => by have := hall _ hm; omega
  have gb : w.heap.size + 1 + 1 ∉ F := fun hm => by have := hall _ hm; omega
  have hD := h.below hB
  have ld := h.lt
  have hdead := Lib.hid (dead_any d F s W0 hD)
  rw [ho] at hdead
  have hres : Tells (cutO s n m) d F w (.returned (.int .i64 1)) W0 := by
    have : (cutO s n m) = (1, s) := by simp [cutO, ho, hn]
    rw [this]
    exact ⟨rfl, F, hD, Turns.none F hB⟩
  have hres' := Lib.hid hres
  have hhas := Lib.hid (has_no d n m (by omega) W0)
  clear hD hres hall hn
  go_enter Try.func19, Try.ntmps19
  go_wp2_with fail
  rw [← hW0'.out]
  refine hdead.out.mono ?_
  rintro e w' ⟨rfl, rfl⟩
  go_wp2_with fail
  refine hhas.out.mono ?_
  rintro e w' ⟨rfl, rfl⟩
  go_wp2
  go_ret
  exact hres'.out

theorem cut_size_0 (d : Nat) (F : List Nat) (s : St) (m : Int) (w : World) (h : Dk w d F s) (hf : s.fine) (ho : s.off = false) (hbad : m < 0 ∨ ((s.l 0).length : Int) < m) :
    Calls Try.prog 19 #[.pointer (some ⟨d, 0, none⟩), .int .i64 0, .int .i64 m] w (Tells (cutO s 0 m) d F w) := by
  obtain ⟨W0, hW0, hB, kd, kn, kb⟩ := three_boxes w (.pointer (some ⟨d, 0, none⟩)) (.int .i64 0) (.int .i64 m) rfl 25 3 3
  have hW0' := Lib.hid hW0
  clear hW0
  have hall := h.all
  have hmem := h.mem
  have gd : w.heap.size ∉ F := fun hm => by have := hall _ hm; omega
  have gn : w.heap.size + 1 ∉ F := fun hm => by have := hall _ hm; omega
  have gb : w.heap.size + 1 + 1 ∉ F := fun hm => by have := hall _ hm; omega
  have hD := h.below hB
  have ld := h.lt
  have hdead := Lib.hid (dead_any d F s W0 hD)
  rw [ho] at hdead
  have hhas := has_0 d F s m W0 hD (by have := hf; unfold St.fine at this; omega)
  rw [show decide ((0 : Int) ≤ m ∧ m ≤ ((s.l 0).length : Int)) = false by simp; omega] at hhas
  have hhas' := Lib.hid hhas
  have hres : Tells (cutO s 0 m) d F w (.returned (.int .i64 1)) W0 := by
    have : (cutO s 0 m) = (1, s) := by simp [cutO, ho, hbad]
    rw [this]
    exact ⟨rfl, F, hD, Turns.none F hB⟩
  have hres' := Lib.hid hres
  clear hD hres hall hhas hbad
  go_enter Try.func19, Try.ntmps19
  go_wp2_with fail
  rw [← hW0'.out]
  refine hdead.out.mono ?_
  rintro e w' ⟨rfl, rfl⟩
  go_wp2_with fail
  refine hhas'.out.mono ?_
  rintro e w' ⟨rfl, rfl⟩
  go_wp2
  go_ret
  exact hres'.out

theorem cut_pay_0 (d : Nat) (F : List Nat) (s : St) (m : Int) (w : World) (h : Dk w d F s) (hf : s.fine) (ho : s.off = false) (hgood : ¬ (m < 0 ∨ ((s.l 0).length : Int) < m)) :
    Calls Try.prog 19 #[.pointer (some ⟨d, 0, none⟩), .int .i64 0, .int .i64 m] w (Tells (cutO s 0 m) d F w) := by
  obtain ⟨W0, hW0, hB, kd, kn, kb⟩ := three_boxes w (.pointer (some ⟨d, 0, none⟩)) (.int .i64 0) (.int .i64 m) rfl 25 3 3
  have hW0' := Lib.hid hW0
  clear hW0
  have hall := h.all
  have hmem := h.mem
  have gd : w.heap.size ∉ F := fun hm => by have := hall _ hm; omega
  have gn : w.heap.size + 1 ∉ F := fun hm => by have := hall _ hm; omega
  have gb : w.heap.size + 1 + 1 ∉ F := fun hm => by have := hall _ hm; omega
  have hD := h.below hB
  have ld := h.lt
  have hdead := Lib.hid (dead_any d F s W0 hD)
  rw [ho] at hdead
  have hhas := has_0 d F s m W0 hD (by have := hf; unfold St.fine at this; omega)
  rw [show decide ((0 : Int) ≤ m ∧ m ≤ ((s.l 0).length : Int)) = true by simp; try omega] at hhas
  have hhas' := Lib.hid hhas
  obtain ⟨v0, v1, h1, o0, o1, -⟩ := h
  have c0 := (h1.below hB ld).cell 0
  simp at c0
  obtain ⟨av, cv, rfl, -, -⟩ := sees_own o0
  have hf1 : (s.l 0).length ≤ 4194304 := by have := hf; unfold St.fine at this; omega
  have hleft : s.left ≤ 9223372036854775807 := hf.2.2
  have kk : ∀ w1, BelowE [d] W0.heap.size W0 w1 → w1.cell? ⟨w.heap.size, 0, none⟩ = some (.pointer (some ⟨d, 0, none⟩)) ∧ w1.cell? ⟨w.heap.size + 1, 0, none⟩ = some (.int .i64 0) ∧ w1.cell? ⟨w.heap.size + 1 + 1, 0, none⟩ = some (.int .i64 m) := fun w1 hb1 =>
    ⟨(hb1.cell (p := ⟨w.heap.size, 0, none⟩) (World.block_lt_of_cell? _ _ kd) (by simp; omega)).trans kd, (hb1.cell (p := ⟨w.heap.size + 1, 0, none⟩) (World.block_lt_of_cell? _ _ kn) (by simp; omega)).trans kn, (hb1.cell (p := ⟨w.heap.size + 1 + 1, 0, none⟩) (World.block_lt_of_cell? _ _ kb) (by simp; omega)).trans kb⟩
  have hpay : ∀ q, Calls Try.prog 30 #[.pointer (some ⟨d, 0, none⟩), .int .i64 1, .func (.func 33) #[] #[.pointer (some ⟨w.heap.size, 0, none⟩), .pointer (some ⟨w.heap.size + 1, 0, none⟩), .pointer (some ⟨w.heap.size + 1 + 1, 0, none⟩)]] (W0.drewN q) (Tells (cutO s 0 m) d F (W0.drewN q)) := by
    intro q
    have hDq : Dk (W0.drewN q) d F s := hD.below (Below.drewN (Below.refl _ _) q)
    have hmn : m.toNat ≤ (s.l 0).length := by omega
    have hmi : ((m.toNat : Nat) : Int) = m := by omega
    cases ha : s.armed
    · have hr : (cutO s 0 m) = (0, s.with_ (upd s.l 0 ((s.l 0).take m.toNat))) := by
        simp [cutO, ho, hgood, St.code, St.after, St.paid, ha, St.with_]
      rw [hr]
      obtain ⟨q1, q2, q3⟩ := kk (W0.drewN q) ((BelowE.refl _ _ _).drewN q)
      exact pay_free_cu d F s _ 1 (by omega) _ _ _ _ hDq ha (cu_0 d F s m.toNat _ _ _ _ hDq q1 q2 (by rw [hmi]; exact q3) gd gn gb hmn (by omega))
    · by_cases hcl : 1 ≤ s.left
      · have hr : (cutO s 0 m) = (0, (St.mk s.l s.off true (s.left - 1)).with_ (upd s.l 0 ((s.l 0).take m.toNat))) := by
          have h1 : ¬ s.left < 1 := by omega
          have h2 : ¬ s.left = 0 := by omega
          simp [cutO, ho, hgood, St.code, St.after, St.paid, ha, St.with_, h2, Nat.min_eq_left hcl]
        rw [hr]
        refine pay_enough_cu d F s _ 1 hleft _ _ _ _ hDq ha hcl fun w1 hd1 hb1 u => ?_
        have hb2 : BelowE [d] W0.heap.size W0 w1 := BelowE.fromDrewN q hb1
        obtain ⟨q1, q2, q3⟩ := kk w1 hb2
        exact cuD_0 d F (St.mk s.l s.off true (s.left - 1)) m.toNat u _ _ _ w1 hd1 q1 q2 (by rw [hmi]; exact q3) gd gn gb hmn (by simpa using (by omega : (s.l 0).length ≤ 100000000))
      · have h0 : s.left = 0 := by omega
        have hr : (cutO s 0 m) = (280, St.mk s.l true false 0) := by
          simp [cutO, ho, hgood, St.code, St.after, St.paid, ha, St.with_, h0]
        rw [hr]
        refine pay_short_cu d F s _ 1 (by omega) _ _ _ _ hDq ha (by omega) fun w1 hd1 hb1 u => ?_
        refine (cuD_no s.left (by omega) u _ _ _ w1).mono ?_
        rintro e u' w' ⟨rfl, rfl, rfl⟩
        exact ⟨rfl, rfl, F, hd1, Turns.none F (Below.refl _ _)⟩
  have hpay' := Lib.hid hpay
  have hB' := Lib.hid hB
  skip
  clear hD hall o0 o1 h1 hhas hpay kk hB
  have hmf : ∀ (fn : Fn) (first cap : Array Value) (w : World), (Instr.makeFunc fn first cap).run Try.prog w = .ok (.func fn first cap) w := fun _ _ _ _ => rfl
  go_enter Try.func19, Try.ntmps19
  go_wp2_with fail
  rw [← hW0'.out]
  refine hdead.out.mono ?_
  rintro e w' ⟨rfl, rfl⟩
  go_wp2_with fail
  refine hhas'.out.mono ?_
  rintro e w' ⟨rfl, rfl⟩
  go_wp2_with fail
  refine (hpay'.out 0).mono ?_
  intro e w1 ht
  have ht' := Lib.hid ht
  obtain ⟨rfl, -⟩ := ht
  go_wp2
  go_ret
  exact Tells.before hB'.out ht'.out

theorem cut_size_1 (d : Nat) (F : List Nat) (s : St) (m : Int) (w : World) (h : Dk w d F s) (hf : s.fine) (ho : s.off = false) (hbad : m < 0 ∨ ((s.l 1).length : Int) < m) :
    Calls Try.prog 19 #[.pointer (some ⟨d, 0, none⟩), .int .i64 1, .int .i64 m] w (Tells (cutO s 1 m) d F w) := by
  obtain ⟨W0, hW0, hB, kd, kn, kb⟩ := three_boxes w (.pointer (some ⟨d, 0, none⟩)) (.int .i64 1) (.int .i64 m) rfl 25 3 3
  have hW0' := Lib.hid hW0
  clear hW0
  have hall := h.all
  have hmem := h.mem
  have gd : w.heap.size ∉ F := fun hm => by have := hall _ hm; omega
  have gn : w.heap.size + 1 ∉ F := fun hm => by have := hall _ hm; omega
  have gb : w.heap.size + 1 + 1 ∉ F := fun hm => by have := hall _ hm; omega
  have hD := h.below hB
  have ld := h.lt
  have hdead := Lib.hid (dead_any d F s W0 hD)
  rw [ho] at hdead
  have hhas := has_1 d F s m W0 hD (by have := hf; unfold St.fine at this; omega)
  rw [show decide ((0 : Int) ≤ m ∧ m ≤ ((s.l 1).length : Int)) = false by simp; omega] at hhas
  have hhas' := Lib.hid hhas
  have hres : Tells (cutO s 1 m) d F w (.returned (.int .i64 1)) W0 := by
    have : (cutO s 1 m) = (1, s) := by simp [cutO, ho, hbad]
    rw [this]
    exact ⟨rfl, F, hD, Turns.none F hB⟩
  have hres' := Lib.hid hres
  clear hD hres hall hhas hbad
  go_enter Try.func19, Try.ntmps19
  go_wp2_with fail
  rw [← hW0'.out]
  refine hdead.out.mono ?_
  rintro e w' ⟨rfl, rfl⟩
  go_wp2_with fail
  refine hhas'.out.mono ?_
  rintro e w' ⟨rfl, rfl⟩
  go_wp2
  go_ret
  exact hres'.out

theorem cut_pay_1 (d : Nat) (F : List Nat) (s : St) (m : Int) (w : World) (h : Dk w d F s) (hf : s.fine) (ho : s.off = false) (hgood : ¬ (m < 0 ∨ ((s.l 1).length : Int) < m)) :
    Calls Try.prog 19 #[.pointer (some ⟨d, 0, none⟩), .int .i64 1, .int .i64 m] w (Tells (cutO s 1 m) d F w) := by
  obtain ⟨W0, hW0, hB, kd, kn, kb⟩ := three_boxes w (.pointer (some ⟨d, 0, none⟩)) (.int .i64 1) (.int .i64 m) rfl 25 3 3
  have hW0' := Lib.hid hW0
  clear hW0
  have hall := h.all
  have hmem := h.mem
  have gd : w.heap.size ∉ F := fun hm => by have := hall _ hm; omega
  have gn : w.heap.size + 1 ∉ F := fun hm => by have := hall _ hm; omega
  have gb : w.heap.size + 1 + 1 ∉ F := fun hm => by have := hall _ hm; omega
  have hD := h.below hB
  have ld := h.lt
  have hdead := Lib.hid (dead_any d F s W0 hD)
  rw [ho] at hdead
  have hhas := has_1 d F s m W0 hD (by have := hf; unfold St.fine at this; omega)
  rw [show decide ((0 : Int) ≤ m ∧ m ≤ ((s.l 1).length : Int)) = true by simp; try omega] at hhas
  have hhas' := Lib.hid hhas
  obtain ⟨v0, v1, h1, o0, o1, -⟩ := h
  have c0 := (h1.below hB ld).cell 1
  simp at c0
  obtain ⟨av, cv, rfl, -, -⟩ := sees_own o1
  have hf1 : (s.l 1).length ≤ 4194304 := by have := hf; unfold St.fine at this; omega
  have hleft : s.left ≤ 9223372036854775807 := hf.2.2
  have kk : ∀ w1, BelowE [d] W0.heap.size W0 w1 → w1.cell? ⟨w.heap.size, 0, none⟩ = some (.pointer (some ⟨d, 0, none⟩)) ∧ w1.cell? ⟨w.heap.size + 1, 0, none⟩ = some (.int .i64 1) ∧ w1.cell? ⟨w.heap.size + 1 + 1, 0, none⟩ = some (.int .i64 m) := fun w1 hb1 =>
    ⟨(hb1.cell (p := ⟨w.heap.size, 0, none⟩) (World.block_lt_of_cell? _ _ kd) (by simp; omega)).trans kd, (hb1.cell (p := ⟨w.heap.size + 1, 0, none⟩) (World.block_lt_of_cell? _ _ kn) (by simp; omega)).trans kn, (hb1.cell (p := ⟨w.heap.size + 1 + 1, 0, none⟩) (World.block_lt_of_cell? _ _ kb) (by simp; omega)).trans kb⟩
  have hpay : ∀ q, Calls Try.prog 30 #[.pointer (some ⟨d, 0, none⟩), .int .i64 1, .func (.func 33) #[] #[.pointer (some ⟨w.heap.size, 0, none⟩), .pointer (some ⟨w.heap.size + 1, 0, none⟩), .pointer (some ⟨w.heap.size + 1 + 1, 0, none⟩)]] (W0.drewN q) (Tells (cutO s 1 m) d F (W0.drewN q)) := by
    intro q
    have hDq : Dk (W0.drewN q) d F s := hD.below (Below.drewN (Below.refl _ _) q)
    have hmn : m.toNat ≤ (s.l 1).length := by omega
    have hmi : ((m.toNat : Nat) : Int) = m := by omega
    cases ha : s.armed
    · have hr : (cutO s 1 m) = (0, s.with_ (upd s.l 1 ((s.l 1).take m.toNat))) := by
        simp [cutO, ho, hgood, St.code, St.after, St.paid, ha, St.with_]
      rw [hr]
      obtain ⟨q1, q2, q3⟩ := kk (W0.drewN q) ((BelowE.refl _ _ _).drewN q)
      exact pay_free_cu d F s _ 1 (by omega) _ _ _ _ hDq ha (cu_1 d F s m.toNat _ _ _ _ hDq q1 q2 (by rw [hmi]; exact q3) gd gn gb hmn (by omega))
    · by_cases hcl : 1 ≤ s.left
      · have hr : (cutO s 1 m) = (0, (St.mk s.l s.off true (s.left - 1)).with_ (upd s.l 1 ((s.l 1).take m.toNat))) := by
          have h1 : ¬ s.left < 1 := by omega
          have h2 : ¬ s.left = 0 := by omega
          simp [cutO, ho, hgood, St.code, St.after, St.paid, ha, St.with_, h2, Nat.min_eq_left hcl]
        rw [hr]
        refine pay_enough_cu d F s _ 1 hleft _ _ _ _ hDq ha hcl fun w1 hd1 hb1 u => ?_
        have hb2 : BelowE [d] W0.heap.size W0 w1 := BelowE.fromDrewN q hb1
        obtain ⟨q1, q2, q3⟩ := kk w1 hb2
        exact cuD_1 d F (St.mk s.l s.off true (s.left - 1)) m.toNat u _ _ _ w1 hd1 q1 q2 (by rw [hmi]; exact q3) gd gn gb hmn (by simpa using (by omega : (s.l 1).length ≤ 100000000))
      · have h0 : s.left = 0 := by omega
        have hr : (cutO s 1 m) = (280, St.mk s.l true false 0) := by
          simp [cutO, ho, hgood, St.code, St.after, St.paid, ha, St.with_, h0]
        rw [hr]
        refine pay_short_cu d F s _ 1 (by omega) _ _ _ _ hDq ha (by omega) fun w1 hd1 hb1 u => ?_
        refine (cuD_no s.left (by omega) u _ _ _ w1).mono ?_
        rintro e u' w' ⟨rfl, rfl, rfl⟩
        exact ⟨rfl, rfl, F, hd1, Turns.none F (Below.refl _ _)⟩
  have hpay' := Lib.hid hpay
  have hB' := Lib.hid hB
  skip
  clear hD hall o0 o1 h1 hhas hpay kk hB
  have hmf : ∀ (fn : Fn) (first cap : Array Value) (w : World), (Instr.makeFunc fn first cap).run Try.prog w = .ok (.func fn first cap) w := fun _ _ _ _ => rfl
  go_enter Try.func19, Try.ntmps19
  go_wp2_with fail
  rw [← hW0'.out]
  refine hdead.out.mono ?_
  rintro e w' ⟨rfl, rfl⟩
  go_wp2_with fail
  refine hhas'.out.mono ?_
  rintro e w' ⟨rfl, rfl⟩
  go_wp2_with fail
  refine (hpay'.out 0).mono ?_
  intro e w1 ht
  have ht' := Lib.hid ht
  obtain ⟨rfl, -⟩ := ht
  go_wp2
  go_ret
  exact Tells.before hB'.out ht'.out

theorem cut_any (d : Nat) (F : List Nat) (s : St) (n m : Int) (w : World) (h : Dk w d F s) (hf : s.fine) :
    Calls Try.prog 19 #[.pointer (some ⟨d, 0, none⟩), .int .i64 n, .int .i64 m] w (Tells (cutO s n m) d F w) := by
  cases ho : s.off
  · by_cases hn : n ≠ 0 ∧ n ≠ 1
    · exact cut_bad d F s n m w h hf ho hn
    · have : n = 0 ∨ n = 1 := by omega
      rcases this with rfl | rfl
      · by_cases hbad : m < 0 ∨ ((s.l 0).length : Int) < m
        · exact cut_size_0 d F s m w h hf ho hbad
        · exact cut_pay_0 d F s m w h hf ho hbad
      · by_cases hbad : m < 0 ∨ ((s.l 1).length : Int) < m
        · exact cut_size_1 d F s m w h hf ho hbad
        · exact cut_pay_1 d F s m w h hf ho hbad
  · exact cut_off d F s n m w h hf ho
theorem clear_any (d : Nat) (F : List Nat) (s : St) (n : Int) (w : World) (h : Dk w d F s) (hf : s.fine) :
    Calls Try.prog 18 #[.pointer (some ⟨d, 0, none⟩), .int .i64 n] w (Tells (cutO s n 0) d F w) := by
  have hc := Lib.hid (cut_any d F s n 0 w h hf)
  clear h hf
  go_enter Try.func18, Try.ntmps18
  go_wp2_with fail
  refine hc.out.mono ?_
  intro e w1 ht
  have ht' := Lib.hid ht
  obtain ⟨rfl, -⟩ := ht
  go_wp2
  go_ret
  exact ht'.out
end Go.Proofs.Ytjhakmpinloioaa
