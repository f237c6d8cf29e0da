/- file: pay, by what it is asked to do. -/
import Derived.Test.YtjhakmpinloioaaFileCu
import Derived.WalkLawsBesides
namespace Go.Proofs.Ytjhakmpinloioaa
open Go.RowKit
set_option linter.unusedVariables false
set_option linter.unusedSimpArgs false

/-- The disk's own cells have turned, its files have not. -/
theorem dk_cells {w w' : World} {d : Nat} {F : List Nat} {s : St} {o m : Bool} {k : Nat} (h : Dk w d F s) (hb : BelowE [d] w.heap.size w w')
    (hh : ∀ v0 v1, Holds w d 47 #[v0, v1, .bool s.off, .bool s.armed, .int .i64 s.left] → Holds w' d 47 #[v0, v1, .bool o, .bool m, .int .i64 k]) : Dk w' d F ⟨s.l, o, m, k⟩ := by
  obtain ⟨v0, v1, h1, h2, h3, h4, h5, h6, h7, h8⟩ := h
  exact ⟨v0, v1, hh v0 v1 h1, own_belowE h2 hb (fun k hk => by simpa using (h5 k hk).2), own_belowE h3 hb (fun k hk => by simpa using (h6 k hk).2), h4, h5, h6, h7, fun x hx => Nat.lt_of_lt_of_le (h8 x hx) hb.size⟩
theorem Dk.mem {w : World} {d : Nat} {F : List Nat} {s : St} (h : Dk w d F s) : d ∈ F := by
  obtain ⟨v0, v1, _, _, _, h4, _⟩ := h; exact h4
theorem Done.from {s : St} {d : Nat} {F : List Nat} {w w1 w' : World} {e : Ending} (hd : d ∈ F) (hb : BelowE [d] w.heap.size w w1) (h : Done s d F w1 e w') : Done s d F w e w' := by
  obtain ⟨h0, F', h1, h2, h3⟩ := h
  refine ⟨h0, F', h1, (hb.wider (by simpa using hd)).trans (h2.mono hb.size), fun x hx => (h3 x hx).imp id fun h => Nat.le_trans hb.size h⟩

theorem pay_free_wr (d : Nat) (F : List Nat) (s s' : St) (cost : Nat) (hc : cost ≤ 9223372036854775807) (c1 c2 c3 : Value) (w : World) (h : Dk w d F s) (ha : s.armed = false) (hdo : Calls Try.prog 31 #[.int .i64 cost, c1, c2, c3] w (Done s' d F w)) :
    Calls Try.prog 30 #[.pointer (some ⟨d, 0, none⟩), .int .i64 cost, .func (.func 31) #[] #[c1, c2, c3]] w (Tells (0, s') d F w) := by
  obtain ⟨v0, v1, h1, -⟩ := h
  have k3 := h1.cell 3
  simp [ha] at k3
  have hdo' := Lib.hid hdo
  clear h1 hdo ha
  go_enter_defers Try.func30, Try.ntmps30
  go_wp2_with fail
  refine hdo'.out.mono ?_
  rintro e w1 ⟨rfl, hr⟩
  go_wp2
  simp [bodyPostD, Leaves, results, Try.results30, go_sem]
  exact ⟨rfl, hr⟩
theorem pay_enough_wr (d : Nat) (F : List Nat) (s s' : St) (cost : Nat) (hl : s.left ≤ 9223372036854775807) (c1 c2 c3 : Value) (w : World) (h : Dk w d F s) (ha : s.armed = true) (hcl : cost ≤ s.left)
    (hdo : ∀ w1, Dk w1 d F ⟨s.l, s.off, true, s.left - cost⟩ → BelowE [d] w.heap.size w w1 → ∀ u, CallsD Try.prog 31 #[.int .i64 cost, c1, c2, c3] u w1 fun e u' w' => u' = u ∧ Done s' d F w1 e w') :
    Calls Try.prog 30 #[.pointer (some ⟨d, 0, none⟩), .int .i64 cost, .func (.func 31) #[] #[c1, c2, c3]] w (Tells (0, s') d F w) := by
  have hd := h.mem
  have hnew : ∀ w', w' = w.setCell ⟨d, 4, none⟩ (.int .i64 ((s.left - cost : Nat) : Int)) → Dk w' d F ⟨s.l, s.off, true, s.left - cost⟩ ∧ BelowE [d] w.heap.size w w' := by
    rintro w' rfl
    have hb : BelowE [d] w.heap.size w (w.setCell ⟨d, 4, none⟩ (.int .i64 ((s.left - cost : Nat) : Int))) := (BelowE.refl _ _ _).setIn (p := ⟨d, 4, none⟩) (by simp) _
    refine ⟨dk_cells h hb fun v0 v1 hh => ?_, hb⟩
    have := hh.set 4 (.int .i64 ((s.left - cost : Nat) : Int))
    simpa [ha] using this
  obtain ⟨v0, v1, h1, -⟩ := h
  have k3 := h1.cell 3
  have k4 := h1.cell 4
  have z4 := h1.free 4
  simp [ha] at k3 k4
  obtain ⟨L, hL⟩ : ∃ L : Nat, L = s.left := ⟨_, rfl⟩
  rw [← hL] at k4 hcl hl hnew hdo
  have hcast : ((L - cost : Nat) : Int) = (L : Int) - (cost : Int) := by omega
  have hcast' := Lib.hid hcast
  have hle : (cost : Int) ≤ (L : Int) := by omega
  have hdo' := Lib.hid hdo
  have hnew' := Lib.hid hnew
  clear h1 hdo ha hnew hL hcast
  have hmf : ∀ (fn : Fn) (first cap : Array Value) (w : World), (Instr.makeFunc fn first cap).run Try.prog w = .ok (.func fn first cap) w := fun _ _ _ _ => rfl
  go_enter_defers Try.func30, Try.ntmps30
  go_wp2
  refine leaves_cons (f := 31) (args := #[.int .i64 cost, c1, c2, c3]) (by simp) (by simp [go_sem]) ?_
  obtain ⟨hn1, hn2⟩ := hnew'.out _ (by rw [hcast'.out])
  refine (hdo'.out _ hn1 hn2 _).mono ?_
  rintro e u' w' ⟨rfl, hdone⟩
  have hfin := Done.from hd hn2 hdone
  obtain ⟨rfl, hr⟩ := hfin
  simp [Leaves, settle, results, Try.results30, go_sem]
  exact ⟨rfl, hr⟩
theorem pay_short_wr (d : Nat) (F : List Nat) (s s' : St) (cost : Nat) (hc : cost ≤ 9223372036854775807) (c1 c2 c3 : Value) (w : World) (h : Dk w d F s) (ha : s.armed = true) (hcl : s.left < cost)
    (hdo : ∀ w1, Dk w1 d F ⟨s.l, true, false, 0⟩ → BelowE [d] w.heap.size w w1 → ∀ u, CallsD Try.prog 31 #[.int .i64 s.left, c1, c2, c3] u w1 fun e u' w' => u' = u ∧ Done s' d F w1 e w') :
    Calls Try.prog 30 #[.pointer (some ⟨d, 0, none⟩), .int .i64 cost, .func (.func 31) #[] #[c1, c2, c3]] w (Tells (280, s') d F w) := by
  have hd := h.mem
  have hnew : ∀ w', w' = ((w.setCell ⟨d, 4, none⟩ (.int .i64 0)).setCell ⟨d, 2, none⟩ (.bool true)).setCell ⟨d, 3, none⟩ (.bool false) → Dk w' d F ⟨s.l, true, false, 0⟩ ∧ BelowE [d] w.heap.size w w' := by
    rintro w' rfl
    have hb : BelowE [d] w.heap.size w (((w.setCell ⟨d, 4, none⟩ (.int .i64 0)).setCell ⟨d, 2, none⟩ (.bool true)).setCell ⟨d, 3, none⟩ (.bool false)) :=
      (((BelowE.refl _ _ _).setIn (p := ⟨d, 4, none⟩) (by simp) _).setIn (p := ⟨d, 2, none⟩) (by simp) _).setIn (p := ⟨d, 3, none⟩) (by simp) _
    refine ⟨dk_cells h hb fun v0 v1 hh => ?_, hb⟩
    have := ((hh.set 4 (.int .i64 0)).set 2 (.bool true)).set 3 (.bool false)
    simpa using this
  obtain ⟨v0, v1, h1, -⟩ := h
  have k2 := h1.cell 2
  have k3 := h1.cell 3
  have k4 := h1.cell 4
  have z2 := h1.free 2
  have z3 := h1.free 3
  have z4 := h1.free 4
  simp [ha] at k2 k3 k4
  obtain ⟨L, hL⟩ : ∃ L : Nat, L = s.left := ⟨_, rfl⟩
  rw [← hL] at k4 hcl hdo
  have hlt : (L : Int) < (cost : Int) := by omega
  have hle : ¬ ((cost : Int) ≤ (L : Int)) := by omega
  have hdo' := Lib.hid hdo
  have hnew' := Lib.hid hnew
  clear h1 hdo ha hnew hL
  have hmf : ∀ (fn : Fn) (first cap : Array Value) (w : World), (Instr.makeFunc fn first cap).run Try.prog w = .ok (.func fn first cap) w := fun _ _ _ _ => rfl
  go_enter_defers Try.func30, Try.ntmps30
  go_wp2
  refine leaves_cons (f := 31) (args := #[.int .i64 L, c1, c2, c3]) (by simp) (by simp [go_sem]) ?_
  obtain ⟨hn1, hn2⟩ := hnew'.out _ rfl
  refine (hdo'.out _ hn1 hn2 _).mono ?_
  rintro e u' w' ⟨rfl, hdone⟩
  have hfin := Done.from hd hn2 hdone
  obtain ⟨rfl, hr⟩ := hfin
  simp [Leaves, settle, results, Try.results30, go_sem]
  exact ⟨rfl, hr⟩

theorem pay_free_cu (d : Nat) (F : List Nat) (s s' : St) (cost : Nat) (hc : cost ≤ 9223372036854775807) (c1 c2 c3 : Value) (w : World) (h : Dk w d F s) (ha : s.armed = false) (hdo : Calls Try.prog 33 #[.int .i64 cost, c1, c2, c3] w (Done s' d F w)) :
    Calls Try.prog 30 #[.pointer (some ⟨d, 0, none⟩), .int .i64 cost, .func (.func 33) #[] #[c1, c2, c3]] w (Tells (0, s') d F w) := by
  obtain ⟨v0, v1, h1, -⟩ := h
  have k3 := h1.cell 3
  simp [ha] at k3
  have hdo' := Lib.hid hdo
  clear h1 hdo ha
  go_enter_defers Try.func30, Try.ntmps30
  go_wp2_with fail
  refine hdo'.out.mono ?_
  rintro e w1 ⟨rfl, hr⟩
  go_wp2
  simp [bodyPostD, Leaves, results, Try.results30, go_sem]
  exact ⟨rfl, hr⟩
theorem pay_enough_cu (d : Nat) (F : List Nat) (s s' : St) (cost : Nat) (hl : s.left ≤ 9223372036854775807) (c1 c2 c3 : Value) (w : World) (h : Dk w d F s) (ha : s.armed = true) (hcl : cost ≤ s.left)
    (hdo : ∀ w1, Dk w1 d F ⟨s.l, s.off, true, s.left - cost⟩ → BelowE [d] w.heap.size w w1 → ∀ u, CallsD Try.prog 33 #[.int .i64 cost, c1, c2, c3] u w1 fun e u' w' => u' = u ∧ Done s' d F w1 e w') :
    Calls Try.prog 30 #[.pointer (some ⟨d, 0, none⟩), .int .i64 cost, .func (.func 33) #[] #[c1, c2, c3]] w (Tells (0, s') d F w) := by
  have hd := h.mem
  have hnew : ∀ w', w' = w.setCell ⟨d, 4, none⟩ (.int .i64 ((s.left - cost : Nat) : Int)) → Dk w' d F ⟨s.l, s.off, true, s.left - cost⟩ ∧ BelowE [d] w.heap.size w w' := by
    rintro w' rfl
    have hb : BelowE [d] w.heap.size w (w.setCell ⟨d, 4, none⟩ (.int .i64 ((s.left - cost : Nat) : Int))) := (BelowE.refl _ _ _).setIn (p := ⟨d, 4, none⟩) (by simp) _
    refine ⟨dk_cells h hb fun v0 v1 hh => ?_, hb⟩
    have := hh.set 4 (.int .i64 ((s.left - cost : Nat) : Int))
    simpa [ha] using this
  obtain ⟨v0, v1, h1, -⟩ := h
  have k3 := h1.cell 3
  have k4 := h1.cell 4
  have z4 := h1.free 4
  simp [ha] at k3 k4
  obtain ⟨L, hL⟩ : ∃ L : Nat, L = s.left := ⟨_, rfl⟩
  rw [← hL] at k4 hcl hl hnew hdo
  have hcast : ((L - cost : Nat) : Int) = (L : Int) - (cost : Int) := by omega
  have hcast' := Lib.hid hcast
  have hle : (cost : Int) ≤ (L : Int) := by omega
  have hdo' := Lib.hid hdo
  have hnew' := Lib.hid hnew
  clear h1 hdo ha hnew hL hcast
  have hmf : ∀ (fn : Fn) (first cap : Array Value) (w : World), (Instr.makeFunc fn first cap).run Try.prog w = .ok (.func fn first cap) w := fun _ _ _ _ => rfl
  go_enter_defers Try.func30, Try.ntmps30
  go_wp2
  refine leaves_cons (f := 33) (args := #[.int .i64 cost, c1, c2, c3]) (by simp) (by simp [go_sem]) ?_
  obtain ⟨hn1, hn2⟩ := hnew'.out _ (by rw [hcast'.out])
  refine (hdo'.out _ hn1 hn2 _).mono ?_
  rintro e u' w' ⟨rfl, hdone⟩
  have hfin := Done.from hd hn2 hdone
  obtain ⟨rfl, hr⟩ := hfin
  simp [Leaves, settle, results, Try.results30, go_sem]
  exact ⟨rfl, hr⟩
theorem pay_short_cu (d : Nat) (F : List Nat) (s s' : St) (cost : Nat) (hc : cost ≤ 9223372036854775807) (c1 c2 c3 : Value) (w : World) (h : Dk w d F s) (ha : s.armed = true) (hcl : s.left < cost)
    (hdo : ∀ w1, Dk w1 d F ⟨s.l, true, false, 0⟩ → BelowE [d] w.heap.size w w1 → ∀ u, CallsD Try.prog 33 #[.int .i64 s.left, c1, c2, c3] u w1 fun e u' w' => u' = u ∧ Done s' d F w1 e w') :
    Calls Try.prog 30 #[.pointer (some ⟨d, 0, none⟩), .int .i64 cost, .func (.func 33) #[] #[c1, c2, c3]] w (Tells (280, s') d F w) := by
  have hd := h.mem
  have hnew : ∀ w', w' = ((w.setCell ⟨d, 4, none⟩ (.int .i64 0)).setCell ⟨d, 2, none⟩ (.bool true)).setCell ⟨d, 3, none⟩ (.bool false) → Dk w' d F ⟨s.l, true, false, 0⟩ ∧ BelowE [d] w.heap.size w w' := by
    rintro w' rfl
    have hb : BelowE [d] w.heap.size w (((w.setCell ⟨d, 4, none⟩ (.int .i64 0)).setCell ⟨d, 2, none⟩ (.bool true)).setCell ⟨d, 3, none⟩ (.bool false)) :=
      (((BelowE.refl _ _ _).setIn (p := ⟨d, 4, none⟩) (by simp) _).setIn (p := ⟨d, 2, none⟩) (by simp) _).setIn (p := ⟨d, 3, none⟩) (by simp) _
    refine ⟨dk_cells h hb fun v0 v1 hh => ?_, hb⟩
    have := ((hh.set 4 (.int .i64 0)).set 2 (.bool true)).set 3 (.bool false)
    simpa using this
  obtain ⟨v0, v1, h1, -⟩ := h
  have k2 := h1.cell 2
  have k3 := h1.cell 3
  have k4 := h1.cell 4
  have z2 := h1.free 2
  have z3 := h1.free 3
  have z4 := h1.free 4
  simp [ha] at k2 k3 k4
  obtain ⟨L, hL⟩ : ∃ L : Nat, L = s.left := ⟨_, rfl⟩
  rw [← hL] at k4 hcl hdo
  have hlt : (L : Int) < (cost : Int) := by omega
  have hle : ¬ ((cost : Int) ≤ (L : Int)) := by omega
  have hdo' := Lib.hid hdo
  have hnew' := Lib.hid hnew
  clear h1 hdo ha hnew hL
  have hmf : ∀ (fn : Fn) (first cap : Array Value) (w : World), (Instr.makeFunc fn first cap).run Try.prog w = .ok (.func fn first cap) w := fun _ _ _ _ => rfl
  go_enter_defers Try.func30, Try.ntmps30
  go_wp2
  refine leaves_cons (f := 33) (args := #[.int .i64 L, c1, c2, c3]) (by simp) (by simp [go_sem]) ?_
  obtain ⟨hn1, hn2⟩ := hnew'.out _ rfl
  refine (hdo'.out _ hn1 hn2 _).mono ?_
  rintro e u' w' ⟨rfl, hdone⟩
  have hfin := Done.from hd hn2 hdone
  obtain ⟨rfl, hr⟩ := hfin
  simp [Leaves, settle, results, Try.results30, go_sem]
  exact ⟨rfl, hr⟩
end Go.Proofs.Ytjhakmpinloioaa
