/- The document's own disk: New, check, pay, Read, Arms, Wake. -/
import Derived.Test.YtjhakmpinloioaaFileLives
import Derived.Test.YtjhakmpinloioaaByteRows
namespace Go.Proofs.Ytjhakmpinloioaa
open Go.RowKit
set_option linter.unusedVariables false
set_option linter.unusedSimpArgs false

def armV (s : St) : Int := if s.armed then (s.left : Int) else -1
def Rk (w : World) (x : Nat) (s : St) : Prop := Holds w x 50 #[.string (strOfNums (s.l 0)), .string (strOfNums (s.l 1)), .int .i64 (armV s), .bool s.off]
theorem Rk.lt {w : World} {x : Nat} {s : St} (h : Rk w x s) : x < w.heap.size := Holds.lt h
theorem Rk.below {w w' : World} {x : Nat} {s : St} (h : Rk w x s) (hb : Below w.heap.size w w') : Rk w' x s := Holds.below h hb h.lt
theorem Rk.belowE {w w' : World} {X : List Nat} {x : Nat} {s : St} (h : Rk w x s) (hb : BelowE X w.heap.size w w') (hx : x ∉ X) : Rk w' x s := Holds.belowE h hb h.lt hx
theorem Rk.put0 {w : World} {x : Nat} {s : St} (h : Rk w x s) (l : List Int) : Rk (w.setCell ⟨x, 0, none⟩ (.string (strOfNums l))) x (s.with_ (upd s.l 0 l)) ∧ BelowE [x] w.heap.size w (w.setCell ⟨x, 0, none⟩ (.string (strOfNums l))) := by
  refine ⟨?_, (BelowE.refl _ _ _).setIn (p := ⟨x, 0, none⟩) (by simp) _⟩
  have e0 : (s.with_ (upd s.l 0 l)).l 0 = l := by simp [St.with_, upd]
  have e1 : (s.with_ (upd s.l 0 l)).l 1 = s.l 1 := by simp [St.with_, upd]
  unfold Rk
  rw [e0, e1]
  exact Holds.set h 0 (.string (strOfNums l))
theorem Rk.put1 {w : World} {x : Nat} {s : St} (h : Rk w x s) (l : List Int) : Rk (w.setCell ⟨x, 1, none⟩ (.string (strOfNums l))) x (s.with_ (upd s.l 1 l)) ∧ BelowE [x] w.heap.size w (w.setCell ⟨x, 1, none⟩ (.string (strOfNums l))) := by
  refine ⟨?_, (BelowE.refl _ _ _).setIn (p := ⟨x, 1, none⟩) (by simp) _⟩
  have e0 : (s.with_ (upd s.l 1 l)).l 0 = s.l 0 := by simp [St.with_, upd]
  have e1 : (s.with_ (upd s.l 1 l)).l 1 = l := by simp [St.with_, upd]
  unfold Rk
  rw [e0, e1]
  exact Holds.set h 1 (.string (strOfNums l))

def NewRk (w : World) (e : Ending) (w' : World) : Prop := ∃ x, e = .returned (.pointer (some ⟨x, 0, none⟩)) ∧ Rk w' x ⟨fun _ => [], false, false, 0⟩ ∧ Below w.heap.size w w' ∧ w.heap.size ≤ x
theorem rnew_any (w : World) : Calls Try.prog 10 #[] w (NewRk w) := by
  go_enter Try.func10, Try.ntmps10
  go_wp2
  go_ret
  exact ⟨w.heap.size, rfl, Holds.new _ _ _, (Below.refl _ _).alloc (Nat.le_refl _) _, Nat.le_refl _⟩

theorem rcheck_any (x : Nat) (s : St) (n : Int) (w : World) (h : Rk w x s) :
    Calls Try.prog 34 #[.pointer (some ⟨x, 0, none⟩), .int .i64 n] w fun e w' => e = .returned (.int .i64 (if s.off then 280 else if n ≠ 0 ∧ n ≠ 1 then 1 else 0)) ∧ w = w' := by
  have k3 := Holds.cell h 3
  simp at k3
  clear h
  cases ho : s.off <;> rw [ho] at k3 <;> clear ho
  · by_cases h0 : n = 0
    · subst h0
      go_enter Try.func34, Try.ntmps34
      go_wp2
      go_ret
      exact ⟨rfl, rfl⟩
    · by_cases h1 : n = 1
      · subst h1
        go_enter Try.func34, Try.ntmps34
        go_wp2
        go_ret
        exact ⟨rfl, rfl⟩
      · have hr : (if (false : Bool) = true then (280 : Int) else if n ≠ 0 ∧ n ≠ 1 then 1 else 0) = 1 := by simp [h0, h1]
        rw [hr]
        have q0 : (n != 0) = true := by simpa using h0
        have q1 : (n != 1) = true := by simpa using h1
        clear hr
        go_enter Try.func34, Try.ntmps34
        go_wp2
        go_ret
        exact ⟨rfl, rfl⟩
  · go_enter Try.func34, Try.ntmps34
    go_wp2
    go_ret
    exact ⟨rfl, rfl⟩

def Pays (s : St) (c : Nat) (x : Nat) (w : World) (e : Ending) (w' : World) : Prop :=
  e = .returned (.tuple #[.int .i64 (s.paid c), .bool (decide (s.code c = 0))]) ∧ Rk w' x (s.after c) ∧ BelowE [x] w.heap.size w w'
theorem rpay_any (x : Nat) (s : St) (c : Nat) (hc : (c : Int) ≤ 9223372036854775807) (hs : s.left ≤ 9223372036854775807) (w : World) (h : Rk w x s) :
    Calls Try.prog 35 #[.pointer (some ⟨x, 0, none⟩), .int .i64 c] w (Pays s c x w) := by
  have k2 := Holds.cell h 2
  have z2 := Holds.free h 2
  have k3 := Holds.cell h 3
  have z3 := Holds.free h 3
  simp at k2 k3
  cases ha : s.armed
  · have hr : Pays s c x w (.returned (.tuple #[.int .i64 c, .bool true])) w := by
      refine ⟨by simp [St.paid, St.code, ha], by simpa [St.after, ha] using h, BelowE.refl _ _ _⟩
    have hv : armV s = -1 := by simp [armV, ha]
    rw [hv] at k2
    have hr' := Lib.hid hr
    clear hr hv h ha z2 z3 k3
    go_enter Try.func35, Try.ntmps35
    go_wp2
    go_ret2
    exact hr'.out
  · have hv : armV s = (s.left : Int) := by simp [armV, ha]
    rw [hv] at k2
    by_cases hle : c ≤ s.left
    · have hlt : ¬ s.left < c := by omega
      have hr : Pays s c x w (.returned (.tuple #[.int .i64 c, .bool true])) (w.setCell ⟨x, 2, none⟩ (.int .i64 ((s.left : Int) - (c : Int)))) := by
        refine ⟨by simp [St.paid, St.code, ha, hlt, Nat.min_eq_left hle], ?_, (BelowE.refl _ _ _).setIn (p := ⟨x, 2, none⟩) (by simp) _⟩
        have := Holds.set h 2 (.int .i64 ((s.left : Int) - (c : Int)))
        have e1 : ((s.left - c : Nat) : Int) = (s.left : Int) - (c : Int) := by omega
        simpa [Rk, St.after, ha, hlt, armV, e1] using this
      have hle' : (c : Int) ≤ (s.left : Int) := by omega
      have hle2 : (s.left : Int) ≤ 9223372036854775807 := by omega
      have hr' := Lib.hid hr
      clear hr hv h ha hlt hle hs
      generalize s.left = q at *
      go_enter Try.func35, Try.ntmps35
      go_wp2
      go_ret2
      exact hr'.out
    · have hlt : s.left < c := by omega
      have hr : Pays s c x w (.returned (.tuple #[.int .i64 (s.left : Int), .bool false])) ((w.setCell ⟨x, 2, none⟩ (.int .i64 (-1))).setCell ⟨x, 3, none⟩ (.bool true)) := by
        refine ⟨by simp [St.paid, St.code, ha, hlt, Nat.min_eq_right (Nat.le_of_lt hlt)], ?_, ((BelowE.refl _ _ _).setIn (p := ⟨x, 2, none⟩) (by simp) _).setIn (p := ⟨x, 3, none⟩) (by simp) _⟩
        have := (Holds.set h 2 (.int .i64 (-1))).set 3 (.bool true)
        simpa [Rk, St.after, ha, hlt, armV] using this
      have hle' : ¬ (c : Int) ≤ (s.left : Int) := by omega
      have hle2 : (s.left : Int) ≤ 9223372036854775807 := by omega
      have hr' := Lib.hid hr
      clear hr hv h ha hlt hle hs
      generalize s.left = q at *
      go_enter Try.func35, Try.ntmps35
      go_wp2
      go_ret2
      exact hr'.out

def RSilent (s : St) (x : Nat) (w : World) (e : Ending) (w' : World) : Prop := e = .returned (.tuple #[]) ∧ Rk w' x s ∧ BelowE [x] w.heap.size w w'
theorem rarms_any (x : Nat) (s : St) (k : Int) (w : World) (h : Rk w x s) :
    Calls Try.prog 25 #[.pointer (some ⟨x, 0, none⟩), .int .i64 k] w (RSilent (armO s k) x w) := by
  have z2 := Holds.free h 2
  have k2 := Holds.cell h 2
  simp at k2
  have hr : RSilent (armO s k) x w (.returned (.tuple #[])) (w.setCell ⟨x, 2, none⟩ (.int .i64 ((k.toNat : Nat) : Int))) := by
    refine ⟨rfl, ?_, (BelowE.refl _ _ _).setIn (p := ⟨x, 2, none⟩) (by simp) _⟩
    have := Holds.set h 2 (.int .i64 ((k.toNat : Nat) : Int))
    simpa [Rk, armO, armV] using this
  by_cases hk : k < 0
  · rw [show ((k.toNat : Nat) : Int) = 0 by omega] at hr
    have hr' := Lib.hid hr
    clear hr h
    go_enter Try.func25, Try.ntmps25
    go_wp2
    go_end0
    exact hr'.out
  · rw [show ((k.toNat : Nat) : Int) = k by omega] at hr
    have hr' := Lib.hid hr
    clear hr h
    go_enter Try.func25, Try.ntmps25
    go_wp2
    go_end0
    exact hr'.out
theorem rwake_any (x : Nat) (s : St) (w : World) (h : Rk w x s) :
    Calls Try.prog 26 #[.pointer (some ⟨x, 0, none⟩)] w (RSilent (wakeO s) x w) := by
  have z2 := Holds.free h 2
  have k2 := Holds.cell h 2
  have z3 := Holds.free h 3
  have k3 := Holds.cell h 3
  simp at k2 k3
  have hr : RSilent (wakeO s) x w (.returned (.tuple #[])) ((w.setCell ⟨x, 2, none⟩ (.int .i64 (-1))).setCell ⟨x, 3, none⟩ (.bool false)) := by
    refine ⟨rfl, ?_, ((BelowE.refl _ _ _).setIn (p := ⟨x, 2, none⟩) (by simp) _).setIn (p := ⟨x, 3, none⟩) (by simp) _⟩
    have := (Holds.set h 2 (.int .i64 (-1))).set 3 (.bool false)
    simpa [Rk, wakeO, armV] using this
  have hr' := Lib.hid hr
  clear hr h
  go_enter Try.func26, Try.ntmps26
  go_wp2
  go_end0
  exact hr'.out
theorem rread_any (x : Nat) (s : St) (n : Int) (w : World) (h : Rk w x s) :
    Calls Try.prog 24 #[.pointer (some ⟨x, 0, none⟩), .int .i64 n] w fun e w' => e = .returned (.tuple #[.string (strOfNums (readO s n).1), .int .i64 (readO s n).2]) ∧ w = w' := by
  have hck := rcheck_any x s n w h
  have k0 := Holds.cell h 0
  have k1 := Holds.cell h 1
  simp at k0 k1
  clear h
  cases ho : s.off
  · by_cases hn : n ≠ 0 ∧ n ≠ 1
    · rw [ho, if_neg (by simp), if_pos hn] at hck
      have hr : readO s n = ([], 1) := by simp [readO, ho, hn]
      rw [hr]
      have hck' := Lib.hid hck
      clear hck hr k0 k1 ho hn
      go_enter Try.func24, Try.ntmps24
      go_wp2_with fail
      refine hck'.out.mono ?_
      rintro e w' ⟨rfl, rfl⟩
      go_wp2
      go_ret2
      exact ⟨rfl, rfl⟩
    · rw [ho, if_neg (by simp), if_neg hn] at hck
      have hck' := Lib.hid hck
      have : n = 0 ∨ n = 1 := by omega
      rcases this with rfl | rfl
      · have hr : readO s 0 = (s.l 0, 0) := by simp [readO, ho]
        rw [hr]
        clear hck hr ho hn
        generalize strOfNums (s.l 0) = f0 at *
        go_enter Try.func24, Try.ntmps24
        go_wp2_with fail
        refine hck'.out.mono ?_
        rintro e w' ⟨rfl, rfl⟩
        go_wp2
        go_ret2
        exact ⟨rfl, rfl⟩
      · have hr : readO s 1 = (s.l 1, 0) := by simp [readO, ho]
        rw [hr]
        clear hck hr ho hn
        generalize strOfNums (s.l 1) = f1 at *
        go_enter Try.func24, Try.ntmps24
        go_wp2_with fail
        refine hck'.out.mono ?_
        rintro e w' ⟨rfl, rfl⟩
        go_wp2
        go_ret2
        exact ⟨rfl, rfl⟩
  · rw [ho, if_pos rfl] at hck
    have hr : readO s n = ([], 280) := by simp [readO, ho]
    rw [hr]
    have hck' := Lib.hid hck
    clear hck hr k0 k1 ho
    go_enter Try.func24, Try.ntmps24
    go_wp2_with fail
    refine hck'.out.mono ?_
    rintro e w' ⟨rfl, rfl⟩
    go_wp2
    go_ret2
    exact ⟨rfl, rfl⟩
end Go.Proofs.Ytjhakmpinloioaa
