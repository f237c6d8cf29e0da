/- file: New, Read, Arm, Wake, Off, Spoil; a nil disk. -/
import Derived.Test.YtjhakmpinloioaaFileCut
namespace Go.Proofs.Ytjhakmpinloioaa
open Go.RowKit
set_option linter.unusedVariables false
set_option linter.unusedSimpArgs false

def NewDk (w : World) (e : Ending) (w' : World) : Prop := ∃ d F, e = .returned (.pointer (some ⟨d, 0, none⟩)) ∧ Dk w' d F ⟨fun _ => [], false, false, 0⟩ ∧ Below w.heap.size w w' ∧ ∀ x ∈ F, w.heap.size ≤ x
theorem new_any (w : World) : Calls Try.prog 9 #[] w (NewDk w) := by
  go_enter Try.func9, Try.ntmps9
  go_wp2
  go_ret
  exact ⟨w.heap.size, [w.heap.size], rfl, ⟨.slice none 0 0, .slice none 0 0, Holds.new _ _ _, ⟨rfl, .inl ⟨rfl, rfl⟩⟩, ⟨rfl, .inl ⟨rfl, rfl⟩⟩, by simp, by simp [Value.ownBlock], by simp [Value.ownBlock], by simp [Value.ownBlock], by simp⟩, (Below.refl _ _).alloc (Nat.le_refl _) _, by simp⟩
theorem off_any (d : Nat) (F : List Nat) (s : St) (w : World) (h : Dk w d F s) :
    Calls Try.prog 20 #[.pointer (some ⟨d, 0, none⟩)] w fun e w' => e = .returned (.bool s.off) ∧ w = w' := by
  have hd := dead_any d F s w h
  clear h
  cases ho : s.off <;> rw [ho] at hd <;> have hd' := Lib.hid hd <;> clear hd ho
  all_goals
    go_enter Try.func20, Try.ntmps20
    go_wp2_with fail
    refine hd'.out.mono ?_
    rintro e w' ⟨rfl, rfl⟩
    go_wp2
    go_ret
    exact ⟨rfl, rfl⟩
/-- A call that tells nothing. -/
def Silent (s : St) (d : Nat) (F : List Nat) (w : World) (e : Ending) (w' : World) : Prop := e = .returned (.tuple #[]) ∧ Dk w' d F s ∧ BelowE [d] w.heap.size w w'
theorem arm_any (d : Nat) (F : List Nat) (s : St) (k : Int) (hk : k ≤ 9223372036854775807) (w : World) (h : Dk w d F s) :
    Calls Try.prog 13 #[.pointer (some ⟨d, 0, none⟩), .int .i64 k] w (Silent (armO s k) d F w) := by
  have fin : ∀ w', w' = (w.setCell ⟨d, 3, none⟩ (.bool true)).setCell ⟨d, 4, none⟩ (.int .i64 (k.toNat : Int)) → Dk w' d F (armO s k) ∧ BelowE [d] w.heap.size w w' := by
    rintro w' rfl
    have hb : BelowE [d] w.heap.size w ((w.setCell ⟨d, 3, none⟩ (.bool true)).setCell ⟨d, 4, none⟩ (.int .i64 (k.toNat : Int))) := ((BelowE.refl _ _ _).setIn (p := ⟨d, 3, none⟩) (by simp) _).setIn (p := ⟨d, 4, none⟩) (by simp) _
    refine ⟨dk_cells h hb fun v0 v1 hh => ?_, hb⟩
    have := (hh.set 3 (.bool true)).set 4 (.int .i64 (k.toNat : Int))
    simpa using this
  obtain ⟨v0, v1, h1, -⟩ := h
  have k3 := h1.cell 3
  have k4 := h1.cell 4
  have z3 := h1.free 3
  have z4 := h1.free 4
  simp at k3 k4
  have fin' := Lib.hid fin
  clear h1 fin
  by_cases hk0 : 0 ≤ k
  · have hkk : Hid (((k.toNat : Nat) : Int) = k) := Lib.hid (by omega)
    go_enter Try.func13, Try.ntmps13
    go_wp2
    go_end0
    obtain ⟨f1, f2⟩ := fin'.out _ (by rw [hkk.out])
    exact ⟨rfl, f1, f2⟩
  · have hkk : Hid (((k.toNat : Nat) : Int) = 0) := Lib.hid (by omega)
    have hk1 : k < 0 := by omega
    clear hk0
    go_enter Try.func13, Try.ntmps13
    go_wp2
    go_end0
    obtain ⟨f1, f2⟩ := fin'.out _ (by rw [hkk.out])
    exact ⟨rfl, f1, f2⟩
theorem wake_any (d : Nat) (F : List Nat) (s : St) (w : World) (h : Dk w d F s) :
    Calls Try.prog 15 #[.pointer (some ⟨d, 0, none⟩)] w (Silent (wakeO s) d F w) := by
  have fin : ∀ w', w' = (w.setCell ⟨d, 2, none⟩ (.bool false)).setCell ⟨d, 3, none⟩ (.bool false) → Dk w' d F (wakeO s) ∧ BelowE [d] w.heap.size w w' := by
    rintro w' rfl
    have hb : BelowE [d] w.heap.size w ((w.setCell ⟨d, 2, none⟩ (.bool false)).setCell ⟨d, 3, none⟩ (.bool false)) := ((BelowE.refl _ _ _).setIn (p := ⟨d, 2, none⟩) (by simp) _).setIn (p := ⟨d, 3, none⟩) (by simp) _
    refine ⟨dk_cells h hb fun v0 v1 hh => ?_, hb⟩
    have := (hh.set 2 (.bool false)).set 3 (.bool false)
    simpa using this
  obtain ⟨v0, v1, h1, -⟩ := h
  have k2 := h1.cell 2
  have k3 := h1.cell 3
  have z2 := h1.free 2
  have z3 := h1.free 3
  simp at k2 k3
  have fin' := Lib.hid fin
  clear h1 fin
  go_enter Try.func15, Try.ntmps15
  go_wp2
  go_end0
  obtain ⟨f1, f2⟩ := fin'.out _ rfl
  exact ⟨rfl, f1, f2⟩
/-- What is read. -/
def Reads (r : List Int × Int) (w : World) (e : Ending) (w' : World) : Prop := ∃ v, e = .returned (.tuple #[v, .int .i64 r.2]) ∧ w'.ownsRow w.heap.size 5 1 v r.1.length (nums .u8 r.1) ∧ Below w.heap.size w w'

theorem read_0 (d : Nat) (F : List Nat) (s : St) (w : World) (h : Dk w d F s) (hf : s.fine) (ho : s.off = false) :
    Calls Try.prog 16 #[.pointer (some ⟨d, 0, none⟩), .int .i64 0] w (Reads (readO s 0) w) := by
  have hd := dead_any d F s w h
  rw [ho] at hd
  have hl : (s.l 0).length ≤ 4194304 := by have := hf; unfold St.fine at this; omega
  have hhas := has_0 d F s 0 w h (by omega)
  rw [show decide ((0 : Int) ≤ 0 ∧ 0 ≤ ((s.l 0).length : Int)) = true by simp] at hhas
  have hr : readO s 0 = (s.l 0, 0) := by simp [readO, ho]
  rw [hr]
  obtain ⟨v0, v1, h1, o0, o1, -⟩ := h
  obtain ⟨av, cv, rfl, -, see⟩ := sees_own o0
  have c0 := h1.cell 0
  simp at c0
  have hcl := Lib.hid (clone_any av (s.l 0) (s.l 0).length cv rfl w.heap.size w (by omega) see)
  have hd' := Lib.hid hd
  have hhas' := Lib.hid hhas
  clear h1 o0 o1 see hd hhas hf ho hr hl
  go_enter Try.func16, Try.ntmps16
  go_wp2_with fail
  refine hd'.out.mono ?_
  rintro e w' ⟨rfl, rfl⟩
  go_wp2_with fail
  refine hhas'.out.mono ?_
  rintro e w' ⟨rfl, rfl⟩
  go_wp2_with fail
  refine hcl.out.mono ?_
  rintro e w1 ⟨v, rfl, k1, k2⟩
  go_wp2
  go_ret2
  exact ⟨v, rfl, k1, k2⟩

theorem read_1 (d : Nat) (F : List Nat) (s : St) (w : World) (h : Dk w d F s) (hf : s.fine) (ho : s.off = false) :
    Calls Try.prog 16 #[.pointer (some ⟨d, 0, none⟩), .int .i64 1] w (Reads (readO s 1) w) := by
  have hd := dead_any d F s w h
  rw [ho] at hd
  have hl : (s.l 1).length ≤ 4194304 := by have := hf; unfold St.fine at this; omega
  have hhas := has_1 d F s 0 w h (by omega)
  rw [show decide ((0 : Int) ≤ 0 ∧ 0 ≤ ((s.l 1).length : Int)) = true by simp] at hhas
  have hr : readO s 1 = (s.l 1, 0) := by simp [readO, ho]
  rw [hr]
  obtain ⟨v0, v1, h1, o0, o1, -⟩ := h
  obtain ⟨av, cv, rfl, -, see⟩ := sees_own o1
  have c0 := h1.cell 1
  simp at c0
  have hcl := Lib.hid (clone_any av (s.l 1) (s.l 1).length cv rfl w.heap.size w (by omega) see)
  have hd' := Lib.hid hd
  have hhas' := Lib.hid hhas
  clear h1 o0 o1 see hd hhas hf ho hr hl
  go_enter Try.func16, Try.ntmps16
  go_wp2_with fail
  refine hd'.out.mono ?_
  rintro e w' ⟨rfl, rfl⟩
  go_wp2_with fail
  refine hhas'.out.mono ?_
  rintro e w' ⟨rfl, rfl⟩
  go_wp2_with fail
  refine hcl.out.mono ?_
  rintro e w1 ⟨v, rfl, k1, k2⟩
  go_wp2
  go_ret2
  exact ⟨v, rfl, k1, k2⟩

theorem read_any (d : Nat) (F : List Nat) (s : St) (n : Int) (w : World) (h : Dk w d F s) (hf : s.fine) :
    Calls Try.prog 16 #[.pointer (some ⟨d, 0, none⟩), .int .i64 n] w (Reads (readO s n) w) := by
  cases ho : s.off
  · by_cases hn : n ≠ 0 ∧ n ≠ 1
    · have hd := dead_any d F s w h
      rw [ho] at hd
      have hd' := Lib.hid hd
      have hhas := Lib.hid (has_no d n 0 (by omega) w)
      have hr : readO s n = ([], 1) := by simp [readO, ho, hn]
      rw [hr]
      clear hd hr hn h hf ho
      go_enter Try.func16, Try.ntmps16
      go_wp2_with fail
      refine hd'.out.mono ?_
      rintro e w' ⟨rfl, rfl⟩
      go_wp2_with fail
      refine hhas.out.mono ?_
      rintro e w' ⟨rfl, rfl⟩
      go_wp2
      go_ret2
      exact ⟨_, rfl, ⟨rfl, .inl ⟨rfl, rfl⟩⟩, Below.refl _ _⟩
    · have : n = 0 ∨ n = 1 := by omega
      rcases this with rfl | rfl
      · exact read_0 d F s w h hf ho
      · exact read_1 d F s w h hf ho
  · have hd := dead_any d F s w h
    rw [ho] at hd
    have hd' := Lib.hid hd
    have hr : readO s n = ([], 280) := by simp [readO, ho]
    rw [hr]
    clear hd hr h hf ho
    go_enter Try.func16, Try.ntmps16
    go_wp2_with fail
    refine hd'.out.mono ?_
    rintro e w' ⟨rfl, rfl⟩
    go_wp2
    go_ret2
    exact ⟨_, rfl, ⟨rfl, .inl ⟨rfl, rfl⟩⟩, Below.refl _ _⟩

theorem write_nil (n : Int) (A : Option Addr) (m c : Nat) (w : World) :
    Calls Try.prog 14 #[.pointer none, .int .i64 n, .slice A m c] w fun e w' => e = .returned (.int .i64 6) ∧ Below w.heap.size w w' := by
  go_enter Try.func14, Try.ntmps14
  go_wp2_with fail
  refine (dead_nil _).mono ?_
  rintro e w' ⟨rfl, rfl⟩
  go_wp2
  go_ret
  exact ⟨rfl, (((Below.refl _ _).alloc (Nat.le_refl _) _).alloc (by simp) _).alloc (by simp; omega) _⟩

theorem cut_nil (n m : Int) (w : World) :
    Calls Try.prog 19 #[.pointer none, .int .i64 n, .int .i64 m] w fun e w' => e = .returned (.int .i64 6) ∧ Below w.heap.size w w' := by
  go_enter Try.func19, Try.ntmps19
  go_wp2_with fail
  refine (dead_nil _).mono ?_
  rintro e w' ⟨rfl, rfl⟩
  go_wp2
  go_ret
  exact ⟨rfl, (((Below.refl _ _).alloc (Nat.le_refl _) _).alloc (by simp) _).alloc (by simp; omega) _⟩

theorem clear_nil (n : Int) (w : World) :
    Calls Try.prog 18 #[.pointer none, .int .i64 n] w fun e w' => e = .returned (.int .i64 6) ∧ Below w.heap.size w w' := by
  have hc := Lib.hid (cut_nil n 0 w)
  go_enter Try.func18, Try.ntmps18
  go_wp2_with fail
  refine hc.out.mono ?_
  rintro e w' ⟨rfl, hb⟩
  go_wp2
  go_ret
  exact ⟨rfl, hb⟩

theorem spoil_nil (n m : Int) (A : Option Addr) (k c : Nat) (w : World) :
    Calls Try.prog 17 #[.pointer none, .int .i64 n, .int .i64 m, .slice A k c] w fun e w' => e = .returned (.int .i64 6) ∧ Below w.heap.size w w' := by
  go_enter Try.func17, Try.ntmps17
  go_wp2
  go_ret
  exact ⟨rfl, Below.refl _ _⟩

theorem read_nil (n : Int) (w : World) :
    Calls Try.prog 16 #[.pointer none, .int .i64 n] w fun e w' => e = .returned (.tuple #[.slice none 0 0, .int .i64 6]) ∧ Below w.heap.size w w' := by
  go_enter Try.func16, Try.ntmps16
  go_wp2_with fail
  refine (dead_nil _).mono ?_
  rintro e w' ⟨rfl, rfl⟩
  go_wp2
  go_ret2
  exact ⟨rfl, Below.refl _ _⟩

theorem off_nil  (w : World) :
    Calls Try.prog 20 #[.pointer none] w fun e w' => e = .returned (.bool true) ∧ Below w.heap.size w w' := by
  go_enter Try.func20, Try.ntmps20
  go_wp2_with fail
  refine (dead_nil _).mono ?_
  rintro e w' ⟨rfl, rfl⟩
  go_wp2
  go_ret
  exact ⟨rfl, Below.refl _ _⟩

theorem arm_nil (n : Int) (w : World) :
    Calls Try.prog 13 #[.pointer none, .int .i64 n] w fun e w' => e = .returned (.tuple #[]) ∧ Below w.heap.size w w' := by
  go_enter Try.func13, Try.ntmps13
  go_wp2
  go_end0
  exact ⟨rfl, Below.refl _ _⟩

theorem wake_nil  (w : World) :
    Calls Try.prog 15 #[.pointer none] w fun e w' => e = .returned (.tuple #[]) ∧ Below w.heap.size w w' := by
  go_enter Try.func15, Try.ntmps15
  go_wp2
  go_end0
  exact ⟨rfl, Below.refl _ _⟩
end Go.Proofs.Ytjhakmpinloioaa
