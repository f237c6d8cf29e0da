/- cur: From, Fail, Left, At, End. -/
import Derived.Test.YtkfgfbdlbiahkaaCurPen
import Derived.Test.YtkfgfbdlbiahkaaCurCaught
namespace Go.Proofs.Ytkfgfbdlbiahkaa
open Go.RowKit
set_option linter.unusedVariables false

/-- cur.From. -/
def Froms (bs : List Int) (w : World) (e : Ending) (w' : World) : Prop := ∃ r a cap, e = .returned (.pointer (some ⟨r, 0, none⟩)) ∧ Rd w' r a cap bs 0 0 ∧ Below w.heap.size w w' ∧ w.heap.size ≤ r
theorem from_any (A : Option Addr) (l : List Int) (n c : Nat) (hn : n = l.length) (B : Nat) (w : World) (hl : l.length ≤ 140737488355328) (hb : Bs l) (hs : Sees .u8 B w A l) :
    Calls Try.prog 26 #[.slice A n c] w (Froms l w) := by
  have hcl := Lib.hid (clone_any A l n c hn B w hl hs)
  clear hs hn
  go_enter Try.func26, Try.ntmps26
  go_wp2_with fail
  refine hcl.out.mono ?_
  intro e w1 h1
  obtain ⟨a1, c1, rfl, hs1, hb1, hc1⟩ := h1.openc l.length rfl
  clear h1
  go_wp2
  go_ret
  have hB := (Below.refl w1.heap.size w1).alloc (Nat.le_refl _) (.cells #[.slice a1 l.length c1, .int .i64 0, .int .i64 0] 68)
  refine ⟨w1.heap.size, a1, c1, rfl, ⟨Holds.new _ _ _, ?_, hb, by unfold maxLen; omega, hc1, Nat.zero_le _⟩, hb1.trans (hB.mono hb1.size), hb1.size⟩
  exact ((hs1.out (X := [w1.heap.size]) (by simp)).belowE (.of hB)).mono (by simp)

theorem fail_any (r : Nat) (a : Option Addr) (cap : Nat) (bs : List Int) (p : Nat) (e x : Int) (w : World) (h : Rd w r a cap bs p e) :
    Calls Try.prog 52 #[.pointer (some ⟨r, 0, none⟩), .int .i64 x] w (Rests (.tuple #[]) r a cap bs p (failO x e) w) := by
  have c2 := h.blk.cell 2
  have f2 := h.blk.free 2
  simp at c2
  have hblk := Lib.hid h.blk
  have herr := Lib.hid (err_any r e w c2)
  clear h
  by_cases he : e = 0
  · subst he
    have hset := Lib.hid (fun y : Int => hblk.out.set 2 (.int .i64 y))
    by_cases hx : x = 0
    · subst hx
      go_enter Try.func52, Try.ntmps52
      go_wp2_with fail
      refine herr.out.mono ?_
      rintro e w' ⟨rfl, rfl⟩
      go_wp2
      go_end0
      exact ⟨rfl, by simpa [failO] using hset.out 1, (BelowE.refl _ _ _).setIn (p := ⟨r, 2, none⟩) (List.mem_singleton.2 rfl) _⟩
    · have hx1 : (x == 0) = false := by simpa using hx
      have hf : failO x 0 = x := by simp [failO, hx]
      have hf' := Lib.hid hf
      clear hf
      go_enter Try.func52, Try.ntmps52
      go_wp2_with fail
      refine herr.out.mono ?_
      rintro e w' ⟨rfl, rfl⟩
      go_wp2
      go_end0
      refine ⟨rfl, ?_, (BelowE.refl _ _ _).setIn (p := ⟨r, 2, none⟩) (List.mem_singleton.2 rfl) _⟩
      rw [hf'.out]
      have := hset.out x
      simp at this
      exact this
  · have he1 : (e == 0) = false := by simpa using he
    have hf : failO x e = e := by simp [failO, he]
    rw [hf]
    clear hf
    by_cases hx : x = 0
    · subst hx
      go_enter Try.func52, Try.ntmps52
      go_wp2_with fail
      refine herr.out.mono ?_
      rintro e w' ⟨rfl, rfl⟩
      go_wp2
      go_end0
      exact ⟨rfl, hblk.out, BelowE.refl _ _ _⟩
    · have hx1 : (x == 0) = false := by simpa using hx
      go_enter Try.func52, Try.ntmps52
      go_wp2_with fail
      refine herr.out.mono ?_
      rintro e w' ⟨rfl, rfl⟩
      go_wp2
      go_end0
      exact ⟨rfl, hblk.out, BelowE.refl _ _ _⟩
theorem fail_nil (x : Int) (w : World) :
    Calls Try.prog 52 #[.pointer none, .int .i64 x] w fun e w' => e = .returned (.tuple #[]) ∧ w = w' := by
  by_cases hx : x = 0
  · subst hx
    go_enter Try.func52, Try.ntmps52
    go_wp2_with fail
    refine (err_nil w).mono ?_
    rintro e w' ⟨rfl, rfl⟩
    go_wp2
    go_end0
    exact ⟨rfl, rfl⟩
  · have hx1 : (x == 0) = false := by simpa using hx
    go_enter Try.func52, Try.ntmps52
    go_wp2_with fail
    refine (err_nil w).mono ?_
    rintro e w' ⟨rfl, rfl⟩
    go_wp2
    go_end0
    exact ⟨rfl, rfl⟩
/-- What is left. -/
def leftO (bs : List Int) (p : Nat) (e : Int) : Int := if e = 0 then (bs.length : Int) - p else 0
theorem left_holds (r : Nat) (a : Option Addr) (cap : Nat) (bs : List Int) (p : Nat) (e : Int) (w : World) (h : Holds w r 68 #[.slice a bs.length cap, .int .i64 p, .int .i64 e]) (hl : bs.length ≤ maxLen) (hp : p ≤ bs.length) :
    Calls Try.prog 31 #[.pointer (some ⟨r, 0, none⟩)] w fun e' w' => e' = .returned (.int .i64 (leftO bs p e)) ∧ ∃ m, w' = w.drewN m := by
  unfold maxLen at hl
  have c0 := h.cell 0
  have c1 := h.cell 1
  have c2 := h.cell 2
  simp at c0 c1 c2
  have herr := Lib.hid (err_any r e w c2)
  clear h
  by_cases he : e = 0
  · subst he
    go_enter Try.func31, Try.ntmps31
    go_wp2_with fail
    refine herr.out.mono ?_
    rintro e w' ⟨rfl, rfl⟩
    go_wp2
    go_quiet (fail)
    go_wp2
    go_ret
    exact ⟨rfl, nq, rfl⟩
  · have he1 : (e != 0) = true := by simpa using he
    have hf : leftO bs p e = 0 := by simp [leftO, he]
    rw [hf]
    clear hf
    go_enter Try.func31, Try.ntmps31
    go_wp2_with fail
    refine herr.out.mono ?_
    rintro e w' ⟨rfl, rfl⟩
    go_wp2
    go_ret
    exact ⟨rfl, 0, rfl⟩
theorem left_any (r : Nat) (a : Option Addr) (cap : Nat) (bs : List Int) (p : Nat) (e : Int) (w : World) (h : Rd w r a cap bs p e) :
    Calls Try.prog 31 #[.pointer (some ⟨r, 0, none⟩)] w fun e' w' => e' = .returned (.int .i64 (leftO bs p e)) ∧ ∃ m, w' = w.drewN m :=
  left_holds r a cap bs p e w h.blk h.len h.at_
theorem left_nil (w : World) :
    Calls Try.prog 31 #[.pointer none] w fun e' w' => e' = .returned (.int .i64 0) ∧ w = w' := by
  go_enter Try.func31, Try.ntmps31
  go_wp2_with fail
  refine (err_nil w).mono ?_
  rintro e w' ⟨rfl, rfl⟩
  go_wp2
  go_ret
  exact ⟨rfl, rfl⟩
theorem at_any (r : Nat) (p : Nat) (w : World) (c1 : w.cell? ⟨r, 1, none⟩ = some (.int .i64 p)) :
    Calls Try.prog 32 #[.pointer (some ⟨r, 0, none⟩)] w fun e' w' => e' = .returned (.int .i64 p) ∧ w = w' := by
  go_enter Try.func32, Try.ntmps32
  go_wp2
  go_ret
  exact ⟨rfl, rfl⟩
theorem at_nil (w : World) :
    Calls Try.prog 32 #[.pointer none] w fun e' w' => e' = .returned (.int .i64 0) ∧ w = w' := by
  go_enter Try.func32, Try.ntmps32
  go_wp2
  go_ret
  exact ⟨rfl, rfl⟩
theorem end_any (r : Nat) (a : Option Addr) (cap : Nat) (bs : List Int) (p : Nat) (e : Int) (w : World) (h : Rd w r a cap bs p e) :
    Calls Try.prog 33 #[.pointer (some ⟨r, 0, none⟩)] w (Rests (.tuple #[]) r a cap bs p (endO bs p e) w) := by
  have hp := h.at_
  have hl := Lib.hid (left_any r a cap bs p e w h)
  by_cases hlt : e = 0 ∧ p < bs.length
  · have hz : leftO bs p e = (bs.length : Int) - p := by simp [leftO, hlt.1]
    have hpos : 0 < (bs.length : Int) - p := by omega
    have he : endO bs p e = failO 3 e := by unfold endO failO; simp [hlt]
    rw [hz] at hl
    rw [he]
    generalize (bs.length : Int) - p = n at *
    have hf := Lib.hid (fun m => fail_any r a cap bs p e 3 (w.drewN m) (h.drewN m))
    clear hz he hlt h
    go_enter Try.func33, Try.ntmps33
    go_wp2_with fail
    refine hl.out.mono ?_
    rintro e w' ⟨rfl, m, rfl⟩
    go_wp2_with fail
    refine (hf.out m).mono ?_
    rintro e w' ⟨rfl, h1, h2⟩
    go_wp2
    go_end0
    exact ⟨rfl, h1, BelowE.fromDrewN m h2⟩
  · have hz : leftO bs p e = 0 := by unfold leftO; split <;> omega
    have he : endO bs p e = e := by unfold endO; simp [hlt]
    have hb := Lib.hid h.blk
    rw [hz] at hl
    rw [he]
    clear hz he hlt h
    go_enter Try.func33, Try.ntmps33
    go_wp2_with fail
    refine hl.out.mono ?_
    rintro e w' ⟨rfl, m, rfl⟩
    go_wp2
    go_end0
    exact ⟨rfl, hb.out.drewN m, (BelowE.refl _ _ _).drewN m⟩
theorem end_nil (w : World) :
    Calls Try.prog 33 #[.pointer none] w fun e' w' => e' = .returned (.tuple #[]) ∧ w = w' := by
  go_enter Try.func33, Try.ntmps33
  go_wp2_with fail
  refine (left_nil w).mono ?_
  rintro e w' ⟨rfl, rfl⟩
  go_wp2
  go_end0
  exact ⟨rfl, rfl⟩
end Go.Proofs.Ytkfgfbdlbiahkaa
