/- The document's reader, and its calls. -/
import Derived.Test.YtnjdgnlgdokddaaCurTake
namespace Go.Proofs.Ytnjdgnlgdokddaa
open Go.RowKit
set_option linter.unusedVariables false

/-- A reader in memory: block r; its bytes are bs. -/
structure Rf (w : World) (r : Nat) (a : Option Addr) (cap : Nat) (bs : List Int) (p : Nat) (e : Int) : Prop where
  blk : Holds w r 57 #[.slice a bs.length cap, .int .i64 p, .int .i64 e]
  sees : SeesE [r] .u8 w.heap.size w a bs
  byt : Bs bs
  len : bs.length ≤ maxLen
  cap : bs.length ≤ cap
  at_ : p ≤ bs.length

/-- The reader has moved; all else that was there is as it was. -/
def MovedF (r : Nat) (a : Option Addr) (cap : Nat) (bs : List Int) (q : Nat) (x : Int) (w w' : World) : Prop :=
  Holds w' r 57 #[.slice a bs.length cap, .int .i64 q, .int .i64 x] ∧ BelowE [r] w.heap.size w w'
theorem Rf.moved {w w' : World} {r : Nat} {a : Option Addr} {cap : Nat} {bs : List Int} {p q : Nat} {e x : Int} (h : Rf w r a cap bs p e) (hm : MovedF r a cap bs q x w w') (hq : q ≤ bs.length) : Rf w' r a cap bs q x :=
  ⟨hm.1, (h.sees.belowE hm.2).mono hm.2.size, h.byt, h.len, h.cap, hq⟩
theorem Rf.ahead {w w' : World} {r : Nat} {a : Option Addr} {cap : Nat} {bs : List Int} {p : Nat} {e : Int} (h : Rf w r a cap bs p e) (hb : Below w.heap.size w w') : Rf w' r a cap bs p e :=
  ⟨h.blk.below hb h.blk.lt, (h.sees.belowE (.of hb)).mono hb.size, h.byt, h.len, h.cap, h.at_⟩

theorem Rf.drewN {w : World} {r : Nat} {a : Option Addr} {cap : Nat} {bs : List Int} {p : Nat} {e : Int} (h : Rf w r a cap bs p e) (n : Nat) : Rf (w.drewN n) r a cap bs p e :=
  ⟨h.blk.drewN n, h.sees.drewN n, h.byt, h.len, h.cap, h.at_⟩

/-- What a call of a reader tells, and where the reader stands behind it. -/
def RestsF (z : Value) (r : Nat) (a : Option Addr) (cap : Nat) (bs : List Int) (p : Nat) (x : Int) (w : World) (e : Ending) (w' : World) : Prop := e = .returned z ∧ MovedF r a cap bs p x w w'

theorem rfail_any (r : Nat) (a : Option Addr) (cap : Nat) (bs : List Int) (p : Nat) (e x : Int) (w : World) (h : Rf w r a cap bs p e) :
    Calls Try.prog 66 #[.pointer (some ⟨r, 0, none⟩), .int .i64 x] w (RestsF (.tuple #[]) r a cap bs p (failO x e) w) := by
  have c2 := h.blk.cell 2
  have f2 := h.blk.free 2
  simp at c2
  have hblk := Lib.hid h.blk
  clear h
  by_cases he : e = 0
  · subst he
    have hset := Lib.hid (fun y : Int => hblk.out.set 2 (.int .i64 y))
    by_cases hx : x = 0
    · subst hx
      go_enter Try.func66, Try.ntmps66
      go_wp2
      go_end0
      exact ⟨rfl, by simpa [failO] using hset.out 1, (BelowE.refl _ _ _).setIn (p := ⟨r, 2, none⟩) (List.mem_singleton.2 rfl) _⟩
    · have hx1 : (x == 0) = false := by simpa using hx
      have hf : failO x 0 = x := by simp [failO, hx]
      have hf' := Lib.hid hf
      clear hf
      go_enter Try.func66, Try.ntmps66
      go_wp2
      go_end0
      refine ⟨rfl, ?_, (BelowE.refl _ _ _).setIn (p := ⟨r, 2, none⟩) (List.mem_singleton.2 rfl) _⟩
      rw [hf'.out]
      have := hset.out x
      simp at this
      exact this
  · have he1 : (e == 0) = false := by simpa using he
    have hf : failO x e = e := by simp [failO, he]
    rw [hf]
    clear hf
    by_cases hx : x = 0
    · subst hx
      go_enter Try.func66, Try.ntmps66
      go_wp2
      go_end0
      exact ⟨rfl, hblk.out, BelowE.refl _ _ _⟩
    · have hx1 : (x == 0) = false := by simpa using hx
      go_enter Try.func66, Try.ntmps66
      go_wp2
      go_end0
      exact ⟨rfl, hblk.out, BelowE.refl _ _ _⟩

theorem ru_any (r : Nat) (a : Option Addr) (cap : Nat) (bs : List Int) (p : Nat) (e : Int) (w : World) (h : Rf w r a cap bs p e) :
    Calls Try.prog 79 #[.pointer (some ⟨r, 0, none⟩)] w (RestsF (.int .u64 (uO bs p e).1) r a cap bs (uO bs p e).2.1 (uO bs p e).2.2 w) := by
  have hl := h.len
  unfold maxLen at hl
  have hp := h.at_
  have c0 := h.blk.cell 0
  have c1 := h.blk.cell 1
  have c2 := h.blk.cell 2
  have f1 := h.blk.free 1
  simp at c0 c1 c2
  have hblk := Lib.hid h.blk
  by_cases he : e = 0
  · subst he
    obtain ⟨a', hs1, hs2⟩ := h.sees.sees.cut p bs.length cap (Nat.le_refl _) h.at_ h.cap
    rw [List.take_length] at hs2
    have hlen : (bs.drop p).length ≤ maxLen := by unfold maxLen; simp; omega
    have hsl := slice_from hs1 hp
    have hno : ∀ x : Int, x ≠ 0 → getL 0 0 1 (bs.drop p) = (0, 0, x) → uO bs p 0 = (0, p, x) → Calls Try.prog 79 #[.pointer (some ⟨r, 0, none⟩)] w (RestsF (.int .u64 0) r a cap bs p x w) := by
      intro x hx hg _
      have hget' := Lib.hid (fun m => refget_is hg a' (bs.length - p) (cap - p) (by simp) w.heap.size (w.drewN m) hlen (h.byt.drop p) (hs2.drewN m))
      have hfail := Lib.hid (fun m => rfail_any r a cap bs p 0 x (w.drewN m) (h.drewN m))
      have hx1 : (x != 0) = true := by simpa using hx
      have hf : failO x 0 = x := by simp [failO, hx]
      rw [hf] at hfail
      clear hg hs1 hs2 h hf
      go_enter Try.func79, Try.ntmps79
      go_wp2
      go_quiet ((go_at_call 86; exact quiet_mine (hget'.out _)))
      go_wp2_with fail
      refine (hfail.out nq).mono ?_
      rintro e w' ⟨rfl, h1, h2⟩
      go_wp2
      go_ret
      exact ⟨rfl, h1, BelowE.fromDrewN nq h2⟩
    rcases uO_cases h.byt h.at_ with ⟨hs, hg⟩ | ⟨hs, hg⟩ | ⟨n, j, hs, hg, h0, h1, h2⟩
    · rw [hs]; exact hno 10 (by decide) hg hs
    · rw [hs]; exact hno 11 (by decide) hg hs
    · rw [hs]
      have hget' := Lib.hid (fun m => refget_is hg a' (bs.length - p) (cap - p) (by simp) w.heap.size (w.drewN m) hlen (h.byt.drop p) (hs2.drewN m))
      clear hg hs1 hs2 h hs hno
      go_enter Try.func79, Try.ntmps79
      go_wp2
      go_quiet ((go_at_call 86; exact quiet_mine (hget'.out _)))
      go_wp2
      go_ret
      refine ⟨rfl, ?_, ((BelowE.refl _ _ _).drewN nq).setIn (p := ⟨r, 1, none⟩) (List.mem_singleton.2 rfl) _⟩
      have := (hblk.out.drewN nq).set 1 (.int .i64 ((p + j : Nat) : Int))
      simp at this
      exact this
  · have he1 : (e != 0) = true := by simpa using he
    have hf : uO bs p e = (0, p, e) := by simp [uO, he]
    rw [hf]
    clear hf h
    go_enter Try.func79, Try.ntmps79
    go_wp2
    go_ret
    exact ⟨rfl, hblk.out, BelowE.refl _ _ _⟩

theorem rtake_ok (r : Nat) (a : Option Addr) (cap : Nat) (bs : List Int) (p n : Nat) (a' : Option Addr) (w : World) (h : Rf w r a cap bs p 0) (hq : p + n ≤ bs.length)
    (hs : sliced a p (p + n) cap 1 = .slice a' n (cap - p)) :
    Calls Try.prog 64 #[.pointer (some ⟨r, 0, none⟩), .int .i64 n] w (RestsF (.slice a' n (cap - p)) r a cap bs (p + n) 0 w) := by
  have hl := h.len
  unfold maxLen at hl
  have hp := h.at_
  have c0 := h.blk.cell 0
  have c1 := h.blk.cell 1
  have c2 := h.blk.cell 2
  have f1 := h.blk.free 1
  simp at c0 c1 c2
  have hcap := h.cap
  have hlt : decide ((bs.length : Int) - (p : Int) < (n : Int)) = false := by simp; omega
  have hsl := slice_between (n := bs.length) hs (by omega) (by omega)
  rw [show ((p + n : Nat) : Int) = (p : Int) + (n : Int) by omega] at hsl
  have hblk := Lib.hid h.blk
  clear h hs
  go_enter Try.func64, Try.ntmps64
  go_wp2
  go_quiet (fail)
  go_wp2
  go_quiet (fail)
  go_wp2
  go_ret
  refine ⟨rfl, ?_, ?_⟩
  · have := (hblk.out.drewN nq).set 1 (.int .i64 ((p + n : Nat) : Int))
    simp at this
    exact this
  · exact (((BelowE.refl _ _ _).drewN _).setIn (p := ⟨r, 1, none⟩) (List.mem_singleton.2 rfl) _).drewN _
theorem rtake_no (r : Nat) (a : Option Addr) (cap : Nat) (bs : List Int) (p n : Nat) (w : World) (h : Rf w r a cap bs p 0) (hq : bs.length < p + n) :
    Calls Try.prog 64 #[.pointer (some ⟨r, 0, none⟩), .int .i64 n] w (RestsF (.slice none 0 0) r a cap bs p 10 w) := by
  have hl := h.len
  unfold maxLen at hl
  have hp := h.at_
  have c0 := h.blk.cell 0
  have c1 := h.blk.cell 1
  have c2 := h.blk.cell 2
  simp at c0 c1 c2
  have hlt : decide ((bs.length : Int) - (p : Int) < (n : Int)) = true := by simp; omega
  have hfail := Lib.hid (fun m => rfail_any r a cap bs p 0 10 (w.drewN m) (h.drewN m))
  clear h
  go_enter Try.func64, Try.ntmps64
  go_wp2
  go_quiet (fail)
  go_wp2_with fail
  refine (hfail.out nq).mono ?_
  rintro e w' ⟨rfl, h1, h2⟩
  go_wp2
  go_ret
  exact ⟨rfl, by simpa [failO] using h1, BelowE.fromDrewN nq h2⟩
theorem rtake_bad (r : Nat) (a : Option Addr) (cap : Nat) (bs : List Int) (p : Nat) (n : Int) (e : Int) (he : e ≠ 0) (w : World) (h : Rf w r a cap bs p e) :
    Calls Try.prog 64 #[.pointer (some ⟨r, 0, none⟩), .int .i64 n] w (RestsF (.slice none 0 0) r a cap bs p e w) := by
  have c2 := h.blk.cell 2
  simp at c2
  have hblk := Lib.hid h.blk
  have he1 : (e != 0) = true := by simpa using he
  clear h
  go_enter Try.func64, Try.ntmps64
  go_wp2
  go_ret
  exact ⟨rfl, hblk.out, BelowE.refl _ _ _⟩

theorem rbyte_bad (r : Nat) (a : Option Addr) (cap : Nat) (bs : List Int) (p q : Nat) (e : Int) (w : World) (h : Calls Try.prog 64 #[.pointer (some ⟨r, 0, none⟩), .int .i64 1] w (RestsF (.slice none 0 0) r a cap bs q e w)) :
    Calls Try.prog 31 #[.pointer (some ⟨r, 0, none⟩)] w (RestsF (.int .i64 0) r a cap bs q e w) := by
  have h' := Lib.hid h
  clear h
  go_enter Try.func31, Try.ntmps31
  go_wp2_with fail
  refine h'.out.mono ?_
  rintro e w' ⟨rfl, h1, h2⟩
  go_wp2
  go_ret
  exact ⟨rfl, h1, h2⟩
theorem rbyte_ok (r : Nat) (a : Option Addr) (cap : Nat) (bs : List Int) (p : Nat) (w : World) (h : Rf w r a cap bs p 0) (hq : p + 1 ≤ bs.length) :
    Calls Try.prog 31 #[.pointer (some ⟨r, 0, none⟩)] w (RestsF (.int .i64 (bs.getD p 0)) r a cap bs (p + 1) 0 w) := by
  obtain ⟨a', hs1, hs2⟩ := h.sees.cut p (p + 1) cap hq (by omega) h.cap
  rw [show p + 1 - p = 1 by omega] at hs1
  have hcall := Lib.hid (rtake_ok r a cap bs p 1 a' w h hq hs1)
  rcases hs2 with h0 | ⟨b, off, rfl, hB, hX, hc⟩
  · have := congrArg List.length h0; simp at this; omega
  have r0 := h.byt.at (i := p) (by omega)
  have hc0 := hc 0 (by simp; omega)
  rw [taken_at (by omega)] at hc0
  simp only [Nat.add_zero] at hc0
  clear hs1 hc h
  generalize bs.getD p 0 = b0 at *
  go_enter Try.func31, Try.ntmps31
  go_wp2_with fail
  refine hcall.out.mono ?_
  rintro e w' ⟨rfl, h1, h2⟩
  replace hc0 := (h2.cell (p := ⟨b, off, none⟩) hB hX).trans hc0
  go_wp2
  go_ret
  exact ⟨rfl, h1, h2⟩
theorem rbyte_any (r : Nat) (a : Option Addr) (cap : Nat) (bs : List Int) (p : Nat) (e : Int) (w : World) (h : Rf w r a cap bs p e) :
    Calls Try.prog 31 #[.pointer (some ⟨r, 0, none⟩)] w (RestsF (.int .i64 (byteO bs p e).1) r a cap bs (byteO bs p e).2.1 (byteO bs p e).2.2 w) := by
  by_cases he : e = 0
  · subst he
    by_cases hq : p + 1 ≤ bs.length
    · rw [show byteO bs p 0 = ((bs.getD p 0), p + 1, 0) by simp [byteO, hq]]
      exact rbyte_ok r a cap bs p w h hq
    · rw [show byteO bs p 0 = (0, p, 10) by simp [byteO, hq]]
      exact rbyte_bad r a cap bs p p 10 w (rtake_no r a cap bs p 1 w h (by omega))
  · rw [show byteO bs p e = (0, p, e) by simp [byteO, he]]
    exact rbyte_bad r a cap bs p p e w (rtake_bad r a cap bs p 1 e he w h)

theorem rword_bad (r : Nat) (a : Option Addr) (cap : Nat) (bs : List Int) (p q : Nat) (e : Int) (w : World) (h : Calls Try.prog 64 #[.pointer (some ⟨r, 0, none⟩), .int .i64 4] w (RestsF (.slice none 0 0) r a cap bs q e w)) :
    Calls Try.prog 33 #[.pointer (some ⟨r, 0, none⟩)] w (RestsF (.int .u32 0) r a cap bs q e w) := by
  have h' := Lib.hid h
  clear h
  go_enter Try.func33, Try.ntmps33
  go_wp2_with fail
  refine h'.out.mono ?_
  rintro e w' ⟨rfl, h1, h2⟩
  go_wp2
  go_ret
  exact ⟨rfl, h1, h2⟩
theorem rword_ok (r : Nat) (a : Option Addr) (cap : Nat) (bs : List Int) (p : Nat) (w : World) (h : Rf w r a cap bs p 0) (hq : p + 4 ≤ bs.length) :
    Calls Try.prog 33 #[.pointer (some ⟨r, 0, none⟩)] w (RestsF (.int .u32 (wordAt bs p)) r a cap bs (p + 4) 0 w) := by
  obtain ⟨a', hs1, hs2⟩ := h.sees.cut p (p + 4) cap hq (by omega) h.cap
  rw [show p + 4 - p = 4 by omega] at hs1
  have hcall := Lib.hid (rtake_ok r a cap bs p 4 a' w h hq hs1)
  rcases hs2 with h0 | ⟨b, off, rfl, hB, hX, hc⟩
  · have := congrArg List.length h0; simp at this; omega
  unfold wordAt
  have r0 := h.byt.at (i := p) (by omega)
  have r1 := h.byt.at (i := p + 1) (by omega)
  have r2 := h.byt.at (i := p + 2) (by omega)
  have r3 := h.byt.at (i := p + 3) (by omega)
  have hc0 := hc 0 (by simp; omega)
  have hc1 := hc 1 (by simp; omega)
  have hc2 := hc 2 (by simp; omega)
  have hc3 := hc 3 (by simp; omega)
  rw [taken_at (by omega)] at hc0 hc1 hc2 hc3
  simp only [Nat.add_zero] at hc0
  clear hs1 hc h
  generalize bs.getD p 0 = b0 at *
  generalize bs.getD (p + 1) 0 = b1 at *
  generalize bs.getD (p + 2) 0 = b2 at *
  generalize bs.getD (p + 3) 0 = b3 at *
  go_enter Try.func33, Try.ntmps33
  go_wp2_with fail
  refine hcall.out.mono ?_
  rintro e w' ⟨rfl, h1, h2⟩
  replace hc0 := (h2.cell (p := ⟨b, off, none⟩) hB hX).trans hc0
  replace hc1 := (h2.cell (p := ⟨b, off + 1, none⟩) hB hX).trans hc1
  replace hc2 := (h2.cell (p := ⟨b, off + 2, none⟩) hB hX).trans hc2
  replace hc3 := (h2.cell (p := ⟨b, off + 3, none⟩) hB hX).trans hc3
  go_wp2
  go_quiet (fail)
  go_wp2
  go_ret
  exact ⟨rfl, h1.drewN nq, h2.drewN nq⟩
theorem rword_any (r : Nat) (a : Option Addr) (cap : Nat) (bs : List Int) (p : Nat) (e : Int) (w : World) (h : Rf w r a cap bs p e) :
    Calls Try.prog 33 #[.pointer (some ⟨r, 0, none⟩)] w (RestsF (.int .u32 (wordO bs p e).1) r a cap bs (wordO bs p e).2.1 (wordO bs p e).2.2 w) := by
  by_cases he : e = 0
  · subst he
    by_cases hq : p + 4 ≤ bs.length
    · rw [show wordO bs p 0 = ((wordAt bs p), p + 4, 0) by simp [wordO, hq]]
      exact rword_ok r a cap bs p w h hq
    · rw [show wordO bs p 0 = (0, p, 10) by simp [wordO, hq]]
      exact rword_bad r a cap bs p p 10 w (rtake_no r a cap bs p 4 w h (by omega))
  · rw [show wordO bs p e = (0, p, e) by simp [wordO, he]]
    exact rword_bad r a cap bs p p e w (rtake_bad r a cap bs p 4 e he w h)

end Go.Proofs.Ytnjdgnlgdokddaa
