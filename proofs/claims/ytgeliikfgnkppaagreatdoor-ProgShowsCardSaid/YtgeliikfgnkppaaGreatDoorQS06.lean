/-
  Words and walks under the law's proof.
-/
import Derived.Deep.WholeRow
import Derived.Laws.ResultCell
import Derived.Defers
import Derived.Recover
import Derived.RegionTactic
import Derived.Test.YtgeliikfgnkppaaGreatDoorQS05
namespace Go.Proofs.YtgeliikfgnkppaaGreatDoor
open Go.RowKit
set_option linter.unusedVariables false
set_option linter.unusedSimpArgs false
def spB : ByteArray := ⟨#[32]⟩
def minB : ByteArray := ⟨#[32, 45, 32]⟩
def plusB : ByteArray := ⟨#[32, 43, 32]⟩
def leB : ByteArray := ⟨#[32, 60, 61, 32]⟩
def asgB : ByteArray := ⟨#[32, 58, 61, 32]⟩
def anyB' : ByteArray := ⟨#[97, 110, 121, 32, 91]⟩
def commaB : ByteArray := ⟨#[44, 32]⟩
def closeB : ByteArray := ⟨#[93]⟩
def infB : ByteArray := ⟨#[105, 110, 102]⟩
def mustO (s p : ByteArray) : Option ByteArray := if hasB s p = true then some (cutB s p) else none
def readN (l : List ByteArray) (s : ByteArray) : Option (Int × ByteArray) := (numR l (wordW s)).map fun v => (v, wordR s)
def sidesR (l : List ByteArray) (s : ByteArray) : Option (Int × Int × ByteArray) :=
  if hasB s dashB = true then (match readN l (cutB s dashB) with | none => none | some (y, t) => some (0, y, t))
  else match readN l (cutB s dashB) with
    | none => none
    | some (x, t) => if hasB t minB = true then (match readN l (cutB t minB) with | none => none | some (y, u) => some (x, y, u)) else some (x, 0, cutB t minB)
def diffR (l : List ByteArray) (s : ByteArray) : Option (Int × Int × Int × ByteArray) :=
  match mustO s spB with
  | none => none
  | some s1 => match sidesR l s1 with
    | none => none
    | some (x, y, s2) => match mustO s2 leB with
      | none => none
      | some s3 => match readV s3 with
        | none => none
        | some (c, s4) => some (x, y, c, s4)
structure DS (w0 : World) (r : Nat) (a : Option Addr) (n cp : Nat) (l : List ByteArray) (w : World) (g : Nat) (k x y c d : Int) (s : ByteArray) (W : World) : Prop where
  rd : PRd w0 r a n cp l s W
  box : Holds W g 38 #[.int .i64 k, .int .i64 x, .int .i64 y, .int .i64 c, .int .i64 d]
  res : Holds W w.heap.size 38 #[.int .i64 0, .int .i64 0, .int .i64 0, .int .i64 0, .int .i64 0]
  be : BelowE [r] w.heap.size w W
  lt : r < w.heap.size
  far : w.heap.size < g
structure DZ (w0 : World) (r : Nat) (a : Option Addr) (n cp : Nat) (l : List ByteArray) (w : World) (s : ByteArray) (W : World) : Prop where
  rd : PRd w0 r a n cp l s W
  res : Holds W w.heap.size 38 #[.int .i64 0, .int .i64 0, .int .i64 0, .int .i64 0, .int .i64 0]
  be : BelowE [r] w.heap.size w W
  lt : r < w.heap.size
section
variable {w0 : World} {r : Nat} {a : Option Addr} {n cp : Nat} {l : List ByteArray} {w : World} {g : Nat} {k x y c d : Int} {s : ByteArray} {W : World}
theorem DS.call (h : DS w0 r a n cp l w g k x y c d s W) {t : ByteArray} {W' : World} (hr : PRd w0 r a n cp l t W') (hb : BelowE [r] W.heap.size W W') : DS w0 r a n cp l w g k x y c d t W' :=
  ⟨hr, h.box.belowE hb h.box.lt (by have := h.lt; have := h.far; simp; omega), h.res.belowE hb h.res.lt (by have := h.lt; simp; omega), h.be.trans (hb.mono h.be.size), h.lt, h.far⟩
theorem DS.setx (h : DS w0 r a n cp l w g k x y c d s W) (v : Int) : DS w0 r a n cp l w g k v y c d s (W.setCell ⟨g, 1, none⟩ (.int .i64 v)) := by
  have hl := h.lt
  have hf := h.far
  refine ⟨⟨h.rd.blk.far (by show r ≠ g; omega) _, h.rd.own, h.rd.bel.setCell (show w0.heap.size ≤ g by have := h.rd.own; omega) _, h.rd.vars, h.rd.sz⟩, ?_, h.res.far (by show w.heap.size ≠ g; omega) _, h.be.setNew (show w.heap.size ≤ g by omega) _, hl, hf⟩
  have q := h.box.set 1 (.int .i64 v)
  simpa using q
theorem DS.sety (h : DS w0 r a n cp l w g k x y c d s W) (v : Int) : DS w0 r a n cp l w g k x v c d s (W.setCell ⟨g, 2, none⟩ (.int .i64 v)) := by
  have hl := h.lt
  have hf := h.far
  refine ⟨⟨h.rd.blk.far (by show r ≠ g; omega) _, h.rd.own, h.rd.bel.setCell (show w0.heap.size ≤ g by have := h.rd.own; omega) _, h.rd.vars, h.rd.sz⟩, ?_, h.res.far (by show w.heap.size ≠ g; omega) _, h.be.setNew (show w.heap.size ≤ g by omega) _, hl, hf⟩
  have q := h.box.set 2 (.int .i64 v)
  simpa using q
theorem DS.setc (h : DS w0 r a n cp l w g k x y c d s W) (v : Int) : DS w0 r a n cp l w g k x y v d s (W.setCell ⟨g, 3, none⟩ (.int .i64 v)) := by
  have hl := h.lt
  have hf := h.far
  refine ⟨⟨h.rd.blk.far (by show r ≠ g; omega) _, h.rd.own, h.rd.bel.setCell (show w0.heap.size ≤ g by have := h.rd.own; omega) _, h.rd.vars, h.rd.sz⟩, ?_, h.res.far (by show w.heap.size ≠ g; omega) _, h.be.setNew (show w.heap.size ≤ g by omega) _, hl, hf⟩
  have q := h.box.set 3 (.int .i64 v)
  simpa using q
theorem DS.setd (h : DS w0 r a n cp l w g k x y c d s W) (v : Int) : DS w0 r a n cp l w g k x y c v s (W.setCell ⟨g, 4, none⟩ (.int .i64 v)) := by
  have hl := h.lt
  have hf := h.far
  refine ⟨⟨h.rd.blk.far (by show r ≠ g; omega) _, h.rd.own, h.rd.bel.setCell (show w0.heap.size ≤ g by have := h.rd.own; omega) _, h.rd.vars, h.rd.sz⟩, ?_, h.res.far (by show w.heap.size ≠ g; omega) _, h.be.setNew (show w.heap.size ≤ g by omega) _, hl, hf⟩
  have q := h.box.set 4 (.int .i64 v)
  simpa using q
theorem DZ.call (h : DZ w0 r a n cp l w s W) {t : ByteArray} {W' : World} (hr : PRd w0 r a n cp l t W') (hb : BelowE [r] W.heap.size W W') : DZ w0 r a n cp l w t W' :=
  ⟨hr, h.res.belowE hb h.res.lt (by have := h.lt; simp; omega), h.be.trans (hb.mono h.be.size), h.lt⟩
theorem DZ.box (h : DZ w0 r a n cp l w s W) (k x : Int) : DS w0 r a n cp l w W.heap.size k x 0 0 0 s (W.alloc (.cells #[.int .i64 k, .int .i64 x, .int .i64 0, .int .i64 0, .int .i64 0] 38)) :=
  ⟨h.rd.by (box_below _ _ _), Holds.new _ _ _, h.res.alloc _, h.be.alloc h.be.size _, h.lt, h.res.lt⟩
theorem DZ.start (hr : PRd w0 r a n cp l s w) : DZ w0 r a n cp l w s (w.alloc (.cells #[.int .i64 0, .int .i64 0, .int .i64 0, .int .i64 0, .int .i64 0] 38)) :=
  ⟨hr.by (box_below _ _ _), Holds.new _ _ _, .of (box_below _ _ _), hr.blk.lt⟩
theorem DS.z (h : DS w0 r a n cp l w g k x y c d s W) : DZ w0 r a n cp l w s W := ⟨h.rd, h.res, h.be, h.lt⟩
theorem DS.quiet (h : DS w0 r a n cp l w g k x y c d s W) {W' : World} (hb : Below W.heap.size W W') : DS w0 r a n cp l w g k x y c d s W' := h.call (h.rd.by hb) (.of hb)
theorem DZ.fin (h : DZ w0 r a n cp l w s W) (k x y c d : Int) : Holds (((((W.setCell ⟨w.heap.size, 0, none⟩ (.int .i64 k)).setCell ⟨w.heap.size, 1, none⟩ (.int .i64 x)).setCell ⟨w.heap.size, 2, none⟩ (.int .i64 y)).setCell ⟨w.heap.size, 3, none⟩ (.int .i64 c)).setCell ⟨w.heap.size, 4, none⟩ (.int .i64 d)) w.heap.size 38 #[.int .i64 k, .int .i64 x, .int .i64 y, .int .i64 c, .int .i64 d] ∧ PRd w0 r a n cp l s (((((W.setCell ⟨w.heap.size, 0, none⟩ (.int .i64 k)).setCell ⟨w.heap.size, 1, none⟩ (.int .i64 x)).setCell ⟨w.heap.size, 2, none⟩ (.int .i64 y)).setCell ⟨w.heap.size, 3, none⟩ (.int .i64 c)).setCell ⟨w.heap.size, 4, none⟩ (.int .i64 d)) ∧ BelowE [r] w.heap.size w (((((W.setCell ⟨w.heap.size, 0, none⟩ (.int .i64 k)).setCell ⟨w.heap.size, 1, none⟩ (.int .i64 x)).setCell ⟨w.heap.size, 2, none⟩ (.int .i64 y)).setCell ⟨w.heap.size, 3, none⟩ (.int .i64 c)).setCell ⟨w.heap.size, 4, none⟩ (.int .i64 d)) := by
  have hl := h.lt
  refine ⟨?_, ⟨?_, h.rd.own, ?_, h.rd.vars, h.rd.sz⟩, ?_⟩
  · have q := ((((h.res.set 0 (.int .i64 k)).set 1 (.int .i64 x)).set 2 (.int .i64 y)).set 3 (.int .i64 c)).set 4 (.int .i64 d)
    simpa using q
  · exact ((((h.rd.blk.far (p := ⟨w.heap.size, 0, none⟩) (by show r ≠ w.heap.size; omega) _).far (p := ⟨w.heap.size, 1, none⟩) (by show r ≠ w.heap.size; omega) _).far (p := ⟨w.heap.size, 2, none⟩) (by show r ≠ w.heap.size; omega) _).far (p := ⟨w.heap.size, 3, none⟩) (by show r ≠ w.heap.size; omega) _).far (p := ⟨w.heap.size, 4, none⟩) (by show r ≠ w.heap.size; omega) _
  · have ho := h.rd.own
    exact ((((h.rd.bel.setCell (p := ⟨w.heap.size, 0, none⟩) (by show w0.heap.size ≤ w.heap.size; omega) _).setCell (p := ⟨w.heap.size, 1, none⟩) (by show w0.heap.size ≤ w.heap.size; omega) _).setCell (p := ⟨w.heap.size, 2, none⟩) (by show w0.heap.size ≤ w.heap.size; omega) _).setCell (p := ⟨w.heap.size, 3, none⟩) (by show w0.heap.size ≤ w.heap.size; omega) _).setCell (p := ⟨w.heap.size, 4, none⟩) (by show w0.heap.size ≤ w.heap.size; omega) _
  · exact ((((h.be.setNew (p := ⟨w.heap.size, 0, none⟩) (Nat.le_refl _) _).setNew (p := ⟨w.heap.size, 1, none⟩) (Nat.le_refl _) _).setNew (p := ⟨w.heap.size, 2, none⟩) (Nat.le_refl _) _).setNew (p := ⟨w.heap.size, 3, none⟩) (Nat.le_refl _) _).setNew (p := ⟨w.heap.size, 4, none⟩) (Nat.le_refl _) _
theorem DS.start (hr : PRd w0 r a n cp l s w) (hl : r < w.heap.size) (k x : Int) : DS w0 r a n cp l w (w.heap.size + 1) k x 0 0 0 s ((w.alloc (.cells #[.int .i64 0, .int .i64 0, .int .i64 0, .int .i64 0, .int .i64 0] 38)).alloc (.cells #[.int .i64 k, .int .i64 x, .int .i64 0, .int .i64 0, .int .i64 0] 38)) := by
  have b : Below w.heap.size w ((w.alloc (.cells #[.int .i64 0, .int .i64 0, .int .i64 0, .int .i64 0, .int .i64 0] 38)).alloc (.cells #[.int .i64 k, .int .i64 x, .int .i64 0, .int .i64 0, .int .i64 0] 38)) := ((Below.refl _ _).alloc (Nat.le_refl _) _).alloc (by simp) _
  refine ⟨hr.by b, ?_, (Holds.new w _ _).alloc _, .of b, hl, by omega⟩
  have q := Holds.new (w.alloc (.cells #[.int .i64 0, .int .i64 0, .int .i64 0, .int .i64 0, .int .i64 0] 38)) 38 #[.int .i64 k, .int .i64 x, .int .i64 0, .int .i64 0, .int .i64 0]
  simpa using q
end
theorem info_stmt' : (Tryz.prog.info? 38).map (fun i => i.size) = some 5 := by kernel_rfl
set_option maxRecDepth 100000 in
set_option maxHeartbeats 4000000 in
theorem prdiff (w0 : World) (r : Nat) (a : Option Addr) (n cp : Nat) (l : List ByteArray) (s : ByteArray) (k : Int) (w : World) (h : PRd w0 r a n cp l s w) (hl : l.length ≤ 8) :
    Calls Tryz.prog 79 #[.pointer (some ⟨r, 0, none⟩), .int .i64 k] w (PRdE w0 r a n cp l w ((diffR l s).map fun p => (.agg #[.int .i64 k, .int .i64 p.1, .int .i64 p.2.1, .int .i64 p.2.2.1, .int .i64 0], p.2.2.2))) := by
  obtain ⟨X, hX'⟩ : ∃ X, X = (diffR l s).map fun p => ((.agg #[.int .i64 k, .int .i64 p.1, .int .i64 p.2.1, .int .i64 p.2.2.1, .int .i64 0] : Value), p.2.2.2) := ⟨_, rfl⟩
  rw [← hX']
  have hX := Lib.hid hX'
  clear hX'
  have hD := DS.start h h.blk.lt k 0
  obtain ⟨W1, hW1⟩ : ∃ W1, W1 = ((w.alloc (.cells #[.int .i64 0, .int .i64 0, .int .i64 0, .int .i64 0, .int .i64 0] 38)).alloc (.cells #[.int .i64 k, .int .i64 0, .int .i64 0, .int .i64 0, .int .i64 0] 38)) := ⟨_, rfl⟩
  rw [← hW1] at hD
  have D := Lib.hid hD
  have hw := Lib.hid hW1
  clear hD hW1 h
  go_enter Tryz.func79, Tryz.ntmps79
  go_wp2_with fail
  rw [← hw.out]
  clear hw
  have q := Lib.hid (prmust w0 r a n cp l (s) spB _ D.out.rd)
  obtain ⟨B2, hB1'⟩ : ∃ B, hasB (s) spB = B := ⟨_, rfl⟩
  rw [hB1'] at q
  have hB1 := Lib.hid hB1'
  clear hB1'
  cases B2
  · skip
    go_wp2_with fail
    refine q.out.mono ?_
    rintro e W9 ⟨rfl, hb⟩
    have hz := Lib.hid (D.out.be.trans (hb.mono D.out.be.size))
    clear hb q
    go_wp2
    refine ⟨rfl, ?_⟩
    rw [hX.out, show diffR l s = none from by simp [diffR, sidesR, mustO, readN, hB1.out]]
    exact ⟨rfl, hz.out⟩
  · skip
    go_wp2_with fail
    refine q.out.mono ?_
    rintro e W4 ⟨rfl, hr, hb⟩
    have D3 := Lib.hid (D.out.call hr hb)
    clear hr hb q
    have q := Lib.hid (prnext w0 r a n cp l (cutB (s) spB) dashB _ D3.out.rd)
    obtain ⟨B6, hB5'⟩ : ∃ B, hasB (cutB (s) spB) dashB = B := ⟨_, rfl⟩
    rw [hB5'] at q
    have hB5 := Lib.hid hB5'
    clear hB5'
    cases B6
    · skip
      go_wp2_with fail
      refine q.out.mono ?_
      rintro e W8 ⟨rfl, hr, hb⟩
      have D7 := Lib.hid (D3.out.call hr hb)
      clear hr hb q
      have q := Lib.hid (prword w0 r a n cp l (cutB (cutB (s) spB) dashB) _ D7.out.rd)
      go_wp2_with fail
      refine q.out.mono ?_
      rintro e W10 ⟨rfl, hr, hb⟩
      have D9 := Lib.hid (D7.out.call hr hb)
      clear hr hb q
      have q := Lib.hid (prnumber w0 r a n cp l (wordR (cutB (cutB (s) spB) dashB)) (wordW (cutB (cutB (s) spB) dashB)) _ D9.out.rd hl)
      obtain ⟨N12, hN11'⟩ : ∃ N, numR l (wordW (cutB (cutB (s) spB) dashB)) = N := ⟨_, rfl⟩
      rw [hN11'] at q
      have hN11 := Lib.hid hN11'
      clear hN11'
      cases N12 with
      | none =>
        go_wp2_with fail
        refine q.out.mono ?_
        rintro e W9 ⟨rfl, hb⟩
        have hz := Lib.hid (D9.out.be.trans (hb.mono D9.out.be.size))
        clear hb q
        go_wp2
        refine ⟨rfl, ?_⟩
        rw [hX.out, show diffR l s = none from by simp [diffR, sidesR, mustO, readN, hB1.out, hB5.out, hN11.out]]
        exact ⟨rfl, hz.out⟩
      | some v13 =>
        go_wp2_with fail
        refine q.out.mono ?_
        rintro e W15 ⟨rfl, hr, hb⟩
        have D14 := Lib.hid (D9.out.call hr hb)
        clear hr hb q
        have ka := D14.out.box.cell 1
        have fa := D14.out.box.free 1
        simp at ka
        have D16 := Lib.hid (D14.out.setx v13)
        have q := Lib.hid (prnext w0 r a n cp l (wordR (cutB (cutB (s) spB) dashB)) minB _ D16.out.rd)
        obtain ⟨B18, hB17'⟩ : ∃ B, hasB (wordR (cutB (cutB (s) spB) dashB)) minB = B := ⟨_, rfl⟩
        rw [hB17'] at q
        have hB17 := Lib.hid hB17'
        clear hB17'
        cases B18
        · skip
          go_wp2_with fail
          refine q.out.mono ?_
          rintro e W20 ⟨rfl, hr, hb⟩
          have D19 := Lib.hid (D16.out.call hr hb)
          clear hr hb q
          clear ka fa
          have q := Lib.hid (prmust w0 r a n cp l (cutB (wordR (cutB (cutB (s) spB) dashB)) minB) leB _ D19.out.rd)
          obtain ⟨B22, hB21'⟩ : ∃ B, hasB (cutB (wordR (cutB (cutB (s) spB) dashB)) minB) leB = B := ⟨_, rfl⟩
          rw [hB21'] at q
          have hB21 := Lib.hid hB21'
          clear hB21'
          cases B22
          · skip
            go_wp2_with fail
            refine q.out.mono ?_
            rintro e W9 ⟨rfl, hb⟩
            have hz := Lib.hid (D19.out.be.trans (hb.mono D19.out.be.size))
            clear hb q
            go_wp2
            refine ⟨rfl, ?_⟩
            rw [hX.out, show diffR l s = none from by simp [diffR, sidesR, mustO, readN, hB1.out, hB5.out, hN11.out, hB17.out, hB21.out]]
            exact ⟨rfl, hz.out⟩
          · skip
            go_wp2_with fail
            refine q.out.mono ?_
            rintro e W24 ⟨rfl, hr, hb⟩
            have D23 := Lib.hid (D19.out.call hr hb)
            clear hr hb q
            have q := Lib.hid (prvalue w0 r a n cp l (cutB (cutB (wordR (cutB (cutB (s) spB) dashB)) minB) leB) _ D23.out.rd)
            obtain ⟨N26, hN25'⟩ : ∃ N, readV (cutB (cutB (wordR (cutB (cutB (s) spB) dashB)) minB) leB) = N := ⟨_, rfl⟩
            rw [hN25'] at q
            have hN25 := Lib.hid hN25'
            clear hN25'
            cases N26 with
            | none =>
              go_wp2_with fail
              refine q.out.mono ?_
              rintro e W9 ⟨rfl, hb⟩
              have hz := Lib.hid (D23.out.be.trans (hb.mono D23.out.be.size))
              clear hb q
              go_wp2
              refine ⟨rfl, ?_⟩
              rw [hX.out, show diffR l s = none from by simp [diffR, sidesR, mustO, readN, hB1.out, hB5.out, hN11.out, hB17.out, hB21.out, hN25.out]]
              exact ⟨rfl, hz.out⟩
            | some v27p =>
              obtain ⟨v27, u28⟩ := v27p
              go_wp2_with fail
              refine q.out.mono ?_
              rintro e W30 ⟨rfl, hr, hb⟩
              have D29 := Lib.hid (D23.out.call hr hb)
              clear hr hb q
              have ka := D29.out.box.cell 3
              have fa := D29.out.box.free 3
              simp at ka
              have D31 := Lib.hid (D29.out.setc v27)
              have m0 := D31.out.box.cell 0
              have m1 := D31.out.box.cell 1
              have m2 := D31.out.box.cell 2
              have m3 := D31.out.box.cell 3
              have m4 := D31.out.box.cell 4
              have r0 := D31.out.res.cell 0
              have r1 := D31.out.res.cell 1
              have r2 := D31.out.res.cell 2
              have r3 := D31.out.res.cell 3
              have r4 := D31.out.res.cell 4
              have e0 := D31.out.res.free 0
              have e1 := D31.out.res.free 1
              have e2 := D31.out.res.free 2
              have e3 := D31.out.res.free 3
              have e4 := D31.out.res.free 4
              simp at m0 m1 m2 m3 m4 r0 r1 r2 r3 r4
              go_wp2
              obtain ⟨n1, n2, n3⟩ := D31.out.z.fin (k) (v13) (0) (v27) (0)
              refine bodyPost_ret (results_cell_row rfl _ _ w.heap.size 38 _ (0, 0) _ rfl n1 Tryz.underlying38 rfl (by first | (rw [info_stmt']; rfl) | exact info_stmt')) rfl ?_
              rw [hX.out, show diffR l s = some (v13, 0, v27, u28) from by simp [diffR, sidesR, mustO, readN, hB1.out, hB5.out, hN11.out, hB17.out, hB21.out, hN25.out]]
              exact ⟨rfl, n2, n3⟩
        · skip
          go_wp2_with fail
          refine q.out.mono ?_
          rintro e W33 ⟨rfl, hr, hb⟩
          have D32 := Lib.hid (D16.out.call hr hb)
          clear hr hb q
          clear ka fa
          have q := Lib.hid (prword w0 r a n cp l (cutB (wordR (cutB (cutB (s) spB) dashB)) minB) _ D32.out.rd)
          go_wp2_with fail
          refine q.out.mono ?_
          rintro e W35 ⟨rfl, hr, hb⟩
          have D34 := Lib.hid (D32.out.call hr hb)
          clear hr hb q
          have q := Lib.hid (prnumber w0 r a n cp l (wordR (cutB (wordR (cutB (cutB (s) spB) dashB)) minB)) (wordW (cutB (wordR (cutB (cutB (s) spB) dashB)) minB)) _ D34.out.rd hl)
          obtain ⟨N37, hN36'⟩ : ∃ N, numR l (wordW (cutB (wordR (cutB (cutB (s) spB) dashB)) minB)) = N := ⟨_, rfl⟩
          rw [hN36'] at q
          have hN36 := Lib.hid hN36'
          clear hN36'
          cases N37 with
          | none =>
            go_wp2_with fail
            refine q.out.mono ?_
            rintro e W9 ⟨rfl, hb⟩
            have hz := Lib.hid (D34.out.be.trans (hb.mono D34.out.be.size))
            clear hb q
            go_wp2
            refine ⟨rfl, ?_⟩
            rw [hX.out, show diffR l s = none from by simp [diffR, sidesR, mustO, readN, hB1.out, hB5.out, hN11.out, hB17.out, hN36.out]]
            exact ⟨rfl, hz.out⟩
          | some v38 =>
            go_wp2_with fail
            refine q.out.mono ?_
            rintro e W40 ⟨rfl, hr, hb⟩
            have D39 := Lib.hid (D34.out.call hr hb)
            clear hr hb q
            have ka := D39.out.box.cell 2
            have fa := D39.out.box.free 2
            simp at ka
            have D41 := Lib.hid (D39.out.sety v38)
            have q := Lib.hid (prmust w0 r a n cp l (wordR (cutB (wordR (cutB (cutB (s) spB) dashB)) minB)) leB _ D41.out.rd)
            obtain ⟨B43, hB42'⟩ : ∃ B, hasB (wordR (cutB (wordR (cutB (cutB (s) spB) dashB)) minB)) leB = B := ⟨_, rfl⟩
            rw [hB42'] at q
            have hB42 := Lib.hid hB42'
            clear hB42'
            cases B43
            · skip
              go_wp2_with fail
              refine q.out.mono ?_
              rintro e W9 ⟨rfl, hb⟩
              have hz := Lib.hid (D41.out.be.trans (hb.mono D41.out.be.size))
              clear hb q
              clear ka fa
              go_wp2
              refine ⟨rfl, ?_⟩
              rw [hX.out, show diffR l s = none from by simp [diffR, sidesR, mustO, readN, hB1.out, hB5.out, hN11.out, hB17.out, hN36.out, hB42.out]]
              exact ⟨rfl, hz.out⟩
            · skip
              go_wp2_with fail
              refine q.out.mono ?_
              rintro e W45 ⟨rfl, hr, hb⟩
              have D44 := Lib.hid (D41.out.call hr hb)
              clear hr hb q
              clear ka fa
              have q := Lib.hid (prvalue w0 r a n cp l (cutB (wordR (cutB (wordR (cutB (cutB (s) spB) dashB)) minB)) leB) _ D44.out.rd)
              obtain ⟨N47, hN46'⟩ : ∃ N, readV (cutB (wordR (cutB (wordR (cutB (cutB (s) spB) dashB)) minB)) leB) = N := ⟨_, rfl⟩
              rw [hN46'] at q
              have hN46 := Lib.hid hN46'
              clear hN46'
              cases N47 with
              | none =>
                go_wp2_with fail
                refine q.out.mono ?_
                rintro e W9 ⟨rfl, hb⟩
                have hz := Lib.hid (D44.out.be.trans (hb.mono D44.out.be.size))
                clear hb q
                go_wp2
                refine ⟨rfl, ?_⟩
                rw [hX.out, show diffR l s = none from by simp [diffR, sidesR, mustO, readN, hB1.out, hB5.out, hN11.out, hB17.out, hN36.out, hB42.out, hN46.out]]
                exact ⟨rfl, hz.out⟩
              | some v48p =>
                obtain ⟨v48, u49⟩ := v48p
                go_wp2_with fail
                refine q.out.mono ?_
                rintro e W51 ⟨rfl, hr, hb⟩
                have D50 := Lib.hid (D44.out.call hr hb)
                clear hr hb q
                have ka := D50.out.box.cell 3
                have fa := D50.out.box.free 3
                simp at ka
                have D52 := Lib.hid (D50.out.setc v48)
                have m0 := D52.out.box.cell 0
                have m1 := D52.out.box.cell 1
                have m2 := D52.out.box.cell 2
                have m3 := D52.out.box.cell 3
                have m4 := D52.out.box.cell 4
                have r0 := D52.out.res.cell 0
                have r1 := D52.out.res.cell 1
                have r2 := D52.out.res.cell 2
                have r3 := D52.out.res.cell 3
                have r4 := D52.out.res.cell 4
                have e0 := D52.out.res.free 0
                have e1 := D52.out.res.free 1
                have e2 := D52.out.res.free 2
                have e3 := D52.out.res.free 3
                have e4 := D52.out.res.free 4
                simp at m0 m1 m2 m3 m4 r0 r1 r2 r3 r4
                go_wp2
                obtain ⟨n1, n2, n3⟩ := D52.out.z.fin (k) (v13) (v38) (v48) (0)
                refine bodyPost_ret (results_cell_row rfl _ _ w.heap.size 38 _ (0, 0) _ rfl n1 Tryz.underlying38 rfl (by first | (rw [info_stmt']; rfl) | exact info_stmt')) rfl ?_
                rw [hX.out, show diffR l s = some (v13, v38, v48, u49) from by simp [diffR, sidesR, mustO, readN, hB1.out, hB5.out, hN11.out, hB17.out, hN36.out, hB42.out, hN46.out]]
                exact ⟨rfl, n2, n3⟩
    · skip
      go_wp2_with fail
      refine q.out.mono ?_
      rintro e W54 ⟨rfl, hr, hb⟩
      have D53 := Lib.hid (D3.out.call hr hb)
      clear hr hb q
      have q := Lib.hid (prword w0 r a n cp l (cutB (cutB (s) spB) dashB) _ D53.out.rd)
      go_wp2_with fail
      refine q.out.mono ?_
      rintro e W56 ⟨rfl, hr, hb⟩
      have D55 := Lib.hid (D53.out.call hr hb)
      clear hr hb q
      have q := Lib.hid (prnumber w0 r a n cp l (wordR (cutB (cutB (s) spB) dashB)) (wordW (cutB (cutB (s) spB) dashB)) _ D55.out.rd hl)
      obtain ⟨N58, hN57'⟩ : ∃ N, numR l (wordW (cutB (cutB (s) spB) dashB)) = N := ⟨_, rfl⟩
      rw [hN57'] at q
      have hN57 := Lib.hid hN57'
      clear hN57'
      cases N58 with
      | none =>
        go_wp2_with fail
        refine q.out.mono ?_
        rintro e W9 ⟨rfl, hb⟩
        have hz := Lib.hid (D55.out.be.trans (hb.mono D55.out.be.size))
        clear hb q
        go_wp2
        refine ⟨rfl, ?_⟩
        rw [hX.out, show diffR l s = none from by simp [diffR, sidesR, mustO, readN, hB1.out, hB5.out, hN57.out]]
        exact ⟨rfl, hz.out⟩
      | some v59 =>
        go_wp2_with fail
        refine q.out.mono ?_
        rintro e W61 ⟨rfl, hr, hb⟩
        have D60 := Lib.hid (D55.out.call hr hb)
        clear hr hb q
        have ka := D60.out.box.cell 2
        have fa := D60.out.box.free 2
        simp at ka
        have D62 := Lib.hid (D60.out.sety v59)
        have q := Lib.hid (prmust w0 r a n cp l (wordR (cutB (cutB (s) spB) dashB)) leB _ D62.out.rd)
        obtain ⟨B64, hB63'⟩ : ∃ B, hasB (wordR (cutB (cutB (s) spB) dashB)) leB = B := ⟨_, rfl⟩
        rw [hB63'] at q
        have hB63 := Lib.hid hB63'
        clear hB63'
        cases B64
        · skip
          go_wp2_with fail
          refine q.out.mono ?_
          rintro e W9 ⟨rfl, hb⟩
          have hz := Lib.hid (D62.out.be.trans (hb.mono D62.out.be.size))
          clear hb q
          clear ka fa
          go_wp2
          refine ⟨rfl, ?_⟩
          rw [hX.out, show diffR l s = none from by simp [diffR, sidesR, mustO, readN, hB1.out, hB5.out, hN57.out, hB63.out]]
          exact ⟨rfl, hz.out⟩
        · skip
          go_wp2_with fail
          refine q.out.mono ?_
          rintro e W66 ⟨rfl, hr, hb⟩
          have D65 := Lib.hid (D62.out.call hr hb)
          clear hr hb q
          clear ka fa
          have q := Lib.hid (prvalue w0 r a n cp l (cutB (wordR (cutB (cutB (s) spB) dashB)) leB) _ D65.out.rd)
          obtain ⟨N68, hN67'⟩ : ∃ N, readV (cutB (wordR (cutB (cutB (s) spB) dashB)) leB) = N := ⟨_, rfl⟩
          rw [hN67'] at q
          have hN67 := Lib.hid hN67'
          clear hN67'
          cases N68 with
          | none =>
            go_wp2_with fail
            refine q.out.mono ?_
            rintro e W9 ⟨rfl, hb⟩
            have hz := Lib.hid (D65.out.be.trans (hb.mono D65.out.be.size))
            clear hb q
            go_wp2
            refine ⟨rfl, ?_⟩
            rw [hX.out, show diffR l s = none from by simp [diffR, sidesR, mustO, readN, hB1.out, hB5.out, hN57.out, hB63.out, hN67.out]]
            exact ⟨rfl, hz.out⟩
          | some v69p =>
            obtain ⟨v69, u70⟩ := v69p
            go_wp2_with fail
            refine q.out.mono ?_
            rintro e W72 ⟨rfl, hr, hb⟩
            have D71 := Lib.hid (D65.out.call hr hb)
            clear hr hb q
            have ka := D71.out.box.cell 3
            have fa := D71.out.box.free 3
            simp at ka
            have D73 := Lib.hid (D71.out.setc v69)
            have m0 := D73.out.box.cell 0
            have m1 := D73.out.box.cell 1
            have m2 := D73.out.box.cell 2
            have m3 := D73.out.box.cell 3
            have m4 := D73.out.box.cell 4
            have r0 := D73.out.res.cell 0
            have r1 := D73.out.res.cell 1
            have r2 := D73.out.res.cell 2
            have r3 := D73.out.res.cell 3
            have r4 := D73.out.res.cell 4
            have e0 := D73.out.res.free 0
            have e1 := D73.out.res.free 1
            have e2 := D73.out.res.free 2
            have e3 := D73.out.res.free 3
            have e4 := D73.out.res.free 4
            simp at m0 m1 m2 m3 m4 r0 r1 r2 r3 r4
            go_wp2
            obtain ⟨n1, n2, n3⟩ := D73.out.z.fin (k) (0) (v59) (v69) (0)
            refine bodyPost_ret (results_cell_row rfl _ _ w.heap.size 38 _ (0, 0) _ rfl n1 Tryz.underlying38 rfl (by first | (rw [info_stmt']; rfl) | exact info_stmt')) rfl ?_
            rw [hX.out, show diffR l s = some (0, v59, v69, u70) from by simp [diffR, sidesR, mustO, readN, hB1.out, hB5.out, hN57.out, hB63.out, hN67.out]]
            exact ⟨rfl, n2, n3⟩
end Go.Proofs.YtgeliikfgnkppaaGreatDoor
namespace Go.Proofs.YtgeliikfgnkppaaGreatDoor
open Go.RowKit
set_option linter.unusedVariables false
set_option linter.unusedSimpArgs false
abbrev St := Int × Int × Int × Int × Int
def anyR (x : Int) (s : ByteArray) : Option (St × ByteArray) :=
  match readV s with
  | none => none
  | some (c, s1) => match mustO s1 commaB with
    | none => none
    | some s2 => match readV s2 with
      | none => none
      | some (d, s3) => match mustO s3 closeB with
        | none => none
        | some s4 => some ((3, x, 0, c, d), s4)
def valC (s : ByteArray) : Bool := !begB s || (hasB s infB && decide (nsz s = 3))
def letV (x : Int) (s : ByteArray) : Option (St × ByteArray) :=
  match readV s with
  | none => none
  | some (c, s1) => some ((2, x, 0, c, 0), s1)
def letN (l : List ByteArray) (x : Int) (s : ByteArray) : Option (St × ByteArray) :=
  match readN l s with
  | none => none
  | some (y, t) => if hasB t minB = true then (match readV (cutB t minB) with | none => none | some (c, u) => some ((2, x, y, -c, 0), u))
    else if hasB (cutB t minB) plusB = true then (match readV (cutB (cutB t minB) plusB) with | none => none | some (c, u) => some ((2, x, y, c, 0), u))
    else some ((2, x, y, 0, 0), cutB (cutB t minB) plusB)
def assignedR (l : List ByteArray) (x : Int) (s : ByteArray) : Option (St × ByteArray) :=
  if hasB s anyB' = true then anyR x (cutB s anyB') else if valC (cutB s anyB') = true then letV x (cutB s anyB') else letN l x (cutB s anyB')
def isW (s : ByteArray) (t : List UInt8) : Bool := s.toList == t
def stmtR (l : List ByteArray) (s : ByteArray) : Option (St × ByteArray) :=
  if isW (wordW s) [115, 107, 105, 112] = true then some ((1, 0, 0, 0, 0), wordR s)
  else if isW (wordW s) [108, 105, 109, 105, 116] = true then (match diffR l (wordR s) with | none => none | some (x, y, c, t) => some ((4, x, y, c, 0), t))
  else if isW (wordW s) [99, 104, 101, 99, 107] = true then (match diffR l (wordR s) with | none => none | some (x, y, c, t) => some ((5, x, y, c, 0), t))
  else match numR l (wordW s) with
    | none => none
    | some x => match mustO (wordR s) asgB with
      | none => none
      | some t => assignedR l x t
def stV (p : St × ByteArray) : Value × ByteArray := (.agg #[.int .i64 p.1.1, .int .i64 p.1.2.1, .int .i64 p.1.2.2.1, .int .i64 p.1.2.2.2.1, .int .i64 p.1.2.2.2.2], p.2)
theorem parseN_le (s : List UInt8) : -1099511627776 ≤ parseN s ∧ parseN s ≤ 1099511627776 := by
  unfold parseN parseV
  have h1 := sizeV_le (l := s.drop 1)
  have h2 := sizeV_le (l := s)
  split
  · generalize sizeV (s.drop 1) = o at *
    cases o with
    | none => simp
    | some n => simp at h1 ⊢; split <;> simp <;> omega
  · generalize sizeV s = o at *
    cases o with
    | none => simp
    | some n => simp at h2 ⊢; omega
theorem readV_le {s u : ByteArray} {v : Int} (h : readV s = some (v, u)) : -1099511627776 ≤ v ∧ v ≤ 1099511627776 := by
  unfold readV valR at h
  split at h
  · simp at h
    rw [← h.1]
    exact parseN_le _
  · simp at h
set_option maxRecDepth 100000 in
set_option maxHeartbeats 4000000 in
theorem asg_any (w0 : World) (r : Nat) (a : Option Addr) (n cp : Nat) (l : List ByteArray) (s : ByteArray) (x : Int) (hc : hasB s anyB' = true) (w : World) (h : PRd w0 r a n cp l s w) (hl : l.length ≤ 8) :
    Calls Tryz.prog 82 #[.pointer (some ⟨r, 0, none⟩), .int .i64 x] w (PRdE w0 r a n cp l w ((assignedR l x s).map stV)) := by
  obtain ⟨X, hX'⟩ : ∃ X, X = (assignedR l x s).map stV := ⟨_, rfl⟩
  rw [← hX']
  have hX := Lib.hid hX'
  clear hX'
  have hD := DZ.start h
  obtain ⟨W1, hW1⟩ : ∃ W1, W1 = (w.alloc (.cells #[.int .i64 0, .int .i64 0, .int .i64 0, .int .i64 0, .int .i64 0] 38)) := ⟨_, rfl⟩
  rw [← hW1] at hD
  have D := Lib.hid hD
  have hw := Lib.hid hW1
  clear hD hW1 h
  have hC := Lib.hid hc
  have q := Lib.hid (prnext w0 r a n cp l s anyB' _ D.out.rd)
  rw [hc] at q
  clear hc
  go_enter Tryz.func82, Tryz.ntmps82
  go_wp2_with fail
  rw [← hw.out]
  clear hw
  go_wp2_with fail
  refine q.out.mono ?_
  rintro e W2 ⟨rfl, hr, hb⟩
  have D1 := Lib.hid (D.out.call hr hb)
  clear hr hb q
  have D3' := D1.out.box 3 x
  generalize hV : World.alloc _ _ = V at D3'
  have D3 := Lib.hid D3'
  have hv := Lib.hid hV
  clear D3' hV
  have q := Lib.hid (prvalue w0 r a n cp l (cutB s anyB') _ D3.out.rd)
  obtain ⟨N5, hN4'⟩ : ∃ N, readV (cutB s anyB') = N := ⟨_, rfl⟩
  rw [hN4'] at q
  have hN4 := Lib.hid hN4'
  clear hN4'
  cases N5 with
  | none =>
    go_wp2_with fail
    rw [hv.out]
    clear hv
    refine q.out.mono ?_
    rintro e W9 ⟨rfl, hb⟩
    have hz := Lib.hid (D3.out.be.trans (hb.mono D3.out.be.size))
    clear hb q
    go_wp2
    refine ⟨rfl, ?_⟩
    rw [hX.out, show assignedR l x s = none from by simp [assignedR, anyR, letV, letN, mustO, readN, stV, hC.out, hN4.out]]
    exact ⟨rfl, hz.out⟩
  | some v6p =>
    obtain ⟨v6, u7⟩ := v6p
    go_wp2_with fail
    rw [hv.out]
    clear hv
    refine q.out.mono ?_
    rintro e W9 ⟨rfl, hr, hb⟩
    have D8 := Lib.hid (D3.out.call hr hb)
    clear hr hb q
    have ka := D8.out.box.cell 3
    have fa := D8.out.box.free 3
    simp at ka
    have D10 := Lib.hid (D8.out.setc v6)
    have q := Lib.hid (prmust w0 r a n cp l (u7) commaB _ D10.out.rd)
    obtain ⟨B12, hB11'⟩ : ∃ B, hasB (u7) commaB = B := ⟨_, rfl⟩
    rw [hB11'] at q
    have hB11 := Lib.hid hB11'
    clear hB11'
    cases B12
    · skip
      go_wp2_with fail
      refine q.out.mono ?_
      rintro e W9 ⟨rfl, hb⟩
      have hz := Lib.hid (D10.out.be.trans (hb.mono D10.out.be.size))
      clear hb q
      clear ka fa
      go_wp2
      refine ⟨rfl, ?_⟩
      rw [hX.out, show assignedR l x s = none from by simp [assignedR, anyR, letV, letN, mustO, readN, stV, hC.out, hN4.out, hB11.out]]
      exact ⟨rfl, hz.out⟩
    · skip
      go_wp2_with fail
      refine q.out.mono ?_
      rintro e W14 ⟨rfl, hr, hb⟩
      have D13 := Lib.hid (D10.out.call hr hb)
      clear hr hb q
      clear ka fa
      have q := Lib.hid (prvalue w0 r a n cp l (cutB (u7) commaB) _ D13.out.rd)
      obtain ⟨N16, hN15'⟩ : ∃ N, readV (cutB (u7) commaB) = N := ⟨_, rfl⟩
      rw [hN15'] at q
      have hN15 := Lib.hid hN15'
      clear hN15'
      cases N16 with
      | none =>
        go_wp2_with fail
        refine q.out.mono ?_
        rintro e W9 ⟨rfl, hb⟩
        have hz := Lib.hid (D13.out.be.trans (hb.mono D13.out.be.size))
        clear hb q
        go_wp2
        refine ⟨rfl, ?_⟩
        rw [hX.out, show assignedR l x s = none from by simp [assignedR, anyR, letV, letN, mustO, readN, stV, hC.out, hN4.out, hB11.out, hN15.out]]
        exact ⟨rfl, hz.out⟩
      | some v17p =>
        obtain ⟨v17, u18⟩ := v17p
        go_wp2_with fail
        refine q.out.mono ?_
        rintro e W20 ⟨rfl, hr, hb⟩
        have D19 := Lib.hid (D13.out.call hr hb)
        clear hr hb q
        have ka := D19.out.box.cell 4
        have fa := D19.out.box.free 4
        simp at ka
        have D21 := Lib.hid (D19.out.setd v17)
        have q := Lib.hid (prmust w0 r a n cp l (u18) closeB _ D21.out.rd)
        obtain ⟨B23, hB22'⟩ : ∃ B, hasB (u18) closeB = B := ⟨_, rfl⟩
        rw [hB22'] at q
        have hB22 := Lib.hid hB22'
        clear hB22'
        cases B23
        · skip
          go_wp2_with fail
          refine q.out.mono ?_
          rintro e W9 ⟨rfl, hb⟩
          have hz := Lib.hid (D21.out.be.trans (hb.mono D21.out.be.size))
          clear hb q
          clear ka fa
          go_wp2
          refine ⟨rfl, ?_⟩
          rw [hX.out, show assignedR l x s = none from by simp [assignedR, anyR, letV, letN, mustO, readN, stV, hC.out, hN4.out, hB11.out, hN15.out, hB22.out]]
          exact ⟨rfl, hz.out⟩
        · skip
          go_wp2_with fail
          refine q.out.mono ?_
          rintro e W25 ⟨rfl, hr, hb⟩
          have D24 := Lib.hid (D21.out.call hr hb)
          clear hr hb q
          clear ka fa
          have m0 := D24.out.box.cell 0
          have m1 := D24.out.box.cell 1
          have m2 := D24.out.box.cell 2
          have m3 := D24.out.box.cell 3
          have m4 := D24.out.box.cell 4
          have r0 := D24.out.res.cell 0
          have r1 := D24.out.res.cell 1
          have r2 := D24.out.res.cell 2
          have r3 := D24.out.res.cell 3
          have r4 := D24.out.res.cell 4
          have e0 := D24.out.res.free 0
          have e1 := D24.out.res.free 1
          have e2 := D24.out.res.free 2
          have e3 := D24.out.res.free 3
          have e4 := D24.out.res.free 4
          simp at m0 m1 m2 m3 m4 r0 r1 r2 r3 r4
          go_wp2
          obtain ⟨n1, n2, n3⟩ := D24.out.z.fin (3) (x) (0) (v6) (v17)
          refine bodyPost_ret (results_cell_row rfl _ _ w.heap.size 38 _ (0, 0) _ rfl n1 Tryz.underlying38 rfl (by first | (rw [info_stmt']; rfl) | exact info_stmt')) rfl ?_
          rw [hX.out, show assignedR l x s = some ((3, x, 0, v6, v17), cutB (u18) closeB) from by simp [assignedR, anyR, letV, letN, mustO, readN, stV, hC.out, hN4.out, hB11.out, hN15.out, hB22.out]]
          exact ⟨rfl, n2, n3⟩
theorem wrap64 (v : Int) (h1 : -9223372036854775808 ≤ v) (h2 : v ≤ 9223372036854775807) : IntKind.i64.wrap v = v := by
  rw [IntKind.wrap_i64]; omega
theorem has_any (s p : ByteArray) (w : World) : Calls Tryz.prog 108 #[.string s, .string p] w fun e w' => e = .returned (.bool (hasB s p)) ∧ w = w' :=
  (Tryz.strings_HasPrefix s p w).mono (fun e w' h => ⟨h.1, h.2.symm⟩)
set_option maxRecDepth 100000 in
set_option maxHeartbeats 4000000 in
theorem asg_val0 (w0 : World) (r : Nat) (a : Option Addr) (n cp : Nat) (l : List ByteArray) (s : ByteArray) (x : Int) (hc : hasB s anyB' = false) (b0 : begB (cutB s anyB') = false) (w : World) (h : PRd w0 r a n cp l s w) (hl : l.length ≤ 8) :
    Calls Tryz.prog 82 #[.pointer (some ⟨r, 0, none⟩), .int .i64 x] w (PRdE w0 r a n cp l w ((assignedR l x s).map stV)) := by
  obtain ⟨X, hX'⟩ : ∃ X, X = (assignedR l x s).map stV := ⟨_, rfl⟩
  rw [← hX']
  have hX := Lib.hid hX'
  clear hX'
  have hD := DZ.start h
  obtain ⟨W1, hW1⟩ : ∃ W1, W1 = (w.alloc (.cells #[.int .i64 0, .int .i64 0, .int .i64 0, .int .i64 0, .int .i64 0] 38)) := ⟨_, rfl⟩
  rw [← hW1] at hD
  have D := Lib.hid hD
  have hw := Lib.hid hW1
  clear hD hW1 h
  have hC := Lib.hid hc
  have q := Lib.hid (prnext w0 r a n cp l s anyB' _ D.out.rd)
  rw [hc] at q
  clear hc
  have Hb0 := Lib.hid b0
  have qn := Lib.hid (fun W => nameSize_any (cutB s anyB') (by have := cutB_le s anyB'; have := D.out.rd.sz; omega) W)
  have qb := Lib.hid (begins_any (cutB s anyB'))
  have qh := Lib.hid (has_any (cutB s anyB') infB)
  rw [b0] at qb
  clear b0
  go_enter Tryz.func82, Tryz.ntmps82
  go_wp2_with fail
  rw [← hw.out]
  clear hw
  go_wp2_with fail
  refine q.out.mono ?_
  rintro e W2 ⟨rfl, hr, hb⟩
  have D1 := Lib.hid (D.out.call hr hb)
  clear hr hb q
  have D3' := D1.out.box 2 x
  generalize hV : World.alloc _ _ = V at D3'
  have D3 := Lib.hid D3'
  have hv := Lib.hid hV
  clear D3' hV
  have y0 := D3.out.rd.blk.cell 1
  have y1 := D1.out.rd.blk.cell 1
  have yl := D1.out.rd.blk.lt
  simp at y0 y1
  go_wp2_with fail
  rw [hv.out]
  clear hv y1 yl
  refine (qb.out V).mono ?_
  rintro e V1 ⟨rfl, rfl⟩
  clear qb
  clear y0 qn qh
  have q := Lib.hid (prvalue w0 r a n cp l (cutB s anyB') _ D3.out.rd)
  obtain ⟨N5, hN4'⟩ : ∃ N, readV (cutB s anyB') = N := ⟨_, rfl⟩
  rw [hN4'] at q
  have hN4 := Lib.hid hN4'
  clear hN4'
  cases N5 with
  | none =>
    go_wp2_with fail
    refine q.out.mono ?_
    rintro e W9 ⟨rfl, hb⟩
    have hz := Lib.hid (D3.out.be.trans (hb.mono D3.out.be.size))
    clear hb q
    go_wp2
    refine ⟨rfl, ?_⟩
    rw [hX.out, show assignedR l x s = none from by simp [assignedR, anyR, letV, letN, mustO, readN, stV, valC, hC.out, Hb0.out, hN4.out]]
    exact ⟨rfl, hz.out⟩
  | some v6p =>
    obtain ⟨v6, u7⟩ := v6p
    go_wp2_with fail
    refine q.out.mono ?_
    rintro e W9 ⟨rfl, hr, hb⟩
    have D8 := Lib.hid (D3.out.call hr hb)
    clear hr hb q
    have ka := D8.out.box.cell 3
    have fa := D8.out.box.free 3
    simp at ka
    have D10 := Lib.hid (D8.out.setc v6)
    have m0 := D10.out.box.cell 0
    have m1 := D10.out.box.cell 1
    have m2 := D10.out.box.cell 2
    have m3 := D10.out.box.cell 3
    have m4 := D10.out.box.cell 4
    have r0 := D10.out.res.cell 0
    have r1 := D10.out.res.cell 1
    have r2 := D10.out.res.cell 2
    have r3 := D10.out.res.cell 3
    have r4 := D10.out.res.cell 4
    have e0 := D10.out.res.free 0
    have e1 := D10.out.res.free 1
    have e2 := D10.out.res.free 2
    have e3 := D10.out.res.free 3
    have e4 := D10.out.res.free 4
    simp at m0 m1 m2 m3 m4 r0 r1 r2 r3 r4
    go_wp2
    obtain ⟨n1, n2, n3⟩ := D10.out.z.fin (2) (x) (0) (v6) (0)
    refine bodyPost_ret (results_cell_row rfl _ _ w.heap.size 38 _ (0, 0) _ rfl n1 Tryz.underlying38 rfl (by first | (rw [info_stmt']; rfl) | exact info_stmt')) rfl ?_
    rw [hX.out, show assignedR l x s = some ((2, x, 0, v6, 0), u7) from by simp [assignedR, anyR, letV, letN, mustO, readN, stV, valC, hC.out, Hb0.out, hN4.out]]
    exact ⟨rfl, n2, n3⟩
set_option maxRecDepth 100000 in
set_option maxHeartbeats 4000000 in
theorem asg_val1 (w0 : World) (r : Nat) (a : Option Addr) (n cp : Nat) (l : List ByteArray) (s : ByteArray) (x : Int) (hc : hasB s anyB' = false) (b1 : begB (cutB s anyB') = true) (i1 : hasB (cutB s anyB') infB = true) (z1 : nsz (cutB s anyB') = 3) (w : World) (h : PRd w0 r a n cp l s w) (hl : l.length ≤ 8) :
    Calls Tryz.prog 82 #[.pointer (some ⟨r, 0, none⟩), .int .i64 x] w (PRdE w0 r a n cp l w ((assignedR l x s).map stV)) := by
  obtain ⟨X, hX'⟩ : ∃ X, X = (assignedR l x s).map stV := ⟨_, rfl⟩
  rw [← hX']
  have hX := Lib.hid hX'
  clear hX'
  have hD := DZ.start h
  obtain ⟨W1, hW1⟩ : ∃ W1, W1 = (w.alloc (.cells #[.int .i64 0, .int .i64 0, .int .i64 0, .int .i64 0, .int .i64 0] 38)) := ⟨_, rfl⟩
  rw [← hW1] at hD
  have D := Lib.hid hD
  have hw := Lib.hid hW1
  clear hD hW1 h
  have hC := Lib.hid hc
  have q := Lib.hid (prnext w0 r a n cp l s anyB' _ D.out.rd)
  rw [hc] at q
  clear hc
  have Hb1 := Lib.hid b1
  have Hi1 := Lib.hid i1
  have Hz1 := Lib.hid z1
  have qn := Lib.hid (fun W => nameSize_any (cutB s anyB') (by have := cutB_le s anyB'; have := D.out.rd.sz; omega) W)
  have qb := Lib.hid (begins_any (cutB s anyB'))
  have qh := Lib.hid (has_any (cutB s anyB') infB)
  rw [b1] at qb
  rw [i1] at qh
  rw [z1] at qn
  clear b1 i1 z1
  go_enter Tryz.func82, Tryz.ntmps82
  go_wp2_with fail
  rw [← hw.out]
  clear hw
  go_wp2_with fail
  refine q.out.mono ?_
  rintro e W2 ⟨rfl, hr, hb⟩
  have D1 := Lib.hid (D.out.call hr hb)
  clear hr hb q
  have D3' := D1.out.box 2 x
  generalize hV : World.alloc _ _ = V at D3'
  have D3 := Lib.hid D3'
  have hv := Lib.hid hV
  clear D3' hV
  have y0 := D3.out.rd.blk.cell 1
  have y1 := D1.out.rd.blk.cell 1
  have yl := D1.out.rd.blk.lt
  simp at y0 y1
  go_wp2_with fail
  rw [hv.out]
  clear hv y1 yl
  refine (qb.out V).mono ?_
  rintro e V1 ⟨rfl, rfl⟩
  clear qb
  go_wp2_with fail
  refine (qh.out V).mono ?_
  rintro e V1 ⟨rfl, rfl⟩
  clear qh
  go_wp2_with fail
  refine (qn.out V).mono ?_
  rintro e V2 ⟨rfl, hb⟩
  have D4 := Lib.hid (D3.out.quiet hb)
  clear hb y0 qn
  have q := Lib.hid (prvalue w0 r a n cp l (cutB s anyB') _ D4.out.rd)
  obtain ⟨N6, hN5'⟩ : ∃ N, readV (cutB s anyB') = N := ⟨_, rfl⟩
  rw [hN5'] at q
  have hN5 := Lib.hid hN5'
  clear hN5'
  cases N6 with
  | none =>
    go_wp2_with fail
    refine q.out.mono ?_
    rintro e W9 ⟨rfl, hb⟩
    have hz := Lib.hid (D4.out.be.trans (hb.mono D4.out.be.size))
    clear hb q
    go_wp2
    refine ⟨rfl, ?_⟩
    rw [hX.out, show assignedR l x s = none from by simp [assignedR, anyR, letV, letN, mustO, readN, stV, valC, hC.out, Hb1.out, Hi1.out, Hz1.out, hN5.out]]
    exact ⟨rfl, hz.out⟩
  | some v7p =>
    obtain ⟨v7, u8⟩ := v7p
    go_wp2_with fail
    refine q.out.mono ?_
    rintro e W10 ⟨rfl, hr, hb⟩
    have D9 := Lib.hid (D4.out.call hr hb)
    clear hr hb q
    have ka := D9.out.box.cell 3
    have fa := D9.out.box.free 3
    simp at ka
    have D11 := Lib.hid (D9.out.setc v7)
    have m0 := D11.out.box.cell 0
    have m1 := D11.out.box.cell 1
    have m2 := D11.out.box.cell 2
    have m3 := D11.out.box.cell 3
    have m4 := D11.out.box.cell 4
    have r0 := D11.out.res.cell 0
    have r1 := D11.out.res.cell 1
    have r2 := D11.out.res.cell 2
    have r3 := D11.out.res.cell 3
    have r4 := D11.out.res.cell 4
    have e0 := D11.out.res.free 0
    have e1 := D11.out.res.free 1
    have e2 := D11.out.res.free 2
    have e3 := D11.out.res.free 3
    have e4 := D11.out.res.free 4
    simp at m0 m1 m2 m3 m4 r0 r1 r2 r3 r4
    go_wp2
    obtain ⟨n1, n2, n3⟩ := D11.out.z.fin (2) (x) (0) (v7) (0)
    refine bodyPost_ret (results_cell_row rfl _ _ w.heap.size 38 _ (0, 0) _ rfl n1 Tryz.underlying38 rfl (by first | (rw [info_stmt']; rfl) | exact info_stmt')) rfl ?_
    rw [hX.out, show assignedR l x s = some ((2, x, 0, v7, 0), u8) from by simp [assignedR, anyR, letV, letN, mustO, readN, stV, valC, hC.out, Hb1.out, Hi1.out, Hz1.out, hN5.out]]
    exact ⟨rfl, n2, n3⟩
set_option maxRecDepth 100000 in
set_option maxHeartbeats 4000000 in
theorem asg_nam0 (w0 : World) (r : Nat) (a : Option Addr) (n cp : Nat) (l : List ByteArray) (s : ByteArray) (x : Int) (hc : hasB s anyB' = false) (b1 : begB (cutB s anyB') = true) (i0 : hasB (cutB s anyB') infB = false) (w : World) (h : PRd w0 r a n cp l s w) (hl : l.length ≤ 8) :
    Calls Tryz.prog 82 #[.pointer (some ⟨r, 0, none⟩), .int .i64 x] w (PRdE w0 r a n cp l w ((assignedR l x s).map stV)) := by
  obtain ⟨X, hX'⟩ : ∃ X, X = (assignedR l x s).map stV := ⟨_, rfl⟩
  rw [← hX']
  have hX := Lib.hid hX'
  clear hX'
  have hD := DZ.start h
  obtain ⟨W1, hW1⟩ : ∃ W1, W1 = (w.alloc (.cells #[.int .i64 0, .int .i64 0, .int .i64 0, .int .i64 0, .int .i64 0] 38)) := ⟨_, rfl⟩
  rw [← hW1] at hD
  have D := Lib.hid hD
  have hw := Lib.hid hW1
  clear hD hW1 h
  have hC := Lib.hid hc
  have q := Lib.hid (prnext w0 r a n cp l s anyB' _ D.out.rd)
  rw [hc] at q
  clear hc
  have Hb1 := Lib.hid b1
  have Hi0 := Lib.hid i0
  have qn := Lib.hid (fun W => nameSize_any (cutB s anyB') (by have := cutB_le s anyB'; have := D.out.rd.sz; omega) W)
  have qb := Lib.hid (begins_any (cutB s anyB'))
  have qh := Lib.hid (has_any (cutB s anyB') infB)
  rw [b1] at qb
  rw [i0] at qh
  clear b1 i0
  go_enter Tryz.func82, Tryz.ntmps82
  go_wp2_with fail
  rw [← hw.out]
  clear hw
  go_wp2_with fail
  refine q.out.mono ?_
  rintro e W2 ⟨rfl, hr, hb⟩
  have D1 := Lib.hid (D.out.call hr hb)
  clear hr hb q
  have D3' := D1.out.box 2 x
  generalize hV : World.alloc _ _ = V at D3'
  have D3 := Lib.hid D3'
  have hv := Lib.hid hV
  clear D3' hV
  have y0 := D3.out.rd.blk.cell 1
  have y1 := D1.out.rd.blk.cell 1
  have yl := D1.out.rd.blk.lt
  simp at y0 y1
  go_wp2_with fail
  rw [hv.out]
  clear hv y1 yl
  refine (qb.out V).mono ?_
  rintro e V1 ⟨rfl, rfl⟩
  clear qb
  go_wp2_with fail
  refine (qh.out V).mono ?_
  rintro e V1 ⟨rfl, rfl⟩
  clear qh
  clear y0 qn
  have q := Lib.hid (prword w0 r a n cp l (cutB s anyB') _ D3.out.rd)
  go_wp2_with fail
  refine q.out.mono ?_
  rintro e W5 ⟨rfl, hr, hb⟩
  have D4 := Lib.hid (D3.out.call hr hb)
  clear hr hb q
  have q := Lib.hid (prnumber w0 r a n cp l (wordR (cutB s anyB')) (wordW (cutB s anyB')) _ D4.out.rd hl)
  obtain ⟨N7, hN6'⟩ : ∃ N, numR l (wordW (cutB s anyB')) = N := ⟨_, rfl⟩
  rw [hN6'] at q
  have hN6 := Lib.hid hN6'
  clear hN6'
  cases N7 with
  | none =>
    go_wp2_with fail
    refine q.out.mono ?_
    rintro e W9 ⟨rfl, hb⟩
    have hz := Lib.hid (D4.out.be.trans (hb.mono D4.out.be.size))
    clear hb q
    go_wp2
    refine ⟨rfl, ?_⟩
    rw [hX.out, show assignedR l x s = none from by simp [assignedR, anyR, letV, letN, mustO, readN, stV, valC, hC.out, Hb1.out, Hi0.out, hN6.out]]
    exact ⟨rfl, hz.out⟩
  | some v8 =>
    go_wp2_with fail
    refine q.out.mono ?_
    rintro e W10 ⟨rfl, hr, hb⟩
    have D9 := Lib.hid (D4.out.call hr hb)
    clear hr hb q
    have ka := D9.out.box.cell 2
    have fa := D9.out.box.free 2
    simp at ka
    have D11 := Lib.hid (D9.out.sety v8)
    have q := Lib.hid (prnext w0 r a n cp l (wordR (cutB s anyB')) minB _ D11.out.rd)
    obtain ⟨B13, hB12'⟩ : ∃ B, hasB (wordR (cutB s anyB')) minB = B := ⟨_, rfl⟩
    rw [hB12'] at q
    have hB12 := Lib.hid hB12'
    clear hB12'
    cases B13
    · skip
      go_wp2_with fail
      refine q.out.mono ?_
      rintro e W15 ⟨rfl, hr, hb⟩
      have D14 := Lib.hid (D11.out.call hr hb)
      clear hr hb q
      clear ka fa
      have q := Lib.hid (prnext w0 r a n cp l (cutB (wordR (cutB s anyB')) minB) plusB _ D14.out.rd)
      obtain ⟨B17, hB16'⟩ : ∃ B, hasB (cutB (wordR (cutB s anyB')) minB) plusB = B := ⟨_, rfl⟩
      rw [hB16'] at q
      have hB16 := Lib.hid hB16'
      clear hB16'
      cases B17
      · skip
        go_wp2_with fail
        refine q.out.mono ?_
        rintro e W19 ⟨rfl, hr, hb⟩
        have D18 := Lib.hid (D14.out.call hr hb)
        clear hr hb q
        have m0 := D18.out.box.cell 0
        have m1 := D18.out.box.cell 1
        have m2 := D18.out.box.cell 2
        have m3 := D18.out.box.cell 3
        have m4 := D18.out.box.cell 4
        have r0 := D18.out.res.cell 0
        have r1 := D18.out.res.cell 1
        have r2 := D18.out.res.cell 2
        have r3 := D18.out.res.cell 3
        have r4 := D18.out.res.cell 4
        have e0 := D18.out.res.free 0
        have e1 := D18.out.res.free 1
        have e2 := D18.out.res.free 2
        have e3 := D18.out.res.free 3
        have e4 := D18.out.res.free 4
        simp at m0 m1 m2 m3 m4 r0 r1 r2 r3 r4
        go_wp2
        obtain ⟨n1, n2, n3⟩ := D18.out.z.fin (2) (x) (v8) (0) (0)
        refine bodyPost_ret (results_cell_row rfl _ _ w.heap.size 38 _ (0, 0) _ rfl n1 Tryz.underlying38 rfl (by first | (rw [info_stmt']; rfl) | exact info_stmt')) rfl ?_
        rw [hX.out, show assignedR l x s = some ((2, x, v8, 0, 0), cutB (cutB (wordR (cutB s anyB')) minB) plusB) from by simp [assignedR, anyR, letV, letN, mustO, readN, stV, valC, hC.out, Hb1.out, Hi0.out, hN6.out, hB12.out, hB16.out]]
        exact ⟨rfl, n2, n3⟩
      · skip
        go_wp2_with fail
        refine q.out.mono ?_
        rintro e W21 ⟨rfl, hr, hb⟩
        have D20 := Lib.hid (D14.out.call hr hb)
        clear hr hb q
        have q := Lib.hid (prvalue w0 r a n cp l (cutB (cutB (wordR (cutB s anyB')) minB) plusB) _ D20.out.rd)
        obtain ⟨N23, hN22'⟩ : ∃ N, readV (cutB (cutB (wordR (cutB s anyB')) minB) plusB) = N := ⟨_, rfl⟩
        rw [hN22'] at q
        have hN22 := Lib.hid hN22'
        clear hN22'
        cases N23 with
        | none =>
          go_wp2_with fail
          refine q.out.mono ?_
          rintro e W9 ⟨rfl, hb⟩
          have hz := Lib.hid (D20.out.be.trans (hb.mono D20.out.be.size))
          clear hb q
          go_wp2
          refine ⟨rfl, ?_⟩
          rw [hX.out, show assignedR l x s = none from by simp [assignedR, anyR, letV, letN, mustO, readN, stV, valC, hC.out, Hb1.out, Hi0.out, hN6.out, hB12.out, hB16.out, hN22.out]]
          exact ⟨rfl, hz.out⟩
        | some v24p =>
          obtain ⟨v24, u25⟩ := v24p
          go_wp2_with fail
          refine q.out.mono ?_
          rintro e W27 ⟨rfl, hr, hb⟩
          have D26 := Lib.hid (D20.out.call hr hb)
          clear hr hb q
          have ka := D26.out.box.cell 3
          have fa := D26.out.box.free 3
          simp at ka
          have D28 := Lib.hid (D26.out.setc v24)
          have m0 := D28.out.box.cell 0
          have m1 := D28.out.box.cell 1
          have m2 := D28.out.box.cell 2
          have m3 := D28.out.box.cell 3
          have m4 := D28.out.box.cell 4
          have r0 := D28.out.res.cell 0
          have r1 := D28.out.res.cell 1
          have r2 := D28.out.res.cell 2
          have r3 := D28.out.res.cell 3
          have r4 := D28.out.res.cell 4
          have e0 := D28.out.res.free 0
          have e1 := D28.out.res.free 1
          have e2 := D28.out.res.free 2
          have e3 := D28.out.res.free 3
          have e4 := D28.out.res.free 4
          simp at m0 m1 m2 m3 m4 r0 r1 r2 r3 r4
          go_wp2
          obtain ⟨n1, n2, n3⟩ := D28.out.z.fin (2) (x) (v8) (v24) (0)
          refine bodyPost_ret (results_cell_row rfl _ _ w.heap.size 38 _ (0, 0) _ rfl n1 Tryz.underlying38 rfl (by first | (rw [info_stmt']; rfl) | exact info_stmt')) rfl ?_
          rw [hX.out, show assignedR l x s = some ((2, x, v8, v24, 0), u25) from by simp [assignedR, anyR, letV, letN, mustO, readN, stV, valC, hC.out, Hb1.out, Hi0.out, hN6.out, hB12.out, hB16.out, hN22.out]]
          exact ⟨rfl, n2, n3⟩
    · skip
      go_wp2_with fail
      refine q.out.mono ?_
      rintro e W30 ⟨rfl, hr, hb⟩
      have D29 := Lib.hid (D11.out.call hr hb)
      clear hr hb q
      clear ka fa
      have q := Lib.hid (prvalue w0 r a n cp l (cutB (wordR (cutB s anyB')) minB) _ D29.out.rd)
      obtain ⟨N32, hN31'⟩ : ∃ N, readV (cutB (wordR (cutB s anyB')) minB) = N := ⟨_, rfl⟩
      rw [hN31'] at q
      have hN31 := Lib.hid hN31'
      clear hN31'
      cases N32 with
      | none =>
        go_wp2_with fail
        refine q.out.mono ?_
        rintro e W9 ⟨rfl, hb⟩
        have hz := Lib.hid (D29.out.be.trans (hb.mono D29.out.be.size))
        clear hb q
        go_wp2
        refine ⟨rfl, ?_⟩
        rw [hX.out, show assignedR l x s = none from by simp [assignedR, anyR, letV, letN, mustO, readN, stV, valC, hC.out, Hb1.out, Hi0.out, hN6.out, hB12.out, hN31.out]]
        exact ⟨rfl, hz.out⟩
      | some v33p =>
        obtain ⟨v33, u34⟩ := v33p
        go_wp2_with fail
        refine q.out.mono ?_
        rintro e W36 ⟨rfl, hr, hb⟩
        have D35 := Lib.hid (D29.out.call hr hb)
        clear hr hb q
        have hle := readV_le hN31.out
        have hwr : IntKind.i64.wrap (-v33) = -v33 := wrap64 _ (by omega) (by omega)
        have ka := D35.out.box.cell 3
        have fa := D35.out.box.free 3
        simp at ka
        have D37 := Lib.hid (D35.out.setc (-v33))
        have m0 := D37.out.box.cell 0
        have m1 := D37.out.box.cell 1
        have m2 := D37.out.box.cell 2
        have m3 := D37.out.box.cell 3
        have m4 := D37.out.box.cell 4
        have r0 := D37.out.res.cell 0
        have r1 := D37.out.res.cell 1
        have r2 := D37.out.res.cell 2
        have r3 := D37.out.res.cell 3
        have r4 := D37.out.res.cell 4
        have e0 := D37.out.res.free 0
        have e1 := D37.out.res.free 1
        have e2 := D37.out.res.free 2
        have e3 := D37.out.res.free 3
        have e4 := D37.out.res.free 4
        simp at m0 m1 m2 m3 m4 r0 r1 r2 r3 r4
        go_wp2
        obtain ⟨n1, n2, n3⟩ := D37.out.z.fin (2) (x) (v8) (-v33) (0)
        refine bodyPost_ret (results_cell_row rfl _ _ w.heap.size 38 _ (0, 0) _ rfl n1 Tryz.underlying38 rfl (by first | (rw [info_stmt']; rfl) | exact info_stmt')) rfl ?_
        rw [hX.out, show assignedR l x s = some ((2, x, v8, -v33, 0), u34) from by simp [assignedR, anyR, letV, letN, mustO, readN, stV, valC, hC.out, Hb1.out, Hi0.out, hN6.out, hB12.out, hN31.out]]
        exact ⟨rfl, n2, n3⟩
set_option maxRecDepth 100000 in
set_option maxHeartbeats 4000000 in
theorem asg_nam1 (w0 : World) (r : Nat) (a : Option Addr) (n cp : Nat) (l : List ByteArray) (s : ByteArray) (x : Int) (hc : hasB s anyB' = false) (b1 : begB (cutB s anyB') = true) (i1 : hasB (cutB s anyB') infB = true) (z0 : ¬ nsz (cutB s anyB') = 3) (w : World) (h : PRd w0 r a n cp l s w) (hl : l.length ≤ 8) :
    Calls Tryz.prog 82 #[.pointer (some ⟨r, 0, none⟩), .int .i64 x] w (PRdE w0 r a n cp l w ((assignedR l x s).map stV)) := by
  obtain ⟨X, hX'⟩ : ∃ X, X = (assignedR l x s).map stV := ⟨_, rfl⟩
  rw [← hX']
  have hX := Lib.hid hX'
  clear hX'
  have hD := DZ.start h
  obtain ⟨W1, hW1⟩ : ∃ W1, W1 = (w.alloc (.cells #[.int .i64 0, .int .i64 0, .int .i64 0, .int .i64 0, .int .i64 0] 38)) := ⟨_, rfl⟩
  rw [← hW1] at hD
  have D := Lib.hid hD
  have hw := Lib.hid hW1
  clear hD hW1 h
  have hC := Lib.hid hc
  have q := Lib.hid (prnext w0 r a n cp l s anyB' _ D.out.rd)
  rw [hc] at q
  clear hc
  have Hb1 := Lib.hid b1
  have Hi1 := Lib.hid i1
  have Hz0 := Lib.hid z0
  have qn := Lib.hid (fun W => nameSize_any (cutB s anyB') (by have := cutB_le s anyB'; have := D.out.rd.sz; omega) W)
  have qb := Lib.hid (begins_any (cutB s anyB'))
  have qh := Lib.hid (has_any (cutB s anyB') infB)
  rw [b1] at qb
  rw [i1] at qh
  have zz : ((((nsz (cutB s anyB') : Nat) : Int)) == 3) = false := by simp; omega
  clear b1 i1 z0
  go_enter Tryz.func82, Tryz.ntmps82
  go_wp2_with fail
  rw [← hw.out]
  clear hw
  go_wp2_with fail
  refine q.out.mono ?_
  rintro e W2 ⟨rfl, hr, hb⟩
  have D1 := Lib.hid (D.out.call hr hb)
  clear hr hb q
  have D3' := D1.out.box 2 x
  generalize hV : World.alloc _ _ = V at D3'
  have D3 := Lib.hid D3'
  have hv := Lib.hid hV
  clear D3' hV
  have y0 := D3.out.rd.blk.cell 1
  have y1 := D1.out.rd.blk.cell 1
  have yl := D1.out.rd.blk.lt
  simp at y0 y1
  go_wp2_with fail
  rw [hv.out]
  clear hv y1 yl
  refine (qb.out V).mono ?_
  rintro e V1 ⟨rfl, rfl⟩
  clear qb
  go_wp2_with fail
  refine (qh.out V).mono ?_
  rintro e V1 ⟨rfl, rfl⟩
  clear qh
  go_wp2_with fail
  refine (qn.out V).mono ?_
  rintro e V2 ⟨rfl, hb⟩
  have D4 := Lib.hid (D3.out.quiet hb)
  clear hb y0 qn
  have q := Lib.hid (prword w0 r a n cp l (cutB s anyB') _ D4.out.rd)
  go_wp2_with fail
  refine q.out.mono ?_
  rintro e W6 ⟨rfl, hr, hb⟩
  have D5 := Lib.hid (D4.out.call hr hb)
  clear hr hb q
  have q := Lib.hid (prnumber w0 r a n cp l (wordR (cutB s anyB')) (wordW (cutB s anyB')) _ D5.out.rd hl)
  obtain ⟨N8, hN7'⟩ : ∃ N, numR l (wordW (cutB s anyB')) = N := ⟨_, rfl⟩
  rw [hN7'] at q
  have hN7 := Lib.hid hN7'
  clear hN7'
  cases N8 with
  | none =>
    go_wp2_with fail
    refine q.out.mono ?_
    rintro e W9 ⟨rfl, hb⟩
    have hz := Lib.hid (D5.out.be.trans (hb.mono D5.out.be.size))
    clear hb q
    go_wp2
    refine ⟨rfl, ?_⟩
    rw [hX.out, show assignedR l x s = none from by simp [assignedR, anyR, letV, letN, mustO, readN, stV, valC, hC.out, Hb1.out, Hi1.out, Hz0.out, hN7.out]]
    exact ⟨rfl, hz.out⟩
  | some v9 =>
    go_wp2_with fail
    refine q.out.mono ?_
    rintro e W11 ⟨rfl, hr, hb⟩
    have D10 := Lib.hid (D5.out.call hr hb)
    clear hr hb q
    have ka := D10.out.box.cell 2
    have fa := D10.out.box.free 2
    simp at ka
    have D12 := Lib.hid (D10.out.sety v9)
    have q := Lib.hid (prnext w0 r a n cp l (wordR (cutB s anyB')) minB _ D12.out.rd)
    obtain ⟨B14, hB13'⟩ : ∃ B, hasB (wordR (cutB s anyB')) minB = B := ⟨_, rfl⟩
    rw [hB13'] at q
    have hB13 := Lib.hid hB13'
    clear hB13'
    cases B14
    · skip
      go_wp2_with fail
      refine q.out.mono ?_
      rintro e W16 ⟨rfl, hr, hb⟩
      have D15 := Lib.hid (D12.out.call hr hb)
      clear hr hb q
      clear ka fa
      have q := Lib.hid (prnext w0 r a n cp l (cutB (wordR (cutB s anyB')) minB) plusB _ D15.out.rd)
      obtain ⟨B18, hB17'⟩ : ∃ B, hasB (cutB (wordR (cutB s anyB')) minB) plusB = B := ⟨_, rfl⟩
      rw [hB17'] at q
      have hB17 := Lib.hid hB17'
      clear hB17'
      cases B18
      · skip
        go_wp2_with fail
        refine q.out.mono ?_
        rintro e W20 ⟨rfl, hr, hb⟩
        have D19 := Lib.hid (D15.out.call hr hb)
        clear hr hb q
        have m0 := D19.out.box.cell 0
        have m1 := D19.out.box.cell 1
        have m2 := D19.out.box.cell 2
        have m3 := D19.out.box.cell 3
        have m4 := D19.out.box.cell 4
        have r0 := D19.out.res.cell 0
        have r1 := D19.out.res.cell 1
        have r2 := D19.out.res.cell 2
        have r3 := D19.out.res.cell 3
        have r4 := D19.out.res.cell 4
        have e0 := D19.out.res.free 0
        have e1 := D19.out.res.free 1
        have e2 := D19.out.res.free 2
        have e3 := D19.out.res.free 3
        have e4 := D19.out.res.free 4
        simp at m0 m1 m2 m3 m4 r0 r1 r2 r3 r4
        go_wp2
        obtain ⟨n1, n2, n3⟩ := D19.out.z.fin (2) (x) (v9) (0) (0)
        refine bodyPost_ret (results_cell_row rfl _ _ w.heap.size 38 _ (0, 0) _ rfl n1 Tryz.underlying38 rfl (by first | (rw [info_stmt']; rfl) | exact info_stmt')) rfl ?_
        rw [hX.out, show assignedR l x s = some ((2, x, v9, 0, 0), cutB (cutB (wordR (cutB s anyB')) minB) plusB) from by simp [assignedR, anyR, letV, letN, mustO, readN, stV, valC, hC.out, Hb1.out, Hi1.out, Hz0.out, hN7.out, hB13.out, hB17.out]]
        exact ⟨rfl, n2, n3⟩
      · skip
        go_wp2_with fail
        refine q.out.mono ?_
        rintro e W22 ⟨rfl, hr, hb⟩
        have D21 := Lib.hid (D15.out.call hr hb)
        clear hr hb q
        have q := Lib.hid (prvalue w0 r a n cp l (cutB (cutB (wordR (cutB s anyB')) minB) plusB) _ D21.out.rd)
        obtain ⟨N24, hN23'⟩ : ∃ N, readV (cutB (cutB (wordR (cutB s anyB')) minB) plusB) = N := ⟨_, rfl⟩
        rw [hN23'] at q
        have hN23 := Lib.hid hN23'
        clear hN23'
        cases N24 with
        | none =>
          go_wp2_with fail
          refine q.out.mono ?_
          rintro e W9 ⟨rfl, hb⟩
          have hz := Lib.hid (D21.out.be.trans (hb.mono D21.out.be.size))
          clear hb q
          go_wp2
          refine ⟨rfl, ?_⟩
          rw [hX.out, show assignedR l x s = none from by simp [assignedR, anyR, letV, letN, mustO, readN, stV, valC, hC.out, Hb1.out, Hi1.out, Hz0.out, hN7.out, hB13.out, hB17.out, hN23.out]]
          exact ⟨rfl, hz.out⟩
        | some v25p =>
          obtain ⟨v25, u26⟩ := v25p
          go_wp2_with fail
          refine q.out.mono ?_
          rintro e W28 ⟨rfl, hr, hb⟩
          have D27 := Lib.hid (D21.out.call hr hb)
          clear hr hb q
          have ka := D27.out.box.cell 3
          have fa := D27.out.box.free 3
          simp at ka
          have D29 := Lib.hid (D27.out.setc v25)
          have m0 := D29.out.box.cell 0
          have m1 := D29.out.box.cell 1
          have m2 := D29.out.box.cell 2
          have m3 := D29.out.box.cell 3
          have m4 := D29.out.box.cell 4
          have r0 := D29.out.res.cell 0
          have r1 := D29.out.res.cell 1
          have r2 := D29.out.res.cell 2
          have r3 := D29.out.res.cell 3
          have r4 := D29.out.res.cell 4
          have e0 := D29.out.res.free 0
          have e1 := D29.out.res.free 1
          have e2 := D29.out.res.free 2
          have e3 := D29.out.res.free 3
          have e4 := D29.out.res.free 4
          simp at m0 m1 m2 m3 m4 r0 r1 r2 r3 r4
          go_wp2
          obtain ⟨n1, n2, n3⟩ := D29.out.z.fin (2) (x) (v9) (v25) (0)
          refine bodyPost_ret (results_cell_row rfl _ _ w.heap.size 38 _ (0, 0) _ rfl n1 Tryz.underlying38 rfl (by first | (rw [info_stmt']; rfl) | exact info_stmt')) rfl ?_
          rw [hX.out, show assignedR l x s = some ((2, x, v9, v25, 0), u26) from by simp [assignedR, anyR, letV, letN, mustO, readN, stV, valC, hC.out, Hb1.out, Hi1.out, Hz0.out, hN7.out, hB13.out, hB17.out, hN23.out]]
          exact ⟨rfl, n2, n3⟩
    · skip
      go_wp2_with fail
      refine q.out.mono ?_
      rintro e W31 ⟨rfl, hr, hb⟩
      have D30 := Lib.hid (D12.out.call hr hb)
      clear hr hb q
      clear ka fa
      have q := Lib.hid (prvalue w0 r a n cp l (cutB (wordR (cutB s anyB')) minB) _ D30.out.rd)
      obtain ⟨N33, hN32'⟩ : ∃ N, readV (cutB (wordR (cutB s anyB')) minB) = N := ⟨_, rfl⟩
      rw [hN32'] at q
      have hN32 := Lib.hid hN32'
      clear hN32'
      cases N33 with
      | none =>
        go_wp2_with fail
        refine q.out.mono ?_
        rintro e W9 ⟨rfl, hb⟩
        have hz := Lib.hid (D30.out.be.trans (hb.mono D30.out.be.size))
        clear hb q
        go_wp2
        refine ⟨rfl, ?_⟩
        rw [hX.out, show assignedR l x s = none from by simp [assignedR, anyR, letV, letN, mustO, readN, stV, valC, hC.out, Hb1.out, Hi1.out, Hz0.out, hN7.out, hB13.out, hN32.out]]
        exact ⟨rfl, hz.out⟩
      | some v34p =>
        obtain ⟨v34, u35⟩ := v34p
        go_wp2_with fail
        refine q.out.mono ?_
        rintro e W37 ⟨rfl, hr, hb⟩
        have D36 := Lib.hid (D30.out.call hr hb)
        clear hr hb q
        have hle := readV_le hN32.out
        have hwr : IntKind.i64.wrap (-v34) = -v34 := wrap64 _ (by omega) (by omega)
        have ka := D36.out.box.cell 3
        have fa := D36.out.box.free 3
        simp at ka
        have D38 := Lib.hid (D36.out.setc (-v34))
        have m0 := D38.out.box.cell 0
        have m1 := D38.out.box.cell 1
        have m2 := D38.out.box.cell 2
        have m3 := D38.out.box.cell 3
        have m4 := D38.out.box.cell 4
        have r0 := D38.out.res.cell 0
        have r1 := D38.out.res.cell 1
        have r2 := D38.out.res.cell 2
        have r3 := D38.out.res.cell 3
        have r4 := D38.out.res.cell 4
        have e0 := D38.out.res.free 0
        have e1 := D38.out.res.free 1
        have e2 := D38.out.res.free 2
        have e3 := D38.out.res.free 3
        have e4 := D38.out.res.free 4
        simp at m0 m1 m2 m3 m4 r0 r1 r2 r3 r4
        go_wp2
        obtain ⟨n1, n2, n3⟩ := D38.out.z.fin (2) (x) (v9) (-v34) (0)
        refine bodyPost_ret (results_cell_row rfl _ _ w.heap.size 38 _ (0, 0) _ rfl n1 Tryz.underlying38 rfl (by first | (rw [info_stmt']; rfl) | exact info_stmt')) rfl ?_
        rw [hX.out, show assignedR l x s = some ((2, x, v9, -v34, 0), u35) from by simp [assignedR, anyR, letV, letN, mustO, readN, stV, valC, hC.out, Hb1.out, Hi1.out, Hz0.out, hN7.out, hB13.out, hN32.out]]
        exact ⟨rfl, n2, n3⟩
theorem prassigned (w0 : World) (r : Nat) (a : Option Addr) (n cp : Nat) (l : List ByteArray) (s : ByteArray) (x : Int) (w : World) (h : PRd w0 r a n cp l s w) (hl : l.length ≤ 8) :
    Calls Tryz.prog 82 #[.pointer (some ⟨r, 0, none⟩), .int .i64 x] w (PRdE w0 r a n cp l w ((assignedR l x s).map stV)) := by
  cases hc : hasB s anyB'
  · cases hb : begB (cutB s anyB')
    · exact asg_val0 w0 r a n cp l s x hc hb w h hl
    · cases hi : hasB (cutB s anyB') infB
      · exact asg_nam0 w0 r a n cp l s x hc hb hi w h hl
      · by_cases hz : nsz (cutB s anyB') = 3
        · exact asg_val1 w0 r a n cp l s x hc hb hi hz w h hl
        · exact asg_nam1 w0 r a n cp l s x hc hb hi hz w h hl
  · exact asg_any w0 r a n cp l s x hc w h hl
end Go.Proofs.YtgeliikfgnkppaaGreatDoor
namespace Go.Proofs.YtgeliikfgnkppaaGreatDoor
open Go.RowKit
set_option linter.unusedVariables false
set_option linter.unusedSimpArgs false
set_option maxRecDepth 100000 in
set_option maxHeartbeats 4000000 in
theorem stmt_skip (w0 : World) (r : Nat) (a : Option Addr) (n cp : Nat) (l : List ByteArray) (s : ByteArray) (h0 : isW (wordW s) [115, 107, 105, 112] = true) (w : World) (h : PRd w0 r a n cp l s w) (hl : l.length ≤ 8) :
    Calls Tryz.prog 49 #[.pointer (some ⟨r, 0, none⟩)] w (PRdE w0 r a n cp l w ((stmtR l s).map stV)) := by
  obtain ⟨X, hX'⟩ : ∃ X, X = (stmtR l s).map stV := ⟨_, rfl⟩
  rw [← hX']
  have hX := Lib.hid hX'
  clear hX'
  have hD := DZ.start h
  obtain ⟨W1, hW1⟩ : ∃ W1, W1 = (w.alloc (.cells #[.int .i64 0, .int .i64 0, .int .i64 0, .int .i64 0, .int .i64 0] 38)) := ⟨_, rfl⟩
  rw [← hW1] at hD
  have D := Lib.hid hD
  have hw := Lib.hid hW1
  clear hD hW1 h
  have H0 := Lib.hid h0
  have g0 : ((wordW s).toList == [115, 107, 105, 112]) = true := h0
  clear h0
  have q := Lib.hid (prword w0 r a n cp l s _ D.out.rd)
  go_enter Tryz.func49, Tryz.ntmps49
  go_wp2_with fail
  rw [← hw.out]
  clear hw
  go_wp2_with fail
  refine q.out.mono ?_
  rintro e W2 ⟨rfl, hr, hb⟩
  have D1 := Lib.hid (D.out.call hr hb)
  clear hr hb q
  have r0 := D1.out.res.cell 0
  have r1 := D1.out.res.cell 1
  have r2 := D1.out.res.cell 2
  have r3 := D1.out.res.cell 3
  have r4 := D1.out.res.cell 4
  have e0 := D1.out.res.free 0
  have e1 := D1.out.res.free 1
  have e2 := D1.out.res.free 2
  have e3 := D1.out.res.free 3
  have e4 := D1.out.res.free 4
  simp at r0 r1 r2 r3 r4
  go_wp2
  obtain ⟨n1, n2, n3⟩ := D1.out.fin (1) (0) (0) (0) (0)
  refine bodyPost_ret (results_cell_row rfl _ _ w.heap.size 38 _ (0, 0) _ rfl n1 Tryz.underlying38 rfl (by first | (rw [info_stmt']; rfl) | exact info_stmt')) rfl ?_
  rw [hX.out, show stmtR l s = some ((1, 0, 0, 0, 0), wordR s) from by simp [stmtR, mustO, stV, H0.out]]
  exact ⟨rfl, n2, n3⟩
set_option maxRecDepth 100000 in
set_option maxHeartbeats 4000000 in
theorem stmt_limit (w0 : World) (r : Nat) (a : Option Addr) (n cp : Nat) (l : List ByteArray) (s : ByteArray) (h0 : isW (wordW s) [115, 107, 105, 112] = false) (h1 : isW (wordW s) [108, 105, 109, 105, 116] = true) (w : World) (h : PRd w0 r a n cp l s w) (hl : l.length ≤ 8) :
    Calls Tryz.prog 49 #[.pointer (some ⟨r, 0, none⟩)] w (PRdE w0 r a n cp l w ((stmtR l s).map stV)) := by
  obtain ⟨X, hX'⟩ : ∃ X, X = (stmtR l s).map stV := ⟨_, rfl⟩
  rw [← hX']
  have hX := Lib.hid hX'
  clear hX'
  have hD := DZ.start h
  obtain ⟨W1, hW1⟩ : ∃ W1, W1 = (w.alloc (.cells #[.int .i64 0, .int .i64 0, .int .i64 0, .int .i64 0, .int .i64 0] 38)) := ⟨_, rfl⟩
  rw [← hW1] at hD
  have D := Lib.hid hD
  have hw := Lib.hid hW1
  clear hD hW1 h
  have H0 := Lib.hid h0
  have g0 : ((wordW s).toList == [115, 107, 105, 112]) = false := h0
  have H1 := Lib.hid h1
  have g1 : ((wordW s).toList == [108, 105, 109, 105, 116]) = true := h1
  clear h0 h1
  have q := Lib.hid (prword w0 r a n cp l s _ D.out.rd)
  go_enter Tryz.func49, Tryz.ntmps49
  go_wp2_with fail
  rw [← hw.out]
  clear hw
  go_wp2_with fail
  refine q.out.mono ?_
  rintro e W2 ⟨rfl, hr, hb⟩
  have D1 := Lib.hid (D.out.call hr hb)
  clear hr hb q
  have q := Lib.hid (prdiff w0 r a n cp l (wordR s) 4 _ D1.out.rd hl)
  obtain ⟨N4, hN3'⟩ : ∃ N, diffR l (wordR s) = N := ⟨_, rfl⟩
  rw [hN3'] at q
  have hN3 := Lib.hid hN3'
  clear hN3'
  cases N4 with
  | none =>
    go_wp2_with fail
    refine q.out.mono ?_
    rintro e W9 ⟨rfl, hb⟩
    have hz := Lib.hid (D1.out.be.trans (hb.mono D1.out.be.size))
    clear hb q
    go_wp2
    refine ⟨rfl, ?_⟩
    rw [hX.out, show stmtR l s = none from by simp [stmtR, mustO, stV, H0.out, H1.out, hN3.out]]
    exact ⟨rfl, hz.out⟩
  | some v5 =>
    obtain ⟨x, y, c, u⟩ := v5
    go_wp2_with fail
    refine q.out.mono ?_
    rintro e W7 ⟨rfl, hr, hb⟩
    have D6 := Lib.hid (D1.out.call hr hb)
    clear hr hb q
    have r0 := D6.out.res.cell 0
    have r1 := D6.out.res.cell 1
    have r2 := D6.out.res.cell 2
    have r3 := D6.out.res.cell 3
    have r4 := D6.out.res.cell 4
    have e0 := D6.out.res.free 0
    have e1 := D6.out.res.free 1
    have e2 := D6.out.res.free 2
    have e3 := D6.out.res.free 3
    have e4 := D6.out.res.free 4
    simp at r0 r1 r2 r3 r4
    go_wp2
    obtain ⟨n1, n2, n3⟩ := D6.out.fin (4) (x) (y) (c) (0)
    refine bodyPost_ret (results_cell_row rfl _ _ w.heap.size 38 _ (0, 0) _ rfl n1 Tryz.underlying38 rfl (by first | (rw [info_stmt']; rfl) | exact info_stmt')) rfl ?_
    rw [hX.out, show stmtR l s = some ((4, x, y, c, 0), u) from by simp [stmtR, mustO, stV, H0.out, H1.out, hN3.out]]
    exact ⟨rfl, n2, n3⟩
set_option maxRecDepth 100000 in
set_option maxHeartbeats 4000000 in
theorem stmt_check (w0 : World) (r : Nat) (a : Option Addr) (n cp : Nat) (l : List ByteArray) (s : ByteArray) (h0 : isW (wordW s) [115, 107, 105, 112] = false) (h1 : isW (wordW s) [108, 105, 109, 105, 116] = false) (h2 : isW (wordW s) [99, 104, 101, 99, 107] = true) (w : World) (h : PRd w0 r a n cp l s w) (hl : l.length ≤ 8) :
    Calls Tryz.prog 49 #[.pointer (some ⟨r, 0, none⟩)] w (PRdE w0 r a n cp l w ((stmtR l s).map stV)) := by
  obtain ⟨X, hX'⟩ : ∃ X, X = (stmtR l s).map stV := ⟨_, rfl⟩
  rw [← hX']
  have hX := Lib.hid hX'
  clear hX'
  have hD := DZ.start h
  obtain ⟨W1, hW1⟩ : ∃ W1, W1 = (w.alloc (.cells #[.int .i64 0, .int .i64 0, .int .i64 0, .int .i64 0, .int .i64 0] 38)) := ⟨_, rfl⟩
  rw [← hW1] at hD
  have D := Lib.hid hD
  have hw := Lib.hid hW1
  clear hD hW1 h
  have H0 := Lib.hid h0
  have g0 : ((wordW s).toList == [115, 107, 105, 112]) = false := h0
  have H1 := Lib.hid h1
  have g1 : ((wordW s).toList == [108, 105, 109, 105, 116]) = false := h1
  have H2 := Lib.hid h2
  have g2 : ((wordW s).toList == [99, 104, 101, 99, 107]) = true := h2
  clear h0 h1 h2
  have q := Lib.hid (prword w0 r a n cp l s _ D.out.rd)
  go_enter Tryz.func49, Tryz.ntmps49
  go_wp2_with fail
  rw [← hw.out]
  clear hw
  go_wp2_with fail
  refine q.out.mono ?_
  rintro e W2 ⟨rfl, hr, hb⟩
  have D1 := Lib.hid (D.out.call hr hb)
  clear hr hb q
  have q := Lib.hid (prdiff w0 r a n cp l (wordR s) 5 _ D1.out.rd hl)
  obtain ⟨N4, hN3'⟩ : ∃ N, diffR l (wordR s) = N := ⟨_, rfl⟩
  rw [hN3'] at q
  have hN3 := Lib.hid hN3'
  clear hN3'
  cases N4 with
  | none =>
    go_wp2_with fail
    refine q.out.mono ?_
    rintro e W9 ⟨rfl, hb⟩
    have hz := Lib.hid (D1.out.be.trans (hb.mono D1.out.be.size))
    clear hb q
    go_wp2
    refine ⟨rfl, ?_⟩
    rw [hX.out, show stmtR l s = none from by simp [stmtR, mustO, stV, H0.out, H1.out, H2.out, hN3.out]]
    exact ⟨rfl, hz.out⟩
  | some v5 =>
    obtain ⟨x, y, c, u⟩ := v5
    go_wp2_with fail
    refine q.out.mono ?_
    rintro e W7 ⟨rfl, hr, hb⟩
    have D6 := Lib.hid (D1.out.call hr hb)
    clear hr hb q
    have r0 := D6.out.res.cell 0
    have r1 := D6.out.res.cell 1
    have r2 := D6.out.res.cell 2
    have r3 := D6.out.res.cell 3
    have r4 := D6.out.res.cell 4
    have e0 := D6.out.res.free 0
    have e1 := D6.out.res.free 1
    have e2 := D6.out.res.free 2
    have e3 := D6.out.res.free 3
    have e4 := D6.out.res.free 4
    simp at r0 r1 r2 r3 r4
    go_wp2
    obtain ⟨n1, n2, n3⟩ := D6.out.fin (5) (x) (y) (c) (0)
    refine bodyPost_ret (results_cell_row rfl _ _ w.heap.size 38 _ (0, 0) _ rfl n1 Tryz.underlying38 rfl (by first | (rw [info_stmt']; rfl) | exact info_stmt')) rfl ?_
    rw [hX.out, show stmtR l s = some ((5, x, y, c, 0), u) from by simp [stmtR, mustO, stV, H0.out, H1.out, H2.out, hN3.out]]
    exact ⟨rfl, n2, n3⟩
set_option maxRecDepth 100000 in
set_option maxHeartbeats 4000000 in
theorem stmt_let (w0 : World) (r : Nat) (a : Option Addr) (n cp : Nat) (l : List ByteArray) (s : ByteArray) (h0 : isW (wordW s) [115, 107, 105, 112] = false) (h1 : isW (wordW s) [108, 105, 109, 105, 116] = false) (h2 : isW (wordW s) [99, 104, 101, 99, 107] = false) (w : World) (h : PRd w0 r a n cp l s w) (hl : l.length ≤ 8) :
    Calls Tryz.prog 49 #[.pointer (some ⟨r, 0, none⟩)] w (PRdE w0 r a n cp l w ((stmtR l s).map stV)) := by
  obtain ⟨X, hX'⟩ : ∃ X, X = (stmtR l s).map stV := ⟨_, rfl⟩
  rw [← hX']
  have hX := Lib.hid hX'
  clear hX'
  have hD := DZ.start h
  obtain ⟨W1, hW1⟩ : ∃ W1, W1 = (w.alloc (.cells #[.int .i64 0, .int .i64 0, .int .i64 0, .int .i64 0, .int .i64 0] 38)) := ⟨_, rfl⟩
  rw [← hW1] at hD
  have D := Lib.hid hD
  have hw := Lib.hid hW1
  clear hD hW1 h
  have H0 := Lib.hid h0
  have g0 : ((wordW s).toList == [115, 107, 105, 112]) = false := h0
  have H1 := Lib.hid h1
  have g1 : ((wordW s).toList == [108, 105, 109, 105, 116]) = false := h1
  have H2 := Lib.hid h2
  have g2 : ((wordW s).toList == [99, 104, 101, 99, 107]) = false := h2
  clear h0 h1 h2
  have q := Lib.hid (prword w0 r a n cp l s _ D.out.rd)
  go_enter Tryz.func49, Tryz.ntmps49
  go_wp2_with fail
  rw [← hw.out]
  clear hw
  go_wp2_with fail
  refine q.out.mono ?_
  rintro e W2 ⟨rfl, hr, hb⟩
  have D1 := Lib.hid (D.out.call hr hb)
  clear hr hb q
  have q := Lib.hid (prnumber w0 r a n cp l (wordR s) (wordW s) _ D1.out.rd hl)
  obtain ⟨N4, hN3'⟩ : ∃ N, numR l (wordW s) = N := ⟨_, rfl⟩
  rw [hN3'] at q
  have hN3 := Lib.hid hN3'
  clear hN3'
  cases N4 with
  | none =>
    go_wp2_with fail
    refine q.out.mono ?_
    rintro e W9 ⟨rfl, hb⟩
    have hz := Lib.hid (D1.out.be.trans (hb.mono D1.out.be.size))
    clear hb q
    go_wp2
    refine ⟨rfl, ?_⟩
    rw [hX.out, show stmtR l s = none from by simp [stmtR, mustO, stV, H0.out, H1.out, H2.out, hN3.out]]
    exact ⟨rfl, hz.out⟩
  | some v5 =>
    go_wp2_with fail
    refine q.out.mono ?_
    rintro e W7 ⟨rfl, hr, hb⟩
    have D6 := Lib.hid (D1.out.call hr hb)
    clear hr hb q
    have q := Lib.hid (prmust w0 r a n cp l (wordR s) asgB _ D6.out.rd)
    obtain ⟨B9, hB8'⟩ : ∃ B, hasB (wordR s) asgB = B := ⟨_, rfl⟩
    rw [hB8'] at q
    have hB8 := Lib.hid hB8'
    clear hB8'
    cases B9
    · skip
      go_wp2_with fail
      refine q.out.mono ?_
      rintro e W9 ⟨rfl, hb⟩
      have hz := Lib.hid (D6.out.be.trans (hb.mono D6.out.be.size))
      clear hb q
      go_wp2
      refine ⟨rfl, ?_⟩
      rw [hX.out, show stmtR l s = none from by simp [stmtR, mustO, stV, H0.out, H1.out, H2.out, hN3.out, hB8.out]]
      exact ⟨rfl, hz.out⟩
    · skip
      go_wp2_with fail
      refine q.out.mono ?_
      rintro e W11 ⟨rfl, hr, hb⟩
      have D10 := Lib.hid (D6.out.call hr hb)
      clear hr hb q
      have q := Lib.hid (prassigned w0 r a n cp l (cutB (wordR s) asgB) v5 _ D10.out.rd hl)
      obtain ⟨N13, hN12'⟩ : ∃ N, assignedR l v5 (cutB (wordR s) asgB) = N := ⟨_, rfl⟩
      rw [hN12'] at q
      have hN12 := Lib.hid hN12'
      clear hN12'
      cases N13 with
      | none =>
        go_wp2_with fail
        refine q.out.mono ?_
        rintro e W9 ⟨rfl, hb⟩
        have hz := Lib.hid (D10.out.be.trans (hb.mono D10.out.be.size))
        clear hb q
        go_wp2
        refine ⟨rfl, ?_⟩
        rw [hX.out, show stmtR l s = none from by simp [stmtR, mustO, stV, H0.out, H1.out, H2.out, hN3.out, hB8.out, hN12.out]]
        exact ⟨rfl, hz.out⟩
      | some v14 =>
        obtain ⟨⟨kk, x, y, c, d⟩, u⟩ := v14
        go_wp2_with fail
        refine q.out.mono ?_
        rintro e W16 ⟨rfl, hr, hb⟩
        have D15 := Lib.hid (D10.out.call hr hb)
        clear hr hb q
        have r0 := D15.out.res.cell 0
        have r1 := D15.out.res.cell 1
        have r2 := D15.out.res.cell 2
        have r3 := D15.out.res.cell 3
        have r4 := D15.out.res.cell 4
        have e0 := D15.out.res.free 0
        have e1 := D15.out.res.free 1
        have e2 := D15.out.res.free 2
        have e3 := D15.out.res.free 3
        have e4 := D15.out.res.free 4
        simp at r0 r1 r2 r3 r4
        go_wp2
        obtain ⟨n1, n2, n3⟩ := D15.out.fin (kk) (x) (y) (c) (d)
        refine bodyPost_ret (results_cell_row rfl _ _ w.heap.size 38 _ (0, 0) _ rfl n1 Tryz.underlying38 rfl (by first | (rw [info_stmt']; rfl) | exact info_stmt')) rfl ?_
        rw [hX.out, show stmtR l s = some ((kk, x, y, c, d), u) from by simp [stmtR, mustO, stV, H0.out, H1.out, H2.out, hN3.out, hB8.out, hN12.out]]
        exact ⟨rfl, n2, n3⟩
theorem prstmt (w0 : World) (r : Nat) (a : Option Addr) (n cp : Nat) (l : List ByteArray) (s : ByteArray) (w : World) (h : PRd w0 r a n cp l s w) (hl : l.length ≤ 8) :
    Calls Tryz.prog 49 #[.pointer (some ⟨r, 0, none⟩)] w (PRdE w0 r a n cp l w ((stmtR l s).map stV)) := by
  cases h0 : isW (wordW s) [115, 107, 105, 112]
  · cases h1 : isW (wordW s) [108, 105, 109, 105, 116]
    · cases h2 : isW (wordW s) [99, 104, 101, 99, 107]
      · exact stmt_let w0 r a n cp l s h0 h1 h2 w h hl
      · exact stmt_check w0 r a n cp l s h0 h1 h2 w h hl
    · exact stmt_limit w0 r a n cp l s h0 h1 w h hl
  · exact stmt_skip w0 r a n cp l s h0 w h hl
end Go.Proofs.YtgeliikfgnkppaaGreatDoor
namespace Go.Proofs.YtgeliikfgnkppaaGreatDoor
open Go.RowKit
set_option linter.unusedVariables false
set_option linter.unusedSimpArgs false
theorem idle_pparse (p1 p2 : Addr) (w : World) :
    CallsD Tryz.prog 48 #[.pointer (some p1), .pointer (some p2)] .returning w fun e u' w' => e = .returned (.tuple #[]) ∧ u' = .returning ∧ w' = w := by
  refine callsD_of_wpS Tryz.func48 rfl fun c₀ cs hu => ?_
  simp only [Tryz.ntmps48, List.size_toArray, List.length_cons, List.length_nil, Nat.reduceAdd, Nat.reduceSub, Array.replicate_succ, Array.replicate_zero, List.push_toArray, List.append_toArray, List.nil_append, List.cons_append]
  apply wpS_seq
  apply wpS_region
  simp [wpOpsS, go_sem, recoverD, hu, Exit.thenS]
  refine wpS_of_wp ?_
  go_wp2
  cases c₀
  simp_all [bodyPostS, results, Tryz.results48]
theorem set5 {w : World} {g : Nat} {t : TypeId} {v0 v1 v2 v3 v4 : Value} (h : Holds w g t #[v0, v1, v2, v3, v4]) (k x y c d : Int) : Holds (((((w.setCell ⟨g, 0, none⟩ (.int .i64 k)).setCell ⟨g, 1, none⟩ (.int .i64 x)).setCell ⟨g, 2, none⟩ (.int .i64 y)).setCell ⟨g, 3, none⟩ (.int .i64 c)).setCell ⟨g, 4, none⟩ (.int .i64 d)) g t #[.int .i64 k, .int .i64 x, .int .i64 y, .int .i64 c, .int .i64 d] := by
  have q := ((((h.set 0 (.int .i64 k)).set 1 (.int .i64 x)).set 2 (.int .i64 y)).set 3 (.int .i64 c)).set 4 (.int .i64 d)
  simpa using q
theorem far5 {w : World} {g g' : Nat} {t : TypeId} {cs : Array Value} (h : Holds w g t cs) (hg : g ≠ g') (k x y c d : Int) : Holds (((((w.setCell ⟨g', 0, none⟩ (.int .i64 k)).setCell ⟨g', 1, none⟩ (.int .i64 x)).setCell ⟨g', 2, none⟩ (.int .i64 y)).setCell ⟨g', 3, none⟩ (.int .i64 c)).setCell ⟨g', 4, none⟩ (.int .i64 d)) g t cs :=
  ((((h.far (p := ⟨g', 0, none⟩) hg _).far (p := ⟨g', 1, none⟩) hg _).far (p := ⟨g', 2, none⟩) hg _).far (p := ⟨g', 3, none⟩) hg _).far (p := ⟨g', 4, none⟩) hg _
theorem bel5 {X : List Nat} {B : Nat} {a w : World} (h : BelowE X B a w) {g : Nat} (hg : g ∈ X) (k x y c d : Int) : BelowE X B a (((((w.setCell ⟨g, 0, none⟩ (.int .i64 k)).setCell ⟨g, 1, none⟩ (.int .i64 x)).setCell ⟨g, 2, none⟩ (.int .i64 y)).setCell ⟨g, 3, none⟩ (.int .i64 c)).setCell ⟨g, 4, none⟩ (.int .i64 d)) :=
  ((((h.setIn (p := ⟨g, 0, none⟩) hg _).setIn (p := ⟨g, 1, none⟩) hg _).setIn (p := ⟨g, 2, none⟩) hg _).setIn (p := ⟨g, 3, none⟩) hg _).setIn (p := ⟨g, 4, none⟩) hg _
set_option maxRecDepth 100000 in
set_option maxHeartbeats 2000000 in
theorem caught_pparse (g1 g2 : Nat) (v0 v1 v2 v3 v4 e0 : Value) (older : List PanicEntry) (w : World) (h1 : Holds w g1 38 #[v0, v1, v2, v3, v4]) (h2 : Holds w g2 29 #[e0]) (h12 : ¬ g1 = g2) :
    CallsD Tryz.prog 48 #[.pointer (some ⟨g1, 0, none⟩), .pointer (some ⟨g2, 0, none⟩)] (.panicking ({ v := .iface 77 (.agg #[]), recovered := false } :: older)) w fun e u' w' =>
      e = .returned (.tuple #[]) ∧ u' = .panicking ({ v := .iface 77 (.agg #[]), recovered := true } :: older) ∧ Holds w' g1 38 #[.int .i64 0, .int .i64 0, .int .i64 0, .int .i64 0, .int .i64 0] ∧ Holds w' g2 29 #[.int .i64 111] ∧ BelowE [g1, g2] w.heap.size w w' := by
  have hta : ∀ W, (Instr.typeAssert (.iface 77 (.agg #[])) 20 77 true).run Tryz.prog W = .ok (.tuple #[.agg #[], .bool true]) W := fun _ => by kernel_rfl
  refine callsD_of_wpS Tryz.func48 rfl fun c₀ cs hu => ?_
  simp only [Tryz.ntmps48, List.size_toArray, List.length_cons, List.length_nil, Nat.reduceAdd, Nat.reduceSub, Array.replicate_succ, Array.replicate_zero, List.push_toArray, List.append_toArray, List.nil_append, List.cons_append]
  apply wpS_seq
  apply wpS_region
  simp [wpOpsS, go_sem, recoverD, hu, Exit.thenS]
  refine wpS_of_wp ?_
  have l1 := h1.lt
  have l2 := h2.lt
  have H1 := Lib.hid h1
  have H2 := Lib.hid h2
  have c10 := h1.cell 0
  have f10 := h1.free 0
  have c11 := h1.cell 1
  have f11 := h1.free 1
  have c12 := h1.cell 2
  have f12 := h1.free 2
  have c13 := h1.cell 3
  have f13 := h1.free 3
  have c14 := h1.cell 4
  have f14 := h1.free 4
  have c20 := h2.cell 0
  have f20 := h2.free 0
  simp at c10 c11 c12 c13 c14 c20
  have d1 : ¬ w.heap.size = g1 := by omega
  have d2 : ¬ w.heap.size = g2 := by omega
  have h21 : ¬ g2 = g1 := fun e => h12 e.symm
  clear h1 h2
  go_wp2
  refine ⟨rfl, _, rfl, _, results_none rfl _ _ _, rfl, rfl, ?_, ?_, ?_⟩
  · exact ((set5 H1.out 0 0 0 0 0).far (p := ⟨g2, 0, none⟩) h12 (.int .i64 111)).alloc _
  · have q := ((far5 H2.out h21 0 0 0 0 0).set 0 (.int .i64 111)).alloc (.cells #[] 77)
    simpa using q
  · have hb := (bel5 (X := [g1, g2]) (BelowE.refl _ w.heap.size w) (g := g1) (by simp) 0 0 0 0 0).setIn (p := ⟨g2, 0, none⟩) (by simp) (.int .i64 111)
    exact hb.alloc hb.size _
end Go.Proofs.YtgeliikfgnkppaaGreatDoor
