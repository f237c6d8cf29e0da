/-
  Words and walks under the law's proof.
-/
import Derived.Defers
import Derived.Recover
import Derived.RegionTactic
import Derived.Deep.WholeRow
import Derived.Laws.Tables
import Derived.Laws.Rows
import Derived.Laws.ResultCell
import Derived.Test.YtgeliikfgnkppaaGreatDoorQR05
import Derived.Test.YtgeliikfgnkppaaGreatDoorQR09
namespace Go.Proofs.YtgeliikfgnkppaaGreatDoor
open Go.RowKit
set_option linter.unusedVariables false
set_option linter.unusedSimpArgs false
theorem pparse_results (tmps : Array Value) (w : World) (g1 g2 : Nat) (k x y c d e : Int) (q1 : tmps.getD 4 undef = .pointer (some ⟨g1, 0, none⟩)) (q2 : tmps.getD 5 undef = .pointer (some ⟨g2, 0, none⟩)) (h1 : Holds w g1 38 #[.int .i64 k, .int .i64 x, .int .i64 y, .int .i64 c, .int .i64 d]) (h2 : Holds w g2 29 #[.int .i64 e]) :
    (results Tryz.f24 tmps).run Tryz.prog w = .ok (.tuple #[.agg #[.int .i64 k, .int .i64 x, .int .i64 y, .int .i64 c, .int .i64 d], .int .i64 e]) w := by
  have c2 := h2.cell 0
  simp at c2
  have r1 := run_loadVar_row (P := Tryz.prog) w g1 38 38 #[.int .i64 k, .int .i64 x, .int .i64 y, .int .i64 c, .int .i64 d] (0, 0) _ h1 Tryz.underlying38 rfl (by first | (rw [info_stmt']; rfl) | exact info_stmt')
  rw [Array.getD_eq_getD_getElem?] at q1 q2
  simp [results, Tryz.results24, q1, q2, asAddr, r1, Sem.run_bind, Result.andThen]
  simp [go_sem, c2, Result.andThen]
def parsedP (l : List ByteArray) (s : ByteArray) : St × Int :=
  if varsB l = true then
    (if s.size ≤ 256 then
      (match stmtR l s with
      | none => ((0, 0, 0, 0, 0), 111)
      | some ((k, x, y, c, d), u) => if showE l k x y c d = 0 ∧ showP l k x y c d = s then ((k, x, y, c, d), 0) else ((0, 0, 0, 0, 0), 111))
    else ((0, 0, 0, 0, 0), 111))
  else ((0, 0, 0, 0, 0), 110)
def stE (p : St × Int) : Value := .tuple #[.agg #[.int .i64 p.1.1, .int .i64 p.1.2.1, .int .i64 p.1.2.2.1, .int .i64 p.1.2.2.2.1, .int .i64 p.1.2.2.2.2], .int .i64 p.2]
set_option maxRecDepth 100000 in
set_option maxHeartbeats 2000000 in
theorem parse_vars (a : Option Addr) (n cp : Nat) (l : List ByteArray) (s : ByteArray) (hv : varsB l = false) (w : World) (h : TT w a n cp l) :
    Calls Tryz.prog 24 #[.slice a n cp, .string s] w (Gives (.tuple #[.agg #[.int .i64 0, .int .i64 0, .int .i64 0, .int .i64 0, .int .i64 0], .int .i64 110]) w) := by
  have q1 := Lib.hid (fun W hW => rightVars_any a n cp l W hW)
  rw [hv] at q1
  obtain ⟨W2, hW2⟩ : ∃ W2, W2 = ((w.alloc (.cells #[.int .i64 0, .int .i64 0, .int .i64 0, .int .i64 0, .int .i64 0] 38)).alloc (.cells #[.int .i64 0] 29)) := ⟨_, rfl⟩
  have z2 : W2.heap.size = w.heap.size + 2 := by rw [hW2]; simp
  have B2 := Lib.hid (show Below w.heap.size w W2 by rw [hW2]; exact ((Below.refl _ _).alloc (Nat.le_refl _) _).alloc (by simp) _)
  have H1 : Hid (Holds W2 w.heap.size 38 #[.int .i64 0, .int .i64 0, .int .i64 0, .int .i64 0, .int .i64 0]) := Lib.hid (by rw [hW2]; exact (Holds.new w _ _).alloc _)
  have H2 : Hid (Holds W2 (w.heap.size + 1) 29 #[.int .i64 0]) := Lib.hid (by
    rw [hW2]
    have q := Holds.new (w.alloc (.cells #[.int .i64 0, .int .i64 0, .int .i64 0, .int .i64 0, .int .i64 0] 38)) 29 #[.int .i64 0]
    simpa using q)
  have T0 := Lib.hid h
  have z2' := Lib.hid z2
  have hW2' := Lib.hid hW2
  clear hW2 z2 h hv
  go_enter Tryz.func24, Tryz.ntmps24
  go_wp2_with fail
  rw [← hW2'.out]
  with_reducible refine (q1.out W2 (T0.out.below B2.out)).mono ?_
  rintro e u1 ⟨rfl, b1⟩
  have zu := Lib.hid (show w.heap.size + 2 ≤ u1.heap.size by have := b1.size; have := z2'.out; omega)
  replace H1 := Lib.hid (H1.out.below b1 H1.out.lt)
  replace H2 := Lib.hid (H2.out.below b1 H2.out.lt)
  replace B2 := Lib.hid (B2.out.trans (b1.mono B2.out.size))
  clear b1 q1 hW2'
  have c10 := H1.out.cell 0
  have f10 := H1.out.free 0
  have c11 := H1.out.cell 1
  have f11 := H1.out.free 1
  have c12 := H1.out.cell 2
  have f12 := H1.out.free 2
  have c13 := H1.out.cell 3
  have f13 := H1.out.free 3
  have c14 := H1.out.cell 4
  have f14 := H1.out.free 4
  have c20 := H2.out.cell 0
  have f20 := H2.out.free 0
  simp at c10 c11 c12 c13 c14 c20
  go_wp2
  have m1 : Holds (((((u1.setCell ⟨w.heap.size, 0, none⟩ (.int .i64 0)).setCell ⟨w.heap.size, 1, none⟩ (.int .i64 0)).setCell ⟨w.heap.size, 2, none⟩ (.int .i64 0)).setCell ⟨w.heap.size, 3, none⟩ (.int .i64 0)).setCell ⟨w.heap.size, 4, none⟩ (.int .i64 0)) w.heap.size 38 #[.int .i64 0, .int .i64 0, .int .i64 0, .int .i64 0, .int .i64 0] := set5 H1.out 0 0 0 0 0
  have m2 := (far5 H2.out (show w.heap.size + 1 ≠ w.heap.size by omega) 0 0 0 0 0).set 0 (.int .i64 110)
  replace m1 := m1.far (p := ⟨w.heap.size + 1, 0, none⟩) (by show w.heap.size ≠ w.heap.size + 1; omega) (.int .i64 110)
  have hb : BelowE [w.heap.size, w.heap.size + 1] u1.heap.size u1 ((((((u1.setCell ⟨w.heap.size, 0, none⟩ (.int .i64 0)).setCell ⟨w.heap.size, 1, none⟩ (.int .i64 0)).setCell ⟨w.heap.size, 2, none⟩ (.int .i64 0)).setCell ⟨w.heap.size, 3, none⟩ (.int .i64 0)).setCell ⟨w.heap.size, 4, none⟩ (.int .i64 0)).setCell ⟨w.heap.size + 1, 0, none⟩ (.int .i64 110)) := (bel5 (BelowE.refl _ _ _) (by simp) 0 0 0 0 0).setIn (p := ⟨w.heap.size + 1, 0, none⟩) (by simp) _
  refine bodyPost_ret (pparse_results _ _ w.heap.size (w.heap.size + 1) 0 0 0 0 0 110 rfl rfl m1 (by simpa using m2)) rfl ⟨rfl, ?_⟩
  exact B2.out.trans (BelowE.none ((hb.mono B2.out.size).less (Y := []) (fun x hx hl => by simp at hx; omega)))
set_option maxRecDepth 100000 in
set_option maxHeartbeats 2000000 in
theorem parse_long (a : Option Addr) (n cp : Nat) (l : List ByteArray) (s : ByteArray) (hv : varsB l = true) (hs : ¬ s.size ≤ 256) (w : World) (h : TT w a n cp l) :
    Calls Tryz.prog 24 #[.slice a n cp, .string s] w (Gives (.tuple #[.agg #[.int .i64 0, .int .i64 0, .int .i64 0, .int .i64 0, .int .i64 0], .int .i64 111]) w) := by
  have hs1 : (256 : Int) < (s.size : Nat) := by omega
  clear hs
  have q1 := Lib.hid (fun W hW => rightVars_any a n cp l W hW)
  rw [hv] at q1
  obtain ⟨W2, hW2⟩ : ∃ W2, W2 = ((w.alloc (.cells #[.int .i64 0, .int .i64 0, .int .i64 0, .int .i64 0, .int .i64 0] 38)).alloc (.cells #[.int .i64 0] 29)) := ⟨_, rfl⟩
  have z2 : W2.heap.size = w.heap.size + 2 := by rw [hW2]; simp
  have B2 := Lib.hid (show Below w.heap.size w W2 by rw [hW2]; exact ((Below.refl _ _).alloc (Nat.le_refl _) _).alloc (by simp) _)
  have H1 : Hid (Holds W2 w.heap.size 38 #[.int .i64 0, .int .i64 0, .int .i64 0, .int .i64 0, .int .i64 0]) := Lib.hid (by rw [hW2]; exact (Holds.new w _ _).alloc _)
  have H2 : Hid (Holds W2 (w.heap.size + 1) 29 #[.int .i64 0]) := Lib.hid (by
    rw [hW2]
    have q := Holds.new (w.alloc (.cells #[.int .i64 0, .int .i64 0, .int .i64 0, .int .i64 0, .int .i64 0] 38)) 29 #[.int .i64 0]
    simpa using q)
  have T0 := Lib.hid h
  have z2' := Lib.hid z2
  have hW2' := Lib.hid hW2
  clear hW2 z2 h hv
  go_enter Tryz.func24, Tryz.ntmps24
  go_wp2_with fail
  rw [← hW2'.out]
  with_reducible refine (q1.out W2 (T0.out.below B2.out)).mono ?_
  rintro e u1 ⟨rfl, b1⟩
  have zu := Lib.hid (show w.heap.size + 2 ≤ u1.heap.size by have := b1.size; have := z2'.out; omega)
  replace H1 := Lib.hid (H1.out.below b1 H1.out.lt)
  replace H2 := Lib.hid (H2.out.below b1 H2.out.lt)
  replace B2 := Lib.hid (B2.out.trans (b1.mono B2.out.size))
  clear b1 q1 hW2'
  have c10 := H1.out.cell 0
  have f10 := H1.out.free 0
  have c11 := H1.out.cell 1
  have f11 := H1.out.free 1
  have c12 := H1.out.cell 2
  have f12 := H1.out.free 2
  have c13 := H1.out.cell 3
  have f13 := H1.out.free 3
  have c14 := H1.out.cell 4
  have f14 := H1.out.free 4
  have c20 := H2.out.cell 0
  have f20 := H2.out.free 0
  simp at c10 c11 c12 c13 c14 c20
  go_wp2
  have m1 : Holds (((((u1.setCell ⟨w.heap.size, 0, none⟩ (.int .i64 0)).setCell ⟨w.heap.size, 1, none⟩ (.int .i64 0)).setCell ⟨w.heap.size, 2, none⟩ (.int .i64 0)).setCell ⟨w.heap.size, 3, none⟩ (.int .i64 0)).setCell ⟨w.heap.size, 4, none⟩ (.int .i64 0)) w.heap.size 38 #[.int .i64 0, .int .i64 0, .int .i64 0, .int .i64 0, .int .i64 0] := set5 H1.out 0 0 0 0 0
  have m2 := (far5 H2.out (show w.heap.size + 1 ≠ w.heap.size by omega) 0 0 0 0 0).set 0 (.int .i64 111)
  replace m1 := m1.far (p := ⟨w.heap.size + 1, 0, none⟩) (by show w.heap.size ≠ w.heap.size + 1; omega) (.int .i64 111)
  have hb : BelowE [w.heap.size, w.heap.size + 1] u1.heap.size u1 ((((((u1.setCell ⟨w.heap.size, 0, none⟩ (.int .i64 0)).setCell ⟨w.heap.size, 1, none⟩ (.int .i64 0)).setCell ⟨w.heap.size, 2, none⟩ (.int .i64 0)).setCell ⟨w.heap.size, 3, none⟩ (.int .i64 0)).setCell ⟨w.heap.size, 4, none⟩ (.int .i64 0)).setCell ⟨w.heap.size + 1, 0, none⟩ (.int .i64 111)) := (bel5 (BelowE.refl _ _ _) (by simp) 0 0 0 0 0).setIn (p := ⟨w.heap.size + 1, 0, none⟩) (by simp) _
  refine bodyPost_ret (pparse_results _ _ w.heap.size (w.heap.size + 1) 0 0 0 0 0 111 rfl rfl m1 (by simpa using m2)) rfl ⟨rfl, ?_⟩
  exact B2.out.trans (BelowE.none ((hb.mono B2.out.size).less (Y := []) (fun x hx hl => by simp at hx; omega)))
set_option maxRecDepth 100000 in
set_option maxHeartbeats 2000000 in
theorem parse_panic (a : Option Addr) (n cp : Nat) (l : List ByteArray) (s : ByteArray) (hv : varsB l = true) (hs : s.size ≤ 256) (hR : stmtR l s = none) (w : World) (ht : Tab w) (h : TT w a n cp l) :
    Calls Tryz.prog 24 #[.slice a n cp, .string s] w (Gives (.tuple #[.agg #[.int .i64 0, .int .i64 0, .int .i64 0, .int .i64 0, .int .i64 0], .int .i64 111]) w) := by
  have hmf : ∀ (fn : Fn) (first cap : Array Value) (w : World), (Instr.makeFunc fn first cap).run Tryz.prog w = .ok (.func fn first cap) w := fun _ _ _ _ => rfl
  have hl8 := vars_len hv
  have hs1 : ¬ (256 : Int) < (s.size : Nat) := by omega
  have hs' := Lib.hid hs
  have hl' := Lib.hid hl8
  have Tb := Lib.hid ht
  clear hs hl8 ht
  have q1 := Lib.hid (fun W hW => rightVars_any a n cp l W hW)
  rw [hv] at q1
  obtain ⟨W2, hW2⟩ : ∃ W2, W2 = ((w.alloc (.cells #[.int .i64 0, .int .i64 0, .int .i64 0, .int .i64 0, .int .i64 0] 38)).alloc (.cells #[.int .i64 0] 29)) := ⟨_, rfl⟩
  have z2 : W2.heap.size = w.heap.size + 2 := by rw [hW2]; simp
  have B2 := Lib.hid (show Below w.heap.size w W2 by rw [hW2]; exact ((Below.refl _ _).alloc (Nat.le_refl _) _).alloc (by simp) _)
  have H1 : Hid (Holds W2 w.heap.size 38 #[.int .i64 0, .int .i64 0, .int .i64 0, .int .i64 0, .int .i64 0]) := Lib.hid (by rw [hW2]; exact (Holds.new w _ _).alloc _)
  have H2 : Hid (Holds W2 (w.heap.size + 1) 29 #[.int .i64 0]) := Lib.hid (by
    rw [hW2]
    have q := Holds.new (w.alloc (.cells #[.int .i64 0, .int .i64 0, .int .i64 0, .int .i64 0, .int .i64 0] 38)) 29 #[.int .i64 0]
    simpa using q)
  have T0 := Lib.hid h
  have z2' := Lib.hid z2
  have hW2' := Lib.hid hW2
  clear hW2 z2 h hv
  go_enter_defers Tryz.func24, Tryz.ntmps24
  go_wp2_with fail
  rw [← hW2'.out]
  with_reducible refine (q1.out W2 (T0.out.below B2.out)).mono ?_
  rintro e u1 ⟨rfl, b1⟩
  have zu := Lib.hid (show w.heap.size + 2 ≤ u1.heap.size by have := b1.size; have := z2'.out; omega)
  replace H1 := Lib.hid (H1.out.below b1 H1.out.lt)
  replace H2 := Lib.hid (H2.out.below b1 H2.out.lt)
  replace B2 := Lib.hid (B2.out.trans (b1.mono B2.out.size))
  clear b1 q1 hW2'
  obtain ⟨W4, hW4⟩ : ∃ W4, W4 = u1.alloc (.cells #[.slice a n cp, .string s] 81) := ⟨_, rfl⟩
  have b4 : Below u1.heap.size u1 W4 := by rw [hW4]; exact box_below _ _ _
  have RD : PRd w u1.heap.size a n cp l s W4 := ⟨by rw [hW4]; exact Holds.new _ _ _, by have := zu.out; omega, B2.out.trans (b4.mono B2.out.size), T0.out, hs'.out⟩
  have q := Lib.hid (prstmt w u1.heap.size a n cp l s W4 RD hl'.out)
  have b4s : u1.heap.size < W4.heap.size := RD.blk.lt
  replace H1 := Lib.hid (H1.out.below b4 H1.out.lt)
  replace H2 := Lib.hid (H2.out.below b4 H2.out.lt)
  replace B2 := Lib.hid (B2.out.trans (b4.mono B2.out.size))
  have hW4' := Lib.hid hW4
  have b4s' := Lib.hid b4s
  rw [hR] at q
  clear hW4 b4 RD b4s hR
  go_wp2_with fail
  rw [← hW4'.out]
  clear hW4'
  refine q.out.mono ?_
  rintro e w5 ⟨rfl, hb⟩
  have hu := zu.out
  have hW := b4s'.out
  replace H1 := Lib.hid (H1.out.belowE hb H1.out.lt (by simp; omega))
  replace H2 := Lib.hid (H2.out.belowE hb H2.out.lt (by simp; omega))
  replace B2 := Lib.hid (B2.out.trans (BelowE.none ((hb.mono B2.out.size).less (Y := []) (fun x hx hl => by simp at hx; omega))))
  clear hb q
  go_wp2_with fail
  refine leaves_cons (f := 48) (args := #[.pointer (some ⟨w.heap.size, 0, none⟩), .pointer (some ⟨w.heap.size + 1, 0, none⟩)]) (by simp) (by simp [go_sem]) ?_
  refine (caught_pparse w.heap.size (w.heap.size + 1) _ _ _ _ _ _ [] w5 H1.out H2.out (by omega)).mono ?_
  rintro e u' w9 ⟨rfl, rfl, m1, m2, m3⟩
  simp [Leaves, settle]
  exact ⟨_, pparse_results _ _ w.heap.size (w.heap.size + 1) 0 0 0 0 0 111 rfl rfl m1 m2, rfl, B2.out.trans (BelowE.none ((m3.mono B2.out.size).less (Y := []) (fun x hx hl => by simp at hx; omega)))⟩
set_option maxRecDepth 100000 in
set_option maxHeartbeats 2000000 in
theorem parse_err (a : Option Addr) (n cp : Nat) (l : List ByteArray) (s : ByteArray) (k x y c d : Int) (u : ByteArray) (hv : varsB l = true) (hs : s.size ≤ 256) (hR : stmtR l s = some ((k, x, y, c, d), u)) (hE : ¬ showE l k x y c d = 0) (w : World) (ht : Tab w) (h : TT w a n cp l) :
    Calls Tryz.prog 24 #[.slice a n cp, .string s] w (Gives (.tuple #[.agg #[.int .i64 0, .int .i64 0, .int .i64 0, .int .i64 0, .int .i64 0], .int .i64 111]) w) := by
  have qs := Lib.hid (fun W hW hT => pshow_any a n cp l k x y c d W hW hT)
  generalize showP l k x y c d = P at *
  generalize showE l k x y c d = EE at *
  have hmf : ∀ (fn : Fn) (first cap : Array Value) (w : World), (Instr.makeFunc fn first cap).run Tryz.prog w = .ok (.func fn first cap) w := fun _ _ _ _ => rfl
  have hl8 := vars_len hv
  have hs1 : ¬ (256 : Int) < (s.size : Nat) := by omega
  have hs' := Lib.hid hs
  have hl' := Lib.hid hl8
  have Tb := Lib.hid ht
  clear hs hl8 ht
  have q1 := Lib.hid (fun W hW => rightVars_any a n cp l W hW)
  rw [hv] at q1
  obtain ⟨W2, hW2⟩ : ∃ W2, W2 = ((w.alloc (.cells #[.int .i64 0, .int .i64 0, .int .i64 0, .int .i64 0, .int .i64 0] 38)).alloc (.cells #[.int .i64 0] 29)) := ⟨_, rfl⟩
  have z2 : W2.heap.size = w.heap.size + 2 := by rw [hW2]; simp
  have B2 := Lib.hid (show Below w.heap.size w W2 by rw [hW2]; exact ((Below.refl _ _).alloc (Nat.le_refl _) _).alloc (by simp) _)
  have H1 : Hid (Holds W2 w.heap.size 38 #[.int .i64 0, .int .i64 0, .int .i64 0, .int .i64 0, .int .i64 0]) := Lib.hid (by rw [hW2]; exact (Holds.new w _ _).alloc _)
  have H2 : Hid (Holds W2 (w.heap.size + 1) 29 #[.int .i64 0]) := Lib.hid (by
    rw [hW2]
    have q := Holds.new (w.alloc (.cells #[.int .i64 0, .int .i64 0, .int .i64 0, .int .i64 0, .int .i64 0] 38)) 29 #[.int .i64 0]
    simpa using q)
  have T0 := Lib.hid h
  have z2' := Lib.hid z2
  have hW2' := Lib.hid hW2
  clear hW2 z2 h hv
  go_enter_defers Tryz.func24, Tryz.ntmps24
  go_wp2_with fail
  rw [← hW2'.out]
  with_reducible refine (q1.out W2 (T0.out.below B2.out)).mono ?_
  rintro e u1 ⟨rfl, b1⟩
  have zu := Lib.hid (show w.heap.size + 2 ≤ u1.heap.size by have := b1.size; have := z2'.out; omega)
  replace H1 := Lib.hid (H1.out.below b1 H1.out.lt)
  replace H2 := Lib.hid (H2.out.below b1 H2.out.lt)
  replace B2 := Lib.hid (B2.out.trans (b1.mono B2.out.size))
  clear b1 q1 hW2'
  obtain ⟨W4, hW4⟩ : ∃ W4, W4 = u1.alloc (.cells #[.slice a n cp, .string s] 81) := ⟨_, rfl⟩
  have b4 : Below u1.heap.size u1 W4 := by rw [hW4]; exact box_below _ _ _
  have RD : PRd w u1.heap.size a n cp l s W4 := ⟨by rw [hW4]; exact Holds.new _ _ _, by have := zu.out; omega, B2.out.trans (b4.mono B2.out.size), T0.out, hs'.out⟩
  have q := Lib.hid (prstmt w u1.heap.size a n cp l s W4 RD hl'.out)
  have b4s : u1.heap.size < W4.heap.size := RD.blk.lt
  replace H1 := Lib.hid (H1.out.below b4 H1.out.lt)
  replace H2 := Lib.hid (H2.out.below b4 H2.out.lt)
  replace B2 := Lib.hid (B2.out.trans (b4.mono B2.out.size))
  have hW4' := Lib.hid hW4
  have b4s' := Lib.hid b4s
  rw [hR] at q
  clear hW4 b4 RD b4s hR
  go_wp2_with fail
  rw [← hW4'.out]
  clear hW4'
  refine q.out.mono ?_
  rintro e w5 ⟨he, hr, hb⟩
  replace he := show e = .returned (.agg #[.int .i64 k, .int .i64 x, .int .i64 y, .int .i64 c, .int .i64 d]) from he
  subst he
  have hu := zu.out
  have hW := b4s'.out
  replace H1 := Lib.hid (H1.out.belowE hb H1.out.lt (by simp; omega))
  replace H2 := Lib.hid (H2.out.belowE hb H2.out.lt (by simp; omega))
  replace B2 := Lib.hid (B2.out.trans (BelowE.none ((hb.mono B2.out.size).less (Y := []) (fun x hx hl => by simp at hx; omega))))
  clear hr hb q
  obtain ⟨w6, hw6⟩ : ∃ w6, w6 = (((((w5.setCell ⟨w.heap.size, 0, none⟩ (.int .i64 k)).setCell ⟨w.heap.size, 1, none⟩ (.int .i64 x)).setCell ⟨w.heap.size, 2, none⟩ (.int .i64 y)).setCell ⟨w.heap.size, 3, none⟩ (.int .i64 c)).setCell ⟨w.heap.size, 4, none⟩ (.int .i64 d)) := ⟨_, rfl⟩
  have M1 : Hid (Holds w6 w.heap.size 38 #[.int .i64 k, .int .i64 x, .int .i64 y, .int .i64 c, .int .i64 d]) := Lib.hid (by rw [hw6]; exact set5 H1.out k x y c d)
  have M2 : Hid (Holds w6 (w.heap.size + 1) 29 #[.int .i64 0]) := Lib.hid (by rw [hw6]; exact far5 H2.out (by omega) k x y c d)
  have MB : Hid (Below w.heap.size w w6) := Lib.hid (by
    rw [hw6]
    exact B2.out.trans (BelowE.none (((bel5 (X := [w.heap.size]) (BelowE.refl _ _ _) (by simp) k x y c d).mono B2.out.size).less (Y := []) (fun x hx hl => by simp at hx; omega))))
  have c10 := H1.out.cell 0
  have f10 := H1.out.free 0
  have c11 := H1.out.cell 1
  have f11 := H1.out.free 1
  have c12 := H1.out.cell 2
  have f12 := H1.out.free 2
  have c13 := H1.out.cell 3
  have f13 := H1.out.free 3
  have c14 := H1.out.cell 4
  have f14 := H1.out.free 4
  have c20 := H2.out.cell 0
  have f20 := H2.out.free 0
  simp at c10 c11 c12 c13 c14 c20
  have x0 := M1.out.cell 0
  have x1 := M1.out.cell 1
  have x2 := M1.out.cell 2
  have x3 := M1.out.cell 3
  have x4 := M1.out.cell 4
  simp at x0 x1 x2 x3 x4
  rw [hw6] at x0 x1 x2 x3 x4
  have hw6' := Lib.hid hw6
  clear hw6
  go_wp2_with fail
  rw [← hw6'.out]
  clear c10 c11 c12 c13 c14 c20 f10 f11 f12 f13 f14 f20 x0 x1 x2 x3 x4
  with_reducible refine (qs.out w6 (Tb.out.on MB.out) (T0.out.below MB.out)).mono ?_
  rintro e w7 ⟨rfl, b7⟩
  have N1 := Lib.hid (M1.out.below b7 M1.out.lt)
  have N2 := Lib.hid (M2.out.below b7 M2.out.lt)
  have NB := Lib.hid (MB.out.trans (b7.mono MB.out.size))
  clear b7 qs hw6' M1 M2 MB
  have hne : (EE == 0) = false := by simp [hE]
  go_wp2_with fail
  refine leaves_cons (f := 48) (args := #[.pointer (some ⟨w.heap.size, 0, none⟩), .pointer (some ⟨w.heap.size + 1, 0, none⟩)]) (by simp) (by simp [go_sem]) ?_
  refine (caught_pparse w.heap.size (w.heap.size + 1) _ _ _ _ _ _ [] w7 N1.out N2.out (by omega)).mono ?_
  rintro e u' w9 ⟨rfl, rfl, m1, m2, m3⟩
  simp [Leaves, settle]
  exact ⟨_, pparse_results _ _ w.heap.size (w.heap.size + 1) 0 0 0 0 0 111 rfl rfl m1 m2, rfl, NB.out.trans (BelowE.none ((m3.mono NB.out.size).less (Y := []) (fun x hx hl => by simp at hx; omega)))⟩
set_option maxRecDepth 100000 in
set_option maxHeartbeats 2000000 in
theorem parse_other (a : Option Addr) (n cp : Nat) (l : List ByteArray) (s : ByteArray) (k x y c d : Int) (u : ByteArray) (hv : varsB l = true) (hs : s.size ≤ 256) (hR : stmtR l s = some ((k, x, y, c, d), u)) (hE : showE l k x y c d = 0) (hP : ¬ showP l k x y c d = s) (w : World) (ht : Tab w) (h : TT w a n cp l) :
    Calls Tryz.prog 24 #[.slice a n cp, .string s] w (Gives (.tuple #[.agg #[.int .i64 0, .int .i64 0, .int .i64 0, .int .i64 0, .int .i64 0], .int .i64 111]) w) := by
  have qs := Lib.hid (fun W hW hT => pshow_any a n cp l k x y c d W hW hT)
  generalize showP l k x y c d = P at *
  generalize showE l k x y c d = EE at *
  have hmf : ∀ (fn : Fn) (first cap : Array Value) (w : World), (Instr.makeFunc fn first cap).run Tryz.prog w = .ok (.func fn first cap) w := fun _ _ _ _ => rfl
  have hl8 := vars_len hv
  have hs1 : ¬ (256 : Int) < (s.size : Nat) := by omega
  have hs' := Lib.hid hs
  have hl' := Lib.hid hl8
  have Tb := Lib.hid ht
  clear hs hl8 ht
  have q1 := Lib.hid (fun W hW => rightVars_any a n cp l W hW)
  rw [hv] at q1
  obtain ⟨W2, hW2⟩ : ∃ W2, W2 = ((w.alloc (.cells #[.int .i64 0, .int .i64 0, .int .i64 0, .int .i64 0, .int .i64 0] 38)).alloc (.cells #[.int .i64 0] 29)) := ⟨_, rfl⟩
  have z2 : W2.heap.size = w.heap.size + 2 := by rw [hW2]; simp
  have B2 := Lib.hid (show Below w.heap.size w W2 by rw [hW2]; exact ((Below.refl _ _).alloc (Nat.le_refl _) _).alloc (by simp) _)
  have H1 : Hid (Holds W2 w.heap.size 38 #[.int .i64 0, .int .i64 0, .int .i64 0, .int .i64 0, .int .i64 0]) := Lib.hid (by rw [hW2]; exact (Holds.new w _ _).alloc _)
  have H2 : Hid (Holds W2 (w.heap.size + 1) 29 #[.int .i64 0]) := Lib.hid (by
    rw [hW2]
    have q := Holds.new (w.alloc (.cells #[.int .i64 0, .int .i64 0, .int .i64 0, .int .i64 0, .int .i64 0] 38)) 29 #[.int .i64 0]
    simpa using q)
  have T0 := Lib.hid h
  have z2' := Lib.hid z2
  have hW2' := Lib.hid hW2
  clear hW2 z2 h hv
  go_enter_defers Tryz.func24, Tryz.ntmps24
  go_wp2_with fail
  rw [← hW2'.out]
  with_reducible refine (q1.out W2 (T0.out.below B2.out)).mono ?_
  rintro e u1 ⟨rfl, b1⟩
  have zu := Lib.hid (show w.heap.size + 2 ≤ u1.heap.size by have := b1.size; have := z2'.out; omega)
  replace H1 := Lib.hid (H1.out.below b1 H1.out.lt)
  replace H2 := Lib.hid (H2.out.below b1 H2.out.lt)
  replace B2 := Lib.hid (B2.out.trans (b1.mono B2.out.size))
  clear b1 q1 hW2'
  obtain ⟨W4, hW4⟩ : ∃ W4, W4 = u1.alloc (.cells #[.slice a n cp, .string s] 81) := ⟨_, rfl⟩
  have b4 : Below u1.heap.size u1 W4 := by rw [hW4]; exact box_below _ _ _
  have RD : PRd w u1.heap.size a n cp l s W4 := ⟨by rw [hW4]; exact Holds.new _ _ _, by have := zu.out; omega, B2.out.trans (b4.mono B2.out.size), T0.out, hs'.out⟩
  have q := Lib.hid (prstmt w u1.heap.size a n cp l s W4 RD hl'.out)
  have b4s : u1.heap.size < W4.heap.size := RD.blk.lt
  replace H1 := Lib.hid (H1.out.below b4 H1.out.lt)
  replace H2 := Lib.hid (H2.out.below b4 H2.out.lt)
  replace B2 := Lib.hid (B2.out.trans (b4.mono B2.out.size))
  have hW4' := Lib.hid hW4
  have b4s' := Lib.hid b4s
  rw [hR] at q
  clear hW4 b4 RD b4s hR
  go_wp2_with fail
  rw [← hW4'.out]
  clear hW4'
  refine q.out.mono ?_
  rintro e w5 ⟨he, hr, hb⟩
  replace he := show e = .returned (.agg #[.int .i64 k, .int .i64 x, .int .i64 y, .int .i64 c, .int .i64 d]) from he
  subst he
  have hu := zu.out
  have hW := b4s'.out
  replace H1 := Lib.hid (H1.out.belowE hb H1.out.lt (by simp; omega))
  replace H2 := Lib.hid (H2.out.belowE hb H2.out.lt (by simp; omega))
  replace B2 := Lib.hid (B2.out.trans (BelowE.none ((hb.mono B2.out.size).less (Y := []) (fun x hx hl => by simp at hx; omega))))
  clear hr hb q
  obtain ⟨w6, hw6⟩ : ∃ w6, w6 = (((((w5.setCell ⟨w.heap.size, 0, none⟩ (.int .i64 k)).setCell ⟨w.heap.size, 1, none⟩ (.int .i64 x)).setCell ⟨w.heap.size, 2, none⟩ (.int .i64 y)).setCell ⟨w.heap.size, 3, none⟩ (.int .i64 c)).setCell ⟨w.heap.size, 4, none⟩ (.int .i64 d)) := ⟨_, rfl⟩
  have M1 : Hid (Holds w6 w.heap.size 38 #[.int .i64 k, .int .i64 x, .int .i64 y, .int .i64 c, .int .i64 d]) := Lib.hid (by rw [hw6]; exact set5 H1.out k x y c d)
  have M2 : Hid (Holds w6 (w.heap.size + 1) 29 #[.int .i64 0]) := Lib.hid (by rw [hw6]; exact far5 H2.out (by omega) k x y c d)
  have MB : Hid (Below w.heap.size w w6) := Lib.hid (by
    rw [hw6]
    exact B2.out.trans (BelowE.none (((bel5 (X := [w.heap.size]) (BelowE.refl _ _ _) (by simp) k x y c d).mono B2.out.size).less (Y := []) (fun x hx hl => by simp at hx; omega))))
  have c10 := H1.out.cell 0
  have f10 := H1.out.free 0
  have c11 := H1.out.cell 1
  have f11 := H1.out.free 1
  have c12 := H1.out.cell 2
  have f12 := H1.out.free 2
  have c13 := H1.out.cell 3
  have f13 := H1.out.free 3
  have c14 := H1.out.cell 4
  have f14 := H1.out.free 4
  have c20 := H2.out.cell 0
  have f20 := H2.out.free 0
  simp at c10 c11 c12 c13 c14 c20
  have x0 := M1.out.cell 0
  have x1 := M1.out.cell 1
  have x2 := M1.out.cell 2
  have x3 := M1.out.cell 3
  have x4 := M1.out.cell 4
  simp at x0 x1 x2 x3 x4
  rw [hw6] at x0 x1 x2 x3 x4
  have hw6' := Lib.hid hw6
  clear hw6
  go_wp2_with fail
  rw [← hw6'.out]
  clear c10 c11 c12 c13 c14 c20 f10 f11 f12 f13 f14 f20 x0 x1 x2 x3 x4
  with_reducible refine (qs.out w6 (Tb.out.on MB.out) (T0.out.below MB.out)).mono ?_
  rintro e w7 ⟨rfl, b7⟩
  have N1 := Lib.hid (M1.out.below b7 M1.out.lt)
  have N2 := Lib.hid (M2.out.below b7 M2.out.lt)
  have NB := Lib.hid (MB.out.trans (b7.mono MB.out.size))
  clear b7 qs hw6' M1 M2 MB
  subst hE
  have hnp : (P.toList == s.toList) = false := by rw [Lib.bytes_beq_false_iff]; exact hP
  go_wp2_with fail
  refine leaves_cons (f := 48) (args := #[.pointer (some ⟨w.heap.size, 0, none⟩), .pointer (some ⟨w.heap.size + 1, 0, none⟩)]) (by simp) (by simp [go_sem]) ?_
  refine (caught_pparse w.heap.size (w.heap.size + 1) _ _ _ _ _ _ [] w7 N1.out N2.out (by omega)).mono ?_
  rintro e u' w9 ⟨rfl, rfl, m1, m2, m3⟩
  simp [Leaves, settle]
  exact ⟨_, pparse_results _ _ w.heap.size (w.heap.size + 1) 0 0 0 0 0 111 rfl rfl m1 m2, rfl, NB.out.trans (BelowE.none ((m3.mono NB.out.size).less (Y := []) (fun x hx hl => by simp at hx; omega)))⟩
set_option maxRecDepth 100000 in
set_option maxHeartbeats 2000000 in
theorem parse_ok' (a : Option Addr) (n cp : Nat) (l : List ByteArray) (s : ByteArray) (k x y c d : Int) (u : ByteArray) (hv : varsB l = true) (hs : s.size ≤ 256) (hR : stmtR l s = some ((k, x, y, c, d), u)) (hE : showE l k x y c d = 0) (hP : showP l k x y c d = s) (w : World) (ht : Tab w) (h : TT w a n cp l) :
    Calls Tryz.prog 24 #[.slice a n cp, .string s] w (Gives (.tuple #[.agg #[.int .i64 k, .int .i64 x, .int .i64 y, .int .i64 c, .int .i64 d], .int .i64 0]) w) := by
  have qs := Lib.hid (fun W hW hT => pshow_any a n cp l k x y c d W hW hT)
  generalize showP l k x y c d = P at *
  generalize showE l k x y c d = EE at *
  have hmf : ∀ (fn : Fn) (first cap : Array Value) (w : World), (Instr.makeFunc fn first cap).run Tryz.prog w = .ok (.func fn first cap) w := fun _ _ _ _ => rfl
  have hl8 := vars_len hv
  have hs1 : ¬ (256 : Int) < (s.size : Nat) := by omega
  have hs' := Lib.hid hs
  have hl' := Lib.hid hl8
  have Tb := Lib.hid ht
  clear hs hl8 ht
  have q1 := Lib.hid (fun W hW => rightVars_any a n cp l W hW)
  rw [hv] at q1
  obtain ⟨W2, hW2⟩ : ∃ W2, W2 = ((w.alloc (.cells #[.int .i64 0, .int .i64 0, .int .i64 0, .int .i64 0, .int .i64 0] 38)).alloc (.cells #[.int .i64 0] 29)) := ⟨_, rfl⟩
  have z2 : W2.heap.size = w.heap.size + 2 := by rw [hW2]; simp
  have B2 := Lib.hid (show Below w.heap.size w W2 by rw [hW2]; exact ((Below.refl _ _).alloc (Nat.le_refl _) _).alloc (by simp) _)
  have H1 : Hid (Holds W2 w.heap.size 38 #[.int .i64 0, .int .i64 0, .int .i64 0, .int .i64 0, .int .i64 0]) := Lib.hid (by rw [hW2]; exact (Holds.new w _ _).alloc _)
  have H2 : Hid (Holds W2 (w.heap.size + 1) 29 #[.int .i64 0]) := Lib.hid (by
    rw [hW2]
    have q := Holds.new (w.alloc (.cells #[.int .i64 0, .int .i64 0, .int .i64 0, .int .i64 0, .int .i64 0] 38)) 29 #[.int .i64 0]
    simpa using q)
  have T0 := Lib.hid h
  have z2' := Lib.hid z2
  have hW2' := Lib.hid hW2
  clear hW2 z2 h hv
  go_enter_defers Tryz.func24, Tryz.ntmps24
  go_wp2_with fail
  rw [← hW2'.out]
  with_reducible refine (q1.out W2 (T0.out.below B2.out)).mono ?_
  rintro e u1 ⟨rfl, b1⟩
  have zu := Lib.hid (show w.heap.size + 2 ≤ u1.heap.size by have := b1.size; have := z2'.out; omega)
  replace H1 := Lib.hid (H1.out.below b1 H1.out.lt)
  replace H2 := Lib.hid (H2.out.below b1 H2.out.lt)
  replace B2 := Lib.hid (B2.out.trans (b1.mono B2.out.size))
  clear b1 q1 hW2'
  obtain ⟨W4, hW4⟩ : ∃ W4, W4 = u1.alloc (.cells #[.slice a n cp, .string s] 81) := ⟨_, rfl⟩
  have b4 : Below u1.heap.size u1 W4 := by rw [hW4]; exact box_below _ _ _
  have RD : PRd w u1.heap.size a n cp l s W4 := ⟨by rw [hW4]; exact Holds.new _ _ _, by have := zu.out; omega, B2.out.trans (b4.mono B2.out.size), T0.out, hs'.out⟩
  have q := Lib.hid (prstmt w u1.heap.size a n cp l s W4 RD hl'.out)
  have b4s : u1.heap.size < W4.heap.size := RD.blk.lt
  replace H1 := Lib.hid (H1.out.below b4 H1.out.lt)
  replace H2 := Lib.hid (H2.out.below b4 H2.out.lt)
  replace B2 := Lib.hid (B2.out.trans (b4.mono B2.out.size))
  have hW4' := Lib.hid hW4
  have b4s' := Lib.hid b4s
  rw [hR] at q
  clear hW4 b4 RD b4s hR
  go_wp2_with fail
  rw [← hW4'.out]
  clear hW4'
  refine q.out.mono ?_
  rintro e w5 ⟨he, hr, hb⟩
  replace he := show e = .returned (.agg #[.int .i64 k, .int .i64 x, .int .i64 y, .int .i64 c, .int .i64 d]) from he
  subst he
  have hu := zu.out
  have hW := b4s'.out
  replace H1 := Lib.hid (H1.out.belowE hb H1.out.lt (by simp; omega))
  replace H2 := Lib.hid (H2.out.belowE hb H2.out.lt (by simp; omega))
  replace B2 := Lib.hid (B2.out.trans (BelowE.none ((hb.mono B2.out.size).less (Y := []) (fun x hx hl => by simp at hx; omega))))
  clear hr hb q
  obtain ⟨w6, hw6⟩ : ∃ w6, w6 = (((((w5.setCell ⟨w.heap.size, 0, none⟩ (.int .i64 k)).setCell ⟨w.heap.size, 1, none⟩ (.int .i64 x)).setCell ⟨w.heap.size, 2, none⟩ (.int .i64 y)).setCell ⟨w.heap.size, 3, none⟩ (.int .i64 c)).setCell ⟨w.heap.size, 4, none⟩ (.int .i64 d)) := ⟨_, rfl⟩
  have M1 : Hid (Holds w6 w.heap.size 38 #[.int .i64 k, .int .i64 x, .int .i64 y, .int .i64 c, .int .i64 d]) := Lib.hid (by rw [hw6]; exact set5 H1.out k x y c d)
  have M2 : Hid (Holds w6 (w.heap.size + 1) 29 #[.int .i64 0]) := Lib.hid (by rw [hw6]; exact far5 H2.out (by omega) k x y c d)
  have MB : Hid (Below w.heap.size w w6) := Lib.hid (by
    rw [hw6]
    exact B2.out.trans (BelowE.none (((bel5 (X := [w.heap.size]) (BelowE.refl _ _ _) (by simp) k x y c d).mono B2.out.size).less (Y := []) (fun x hx hl => by simp at hx; omega))))
  have c10 := H1.out.cell 0
  have f10 := H1.out.free 0
  have c11 := H1.out.cell 1
  have f11 := H1.out.free 1
  have c12 := H1.out.cell 2
  have f12 := H1.out.free 2
  have c13 := H1.out.cell 3
  have f13 := H1.out.free 3
  have c14 := H1.out.cell 4
  have f14 := H1.out.free 4
  have c20 := H2.out.cell 0
  have f20 := H2.out.free 0
  simp at c10 c11 c12 c13 c14 c20
  have x0 := M1.out.cell 0
  have x1 := M1.out.cell 1
  have x2 := M1.out.cell 2
  have x3 := M1.out.cell 3
  have x4 := M1.out.cell 4
  simp at x0 x1 x2 x3 x4
  rw [hw6] at x0 x1 x2 x3 x4
  have hw6' := Lib.hid hw6
  clear hw6
  go_wp2_with fail
  rw [← hw6'.out]
  clear c10 c11 c12 c13 c14 c20 f10 f11 f12 f13 f14 f20 x0 x1 x2 x3 x4
  with_reducible refine (qs.out w6 (Tb.out.on MB.out) (T0.out.below MB.out)).mono ?_
  rintro e w7 ⟨rfl, b7⟩
  have N1 := Lib.hid (M1.out.below b7 M1.out.lt)
  have N2 := Lib.hid (M2.out.below b7 M2.out.lt)
  have NB := Lib.hid (MB.out.trans (b7.mono MB.out.size))
  clear b7 qs hw6' M1 M2 MB
  subst hE
  subst hP
  have c10 := N1.out.cell 0
  have f10 := N1.out.free 0
  have c11 := N1.out.cell 1
  have f11 := N1.out.free 1
  have c12 := N1.out.cell 2
  have f12 := N1.out.free 2
  have c13 := N1.out.cell 3
  have f13 := N1.out.free 3
  have c14 := N1.out.cell 4
  have f14 := N1.out.free 4
  have c20 := N2.out.cell 0
  have f20 := N2.out.free 0
  simp at c10 c11 c12 c13 c14 c20
  go_wp2_with fail
  refine leaves_cons (f := 48) (args := #[.pointer (some ⟨w.heap.size, 0, none⟩), .pointer (some ⟨w.heap.size + 1, 0, none⟩)]) (by simp) (by simp [go_sem]) ?_
  refine (idle_pparse _ _ _).mono ?_
  rintro e u' w8 ⟨rfl, rfl, rfl⟩
  simp only [Leaves, settle]
  have m1 := (set5 N1.out k x y c d).far (p := ⟨w.heap.size + 1, 0, none⟩) (by show w.heap.size ≠ w.heap.size + 1; omega) (.int .i64 0)
  have m2 := (far5 N2.out (show w.heap.size + 1 ≠ w.heap.size by omega) k x y c d).set 0 (.int .i64 0)
  have m3 : BelowE [w.heap.size, w.heap.size + 1] w7.heap.size w7 ((((((w7.setCell ⟨w.heap.size, 0, none⟩ (.int .i64 k)).setCell ⟨w.heap.size, 1, none⟩ (.int .i64 x)).setCell ⟨w.heap.size, 2, none⟩ (.int .i64 y)).setCell ⟨w.heap.size, 3, none⟩ (.int .i64 c)).setCell ⟨w.heap.size, 4, none⟩ (.int .i64 d)).setCell ⟨w.heap.size + 1, 0, none⟩ (.int .i64 0)) := (bel5 (BelowE.refl _ _ _) (by simp) k x y c d).setIn (p := ⟨w.heap.size + 1, 0, none⟩) (by simp) _
  exact ⟨_, pparse_results _ _ w.heap.size (w.heap.size + 1) k x y c d 0 rfl rfl m1 (by simpa using m2), rfl, NB.out.trans (BelowE.none ((m3.mono NB.out.size).less (Y := []) (fun x hx hl => by simp at hx; omega)))⟩
theorem pparse_any (a : Option Addr) (n cp : Nat) (l : List ByteArray) (s : ByteArray) (w : World) (ht : Tab w) (h : TT w a n cp l) :
    Calls Tryz.prog 24 #[.slice a n cp, .string s] w (Gives (stE (parsedP l s)) w) := by
  unfold parsedP
  cases hv : varsB l
  · exact parse_vars a n cp l s hv w h
  · rw [if_pos rfl]
    by_cases hs : s.size ≤ 256
    · rw [if_pos hs]
      cases hR : stmtR l s with
      | none => exact parse_panic a n cp l s hv hs hR w ht h
      | some p =>
        obtain ⟨⟨k, x, y, c, d⟩, u⟩ := p
        by_cases hE : showE l k x y c d = 0
        · by_cases hP : showP l k x y c d = s
          · simp only [hE, hP, and_self, if_true]
            exact parse_ok' a n cp l s k x y c d u hv hs hR hE hP w ht h
          · simp only [hE, hP, and_false, if_false]
            exact parse_other a n cp l s k x y c d u hv hs hR hE hP w ht h
        · simp only [hE, false_and, if_false]
          exact parse_err a n cp l s k x y c d u hv hs hR hE w ht h
    · rw [if_neg hs]
      exact parse_long a n cp l s hv hs w h
end Go.Proofs.YtgeliikfgnkppaaGreatDoor
namespace Go.Proofs.YtgeliikfgnkppaaGreatDoor
open Go.RowKit
set_option linter.unusedVariables false
set_option linter.unusedSimpArgs false
def spotX : SpotD := ⟨⟨#[109, 97, 105, 110]⟩, ⟨#[97, 46, 103, 111]⟩, 3⟩
def smallD : PD := ⟨⟨#[112]⟩, [⟨#[105]⟩, ⟨#[110]⟩], [spotX, spotX, spotX, spotX, spotX], [⟨0, 1, 2, 1, 0, 0, 0⟩, ⟨1, 2, 4, 1, 2, -1, 0⟩, ⟨2, 1, 2, 1, 1, 1, 0⟩, ⟨1, 3, 5, 0, 1, 0, 0⟩]⟩
def PrE (D : PD) (w : World) (e : Ending) (w' : World) : Prop := ∃ p : PV, e = .returned (.agg p.cells) ∧ PrA w' p D ∧ Below w.heap.size w w'
theorem info_prog : (Tryz.prog.info? 26).map (·.size) = some 4 := by kernel_rfl
theorem seesT_cells {B : Nat} {w : World} {a : Option Addr} {l : List ByteArray} (h : SeesC B w a (txts l)) : SeesT B w a l := by
  rcases h with h | ⟨b, off, rfl, hB, hc⟩
  · left
    cases l with
    | nil => rfl
    | cons x l => cases h
  · exact .inr ⟨b, off, rfl, hB, fun i hi => hc i _ (by simp [txts, List.getD, hi])⟩
set_option maxRecDepth 100000 in
theorem small_mem (w : World) (C0 C1 : Array Value) (t1 : TypeId) (W2 W3 W4 W5 : World) (h2 : W2 = (w.alloc (.cells C0 26)).alloc (.cells C1 t1)) (h3 : W3 = W2.alloc (.cells #[.string ⟨#[105]⟩, .string ⟨#[110]⟩] 9)) (h4 : W4 = W3.alloc (.cells #[.string ⟨#[109, 97, 105, 110]⟩, .string ⟨#[97, 46, 103, 111]⟩, .int .i64 3, .string ⟨#[109, 97, 105, 110]⟩, .string ⟨#[97, 46, 103, 111]⟩, .int .i64 3, .string ⟨#[109, 97, 105, 110]⟩, .string ⟨#[97, 46, 103, 111]⟩, .int .i64 3, .string ⟨#[109, 97, 105, 110]⟩, .string ⟨#[97, 46, 103, 111]⟩, .int .i64 3, .string ⟨#[109, 97, 105, 110]⟩, .string ⟨#[97, 46, 103, 111]⟩, .int .i64 3] 54)) (h5 : W5 = W4.alloc (.cells #[.int .i64 0, .int .i64 1, .int .i64 2, .int .i64 1, .int .i64 0, .int .i64 0, .int .i64 0, .int .i64 1, .int .i64 2, .int .i64 4, .int .i64 1, .int .i64 2, .int .i64 (-1), .int .i64 0, .int .i64 2, .int .i64 1, .int .i64 2, .int .i64 1, .int .i64 1, .int .i64 1, .int .i64 0, .int .i64 1, .int .i64 3, .int .i64 5, .int .i64 0, .int .i64 1, .int .i64 0, .int .i64 0] 52)) :
    Holds W5 w.heap.size 26 C0 ∧ PrA W5 ⟨⟨#[112]⟩, some ⟨w.heap.size + 1 + 1, 0, none⟩, 2, 2, some ⟨w.heap.size + 1 + 1 + 1, 0, none⟩, 5, 5, some ⟨w.heap.size + 1 + 1 + 1 + 1, 0, none⟩, 4, 4⟩ smallD ∧ Below w.heap.size w W5 := by
  have z2 : W2.heap.size = w.heap.size + 1 + 1 := by rw [h2]; simp
  have z3 : W3.heap.size = w.heap.size + 1 + 1 + 1 := by rw [h3]; simp [z2]
  have z4 : W4.heap.size = w.heap.size + 1 + 1 + 1 + 1 := by rw [h4]; simp [z3]
  have b2 : Below w.heap.size w W2 := by rw [h2]; exact box2_below _ _ _ _ _
  have b3 : Below W2.heap.size W2 W3 := by rw [h3]; exact box_below _ _ _
  have b4 : Below W3.heap.size W3 W4 := by rw [h4]; exact box_below _ _ _
  have b5 : Below W4.heap.size W4 W5 := by rw [h5]; exact box_below _ _ _
  have H0 : Holds W2 w.heap.size 26 C0 := by rw [h2]; exact (Holds.new w _ _).alloc _
  have s3 : SeesC W3.heap.size W3 (some ⟨w.heap.size + 1 + 1, 0, none⟩) (txts [⟨#[105]⟩, ⟨#[110]⟩]) := by
    have q := seesC_lit W2 9 #[.string ⟨#[105]⟩, .string ⟨#[110]⟩]
    rw [← h3, z2] at q
    exact q
  have s4 : SeesC W4.heap.size W4 (some ⟨w.heap.size + 1 + 1 + 1, 0, none⟩) (smallD.spots.flatMap spotC) := by
    have q := seesC_lit W3 54 #[.string ⟨#[109, 97, 105, 110]⟩, .string ⟨#[97, 46, 103, 111]⟩, .int .i64 3, .string ⟨#[109, 97, 105, 110]⟩, .string ⟨#[97, 46, 103, 111]⟩, .int .i64 3, .string ⟨#[109, 97, 105, 110]⟩, .string ⟨#[97, 46, 103, 111]⟩, .int .i64 3, .string ⟨#[109, 97, 105, 110]⟩, .string ⟨#[97, 46, 103, 111]⟩, .int .i64 3, .string ⟨#[109, 97, 105, 110]⟩, .string ⟨#[97, 46, 103, 111]⟩, .int .i64 3]
    rw [← h4, z3] at q
    exact q
  have s5 : SeesC W5.heap.size W5 (some ⟨w.heap.size + 1 + 1 + 1 + 1, 0, none⟩) (smallD.edges.flatMap edgeC) := by
    have q := seesC_lit W4 52 #[.int .i64 0, .int .i64 1, .int .i64 2, .int .i64 1, .int .i64 0, .int .i64 0, .int .i64 0, .int .i64 1, .int .i64 2, .int .i64 4, .int .i64 1, .int .i64 2, .int .i64 (-1), .int .i64 0, .int .i64 2, .int .i64 1, .int .i64 2, .int .i64 1, .int .i64 1, .int .i64 1, .int .i64 0, .int .i64 1, .int .i64 3, .int .i64 5, .int .i64 0, .int .i64 1, .int .i64 0, .int .i64 0]
    rw [← h5, z4] at q
    exact q
  have c3 := (b4.mono (Nat.le_refl _)).trans (b5.mono b4.size)
  refine ⟨((H0.below b3 H0.lt).below b4 (H0.below b3 H0.lt).lt).below b5 ((H0.below b3 H0.lt).below b4 (H0.below b3 H0.lt).lt).lt, ⟨rfl, ⟨rfl, Nat.le_refl _, by show (2 : Nat) ≤ maxLen; unfold maxLen; omega, seesT_cells ((s3.below c3).mono c3.size)⟩, ⟨rfl, Nat.le_refl _, by show (5 : Nat) ≤ maxLen; unfold maxLen; omega, (s4.below b5).mono b5.size⟩, ⟨rfl, Nat.le_refl _, by show (4 : Nat) ≤ maxLen; unfold maxLen; omega, s5⟩⟩, ?_⟩
  exact ((b2.trans (b3.mono b2.size)).trans ((b4.mono (Nat.le_trans b2.size b3.size)))).trans (b5.mono (Nat.le_trans b2.size (Nat.le_trans b3.size b4.size)))
set_option maxRecDepth 100000 in
set_option maxHeartbeats 4000000 in
theorem small_any (w : World) : Calls Tryz.prog 27 #[] w (PrE smallD w) := by
  go_enter Tryz.func27, Tryz.ntmps27
  go_wp2
  obtain ⟨m1, m2, m3⟩ := small_mem w _ _ _ _ _ _ _ rfl rfl rfl rfl
  exact bodyPost_ret (results_cell_row rfl _ _ w.heap.size 26 _ (0, 0) _ rfl m1 Tryz.underlying26 rfl info_prog) rfl ⟨_, rfl, m2, m3⟩
end Go.Proofs.YtgeliikfgnkppaaGreatDoor
namespace Go.Proofs.YtgeliikfgnkppaaGreatDoor
set_option maxRecDepth 100000
def chkText : ByteArray := ⟨#[99, 104, 101, 99, 107, 32, 105, 32, 45, 32, 110, 32, 60, 61, 32, 45, 49]⟩
def addText : ByteArray := ⟨#[105, 32, 58, 61, 32, 105, 32, 43, 32, 48]⟩
def incText : ByteArray := ⟨#[105, 32, 58, 61, 32, 105, 32, 43, 32, 49]⟩
def anyV : List ByteArray := [⟨#[97, 110, 121]⟩]
theorem small_chk : chkP smallD = 0 := by kernel_rfl
theorem small_out : selP (outQ 1) smallD = [1, 3] := by kernel_rfl
theorem small_into : selP (intoQ 1) smallD = [0, 2] := by kernel_rfl
theorem small_reach : reachP smallD = [0, 1, 2, 3] := by kernel_rfl
def emptyD : PD := ⟨⟨#[]⟩, [], [], []⟩
theorem empty_chk : chkP emptyD = 110 := by kernel_rfl
theorem small_showE : showE smallD.vars 2 1 1 1 0 = 0 := by kernel_rfl
theorem small_showP : showP smallD.vars 2 1 1 1 0 = incText := by kernel_rfl
theorem any_showE : showE anyV 2 1 0 0 0 = 110 := by kernel_rfl
theorem small_right : rightB 1 0 0 0 0 0 = true := by kernel_rfl
theorem small_parse : parsedP smallD.vars chkText = ((5, 1, 2, -1, 0), 0) := by kernel_rfl
theorem small_noparse : (parsedP smallD.vars addText).2 = 111 := by kernel_rfl
end Go.Proofs.YtgeliikfgnkppaaGreatDoor
