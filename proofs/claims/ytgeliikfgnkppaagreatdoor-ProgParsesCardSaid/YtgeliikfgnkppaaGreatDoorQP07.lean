/-
  Words and walks under the law's proof.
-/
import Derived.Defers
import Derived.Recover
import Derived.RegionTactic
import Derived.Test.YtgeliikfgnkppaaGreatDoorQP06
namespace Go.Proofs.YtgeliikfgnkppaaGreatDoor
open Go.RowKit
set_option linter.unusedVariables false
set_option linter.unusedSimpArgs false
theorem pparse_results (tmps : Array Value) (w : World) (g1 g2 : Nat) (k x y c d e : Int) (q1 : tmps.getD 4 undef = .pointer (some ⟨g1, 0, none⟩)) (q2 : tmps.getD 5 undef = .pointer (some ⟨g2, 0, none⟩)) (h1 : Holds w g1 38 #[.int .i64 k, .int .i64 x, .int .i64 y, .int .i64 c, .int .i64 d]) (h2 : Holds w g2 29 #[.int .i64 e]) :
    (results Tryz.f24 tmps).run Tryz.prog w = .ok (.tuple #[.agg #[.int .i64 k, .int .i64 x, .int .i64 y, .int .i64 c, .int .i64 d], .int .i64 e]) w := by
  have c2 := h2.cell 0
  simp at c2
  have r1 := run_loadVar_row (P := Tryz.prog) w g1 38 38 #[.int .i64 k, .int .i64 x, .int .i64 y, .int .i64 c, .int .i64 d] (0, 0) _ h1 Tryz.underlying38 rfl (by first | (rw [info_stmt']; rfl) | exact info_stmt')
  rw [Array.getD_eq_getD_getElem?] at q1 q2
  simp [results, Tryz.results24, q1, q2, asAddr, r1, Sem.run_bind, Result.andThen]
  simp [go_sem, c2, Result.andThen]
def parsedP (l : List ByteArray) (s : ByteArray) : St × Int :=
  if varsB l = true then
    (if s.size ≤ 256 then
      (match stmtR l s with
      | none => ((0, 0, 0, 0, 0), 111)
      | some ((k, x, y, c, d), u) => if showE l k x y c d = 0 ∧ showP l k x y c d = s then ((k, x, y, c, d), 0) else ((0, 0, 0, 0, 0), 111))
    else ((0, 0, 0, 0, 0), 111))
  else ((0, 0, 0, 0, 0), 110)
def stE (p : St × Int) : Value := .tuple #[.agg #[.int .i64 p.1.1, .int .i64 p.1.2.1, .int .i64 p.1.2.2.1, .int .i64 p.1.2.2.2.1, .int .i64 p.1.2.2.2.2], .int .i64 p.2]
set_option maxRecDepth 100000 in
set_option maxHeartbeats 2000000 in
theorem parse_vars (a : Option Addr) (n cp : Nat) (l : List ByteArray) (s : ByteArray) (hv : varsB l = false) (w : World) (h : TT w a n cp l) :
    Calls Tryz.prog 24 #[.slice a n cp, .string s] w (Gives (.tuple #[.agg #[.int .i64 0, .int .i64 0, .int .i64 0, .int .i64 0, .int .i64 0], .int .i64 110]) w) := by
  have q1 := Lib.hid (fun W hW => rightVars_any a n cp l W hW)
  rw [hv] at q1
  obtain ⟨W2, hW2⟩ : ∃ W2, W2 = ((w.alloc (.cells #[.int .i64 0, .int .i64 0, .int .i64 0, .int .i64 0, .int .i64 0] 38)).alloc (.cells #[.int .i64 0] 29)) := ⟨_, rfl⟩
  have z2 : W2.heap.size = w.heap.size + 2 := by rw [hW2]; simp
  have B2 := Lib.hid (show Below w.heap.size w W2 by rw [hW2]; exact ((Below.refl _ _).alloc (Nat.le_refl _) _).alloc (by simp) _)
  have H1 : Hid (Holds W2 w.heap.size 38 #[.int .i64 0, .int .i64 0, .int .i64 0, .int .i64 0, .int .i64 0]) := Lib.hid (by rw [hW2]; exact (Holds.new w _ _).alloc _)
  have H2 : Hid (Holds W2 (w.heap.size + 1) 29 #[.int .i64 0]) := Lib.hid (by
    rw [hW2]
    have q := Holds.new (w.alloc (.cells #[.int .i64 0, .int .i64 0, .int .i64 0, .int .i64 0, .int .i64 0] 38)) 29 #[.int .i64 0]
    simpa using q)
  have T0 := Lib.hid h
  have z2' := Lib.hid z2
  have hW2' := Lib.hid hW2
  clear hW2 z2 h hv
  go_enter Tryz.func24, Tryz.ntmps24
  go_wp2_with fail
  rw [← hW2'.out]
  with_reducible refine (q1.out W2 (T0.out.below B2.out)).mono ?_
  rintro e u1 ⟨rfl, b1⟩
  have zu := Lib.hid (show w.heap.size + 2 ≤ u1.heap.size by have := b1.size; have := z2'.out; omega)
  replace H1 := Lib.hid (H1.out.below b1 H1.out.lt)
  replace H2 := Lib.hid (H2.out.below b1 H2.out.lt)
  replace B2 := Lib.hid (B2.out.trans (b1.mono B2.out.size))
  clear b1 q1 hW2'
  have c10 := H1.out.cell 0
  have f10 := H1.out.free 0
  have c11 := H1.out.cell 1
  have f11 := H1.out.free 1
  have c12 := H1.out.cell 2
  have f12 := H1.out.free 2
  have c13 := H1.out.cell 3
  have f13 := H1.out.free 3
  have c14 := H1.out.cell 4
  have f14 := H1.out.free 4
  have c20 := H2.out.cell 0
  have f20 := H2.out.free 0
  simp at c10 c11 c12 c13 c14 c20
  go_wp2
  have m1 : Holds (((((u1.setCell ⟨w.heap.size, 0, none⟩ (.int .i64 0)).setCell ⟨w.heap.size, 1, none⟩ (.int .i64 0)).setCell ⟨w.heap.size, 2, none⟩ (.int .i64 0)).setCell ⟨w.heap.size, 3, none⟩ (.int .i64 0)).setCell ⟨w.heap.size, 4, none⟩ (.int .i64 0)) w.heap.size 38 #[.int .i64 0, .int .i64 0, .int .i64 0, .int .i64 0, .int .i64 0] := set5 H1.out 0 0 0 0 0
  have m2 := (far5 H2.out (show w.heap.size + 1 ≠ w.heap.size by omega) 0 0 0 0 0).set 0 (.int .i64 110)
  replace m1 := m1.far (p := ⟨w.heap.size + 1, 0, none⟩) (by show w.heap.size ≠ w.heap.size + 1; omega) (.int .i64 110)
  have hb : BelowE [w.heap.size, w.heap.size + 1] u1.heap.size u1 ((((((u1.setCell ⟨w.heap.size, 0, none⟩ (.int .i64 0)).setCell ⟨w.heap.size, 1, none⟩ (.int .i64 0)).setCell ⟨w.heap.size, 2, none⟩ (.int .i64 0)).setCell ⟨w.heap.size, 3, none⟩ (.int .i64 0)).setCell ⟨w.heap.size, 4, none⟩ (.int .i64 0)).setCell ⟨w.heap.size + 1, 0, none⟩ (.int .i64 110)) := (bel5 (BelowE.refl _ _ _) (by simp) 0 0 0 0 0).setIn (p := ⟨w.heap.size + 1, 0, none⟩) (by simp) _
  refine bodyPost_ret (pparse_results _ _ w.heap.size (w.heap.size + 1) 0 0 0 0 0 110 rfl rfl m1 (by simpa using m2)) rfl ⟨rfl, ?_⟩
  exact B2.out.trans (BelowE.none ((hb.mono B2.out.size).less (Y := []) (fun x hx hl => by simp at hx; omega)))
set_option maxRecDepth 100000 in
set_option maxHeartbeats 2000000 in
theorem parse_long (a : Option Addr) (n cp : Nat) (l : List ByteArray) (s : ByteArray) (hv : varsB l = true) (hs : ¬ s.size ≤ 256) (w : World) (h : TT w a n cp l) :
    Calls Tryz.prog 24 #[.slice a n cp, .string s] w (Gives (.tuple #[.agg #[.int .i64 0, .int .i64 0, .int .i64 0, .int .i64 0, .int .i64 0], .int .i64 111]) w) := by
  have hs1 : (256 : Int) < (s.size : Nat) := by omega
  clear hs
  have q1 := Lib.hid (fun W hW => rightVars_any a n cp l W hW)
  rw [hv] at q1
  obtain ⟨W2, hW2⟩ : ∃ W2, W2 = ((w.alloc (.cells #[.int .i64 0, .int .i64 0, .int .i64 0, .int .i64 0, .int .i64 0] 38)).alloc (.cells #[.int .i64 0] 29)) := ⟨_, rfl⟩
  have z2 : W2.heap.size = w.heap.size + 2 := by rw [hW2]; simp
  have B2 := Lib.hid (show Below w.heap.size w W2 by rw [hW2]; exact ((Below.refl _ _).alloc (Nat.le_refl _) _).alloc (by simp) _)
  have H1 : Hid (Holds W2 w.heap.size 38 #[.int .i64 0, .int .i64 0, .int .i64 0, .int .i64 0, .int .i64 0]) := Lib.hid (by rw [hW2]; exact (Holds.new w _ _).alloc _)
  have H2 : Hid (Holds W2 (w.heap.size + 1) 29 #[.int .i64 0]) := Lib.hid (by
    rw [hW2]
    have q := Holds.new (w.alloc (.cells #[.int .i64 0, .int .i64 0, .int .i64 0, .int .i64 0, .int .i64 0] 38)) 29 #[.int .i64 0]
    simpa using q)
  have T0 := Lib.hid h
  have z2' := Lib.hid z2
  have hW2' := Lib.hid hW2
  clear hW2 z2 h hv
  go_enter Tryz.func24, Tryz.ntmps24
  go_wp2_with fail
  rw [← hW2'.out]
  with_reducible refine (q1.out W2 (T0.out.below B2.out)).mono ?_
  rintro e u1 ⟨rfl, b1⟩
  have zu := Lib.hid (show w.heap.size + 2 ≤ u1.heap.size by have := b1.size; have := z2'.out; omega)
  replace H1 := Lib.hid (H1.out.below b1 H1.out.lt)
  replace H2 := Lib.hid (H2.out.below b1 H2.out.lt)
  replace B2 := Lib.hid (B2.out.trans (b1.mono B2.out.size))
  clear b1 q1 hW2'
  have c10 := H1.out.cell 0
  have f10 := H1.out.free 0
  have c11 := H1.out.cell 1
  have f11 := H1.out.free 1
  have c12 := H1.out.cell 2
  have f12 := H1.out.free 2
  have c13 := H1.out.cell 3
  have f13 := H1.out.free 3
  have c14 := H1.out.cell 4
  have f14 := H1.out.free 4
  have c20 := H2.out.cell 0
  have f20 := H2.out.free 0
  simp at c10 c11 c12 c13 c14 c20
  go_wp2
  have m1 : Holds (((((u1.setCell ⟨w.heap.size, 0, none⟩ (.int .i64 0)).setCell ⟨w.heap.size, 1, none⟩ (.int .i64 0)).setCell ⟨w.heap.size, 2, none⟩ (.int .i64 0)).setCell ⟨w.heap.size, 3, none⟩ (.int .i64 0)).setCell ⟨w.heap.size, 4, none⟩ (.int .i64 0)) w.heap.size 38 #[.int .i64 0, .int .i64 0, .int .i64 0, .int .i64 0, .int .i64 0] := set5 H1.out 0 0 0 0 0
  have m2 := (far5 H2.out (show w.heap.size + 1 ≠ w.heap.size by omega) 0 0 0 0 0).set 0 (.int .i64 111)
  replace m1 := m1.far (p := ⟨w.heap.size + 1, 0, none⟩) (by show w.heap.size ≠ w.heap.size + 1; omega) (.int .i64 111)
  have hb : BelowE [w.heap.size, w.heap.size + 1] u1.heap.size u1 ((((((u1.setCell ⟨w.heap.size, 0, none⟩ (.int .i64 0)).setCell ⟨w.heap.size, 1, none⟩ (.int .i64 0)).setCell ⟨w.heap.size, 2, none⟩ (.int .i64 0)).setCell ⟨w.heap.size, 3, none⟩ (.int .i64 0)).setCell ⟨w.heap.size, 4, none⟩ (.int .i64 0)).setCell ⟨w.heap.size + 1, 0, none⟩ (.int .i64 111)) := (bel5 (BelowE.refl _ _ _) (by simp) 0 0 0 0 0).setIn (p := ⟨w.heap.size + 1, 0, none⟩) (by simp) _
  refine bodyPost_ret (pparse_results _ _ w.heap.size (w.heap.size + 1) 0 0 0 0 0 111 rfl rfl m1 (by simpa using m2)) rfl ⟨rfl, ?_⟩
  exact B2.out.trans (BelowE.none ((hb.mono B2.out.size).less (Y := []) (fun x hx hl => by simp at hx; omega)))
set_option maxRecDepth 100000 in
set_option maxHeartbeats 2000000 in
theorem parse_panic (a : Option Addr) (n cp : Nat) (l : List ByteArray) (s : ByteArray) (hv : varsB l = true) (hs : s.size ≤ 256) (hR : stmtR l s = none) (w : World) (ht : Tab w) (h : TT w a n cp l) :
    Calls Tryz.prog 24 #[.slice a n cp, .string s] w (Gives (.tuple #[.agg #[.int .i64 0, .int .i64 0, .int .i64 0, .int .i64 0, .int .i64 0], .int .i64 111]) w) := by
  have hmf : ∀ (fn : Fn) (first cap : Array Value) (w : World), (Instr.makeFunc fn first cap).run Tryz.prog w = .ok (.func fn first cap) w := fun _ _ _ _ => rfl
  have hl8 := vars_len hv
  have hs1 : ¬ (256 : Int) < (s.size : Nat) := by omega
  have hs' := Lib.hid hs
  have hl' := Lib.hid hl8
  have Tb := Lib.hid ht
  clear hs hl8 ht
  have q1 := Lib.hid (fun W hW => rightVars_any a n cp l W hW)
  rw [hv] at q1
  obtain ⟨W2, hW2⟩ : ∃ W2, W2 = ((w.alloc (.cells #[.int .i64 0, .int .i64 0, .int .i64 0, .int .i64 0, .int .i64 0] 38)).alloc (.cells #[.int .i64 0] 29)) := ⟨_, rfl⟩
  have z2 : W2.heap.size = w.heap.size + 2 := by rw [hW2]; simp
  have B2 := Lib.hid (show Below w.heap.size w W2 by rw [hW2]; exact ((Below.refl _ _).alloc (Nat.le_refl _) _).alloc (by simp) _)
  have H1 : Hid (Holds W2 w.heap.size 38 #[.int .i64 0, .int .i64 0, .int .i64 0, .int .i64 0, .int .i64 0]) := Lib.hid (by rw [hW2]; exact (Holds.new w _ _).alloc _)
  have H2 : Hid (Holds W2 (w.heap.size + 1) 29 #[.int .i64 0]) := Lib.hid (by
    rw [hW2]
    have q := Holds.new (w.alloc (.cells #[.int .i64 0, .int .i64 0, .int .i64 0, .int .i64 0, .int .i64 0] 38)) 29 #[.int .i64 0]
    simpa using q)
  have T0 := Lib.hid h
  have z2' := Lib.hid z2
  have hW2' := Lib.hid hW2
  clear hW2 z2 h hv
  go_enter_defers Tryz.func24, Tryz.ntmps24
  go_wp2_with fail
  rw [← hW2'.out]
  with_reducible refine (q1.out W2 (T0.out.below B2.out)).mono ?_
  rintro e u1 ⟨rfl, b1⟩
  have zu := Lib.hid (show w.heap.size + 2 ≤ u1.heap.size by have := b1.size; have := z2'.out; omega)
  replace H1 := Lib.hid (H1.out.below b1 H1.out.lt)
  replace H2 := Lib.hid (H2.out.below b1 H2.out.lt)
  replace B2 := Lib.hid (B2.out.trans (b1.mono B2.out.size))
  clear b1 q1 hW2'
  obtain ⟨W4, hW4⟩ : ∃ W4, W4 = u1.alloc (.cells #[.slice a n cp, .string s] 81) := ⟨_, rfl⟩
  have b4 : Below u1.heap.size u1 W4 := by rw [hW4]; exact box_below _ _ _
  have RD : PRd w u1.heap.size a n cp l s W4 := ⟨by rw [hW4]; exact Holds.new _ _ _, by have := zu.out; omega, B2.out.trans (b4.mono B2.out.size), T0.out, hs'.out⟩
  have q := Lib.hid (prstmt w u1.heap.size a n cp l s W4 RD hl'.out)
  have b4s : u1.heap.size < W4.heap.size := RD.blk.lt
  replace H1 := Lib.hid (H1.out.below b4 H1.out.lt)
  replace H2 := Lib.hid (H2.out.below b4 H2.out.lt)
  replace B2 := Lib.hid (B2.out.trans (b4.mono B2.out.size))
  have hW4' := Lib.hid hW4
  have b4s' := Lib.hid b4s
  rw [hR] at q
  clear hW4 b4 RD b4s hR
  go_wp2_with fail
  rw [← hW4'.out]
  clear hW4'
  refine q.out.mono ?_
  rintro e w5 ⟨rfl, hb⟩
  have hu := zu.out
  have hW := b4s'.out
  replace H1 := Lib.hid (H1.out.belowE hb H1.out.lt (by simp; omega))
  replace H2 := Lib.hid (H2.out.belowE hb H2.out.lt (by simp; omega))
  replace B2 := Lib.hid (B2.out.trans (BelowE.none ((hb.mono B2.out.size).less (Y := []) (fun x hx hl => by simp at hx; omega))))
  clear hb q
  go_wp2_with fail
  refine leaves_cons (f := 48) (args := #[.pointer (some ⟨w.heap.size, 0, none⟩), .pointer (some ⟨w.heap.size + 1, 0, none⟩)]) (by simp) (by simp [go_sem]) ?_
  refine (caught_pparse w.heap.size (w.heap.size + 1) _ _ _ _ _ _ [] w5 H1.out H2.out (by omega)).mono ?_
  rintro e u' w9 ⟨rfl, rfl, m1, m2, m3⟩
  simp [Leaves, settle]
  exact ⟨_, pparse_results _ _ w.heap.size (w.heap.size + 1) 0 0 0 0 0 111 rfl rfl m1 m2, rfl, B2.out.trans (BelowE.none ((m3.mono B2.out.size).less (Y := []) (fun x hx hl => by simp at hx; omega)))⟩
set_option maxRecDepth 100000 in
set_option maxHeartbeats 2000000 in
theorem parse_err (a : Option Addr) (n cp : Nat) (l : List ByteArray) (s : ByteArray) (k x y c d : Int) (u : ByteArray) (hv : varsB l = true) (hs : s.size ≤ 256) (hR : stmtR l s = some ((k, x, y, c, d), u)) (hE : ¬ showE l k x y c d = 0) (w : World) (ht : Tab w) (h : TT w a n cp l) :
    Calls Tryz.prog 24 #[.slice a n cp, .string s] w (Gives (.tuple #[.agg #[.int .i64 0, .int .i64 0, .int .i64 0, .int .i64 0, .int .i64 0], .int .i64 111]) w) := by
  have qs := Lib.hid (fun W hW hT => pshow_any a n cp l k x y c d W hW hT)
  generalize showP l k x y c d = P at *
  generalize showE l k x y c d = EE at *
  have hmf : ∀ (fn : Fn) (first cap : Array Value) (w : World), (Instr.makeFunc fn first cap).run Tryz.prog w = .ok (.func fn first cap) w := fun _ _ _ _ => rfl
  have hl8 := vars_len hv
  have hs1 : ¬ (256 : Int) < (s.size : Nat) := by omega
  have hs' := Lib.hid hs
  have hl' := Lib.hid hl8
  have Tb := Lib.hid ht
  clear hs hl8 ht
  have q1 := Lib.hid (fun W hW => rightVars_any a n cp l W hW)
  rw [hv] at q1
  obtain ⟨W2, hW2⟩ : ∃ W2, W2 = ((w.alloc (.cells #[.int .i64 0, .int .i64 0, .int .i64 0, .int .i64 0, .int .i64 0] 38)).alloc (.cells #[.int .i64 0] 29)) := ⟨_, rfl⟩
  have z2 : W2.heap.size = w.heap.size + 2 := by rw [hW2]; simp
  have B2 := Lib.hid (show Below w.heap.size w W2 by rw [hW2]; exact ((Below.refl _ _).alloc (Nat.le_refl _) _).alloc (by simp) _)
  have H1 : Hid (Holds W2 w.heap.size 38 #[.int .i64 0, .int .i64 0, .int .i64 0, .int .i64 0, .int .i64 0]) := Lib.hid (by rw [hW2]; exact (Holds.new w _ _).alloc _)
  have H2 : Hid (Holds W2 (w.heap.size + 1) 29 #[.int .i64 0]) := Lib.hid (by
    rw [hW2]
    have q := Holds.new (w.alloc (.cells #[.int .i64 0, .int .i64 0, .int .i64 0, .int .i64 0, .int .i64 0] 38)) 29 #[.int .i64 0]
    simpa using q)
  have T0 := Lib.hid h
  have z2' := Lib.hid z2
  have hW2' := Lib.hid hW2
  clear hW2 z2 h hv
  go_enter_defers Tryz.func24, Tryz.ntmps24
  go_wp2_with fail
  rw [← hW2'.out]
  with_reducible refine (q1.out W2 (T0.out.below B2.out)).mono ?_
  rintro e u1 ⟨rfl, b1⟩
  have zu := Lib.hid (show w.heap.size + 2 ≤ u1.heap.size by have := b1.size; have := z2'.out; omega)
  replace H1 := Lib.hid (H1.out.below b1 H1.out.lt)
  replace H2 := Lib.hid (H2.out.below b1 H2.out.lt)
  replace B2 := Lib.hid (B2.out.trans (b1.mono B2.out.size))
  clear b1 q1 hW2'
  obtain ⟨W4, hW4⟩ : ∃ W4, W4 = u1.alloc (.cells #[.slice a n cp, .string s] 81) := ⟨_, rfl⟩
  have b4 : Below u1.heap.size u1 W4 := by rw [hW4]; exact box_below _ _ _
  have RD : PRd w u1.heap.size a n cp l s W4 := ⟨by rw [hW4]; exact Holds.new _ _ _, by have := zu.out; omega, B2.out.trans (b4.mono B2.out.size), T0.out, hs'.out⟩
  have q := Lib.hid (prstmt w u1.heap.size a n cp l s W4 RD hl'.out)
  have b4s : u1.heap.size < W4.heap.size := RD.blk.lt
  replace H1 := Lib.hid (H1.out.below b4 H1.out.lt)
  replace H2 := Lib.hid (H2.out.below b4 H2.out.lt)
  replace B2 := Lib.hid (B2.out.trans (b4.mono B2.out.size))
  have hW4' := Lib.hid hW4
  have b4s' := Lib.hid b4s
  rw [hR] at q
  clear hW4 b4 RD b4s hR
  go_wp2_with fail
  rw [← hW4'.out]
  clear hW4'
  refine q.out.mono ?_
  rintro e w5 ⟨he, hr, hb⟩
  replace he := show e = .returned (.agg #[.int .i64 k, .int .i64 x, .int .i64 y, .int .i64 c, .int .i64 d]) from he
  subst he
  have hu := zu.out
  have hW := b4s'.out
  replace H1 := Lib.hid (H1.out.belowE hb H1.out.lt (by simp; omega))
  replace H2 := Lib.hid (H2.out.belowE hb H2.out.lt (by simp; omega))
  replace B2 := Lib.hid (B2.out.trans (BelowE.none ((hb.mono B2.out.size).less (Y := []) (fun x hx hl => by simp at hx; omega))))
  clear hr hb q
  obtain ⟨w6, hw6⟩ : ∃ w6, w6 = (((((w5.setCell ⟨w.heap.size, 0, none⟩ (.int .i64 k)).setCell ⟨w.heap.size, 1, none⟩ (.int .i64 x)).setCell ⟨w.heap.size, 2, none⟩ (.int .i64 y)).setCell ⟨w.heap.size, 3, none⟩ (.int .i64 c)).setCell ⟨w.heap.size, 4, none⟩ (.int .i64 d)) := ⟨_, rfl⟩
  have M1 : Hid (Holds w6 w.heap.size 38 #[.int .i64 k, .int .i64 x, .int .i64 y, .int .i64 c, .int .i64 d]) := Lib.hid (by rw [hw6]; exact set5 H1.out k x y c d)
  have M2 : Hid (Holds w6 (w.heap.size + 1) 29 #[.int .i64 0]) := Lib.hid (by rw [hw6]; exact far5 H2.out (by omega) k x y c d)
  have MB : Hid (Below w.heap.size w w6) := Lib.hid (by
    rw [hw6]
    exact B2.out.trans (BelowE.none (((bel5 (X := [w.heap.size]) (BelowE.refl _ _ _) (by simp) k x y c d).mono B2.out.size).less (Y := []) (fun x hx hl => by simp at hx; omega))))
  have c10 := H1.out.cell 0
  have f10 := H1.out.free 0
  have c11 := H1.out.cell 1
  have f11 := H1.out.free 1
  have c12 := H1.out.cell 2
  have f12 := H1.out.free 2
  have c13 := H1.out.cell 3
  have f13 := H1.out.free 3
  have c14 := H1.out.cell 4
  have f14 := H1.out.free 4
  have c20 := H2.out.cell 0
  have f20 := H2.out.free 0
  simp at c10 c11 c12 c13 c14 c20
  have x0 := M1.out.cell 0
  have x1 := M1.out.cell 1
  have x2 := M1.out.cell 2
  have x3 := M1.out.cell 3
  have x4 := M1.out.cell 4
  simp at x0 x1 x2 x3 x4
  rw [hw6] at x0 x1 x2 x3 x4
  have hw6' := Lib.hid hw6
  clear hw6
  go_wp2_with fail
  rw [← hw6'.out]
  clear c10 c11 c12 c13 c14 c20 f10 f11 f12 f13 f14 f20 x0 x1 x2 x3 x4
  with_reducible refine (qs.out w6 (Tb.out.on MB.out) (T0.out.below MB.out)).mono ?_
  rintro e w7 ⟨rfl, b7⟩
  have N1 := Lib.hid (M1.out.below b7 M1.out.lt)
  have N2 := Lib.hid (M2.out.below b7 M2.out.lt)
  have NB := Lib.hid (MB.out.trans (b7.mono MB.out.size))
  clear b7 qs hw6' M1 M2 MB
  have hne : (EE == 0) = false := by simp [hE]
  go_wp2_with fail
  refine leaves_cons (f := 48) (args := #[.pointer (some ⟨w.heap.size, 0, none⟩), .pointer (some ⟨w.heap.size + 1, 0, none⟩)]) (by simp) (by simp [go_sem]) ?_
  refine (caught_pparse w.heap.size (w.heap.size + 1) _ _ _ _ _ _ [] w7 N1.out N2.out (by omega)).mono ?_
  rintro e u' w9 ⟨rfl, rfl, m1, m2, m3⟩
  simp [Leaves, settle]
  exact ⟨_, pparse_results _ _ w.heap.size (w.heap.size + 1) 0 0 0 0 0 111 rfl rfl m1 m2, rfl, NB.out.trans (BelowE.none ((m3.mono NB.out.size).less (Y := []) (fun x hx hl => by simp at hx; omega)))⟩
set_option maxRecDepth 100000 in
set_option maxHeartbeats 2000000 in
theorem parse_other (a : Option Addr) (n cp : Nat) (l : List ByteArray) (s : ByteArray) (k x y c d : Int) (u : ByteArray) (hv : varsB l = true) (hs : s.size ≤ 256) (hR : stmtR l s = some ((k, x, y, c, d), u)) (hE : showE l k x y c d = 0) (hP : ¬ showP l k x y c d = s) (w : World) (ht : Tab w) (h : TT w a n cp l) :
    Calls Tryz.prog 24 #[.slice a n cp, .string s] w (Gives (.tuple #[.agg #[.int .i64 0, .int .i64 0, .int .i64 0, .int .i64 0, .int .i64 0], .int .i64 111]) w) := by
  have qs := Lib.hid (fun W hW hT => pshow_any a n cp l k x y c d W hW hT)
  generalize showP l k x y c d = P at *
  generalize showE l k x y c d = EE at *
  have hmf : ∀ (fn : Fn) (first cap : Array Value) (w : World), (Instr.makeFunc fn first cap).run Tryz.prog w = .ok (.func fn first cap) w := fun _ _ _ _ => rfl
  have hl8 := vars_len hv
  have hs1 : ¬ (256 : Int) < (s.size : Nat) := by omega
  have hs' := Lib.hid hs
  have hl' := Lib.hid hl8
  have Tb := Lib.hid ht
  clear hs hl8 ht
  have q1 := Lib.hid (fun W hW => rightVars_any a n cp l W hW)
  rw [hv] at q1
  obtain ⟨W2, hW2⟩ : ∃ W2, W2 = ((w.alloc (.cells #[.int .i64 0, .int .i64 0, .int .i64 0, .int .i64 0, .int .i64 0] 38)).alloc (.cells #[.int .i64 0] 29)) := ⟨_, rfl⟩
  have z2 : W2.heap.size = w.heap.size + 2 := by rw [hW2]; simp
  have B2 := Lib.hid (show Below w.heap.size w W2 by rw [hW2]; exact ((Below.refl _ _).alloc (Nat.le_refl _) _).alloc (by simp) _)
  have H1 : Hid (Holds W2 w.heap.size 38 #[.int .i64 0, .int .i64 0, .int .i64 0, .int .i64 0, .int .i64 0]) := Lib.hid (by rw [hW2]; exact (Holds.new w _ _).alloc _)
  have H2 : Hid (Holds W2 (w.heap.size + 1) 29 #[.int .i64 0]) := Lib.hid (by
    rw [hW2]
    have q := Holds.new (w.alloc (.cells #[.int .i64 0, .int .i64 0, .int .i64 0, .int .i64 0, .int .i64 0] 38)) 29 #[.int .i64 0]
    simpa using q)
  have T0 := Lib.hid h
  have z2' := Lib.hid z2
  have hW2' := Lib.hid hW2
  clear hW2 z2 h hv
  go_enter_defers Tryz.func24, Tryz.ntmps24
  go_wp2_with fail
  rw [← hW2'.out]
  with_reducible refine (q1.out W2 (T0.out.below B2.out)).mono ?_
  rintro e u1 ⟨rfl, b1⟩
  have zu := Lib.hid (show w.heap.size + 2 ≤ u1.heap.size by have := b1.size; have := z2'.out; omega)
  replace H1 := Lib.hid (H1.out.below b1 H1.out.lt)
  replace H2 := Lib.hid (H2.out.below b1 H2.out.lt)
  replace B2 := Lib.hid (B2.out.trans (b1.mono B2.out.size))
  clear b1 q1 hW2'
  obtain ⟨W4, hW4⟩ : ∃ W4, W4 = u1.alloc (.cells #[.slice a n cp, .string s] 81) := ⟨_, rfl⟩
  have b4 : Below u1.heap.size u1 W4 := by rw [hW4]; exact box_below _ _ _
  have RD : PRd w u1.heap.size a n cp l s W4 := ⟨by rw [hW4]; exact Holds.new _ _ _, by have := zu.out; omega, B2.out.trans (b4.mono B2.out.size), T0.out, hs'.out⟩
  have q := Lib.hid (prstmt w u1.heap.size a n cp l s W4 RD hl'.out)
  have b4s : u1.heap.size < W4.heap.size := RD.blk.lt
  replace H1 := Lib.hid (H1.out.below b4 H1.out.lt)
  replace H2 := Lib.hid (H2.out.below b4 H2.out.lt)
  replace B2 := Lib.hid (B2.out.trans (b4.mono B2.out.size))
  have hW4' := Lib.hid hW4
  have b4s' := Lib.hid b4s
  rw [hR] at q
  clear hW4 b4 RD b4s hR
  go_wp2_with fail
  rw [← hW4'.out]
  clear hW4'
  refine q.out.mono ?_
  rintro e w5 ⟨he, hr, hb⟩
  replace he := show e = .returned (.agg #[.int .i64 k, .int .i64 x, .int .i64 y, .int .i64 c, .int .i64 d]) from he
  subst he
  have hu := zu.out
  have hW := b4s'.out
  replace H1 := Lib.hid (H1.out.belowE hb H1.out.lt (by simp; omega))
  replace H2 := Lib.hid (H2.out.belowE hb H2.out.lt (by simp; omega))
  replace B2 := Lib.hid (B2.out.trans (BelowE.none ((hb.mono B2.out.size).less (Y := []) (fun x hx hl => by simp at hx; omega))))
  clear hr hb q
  obtain ⟨w6, hw6⟩ : ∃ w6, w6 = (((((w5.setCell ⟨w.heap.size, 0, none⟩ (.int .i64 k)).setCell ⟨w.heap.size, 1, none⟩ (.int .i64 x)).setCell ⟨w.heap.size, 2, none⟩ (.int .i64 y)).setCell ⟨w.heap.size, 3, none⟩ (.int .i64 c)).setCell ⟨w.heap.size, 4, none⟩ (.int .i64 d)) := ⟨_, rfl⟩
  have M1 : Hid (Holds w6 w.heap.size 38 #[.int .i64 k, .int .i64 x, .int .i64 y, .int .i64 c, .int .i64 d]) := Lib.hid (by rw [hw6]; exact set5 H1.out k x y c d)
  have M2 : Hid (Holds w6 (w.heap.size + 1) 29 #[.int .i64 0]) := Lib.hid (by rw [hw6]; exact far5 H2.out (by omega) k x y c d)
  have MB : Hid (Below w.heap.size w w6) := Lib.hid (by
    rw [hw6]
    exact B2.out.trans (BelowE.none (((bel5 (X := [w.heap.size]) (BelowE.refl _ _ _) (by simp) k x y c d).mono B2.out.size).less (Y := []) (fun x hx hl => by simp at hx; omega))))
  have c10 := H1.out.cell 0
  have f10 := H1.out.free 0
  have c11 := H1.out.cell 1
  have f11 := H1.out.free 1
  have c12 := H1.out.cell 2
  have f12 := H1.out.free 2
  have c13 := H1.out.cell 3
  have f13 := H1.out.free 3
  have c14 := H1.out.cell 4
  have f14 := H1.out.free 4
  have c20 := H2.out.cell 0
  have f20 := H2.out.free 0
  simp at c10 c11 c12 c13 c14 c20
  have x0 := M1.out.cell 0
  have x1 := M1.out.cell 1
  have x2 := M1.out.cell 2
  have x3 := M1.out.cell 3
  have x4 := M1.out.cell 4
  simp at x0 x1 x2 x3 x4
  rw [hw6] at x0 x1 x2 x3 x4
  have hw6' := Lib.hid hw6
  clear hw6
  go_wp2_with fail
  rw [← hw6'.out]
  clear c10 c11 c12 c13 c14 c20 f10 f11 f12 f13 f14 f20 x0 x1 x2 x3 x4
  with_reducible refine (qs.out w6 (Tb.out.on MB.out) (T0.out.below MB.out)).mono ?_
  rintro e w7 ⟨rfl, b7⟩
  have N1 := Lib.hid (M1.out.below b7 M1.out.lt)
  have N2 := Lib.hid (M2.out.below b7 M2.out.lt)
  have NB := Lib.hid (MB.out.trans (b7.mono MB.out.size))
  clear b7 qs hw6' M1 M2 MB
  subst hE
  have hnp : (P.toList == s.toList) = false := by rw [Lib.bytes_beq_false_iff]; exact hP
  go_wp2_with fail
  refine leaves_cons (f := 48) (args := #[.pointer (some ⟨w.heap.size, 0, none⟩), .pointer (some ⟨w.heap.size + 1, 0, none⟩)]) (by simp) (by simp [go_sem]) ?_
  refine (caught_pparse w.heap.size (w.heap.size + 1) _ _ _ _ _ _ [] w7 N1.out N2.out (by omega)).mono ?_
  rintro e u' w9 ⟨rfl, rfl, m1, m2, m3⟩
  simp [Leaves, settle]
  exact ⟨_, pparse_results _ _ w.heap.size (w.heap.size + 1) 0 0 0 0 0 111 rfl rfl m1 m2, rfl, NB.out.trans (BelowE.none ((m3.mono NB.out.size).less (Y := []) (fun x hx hl => by simp at hx; omega)))⟩
set_option maxRecDepth 100000 in
set_option maxHeartbeats 2000000 in
theorem parse_ok' (a : Option Addr) (n cp : Nat) (l : List ByteArray) (s : ByteArray) (k x y c d : Int) (u : ByteArray) (hv : varsB l = true) (hs : s.size ≤ 256) (hR : stmtR l s = some ((k, x, y, c, d), u)) (hE : showE l k x y c d = 0) (hP : showP l k x y c d = s) (w : World) (ht : Tab w) (h : TT w a n cp l) :
    Calls Tryz.prog 24 #[.slice a n cp, .string s] w (Gives (.tuple #[.agg #[.int .i64 k, .int .i64 x, .int .i64 y, .int .i64 c, .int .i64 d], .int .i64 0]) w) := by
  have qs := Lib.hid (fun W hW hT => pshow_any a n cp l k x y c d W hW hT)
  generalize showP l k x y c d = P at *
  generalize showE l k x y c d = EE at *
  have hmf : ∀ (fn : Fn) (first cap : Array Value) (w : World), (Instr.makeFunc fn first cap).run Tryz.prog w = .ok (.func fn first cap) w := fun _ _ _ _ => rfl
  have hl8 := vars_len hv
  have hs1 : ¬ (256 : Int) < (s.size : Nat) := by omega
  have hs' := Lib.hid hs
  have hl' := Lib.hid hl8
  have Tb := Lib.hid ht
  clear hs hl8 ht
  have q1 := Lib.hid (fun W hW => rightVars_any a n cp l W hW)
  rw [hv] at q1
  obtain ⟨W2, hW2⟩ : ∃ W2, W2 = ((w.alloc (.cells #[.int .i64 0, .int .i64 0, .int .i64 0, .int .i64 0, .int .i64 0] 38)).alloc (.cells #[.int .i64 0] 29)) := ⟨_, rfl⟩
  have z2 : W2.heap.size = w.heap.size + 2 := by rw [hW2]; simp
  have B2 := Lib.hid (show Below w.heap.size w W2 by rw [hW2]; exact ((Below.refl _ _).alloc (Nat.le_refl _) _).alloc (by simp) _)
  have H1 : Hid (Holds W2 w.heap.size 38 #[.int .i64 0, .int .i64 0, .int .i64 0, .int .i64 0, .int .i64 0]) := Lib.hid (by rw [hW2]; exact (Holds.new w _ _).alloc _)
  have H2 : Hid (Holds W2 (w.heap.size + 1) 29 #[.int .i64 0]) := Lib.hid (by
    rw [hW2]
    have q := Holds.new (w.alloc (.cells #[.int .i64 0, .int .i64 0, .int .i64 0, .int .i64 0, .int .i64 0] 38)) 29 #[.int .i64 0]
    simpa using q)
  have T0 := Lib.hid h
  have z2' := Lib.hid z2
  have hW2' := Lib.hid hW2
  clear hW2 z2 h hv
  go_enter_defers Tryz.func24, Tryz.ntmps24
  go_wp2_with fail
  rw [← hW2'.out]
  with_reducible refine (q1.out W2 (T0.out.below B2.out)).mono ?_
  rintro e u1 ⟨rfl, b1⟩
  have zu := Lib.hid (show w.heap.size + 2 ≤ u1.heap.size by have := b1.size; have := z2'.out; omega)
  replace H1 := Lib.hid (H1.out.below b1 H1.out.lt)
  replace H2 := Lib.hid (H2.out.below b1 H2.out.lt)
  replace B2 := Lib.hid (B2.out.trans (b1.mono B2.out.size))
  clear b1 q1 hW2'
  obtain ⟨W4, hW4⟩ : ∃ W4, W4 = u1.alloc (.cells #[.slice a n cp, .string s] 81) := ⟨_, rfl⟩
  have b4 : Below u1.heap.size u1 W4 := by rw [hW4]; exact box_below _ _ _
  have RD : PRd w u1.heap.size a n cp l s W4 := ⟨by rw [hW4]; exact Holds.new _ _ _, by have := zu.out; omega, B2.out.trans (b4.mono B2.out.size), T0.out, hs'.out⟩
  have q := Lib.hid (prstmt w u1.heap.size a n cp l s W4 RD hl'.out)
  have b4s : u1.heap.size < W4.heap.size := RD.blk.lt
  replace H1 := Lib.hid (H1.out.below b4 H1.out.lt)
  replace H2 := Lib.hid (H2.out.below b4 H2.out.lt)
  replace B2 := Lib.hid (B2.out.trans (b4.mono B2.out.size))
  have hW4' := Lib.hid hW4
  have b4s' := Lib.hid b4s
  rw [hR] at q
  clear hW4 b4 RD b4s hR
  go_wp2_with fail
  rw [← hW4'.out]
  clear hW4'
  refine q.out.mono ?_
  rintro e w5 ⟨he, hr, hb⟩
  replace he := show e = .returned (.agg #[.int .i64 k, .int .i64 x, .int .i64 y, .int .i64 c, .int .i64 d]) from he
  subst he
  have hu := zu.out
  have hW := b4s'.out
  replace H1 := Lib.hid (H1.out.belowE hb H1.out.lt (by simp; omega))
  replace H2 := Lib.hid (H2.out.belowE hb H2.out.lt (by simp; omega))
  replace B2 := Lib.hid (B2.out.trans (BelowE.none ((hb.mono B2.out.size).less (Y := []) (fun x hx hl => by simp at hx; omega))))
  clear hr hb q
  obtain ⟨w6, hw6⟩ : ∃ w6, w6 = (((((w5.setCell ⟨w.heap.size, 0, none⟩ (.int .i64 k)).setCell ⟨w.heap.size, 1, none⟩ (.int .i64 x)).setCell ⟨w.heap.size, 2, none⟩ (.int .i64 y)).setCell ⟨w.heap.size, 3, none⟩ (.int .i64 c)).setCell ⟨w.heap.size, 4, none⟩ (.int .i64 d)) := ⟨_, rfl⟩
  have M1 : Hid (Holds w6 w.heap.size 38 #[.int .i64 k, .int .i64 x, .int .i64 y, .int .i64 c, .int .i64 d]) := Lib.hid (by rw [hw6]; exact set5 H1.out k x y c d)
  have M2 : Hid (Holds w6 (w.heap.size + 1) 29 #[.int .i64 0]) := Lib.hid (by rw [hw6]; exact far5 H2.out (by omega) k x y c d)
  have MB : Hid (Below w.heap.size w w6) := Lib.hid (by
    rw [hw6]
    exact B2.out.trans (BelowE.none (((bel5 (X := [w.heap.size]) (BelowE.refl _ _ _) (by simp) k x y c d).mono B2.out.size).less (Y := []) (fun x hx hl => by simp at hx; omega))))
  have c10 := H1.out.cell 0
  have f10 := H1.out.free 0
  have c11 := H1.out.cell 1
  have f11 := H1.out.free 1
  have c12 := H1.out.cell 2
  have f12 := H1.out.free 2
  have c13 := H1.out.cell 3
  have f13 := H1.out.free 3
  have c14 := H1.out.cell 4
  have f14 := H1.out.free 4
  have c20 := H2.out.cell 0
  have f20 := H2.out.free 0
  simp at c10 c11 c12 c13 c14 c20
  have x0 := M1.out.cell 0
  have x1 := M1.out.cell 1
  have x2 := M1.out.cell 2
  have x3 := M1.out.cell 3
  have x4 := M1.out.cell 4
  simp at x0 x1 x2 x3 x4
  rw [hw6] at x0 x1 x2 x3 x4
  have hw6' := Lib.hid hw6
  clear hw6
  go_wp2_with fail
  rw [← hw6'.out]
  clear c10 c11 c12 c13 c14 c20 f10 f11 f12 f13 f14 f20 x0 x1 x2 x3 x4
  with_reducible refine (qs.out w6 (Tb.out.on MB.out) (T0.out.below MB.out)).mono ?_
  rintro e w7 ⟨rfl, b7⟩
  have N1 := Lib.hid (M1.out.below b7 M1.out.lt)
  have N2 := Lib.hid (M2.out.below b7 M2.out.lt)
  have NB := Lib.hid (MB.out.trans (b7.mono MB.out.size))
  clear b7 qs hw6' M1 M2 MB
  subst hE
  subst hP
  have c10 := N1.out.cell 0
  have f10 := N1.out.free 0
  have c11 := N1.out.cell 1
  have f11 := N1.out.free 1
  have c12 := N1.out.cell 2
  have f12 := N1.out.free 2
  have c13 := N1.out.cell 3
  have f13 := N1.out.free 3
  have c14 := N1.out.cell 4
  have f14 := N1.out.free 4
  have c20 := N2.out.cell 0
  have f20 := N2.out.free 0
  simp at c10 c11 c12 c13 c14 c20
  go_wp2_with fail
  refine leaves_cons (f := 48) (args := #[.pointer (some ⟨w.heap.size, 0, none⟩), .pointer (some ⟨w.heap.size + 1, 0, none⟩)]) (by simp) (by simp [go_sem]) ?_
  refine (idle_pparse _ _ _).mono ?_
  rintro e u' w8 ⟨rfl, rfl, rfl⟩
  simp only [Leaves, settle]
  have m1 := (set5 N1.out k x y c d).far (p := ⟨w.heap.size + 1, 0, none⟩) (by show w.heap.size ≠ w.heap.size + 1; omega) (.int .i64 0)
  have m2 := (far5 N2.out (show w.heap.size + 1 ≠ w.heap.size by omega) k x y c d).set 0 (.int .i64 0)
  have m3 : BelowE [w.heap.size, w.heap.size + 1] w7.heap.size w7 ((((((w7.setCell ⟨w.heap.size, 0, none⟩ (.int .i64 k)).setCell ⟨w.heap.size, 1, none⟩ (.int .i64 x)).setCell ⟨w.heap.size, 2, none⟩ (.int .i64 y)).setCell ⟨w.heap.size, 3, none⟩ (.int .i64 c)).setCell ⟨w.heap.size, 4, none⟩ (.int .i64 d)).setCell ⟨w.heap.size + 1, 0, none⟩ (.int .i64 0)) := (bel5 (BelowE.refl _ _ _) (by simp) k x y c d).setIn (p := ⟨w.heap.size + 1, 0, none⟩) (by simp) _
  exact ⟨_, pparse_results _ _ w.heap.size (w.heap.size + 1) k x y c d 0 rfl rfl m1 (by simpa using m2), rfl, NB.out.trans (BelowE.none ((m3.mono NB.out.size).less (Y := []) (fun x hx hl => by simp at hx; omega)))⟩
theorem pparse_any (a : Option Addr) (n cp : Nat) (l : List ByteArray) (s : ByteArray) (w : World) (ht : Tab w) (h : TT w a n cp l) :
    Calls Tryz.prog 24 #[.slice a n cp, .string s] w (Gives (stE (parsedP l s)) w) := by
  unfold parsedP
  cases hv : varsB l
  · exact parse_vars a n cp l s hv w h
  · rw [if_pos rfl]
    by_cases hs : s.size ≤ 256
    · rw [if_pos hs]
      cases hR : stmtR l s with
      | none => exact parse_panic a n cp l s hv hs hR w ht h
      | some p =>
        obtain ⟨⟨k, x, y, c, d⟩, u⟩ := p
        by_cases hE : showE l k x y c d = 0
        · by_cases hP : showP l k x y c d = s
          · simp only [hE, hP, and_self, if_true]
            exact parse_ok' a n cp l s k x y c d u hv hs hR hE hP w ht h
          · simp only [hE, hP, and_false, if_false]
            exact parse_other a n cp l s k x y c d u hv hs hR hE hP w ht h
        · simp only [hE, false_and, if_false]
          exact parse_err a n cp l s k x y c d u hv hs hR hE w ht h
    · rw [if_neg hs]
      exact parse_long a n cp l s hv hs w h
end Go.Proofs.YtgeliikfgnkppaaGreatDoor
namespace Go.Proofs.YtgeliikfgnkppaaGreatDoor
set_option linter.unusedVariables false
set_option linter.unusedSimpArgs false
def mo (c : UInt8) : Bool := moreI (c.toNat : Int)
def nameish (s : ByteArray) : Prop := ∀ c ∈ s.data.toList, mo c = true
def stopR (s : ByteArray) : Prop := ∀ c, s.data.toList.head? = some c → mo c = false
theorem app_list (a b : ByteArray) : (a ++ b).data.toList = a.data.toList ++ b.data.toList := by rw [ByteArray.data_append, Array.toList_append]
theorem bytes_ext {a b : ByteArray} (h : a.data.toList = b.data.toList) : a = b := ByteArray.ext (Array.toList_inj.1 h)
theorem nsz_list (s : ByteArray) : nsz s = (s.data.toList.takeWhile mo).length := by
  unfold nsz codes
  rw [List.takeWhile_map, List.length_map]
  rfl
theorem take_tw {p : UInt8 → Bool} : ∀ l : List UInt8, l.take (l.takeWhile p).length = l.takeWhile p
  | [] => rfl
  | c :: l => by
    by_cases h : p c = true
    · simp [h, take_tw l]
    · simp [h]
theorem drop_tw {p : UInt8 → Bool} : ∀ l : List UInt8, l.drop (l.takeWhile p).length = l.dropWhile p
  | [] => rfl
  | c :: l => by
    by_cases h : p c = true
    · simp [h, drop_tw l]
    · simp [h]
theorem wordW_list (s : ByteArray) : (wordW s).data.toList = s.data.toList.takeWhile mo := by
  unfold wordW
  rw [ByteArray.data_extract, Array.toList_extract, nsz_list]
  simp [List.extract, take_tw]
theorem wordR_list (s : ByteArray) : (wordR s).data.toList = s.data.toList.dropWhile mo := by
  unfold wordR
  rw [ByteArray.data_extract, Array.toList_extract, nsz_list]
  simp only [List.extract]
  rw [drop_tw]
  apply List.take_of_length_le
  have h1 := congrArg List.length (List.takeWhile_append_dropWhile (p := mo) (l := s.data.toList))
  rw [List.length_append] at h1
  have h2 : s.data.toList.length = s.size := Array.length_toList
  omega
theorem tw_stop {R : List UInt8} (h : ∀ c, R.head? = some c → mo c = false) : R.takeWhile mo = [] := by
  cases R with
  | nil => rfl
  | cons c R => simp [h c rfl]
theorem dw_stop {R : List UInt8} (h : ∀ c, R.head? = some c → mo c = false) : R.dropWhile mo = R := by
  cases R with
  | nil => rfl
  | cons c R => simp [h c rfl]
theorem word_app {N R : ByteArray} (hN : nameish N) (hR : stopR R) : wordW (N ++ R) = N ∧ wordR (N ++ R) = R := by
  constructor
  · apply bytes_ext
    rw [wordW_list, app_list, List.takeWhile_append_of_pos hN, tw_stop hR, List.append_nil]
  · apply bytes_ext
    rw [wordR_list, app_list, List.dropWhile_append_of_pos hN, dw_stop hR]
theorem nsz_app {N R : ByteArray} (hN : nameish N) (hR : stopR R) : nsz (N ++ R) = N.size := by
  rw [nsz_list, app_list, List.takeWhile_append_of_pos hN, tw_stop hR, List.append_nil, Array.length_toList]
  rfl
theorem stop_nil : stopR ⟨#[]⟩ := by intro c h; cases h
theorem stop_app {a b : ByteArray} (ha : a.data.toList ≠ []) (h : stopR a) : stopR (a ++ b) := by
  intro c hc
  rw [app_list] at hc
  cases hl : a.data.toList with
  | nil => exact absurd hl ha
  | cons x l =>
    rw [hl] at hc
    simp at hc
    subst hc
    exact h x (by rw [hl]; rfl)
theorem stop_sp {t : List UInt8} : stopR ⟨(32 :: t).toArray⟩ := by
  intro c h
  simp at h
  subst h
  decide
theorem has_list (s p : ByteArray) : hasB s p = p.data.toList.isPrefixOf s.data.toList := rfl
theorem has_app (p t : ByteArray) : hasB (p ++ t) p = true := by rw [has_list, app_list]; simp
theorem cut_app (p t : ByteArray) : cutB (p ++ t) p = t := by
  apply bytes_ext
  unfold cutB Lib.trimPrefix
  have h : Lib.hasPrefix (p ++ t).data.toList p.data.toList = true := has_app p t
  rw [if_pos h, app_list]
  simp
theorem cut_no {s p : ByteArray} (h : hasB s p = false) : cutB s p = s := by
  apply bytes_ext
  unfold cutB Lib.trimPrefix
  have h' : Lib.hasPrefix s.data.toList p.data.toList = false := h
  rw [h']
  simp
theorem must_app (p t : ByteArray) : mustO (p ++ t) p = some t := by unfold mustO; rw [if_pos (has_app p t), cut_app]
structure NF (l : List ByteArray) (x : Int) : Prop where
  word : nameish (nmV l x)
  beg : begB (nmV l x) = true
  free : takB (nmV l x) = false
  num : numR l (nmV l x) = some x
theorem name_facts {l : List ByteArray} (hv : varsB l = true) {x : Int} (h1 : 1 ≤ x) (h2 : x ≤ (l.length : Int)) : NF l x := by
  have hi : x.toNat - 1 < l.length := by omega
  have hm : nmV l x ∈ l := by unfold nmV; simp [List.getD, hi]
  obtain ⟨g1, g2⟩ := vars_name hv hm
  have g3 := g1
  unfold nameB at g3
  simp only [Bool.and_eq_true, decide_eq_true_eq] at g3
  refine ⟨?_, g3.2.1, g2, ?_⟩
  · have h3 := g3.2.2
    rw [nsz_list] at h3
    intro c hc
    have h4 : (nmV l x).data.toList.takeWhile mo = (nmV l x).data.toList := by
      apply List.IsPrefix.eq_of_length (List.takeWhile_prefix mo)
      rw [h3, Array.length_toList]; rfl
    have h5 := List.all_takeWhile (p := mo) (l := (nmV l x).data.toList)
    rw [h4] at h5
    exact List.all_eq_true.1 h5 c hc
  · unfold numR
    have h5 := hv
    unfold varsB at h5
    rw [Bool.and_eq_true, List.all_eq_true] at h5
    have h6 := h5.2 (x.toNat - 1) (List.mem_range.2 hi)
    unfold varB at h6
    simp only [Bool.and_eq_true, Bool.not_eq_true'] at h6
    have h7 := h6.2.2
    have hd : ∀ j, j < x.toNat - 1 → l.getD j ByteArray.empty ≠ nmV l x := by
      intro j hj e
      have : Lib.containsS (l.take (x.toNat - 1)) (l.getD (x.toNat - 1) e0) = true := by
        rw [Lib.containsS_iff]
        refine List.mem_of_getElem? (i := j) ?_
        rw [List.getElem?_take, if_pos hj]
        have e2 : l.getD j ByteArray.empty = l.getD (x.toNat - 1) e0 := e
        rw [← e2]
        simp [List.getD, show j < l.length by omega]
      rw [this] at h7
      cases h7
    have h8 : Lib.idxOfS l (nmV l x) = ((x.toNat - 1 : Nat) : Int) := by
      have := Lib.idxFromS_hit (nmV l x) l (x.toNat - 1) 0 hi rfl hd
      simpa [Lib.idxOfS] using this
    rw [h8, if_neg (by omega)]
    congr 1
    omega
theorem mo_dig {c : UInt8} (h : isDig c) : mo c = true := by
  unfold isDig at h
  unfold mo moreI
  rw [decide_eq_true (show (48 ≤ (c.toNat : Int) ∧ (c.toNat : Int) ≤ 57) by omega)]
  simp
theorem no_letter_dig {c : UInt8} (h : isDig c) : letterI (c.toNat : Int) = false := by
  unfold isDig at h
  unfold letterI
  rw [decide_eq_false]
  omega
theorem dig_facts (u : Nat) : (∀ b ∈ Lib.decDigits u, mo b = true) ∧ ∃ b, (Lib.decDigits u).head? = some b ∧ isDig b := by
  have h := (show_val u).2.1
  refine ⟨fun b hb => mo_dig (h.2.1 b hb), ?_⟩
  cases hl : Lib.decDigits u with
  | nil => exact absurd hl h.1
  | cons b l => exact ⟨b, rfl, h.2.1 b (by rw [hl]; simp)⟩
theorem show_neg {c : Int} (h0 : -1099511627776 ≤ c) (h1 : c < 0) : ∃ N, showV c = 45 :: N ∧ ∀ b ∈ N, mo b = true := by
  unfold showV
  rw [if_neg (by omega)]
  by_cases h2 : c = -1099511627776
  · rw [if_pos h2]
    exact ⟨infT, rfl, by decide⟩
  · rw [if_neg h2]
    unfold Lib.itoa
    rw [if_pos h1]
    exact ⟨_, rfl, (dig_facts _).1⟩
theorem show_pos {c : Int} (h0 : 0 ≤ c) : (∀ b ∈ showV c, mo b = true) ∧ (showV c = infT ∨ ∃ b, (showV c).head? = some b ∧ isDig b) := by
  unfold showV
  by_cases h1 : c = 1099511627776
  · rw [if_pos h1]
    exact ⟨by decide, .inl rfl⟩
  · rw [if_neg h1, if_neg (by omega)]
    unfold Lib.itoa
    rw [if_neg (by omega)]
    exact ⟨(dig_facts _).1, .inr (dig_facts _).2⟩
theorem head_ne {c : Int} (h0 : 0 ≤ c) (d : UInt8) (hd : ¬ isDig d) (hd2 : d ≠ 105) : (showV c).head? ≠ some d := by
  intro e
  rcases (show_pos h0).2 with h | ⟨b, hb, hbd⟩
  · rw [h] at e; simp [infT] at e; exact hd2 e.symm
  · rw [hb] at e
    obtain rfl := Option.some.inj e
    exact hd hbd
theorem no_prefix {s : List UInt8} {d : UInt8} {p : List UInt8} (h : s.head? ≠ some d) : (d :: p).isPrefixOf s = false := by
  cases s with
  | nil => rfl
  | cons x s =>
    have : (d == x) = false := by
      rw [beq_eq_false_iff_ne]
      intro e
      exact h (by rw [e]; rfl)
    simp [List.isPrefixOf, this]
theorem pos_ne {c : Int} (h0 : 0 ≤ c) : showV c ≠ [] := by
  intro e
  rcases (show_pos h0).2 with h | ⟨b, hb, _⟩
  · rw [e] at h; cases h
  · rw [e] at hb; cases hb
theorem head_app {a b : List UInt8} (h : a ≠ []) : (a ++ b).head? = a.head? := by
  cases a with
  | nil => exact absurd rfl h
  | cons x l => rfl
theorem vT_eq {c : Int} (h0 : -1099511627776 ≤ c) (h1 : c ≤ 1099511627776) : vT c = strB (showV c) := by unfold vT; rw [clip_id h0 h1]
theorem strB_list (l : List UInt8) : (strB l).data.toList = l := by simp [strB]
theorem val_back {c : Int} (h0 : -1099511627776 ≤ c) (h1 : c ≤ 1099511627776) : valR (strB (showV c)) = some c := by
  unfold valR parseE parseN
  rw [strB_list, parseV_show h0 h1]
  rfl
theorem no_dash {c : Int} (h0 : 0 ≤ c) (R : ByteArray) : hasB (strB (showV c) ++ R) dashB = false := by
  rw [has_list, app_list, strB_list]
  refine no_prefix ?_
  rw [head_app (pos_ne h0)]
  exact head_ne h0 45 (by decide) (by decide)
theorem readV_app {c : Int} (h0 : -1099511627776 ≤ c) (h1 : c ≤ 1099511627776) {R : ByteArray} (hR : stopR R) : readV (vT c ++ R) = some (c, R) := by
  rw [vT_eq h0 h1]
  unfold readV
  by_cases h : c < 0
  · obtain ⟨N, e, hN⟩ := show_neg h0 h
    have hv := val_back h0 h1
    have hn : nameish (strB N) := by intro b hb; rw [strB_list] at hb; exact hN b hb
    have e2 : strB (showV c) = dashB ++ strB N := by rw [e, ← strB_cons]; rfl
    rw [e2, ByteArray.append_assoc, cut_app, (word_app hn hR).1, (word_app hn hR).2]
    have e3 : signB (dashB ++ (strB N ++ R)) = dashB := by unfold signB; rw [if_pos (has_app _ _)]
    rw [e3, ← e2, hv]
    rfl
  · have hn : nameish (strB (showV c)) := by intro b hb; rw [strB_list] at hb; exact (show_pos (by omega)).1 b hb
    have hd := no_dash (c := c) (by omega) R
    rw [cut_no hd, (word_app hn hR).1, (word_app hn hR).2]
    have e3 : signB (strB (showV c) ++ R) = ⟨#[]⟩ := by unfold signB; rw [hd]; rfl
    rw [e3, show (⟨#[]⟩ : ByteArray) ++ strB (showV c) = strB (showV c) by apply bytes_ext; rw [app_list]; rfl, val_back h0 h1]
    rfl
theorem beg_list (s : ByteArray) : begB s = (match s.data.toList.head? with | none => false | some c => letterI (c.toNat : Int)) := by
  unfold begB codes
  cases hl : s.data.toList with
  | nil =>
    have : s.size = 0 := by have := congrArg List.length hl; rw [Array.length_toList] at this; exact this
    rw [this]; rfl
  | cons c l =>
    have : 0 < s.size := by
      have h2 : s.data.toList.length = s.size := Array.length_toList
      rw [hl, List.length_cons] at h2
      omega
    rw [decide_eq_true this]
    rfl
theorem valC_val {c : Int} (h0 : -1099511627776 ≤ c) (h1 : c ≤ 1099511627776) {R : ByteArray} (hR : stopR R) : valC (vT c ++ R) = true := by
  rw [vT_eq h0 h1]
  unfold valC
  by_cases h : c < 0
  · obtain ⟨N, e, hN⟩ := show_neg h0 h
    have : begB (strB (showV c) ++ R) = false := by rw [beg_list, app_list, strB_list, e]; show letterI ((45 : UInt8).toNat : Int) = false; decide
    rw [this]; rfl
  · rcases (show_pos (c := c) (by omega)).2 with hi | ⟨b, hb, hbd⟩
    · have hn : nameish (strB infT) := by intro b hb; rw [strB_list] at hb; revert b; decide
      have e2 : hasB (strB infT ++ R) infB = true := has_app infB R
      rw [hi, e2, nsz_app hn hR]
      have : (strB infT).size = 3 := rfl
      rw [this]
      simp
    · have : begB (strB (showV c) ++ R) = false := by
        rw [beg_list, app_list, strB_list, head_app (pos_ne (by omega)), hb]
        exact no_letter_dig hbd
      rw [this]; rfl
theorem name_ne {N : ByteArray} (h : begB N = true) : N.data.toList ≠ [] := by
  intro e
  rw [beg_list, e] at h
  cases h
theorem beg_app {N R : ByteArray} (h : begB N = true) : begB (N ++ R) = true := by
  rw [beg_list, app_list, head_app (name_ne h), ← beg_list]
  exact h
theorem tak_ne {N : ByteArray} (h : takB N = false) : N.data.toList ≠ [115, 107, 105, 112] ∧ N.data.toList ≠ [97, 110, 121] ∧ N.data.toList ≠ [108, 105, 109, 105, 116] ∧ N.data.toList ≠ [99, 104, 101, 99, 107] ∧ N.data.toList ≠ [105, 110, 102] := by
  unfold takB at h
  rw [ByteArray.toList_eq] at h
  simp only [Bool.or_eq_false_iff, beq_eq_false_iff_ne] at h
  exact ⟨h.1, h.2.1, h.2.2.1, h.2.2.2.1, h.2.2.2.2⟩
theorem pre_word {N R : ByteArray} (hN : nameish N) (hR : stopR R) {P Q : List UInt8} (hP : ∀ b ∈ P, mo b = true) (hQ : Q.takeWhile mo = []) (hQ0 : Q ≠ []) (h : (P ++ Q).isPrefixOf (N ++ R).data.toList = true) : N.data.toList = P := by
  rw [List.isPrefixOf_iff_prefix] at h
  obtain ⟨t, ht⟩ := h
  have h1 := congrArg (List.takeWhile mo) ht
  rw [app_list, List.takeWhile_append_of_pos hN, tw_stop hR, List.append_nil, List.append_assoc, List.takeWhile_append_of_pos hP] at h1
  have h2 : (Q ++ t).takeWhile mo = [] := by
    cases Q with
    | nil => exact absurd rfl hQ0
    | cons q Q =>
      have : mo q = false := by
        cases hq : mo q
        · rfl
        · simp [hq] at hQ
      simp [this]
  rw [h2, List.append_nil] at h1
  exact h1.symm
theorem any_no {N R : ByteArray} (hN : nameish N) (hR : stopR R) (ht : N.data.toList ≠ [97, 110, 121]) : hasB (N ++ R) anyB' = false := by
  cases h : hasB (N ++ R) anyB'
  · rfl
  · exact absurd (pre_word hN hR (P := [97, 110, 121]) (Q := [32, 91]) (by decide) (by decide) (by decide) h) ht
theorem valC_name {N R : ByteArray} (hN : nameish N) (hb : begB N = true) (ht : takB N = false) (hR : stopR R) : valC (N ++ R) = false := by
  unfold valC
  rw [beg_app hb, nsz_app hN hR]
  cases h : hasB (N ++ R) infB
  · rfl
  · have : ¬ N.size = 3 := by
      intro h3
      rw [has_list, app_list, List.isPrefixOf_iff_prefix] at h
      obtain ⟨t, e⟩ := h
      have h4 : N.data.toList.length = 3 := by rw [Array.length_toList]; exact h3
      have e' : [105, 110, 102] ++ t = N.data.toList ++ R.data.toList := e
      have h5 := congrArg (List.take 3) e'
      have h6 : List.take 3 ([105, 110, 102] ++ t) = [105, 110, 102] := rfl
      have h7 : List.take 3 (N.data.toList ++ R.data.toList) = N.data.toList := by rw [List.take_append_of_le_length (by omega), List.take_of_length_le (by omega)]
      rw [h6, h7] at h5
      exact (tak_ne ht).2.2.2.2 h5.symm
    simp [this]
theorem any_val {c : Int} (h0 : -1099511627776 ≤ c) (h1 : c ≤ 1099511627776) (R : ByteArray) : hasB (vT c ++ R) anyB' = false := by
  rw [vT_eq h0 h1, has_list, app_list, strB_list]
  refine no_prefix (p := [110, 121, 32, 91]) ?_
  by_cases h : c < 0
  · obtain ⟨N, e, hN⟩ := show_neg h0 h
    rw [e]; simp
  · rw [head_app (pos_ne (by omega))]
    exact head_ne (by omega) 97 (by decide) (by decide)
theorem isW_no {N : ByteArray} {t : List UInt8} (h : N.data.toList ≠ t) : isW N t = false := by
  unfold isW
  rw [ByteArray.toList_eq, beq_eq_false_iff_ne]
  exact h
theorem isW_yes {N : ByteArray} {t : List UInt8} (h : N.data.toList = t) : isW N t = true := by
  unfold isW
  rw [ByteArray.toList_eq, beq_iff_eq]
  exact h
theorem app_nil' (a : ByteArray) : a ++ (⟨#[]⟩ : ByteArray) = a := by apply bytes_ext; rw [app_list]; simp
theorem stop_le (t : ByteArray) : stopR (leB ++ t) := stop_app (by decide) stop_sp
theorem stop_min (t : ByteArray) : stopR (minB ++ t) := stop_app (by decide) stop_sp
theorem stop_plus (t : ByteArray) : stopR (plusB ++ t) := stop_app (by decide) stop_sp
theorem stop_asg (t : ByteArray) : stopR (asgB ++ t) := stop_app (by decide) stop_sp
theorem stop_spc (t : ByteArray) : stopR (spB ++ t) := stop_app (by decide) stop_sp
theorem stop_comma (t : ByteArray) : stopR (commaB ++ t) := stop_app (by decide) (by intro c h; simp [commaB] at h; subst h; decide)
theorem stop_close (t : ByteArray) : stopR (closeB ++ t) := stop_app (by decide) (by intro c h; simp [closeB] at h; subst h; decide)
theorem readN_app {l : List ByteArray} {x : Int} (h : NF l x) {R : ByteArray} (hR : stopR R) : readN l (nmV l x ++ R) = some (x, R) := by
  unfold readN
  rw [(word_app h.word hR).1, (word_app h.word hR).2, h.num]
  rfl
theorem name_no_dash {N R : ByteArray} (h : begB N = true) : hasB (N ++ R) dashB = false := by
  rw [has_list, app_list]
  refine no_prefix (p := []) ?_
  rw [head_app (name_ne h)]
  intro e
  rw [beg_list, e] at h
  revert h; decide
theorem sides_app {l : List ByteArray} (hv : varsB l = true) {x y : Int} (hx0 : 0 ≤ x) (hx : x ≤ (l.length : Int)) (hy0 : 0 ≤ y) (hy : y ≤ (l.length : Int)) (hxy : x ≠ y) (t : ByteArray) : sidesR l (diffT l x y ++ (leB ++ t)) = some (x, y, leB ++ t) := by
  have hlm : hasB (leB ++ t) minB = false := by rw [has_list, app_list]; simp [leB, minB, List.isPrefixOf]
  unfold diffT
  by_cases h0 : y = 0
  · subst h0
    rw [if_pos rfl]
    have hX := name_facts hv (show 1 ≤ x by omega) hx
    unfold sidesR
    rw [if_neg (by rw [name_no_dash hX.beg]; simp), cut_no (name_no_dash hX.beg), readN_app hX (stop_le t)]
    dsimp only
    rw [if_neg (by rw [hlm]; simp), cut_no hlm]
  · rw [if_neg h0]
    have hY := name_facts hv (show 1 ≤ y by omega) hy
    by_cases h1 : x = 0
    · subst h1
      rw [if_pos rfl]
      have e : (⟨#[45]⟩ : ByteArray) = dashB := rfl
      rw [e, ByteArray.append_assoc]
      unfold sidesR
      rw [if_pos (has_app _ _), cut_app, readN_app hY (stop_le t)]
    · rw [if_neg h1]
      have hX := name_facts hv (show 1 ≤ x by omega) hx
      have e : (⟨#[32, 45, 32]⟩ : ByteArray) = minB := rfl
      rw [e, ByteArray.append_assoc, ByteArray.append_assoc]
      unfold sidesR
      rw [if_neg (by rw [name_no_dash hX.beg]; simp), cut_no (name_no_dash hX.beg), readN_app hX (stop_min _)]
      dsimp only
      rw [if_pos (has_app _ _), cut_app, readN_app hY (stop_le t)]
theorem diff_app {l : List ByteArray} (hv : varsB l = true) {x y c : Int} (hx0 : 0 ≤ x) (hx : x ≤ (l.length : Int)) (hy0 : 0 ≤ y) (hy : y ≤ (l.length : Int)) (hxy : x ≠ y) (h0 : -1099511627776 ≤ c) (h1 : c ≤ 1099511627776) : diffR l (spB ++ (diffT l x y ++ (leB ++ vT c))) = some (x, y, c, ⟨#[]⟩) := by
  unfold diffR
  rw [must_app]
  dsimp only
  rw [sides_app hv hx0 hx hy0 hy hxy]
  dsimp only
  rw [must_app]
  dsimp only
  rw [← app_nil' (vT c), readV_app h0 h1 stop_nil]
theorem right_skip {x y c d n : Int} (h : rightB 1 x y c d n = true) : x = 0 ∧ y = 0 ∧ c = 0 ∧ d = 0 := by
  unfold rightB at h
  split at h
  · cases h
  · simp only [stmtB, skipB, if_true, Bool.and_eq_true, beq_iff_eq] at h
    exact ⟨h.1, h.2.1, h.2.2.1, h.2.2.2⟩
theorem let_reads {l : List ByteArray} (hv : varsB l = true) {x y c : Int} (hx1 : 1 ≤ x) (hx : x ≤ (l.length : Int)) (hy0 : 0 ≤ y) (hy : y ≤ (l.length : Int)) (h0 : -1099511627776 ≤ c) (h1 : c ≤ 1099511627776) : ∃ u, stmtR l (letT l x y c) = some ((2, x, y, c, 0), u) := by
  have hX := name_facts hv hx1 hx
  have hN := tak_ne hX.free
  have start : ∀ t, stmtR l (nmV l x ++ (asgB ++ t)) = assignedR l x t := by
    intro t
    unfold stmtR
    rw [(word_app hX.word (stop_asg t)).1, (word_app hX.word (stop_asg t)).2, isW_no hN.1, isW_no hN.2.2.1, isW_no hN.2.2.2.1, hX.num, must_app]
    rfl
  have ea : (⟨#[32, 58, 61, 32]⟩ : ByteArray) = asgB := rfl
  have em : (⟨#[32, 45, 32]⟩ : ByteArray) = minB := rfl
  have ep : (⟨#[32, 43, 32]⟩ : ByteArray) = plusB := rfl
  unfold letT
  rw [ea, em, ep]
  by_cases y0 : y = 0
  · subst y0
    rw [if_pos rfl, ByteArray.append_assoc, start]
    unfold assignedR
    have e1 := any_val h0 h1 ⟨#[]⟩
    have e2 := valC_val h0 h1 stop_nil
    have e3 := readV_app h0 h1 stop_nil
    rw [app_nil'] at e1 e2 e3
    rw [e1, cut_no e1, e2]
    unfold letV
    rw [e3]
    exact ⟨_, rfl⟩
  · rw [if_neg y0]
    have hY := name_facts hv (show 1 ≤ y by omega) hy
    have hM := tak_ne hY.free
    have mid : ∀ R, stopR R → assignedR l x (nmV l y ++ R) = letN l x (nmV l y ++ R) := by
      intro R hR
      unfold assignedR
      have e1 := any_no hY.word hR hM.2.1
      have e2 := valC_name hY.word hY.beg hY.free hR
      rw [e1, cut_no e1, e2]
      rfl
    by_cases c0 : c = 0
    · subst c0
      rw [if_pos rfl, ByteArray.append_assoc, start]
      have q := mid ⟨#[]⟩ stop_nil
      have q2 := readN_app hY stop_nil
      rw [app_nil'] at q q2
      rw [q]
      unfold letN
      rw [q2]
      exact ⟨_, rfl⟩
    · rw [if_neg c0]
      by_cases cn : c < 0
      · rw [if_pos cn, ByteArray.append_assoc, ByteArray.append_assoc, ByteArray.append_assoc, start, mid _ (stop_min _)]
        unfold letN
        rw [readN_app hY (stop_min _)]
        dsimp only
        have e3 := readV_app (c := -c) (by omega) (by omega) stop_nil
        rw [app_nil'] at e3
        rw [if_pos (has_app _ _), cut_app, e3]
        exact ⟨⟨#[]⟩, by simp⟩
      · rw [if_neg cn, ByteArray.append_assoc, ByteArray.append_assoc, ByteArray.append_assoc, start, mid _ (stop_plus _)]
        unfold letN
        rw [readN_app hY (stop_plus _)]
        dsimp only
        have e3 := readV_app h0 h1 stop_nil
        rw [app_nil'] at e3
        have hm : hasB (plusB ++ vT c) minB = false := by rw [has_list, app_list]; simp [plusB, minB, List.isPrefixOf]
        rw [if_neg (by rw [hm]; simp), cut_no hm, if_pos (has_app _ _), cut_app, e3]
        exact ⟨_, rfl⟩
theorem any_reads {l : List ByteArray} (hv : varsB l = true) {x c d : Int} (hx1 : 1 ≤ x) (hx : x ≤ (l.length : Int)) (h0 : -1099511627776 ≤ c) (h1 : c ≤ 1099511627776) (h2 : -1099511627776 ≤ d) (h3 : d ≤ 1099511627776) : ∃ u, stmtR l (anyT l x c d) = some ((3, x, 0, c, d), u) := by
  have hX := name_facts hv hx1 hx
  have hN := tak_ne hX.free
  have ea : (⟨#[32, 58, 61, 32]⟩ : ByteArray) = asgB := rfl
  have ec : (⟨#[44, 32]⟩ : ByteArray) = commaB := rfl
  have ed : (⟨#[93]⟩ : ByteArray) = closeB := rfl
  have e : anyT l x c d = nmV l x ++ (asgB ++ (anyB' ++ (vT c ++ (commaB ++ (vT d ++ (closeB ++ ⟨#[]⟩)))))) := by
    unfold anyT
    rw [ea, ec, ed, app_nil']
    simp only [ByteArray.append_assoc]
    congr 2
  rw [e]
  unfold stmtR
  rw [(word_app hX.word (stop_asg _)).1, (word_app hX.word (stop_asg _)).2, isW_no hN.1, isW_no hN.2.2.1, isW_no hN.2.2.2.1, hX.num, must_app]
  refine ⟨⟨#[]⟩, ?_⟩
  simp only [Bool.false_eq_true, if_false]
  unfold assignedR
  rw [if_pos (has_app _ _), cut_app]
  unfold anyR
  rw [readV_app h0 h1 (stop_comma _)]
  dsimp only
  rw [must_app]
  dsimp only
  rw [readV_app h2 h3 (stop_close _)]
  dsimp only
  rw [must_app]
theorem lim_reads {l : List ByteArray} (hv : varsB l = true) {k x y c : Int} (hk : k = 4 ∨ k = 5) (hx0 : 0 ≤ x) (hx : x ≤ (l.length : Int)) (hy0 : 0 ≤ y) (hy : y ≤ (l.length : Int)) (hxy : x ≠ y) (h0 : -1099511627776 ≤ c) (h1 : c ≤ 1099511627776) : ∃ u, stmtR l (stmtT l k x y c 0) = some ((k, x, y, c, 0), u) := by
  have es : (⟨#[32]⟩ : ByteArray) = spB := rfl
  have el : (⟨#[32, 60, 61, 32]⟩ : ByteArray) = leB := rfl
  have hd := diff_app hv hx0 hx hy0 hy hxy h0 h1
  rcases hk with rfl | rfl
  · have e : stmtT l 4 x y c 0 = (⟨#[108, 105, 109, 105, 116]⟩ : ByteArray) ++ (spB ++ (diffT l x y ++ (leB ++ vT c))) := by
      show limT _ l x y c = _
      unfold limT
      rw [es, el]
      simp only [ByteArray.append_assoc]
    rw [e]
    unfold stmtR
    have hn : nameish (⟨#[108, 105, 109, 105, 116]⟩ : ByteArray) := by intro b hb; revert b; decide
    rw [(word_app hn (stop_spc _)).1, (word_app hn (stop_spc _)).2, hd, isW_no (by decide), isW_yes rfl]
    exact ⟨_, rfl⟩
  · have e : stmtT l 5 x y c 0 = (⟨#[99, 104, 101, 99, 107]⟩ : ByteArray) ++ (spB ++ (diffT l x y ++ (leB ++ vT c))) := by
      show limT _ l x y c = _
      unfold limT
      rw [es, el]
      simp only [ByteArray.append_assoc]
    rw [e]
    unfold stmtR
    have hn : nameish (⟨#[99, 104, 101, 99, 107]⟩ : ByteArray) := by intro b hb; revert b; decide
    rw [(word_app hn (stop_spc _)).1, (word_app hn (stop_spc _)).2, hd, isW_no (by decide), isW_no (by decide), isW_yes rfl]
    exact ⟨_, rfl⟩
theorem stmt_reads {l : List ByteArray} (hv : varsB l = true) {k x y c d : Int} (hr : rightB k x y c d (l.length : Int) = true) : ∃ u, stmtR l (stmtT l k x y c d) = some ((k, x, y, c, d), u) := by
  obtain ⟨k0, k5⟩ := right_kind hr
  rcases (show k = 1 ∨ k = 2 ∨ k = 3 ∨ (k = 4 ∨ k = 5) by omega) with rfl | rfl | rfl | hk
  · obtain ⟨rfl, rfl, rfl, rfl⟩ := right_skip hr
    have hn : nameish skipT := by intro b hb; revert b; decide
    have hw := (word_app hn stop_nil).1
    rw [app_nil'] at hw
    refine ⟨wordR skipT, ?_⟩
    show stmtR l skipT = _
    unfold stmtR
    rw [hw, isW_yes (N := skipT) (t := [115, 107, 105, 112]) rfl]
    rfl
  · obtain ⟨h1, h2, h3, h4, ⟨h5, h6⟩, rfl⟩ := right_let hr
    exact let_reads hv h1 h2 h3 h4 h5 h6
  · obtain ⟨h1, h2, rfl, ⟨h5, h6⟩, ⟨h7, h8⟩, _⟩ := right_any' hr
    exact any_reads hv h1 h2 h5 h6 h7 h8
  · obtain ⟨h1, h2, h3, h4, h5, ⟨h6, h7⟩, rfl⟩ := right_diff hk hr
    exact lim_reads hv hk h1 h2 h3 h4 h5 h6 h7
theorem stmt_size {l : List ByteArray} (hv : varsB l = true) {k x y c d : Int} (hr : rightB k x y c d (l.length : Int) = true) : (stmtT l k x y c d).size ≤ 256 := by
  have hs := vars_sz hv
  have n1 := name_sz hs x
  have n2 := name_sz hs y
  have v1 := vT_size c
  have v2 := vT_size d
  have v3 := vT_size (-c)
  have a1 : (⟨#[32, 58, 61, 32]⟩ : ByteArray).size = 4 := rfl
  have a2 : (⟨#[32, 45, 32]⟩ : ByteArray).size = 3 := rfl
  have a3 : (⟨#[32, 43, 32]⟩ : ByteArray).size = 3 := rfl
  have a4 : (⟨#[97, 110, 121]⟩ : ByteArray).size = 3 := rfl
  have a5 : (⟨#[32, 91]⟩ : ByteArray).size = 2 := rfl
  have a6 : (⟨#[44, 32]⟩ : ByteArray).size = 2 := rfl
  have a7 : (⟨#[93]⟩ : ByteArray).size = 1 := rfl
  unfold stmtT
  split
  · decide
  · split
    · unfold letT
      split
      · simp only [ByteArray.size_append]; omega
      · split
        · simp only [ByteArray.size_append]; omega
        · split <;> (simp only [ByteArray.size_append]; omega)
    · split
      · unfold anyT; simp only [ByteArray.size_append]; omega
      · split <;> exact Nat.le_trans (lim_sz (by decide) hs x y c) (by omega)
theorem show_ok {l : List ByteArray} (hv : varsB l = true) {k x y c d : Int} (hr : rightB k x y c d (l.length : Int) = true) : showE l k x y c d = 0 ∧ showP l k x y c d = stmtT l k x y c d := by
  have h : showE l k x y c d = 0 := by unfold showE; rw [if_pos hv, if_pos hr]
  exact ⟨h, by unfold showP; rw [if_pos h]⟩
theorem parse_show {l : List ByteArray} (hv : varsB l = true) {k x y c d : Int} (hr : rightB k x y c d (l.length : Int) = true) : parsedP l (stmtT l k x y c d) = ((k, x, y, c, d), 0) := by
  obtain ⟨u, hu⟩ := stmt_reads hv hr
  obtain ⟨h1, h2⟩ := show_ok hv hr
  unfold parsedP
  rw [if_pos hv, if_pos (stmt_size hv hr), hu]
  dsimp only
  rw [if_pos ⟨h1, h2⟩]
theorem parse_right {l : List ByteArray} {s : ByteArray} {p : St} (h : parsedP l s = (p, 0)) : varsB l = true ∧ rightB p.1 p.2.1 p.2.2.1 p.2.2.2.1 p.2.2.2.2 (l.length : Int) = true ∧ stmtT l p.1 p.2.1 p.2.2.1 p.2.2.2.1 p.2.2.2.2 = s := by
  unfold parsedP at h
  split at h
  · next hv =>
    split at h
    · split at h
      · cases h
      · next k x y c d u _ =>
        split at h
        · next hq =>
          obtain ⟨rfl, _⟩ := Prod.mk.inj h
          have hr : rightB k x y c d (l.length : Int) = true := by
            have := hq.1
            unfold showE at this
            rw [if_pos hv] at this
            cases hr : rightB k x y c d (l.length : Int)
            · rw [hr] at this; simp at this
            · rfl
          exact ⟨hv, hr, by rw [← hq.2]; exact (show_ok hv hr).2.symm⟩
        · cases h
    · cases h
  · cases h
def splitL : List UInt8 → List (List UInt8)
  | [] => [[]]
  | c :: s => if c = 32 then [] :: splitL s else (match splitL s with | [] => [[c]] | w :: ws => (c :: w) :: ws)
theorem split_plain : ∀ {A : List UInt8}, (∀ c ∈ A, c ≠ 32) → splitL A = [A]
  | [], _ => rfl
  | c :: A, h => by
    have h1 := h c (by simp)
    have ih := split_plain (A := A) (fun x hx => h x (by simp [hx]))
    unfold splitL
    rw [if_neg h1, ih]
theorem split_at : ∀ {A : List UInt8} (B : List UInt8), (∀ c ∈ A, c ≠ 32) → splitL (A ++ 32 :: B) = A :: splitL B
  | [], B, _ => rfl
  | c :: A, B, h => by
    have h1 := h c (by simp)
    have ih := split_at (A := A) B (fun x hx => h x (by simp [hx]))
    show splitL (c :: (A ++ 32 :: B)) = _
    simp only [splitL, h1, if_false, ih]
theorem split_ne (s : List UInt8) : splitL s ≠ [] := by
  cases s with
  | nil => intro h; cases h
  | cons c s =>
    unfold splitL
    split
    · intro h; cases h
    · split <;> (intro h; cases h)
theorem split_le : ∀ s : List UInt8, (splitL s).length ≤ s.length + 1
  | [] => by simp [splitL]
  | c :: s => by
    have ih := split_le s
    unfold splitL
    split
    · simp; omega
    · split
      · simp
      · next w ws e => rw [e] at ih; simp at ih ⊢; omega
def splitB (s : ByteArray) : List ByteArray := (splitL s.data.toList).map strB
def numQ (l : List ByteArray) (s : ByteArray) : Int := if Lib.idxOfS l s < 0 then -1 else Lib.idxOfS l s + 1
def trimB (s : ByteArray) : ByteArray := if s.size < 2 then ⟨#[]⟩ else s.extract 1 (s.size - 1)
def pN (s : ByteArray) : Int := parseN s.data.toList
def pOK (s : ByteArray) : Bool := (parseV s.data.toList).isSome
def wd (w : List ByteArray) (i : Nat) : ByteArray := w.getD i e0
def guess3 (l w : List ByteArray) (last : Int) : List St := if 3 ≤ w.length then [(2, numQ l (wd w 0), 0, last, 0), (2, numQ l (wd w 0), numQ l (wd w 2), 0, 0), (2, numQ l (wd w 0), numQ l (wd w 2), last, 0), (2, numQ l (wd w 0), numQ l (wd w 2), -last, 0)] else []
def guess5 (l w : List ByteArray) : List St := if w.length = 5 then (if pOK (trimB (wd w 3)) = true ∧ pOK (trimB (spB ++ wd w 4)) = true then [(3, numQ l (wd w 0), 0, pN (trimB (wd w 3)), pN (trimB (spB ++ wd w 4)))] else []) else []
def guess4 (l w : List ByteArray) (last : Int) (k : Int) : List St :=
  (if w.length = 4 then (k, numQ l (wd w 1), 0, last, 0) :: (if 0 < (wd w 1).size then [(k, 0, numQ l ((wd w 1).extract 1 (wd w 1).size), last, 0)] else []) else [])
  ++ (if w.length = 6 then [(k, numQ l (wd w 1), numQ l (wd w 3), last, 0)] else [])
def guessW (l w : List ByteArray) (last : Int) : List St := [(1, 0, 0, 0, 0)] ++ guess3 l w last ++ guess5 l w ++ guess4 l w last 4 ++ guess4 l w last 5
def guessL (l : List ByteArray) (s : ByteArray) : List St := guessW l (splitB s) (pN (wd (splitB s) ((splitB s).length - 1)))
def fits (l : List ByteArray) (s : ByteArray) (p : St) : Bool := rightB p.1 p.2.1 p.2.2.1 p.2.2.2.1 p.2.2.2.2 (l.length : Int) && decide (stmtT l p.1 p.2.1 p.2.2.1 p.2.2.2.1 p.2.2.2.2 = s)
def rparseP (l : List ByteArray) (s : ByteArray) : St × Bool := match (guessL l s).find? (fits l s) with | some p => (p, true) | none => ((0, 0, 0, 0, 0), false)
def noSp (s : ByteArray) : Prop := ∀ c ∈ s.data.toList, c ≠ 32
theorem noSp_word {s : ByteArray} (h : nameish s) : noSp s := by
  intro c hc e
  have := h c hc
  subst e
  revert this; decide
theorem strB_back (s : ByteArray) : strB s.data.toList = s := bytes_ext (strB_list _)
theorem splitB_plain {A : ByteArray} (h : noSp A) : splitB A = [A] := by unfold splitB; rw [split_plain h]; simp [strB_back]
theorem splitB_at {A : ByteArray} (B : ByteArray) (h : noSp A) : splitB (A ++ (spB ++ B)) = A :: splitB B := by
  unfold splitB
  rw [app_list, app_list, show spB.data.toList = [32] from rfl]
  show List.map strB (splitL (A.data.toList ++ 32 :: B.data.toList)) = _
  rw [split_at _ h]
  simp [strB_back]
theorem noSp_val {c : Int} (h0 : -1099511627776 ≤ c) (h1 : c ≤ 1099511627776) : noSp (vT c) := by
  rw [vT_eq h0 h1]
  intro b hb
  rw [strB_list] at hb
  by_cases h : c < 0
  · obtain ⟨N, e, hN⟩ := show_neg h0 h
    rw [e] at hb
    rcases List.mem_cons.1 hb with rfl | hb
    · decide
    · intro e2; have := hN b hb; subst e2; revert this; decide
  · intro e2; have := (show_pos (c := c) (by omega)).1 b hb; subst e2; revert this; decide
theorem noSp_app {a b : ByteArray} (ha : noSp a) (hb : noSp b) : noSp (a ++ b) := by
  intro c hc
  rw [app_list] at hc
  rcases List.mem_append.1 hc with h | h
  · exact ha c h
  · exact hb c h
theorem numQ_of {l : List ByteArray} {x : Int} (h : NF l x) : numQ l (nmV l x) = x := by
  have h1 := h.num
  unfold numR at h1
  unfold numQ
  split at h1
  · cases h1
  · next h2 => rw [if_neg h2]; exact Option.some.inj h1
theorem pN_val {c : Int} (h0 : -1099511627776 ≤ c) (h1 : c ≤ 1099511627776) : pN (vT c) = c ∧ pOK (vT c) = true := by
  unfold pN pOK parseN
  rw [vT_eq h0 h1, strB_list, parseV_show h0 h1]
  exact ⟨rfl, rfl⟩
theorem trim_val (a b : UInt8) (v : ByteArray) : trimB (⟨#[a]⟩ ++ (v ++ ⟨#[b]⟩)) = v := by
  have hs : (⟨#[a]⟩ ++ (v ++ ⟨#[b]⟩) : ByteArray).size = v.size + 2 := by
    rw [ByteArray.size_append, ByteArray.size_append]
    show 1 + (v.size + 1) = _
    omega
  unfold trimB
  rw [if_neg (by omega)]
  apply bytes_ext
  rw [ByteArray.data_extract, Array.toList_extract, hs, app_list, app_list]
  have hl : v.data.toList.length = v.size := Array.length_toList
  simp [List.extract, hl]
theorem find_fits {l : List ByteArray} {s : ByteArray} {p : St} (hm : p ∈ guessL l s) (hv : varsB l = true) (hr : rightB p.1 p.2.1 p.2.2.1 p.2.2.2.1 p.2.2.2.2 (l.length : Int) = true) (hs : stmtT l p.1 p.2.1 p.2.2.1 p.2.2.2.1 p.2.2.2.2 = s) : rparseP l s = (p, true) := by
  have hf : fits l s p = true := by unfold fits; rw [hr, hs]; simp
  unfold rparseP
  cases hq : (guessL l s).find? (fits l s) with
  | none => exact absurd hf (by have := List.find?_eq_none.1 hq p hm; simpa using this)
  | some q =>
    have hf2 := List.find?_some hq
    unfold fits at hf2
    rw [Bool.and_eq_true, decide_eq_true_eq] at hf2
    have e1 := parse_show hv hr
    have e2 := parse_show hv hf2.1
    rw [hs] at e1
    rw [hf2.2, e1] at e2
    have := (Prod.mk.inj e2).1
    show (q, true) = (p, true)
    rw [show q = p from this.symm]
theorem guess_has {l : List ByteArray} (hv : varsB l = true) {k x y c d : Int} (hr : rightB k x y c d (l.length : Int) = true) : (k, x, y, c, d) ∈ guessL l (stmtT l k x y c d) := by
  obtain ⟨k0, k5⟩ := right_kind hr
  rcases (show k = 1 ∨ k = 2 ∨ k = 3 ∨ (k = 4 ∨ k = 5) by omega) with rfl | rfl | rfl | hk
  · obtain ⟨rfl, rfl, rfl, rfl⟩ := right_skip hr
    unfold guessL guessW
    simp
  · obtain ⟨h1, h2, h3, h4, ⟨h5, h6⟩, rfl⟩ := right_let hr
    have hX := name_facts hv h1 h2
    have ea : (⟨#[32, 58, 61, 32]⟩ : ByteArray) = spB ++ ((⟨#[58, 61]⟩ : ByteArray) ++ spB) := by apply bytes_ext; rfl
    have em : (⟨#[32, 45, 32]⟩ : ByteArray) = spB ++ (dashB ++ spB) := by apply bytes_ext; rfl
    have ep : (⟨#[32, 43, 32]⟩ : ByteArray) = spB ++ ((⟨#[43]⟩ : ByteArray) ++ spB) := by apply bytes_ext; rfl
    have nA : noSp (⟨#[58, 61]⟩ : ByteArray) := by intro b hb; revert b; decide
    have nM : noSp dashB := by intro b hb; revert b; decide
    have nP : noSp (⟨#[43]⟩ : ByteArray) := by intro b hb; revert b; decide
    have e : stmtT l 2 x y c 0 = letT l x y c := rfl
    rw [e]
    unfold letT
    rw [ea, em, ep]
    by_cases y0 : y = 0
    · subst y0
      rw [if_pos rfl]
      simp only [ByteArray.append_assoc]
      unfold guessL
      rw [splitB_at _ (noSp_word hX.word), splitB_at _ nA, splitB_plain (noSp_val h5 h6)]
      simp [guessW, guess3, wd, numQ_of hX, (pN_val h5 h6).1]
    · rw [if_neg y0]
      have hY := name_facts hv (show 1 ≤ y by omega) h4
      by_cases c0 : c = 0
      · subst c0
        rw [if_pos rfl]
        simp only [ByteArray.append_assoc]
        unfold guessL
        rw [splitB_at _ (noSp_word hX.word), splitB_at _ nA, splitB_plain (noSp_word hY.word)]
        simp [guessW, guess3, wd, numQ_of hX, numQ_of hY]
      · rw [if_neg c0]
        by_cases cn : c < 0
        · rw [if_pos cn]
          simp only [ByteArray.append_assoc]
          unfold guessL
          rw [splitB_at _ (noSp_word hX.word), splitB_at _ nA, splitB_at _ (noSp_word hY.word), splitB_at _ nM, splitB_plain (noSp_val (c := -c) (by omega) (by omega))]
          simp [guessW, guess3, wd, numQ_of hX, numQ_of hY, (pN_val (c := -c) (by omega) (by omega)).1]
        · rw [if_neg cn]
          simp only [ByteArray.append_assoc]
          unfold guessL
          rw [splitB_at _ (noSp_word hX.word), splitB_at _ nA, splitB_at _ (noSp_word hY.word), splitB_at _ nP, splitB_plain (noSp_val h5 h6)]
          simp [guessW, guess3, wd, numQ_of hX, numQ_of hY, (pN_val h5 h6).1]
  · obtain ⟨h1, h2, rfl, ⟨h5, h6⟩, ⟨h7, h8⟩, _⟩ := right_any' hr
    have hX := name_facts hv h1 h2
    have nA : noSp (⟨#[58, 61]⟩ : ByteArray) := by intro b hb; revert b; decide
    have nN : noSp (⟨#[97, 110, 121]⟩ : ByteArray) := by intro b hb; revert b; decide
    have n1 : noSp (⟨#[91]⟩ : ByteArray) := by intro b hb; revert b; decide
    have n2 : noSp (⟨#[44]⟩ : ByteArray) := by intro b hb; revert b; decide
    have n3 : noSp (⟨#[93]⟩ : ByteArray) := by intro b hb; revert b; decide
    have e : stmtT l 3 x 0 c d = nmV l x ++ (spB ++ ((⟨#[58, 61]⟩ : ByteArray) ++ (spB ++ ((⟨#[97, 110, 121]⟩ : ByteArray) ++ (spB ++ (((⟨#[91]⟩ : ByteArray) ++ (vT c ++ (⟨#[44]⟩ : ByteArray))) ++ (spB ++ (vT d ++ (⟨#[93]⟩ : ByteArray))))))))) := by
      show anyT l x c d = _
      unfold anyT
      apply bytes_ext
      simp only [app_list, List.append_assoc]
      rfl
    rw [e]
    unfold guessL
    rw [splitB_at _ (noSp_word hX.word), splitB_at _ nA, splitB_at _ nN, splitB_at _ (noSp_app n1 (noSp_app (noSp_val h5 h6) n2)), splitB_plain (noSp_app (noSp_val h7 h8) n3)]
    have t1 := trim_val 91 44 (vT c)
    have t2 := trim_val 32 93 (vT d)
    have e2 : (⟨#[32]⟩ : ByteArray) = spB := rfl
    rw [e2] at t2
    simp [guessW, guess3, guess5, wd, numQ_of hX, t1, t2, (pN_val h5 h6).1, (pN_val h5 h6).2, (pN_val h7 h8).1, (pN_val h7 h8).2]
  · obtain ⟨h1, h2, h3, h4, h5, ⟨h6, h7⟩, rfl⟩ := right_diff hk hr
    have nL : noSp (⟨#[60, 61]⟩ : ByteArray) := by intro b hb; revert b; decide
    have nM : noSp dashB := by intro b hb; revert b; decide
    have main : ∀ word : ByteArray, noSp word → stmtT l k x y c 0 = limT word l x y c → (k, x, y, c, 0) ∈ guessL l (stmtT l k x y c 0) := by
      intro word hw e
      have h45 : ∀ w last, (k, x, y, c, 0) ∈ guess4 l w last k → (k, x, y, c, 0) ∈ guessW l w last := by
        intro w last hm
        unfold guessW
        rcases hk with rfl | rfl
        · simp [hm]
        · simp [hm]
      rw [e]
      unfold limT diffT
      have es : (⟨#[32]⟩ : ByteArray) = spB := rfl
      have el : (⟨#[32, 60, 61, 32]⟩ : ByteArray) = spB ++ ((⟨#[60, 61]⟩ : ByteArray) ++ spB) := by apply bytes_ext; rfl
      have em : (⟨#[32, 45, 32]⟩ : ByteArray) = spB ++ (dashB ++ spB) := by apply bytes_ext; rfl
      have ed : (⟨#[45]⟩ : ByteArray) = dashB := rfl
      rw [es, el, em, ed]
      by_cases y0 : y = 0
      · subst y0
        rw [if_pos rfl]
        have hX := name_facts hv (show 1 ≤ x by omega) h2
        simp only [ByteArray.append_assoc]
        unfold guessL
        rw [splitB_at _ hw, splitB_at _ (noSp_word hX.word), splitB_at _ nL, splitB_plain (noSp_val h6 h7)]
        apply h45
        simp [guess4, wd, numQ_of hX, (pN_val h6 h7).1]
      · rw [if_neg y0]
        have hY := name_facts hv (show 1 ≤ y by omega) h4
        by_cases x0 : x = 0
        · subst x0
          rw [if_pos rfl]
          have ea : (word ++ spB ++ (dashB ++ nmV l y) ++ (spB ++ ((⟨#[60, 61]⟩ : ByteArray) ++ spB)) ++ vT c) = word ++ (spB ++ ((dashB ++ nmV l y) ++ (spB ++ ((⟨#[60, 61]⟩ : ByteArray) ++ (spB ++ vT c))))) := by simp only [ByteArray.append_assoc]
          rw [ea]
          unfold guessL
          rw [splitB_at _ hw, splitB_at _ (noSp_app nM (noSp_word hY.word)), splitB_at _ nL, splitB_plain (noSp_val h6 h7)]
          apply h45
          have hx : (dashB ++ nmV l y).extract 1 (dashB ++ nmV l y).size = nmV l y := by
            apply bytes_ext
            have hs : (dashB ++ nmV l y).size = (nmV l y).size + 1 := by rw [ByteArray.size_append]; show 1 + _ = _; omega
            rw [ByteArray.data_extract, Array.toList_extract, app_list, hs]
            have hl : (nmV l y).data.toList.length = (nmV l y).size := Array.length_toList
            show List.extract (45 :: (nmV l y).data.toList) 1 ((nmV l y).size + 1) = _
            simp only [List.extract, List.drop_succ_cons, List.drop_zero, Nat.add_sub_cancel]
            rw [← hl, List.take_length]
          have hz : 0 < (dashB ++ nmV l y).size := by rw [ByteArray.size_append]; show 0 < 1 + _; omega
          generalize dashB ++ nmV l y = D at *
          simp [guess4, wd, numQ_of hY, hx, hz, (pN_val h6 h7).1]
        · rw [if_neg x0]
          have hX := name_facts hv (show 1 ≤ x by omega) h2
          simp only [ByteArray.append_assoc]
          unfold guessL
          rw [splitB_at _ hw, splitB_at _ (noSp_word hX.word), splitB_at _ nM, splitB_at _ (noSp_word hY.word), splitB_at _ nL, splitB_plain (noSp_val h6 h7)]
          apply h45
          simp [guess4, wd, numQ_of hX, numQ_of hY, (pN_val h6 h7).1]
    rcases hk with rfl | rfl
    · exact main _ (by intro b hb; revert b; decide) rfl
    · exact main _ (by intro b hb; revert b; decide) rfl
theorem rparse_eq {l : List ByteArray} (hv : varsB l = true) (s : ByteArray) : rparseP l s = if (parsedP l s).2 = 0 then ((parsedP l s).1, true) else ((0, 0, 0, 0, 0), false) := by
  by_cases h : (parsedP l s).2 = 0
  · rw [if_pos h]
    obtain ⟨p, hp⟩ : ∃ p, p = (parsedP l s).1 := ⟨_, rfl⟩
    obtain ⟨k, x, y, c, d⟩ := p
    have hq : parsedP l s = ((k, x, y, c, d), 0) := by rw [hp, ← h]
    rw [← hp]
    obtain ⟨_, hr, hs⟩ := parse_right hq
    refine find_fits ?_ hv hr hs
    have := guess_has hv hr
    dsimp only at hs
    rw [hs] at this
    exact this
  · rw [if_neg h]
    unfold rparseP
    cases hq : (guessL l s).find? (fits l s) with
    | none => rfl
    | some q =>
      exfalso
      apply h
      have hf2 := List.find?_some hq
      unfold fits at hf2
      rw [Bool.and_eq_true, decide_eq_true_eq] at hf2
      have e2 := parse_show hv hf2.1
      rw [hf2.2] at e2
      rw [e2]
theorem parse_bad {l : List ByteArray} {s : ByteArray} (hv : varsB l = true) (h : ¬ (parsedP l s).2 = 0) : parsedP l s = ((0, 0, 0, 0, 0), 111) := by
  unfold parsedP at h ⊢
  rw [if_pos hv] at h ⊢
  split
  · next hs =>
    rw [if_pos hs] at h
    split
    · rfl
    · next k x y c d u e =>
      rw [e] at h
      dsimp only at h
      split
      · next hq => rw [if_pos hq] at h; exact absurd rfl h
      · rfl
  · rfl
end Go.Proofs.YtgeliikfgnkppaaGreatDoor
