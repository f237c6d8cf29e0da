/-
  Words and walks under the law's proof.
-/
import Derived.Lib.LaidTab
import Derived.Test.YtknnjkhocbpohaaDoorQN01
import Derived.Test.YtknnjkhocbpohaaDoorQN04
namespace Go.Proofs.YtknnjkhocbpohaaDoor
open Go.RowKit
set_option linter.unusedVariables false
set_option linter.unusedSimpArgs false
def NotsE (w : World) (l : List TmD) (E : Int) (e : Ending) (w' : World) : Prop := ∃ a c, e = .returned (.tuple #[.slice a l.length c, .int .i64 E]) ∧ RO tmC w' a l.length c l ∧ Below w.heap.size w w'
set_option maxRecDepth 100000 in
set_option maxHeartbeats 4000000 in
theorem qnot_bad (w : World) (a : Option Addr) (n c : Nat) (l : List TmD) (hr : RO tmC w a n c l) (hs : ∀ t ∈ l, tmS t) (ht : ATab w) (h0 : filtE l ≠ 0) : Calls Tryd.prog 20 #[.slice a n c] w (NotsE w [] (filtE l)) := by
  have qf := Lib.hid (qfilter_any w a n c l hr hs ht)
  have hE : (filtE l != 0) = true := by simpa using h0
  generalize filtE l = E at *
  clear h0 hr hs ht
  go_enter Tryd.func20, Tryd.ntmps20
  go_wp2_with fail
  refine qf.out.mono ?_
  rintro e u1 ⟨rfl, b1⟩
  have hb' := Lib.hid b1
  clear b1 qf
  go_wp2
  go_ret2
  exact ⟨none, 0, rfl, RO.nil _, hb'.out⟩
theorem tb_new {w : World} {a : Option Addr} {n c : Nat} {l : List TmD} (hr : RO tmC w a n c l) : TB (w.alloc (.cells #[.slice a n c, .slice none 0 0] 52)) w.heap.size a n c l (.slice none 0 0) 0 [] :=
  ⟨Holds.new _ _ _, hr.len, hr.cap, hr.max, hr.sees.below (below_allocB (Below.refl _ _) (Nat.le_refl _) _), own_tm_nil _ _⟩
set_option maxRecDepth 100000 in
set_option maxHeartbeats 4000000 in
theorem qnot_ok (w : World) (a : Option Addr) (n c : Nat) (f : FT) (hf : f.good) (h0 : filtE f.ser = 0) (hr : RO tmC w a n c f.ser) (hs : ∀ t ∈ f.ser, tmS t) (ht : ATab w) : Calls Tryd.prog 20 #[.slice a n c] w (NotsE w (notT true f).ser 0) := by
  have qf := Lib.hid (qfilter_any w a n c f.ser hr hs ht)
  have h128 : f.ser.length ≤ 128 := by
    obtain ⟨_, _, _, _, h⟩ := filtE_tree h0
    exact h
  rw [h0] at qf
  have qn := Lib.hid (fun W (hb : Below w.heap.size w W) => by
    have hT := tb_new (hr.below hb)
    have q := (turn_any W.heap.size f hf true _ a n c [] _ 0 [] (by rw [List.append_nil]; exact hT) (by simp; omega)).1
    rw [List.nil_append] at q
    exact q)
  generalize (notT true f).ser = X at *
  clear h0 hr hs ht hf h128
  go_enter Tryd.func20, Tryd.ntmps20
  go_wp2_with fail
  refine qf.out.mono ?_
  rintro e u1 ⟨rfl, b1⟩
  have q2 := Lib.hid (qn.out u1 b1)
  have hb1 := Lib.hid b1
  clear b1 qf qn
  obtain ⟨U, hU⟩ : ∃ U, U = u1.alloc (.cells #[.slice a n c, .slice none 0 0] 52) := ⟨_, rfl⟩
  have bU : Below u1.heap.size u1 U := by rw [hU]; exact box_below _ _ _
  have q3 : Hid (Calls Tryd.prog 28 #[.pointer (some ⟨u1.heap.size, 0, none⟩), .bool true] U (TurnE U u1.heap.size [] X)) := Lib.hid (by rw [hU]; exact q2.out)
  have hU' := Lib.hid hU
  have bU' := Lib.hid bU
  clear hU bU q2
  go_wp2_with fail
  rw [← hU'.out]
  refine q3.out.mono ?_
  rintro e u2 ⟨rfl, b2, a2, c2, v2, m2, hT⟩
  have hf := Lib.hid (hb1.out.trans ((bU'.out.trans b2).mono hb1.out.size))
  obtain ⟨a3, c3, hv3, hro⟩ := tro_own hT.own
  have hml := hT.olen
  subst hv3
  have k1 := hT.blk.cell 1
  simp at k1
  have hro' := Lib.hid hro
  have hml' := Lib.hid hml
  clear b2 hT q3 hU' bU' hb1 hro hml
  go_wp2
  go_ret2
  exact ⟨a3, c3, by rw [← hml'.out]; rfl, by rw [← hml'.out]; exact hro'.out, hf.out⟩
theorem part_leaf {t : TmD} (h : t.op = 1 ∨ t.op = 2) : partA [t] = [] ∧ partB [t] = [] ∧ partIs [t] = false := by
  have e : ¬ 3 ≤ ([t].getD 0 tm0).op := by show ¬ 3 ≤ t.op; omega
  exact ⟨by unfold partA; rw [if_neg e], by unfold partB; rw [if_neg e], by unfold partIs; rw [decide_eq_false e]⟩
theorem part_neg {x : FT} (h : x.good) : partA (opT 3 :: x.ser) = x.ser ∧ partB (opT 3 :: x.ser) = [] ∧ partIs (opT 3 :: x.ser) = true := by
  have e : 3 ≤ ((opT 3 :: x.ser).getD 0 tm0).op := by show (3 : Int) ≤ 3; omega
  have ht := takeL_ser x h []
  rw [List.append_nil] at ht
  refine ⟨?_, ?_, by unfold partIs; rw [decide_eq_true e]⟩
  · unfold partA
    rw [if_pos e, List.drop_succ_cons, List.drop_zero, ht, Nat.add_comm, List.take_succ_cons, List.take_length, List.drop_succ_cons, List.drop_zero]
  · unfold partB
    rw [if_pos e, List.drop_succ_cons, List.drop_zero, ht, Nat.add_comm, List.drop_succ_cons, List.drop_length]
theorem part_bin {o : Int} {x y : FT} (ho : o = 4 ∨ o = 5) (h : x.good) : partA (opT o :: (x.ser ++ y.ser)) = x.ser ∧ partB (opT o :: (x.ser ++ y.ser)) = y.ser ∧ partIs (opT o :: (x.ser ++ y.ser)) = true := by
  have e : 3 ≤ ((opT o :: (x.ser ++ y.ser)).getD 0 tm0).op := by show (3 : Int) ≤ o; omega
  have ht := takeL_ser x h y.ser
  refine ⟨?_, ?_, by unfold partIs; rw [decide_eq_true e]⟩
  · unfold partA
    rw [if_pos e, List.drop_succ_cons, List.drop_zero, ht, Nat.add_comm, List.take_succ_cons, List.take_left, List.drop_succ_cons, List.drop_zero]
  · unfold partB
    rw [if_pos e, List.drop_succ_cons, List.drop_zero, ht, Nat.add_comm, List.drop_succ_cons, List.drop_left]
theorem own_lit5 (w : World) (y : TmD) : (w.alloc (.cells #[.int .i64 y.op, .int .i64 y.fld, .int .i64 y.rel, .int .i64 y.num, .string y.txt] 38)).ownsRow w.heap.size 38 5 (.slice (some ⟨w.heap.size, 0, none⟩) 1 1) 1 (tmcells [y]) := by
  have := own_cells w 38 5 1 #[.int .i64 y.op, .int .i64 y.fld, .int .i64 y.rel, .int .i64 y.num, .string y.txt] rfl (by simp [maxLen])
  simpa [tmcells, tmC] using this
set_option maxRecDepth 100000 in
set_option maxHeartbeats 4000000 in
theorem qrnot_leaf_false (w : World) (a : Option Addr) (n c : Nat) (t : TmD) (h3 : t.op = 1 ∨ t.op = 2) (hr : RO tmC w a n c [t]) (hs : tmS t) : Calls Tryd.prog 21 #[.slice a n c, .bool false] w (TmGives w [t]) := by
  obtain ⟨i0, z0, hi, hz, h5, h48, hz5⟩ := infoTmZ
  have hlen := hr.len
  simp only [List.length_cons, List.length_nil] at hlen
  subst hlen
  have q := qrparts_any w a 1 c [t] (Nat.le_refl _) hr (fun x hx => by simp at hx; rw [hx]; exact hs)
  obtain ⟨e1, e2, e3⟩ := part_leaf h3
  rw [e1, e2, e3] at q
  have q' := Lib.hid q
  have RW := Lib.hid hr
  clear q hr h3 e1 e2 e3 hs
  go_enter Tryd.func21, Tryd.ntmps21
  go_wp2_with fail
  refine q'.out.mono ?_
  rintro e u1 ⟨a1, c1, a2, c2, rfl, -, -, b1⟩
  have R1 := Lib.hid (RW.out.below b1)
  have B1 := Lib.hid b1
  have B3 := Lib.hid b1.size
  clear b1 q' RW
  obtain ⟨U, hU⟩ : ∃ U, U = u1.alloc (.cells #[] 38) := ⟨_, rfl⟩
  have bU : Below u1.heap.size u1 U := by rw [hU]; exact box_below _ _ _
  have own : Hid (U.ownsRow u1.heap.size 38 5 (.slice (some ⟨u1.heap.size, 0, none⟩) 0 0) 0 (tmcells [])) := Lib.hid (by rw [hU]; exact own_cells u1 38 5 0 #[] rfl (by simp [maxLen]))
  have R2 := Lib.hid (R1.out.below bU)
  have B2 := Lib.hid (B1.out.trans (bU.mono B1.out.size))
  have hU' := Lib.hid hU
  have hsz : u1.heap.size ≤ U.heap.size := bU.size
  have hsz' := Lib.hid hsz
  clear hU bU R1 B1 hsz
  go_wp2_with
    (at_builtin; go_loud (rw [← hU'.out])
     go_loud (refine wpList_append_base _ rfl (.tmp 22) (.tmp 23) 22 rfl u1.heap.size 38 i0 z0 5 48 Tryd.underlying22 hi hz h5 h48 hz5 (by decide) _ 0 (tmcells []) own.out hsz'.out _ a 1 _ (tmcells [t]) rfl R2.out.sees (fun u hu => tmcells_one hu) rfl rfl (by first | (simp [maxLen]; done) | (simp [maxLen]; omega)) (by omega) ?_)
     intro v7 W7 own7 grow7
     rw [← tmcells_app] at own7
     obtain ⟨a7, c7, rfl, hro⟩ := tro_own own7
     have hro' := Lib.hid hro
     have hf := Lib.hid (below_grown B2.out grow7 B2.out.size (fun k hk => Nat.le_trans B3.out (own.out.lt k hk).1))
     clear own7 grow7 hro)
  go_ret
  exact ⟨a7, c7, rfl, hro'.out, hf.out⟩
set_option maxRecDepth 100000 in
set_option maxHeartbeats 4000000 in
theorem qrnot_leaf_true (w : World) (a : Option Addr) (n c : Nat) (t : TmD) (h3 : t.op = 1 ∨ t.op = 2) (hr : RO tmC w a n c [t]) (hs : tmS t) : Calls Tryd.prog 21 #[.slice a n c, .bool true] w (TmGives w [opT 3, t]) := by
  obtain ⟨i0, z0, hi, hz, h5, h48, hz5⟩ := infoTmZ
  have hlen := hr.len
  simp only [List.length_cons, List.length_nil] at hlen
  subst hlen
  have q := qrparts_any w a 1 c [t] (Nat.le_refl _) hr (fun x hx => by simp at hx; rw [hx]; exact hs)
  obtain ⟨e1, e2, e3⟩ := part_leaf h3
  rw [e1, e2, e3] at q
  have q' := Lib.hid q
  have RW := Lib.hid hr
  clear q hr h3 e1 e2 e3 hs
  go_enter Tryd.func21, Tryd.ntmps21
  go_wp2_with fail
  refine q'.out.mono ?_
  rintro e u1 ⟨a1, c1, a2, c2, rfl, -, -, b1⟩
  have R1 := Lib.hid (RW.out.below b1)
  have B1 := Lib.hid b1
  have B3 := Lib.hid b1.size
  clear b1 q' RW
  obtain ⟨U, hU⟩ : ∃ U, U = u1.alloc (.cells #[.int .i64 3, .int .i64 0, .int .i64 0, .int .i64 0, .string ⟨#[]⟩] 38) := ⟨_, rfl⟩
  have bU : Below u1.heap.size u1 U := by rw [hU]; exact box_below _ _ _
  have own : Hid (U.ownsRow u1.heap.size 38 5 (.slice (some ⟨u1.heap.size, 0, none⟩) 1 1) 1 (tmcells [opT 3])) := Lib.hid (by rw [hU]; exact own_lit5 u1 (opT 3))
  have R2 := Lib.hid (R1.out.below bU)
  have B2 := Lib.hid (B1.out.trans (bU.mono B1.out.size))
  have hU' := Lib.hid hU
  have hsz : u1.heap.size ≤ U.heap.size := bU.size
  have hsz' := Lib.hid hsz
  clear hU bU R1 B1 hsz
  go_wp2_with
    (at_builtin; go_loud (rw [← hU'.out])
     go_loud (refine wpList_append_base _ rfl (.tmp 19) (.tmp 20) 22 rfl u1.heap.size 38 i0 z0 5 48 Tryd.underlying22 hi hz h5 h48 hz5 (by decide) _ 1 (tmcells [opT 3]) own.out hsz'.out _ a 1 _ (tmcells [t]) rfl R2.out.sees (fun u hu => tmcells_one hu) rfl rfl (by first | (simp [maxLen]; done) | (simp [maxLen]; omega)) (by omega) ?_)
     intro v7 W7 own7 grow7
     rw [← tmcells_app] at own7
     obtain ⟨a7, c7, rfl, hro⟩ := tro_own own7
     have hro' := Lib.hid hro
     have hf := Lib.hid (below_grown B2.out grow7 B2.out.size (fun k hk => Nat.le_trans B3.out (own.out.lt k hk).1))
     clear own7 grow7 hro)
  go_ret
  exact ⟨a7, c7, rfl, hro'.out, hf.out⟩
end Go.Proofs.YtknnjkhocbpohaaDoor
namespace Go.Proofs.YtknnjkhocbpohaaDoor
open Go.RowKit
set_option linter.unusedVariables false
set_option linter.unusedSimpArgs false
set_option maxRecDepth 100000 in
set_option maxHeartbeats 4000000 in
theorem qrnot_neg (w : World) (a : Option Addr) (n c : Nat) (x : FT) (hx : x.good) (b0 : Bool) (X : List TmD) (hr : RO tmC w a n c (opT 3 :: x.ser)) (hs : ∀ t ∈ opT 3 :: x.ser, tmS t)
    (ih : ∀ W a' c', RO tmC W a' x.ser.length c' x.ser → Calls Tryd.prog 21 #[.slice a' x.ser.length c', .bool (!b0)] W (TmGives W X)) : Calls Tryd.prog 21 #[.slice a n c, .bool b0] w (TmGives w X) := by
  have hlen := hr.len
  simp only [List.length_cons] at hlen
  have hn0 : (0 : Int) < (n : Int) := by omega
  have q := qrparts_any w a n c _ (by omega) hr hs
  obtain ⟨e1, e2, e3⟩ := part_neg hx
  rw [e1, e2, e3] at q
  have q' := Lib.hid q
  have RW := Lib.hid hr
  have ih' := Lib.hid ih
  obtain ⟨b, off, rfl, hbl, x0, -, -, -, -⟩ := tm_at hr (i := 0) (by omega)
  simp only [Nat.zero_mul, Nat.add_zero, List.getD_cons_zero] at x0
  have x0' : w.cell? ⟨b, off, none⟩ = some (.int .i64 3) := x0
  have xh := Lib.hid x0'
  clear q hr e1 e2 e3 hs ih x0 x0' hlen
  go_enter Tryd.func21, Tryd.ntmps21
  go_wp2_with fail
  refine q'.out.mono ?_
  rintro e u1 ⟨a1, c1, a2, c2, rfl, r1, -, b1⟩
  have y0 : u1.cell? ⟨b, off, none⟩ = some (.int .i64 3) := (b1.cell (p := ⟨b, off, none⟩) hbl).trans xh.out
  have q2 := Lib.hid (ih'.out u1 a1 c1 r1)
  have B1 := Lib.hid b1
  clear b1 q' RW r1 ih' xh
  go_wp2_with fail
  refine q2.out.mono ?_
  rintro e u2 ⟨a3, c3, rfl, r3, b3⟩
  have hf := Lib.hid (And.intro r3 (B1.out.trans (b3.mono B1.out.size)))
  clear b3 q2 r3 B1
  go_wp2
  go_ret
  exact ⟨a3, c3, rfl, hf.out.1, hf.out.2⟩
set_option maxRecDepth 100000 in
set_option maxHeartbeats 4000000 in
theorem qrnot_bin4f (w : World) (a : Option Addr) (n c : Nat) (x y : FT) (hx : x.good) (X Y : List TmD) (hX : X.length ≤ 100000) (hY : Y.length ≤ 100000) (hr : RO tmC w a n c (opT 4 :: (x.ser ++ y.ser))) (hs : ∀ t ∈ opT 4 :: (x.ser ++ y.ser), tmS t)
    (ih1 : ∀ W a' c', RO tmC W a' x.ser.length c' x.ser → Calls Tryd.prog 21 #[.slice a' x.ser.length c', .bool false] W (TmGives W X))
    (ih2 : ∀ W a' c', RO tmC W a' y.ser.length c' y.ser → Calls Tryd.prog 21 #[.slice a' y.ser.length c', .bool false] W (TmGives W Y)) : Calls Tryd.prog 21 #[.slice a n c, .bool false] w (TmGives w (opT 4 :: (X ++ Y))) := by
  obtain ⟨i0, z0, hi, hz, h5, h48, hz5⟩ := infoTmZ
  have hlen := hr.len
  simp only [List.length_cons] at hlen
  have hn0 : (0 : Int) < (n : Int) := by omega
  have q := qrparts_any w a n c _ (by omega) hr hs
  obtain ⟨e1, e2, e3⟩ := part_bin (o := 4) (y := y) (by omega) hx
  rw [e1, e2, e3] at q
  have q' := Lib.hid q
  have ih1' := Lib.hid ih1
  have ih2' := Lib.hid ih2
  obtain ⟨b, off, rfl, hbl, x0, -, -, -, -⟩ := tm_at hr (i := 0) (by omega)
  simp only [Nat.zero_mul, Nat.add_zero, List.getD_cons_zero] at x0
  have x0' : w.cell? ⟨b, off, none⟩ = some (.int .i64 4) := x0
  have xh := Lib.hid x0'
  have lX : Hid ((tmcells X).length = X.length * 5) := Lib.hid (tmcells_len X)
  have lY : Hid ((tmcells Y).length = Y.length * 5) := Lib.hid (tmcells_len Y)
  have hfin : Hid (tmcells ([opT 4] ++ X) ++ tmcells Y = tmcells (opT 4 :: (X ++ Y))) := Lib.hid (by rw [← tmcells_app]; simp)
  have hcnt : Hid (1 + X.length + Y.length = (opT 4 :: (X ++ Y)).length) := Lib.hid (by simp; omega)
  clear q hr e1 e2 e3 hs ih1 ih2 x0 x0' hlen
  go_enter Tryd.func21, Tryd.ntmps21
  go_wp2_with fail
  refine q'.out.mono ?_
  rintro e u1 ⟨a1, c1, a2, c2, rfl, r1, r2, b1⟩
  have y0 : u1.cell? ⟨b, off, none⟩ = some (.int .i64 4) := (b1.cell (p := ⟨b, off, none⟩) hbl).trans xh.out
  obtain ⟨U, hU⟩ : ∃ U, U = u1.alloc (.cells #[.int .i64 4, .int .i64 0, .int .i64 0, .int .i64 0, .string ⟨#[]⟩] 38) := ⟨_, rfl⟩
  have bU : Below u1.heap.size u1 U := by rw [hU]; exact box_below _ _ _
  have own : Hid (U.ownsRow u1.heap.size 38 5 (.slice (some ⟨u1.heap.size, 0, none⟩) 1 1) 1 (tmcells [opT 4])) := Lib.hid (by rw [hU]; exact own_lit5 u1 (opT 4))
  have q2 := Lib.hid (ih1'.out U a1 c1 (r1.below bU))
  have R2 := Lib.hid (r2.below bU)
  have hsl := Lib.hid r2.sees
  have BU := Lib.hid bU
  have B1 := Lib.hid b1
  have hU' := Lib.hid hU
  clear b1 q' r1 r2 ih1' xh hU bU
  go_wp2_with fail
  rw [← hU'.out]
  refine q2.out.mono ?_
  rintro e v2 ⟨a3, c3, rfl, r3, b3⟩
  have own2 := Lib.hid (own_below own.out b3)
  have B3 := Lib.hid (BU.out.trans (b3.mono BU.out.size))
  have R3 := Lib.hid (R2.out.below b3)
  have S3 := Lib.hid r3.sees
  clear b3 r3 q2 own R2 BU hU' y0
  go_wp2_with
    (at_builtin; refine wpList_append_base _ rfl (.tmp 43) (.tmp 46) 22 rfl u1.heap.size 38 i0 z0 5 48 Tryd.underlying22 hi hz h5 h48 hz5 (by decide) _ 1 (tmcells [opT 4]) own2.out B3.out.size _ a3 X.length _ (tmcells X) lX.out S3.out (fun u hu => tmcells_one hu) rfl rfl (by first | (simp [maxLen]; done) | (simp [maxLen]; omega)) (by omega) ?_
     intro v7 W7 own7 grow7
     rw [← tmcells_app] at own7
     have own8 := Lib.hid own7
     have B8 : Hid (Below u1.heap.size u1 W7) := Lib.hid (below_grown B3.out grow7 B3.out.size (fun k hk => (own2.out.lt k hk).1))
     have g8 := (Below.refl v2.heap.size v2)
     have R8 : Hid (RO tmC W7 a2 y.ser.length c2 y.ser) := Lib.hid (by
       exact ⟨R3.out.len, R3.out.cap, R3.out.max, (hsl.out.below B8.out).mono B8.out.size⟩)
     clear own7 grow7 S3 R3 B3 own2)
  obtain ⟨a9, c9, rfl, -⟩ := tro_own own8.out
  have q4 := Lib.hid (ih2'.out W7 a2 c2 R8.out)
  clear ih2' R8
  go_wp2_with fail
  refine q4.out.mono ?_
  rintro e v3 ⟨a5, c5, rfl, r5, b5⟩
  have own9 := Lib.hid (own_below own8.out b5)
  have B9 := Lib.hid (B8.out.trans (b5.mono B8.out.size))
  have S5 := Lib.hid r5.sees
  clear b5 r5 q4 own8 B8
  go_wp2_with
    (at_builtin; refine wpList_append_base _ rfl (.tmp 47) (.tmp 50) 22 rfl u1.heap.size 38 i0 z0 5 48 Tryd.underlying22 hi hz h5 h48 hz5 (by decide) _ (1 + X.length) (tmcells ([opT 4] ++ X)) own9.out B9.out.size _ a5 Y.length _ (tmcells Y) lY.out S5.out (fun u hu => tmcells_one hu) rfl rfl (by first | (simp [maxLen]; done) | (simp [maxLen]; omega)) (by omega) ?_
     intro v8 W8 own7 grow7
     have own10 : Hid (W8.ownsRow u1.heap.size 38 5 v8 (opT 4 :: (X ++ Y)).length (tmcells (opT 4 :: (X ++ Y)))) := Lib.hid (by rw [← hfin.out, ← hcnt.out]; exact own7)
     have hf := Lib.hid (B1.out.trans ((below_grown B9.out grow7 B9.out.size (fun k hk => (own9.out.lt k hk).1)).mono B1.out.size))
     clear own7 grow7 S5 B9 own9)
  obtain ⟨a10, c10, rfl, hro⟩ := tro_own own10.out
  have hro' := Lib.hid hro
  clear hro own10
  go_wp2
  go_ret
  exact ⟨a10, c10, rfl, hro'.out, hf.out⟩
set_option maxRecDepth 100000 in
set_option maxHeartbeats 4000000 in
theorem qrnot_bin5f (w : World) (a : Option Addr) (n c : Nat) (x y : FT) (hx : x.good) (X Y : List TmD) (hX : X.length ≤ 100000) (hY : Y.length ≤ 100000) (hr : RO tmC w a n c (opT 5 :: (x.ser ++ y.ser))) (hs : ∀ t ∈ opT 5 :: (x.ser ++ y.ser), tmS t)
    (ih1 : ∀ W a' c', RO tmC W a' x.ser.length c' x.ser → Calls Tryd.prog 21 #[.slice a' x.ser.length c', .bool false] W (TmGives W X))
    (ih2 : ∀ W a' c', RO tmC W a' y.ser.length c' y.ser → Calls Tryd.prog 21 #[.slice a' y.ser.length c', .bool false] W (TmGives W Y)) : Calls Tryd.prog 21 #[.slice a n c, .bool false] w (TmGives w (opT 5 :: (X ++ Y))) := by
  obtain ⟨i0, z0, hi, hz, h5, h48, hz5⟩ := infoTmZ
  have hlen := hr.len
  simp only [List.length_cons] at hlen
  have hn0 : (0 : Int) < (n : Int) := by omega
  have q := qrparts_any w a n c _ (by omega) hr hs
  obtain ⟨e1, e2, e3⟩ := part_bin (o := 5) (y := y) (by omega) hx
  rw [e1, e2, e3] at q
  have q' := Lib.hid q
  have ih1' := Lib.hid ih1
  have ih2' := Lib.hid ih2
  obtain ⟨b, off, rfl, hbl, x0, -, -, -, -⟩ := tm_at hr (i := 0) (by omega)
  simp only [Nat.zero_mul, Nat.add_zero, List.getD_cons_zero] at x0
  have x0' : w.cell? ⟨b, off, none⟩ = some (.int .i64 5) := x0
  have xh := Lib.hid x0'
  have lX : Hid ((tmcells X).length = X.length * 5) := Lib.hid (tmcells_len X)
  have lY : Hid ((tmcells Y).length = Y.length * 5) := Lib.hid (tmcells_len Y)
  have hfin : Hid (tmcells ([opT 5] ++ X) ++ tmcells Y = tmcells (opT 5 :: (X ++ Y))) := Lib.hid (by rw [← tmcells_app]; simp)
  have hcnt : Hid (1 + X.length + Y.length = (opT 5 :: (X ++ Y)).length) := Lib.hid (by simp; omega)
  clear q hr e1 e2 e3 hs ih1 ih2 x0 x0' hlen
  go_enter Tryd.func21, Tryd.ntmps21
  go_wp2_with fail
  refine q'.out.mono ?_
  rintro e u1 ⟨a1, c1, a2, c2, rfl, r1, r2, b1⟩
  have y0 : u1.cell? ⟨b, off, none⟩ = some (.int .i64 5) := (b1.cell (p := ⟨b, off, none⟩) hbl).trans xh.out
  obtain ⟨U, hU⟩ : ∃ U, U = u1.alloc (.cells #[.int .i64 5, .int .i64 0, .int .i64 0, .int .i64 0, .string ⟨#[]⟩] 38) := ⟨_, rfl⟩
  have bU : Below u1.heap.size u1 U := by rw [hU]; exact box_below _ _ _
  have own : Hid (U.ownsRow u1.heap.size 38 5 (.slice (some ⟨u1.heap.size, 0, none⟩) 1 1) 1 (tmcells [opT 5])) := Lib.hid (by rw [hU]; exact own_lit5 u1 (opT 5))
  have q2 := Lib.hid (ih1'.out U a1 c1 (r1.below bU))
  have R2 := Lib.hid (r2.below bU)
  have hsl := Lib.hid r2.sees
  have BU := Lib.hid bU
  have B1 := Lib.hid b1
  have hU' := Lib.hid hU
  clear b1 q' r1 r2 ih1' xh hU bU
  go_wp2_with fail
  rw [← hU'.out]
  refine q2.out.mono ?_
  rintro e v2 ⟨a3, c3, rfl, r3, b3⟩
  have own2 := Lib.hid (own_below own.out b3)
  have B3 := Lib.hid (BU.out.trans (b3.mono BU.out.size))
  have R3 := Lib.hid (R2.out.below b3)
  have S3 := Lib.hid r3.sees
  clear b3 r3 q2 own R2 BU hU' y0
  go_wp2_with
    (at_builtin; refine wpList_append_base _ rfl (.tmp 43) (.tmp 46) 22 rfl u1.heap.size 38 i0 z0 5 48 Tryd.underlying22 hi hz h5 h48 hz5 (by decide) _ 1 (tmcells [opT 5]) own2.out B3.out.size _ a3 X.length _ (tmcells X) lX.out S3.out (fun u hu => tmcells_one hu) rfl rfl (by first | (simp [maxLen]; done) | (simp [maxLen]; omega)) (by omega) ?_
     intro v7 W7 own7 grow7
     rw [← tmcells_app] at own7
     have own8 := Lib.hid own7
     have B8 : Hid (Below u1.heap.size u1 W7) := Lib.hid (below_grown B3.out grow7 B3.out.size (fun k hk => (own2.out.lt k hk).1))
     have g8 := (Below.refl v2.heap.size v2)
     have R8 : Hid (RO tmC W7 a2 y.ser.length c2 y.ser) := Lib.hid (by
       exact ⟨R3.out.len, R3.out.cap, R3.out.max, (hsl.out.below B8.out).mono B8.out.size⟩)
     clear own7 grow7 S3 R3 B3 own2)
  obtain ⟨a9, c9, rfl, -⟩ := tro_own own8.out
  have q4 := Lib.hid (ih2'.out W7 a2 c2 R8.out)
  clear ih2' R8
  go_wp2_with fail
  refine q4.out.mono ?_
  rintro e v3 ⟨a5, c5, rfl, r5, b5⟩
  have own9 := Lib.hid (own_below own8.out b5)
  have B9 := Lib.hid (B8.out.trans (b5.mono B8.out.size))
  have S5 := Lib.hid r5.sees
  clear b5 r5 q4 own8 B8
  go_wp2_with
    (at_builtin; refine wpList_append_base _ rfl (.tmp 47) (.tmp 50) 22 rfl u1.heap.size 38 i0 z0 5 48 Tryd.underlying22 hi hz h5 h48 hz5 (by decide) _ (1 + X.length) (tmcells ([opT 5] ++ X)) own9.out B9.out.size _ a5 Y.length _ (tmcells Y) lY.out S5.out (fun u hu => tmcells_one hu) rfl rfl (by first | (simp [maxLen]; done) | (simp [maxLen]; omega)) (by omega) ?_
     intro v8 W8 own7 grow7
     have own10 : Hid (W8.ownsRow u1.heap.size 38 5 v8 (opT 5 :: (X ++ Y)).length (tmcells (opT 5 :: (X ++ Y)))) := Lib.hid (by rw [← hfin.out, ← hcnt.out]; exact own7)
     have hf := Lib.hid (B1.out.trans ((below_grown B9.out grow7 B9.out.size (fun k hk => (own9.out.lt k hk).1)).mono B1.out.size))
     clear own7 grow7 S5 B9 own9)
  obtain ⟨a10, c10, rfl, hro⟩ := tro_own own10.out
  have hro' := Lib.hid hro
  clear hro own10
  go_wp2
  go_ret
  exact ⟨a10, c10, rfl, hro'.out, hf.out⟩
set_option maxRecDepth 100000 in
set_option maxHeartbeats 4000000 in
theorem qrnot_bin4t (w : World) (a : Option Addr) (n c : Nat) (x y : FT) (hx : x.good) (X Y : List TmD) (hX : X.length ≤ 100000) (hY : Y.length ≤ 100000) (hr : RO tmC w a n c (opT 4 :: (x.ser ++ y.ser))) (hs : ∀ t ∈ opT 4 :: (x.ser ++ y.ser), tmS t)
    (ih1 : ∀ W a' c', RO tmC W a' x.ser.length c' x.ser → Calls Tryd.prog 21 #[.slice a' x.ser.length c', .bool true] W (TmGives W X))
    (ih2 : ∀ W a' c', RO tmC W a' y.ser.length c' y.ser → Calls Tryd.prog 21 #[.slice a' y.ser.length c', .bool true] W (TmGives W Y)) : Calls Tryd.prog 21 #[.slice a n c, .bool true] w (TmGives w (opT 5 :: (X ++ Y))) := by
  obtain ⟨i0, z0, hi, hz, h5, h48, hz5⟩ := infoTmZ
  have hlen := hr.len
  simp only [List.length_cons] at hlen
  have hn0 : (0 : Int) < (n : Int) := by omega
  have q := qrparts_any w a n c _ (by omega) hr hs
  obtain ⟨e1, e2, e3⟩ := part_bin (o := 4) (y := y) (by omega) hx
  rw [e1, e2, e3] at q
  have q' := Lib.hid q
  have ih1' := Lib.hid ih1
  have ih2' := Lib.hid ih2
  obtain ⟨b, off, rfl, hbl, x0, -, -, -, -⟩ := tm_at hr (i := 0) (by omega)
  simp only [Nat.zero_mul, Nat.add_zero, List.getD_cons_zero] at x0
  have x0' : w.cell? ⟨b, off, none⟩ = some (.int .i64 4) := x0
  have xh := Lib.hid x0'
  have lX : Hid ((tmcells X).length = X.length * 5) := Lib.hid (tmcells_len X)
  have lY : Hid ((tmcells Y).length = Y.length * 5) := Lib.hid (tmcells_len Y)
  have hfin : Hid (tmcells ([opT 5] ++ X) ++ tmcells Y = tmcells (opT 5 :: (X ++ Y))) := Lib.hid (by rw [← tmcells_app]; simp)
  have hcnt : Hid (1 + X.length + Y.length = (opT 5 :: (X ++ Y)).length) := Lib.hid (by simp; omega)
  clear q hr e1 e2 e3 hs ih1 ih2 x0 x0' hlen
  go_enter Tryd.func21, Tryd.ntmps21
  go_wp2_with fail
  refine q'.out.mono ?_
  rintro e u1 ⟨a1, c1, a2, c2, rfl, r1, r2, b1⟩
  have y0 : u1.cell? ⟨b, off, none⟩ = some (.int .i64 4) := (b1.cell (p := ⟨b, off, none⟩) hbl).trans xh.out
  obtain ⟨U, hU⟩ : ∃ U, U = u1.alloc (.cells #[.int .i64 5, .int .i64 0, .int .i64 0, .int .i64 0, .string ⟨#[]⟩] 38) := ⟨_, rfl⟩
  have bU : Below u1.heap.size u1 U := by rw [hU]; exact box_below _ _ _
  have own : Hid (U.ownsRow u1.heap.size 38 5 (.slice (some ⟨u1.heap.size, 0, none⟩) 1 1) 1 (tmcells [opT 5])) := Lib.hid (by rw [hU]; exact own_lit5 u1 (opT 5))
  have q2 := Lib.hid (ih1'.out U a1 c1 (r1.below bU))
  have R2 := Lib.hid (r2.below bU)
  have hsl := Lib.hid r2.sees
  have BU := Lib.hid bU
  have B1 := Lib.hid b1
  have hU' := Lib.hid hU
  clear b1 q' r1 r2 ih1' xh hU bU
  go_wp2_with fail
  rw [← hU'.out]
  refine q2.out.mono ?_
  rintro e v2 ⟨a3, c3, rfl, r3, b3⟩
  have own2 := Lib.hid (own_below own.out b3)
  have B3 := Lib.hid (BU.out.trans (b3.mono BU.out.size))
  have R3 := Lib.hid (R2.out.below b3)
  have S3 := Lib.hid r3.sees
  clear b3 r3 q2 own R2 BU hU' y0
  go_wp2_with
    (at_builtin; refine wpList_append_base _ rfl (.tmp 43) (.tmp 46) 22 rfl u1.heap.size 38 i0 z0 5 48 Tryd.underlying22 hi hz h5 h48 hz5 (by decide) _ 1 (tmcells [opT 5]) own2.out B3.out.size _ a3 X.length _ (tmcells X) lX.out S3.out (fun u hu => tmcells_one hu) rfl rfl (by first | (simp [maxLen]; done) | (simp [maxLen]; omega)) (by omega) ?_
     intro v7 W7 own7 grow7
     rw [← tmcells_app] at own7
     have own8 := Lib.hid own7
     have B8 : Hid (Below u1.heap.size u1 W7) := Lib.hid (below_grown B3.out grow7 B3.out.size (fun k hk => (own2.out.lt k hk).1))
     have g8 := (Below.refl v2.heap.size v2)
     have R8 : Hid (RO tmC W7 a2 y.ser.length c2 y.ser) := Lib.hid (by
       exact ⟨R3.out.len, R3.out.cap, R3.out.max, (hsl.out.below B8.out).mono B8.out.size⟩)
     clear own7 grow7 S3 R3 B3 own2)
  obtain ⟨a9, c9, rfl, -⟩ := tro_own own8.out
  have q4 := Lib.hid (ih2'.out W7 a2 c2 R8.out)
  clear ih2' R8
  go_wp2_with fail
  refine q4.out.mono ?_
  rintro e v3 ⟨a5, c5, rfl, r5, b5⟩
  have own9 := Lib.hid (own_below own8.out b5)
  have B9 := Lib.hid (B8.out.trans (b5.mono B8.out.size))
  have S5 := Lib.hid r5.sees
  clear b5 r5 q4 own8 B8
  go_wp2_with
    (at_builtin; refine wpList_append_base _ rfl (.tmp 47) (.tmp 50) 22 rfl u1.heap.size 38 i0 z0 5 48 Tryd.underlying22 hi hz h5 h48 hz5 (by decide) _ (1 + X.length) (tmcells ([opT 5] ++ X)) own9.out B9.out.size _ a5 Y.length _ (tmcells Y) lY.out S5.out (fun u hu => tmcells_one hu) rfl rfl (by first | (simp [maxLen]; done) | (simp [maxLen]; omega)) (by omega) ?_
     intro v8 W8 own7 grow7
     have own10 : Hid (W8.ownsRow u1.heap.size 38 5 v8 (opT 5 :: (X ++ Y)).length (tmcells (opT 5 :: (X ++ Y)))) := Lib.hid (by rw [← hfin.out, ← hcnt.out]; exact own7)
     have hf := Lib.hid (B1.out.trans ((below_grown B9.out grow7 B9.out.size (fun k hk => (own9.out.lt k hk).1)).mono B1.out.size))
     clear own7 grow7 S5 B9 own9)
  obtain ⟨a10, c10, rfl, hro⟩ := tro_own own10.out
  have hro' := Lib.hid hro
  clear hro own10
  go_wp2
  go_ret
  exact ⟨a10, c10, rfl, hro'.out, hf.out⟩
set_option maxRecDepth 100000 in
set_option maxHeartbeats 4000000 in
theorem qrnot_bin5t (w : World) (a : Option Addr) (n c : Nat) (x y : FT) (hx : x.good) (X Y : List TmD) (hX : X.length ≤ 100000) (hY : Y.length ≤ 100000) (hr : RO tmC w a n c (opT 5 :: (x.ser ++ y.ser))) (hs : ∀ t ∈ opT 5 :: (x.ser ++ y.ser), tmS t)
    (ih1 : ∀ W a' c', RO tmC W a' x.ser.length c' x.ser → Calls Tryd.prog 21 #[.slice a' x.ser.length c', .bool true] W (TmGives W X))
    (ih2 : ∀ W a' c', RO tmC W a' y.ser.length c' y.ser → Calls Tryd.prog 21 #[.slice a' y.ser.length c', .bool true] W (TmGives W Y)) : Calls Tryd.prog 21 #[.slice a n c, .bool true] w (TmGives w (opT 4 :: (X ++ Y))) := by
  obtain ⟨i0, z0, hi, hz, h5, h48, hz5⟩ := infoTmZ
  have hlen := hr.len
  simp only [List.length_cons] at hlen
  have hn0 : (0 : Int) < (n : Int) := by omega
  have q := qrparts_any w a n c _ (by omega) hr hs
  obtain ⟨e1, e2, e3⟩ := part_bin (o := 5) (y := y) (by omega) hx
  rw [e1, e2, e3] at q
  have q' := Lib.hid q
  have ih1' := Lib.hid ih1
  have ih2' := Lib.hid ih2
  obtain ⟨b, off, rfl, hbl, x0, -, -, -, -⟩ := tm_at hr (i := 0) (by omega)
  simp only [Nat.zero_mul, Nat.add_zero, List.getD_cons_zero] at x0
  have x0' : w.cell? ⟨b, off, none⟩ = some (.int .i64 5) := x0
  have xh := Lib.hid x0'
  have lX : Hid ((tmcells X).length = X.length * 5) := Lib.hid (tmcells_len X)
  have lY : Hid ((tmcells Y).length = Y.length * 5) := Lib.hid (tmcells_len Y)
  have hfin : Hid (tmcells ([opT 4] ++ X) ++ tmcells Y = tmcells (opT 4 :: (X ++ Y))) := Lib.hid (by rw [← tmcells_app]; simp)
  have hcnt : Hid (1 + X.length + Y.length = (opT 4 :: (X ++ Y)).length) := Lib.hid (by simp; omega)
  clear q hr e1 e2 e3 hs ih1 ih2 x0 x0' hlen
  go_enter Tryd.func21, Tryd.ntmps21
  go_wp2_with fail
  refine q'.out.mono ?_
  rintro e u1 ⟨a1, c1, a2, c2, rfl, r1, r2, b1⟩
  have y0 : u1.cell? ⟨b, off, none⟩ = some (.int .i64 5) := (b1.cell (p := ⟨b, off, none⟩) hbl).trans xh.out
  obtain ⟨U, hU⟩ : ∃ U, U = u1.alloc (.cells #[.int .i64 4, .int .i64 0, .int .i64 0, .int .i64 0, .string ⟨#[]⟩] 38) := ⟨_, rfl⟩
  have bU : Below u1.heap.size u1 U := by rw [hU]; exact box_below _ _ _
  have own : Hid (U.ownsRow u1.heap.size 38 5 (.slice (some ⟨u1.heap.size, 0, none⟩) 1 1) 1 (tmcells [opT 4])) := Lib.hid (by rw [hU]; exact own_lit5 u1 (opT 4))
  have q2 := Lib.hid (ih1'.out U a1 c1 (r1.below bU))
  have R2 := Lib.hid (r2.below bU)
  have hsl := Lib.hid r2.sees
  have BU := Lib.hid bU
  have B1 := Lib.hid b1
  have hU' := Lib.hid hU
  clear b1 q' r1 r2 ih1' xh hU bU
  go_wp2_with fail
  rw [← hU'.out]
  refine q2.out.mono ?_
  rintro e v2 ⟨a3, c3, rfl, r3, b3⟩
  have own2 := Lib.hid (own_below own.out b3)
  have B3 := Lib.hid (BU.out.trans (b3.mono BU.out.size))
  have R3 := Lib.hid (R2.out.below b3)
  have S3 := Lib.hid r3.sees
  clear b3 r3 q2 own R2 BU hU' y0
  go_wp2_with
    (at_builtin; refine wpList_append_base _ rfl (.tmp 43) (.tmp 46) 22 rfl u1.heap.size 38 i0 z0 5 48 Tryd.underlying22 hi hz h5 h48 hz5 (by decide) _ 1 (tmcells [opT 4]) own2.out B3.out.size _ a3 X.length _ (tmcells X) lX.out S3.out (fun u hu => tmcells_one hu) rfl rfl (by first | (simp [maxLen]; done) | (simp [maxLen]; omega)) (by omega) ?_
     intro v7 W7 own7 grow7
     rw [← tmcells_app] at own7
     have own8 := Lib.hid own7
     have B8 : Hid (Below u1.heap.size u1 W7) := Lib.hid (below_grown B3.out grow7 B3.out.size (fun k hk => (own2.out.lt k hk).1))
     have g8 := (Below.refl v2.heap.size v2)
     have R8 : Hid (RO tmC W7 a2 y.ser.length c2 y.ser) := Lib.hid (by
       exact ⟨R3.out.len, R3.out.cap, R3.out.max, (hsl.out.below B8.out).mono B8.out.size⟩)
     clear own7 grow7 S3 R3 B3 own2)
  obtain ⟨a9, c9, rfl, -⟩ := tro_own own8.out
  have q4 := Lib.hid (ih2'.out W7 a2 c2 R8.out)
  clear ih2' R8
  go_wp2_with fail
  refine q4.out.mono ?_
  rintro e v3 ⟨a5, c5, rfl, r5, b5⟩
  have own9 := Lib.hid (own_below own8.out b5)
  have B9 := Lib.hid (B8.out.trans (b5.mono B8.out.size))
  have S5 := Lib.hid r5.sees
  clear b5 r5 q4 own8 B8
  go_wp2_with
    (at_builtin; refine wpList_append_base _ rfl (.tmp 47) (.tmp 50) 22 rfl u1.heap.size 38 i0 z0 5 48 Tryd.underlying22 hi hz h5 h48 hz5 (by decide) _ (1 + X.length) (tmcells ([opT 4] ++ X)) own9.out B9.out.size _ a5 Y.length _ (tmcells Y) lY.out S5.out (fun u hu => tmcells_one hu) rfl rfl (by first | (simp [maxLen]; done) | (simp [maxLen]; omega)) (by omega) ?_
     intro v8 W8 own7 grow7
     have own10 : Hid (W8.ownsRow u1.heap.size 38 5 v8 (opT 4 :: (X ++ Y)).length (tmcells (opT 4 :: (X ++ Y)))) := Lib.hid (by rw [← hfin.out, ← hcnt.out]; exact own7)
     have hf := Lib.hid (B1.out.trans ((below_grown B9.out grow7 B9.out.size (fun k hk => (own9.out.lt k hk).1)).mono B1.out.size))
     clear own7 grow7 S5 B9 own9)
  obtain ⟨a10, c10, rfl, hro⟩ := tro_own own10.out
  have hro' := Lib.hid hro
  clear hro own10
  go_wp2
  go_ret
  exact ⟨a10, c10, rfl, hro'.out, hf.out⟩
theorem qrnot_any : ∀ (f : FT), f.good → ∀ (b0 : Bool) (w : World) (a : Option Addr) (n c : Nat), RO tmC w a n c f.ser → (∀ t ∈ f.ser, tmS t) → f.ser.length ≤ 1000 → Calls Tryd.prog 21 #[.slice a n c, .bool b0] w (TmGives w (notT b0 f).ser)
  | .leaf t, hf, false, w, a, n, c, hr, hs, _ => qrnot_leaf_false w a n c t hf.2 hr (hs t (by simp [FT.ser]))
  | .leaf t, hf, true, w, a, n, c, hr, hs, _ => qrnot_leaf_true w a n c t hf.2 hr (hs t (by simp [FT.ser]))
  | .neg x, hf, b0, w, a, n, c, hr, hs, hl => by
    have e : notT b0 (.neg x) = notT (!b0) x := by cases b0 <;> rfl
    rw [e]
    simp only [FT.ser, List.length_cons] at hl
    exact qrnot_neg w a n c x hf b0 _ hr hs (fun W a' c' h => qrnot_any x hf (!b0) W a' _ c' h (fun t ht => hs t (List.mem_cons_of_mem _ ht)) (by omega))
  | .bin o x y, hf, b0, w, a, n, c, hr, hs, hl => by
    obtain ⟨ho, hx, hy⟩ := hf
    simp only [FT.ser, List.length_cons, List.length_append] at hl
    have l1 := notT_ser_len x b0
    have l2 := notT_ser_len y b0
    have i1 := fun W a' c' h => qrnot_any x hx b0 W a' x.ser.length c' h (fun t ht => hs t (List.mem_cons_of_mem _ (List.mem_append_left _ ht))) (by omega)
    have i2 := fun W a' c' h => qrnot_any y hy b0 W a' y.ser.length c' h (fun t ht => hs t (List.mem_cons_of_mem _ (List.mem_append_right _ ht))) (by omega)
    cases b0
    · rcases ho with rfl | rfl
      · exact qrnot_bin4f w a n c x y hx _ _ (by omega) (by omega) hr hs i1 i2
      · exact qrnot_bin5f w a n c x y hx _ _ (by omega) (by omega) hr hs i1 i2
    · rcases ho with rfl | rfl
      · exact qrnot_bin4t w a n c x y hx _ _ (by omega) (by omega) hr hs i1 i2
      · exact qrnot_bin5t w a n c x y hx _ _ (by omega) (by omega) hr hs i1 i2
end Go.Proofs.YtknnjkhocbpohaaDoor
namespace Go.Proofs.YtknnjkhocbpohaaDoor
open Go.RowKit
set_option linter.unusedVariables false
set_option linter.unusedSimpArgs false
def cL : TmD := ⟨2, 4, 5, 3, eB⟩
def fL : FT := .bin 4 (.leaf cL) (.neg (.leaf (opT 1)))
theorem fL_good : fL.good := by
  refine ⟨.inl rfl, ⟨by decide +kernel, .inr rfl⟩, ⟨by decide +kernel, .inl rfl⟩⟩
theorem fL_filt : filtE fL.ser = 0 := by rw [filtE_ser fL_good]; decide
theorem fL_nest : nestN fL.ser = 3 := by
  unfold nestN
  rw [if_pos fL_filt]
  have := takeL_ser fL fL_good []
  rw [List.append_nil] at this
  rw [this]
  rfl
theorem fL_part : partA fL.ser = [cL] ∧ partB fL.ser = [opT 3, opT 1] ∧ partIs fL.ser = true := part_bin (o := 4) (x := .leaf cL) (y := .neg (.leaf (opT 1))) (.inl rfl) ⟨by decide +kernel, .inr rfl⟩
theorem fL_not : (notT true fL).ser = [opT 5, opT 3, cL, opT 1] := rfl
theorem two_bad : filtE [opT 4, cL] = 320 := by
  have h : takeL [opT 4, cL] = (0, 0) := by
    have h1 : takeL [cL] = (1, 1) := takeL_ser (.leaf cL) ⟨by decide +kernel, .inr rfl⟩ []
    rw [takeL_cons, if_pos (right_opT (by omega)), if_neg (by decide), h1, if_neg (by decide), if_neg (by decide)]
    rfl
  unfold filtE
  rw [if_neg (by decide), h, if_pos (.inl rfl)]
theorem plain_ok : chkQ ⟨[opT 1], 10, 0, 0, 100⟩ = 0 ∧ chkQ ⟨[opT 1], 10, 0, 0, 0⟩ = 320 := by
  have h1 : filtE [opT 1] = 0 := by
    have := filtE_ser (f := .leaf (opT 1)) ⟨by decide +kernel, .inl rfl⟩
    rw [show (FT.leaf (opT 1)).ser = [opT 1] from rfl] at this
    rw [this]
    decide
  exact ⟨by rw [chkQ_ok (by exact h1)]; decide, by rw [chkQ_ok (by exact h1)]; decide⟩
theorem ro_lit (w : World) (l : List TmD) (cs : Array Value) (n : Nat) (hc : cs.toList = l.flatMap tmC) (hn : n = l.length) (hm : n ≤ 1000) : RO tmC (w.alloc (.cells cs 38)) (some ⟨w.heap.size, 0, none⟩) n n l :=
  ⟨hn, Nat.le_refl _, by unfold maxLen; omega, by have := seesC_lit w 38 cs; rw [hc] at this; exact this⟩
theorem sm_lit {l : List TmD} (h : l.all (fun t => decide (t.txt.size ≤ 10)) = true) : ∀ t ∈ l, tmS t := by
  intro t ht
  have := List.all_eq_true.1 h t ht
  rw [decide_eq_true_eq] at this
  unfold tmS
  omega
set_option maxRecDepth 100000 in
set_option maxHeartbeats 8000000 in
theorem asklives_any (w : World) (ht : ATab w) : Calls Tryd.prog 8 #[] w (Gives (.bool true) w) := by
  obtain ⟨W1, hW1⟩ : ∃ W1, W1 = w.alloc (.cells #[.int .i64 2, .int .i64 4, .int .i64 5, .int .i64 3, .string ⟨#[]⟩] 38) := ⟨_, rfl⟩
  obtain ⟨W2, hW2⟩ : ∃ W2, W2 = W1.alloc (.cells #[.int .i64 4, .int .i64 0, .int .i64 0, .int .i64 0, .string ⟨#[]⟩, .int .i64 2, .int .i64 4, .int .i64 5, .int .i64 3, .string ⟨#[]⟩, .int .i64 3, .int .i64 0, .int .i64 0, .int .i64 0, .string ⟨#[]⟩, .int .i64 1, .int .i64 0, .int .i64 0, .int .i64 0, .string ⟨#[]⟩] 38) := ⟨_, rfl⟩
  have b1 : Below w.heap.size w W1 := by rw [hW1]; exact box_below _ _ _
  have b2 : Below W1.heap.size W1 W2 := by rw [hW2]; exact box_below _ _ _
  have b12 := b1.trans (b2.mono b1.size)
  have HC : Hid (Holds W2 w.heap.size 38 #[.int .i64 2, .int .i64 4, .int .i64 5, .int .i64 3, .string ⟨#[]⟩]) := Lib.hid (by rw [hW2, hW1]; exact (Holds.new _ _ _).alloc _)
  have z1 : W1.heap.size = w.heap.size + 1 := by rw [hW1]; simp
  have RL0 : RO tmC W2 (some ⟨w.heap.size + 1, 0, none⟩) 4 4 fL.ser := by rw [hW2, ← z1]; exact ro_lit W1 fL.ser _ 4 rfl rfl (by omega)
  have TW := Lib.hid (ht.on b12)
  have q3 := qparts_ok W2 _ 4 4 fL.ser RL0 (sm_lit (by decide +kernel)) TW.out fL_filt
  rw [fL_part.1, fL_part.2.1, fL_part.2.2] at q3
  have Q3 := Lib.hid q3
  have QN := Lib.hid (fun W (hr : RO tmC W (some ⟨w.heap.size + 1, 0, none⟩) 4 4 fL.ser) hT => qnot_ok W _ 4 4 fL fL_good fL_filt hr (sm_lit (by decide +kernel)) hT)
  rw [fL_not] at QN
  have RL := Lib.hid RL0
  have BL := Lib.hid b12
  have hh := Lib.hid (And.intro hW1 hW2)
  have hz := Lib.hid z1
  have c0 := HC.out.cell 0
  clear c0 hW1 hW2 b1 b2 b12 z1 RL0 q3 ht
  go_enter Tryd.func8, Tryd.ntmps8
  go_wp2_with fail
  rw [← hh.out.1, ← hh.out.2]
  with_reducible refine Q3.out.mono ?_
  rintro e u3 ⟨a3, c3, a4, c4, rfl, r3, r4, b3⟩
  have R3 := Lib.hid r3
  have R4 := Lib.hid r4
  replace RL := Lib.hid (RL.out.below b3)
  replace HC := Lib.hid (HC.out.below b3 HC.out.lt)
  replace TW := Lib.hid (TW.out.on b3)
  replace BL := Lib.hid (BL.out.trans (b3.mono BL.out.size))
  have QN2 := Lib.hid (QN.out u3 RL.out TW.out)
  clear Q3 QN r3 r4 b3 hh
  go_wp2_with fail
  with_reducible refine QN2.out.mono ?_
  rintro e u4 ⟨a5, c5, rfl, r5, b4⟩
  have R5 := Lib.hid r5
  replace R3 := Lib.hid (R3.out.below b4)
  replace R4 := Lib.hid (R4.out.below b4)
  replace RL := Lib.hid (RL.out.below b4)
  replace HC := Lib.hid (HC.out.below b4 HC.out.lt)
  replace TW := Lib.hid (TW.out.on b4)
  replace BL := Lib.hid (BL.out.trans (b4.mono BL.out.size))
  have QP := Lib.hid (qplain_any u4)
  clear QN2 r5 b4
  go_wp2_with fail
  with_reducible refine QP.out.mono ?_
  rintro e u5 ⟨a6, rfl, r6, b5⟩
  have R6 := Lib.hid r6
  replace R5 := Lib.hid (R5.out.below b5)
  replace R3 := Lib.hid (R3.out.below b5)
  replace R4 := Lib.hid (R4.out.below b5)
  replace RL := Lib.hid (RL.out.below b5)
  replace HC := Lib.hid (HC.out.below b5 HC.out.lt)
  replace TW := Lib.hid (TW.out.on b5)
  replace BL := Lib.hid (BL.out.trans (b5.mono BL.out.size))
  clear QP r6 b5
  go_wp2
  obtain ⟨V, hV⟩ : ∃ V, V = (u5.alloc (.cells #[.slice a6 1 1, .int .i64 10, .int .i64 0, .int .i64 0, .int .i64 100] 24)).alloc (.cells #[.slice a6 1 1, .int .i64 10, .int .i64 0, .int .i64 0, .int .i64 0] 24) := ⟨_, rfl⟩
  have bV : Below u5.heap.size u5 V := by rw [hV]; exact box2_below _ _ _ _ _
  have HQ : Hid (Holds V u5.heap.size 24 #[.slice a6 1 1, .int .i64 10, .int .i64 0, .int .i64 0, .int .i64 100]) := Lib.hid (by rw [hV]; exact (Holds.new _ _ _).alloc _)
  have HR : Hid (Holds V (u5.heap.size + 1) 24 #[.slice a6 1 1, .int .i64 10, .int .i64 0, .int .i64 0, .int .i64 0]) := Lib.hid (by
    rw [hV]
    have := Holds.new (u5.alloc (.cells #[.slice a6 1 1, .int .i64 10, .int .i64 0, .int .i64 0, .int .i64 100] 24)) 24 #[.slice a6 1 1, .int .i64 10, .int .i64 0, .int .i64 0, .int .i64 0]
    rwa [show (u5.alloc (.cells #[.slice a6 1 1, .int .i64 10, .int .i64 0, .int .i64 0, .int .i64 100] 24)).heap.size = u5.heap.size + 1 by simp] at this)
  replace R6 := Lib.hid (R6.out.below bV)
  replace R5 := Lib.hid (R5.out.below bV)
  replace R3 := Lib.hid (R3.out.below bV)
  replace R4 := Lib.hid (R4.out.below bV)
  replace RL := Lib.hid (RL.out.below bV)
  replace HC := Lib.hid (HC.out.below bV HC.out.lt)
  replace TW := Lib.hid (TW.out.on bV)
  replace BL := Lib.hid (BL.out.trans (bV.mono BL.out.size))
  have hV' := Lib.hid hV
  have hsz := Lib.hid bV.size
  obtain ⟨gq, hgq⟩ : ∃ gq, gq = u5.heap.size := ⟨_, rfl⟩
  rw [← hV, ← hgq]
  rw [← hgq] at HQ HR
  clear hV bV hV' hsz hgq
  obtain ⟨gl, hgl⟩ : ∃ gl, gl = w.heap.size + 1 := ⟨_, rfl⟩
  rw [← hgl] at RL
  rw [← hgl]
  clear hgl
  have R3a : Hid (RO tmC V a3 1 c3 [cL]) := R3
  have R5a : Hid (RO tmC V a5 4 c5 [opT 5, opT 3, cL, opT 1]) := R5
  obtain ⟨gc, hgc⟩ : ∃ gc, gc = w.heap.size := ⟨_, rfl⟩
  have BL' : Hid (Below w.heap.size w V) := BL
  rw [← hgc] at HC ⊢
  have hgc' := Lib.hid hgc
  clear hgc BL
  have F1 := Lib.hid (fun W (hW : Below V.heap.size V W) => by
    have q := qfilter_any W _ 4 4 fL.ser (RL.out.below hW) (sm_lit (by decide +kernel)) (TW.out.on hW)
    rw [fL_filt] at q
    exact q)
  have F5 := Lib.hid (fun W (hW : Below V.heap.size V W) => by
    have q := qnest_any W _ 4 4 fL.ser (RL.out.below hW) (sm_lit (by decide +kernel)) (TW.out.on hW)
    rw [fL_nest] at q
    exact q)
  have FS : Hid (∀ W A B n ca cb l, RO tmC W A n ca l → RO tmC W B n cb l → Calls Tryd.prog 19 #[.slice A n ca, .slice B n cb] W (Gives (.bool true) W)) := Lib.hid (fun W A B n ca cb l h1 h2 => by
    have q := tmSame_any A B n n ca cb l l W h1 h2
    rw [show sameT5 l l = true by unfold sameT5; simp] at q
    exact q.mono fun e w' h => drawnT_gives h)
  obtain ⟨a8, hc8, r8⟩ := ro_cut RL.out 0 2 (by omega) (by omega)
  have hcut : ∀ W, (Instr.slice 22 (.slice (some ⟨gl, 0, none⟩) 4 4) none (some (.int .i64 2)) none).run Tryd.prog W = .ok (.slice a8 2 4) W := ccut_h under_tm size_tm _ 4 4 2 hc8 (by omega)
  have R8 : Hid (RO tmC V a8 2 4 [opT 4, cL]) := Lib.hid r8
  have F38 := Lib.hid (fun W (hW : Below V.heap.size V W) => by
    have q := qfilter_any W _ 2 4 [opT 4, cL] (R8.out.below hW) (sm_lit (by decide +kernel)) (TW.out.on hW)
    rw [two_bad] at q
    exact q)
  have F43 := Lib.hid (fun W (hW : Below V.heap.size V W) => by
    have q := qcheck_any W _ 1 1 ⟨[opT 1], 10, 0, 0, 100⟩ (R6.out.below hW) (sm_lit (by decide +kernel)) (TW.out.on hW)
    rw [plain_ok.1] at q
    exact q)
  have F48 := Lib.hid (fun W (hW : Below V.heap.size V W) => by
    have q := qcheck_any W _ 1 1 ⟨[opT 1], 10, 0, 0, 0⟩ (R6.out.below hW) (sm_lit (by decide +kernel)) (TW.out.on hW)
    rw [plain_ok.2] at q
    exact q)
  have F58 := Lib.hid (fun W => qplain_any W)
  have F59 : Hid (∀ W A, Below V.heap.size V W → RO tmC W A 1 1 [opT 1] → Calls Tryd.prog 15 #[.agg #[.slice a6 1 1, .int .i64 10, .int .i64 0, .int .i64 0, .int .i64 100], .agg #[.slice A 1 1, .int .i64 10, .int .i64 0, .int .i64 0, .int .i64 100]] W (Gives (.bool true) W)) := Lib.hid (fun W A hW hA => by
    have q := qsame_any W a6 1 1 ⟨[opT 1], 10, 0, 0, 100⟩ A 1 1 ⟨[opT 1], 10, 0, 0, 100⟩ (R6.out.below hW) hA
    rw [show sameQ ⟨[opT 1], 10, 0, 0, 100⟩ ⟨[opT 1], 10, 0, 0, 100⟩ = true by unfold sameQ sameT5; simp] at q
    exact q)
  clear hc8 r8
  have p0 : ∀ W, Below V.heap.size V W → W.cell? ⟨gc, 0, none⟩ = some (.int .i64 2) := fun W hW => (HC.out.below hW HC.out.lt).cell 0
  have p1 : ∀ W, Below V.heap.size V W → W.cell? ⟨gc, 1, none⟩ = some (.int .i64 4) := fun W hW => (HC.out.below hW HC.out.lt).cell 1
  have p2 : ∀ W, Below V.heap.size V W → W.cell? ⟨gc, 2, none⟩ = some (.int .i64 5) := fun W hW => (HC.out.below hW HC.out.lt).cell 2
  have p3 : ∀ W, Below V.heap.size V W → W.cell? ⟨gc, 3, none⟩ = some (.int .i64 3) := fun W hW => (HC.out.below hW HC.out.lt).cell 3
  have p4 : ∀ W, Below V.heap.size V W → W.cell? ⟨gc, 4, none⟩ = some (.string ⟨#[]⟩) := fun W hW => (HC.out.below hW HC.out.lt).cell 4
  have s0 : ∀ W, Below V.heap.size V W → W.cell? ⟨gq, 0, none⟩ = some (Value.slice a6 1 1) := fun W hW => (HQ.out.below hW HQ.out.lt).cell 0
  have s1 : ∀ W, Below V.heap.size V W → W.cell? ⟨gq, 1, none⟩ = some (.int .i64 10) := fun W hW => (HQ.out.below hW HQ.out.lt).cell 1
  have s2 : ∀ W, Below V.heap.size V W → W.cell? ⟨gq, 2, none⟩ = some (.int .i64 0) := fun W hW => (HQ.out.below hW HQ.out.lt).cell 2
  have s3 : ∀ W, Below V.heap.size V W → W.cell? ⟨gq, 3, none⟩ = some (.int .i64 0) := fun W hW => (HQ.out.below hW HQ.out.lt).cell 3
  have s4 : ∀ W, Below V.heap.size V W → W.cell? ⟨gq, 4, none⟩ = some (.int .i64 100) := fun W hW => (HQ.out.below hW HQ.out.lt).cell 4
  have r0 : ∀ W, Below V.heap.size V W → W.cell? ⟨gq + 1, 0, none⟩ = some (Value.slice a6 1 1) := fun W hW => (HR.out.below hW HR.out.lt).cell 0
  have r1 : ∀ W, Below V.heap.size V W → W.cell? ⟨gq + 1, 1, none⟩ = some (.int .i64 10) := fun W hW => (HR.out.below hW HR.out.lt).cell 1
  have r2 : ∀ W, Below V.heap.size V W → W.cell? ⟨gq + 1, 2, none⟩ = some (.int .i64 0) := fun W hW => (HR.out.below hW HR.out.lt).cell 2
  have r3 : ∀ W, Below V.heap.size V W → W.cell? ⟨gq + 1, 3, none⟩ = some (.int .i64 0) := fun W hW => (HR.out.below hW HR.out.lt).cell 3
  have r4 : ∀ W, Below V.heap.size V W → W.cell? ⟨gq + 1, 4, none⟩ = some (.int .i64 0) := fun W hW => (HR.out.below hW HR.out.lt).cell 4
  refine wp_drawn_on (fun W => Below V.heap.size V W) (by kernel_rfl) ((Below.refl _ _).drew) (fun hHeld => ?_)
  refine wT 0 (v := ?v1) rfl (by kernel_rfl) (fun _ _ _ h => h) ?h1 (by assumption) ?r1
  case h1 => (intro w hSw; (try dsimp only at hSw); go_simp; try with_reducible rfl)
  try simp only [Act.put, List.setIfInBounds_toArray, List.set_cons_zero, List.set_cons_succ]
  refine wpAnyH_ready (rs := [1]) (by kernel_rfl) (by simp) ?_
  refine AllReadyH.cons (o := ⟨_, _, _, _, _, _⟩) rfl (fun K hK => ?_) AllReadyH.nil
  go_simp
  with_reducible refine (F1.out _ hHeld).mono ?_
  rintro e v1 ⟨rfl, b1⟩
  go_simp
  refine hK.out _ _ (hHeld.trans (b1.mono hHeld.size)) (fun hHeld => ?_)
  clear hK K
  refine wT 2 (v := ?v2) rfl (by kernel_rfl) (fun _ _ _ h => h) ?h2 (by assumption) ?r2
  case h2 => (intro w hSw; (try dsimp only at hSw); go_simp; try with_reducible rfl)
  refine wT 3 (v := ?v3) rfl (by kernel_rfl) (fun _ _ _ h => h) ?h3 (by assumption) ?r3
  case h3 => (intro w hSw; (try dsimp only at hSw); go_simp; try with_reducible rfl)
  refine wT 4 (v := ?v4) rfl (by kernel_rfl) (fun _ _ _ h => h) ?h4 (by assumption) ?r4
  case h4 => (intro w hSw; (try dsimp only at hSw); go_simp; try with_reducible rfl)
  try simp only [Act.put, List.setIfInBounds_toArray, List.set_cons_zero, List.set_cons_succ]
  refine wpAnyH_ready (rs := [5]) (by kernel_rfl) (by simp) ?_
  refine AllReadyH.cons (o := ⟨_, _, _, _, _, _⟩) rfl (fun K hK => ?_) AllReadyH.nil
  go_simp
  with_reducible refine (F5.out _ hHeld).mono ?_
  rintro e v5 ⟨rfl, b5⟩
  go_simp
  refine hK.out _ _ (hHeld.trans (b5.mono hHeld.size)) (fun hHeld => ?_)
  clear hK K
  refine wT 6 (v := ?v5) rfl (by kernel_rfl) (fun _ _ _ h => h) ?h5 (by assumption) ?r5
  case h5 => (intro w hSw; (try dsimp only at hSw); go_simp; try with_reducible rfl)
  refine wT 7 (v := ?v6) rfl (by kernel_rfl) (fun _ _ _ h => h) ?h6 (by assumption) ?r6
  case h6 => (intro w hSw; (try dsimp only at hSw); go_simp; try with_reducible rfl)
  refine wT 8 (v := ?v7) rfl (by kernel_rfl) (fun _ _ _ h => h) ?h7 (by assumption) ?r7
  case h7 => (intro w hSw; (try dsimp only at hSw); go_simp; try with_reducible rfl)
  refine wT 9 (v := ?v8) rfl (by kernel_rfl) (fun _ _ _ h => h) ?h8 (by assumption) ?r8
  case h8 => (intro w hSw; (try dsimp only at hSw); go_simp; try with_reducible rfl)
  refine wT 10 (v := ?v9) rfl (by kernel_rfl) (fun _ _ _ h => h) ?h9 (by assumption) ?r9
  case h9 => (intro w hSw; (try dsimp only at hSw); go_simp; try with_reducible rfl)
  refine wT 11 (v := ?v10) rfl (by kernel_rfl) (fun _ _ _ h => h) ?h10 (by assumption) ?r10
  case h10 => (intro w hSw; (try dsimp only at hSw); go_simp; try with_reducible rfl)
  refine wT 12 (v := ?v11) rfl (by kernel_rfl) (fun _ _ _ h => h) ?h11 (by assumption) ?r11
  case h11 => (intro w hSw; (try dsimp only at hSw); go_simp; try with_reducible rfl)
  refine wT 13 (v := ?v12) rfl (by kernel_rfl) (fun _ _ _ h => h) ?h12 (by assumption) ?r12
  case h12 => (intro w hSw; (try dsimp only at hSw); go_simp; try with_reducible rfl)
  try simp only [Act.put, List.setIfInBounds_toArray, List.set_cons_zero, List.set_cons_succ]
  refine wpAnyH_ready (rs := [14]) (by kernel_rfl) (by simp) ?_
  refine AllReadyH.cons (o := ⟨_, _, _, _, _, _⟩) rfl (fun K hK => ?_) AllReadyH.nil
  have hx14 := hHeld.alloc hHeld.size (.cells #[.int .i64 2, .int .i64 4, .int .i64 5, .int .i64 3, .string ⟨#[]⟩] 38)
  have r14 := ro_lit (v5) [cL] #[.int .i64 2, .int .i64 4, .int .i64 5, .int .i64 3, .string ⟨#[]⟩] 1 rfl rfl (by omega)
  go_simp
  generalize (v5).alloc (.cells #[.int .i64 2, .int .i64 4, .int .i64 5, .int .i64 3, .string ⟨#[]⟩] 38) = v14 at *
  generalize (v5).heap.size = g14 at *
  refine hK.out _ _ (hx14) (fun hHeld => ?_)
  clear hK K
  try simp only [Act.put, List.setIfInBounds_toArray, List.set_cons_zero, List.set_cons_succ]
  refine wpAnyH_ready (rs := [15]) (by kernel_rfl) (by simp) ?_
  refine AllReadyH.cons (o := ⟨_, _, _, _, _, _⟩) rfl (fun K hK => ?_) AllReadyH.nil
  go_simp
  with_reducible refine (FS.out _ _ _ 1 _ _ [cL] (R3a.out.below hHeld) r14).mono ?_
  rintro e v15 ⟨rfl, b15⟩
  go_simp
  refine hK.out _ _ (hHeld.trans (b15.mono hHeld.size)) (fun hHeld => ?_)
  clear hK K
  refine wT 16 (v := ?v13) rfl (by kernel_rfl) (fun _ _ _ h => h) ?h13 (by assumption) ?r13
  case h13 => (intro w hSw; (try dsimp only at hSw); go_simp; try with_reducible rfl)
  refine wT 17 (v := ?v14) rfl (by kernel_rfl) (fun _ _ _ h => h) ?h14 (by assumption) ?r14
  case h14 => (intro w hSw; (try dsimp only at hSw); go_simp; try with_reducible rfl)
  refine wT 18 (v := ?v15) rfl (by kernel_rfl) (fun _ _ _ h => h) ?h15 (by assumption) ?r15
  case h15 => (intro w hSw; (try dsimp only at hSw); go_simp; try with_reducible rfl)
  refine wT 19 (v := ?v16) rfl (by kernel_rfl) (fun _ _ _ h => h) ?h16 (by assumption) ?r16
  case h16 => (intro w hSw; (try dsimp only at hSw); go_simp; try with_reducible rfl)
  refine wT 20 (v := ?v17) rfl (by kernel_rfl) (fun _ _ _ h => h) ?h17 (by assumption) ?r17
  case h17 => (intro w hSw; (try dsimp only at hSw); go_simp; try with_reducible rfl)
  refine wT 21 (v := ?v18) rfl (by kernel_rfl) (fun _ _ _ h => h) ?h18 (by assumption) ?r18
  case h18 => (intro w hSw; (try dsimp only at hSw); go_simp; try with_reducible rfl)
  refine wT 22 (v := ?v19) rfl (by kernel_rfl) (fun _ _ _ h => h) ?h19 (by assumption) ?r19
  case h19 => (intro w hSw; (try dsimp only at hSw); go_simp; try with_reducible rfl)
  refine wT 23 (v := ?v20) rfl (by kernel_rfl) (fun _ _ _ h => h) ?h20 (by assumption) ?r20
  case h20 => (intro w hSw; (try dsimp only at hSw); go_simp; try with_reducible rfl)
  refine wT 24 (v := ?v21) rfl (by kernel_rfl) (fun _ _ _ h => h) ?h21 (by assumption) ?r21
  case h21 => (intro w hSw; (try dsimp only at hSw); go_simp; try with_reducible rfl)
  refine wT 25 (v := ?v22) rfl (by kernel_rfl) (fun _ _ _ h => h) ?h22 (by assumption) ?r22
  case h22 => (intro w hSw; (try dsimp only at hSw); go_simp; try with_reducible rfl)
  refine wT 26 (v := ?v23) rfl (by kernel_rfl) (fun _ _ _ h => h) ?h23 (by assumption) ?r23
  case h23 => (intro w hSw; (try dsimp only at hSw); go_simp; try with_reducible rfl)
  refine wT 27 (v := ?v24) rfl (by kernel_rfl) (fun _ _ _ h => h) ?h24 (by assumption) ?r24
  case h24 => (intro w hSw; (try dsimp only at hSw); go_simp; try with_reducible rfl)
  refine wT 28 (v := ?v25) rfl (by kernel_rfl) (fun _ _ _ h => h) ?h25 (by assumption) ?r25
  case h25 => (intro w hSw; (try dsimp only at hSw); go_simp; try with_reducible rfl)
  refine wT 29 (v := ?v26) rfl (by kernel_rfl) (fun _ _ _ h => h) ?h26 (by assumption) ?r26
  case h26 => (intro w hSw; (try dsimp only at hSw); go_simp; try with_reducible rfl)
  refine wT 30 (v := ?v27) rfl (by kernel_rfl) (fun _ _ _ h => h) ?h27 (by assumption) ?r27
  case h27 => (intro w hSw; (try dsimp only at hSw); go_simp; try with_reducible rfl)
  refine wT 31 (v := ?v28) rfl (by kernel_rfl) (fun _ _ _ h => h) ?h28 (by assumption) ?r28
  case h28 => (intro w hSw; (try dsimp only at hSw); go_simp; try with_reducible rfl)
  try simp only [Act.put, List.setIfInBounds_toArray, List.set_cons_zero, List.set_cons_succ]
  refine wpAnyH_ready (rs := [32]) (by kernel_rfl) (by simp) ?_
  refine AllReadyH.cons (o := ⟨_, _, _, _, _, _⟩) rfl (fun K hK => ?_) AllReadyH.nil
  have hx32 := hHeld.alloc hHeld.size (.cells #[.int .i64 5, .int .i64 0, .int .i64 0, .int .i64 0, .string ⟨#[]⟩, .int .i64 3, .int .i64 0, .int .i64 0, .int .i64 0, .string ⟨#[]⟩, .int .i64 2, .int .i64 4, .int .i64 5, .int .i64 3, .string ⟨#[]⟩, .int .i64 1, .int .i64 0, .int .i64 0, .int .i64 0, .string ⟨#[]⟩] 38)
  have r32 := ro_lit (v15) [opT 5, opT 3, cL, opT 1] #[.int .i64 5, .int .i64 0, .int .i64 0, .int .i64 0, .string ⟨#[]⟩, .int .i64 3, .int .i64 0, .int .i64 0, .int .i64 0, .string ⟨#[]⟩, .int .i64 2, .int .i64 4, .int .i64 5, .int .i64 3, .string ⟨#[]⟩, .int .i64 1, .int .i64 0, .int .i64 0, .int .i64 0, .string ⟨#[]⟩] 4 rfl rfl (by omega)
  go_simp
  generalize (v15).alloc (.cells #[.int .i64 5, .int .i64 0, .int .i64 0, .int .i64 0, .string ⟨#[]⟩, .int .i64 3, .int .i64 0, .int .i64 0, .int .i64 0, .string ⟨#[]⟩, .int .i64 2, .int .i64 4, .int .i64 5, .int .i64 3, .string ⟨#[]⟩, .int .i64 1, .int .i64 0, .int .i64 0, .int .i64 0, .string ⟨#[]⟩] 38) = v32 at *
  generalize (v15).heap.size = g32 at *
  refine hK.out _ _ (hx32) (fun hHeld => ?_)
  clear hK K
  try simp only [Act.put, List.setIfInBounds_toArray, List.set_cons_zero, List.set_cons_succ]
  refine wpAnyH_ready (rs := [33]) (by kernel_rfl) (by simp) ?_
  refine AllReadyH.cons (o := ⟨_, _, _, _, _, _⟩) rfl (fun K hK => ?_) AllReadyH.nil
  go_simp
  with_reducible refine (FS.out _ _ _ 4 _ _ [opT 5, opT 3, cL, opT 1] (R5a.out.below hHeld) r32).mono ?_
  rintro e v33 ⟨rfl, b33⟩
  go_simp
  refine hK.out _ _ (hHeld.trans (b33.mono hHeld.size)) (fun hHeld => ?_)
  clear hK K
  refine wT 34 (v := ?v29) rfl (by kernel_rfl) (fun _ _ _ h => h) ?h29 (by assumption) ?r29
  case h29 => (intro w hSw; (try dsimp only at hSw); go_simp; try with_reducible rfl)
  refine wT 35 (v := ?v30) rfl (by kernel_rfl) (fun _ _ _ h => h) ?h30 (by assumption) ?r30
  case h30 => (intro w hSw; (try dsimp only at hSw); go_simp; try with_reducible rfl)
  refine wT 36 (v := ?v31) rfl (by kernel_rfl) (fun _ _ _ h => h) ?h31 (by assumption) ?r31
  case h31 => (intro w hSw; (try dsimp only at hSw); go_simp; try with_reducible rfl)
  refine wT 37 (v := ?v32) rfl (by kernel_rfl) (fun _ _ _ h => h) ?h32 (by assumption) ?r32
  case h32 => (intro w hSw; (try dsimp only at hSw); go_simp; try with_reducible rfl)
  try simp only [Act.put, List.setIfInBounds_toArray, List.set_cons_zero, List.set_cons_succ]
  refine wpAnyH_ready (rs := [38]) (by kernel_rfl) (by simp) ?_
  refine AllReadyH.cons (o := ⟨_, _, _, _, _, _⟩) rfl (fun K hK => ?_) AllReadyH.nil
  go_simp
  with_reducible refine (F38.out _ hHeld).mono ?_
  rintro e v38 ⟨rfl, b38⟩
  go_simp
  refine hK.out _ _ (hHeld.trans (b38.mono hHeld.size)) (fun hHeld => ?_)
  clear hK K
  refine wT 39 (v := ?v33) rfl (by kernel_rfl) (fun _ _ _ h => h) ?h33 (by assumption) ?r33
  case h33 => (intro w hSw; (try dsimp only at hSw); go_simp; try with_reducible rfl)
  refine wT 40 (v := ?v34) rfl (by kernel_rfl) (fun _ _ _ h => h) ?h34 (by assumption) ?r34
  case h34 => (intro w hSw; (try dsimp only at hSw); go_simp; try with_reducible rfl)
  refine wT 41 (v := ?v35) rfl (by kernel_rfl) (fun _ _ _ h => h) ?h35 (by assumption) ?r35
  case h35 => (intro w hSw; (try dsimp only at hSw); go_simp; try with_reducible rfl)
  refine wT 42 (v := ?v36) rfl (by kernel_rfl) (fun _ _ _ h => h) ?h36 (by assumption) ?r36
  case h36 => (intro w hSw; (try dsimp only at hSw); go_simp; try with_reducible rfl)
  try simp only [Act.put, List.setIfInBounds_toArray, List.set_cons_zero, List.set_cons_succ]
  refine wpAnyH_ready (rs := [43]) (by kernel_rfl) (by simp) ?_
  refine AllReadyH.cons (o := ⟨_, _, _, _, _, _⟩) rfl (fun K hK => ?_) AllReadyH.nil
  go_simp
  with_reducible refine (F43.out _ hHeld).mono ?_
  rintro e v43 ⟨rfl, b43⟩
  go_simp
  refine hK.out _ _ (hHeld.trans (b43.mono hHeld.size)) (fun hHeld => ?_)
  clear hK K
  refine wT 44 (v := ?v37) rfl (by kernel_rfl) (fun _ _ _ h => h) ?h37 (by assumption) ?r37
  case h37 => (intro w hSw; (try dsimp only at hSw); go_simp; try with_reducible rfl)
  refine wT 45 (v := ?v38) rfl (by kernel_rfl) (fun _ _ _ h => h) ?h38 (by assumption) ?r38
  case h38 => (intro w hSw; (try dsimp only at hSw); go_simp; try with_reducible rfl)
  refine wT 46 (v := ?v39) rfl (by kernel_rfl) (fun _ _ _ h => h) ?h39 (by assumption) ?r39
  case h39 => (intro w hSw; (try dsimp only at hSw); go_simp; try with_reducible rfl)
  refine wT 47 (v := ?v40) rfl (by kernel_rfl) (fun _ _ _ h => h) ?h40 (by assumption) ?r40
  case h40 => (intro w hSw; (try dsimp only at hSw); go_simp; try with_reducible rfl)
  try simp only [Act.put, List.setIfInBounds_toArray, List.set_cons_zero, List.set_cons_succ]
  refine wpAnyH_ready (rs := [48]) (by kernel_rfl) (by simp) ?_
  refine AllReadyH.cons (o := ⟨_, _, _, _, _, _⟩) rfl (fun K hK => ?_) AllReadyH.nil
  go_simp
  with_reducible refine (F48.out _ hHeld).mono ?_
  rintro e v48 ⟨rfl, b48⟩
  go_simp
  refine hK.out _ _ (hHeld.trans (b48.mono hHeld.size)) (fun hHeld => ?_)
  clear hK K
  refine wT 49 (v := ?v41) rfl (by kernel_rfl) (fun _ _ _ h => h) ?h41 (by assumption) ?r41
  case h41 => (intro w hSw; (try dsimp only at hSw); go_simp; try with_reducible rfl)
  refine wT 50 (v := ?v42) rfl (by kernel_rfl) (fun _ _ _ h => h) ?h42 (by assumption) ?r42
  case h42 => (intro w hSw; (try dsimp only at hSw); go_simp; try with_reducible rfl)
  refine wT 51 (v := ?v43) rfl (by kernel_rfl) (fun _ _ _ h => h) ?h43 (by assumption) ?r43
  case h43 => (intro w hSw; (try dsimp only at hSw); go_simp; try with_reducible rfl)
  refine wT 52 (v := ?v44) rfl (by kernel_rfl) (fun _ _ _ h => h) ?h44 (by assumption) ?r44
  case h44 => (intro w hSw; (try dsimp only at hSw); go_simp; try with_reducible rfl)
  refine wT 53 (v := ?v45) rfl (by kernel_rfl) (fun _ _ _ h => h) ?h45 (by assumption) ?r45
  case h45 => (intro w hSw; (try dsimp only at hSw); go_simp; try with_reducible rfl)
  refine wT 54 (v := ?v46) rfl (by kernel_rfl) (fun _ _ _ h => h) ?h46 (by assumption) ?r46
  case h46 => (intro w hSw; (try dsimp only at hSw); go_simp; try with_reducible rfl)
  refine wT 55 (v := ?v47) rfl (by kernel_rfl) (fun _ _ _ h => h) ?h47 (by assumption) ?r47
  case h47 => (intro w hSw; (try dsimp only at hSw); go_simp; try with_reducible rfl)
  refine wT 56 (v := ?v48) rfl (by kernel_rfl) (fun _ _ _ h => h) ?h48 (by assumption) ?r48
  case h48 => (intro w hSw; (try dsimp only at hSw); go_simp; try with_reducible rfl)
  refine wT 57 (v := ?v49) rfl (by kernel_rfl) (fun _ _ _ h => h) ?h49 (by assumption) ?r49
  case h49 => (intro w hSw; (try dsimp only at hSw); go_simp; try with_reducible rfl)
  try simp only [Act.put, List.setIfInBounds_toArray, List.set_cons_zero, List.set_cons_succ]
  refine wpAnyH_ready (rs := [58]) (by kernel_rfl) (by simp) ?_
  refine AllReadyH.cons (o := ⟨_, _, _, _, _, _⟩) rfl (fun K hK => ?_) AllReadyH.nil
  go_simp
  with_reducible refine (F58.out _).mono ?_
  rintro e v58 ⟨a7, rfl, r58, b58⟩
  go_simp
  refine hK.out _ _ (hHeld.trans (b58.mono hHeld.size)) (fun hHeld => ?_)
  clear hK K
  try simp only [Act.put, List.setIfInBounds_toArray, List.set_cons_zero, List.set_cons_succ]
  refine wpAnyH_ready (rs := [59]) (by kernel_rfl) (by simp) ?_
  refine AllReadyH.cons (o := ⟨_, _, _, _, _, _⟩) rfl (fun K hK => ?_) AllReadyH.nil
  go_simp
  with_reducible refine (F59.out _ _ hHeld r58).mono ?_
  rintro e v59 ⟨rfl, b59⟩
  go_simp
  refine hK.out _ _ (hHeld.trans (b59.mono hHeld.size)) (fun hHeld => ?_)
  clear hK K
  refine wT 60 (v := ?v50) rfl (by kernel_rfl) (fun _ _ _ h => h) ?h50 (by assumption) ?r50
  case h50 => (intro w hSw; (try dsimp only at hSw); go_simp; try with_reducible rfl)
  refine wT 61 (v := ?v51) rfl (by kernel_rfl) (fun _ _ _ h => h) ?h51 (by assumption) ?r51
  case h51 => (intro w hSw; (try dsimp only at hSw); go_simp; try with_reducible rfl)
  try simp only [Act.put, List.setIfInBounds_toArray, List.set_cons_zero, List.set_cons_succ]
  refine wpAnyH_done (by kernel_rfl) ?_ _
  have hf := Lib.hid (BL'.out.trans (hHeld.mono BL'.out.size))
  go_wp2
  go_ret
  exact ⟨rfl, hf.out⟩
end Go.Proofs.YtknnjkhocbpohaaDoor
namespace Go.Proofs.YtknnjkhocbpohaaDoor
open Go.RowKit
set_option linter.unusedVariables false
set_option linter.unusedSimpArgs false
theorem small_S {l : List TmD} (h : ∀ t ∈ l, tmW t) : ∀ t ∈ l, tmS t := fun t ht => by
  have := (h t ht).2.2.2.2
  unfold tmS
  omega
end Go.Proofs.YtknnjkhocbpohaaDoor
namespace Go.Proofs.YtknnjkhocbpohaaDoor
open Go.RowKit
set_option linter.unusedVariables false
set_option linter.unusedSimpArgs false
theorem same_ok (W : World) (A B : Option Addr) (n ca cb : Nat) (l : List TmD) (h1 : RO tmC W A n ca l) (h2 : RO tmC W B n cb l) : Calls Tryd.prog 19 #[.slice A n ca, .slice B n cb] W (Gives (.bool true) W) := by
  have q := tmSame_any A B n n ca cb l l W h1 h2
  rw [show sameT5 l l = true by unfold sameT5; simp] at q
  exact q.mono fun e w' h => drawnT_gives h
end Go.Proofs.YtknnjkhocbpohaaDoor
namespace Go.Proofs.YtknnjkhocbpohaaDoor
open Go.RowKit
set_option linter.unusedVariables false
set_option linter.unusedSimpArgs false
theorem nest_ser {f : FT} (hf : f.good) (h0 : filtE f.ser = 0) : nestN f.ser = f.deep := by
  unfold nestN
  rw [if_pos h0]
  have := takeL_ser f hf []
  rw [List.append_nil] at this
  rw [this]
theorem tmS_ser : ∀ (f : FT) (b : Bool), (∀ t ∈ f.ser, tmS t) → ∀ t ∈ (notT b f).ser, tmS t
  | .leaf t, false, h => h
  | .leaf t, true, h => by
    intro u hu
    simp only [notT, FT.ser, List.mem_cons, List.not_mem_nil, or_false] at hu
    rcases hu with rfl | rfl
    · show (⟨#[]⟩ : ByteArray).size ≤ _; decide
    · exact h _ (by simp [FT.ser])
  | .neg x, b, h => by
    have := tmS_ser x (!b) (fun t ht => h t (List.mem_cons_of_mem _ ht))
    cases b <;> simpa [notT] using this
  | .bin o x y, b, h => by
    have h1 := tmS_ser x b (fun t ht => h t (List.mem_cons_of_mem _ (List.mem_append_left _ ht)))
    have h2 := tmS_ser y b (fun t ht => h t (List.mem_cons_of_mem _ (List.mem_append_right _ ht)))
    intro u hu
    cases b
    all_goals
      simp only [notT, FT.ser, List.mem_cons, List.mem_append] at hu
      rcases hu with rfl | hu | hu
      · show (⟨#[]⟩ : ByteArray).size ≤ _; decide
      · exact h1 u hu
      · exact h2 u hu
theorem filtE_not {f : FT} (hf : f.good) (h0 : filtE f.ser = 0) (hn : filtE (notT true f).ser ≠ 0) : 128 < (notT true f).ser.length ∨ f.deep = 32 := by
  rw [filtE_ser hf] at h0
  rw [filtE_ser (notT_good f true hf)] at hn
  have hd := notT_deep f true
  by_cases h1 : 128 < (notT true f).ser.length
  · exact .inl h1
  · right
    rw [if_neg h1] at hn
    split at hn
    · split at h0
      · omega
      · split at h0 <;> omega
    · exact absurd rfl hn
set_option maxRecDepth 100000 in
set_option maxHeartbeats 8000000 in
theorem askNots_big (w : World) (ht : ATab w) (qa : Option Addr) (qn qc : Nat) (l : List TmD) (hl : RO tmC w qa qn qc l) (hw : ∀ t ∈ l, tmW t) (hb : bigTm l = true) : Calls Tryd.prog 5 #[.slice qa qn qc] w (Gives (.bool true) w) := by
  have qL := Lib.hid (qlarge_any w qa qn qc l hl hw)
  rw [hb] at qL
  have qv := Lib.hid (asklives_any w ht)
  clear hl hw hb ht
  go_enter Tryd.func5, Tryd.ntmps5
  go_wp2_with fail
  refine qL.out.mono ?_
  rintro e u1 ⟨rfl, rfl⟩
  clear qL
  go_wp2_with fail
  refine qv.out.mono ?_
  rintro e u2 ⟨rfl, b2⟩
  have hf := Lib.hid b2
  clear b2 qv
  go_wp2
  go_ret
  exact ⟨rfl, hf.out⟩
set_option maxRecDepth 100000 in
set_option maxHeartbeats 8000000 in
theorem askNots_bad (w : World) (ht : ATab w) (qa : Option Addr) (qn qc : Nat) (l : List TmD) (hl : RO tmC w qa qn qc l) (hw : ∀ t ∈ l, tmW t) (hb : bigTm l = false) (h0 : filtE l ≠ 0) : Calls Tryd.prog 5 #[.slice qa qn qc] w (Gives (.bool true) w) := by
  have qL := Lib.hid (qlarge_any w qa qn qc l hl hw)
  rw [hb] at qL
  have qP := Lib.hid (qnot_bad w qa qn qc l hl (small_S hw) ht h0)
  have qv := Lib.hid (fun W (hW : Below w.heap.size w W) => asklives_any W (ht.on hW))
  have qF := Lib.hid (fun W (hW : Below w.heap.size w W) => qrfilter_any W qa qn qc l (hl.below hW) (small_S hw))
  have hE : (filtE l != 0) = true := by simpa using h0
  generalize filtE l = E at *
  have hEE : (E != E) = false := by simp
  clear hl hw hb ht h0
  go_enter Tryd.func5, Tryd.ntmps5
  go_wp2_with fail
  refine qL.out.mono ?_
  rintro e u1 ⟨rfl, rfl⟩
  clear qL
  go_wp2_with fail
  refine qP.out.mono ?_
  rintro e u1 ⟨a1, c1, rfl, -, b1⟩
  have B1 := Lib.hid b1
  clear b1 qP
  go_wp2_with fail
  refine (qF.out _ B1.out).mono ?_
  rintro e u3 ⟨rfl, b3⟩
  replace B1 := Lib.hid (B1.out.trans (b3.mono B1.out.size))
  clear b3 qF
  go_wp2_with fail
  refine (qv.out _ B1.out).mono ?_
  rintro e u2 ⟨rfl, b2⟩
  replace B1 := Lib.hid (B1.out.trans (b2.mono B1.out.size))
  clear b2 qv
  go_wp2
  go_ret
  exact ⟨rfl, B1.out⟩
set_option maxRecDepth 100000 in
set_option maxHeartbeats 8000000 in
theorem askNots_try (w : World) (ht : ATab w) (qa : Option Addr) (qn qc : Nat) (f : FT) (hf : f.good) (hl : RO tmC w qa qn qc f.ser) (hw : ∀ t ∈ f.ser, tmW t) (hb : bigTm f.ser = false) (h0 : filtE f.ser = 0)  : Calls Tryd.prog 5 #[.slice qa qn qc] w (Gives (.bool true) w) := by
  have qL := Lib.hid (qlarge_any w qa qn qc _ hl hw)
  rw [hb] at qL
  have h200 := (bigTm_no hb).1
  have h128 : f.ser.length ≤ 128 := by obtain ⟨_, _, _, _, h⟩ := filtE_tree h0; exact h
  have hsf := small_S hw
  have hgN := notT_good f true hf
  have hsN := tmS_ser f true hsf
  have qP := Lib.hid (qnot_ok w qa qn qc f hf h0 hl hsf ht)
  have qv := Lib.hid (fun W (hW : Below w.heap.size w W) => asklives_any W (ht.on hW))
  have qF := fun W (hW : Below w.heap.size w W) => qrfilter_any W qa qn qc _ (hl.below hW) hsf
  rw [h0] at qF
  have qF' := Lib.hid qF
  have qR := Lib.hid (fun W (hW : Below w.heap.size w W) => qrnot_any f hf true W qa qn qc (hl.below hW) hsf (by omega))
  have qS := Lib.hid (fun W A B n ca cb l h1 h2 => same_ok W A B n ca cb l h1 h2)
  have hnn := notT_nnf f true
  have hnot := Lib.hid (fun (h : filtE (notT true f).ser ≠ 0) => filtE_not hf h0 h)
  have qX := Lib.hid (fun W a c (hW : Below w.heap.size w W) (h : RO tmC W a (notT true f).ser.length c (notT true f).ser) => qfilter_any W a _ c _ h hsN (ht.on hW))
  have qD := Lib.hid (fun W (hW : Below w.heap.size w W) => qnest_any W qa qn qc _ (hl.below hW) hsf (ht.on hW))
  have hnst := Lib.hid (nest_ser hf h0)
  have hadj := Lib.hid (adj_ser (notT true f) hgN hnn)
  have hlN : (notT true f).ser.length ≤ 256 := by have := notT_ser_len f true; omega
  have TW := Lib.hid ht
  generalize hf1 : notT true f = f1 at *
  have HG := Lib.hid (And.intro hgN (And.intro hsN hnn))
  generalize hNl : f1.ser.length = N at *
  have hNl' := Lib.hid hNl
  have hNi : (N : Int) ≤ 256 := by omega
  clear hl hw hb ht h0 qF h200 h128 hsf hgN hsN hNl hf1 hnn hf
  go_enter Tryd.func5, Tryd.ntmps5
  go_wp2_with fail
  refine qL.out.mono ?_
  rintro e u1 ⟨rfl, rfl⟩
  clear qL
  go_wp2_with fail
  refine qP.out.mono ?_
  rintro e u1 ⟨a1, c1, he1, r1, b1⟩
  rw [hNl'.out] at he1 r1
  subst he1
  have B1 := Lib.hid b1
  have R1 := Lib.hid r1
  clear b1 qP r1
  go_wp2_with fail
  refine (qF'.out _ B1.out).mono ?_
  rintro e u3 ⟨rfl, b3⟩
  replace R1 := Lib.hid (R1.out.below b3)
  replace B1 := Lib.hid (B1.out.trans (b3.mono B1.out.size))
  clear b3 qF'
  go_wp2_with fail
  refine (qv.out _ B1.out).mono ?_
  rintro e u2 ⟨rfl, b2⟩
  replace R1 := Lib.hid (R1.out.below b2)
  replace B1 := Lib.hid (B1.out.trans (b2.mono B1.out.size))
  clear b2 qv
  go_wp2_with fail
  refine (qR.out _ B1.out).mono ?_
  rintro e u4 ⟨a3, c3, he3, r3, b4⟩
  rw [hNl'.out] at he3 r3
  subst he3
  replace R1 := Lib.hid (R1.out.below b4)
  replace B1 := Lib.hid (B1.out.trans (b4.mono B1.out.size))
  have q5 := Lib.hid (qS.out u4 a1 a3 _ c1 c3 _ R1.out r3)
  clear b4 qR r3
  go_wp2_with fail
  refine q5.out.mono ?_
  rintro e u5 ⟨rfl, b5⟩
  replace R1 := Lib.hid (R1.out.below b5)
  replace B1 := Lib.hid (B1.out.trans (b5.mono B1.out.size))
  clear b5 q5
  go_wp2
  go_loopw [6] (fun v wr => ∃ j : Nat, j ≤ N ∧ v = .int .i64 j ∧ Hid (Below u5.heap.size u5 wr)) (fun v _ => N - (intOf v).toNat)
  case atStart => exact ⟨0, Nat.zero_le _, rfl, Lib.hid (Below.refl _ _)⟩
  case round =>
    obtain ⟨j, hj, rfl, hB⟩ := hrel
    generalize wr = g0 at *
    by_cases hlt : j + 1 < N
    · have hjj : (j : Int) + 1 < (N : Int) := by omega
      obtain ⟨b, off, ha1, hbl, x0, -, -, -, -⟩ := tm_at (R1.out.below hB.out) (show j < N by omega)
      obtain ⟨b', off', hb1, -, y0, -, -, -, -⟩ := tm_at (R1.out.below hB.out) hlt
      rw [ha1] at hb1
      injection hb1 with hb1
      injection hb1 with hb1 hb2
      subst hb1 hb2
      have had := hadj.out j (by rw [hNl'.out]; omega)
      generalize (f1.ser.getD j tm0).op = o1 at *
      generalize (f1.ser.getD (j + 1) tm0).op = o2 at *
      have hji : (j : Int) < (N : Int) := by omega
      have hwj : wrap64 ((j : Int) + 1) = (((j + 1 : Nat)) : Int) := by unfold wrap64; omega
      by_cases h3 : o1 = 3
      · obtain ⟨-, hc⟩ := had h3
        have e1 : (o1 == 3) = true := by simp [h3]
        clear had h3
        rcases hc with rfl | rfl
        all_goals
          subst ha1
          go_wp2
          go_roundw
          case rel => exact ⟨j + 1, by omega, by go_num, hB⟩
          case measure => simp [intOf]; omega
      · have e1 : (o1 == 3) = false := by simpa using h3
        clear had h3 hwj
        subst ha1
        go_wp2
        go_roundw
        case rel => exact ⟨j + 1, by omega, by go_num, hB⟩
        case measure => simp [intOf]; omega
    · have hjj : ¬ (j : Int) + 1 < (N : Int) := by omega
      have R6 := Lib.hid (R1.out.below hB.out)
      have B6 := Lib.hid (B1.out.trans (hB.out.mono B1.out.size))
      have qq := Lib.hid (qX.out g0 a1 c1 B6.out R6.out)
      clear hB R1 B1 hadj qX
      by_cases h1 : filtE f1.ser = 0
      · obtain ⟨hgN, hsN, hnn⟩ := HG.out
        have hN128 : N ≤ 128 := by obtain ⟨_, _, _, _, h⟩ := filtE_tree h1; rw [hNl'.out] at h; exact h
        have hlM : (notT true f1).ser.length ≤ 256 := by have := notT_ser_len f1 true; rw [hNl'.out] at this; omega
        have hgM := notT_good f1 true hgN
        have hsM := tmS_ser f1 true hsN
        have hnot2 := Lib.hid (fun (h : filtE (notT true f1).ser ≠ 0) => filtE_not hgN h1 h)
        have hns2 := Lib.hid (nest_ser hgN h1)
        have htw := notT_twice f1 hnn
        have qM := Lib.hid (fun W (hW : Below w.heap.size w W) (h : RO tmC W a1 N c1 f1.ser) => qnot_ok W a1 N c1 f1 hgN h1 h hsN (TW.out.on hW))
        have qN := Lib.hid (fun W (hW : Below w.heap.size w W) (h : RO tmC W a1 N c1 f1.ser) => qnest_any W a1 N c1 f1.ser h hsN (TW.out.on hW))
        generalize hf2 : notT true f1 = f2 at *
        have qY := Lib.hid (fun W a c (hW : Below w.heap.size w W) (h : RO tmC W a f2.ser.length c f2.ser) => qfilter_any W a _ c _ h hsM (TW.out.on hW))
        have qZ := Lib.hid (fun W a c (hW : Below w.heap.size w W) (h : RO tmC W a f2.ser.length c f2.ser) (h2 : filtE f2.ser = 0) => qnot_ok W a _ c f2 hgM h2 h hsM (TW.out.on hW))
        rw [htw] at qZ
        rw [h1] at qq
        generalize hMl : f2.ser.length = M at *
        have hMl' := Lib.hid hMl
        have hMi : (M : Int) ≤ 256 := by omega
        clear hnot hnst HG hgN hsN hnn hlM hgM hsM htw hf2 hMl h1
        go_wp2_with fail
        refine qq.out.mono ?_
        rintro e g1 ⟨rfl, d1⟩
        replace R6 := Lib.hid (R6.out.below d1)
        replace B6 := Lib.hid (B6.out.trans (d1.mono B6.out.size))
        have q8 := Lib.hid (qM.out g1 B6.out R6.out)
        clear d1 qq qM
        go_wp2_with fail
        refine q8.out.mono ?_
        rintro e g2 ⟨a4, c4, he4, r4, d2⟩
        rw [hMl'.out] at he4 r4
        subst he4
        replace R6 := Lib.hid (R6.out.below d2)
        replace B6 := Lib.hid (B6.out.trans (d2.mono B6.out.size))
        have R7 := Lib.hid r4
        have q9 := Lib.hid (qY.out g2 a4 c4 B6.out R7.out)
        clear d2 q8 qY r4
        by_cases h2 : filtE f2.ser = 0
        · rw [h2] at q9
          go_wp2_with fail
          refine q9.out.mono ?_
          rintro e g3 ⟨rfl, d3⟩
          replace R6 := Lib.hid (R6.out.below d3)
          replace R7 := Lib.hid (R7.out.below d3)
          replace B6 := Lib.hid (B6.out.trans (d3.mono B6.out.size))
          have q10 := Lib.hid (qZ.out g3 a4 c4 B6.out R7.out h2)
          clear d3 q9 qZ h2 R7
          go_wp2_with fail
          refine q10.out.mono ?_
          rintro e g4 ⟨a5, c5, he5, r5, d4⟩
          rw [hNl'.out] at he5 r5
          subst he5
          replace R6 := Lib.hid (R6.out.below d4)
          replace B6 := Lib.hid (B6.out.trans (d4.mono B6.out.size))
          have q11 := Lib.hid (qS.out g4 a5 a1 _ c5 c1 _ r5 R6.out)
          clear d4 q10 r5
          go_wp2_with fail
          refine q11.out.mono ?_
          rintro e g5 ⟨rfl, d5⟩
          replace B6 := Lib.hid (B6.out.trans (d5.mono B6.out.size))
          clear d5 q11 R6
          go_wp2
          go_ret
          exact ⟨rfl, B6.out⟩
        · have hx := hnot2.out h2
          have hE : (filtE f2.ser != 0) = true := by simpa using h2
          generalize filtE f2.ser = E at *
          clear h2 qZ R7
          by_cases h3 : 128 < M
          · have h3i : (128 : Int) < (M : Int) := by omega
            clear hx qN hns2 h3
            go_wp2_with fail
            refine q9.out.mono ?_
            rintro e g3 ⟨rfl, d3⟩
            replace B6 := Lib.hid (B6.out.trans (d3.mono B6.out.size))
            clear d3 q9 R6
            go_wp2
            go_ret
            exact ⟨rfl, B6.out⟩
          · have h3i : ¬ (128 : Int) < (M : Int) := by omega
            have hd : f1.deep = 32 := by omega
            rw [hns2.out, hd] at qN
            clear hx h3
            go_wp2_with fail
            refine q9.out.mono ?_
            rintro e g3 ⟨rfl, d3⟩
            replace R6 := Lib.hid (R6.out.below d3)
            replace B6 := Lib.hid (B6.out.trans (d3.mono B6.out.size))
            have q10 := Lib.hid (qN.out g3 B6.out R6.out)
            clear d3 q9 qN
            go_wp2_with fail
            refine q10.out.mono ?_
            rintro e g4 ⟨rfl, d4⟩
            replace B6 := Lib.hid (B6.out.trans (d4.mono B6.out.size))
            clear d4 q10 R6
            go_wp2
            go_ret
            exact ⟨rfl, B6.out⟩
      · have hx := hnot.out h1
        have hE : (filtE f1.ser != 0) = true := by simpa using h1
        generalize filtE f1.ser = E at *
        clear h1 HG TW
        by_cases h3 : 128 < N
        · have h3i : (128 : Int) < (N : Int) := by omega
          clear hx qD hnst h3
          go_wp2_with fail
          refine qq.out.mono ?_
          rintro e g3 ⟨rfl, d3⟩
          replace B6 := Lib.hid (B6.out.trans (d3.mono B6.out.size))
          clear d3 qq R6
          go_wp2
          go_ret
          exact ⟨rfl, B6.out⟩
        · have h3i : ¬ (128 : Int) < (N : Int) := by omega
          have hd : f.deep = 32 := by omega
          rw [hnst.out, hd] at qD
          clear hx h3
          go_wp2_with fail
          refine qq.out.mono ?_
          rintro e g3 ⟨rfl, d3⟩
          replace B6 := Lib.hid (B6.out.trans (d3.mono B6.out.size))
          have q10 := Lib.hid (qD.out g3 B6.out)
          clear d3 qq qD R6
          go_wp2_with fail
          refine q10.out.mono ?_
          rintro e g4 ⟨rfl, d4⟩
          replace B6 := Lib.hid (B6.out.trans (d4.mono B6.out.size))
          clear d4 q10
          go_wp2
          go_ret
          exact ⟨rfl, B6.out⟩
theorem askNots_walk (w : World) (ht : ATab w) (qa : Option Addr) (qn qc : Nat) (q1 : TmSl w qa qn qc) : Calls Tryd.prog 5 #[.slice qa qn qc] w (Gives (.bool true) w) := by
  obtain ⟨l, hl, hw, -⟩ := q1
  cases hb : bigTm l
  · by_cases h0 : filtE l = 0
    · obtain ⟨f, hf, rfl, -, -⟩ := filtE_tree h0
      exact askNots_try w ht qa qn qc f hf hl hw hb h0
    · exact askNots_bad w ht qa qn qc l hl hw hb h0
  · exact askNots_big w ht qa qn qc l hl hw hb
end Go.Proofs.YtknnjkhocbpohaaDoor
namespace Go.Proofs.YtknnjkhocbpohaaDoor
set_option linter.unusedVariables false
set_option linter.unusedSimpArgs false
mutual
def flatD {H : Type} : DataW H → List Value
  | .lit (.int k n) => [.int k n]
  | .lit (.bool b) => [.bool b]
  | .agg l => flatDs l
  | _ => []
def flatDs {H : Type} : List (DataW H) → List Value
  | [] => []
  | d :: ds => flatD d ++ flatDs ds
end
def contigT (P : Program) : Nat → List Field → Nat → Bool
  | o, [], n => o == n
  | o, f :: r, n => (f.offset == o) && contigT P (o + P.cellsOf f.type) r n
def okFlat (P : Program) : Nat → TypeId → Bool
  | 0, _ => false
  | n + 1, t =>
    match P.underlying t with
    | some .bool => true
    | some (.int _) => true
    | some (.struct fs) => contigT P 0 fs.toList (P.cellsOf t) && fs.toList.all fun f => okFlat P n f.type
    | some (.array m e) => (P.cellsOf t == m * P.cellsOf e) && okFlat P n e
    | _ => false
theorem flat_fields {H : Type} {P : Program} {cs : List Value} {r : Field → List Value → Option (DataW H × List MemPlace)} {n : Nat} :
    ∀ (fs : List Field) (o : Nat) (xs : List (DataW H × List MemPlace)), contigT P o fs n = true → cs.length = n →
      (fs.mapM fun f => r f ((cs.drop f.offset).take (P.cellsOf f.type))) = some xs →
      (∀ f ∈ fs, ∀ c d p, r f c = some (d, p) → c = flatD d) → cs.drop o = flatDs (xs.map (·.1))
  | [], o, xs, hc, hl, hm, _ => by
    simp only [contigT, beq_iff_eq] at hc
    simp at hm
    subst hm
    rw [List.drop_of_length_le (by omega)]
    rfl
  | f :: fs, o, xs, hc, hl, hm, hr => by
    simp only [contigT, Bool.and_eq_true, beq_iff_eq] at hc
    simp only [List.mapM_cons, Option.bind_eq_bind, Option.bind_eq_some_iff, Option.pure_def, Option.some.injEq] at hm
    obtain ⟨b, hb, r', hr', rfl⟩ := hm
    have ih := flat_fields fs _ _ hc.2 hl hr' (fun g hg => hr g (List.mem_cons_of_mem _ hg))
    have h1 := hr f List.mem_cons_self _ b.1 b.2 hb
    rw [hc.1] at h1
    simp only [List.map_cons, flatDs]
    rw [← h1, ← ih, ← List.drop_drop, List.take_append_drop]
theorem flat_elems {H : Type} {cs : List Value} {r : List Value → Option (DataW H × List MemPlace)} {c : Nat} :
    ∀ (k s : Nat) (xs : List (DataW H × List MemPlace)), cs.length = (s + k) * c →
      ((List.range' s k).mapM fun i => r ((cs.drop (i * c)).take c)) = some xs →
      (∀ c d p, r c = some (d, p) → c = flatD d) → cs.drop (s * c) = flatDs (xs.map (·.1))
  | 0, s, xs, hl, hm, _ => by
    simp at hm
    subst hm
    rw [List.drop_of_length_le (by rw [hl]; simp)]
    rfl
  | k + 1, s, xs, hl, hm, hr => by
    simp only [List.range'_succ, List.mapM_cons, Option.bind_eq_bind, Option.bind_eq_some_iff, Option.pure_def, Option.some.injEq] at hm
    obtain ⟨b, hb, r', hr', rfl⟩ := hm
    have ih := flat_elems k (s + 1) _ (by rw [hl]; congr 1; omega) hr' hr
    have h1 := hr _ b.1 b.2 hb
    simp only [List.map_cons, flatDs]
    rw [← h1, ← ih, Nat.succ_mul, ← List.drop_drop, List.take_append_drop]
theorem flat_trod {H : Type} {enc : TypeId × Value → H} {P : Program} {w : World} {base : Nat} {sp : Nat → Bool} {held : Bool} :
    ∀ (n : Nat) (t : TypeId) (fuel : Nat) (cs : List Value) (d : DataW H) (p : List MemPlace), okFlat P n t = true → DataW.trod enc P w base sp held fuel t cs = some (d, p) → cs = flatD d
  | 0, _, _, _, _, _, h, _ => by simp [okFlat] at h
  | n + 1, t, 0, _, _, _, _, h => by simp [DataW.trod] at h
  | n + 1, t, fuel + 1, cs, d, p, hok, h => by
    unfold okFlat at hok
    cases hs : P.underlying t with
    | none => rw [hs] at hok; simp at hok
    | some u =>
      rw [hs] at hok
      cases u with
      | bool =>
        simp only [DataW.trod, hs] at h
        split at h <;> simp_all [flatD]
        obtain ⟨rfl, _⟩ := h
        rfl
      | int k =>
        simp only [DataW.trod, hs] at h
        split at h <;> simp_all
        obtain ⟨⟨rfl, _⟩, rfl, _⟩ := h
        rfl
      | struct fs =>
        simp only [Bool.and_eq_true, List.all_eq_true] at hok
        simp only [DataW.trod, hs] at h
        split at h
        · rename_i hl
          obtain ⟨xs, hm, hx⟩ := Option.map_eq_some_iff.1 h
          simp only [Prod.mk.injEq] at hx
          obtain ⟨rfl, _⟩ := hx
          have := flat_fields (P := P) (r := fun f c => DataW.trod enc P w base sp held fuel f.type c) fs.toList 0 xs hok.1 hl hm (fun f hf c d p hc => flat_trod n f.type fuel c d p (hok.2 f hf) hc)
          rw [List.drop_zero] at this
          rw [this]
          simp [flatD]
        · cases h
      | array m e =>
        simp only [Bool.and_eq_true, beq_iff_eq] at hok
        simp only [DataW.trod, hs] at h
        split at h
        · rename_i hl
          obtain ⟨xs, hm, hx⟩ := Option.map_eq_some_iff.1 h
          simp only [Prod.mk.injEq] at hx
          obtain ⟨rfl, _⟩ := hx
          rw [List.range_eq_range'] at hm
          have := flat_elems (r := fun c => DataW.trod enc P w base sp held fuel e c) m 0 xs (by rw [hl, hok.1]; simp) hm (fun c d p hc => flat_trod n e fuel c d p hok.2 hc)
          rw [Nat.zero_mul, List.drop_zero] at this
          rw [this]
          simp [flatD]
        · cases h
      | _ => simp at hok
theorem laid_cells {P : Program} {W : World} {name : String} {d : DataW Unit} {rest : List (String × DataW Unit)} {g : Nat} {t : TypeId} (n : Nat) (cs : List Value)
    (hg : P.globalNamed name = some g) (hty : (P.globals[g]?).map (·.type) = some t) (hok : okFlat P n t = true) (hcs : flatD d = cs)
    (h : laidMet P ((name, d) :: rest) W) : W.var? P name = some cs.toArray := by
  obtain ⟨ps, ⟨g', t', cs', fuel, p, q, hg', ht', hvar, hd, _, _⟩, _⟩ := h
  obtain rfl := Option.some.inj (hg.symm.trans hg')
  obtain rfl := Option.some.inj (hty.symm.trans ht')
  have := flat_trod n _ _ _ _ _ hok hd
  rw [hcs] at this
  rw [hvar, ← this]
end Go.Proofs.YtknnjkhocbpohaaDoor
