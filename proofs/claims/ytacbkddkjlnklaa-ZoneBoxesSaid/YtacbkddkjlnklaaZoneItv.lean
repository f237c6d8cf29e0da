/- Zones and intervals: val.Clip, Neg; itv.None, All, Of, Meet; zone.Itv. -/
import Derived.Test.YtacbkddkjlnklaaZoneLimit
namespace Go.Proofs.Ytacbkddkjlnklaa
open Go.RowKit
set_option linter.unusedVariables false
set_option linter.unusedSimpArgs false

def clipV (n : Int) : Int := if 1099511627776 < n then 1099511627776 else if n < -1099511627776 then -1099511627776 else n
theorem clipV_id {n : Int} (h0 : -1099511627776 ≤ n) (h1 : n ≤ 1099511627776) : clipV n = n := by unfold clipV; rw [if_neg (by omega), if_neg (by omega)]
theorem clipV_in (n : Int) : -1099511627776 ≤ clipV n ∧ clipV n ≤ 1099511627776 := by unfold clipV; split <;> (try split) <;> omega
theorem vclip_any (n : Int) (w : World) : Calls Try.prog 87 #[.int .i64 n] w (Tells (.int .i64 (clipV n)) w) := by
  have hf : Hid (clipV n = if 1099511627776 < n then 1099511627776 else if n < -1099511627776 then -1099511627776 else n) := Lib.hid rfl
  generalize clipV n = F at *
  go_enter Try.func87, Try.ntmps87
  go_wp2
  all_goals (go_ret; refine ⟨ret_int ?_, rfl⟩; rw [hf.out]; clear hf; grind)
theorem vneg_any (n : Int) (w : World) : Calls Try.prog 63 #[.int .i64 n] w (Tells (.int .i64 (-(clipV n))) w) := by
  have hc := Lib.hid (vclip_any n w)
  have hb := clipV_in n
  generalize clipV n = x at *
  have hw : IntKind.i64.wrap (-x) = -x := wrap_small (by omega) (by omega)
  go_enter Try.func63, Try.ntmps63
  go_wp2_with fail
  refine hc.out.mono ?_
  rintro e w1 ⟨rfl, rfl⟩
  go_wp2
  go_ret
  exact ⟨rfl, rfl⟩
theorem info_itv : (Try.prog.info? 38).map (·.size) = some 2 := by kernel_rfl
abbrev HI (w : World) (g : Nat) (x y : Int) : Prop := Holds w g 38 #[.int .i64 x, .int .i64 y]
theorem hi_set {w : World} {g : Nat} {a b : Int} (h : HI w g a b) (x y : Int) : HI ((w.setCell ⟨g, 0, none⟩ (.int .i64 x)).setCell ⟨g, 1, none⟩ (.int .i64 y)) g x y := by
  have h1 := (h.set 0 (.int .i64 x)).set 1 (.int .i64 y)
  simpa using h1
theorem itv_ret {Q : Ending → World → Prop} {w : World} {g : Nat} {x y : Int} (hg : HI w g x y) (hQ : Q (.returned (.agg #[.int .i64 x, .int .i64 y])) w) (act : Act) (f : Func) (n : Nat) (hf : f.results = #[.cell n 38]) (ha : act.tmps.getD n undef = .pointer (some ⟨g, 0, none⟩)) (hd : act.defers = []) :
    bodyPost Try.prog f Q Exit.ret act w :=
  bodyPost_ret (results_cell_row hf _ _ g 38 #[.int .i64 x, .int .i64 y] (0, 0) _ ha hg Try.underlying38 rfl (by rw [info_itv]; rfl)) hd hQ
theorem itv_ret2 {Q : Ending → World → Prop} {w : World} {g : Nat} {x y : Int} {u : Value} (hg : HI w g x y) (hQ : Q (.returned (.tuple #[.agg #[.int .i64 x, .int .i64 y], u])) w) (act : Act) (f : Func) (n m : Nat) (hf : f.results = #[.cell n 38, .tmp m]) (ha : act.tmps.getD n undef = .pointer (some ⟨g, 0, none⟩)) (hm : act.tmps.getD m undef = u) (hd : act.defers = []) :
    bodyPost Try.prog f Q Exit.ret act w := by
  refine bodyPost_ret (v := .tuple #[.agg #[.int .i64 x, .int .i64 y], u]) ?_ hd hQ
  rw [results_cell_tmp hf, ha, hm]
  simp [asAddr, run_loadVar_row w g 38 38 #[.int .i64 x, .int .i64 y] (0, 0) _ hg Try.underlying38 rfl (by rw [info_itv]; rfl), Result.andThen]
theorem inone_any (w : World) : Calls Try.prog 61 #[] w (Gives (.agg #[.int .i64 1, .int .i64 0]) w) := by
  go_enter Try.func61, Try.ntmps61
  go_wp2
  exact itv_ret (Holds.new w _ _) ⟨rfl, box_below _ _ _⟩ _ _ 0 rfl rfl rfl
theorem iall_any (w : World) : Calls Try.prog 41 #[] w (Gives (.agg #[.int .i64 (-1099511627776), .int .i64 1099511627776]) w) := by
  go_enter Try.func41, Try.ntmps41
  go_wp2
  exact itv_ret (Holds.new w _ _) ⟨rfl, box_below _ _ _⟩ _ _ 0 rfl rfl rfl
def ofP (a b : Int) : Int × Int := if b < a ∨ 1099511627776 < a ∨ b < -1099511627776 then (1, 0) else (clipV a, clipV b)
theorem iof_any (a b : Int) (w : World) : Calls Try.prog 62 #[.int .i64 a, .int .i64 b] w (Gives (.agg #[.int .i64 (ofP a b).1, .int .i64 (ofP a b).2]) w) := by
  have hn := Lib.hid (fun w => inone_any w)
  have c1 := Lib.hid (fun w => vclip_any a w)
  have c2 := Lib.hid (fun w => vclip_any b w)
  have hB := Lib.hid (box_below w #[.int .i64 0, .int .i64 0] 38)
  have hr := Lib.hid (show HI _ w.heap.size 0 0 from Holds.new w 38 #[.int .i64 0, .int .i64 0])
  unfold ofP
  by_cases h : b < a ∨ 1099511627776 < a ∨ b < -1099511627776
  · rw [if_pos h]
    have hd : (decide (b < a) || decide (1099511627776 < a) || decide (b < -1099511627776)) = true := by simp; omega
    clear h
    go_enter Try.func62, Try.ntmps62
    go_wp2_with fail
    all_goals (
      refine (hn.out _).mono ?_
      rintro e w1 ⟨rfl, h1⟩
      have k := hr.out.below h1 hr.out.lt
      have c0 := k.cell 0
      have c1 := k.cell 1
      have f0 := k.free 0
      have f1 := k.free 1
      have hfin := Lib.hid (hi_set k 1 0)
      have kb := Lib.hid (((hB.out.trans (h1.mono hB.out.size)).setCell (p := ⟨w.heap.size, 0, none⟩) (Nat.le_refl _) (.int .i64 1)).setCell (p := ⟨w.heap.size, 1, none⟩) (Nat.le_refl _) (.int .i64 0))
      clear k h1
      go_wp2
      exact itv_ret hfin.out ⟨rfl, kb.out⟩ _ _ 4 rfl rfl rfl)
  · rw [if_neg h]
    have d1 : decide (b < a) = false := by simp; omega
    have d2 : decide (1099511627776 < a) = false := by simp; omega
    have d3 : decide (b < -1099511627776) = false := by simp; omega
    generalize clipV a = x at *
    generalize clipV b = y at *
    clear h
    go_enter Try.func62, Try.ntmps62
    go_wp2_with fail
    refine (c1.out _).mono ?_
    rintro e w' ⟨rfl, rfl⟩
    go_wp2_with fail
    refine (c2.out _).mono ?_
    rintro e w' ⟨rfl, rfl⟩
    go_wp2
    exact itv_ret (Holds.new w _ _) ⟨rfl, box_below _ _ _⟩ _ _ 4 rfl rfl rfl
set_option maxRecDepth 100000 in
theorem imeet_all (a b : Int) (w : World) : Calls Try.prog 66 #[.agg #[.int .i64 a, .int .i64 b], .agg #[.int .i64 (-1099511627776), .int .i64 1099511627776]] w (Gives (.agg #[.int .i64 (ofP a b).1, .int .i64 (ofP a b).2]) w) := by
  have hof : Hid (∀ x y W, x = max a (-1099511627776) → y = min b 1099511627776 → Calls Try.prog 62 #[.int .i64 x, .int .i64 y] W (Gives (.agg #[.int .i64 (ofP a b).1, .int .i64 (ofP a b).2]) W)) := Lib.hid (by
    rintro x y W rfl rfl
    have h := iof_any (max a (-1099511627776)) (min b 1099511627776) W
    have e : ofP (max a (-1099511627776)) (min b 1099511627776) = ofP a b := by
      unfold ofP
      by_cases q : b < a ∨ 1099511627776 < a ∨ b < -1099511627776
      · rw [if_pos q, if_pos (by omega)]
      · rw [if_neg q, if_neg (by omega)]
        congr 1
        · unfold clipV; split <;> split <;> (try split) <;> (try split) <;> omega
        · unfold clipV; split <;> split <;> (try split) <;> (try split) <;> omega
    rwa [e] at h)
  generalize ofP a b = P at *
  obtain ⟨W1, hW1⟩ : ∃ W1, W1 = ((w.alloc (.cells #[.int .i64 a, .int .i64 b] 38)).alloc (.cells #[.int .i64 (-1099511627776), .int .i64 1099511627776] 38)).alloc (.cells #[.int .i64 0, .int .i64 0] 38) := ⟨_, rfl⟩
  have hB : Below w.heap.size w W1 := by rw [hW1]; exact (box2_below _ _ _ _ _).alloc (by simp; omega) _
  have Z3 : HI W1 (w.heap.size + 1 + 1) 0 0 := by
    rw [hW1]
    have := Holds.new ((w.alloc (.cells #[.int .i64 a, .int .i64 b] 38)).alloc (.cells #[.int .i64 (-1099511627776), .int .i64 1099511627776] 38)) 38 #[.int .i64 0, .int .i64 0]
    simpa using this
  have hW1' := Lib.hid hW1
  have hB' := Lib.hid hB
  have Z3' := Lib.hid Z3
  have hcase : (a < -1099511627776 ∨ ¬ a < -1099511627776) ∧ (1099511627776 < b ∨ ¬ 1099511627776 < b) := by omega
  clear hW1 hB Z3
  obtain ⟨h1, h2⟩ := hcase
  go_enter Try.func66, Try.ntmps66
  go_wp2_with fail
  all_goals (
    rw [← hW1'.out]
    refine (hof.out _ _ _ (by omega) (by omega)).mono ?_
    rintro e w1 ⟨rfl, b1⟩
    have k := Z3'.out.below b1 Z3'.out.lt
    have c0 := k.cell 0
    have c1 := k.cell 1
    have f0 := k.free 0
    have f1 := k.free 1
    have hfin := Lib.hid (hi_set k P.1 P.2)
    have kb := Lib.hid (((hB'.out.trans (b1.mono hB'.out.size)).setCell (p := ⟨w.heap.size + 1 + 1, 0, none⟩) (by show _ ≤ _ + 1 + 1; omega) (.int .i64 P.1)).setCell (p := ⟨w.heap.size + 1 + 1, 1, none⟩) (by show _ ≤ _ + 1 + 1; omega) (.int .i64 P.2))
    clear k b1
    go_wp2
    exact itv_ret hfin.out ⟨rfl, kb.out⟩ _ _ 4 rfl rfl rfl)
def itvL (n : Nat) (l : List Int) (i : Nat) : Int × Int := if l = [] then (1, 0) else (-(mat n l 0 i), mat n l i 0)
theorem of_near {a b : Int} (h : a ≤ b) (h1 : -1099511627776 ≤ a) (h2 : b ≤ 1099511627776) : ofP a b = (a, b) := by
  unfold ofP
  rw [if_neg (by omega), clipV_id h1 (by omega), clipV_id (by omega) h2]
/-- Blocks of a zone and of an interval. -/
structure B1i (w W : World) (x y : Value) : Prop where
  bl : Below w.heap.size w W
  z1 : ZH W w.heap.size x y
  z2 : HI W (w.heap.size + 1) 0 0
theorem B1i.on {w W W' : World} {x y : Value} (h : B1i w W x y) (hb : Below W.heap.size W W') : B1i w W' x y := ⟨h.bl.trans (hb.mono h.bl.size), h.z1.below hb h.z1.lt, h.z2.below hb h.z2.lt⟩
theorem b1i_new (w : World) (x y : Value) : B1i w ((w.alloc (.cells #[x, y] 24)).alloc (.cells #[.int .i64 0, .int .i64 0] 38)) x y := by
  refine ⟨box2_below _ _ _ _ _, (Holds.new w _ _).alloc _, ?_⟩
  have := Holds.new (w.alloc (.cells #[x, y] 24)) 38 #[.int .i64 0, .int .i64 0]
  simpa using this
theorem hi_fin {w W : World} {x y : Value} (h : B1i w W x y) (a b : Int) (E : Value) : HI ((W.setCell ⟨w.heap.size + 1, 0, none⟩ (.int .i64 a)).setCell ⟨w.heap.size + 1, 1, none⟩ (.int .i64 b)) (w.heap.size + 1) a b ∧ Gives (.tuple #[.agg #[.int .i64 a, .int .i64 b], E]) w (.returned (.tuple #[.agg #[.int .i64 a, .int .i64 b], E])) ((W.setCell ⟨w.heap.size + 1, 0, none⟩ (.int .i64 a)).setCell ⟨w.heap.size + 1, 1, none⟩ (.int .i64 b)) :=
  ⟨hi_set h.z2 a b, rfl, (h.bl.setCell (p := ⟨w.heap.size + 1, 0, none⟩) (by show _ ≤ _ + 1; omega) _).setCell (p := ⟨w.heap.size + 1, 1, none⟩) (by show _ ≤ _ + 1; omega) _⟩
set_option maxRecDepth 100000 in
theorem zitv_bad (n i : Int) (a : Option Addr) (m ca : Nat) (l : List Int) (w : World) (h : SL w a m ca l) (hne : chkE n l 0 i 0 ≠ 0) : Calls Try.prog 24 #[.agg #[.int .i64 n, .slice a m ca], .int .i64 i] w (Gives (.tuple #[.agg #[.int .i64 0, .int .i64 0], .int .i64 (chkE n l 0 i 0)]) w) := by
  obtain ⟨W1, hW1⟩ : ∃ W1, W1 = (w.alloc (.cells #[.int .i64 n, .slice a m ca] 24)).alloc (.cells #[.int .i64 0, .int .i64 0] 38) := ⟨_, rfl⟩
  have X1 : B1i w W1 (.int .i64 n) (.slice a m ca) := by rw [hW1]; exact b1i_new _ _ _
  have q1 := Lib.hid (zcheck_any n 0 i 0 a m ca l W1 (h.below X1.bl))
  have hW1' := Lib.hid hW1
  have X1' := Lib.hid X1
  clear hW1 X1 h
  generalize chkE n l 0 i 0 = E at *
  have e1 : (E != 0) = true := by simpa using hne
  go_enter Try.func24, Try.ntmps24
  go_wp2_with fail
  rw [← hW1'.out]
  refine q1.out.mono ?_
  rintro e w2 ⟨rfl, b2⟩
  have X2 := Lib.hid (X1'.out.on b2)
  clear b2 X1' q1
  have y0 := X2.out.z2.cell 0
  have y1 := X2.out.z2.cell 1
  have f0 := X2.out.z2.free 0
  have f1 := X2.out.z2.free 1
  have hfin := Lib.hid (hi_fin X2.out 0 0 (.int .i64 E))
  go_wp2
  exact itv_ret2 hfin.out.1 hfin.out.2 _ _ 4 5 rfl rfl rfl rfl
set_option maxRecDepth 100000 in
theorem zitv_nil (n i : Nat) (hn : n ≤ 8) (hi : i ≤ n) (a : Option Addr) (ca : Nat) (w : World) (h : SL w a 0 ca []) : Calls Try.prog 24 #[.agg #[.int .i64 n, .slice a 0 ca], .int .i64 i] w (Gives (.tuple #[.agg #[.int .i64 1, .int .i64 0], .int .i64 0]) w) := by
  obtain ⟨W1, hW1⟩ : ∃ W1, W1 = (w.alloc (.cells #[.int .i64 n, .slice a 0 ca] 24)).alloc (.cells #[.int .i64 0, .int .i64 0] 38) := ⟨_, rfl⟩
  have X1 : B1i w W1 (.int .i64 n) (.slice a 0 ca) := by rw [hW1]; exact b1i_new _ _ _
  have q1 := Lib.hid (zcheck_any n 0 i 0 a 0 ca [] W1 (h.below X1.bl))
  rw [chkE_ok (n := n) (l := []) ⟨hn, .inl rfl⟩ (by omega) (by omega) (by omega) (by omega)] at q1
  have hS := Lib.hid h
  have q2 := Lib.hid (fun W (hW : Below w.heap.size w W) => bound_any n a 0 ca [] i 0 W (hS.out.below hW))
  rw [show bndV (n : Int) [] i 0 = 0 by unfold bndV fullB; simp, show bndB (n : Int) [] i 0 = false by unfold bndB fullB; simp] at q2
  have hW1' := Lib.hid hW1
  have X1' := Lib.hid X1
  clear hW1 X1 h
  go_enter Try.func24, Try.ntmps24
  go_wp2_with fail
  rw [← hW1'.out]
  refine q1.out.mono ?_
  rintro e w2 ⟨rfl, b2⟩
  have X2 := Lib.hid (X1'.out.on b2)
  clear b2 X1' q1
  have k0 := X2.out.z1.cell 0
  have k1 := X2.out.z1.cell 1
  go_wp2_with fail
  refine (q2.out _ X2.out.bl).mono ?_
  rintro e w3 ⟨rfl, b3⟩
  have X3 := Lib.hid (X2.out.on b3)
  clear b3 X2 k0 k1 q2
  go_wp2_with fail
  refine (inone_any _).mono ?_
  rintro e w4 ⟨rfl, b4⟩
  have X4 := Lib.hid (X3.out.on b4)
  clear b4 X3
  have y0 := X4.out.z2.cell 0
  have y1 := X4.out.z2.cell 1
  have f0 := X4.out.z2.free 0
  have f1 := X4.out.z2.free 1
  have hfin := Lib.hid (hi_fin X4.out 1 0 (.int .i64 0))
  go_wp2
  exact itv_ret2 hfin.out.1 hfin.out.2 _ _ 4 5 rfl rfl rfl rfl
set_option maxRecDepth 100000 in
theorem zitv_full (n i : Nat) (hi : i ≤ n) (l : List Int) (hF : Full n l) (a : Option Addr) (m ca : Nat) (w : World) (h : SL w a m ca l) : Calls Try.prog 24 #[.agg #[.int .i64 n, .slice a m ca], .int .i64 i] w (Gives (.tuple #[.agg #[.int .i64 (-(mat n l 0 i)), .int .i64 (mat n l i 0)], .int .i64 0]) w) := by
  obtain ⟨W1, hW1⟩ : ∃ W1, W1 = (w.alloc (.cells #[.int .i64 n, .slice a m ca] 24)).alloc (.cells #[.int .i64 0, .int .i64 0] 38) := ⟨_, rfl⟩
  have X1 : B1i w W1 (.int .i64 n) (.slice a m ca) := by rw [hW1]; exact b1i_new _ _ _
  have q1 := Lib.hid (zcheck_any n 0 i 0 a m ca l W1 (h.below X1.bl))
  rw [chkE_ok ⟨hF.le, .inr hF⟩ (by omega) (by omega) (by omega) (by omega)] at q1
  have hS := Lib.hid h
  have q2 := Lib.hid (fun W (hW : Below w.heap.size w W) => bound_full hF hi (Nat.zero_le n) a m ca W (hS.out.below hW))
  have q3 := Lib.hid (fun W (hW : Below w.heap.size w W) => bound_full hF (Nat.zero_le n) hi a m ca W (hS.out.below hW))
  have u1 := hF.up hi (Nat.zero_le n)
  have u2 := hF.up (Nat.zero_le n) hi
  have l1 := hF.low hi (Nat.zero_le n)
  have l2 := hF.low (Nat.zero_le n) hi
  have t1 := hF.closed.tri 0 0 i (Nat.zero_le n) (Nat.zero_le n) hi
  rw [hF.closed.zero 0 (Nat.zero_le n)] at t1
  have wi : widestF i 0 ≤ 1099511627776 ∧ widestF 0 i ≤ 1099511627776 := by unfold widestF; constructor <;> split <;> (try split) <;> omega
  have hW1' := Lib.hid hW1
  have X1' := Lib.hid X1
  clear hW1 X1 h hF
  generalize mat n l i 0 = up at *
  generalize mat n l 0 i = dn at *
  have hneg := Lib.hid (fun W => vneg_any dn W)
  rw [clipV_id (by omega) (by omega)] at hneg
  have hof := Lib.hid (fun W => iof_any (-dn) up W)
  rw [of_near (by omega) (by omega) (by omega)] at hof
  clear u1 u2 l1 l2 t1 wi
  go_enter Try.func24, Try.ntmps24
  go_wp2_with fail
  rw [← hW1'.out]
  refine q1.out.mono ?_
  rintro e w2 ⟨rfl, b2⟩
  have X2 := Lib.hid (X1'.out.on b2)
  clear b2 X1' q1
  have k0 := X2.out.z1.cell 0
  have k1 := X2.out.z1.cell 1
  go_wp2_with fail
  refine (q2.out _ X2.out.bl).mono ?_
  rintro e w3 ⟨rfl, b3⟩
  have X3 := Lib.hid (X2.out.on b3)
  clear b3 X2 k0 k1 q2
  have k0 := X3.out.z1.cell 0
  have k1 := X3.out.z1.cell 1
  go_wp2_with fail
  refine (q3.out _ X3.out.bl).mono ?_
  rintro e w4 ⟨rfl, b4⟩
  have X4 := Lib.hid (X3.out.on b4)
  clear b4 X3 k0 k1 q3
  go_wp2_with fail
  refine (hneg.out _).mono ?_
  rintro e w5 ⟨rfl, rfl⟩
  go_wp2_with fail
  refine (hof.out _).mono ?_
  rintro e w6 ⟨rfl, b6⟩
  have X6 := Lib.hid (X4.out.on b6)
  clear b6 X4
  have y0 := X6.out.z2.cell 0
  have y1 := X6.out.z2.cell 1
  have f0 := X6.out.z2.free 0
  have f1 := X6.out.z2.free 1
  have hfin := Lib.hid (hi_fin X6.out (-dn) up (.int .i64 0))
  go_wp2
  exact itv_ret2 hfin.out.1 hfin.out.2 _ _ 4 5 rfl rfl rfl rfl
end Go.Proofs.Ytacbkddkjlnklaa
