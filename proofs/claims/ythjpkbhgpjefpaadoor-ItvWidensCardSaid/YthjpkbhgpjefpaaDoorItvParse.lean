/- itv.Parse. -/
import Derived.Test.YthjpkbhgpjefpaaDoorItvShow
import Derived.Lib.IndexMore
namespace Go.Proofs.YthjpkbhgpjefpaaDoor
open Go.RowKit
set_option linter.unusedVariables false
set_option linter.unusedSimpArgs false

/-- The library's other variable holds some number. -/
def Mx (w : World) : Prop := ∃ m, w.cell? ⟨0, 0, none⟩ = some (.int .i64 m)
theorem Mx.on {w w' : World} (h : Mx w) (hb : Below w.heap.size w w') : Mx w' := by
  obtain ⟨m, hm⟩ := h
  exact ⟨m, (hb.cell (p := ⟨0, 0, none⟩) (World.block_lt_of_cell? w _ hm)).trans hm⟩
theorem drewn_below (w : World) (n : Nat) : Below w.heap.size w (w.drewN n) := ⟨rfl, rfl, rfl, Nat.le_refl _, fun _ _ => rfl⟩

/-- The two numbers' texts in an interval's. -/
def partsI (s : List UInt8) : List UInt8 × List UInt8 × Bool := Lib.cut (Lib.trimSuffix (Lib.trimPrefix s [91]) [93]) [44, 32]
theorem partsI_len (s : List UInt8) : (partsI s).1.length ≤ s.length ∧ (partsI s).2.1.length ≤ s.length := by
  have h1 : (Lib.trimPrefix s [91]).length ≤ s.length := by unfold Lib.trimPrefix; split <;> simp
  have h2 : (Lib.trimSuffix (Lib.trimPrefix s [91]) [93]).length ≤ s.length := by
    refine Nat.le_trans ?_ h1
    unfold Lib.trimSuffix; split
    · simp
    · exact Nat.le_refl _
  unfold partsI Lib.cut
  split
  · refine ⟨?_, ?_⟩ <;> simp <;> omega
  · exact ⟨h2, by simp⟩
/-- What Parse tells of a text that is not 'none': its ends, and what is wrong. -/
def prE (s : List UInt8) : Int := if parseE (partsI s).1 = 0 ∧ parseE (partsI s).2.1 = 0 ∧ showI (ofL (parseN (partsI s).1) (parseN (partsI s).2.1)) (ofH (parseN (partsI s).1) (parseN (partsI s).2.1)) = s then 0 else 70
def prL (s : List UInt8) : Int := if prE s = 0 then parseN (partsI s).1 else 0
def prH (s : List UInt8) : Int := if prE s = 0 then parseN (partsI s).2.1 else 0
/-- What Parse tells. -/
def pIE (s : List UInt8) : Int := if s = [110, 111, 110, 101] then 0 else prE s
def pIL (s : List UInt8) : Int := if s = [110, 111, 110, 101] then 1 else prL s
def pIH (s : List UInt8) : Int := if s = [110, 111, 110, 101] then 0 else prH s
theorem str_beq2 (a b : ByteArray) : (a.toList == b.toList) = decide (a.data.toList = b.data.toList) := by
  rw [ByteArray.toList_eq, ByteArray.toList_eq, Bool.eq_iff_iff, beq_iff_eq, decide_eq_true_iff]

theorem results_cell_tmp {fn : Func} {p q : Tmp} (h : fn.results = #[.cell p 23, .tmp q]) (tmps : Array Value) (w : World) (g : Nat) (a b : Int) (v : Value)
    (hp : tmps.getD p undef = .pointer (some ⟨g, 0, none⟩)) (hq : tmps.getD q undef = v) (hg : Held w g a b) : (results fn tmps).run Tryd.prog w = .ok (.tuple #[.agg #[.int .i64 a, .int .i64 b], v]) w := by
  have hp' : tmps[p]?.getD undef = .pointer (some ⟨g, 0, none⟩) := by simpa using hp
  have hq' : tmps[q]?.getD undef = v := by simpa using hq
  simp [results, h, hp', hq', asAddr, run_loadVar_row w g 23 23 #[.int .i64 a, .int .i64 b] (0, 0) _ hg Tryd.underlying23 rfl (by rw [info_iv]; rfl)]
theorem held_ret2 {w0 w : World} {g : Nat} {a b x y : Int} {v u : Value} (h : Held w g x y) (hx : x = a) (hy : y = b) (hb : Below w0.heap.size w0 w) (act : Act) (f : Func) (n m : Nat) (hf : f.results = #[.cell n 23, .tmp m]) (ha : act.tmps.getD n undef = .pointer (some ⟨g, 0, none⟩)) (hm : act.tmps.getD m undef = u) (hu : u = v) (hd : act.defers = []) :
    bodyPost Tryd.prog f (Gives (.tuple #[.agg #[.int .i64 a, .int .i64 b], v]) w0) Exit.ret act w := by
  subst hx hy hu
  exact bodyPost_ret (results_cell_tmp hf _ _ g x y u ha hm h) hd ⟨rfl, hb⟩
theorem Held.set0 {w : World} {g : Nat} {a b : Int} (h : Held w g a b) (x : Int) : Held (w.setCell ⟨g, 0, none⟩ (.int .i64 x)) g x b := heap_setCell_same w g 0 _ _ (.int .i64 x) h
theorem Held.set1 {w : World} {g : Nat} {a b : Int} (h : Held w g a b) (y : Int) : Held (w.setCell ⟨g, 1, none⟩ (.int .i64 y)) g a y := heap_setCell_same w g 1 _ _ (.int .i64 y) h
theorem prE_yes {s : List UInt8} (h : prE s = 0) : prL s = parseN (partsI s).1 ∧ prH s = parseN (partsI s).2.1 := ⟨if_pos h, if_pos h⟩
theorem prE_no {s : List UInt8} (h : prE s = 70) : prL s = 0 ∧ prH s = 0 := by unfold prL prH; rw [if_neg (by omega), if_neg (by omega)]; exact ⟨rfl, rfl⟩
theorem cut_any (s sep : ByteArray) (w : World) (hs : s.size < 4294967281) (hm : Mx w) : Calls Tryd.prog 48 #[.string s, .string sep] w (Gives (.tuple #[.string (strB (Lib.cut s.data.toList sep.data.toList).1), .string (strB (Lib.cut s.data.toList sep.data.toList).2.1), .bool (Lib.cut s.data.toList sep.data.toList).2.2]) w) := by
  obtain ⟨m, hm⟩ := hm
  refine (Tryd.strings_Cut s sep m w hs hm).mono ?_
  rintro e w' ⟨rfl, n, rfl⟩
  exact ⟨rfl, drewn_below w n⟩
set_option maxRecDepth 100000 in
set_option maxHeartbeats 1000000 in
theorem parse_itv (s : ByteArray) (hm : s.size ≤ 1000) (w : World) (ht : Tab w) (hx : Mx w) : Calls Tryd.prog 35 #[.string s] w (Gives (.tuple #[.agg #[.int .i64 (pIL s.data.toList), .int .i64 (pIH s.data.toList)], .int .i64 (pIE s.data.toList)]) w) := by
  have hlen : s.data.toList.length = s.size := by rw [Array.length_toList]; rfl
  have htl : s.toList = s.data.toList := ByteArray.toList_eq ..
  have hn := Lib.hid (fun w => none_any w)
  obtain ⟨kr, hB, hS⟩ := box1 w 0 0
  by_cases hnone : s.data.toList = [110, 111, 110, 101]
  · have e1 : pIE s.data.toList = 0 := if_pos hnone
    have e2 : pIL s.data.toList = 1 := if_pos hnone
    have e3 : pIH s.data.toList = 0 := if_pos hnone
    have h1 : (s.toList == [110, 111, 110, 101]) = true := by rw [htl, hnone]; rfl
    rw [e1, e2, e3]
    clear e1 e2 e3 hnone htl hlen
    go_enter Tryd.func35, Tryd.ntmps35
    go_wp2_with fail
    refine (hn.out _).mono ?_
    rintro e w1 ⟨rfl, h1⟩
    have jr := kr.on h1 (by omega)
    have jB := hB.trans (h1.mono (by omega))
    have r0 := jr.c0
    have r1 := jr.c1
    have r2 := jr.f0
    have r3 := jr.f1
    have kk := Lib.hid (jr.set 1 0)
    have kb := Lib.hid (below_two (h := w.heap.size) jB (by omega) 1 0)
    clear kr hB hS jr jB h1
    go_wp2
    exact held_ret2 kk.out rfl rfl kb.out _ _ 2 3 rfl rfl rfl rfl rfl
  · have h1 : (s.toList == [110, 111, 110, 101]) = false := by rw [htl, beq_eq_false_iff_ne]; exact hnone
    have q1 : pIE s.data.toList = prE s.data.toList := if_neg hnone
    have q2 : pIL s.data.toList = prL s.data.toList := if_neg hnone
    have q3 : pIH s.data.toList = prH s.data.toList := if_neg hnone
    rw [q1, q2, q3]
    have hpl := partsI_len s.data.toList
    have c1 := fun w => Tryd.strings_TrimPrefix s ⟨#[91]⟩ w
    have c2 := fun w => Tryd.strings_TrimSuffix ⟨(Lib.trimPrefix s.data.toList [91]).toArray⟩ ⟨#[93]⟩ w (by
      show (Lib.trimPrefix s.data.toList [91]).toArray.size ≤ _
      have : (Lib.trimPrefix s.data.toList [91]).length ≤ s.data.toList.length := by unfold Lib.trimPrefix; split <;> simp
      simp; omega)
    have c3 := fun w hx => cut_any ⟨(Lib.trimSuffix (Lib.trimPrefix s.data.toList [91]) [93]).toArray⟩ ⟨#[44, 32]⟩ w (by
      show (Lib.trimSuffix (Lib.trimPrefix s.data.toList [91]) [93]).toArray.size < _
      have h1 : (Lib.trimPrefix s.data.toList [91]).length ≤ s.data.toList.length := by unfold Lib.trimPrefix; split <;> simp
      have h2 : (Lib.trimSuffix (Lib.trimPrefix s.data.toList [91]) [93]).length ≤ (Lib.trimPrefix s.data.toList [91]).length := by
        unfold Lib.trimSuffix; split
        · simp
        · exact Nat.le_refl _
      simp; omega) hx
    have c3 : ∀ w, Mx w → Calls Tryd.prog 48 #[.string ⟨(Lib.trimSuffix (Lib.trimPrefix s.data.toList [91]) [93]).toArray⟩, .string ⟨#[44, 32]⟩] w (Gives (.tuple #[.string (strB (partsI s.data.toList).1), .string (strB (partsI s.data.toList).2.1), .bool (partsI s.data.toList).2.2]) w) := c3
    have c4 := fun w => parse_any (strB (partsI s.data.toList).1) (by rw [strB_size]; omega) w
    rw [show (strB (partsI s.data.toList).1).data.toList = (partsI s.data.toList).1 from rfl] at c4
    have c5 := fun w => parse_any (strB (partsI s.data.toList).2.1) (by rw [strB_size]; omega) w
    rw [show (strB (partsI s.data.toList).2.1).data.toList = (partsI s.data.toList).2.1 from rfl] at c5
    have c6 := fun w ht => show_itv (parseN (partsI s.data.toList).1) (parseN (partsI s.data.toList).2.1) w ht
    have hcmp : ((strB (showI (ofL (parseN (partsI s.data.toList).1) (parseN (partsI s.data.toList).2.1)) (ofH (parseN (partsI s.data.toList).1) (parseN (partsI s.data.toList).2.1)))).toList == s.toList) = decide (showI (ofL (parseN (partsI s.data.toList).1) (parseN (partsI s.data.toList).2.1)) (ofH (parseN (partsI s.data.toList).1) (parseN (partsI s.data.toList).2.1)) = s.data.toList) := str_beq2 _ _
    have hyes := prE_yes (s := s.data.toList)
    have hno := prE_no (s := s.data.toList)
    have hdef : prE s.data.toList = if parseE (partsI s.data.toList).1 = 0 ∧ parseE (partsI s.data.toList).2.1 = 0 ∧ decide (showI (ofL (parseN (partsI s.data.toList).1) (parseN (partsI s.data.toList).2.1)) (ofH (parseN (partsI s.data.toList).1) (parseN (partsI s.data.toList).2.1)) = s.data.toList) = true then 0 else 70 := by
      unfold prE; simp only [decide_eq_true_iff]
    generalize decide (showI (ofL (parseN (partsI s.data.toList).1) (parseN (partsI s.data.toList).2.1)) (ofH (parseN (partsI s.data.toList).1) (parseN (partsI s.data.toList).2.1)) = s.data.toList) = OK at *
    generalize strB (showI (ofL (parseN (partsI s.data.toList).1) (parseN (partsI s.data.toList).2.1)) (ofH (parseN (partsI s.data.toList).1) (parseN (partsI s.data.toList).2.1))) = T at *
    generalize parseN (partsI s.data.toList).1 = n1 at *
    generalize parseN (partsI s.data.toList).2.1 = n2 at *
    generalize parseE (partsI s.data.toList).1 = e1 at *
    generalize parseE (partsI s.data.toList).2.1 = e2 at *
    generalize strB (partsI s.data.toList).1 = s1 at *
    generalize strB (partsI s.data.toList).2.1 = s2 at *
    generalize (partsI s.data.toList).2.2 = s3 at *
    generalize prE s.data.toList = E at *
    generalize prL s.data.toList = L at *
    generalize prH s.data.toList = H at *
    generalize (⟨(Lib.trimSuffix (Lib.trimPrefix s.data.toList [91]) [93]).toArray⟩ : ByteArray) = u2 at *
    generalize (⟨(Lib.trimPrefix s.data.toList [91]).toArray⟩ : ByteArray) = u1 at *
    have c1' := Lib.hid c1
    have c2' := Lib.hid c2
    have c3' := Lib.hid c3
    have c4' := Lib.hid c4
    have c5' := Lib.hid c5
    have c6' := Lib.hid c6
    have hyes' := Lib.hid hyes
    have hno' := Lib.hid hno
    have hdef' := Lib.hid hdef
    clear c1 c2 c3 c4 c5 c6 hyes hno hdef hpl q1 q2 q3 hnone htl hlen
    have ht0 := ht.on hB
    have hx0 := hx.on hB
    go_enter Tryd.func35, Tryd.ntmps35
    go_wp2_with fail
    refine (c1'.out _).mono ?_
    rintro e w' ⟨rfl, rfl⟩
    go_wp2_with fail
    refine (c2'.out _).mono ?_
    rintro e w' ⟨rfl, rfl⟩
    go_wp2_with fail
    refine (c3'.out _ hx0).mono ?_
    rintro e w1 ⟨rfl, h1b⟩
    have kr1 := kr.on h1b (by omega)
    have kB1 := hB.trans (h1b.mono (by omega))
    have ks1 : w.heap.size + 1 ≤ w1.heap.size := by have := h1b.size; omega
    have ht1 := ht0.on h1b
    have kx1 := Held.new w1 0 0
    have kr2 := kr1.alloc (by omega) (.cells #[.int .i64 0, .int .i64 0] 23)
    have kB2 := kB1.alloc (by omega) (.cells #[.int .i64 0, .int .i64 0] 23)
    have ht2 := ht1.on ((Below.refl _ w1).alloc (Nat.le_refl _) (.cells #[.int .i64 0, .int .i64 0] 23))
    have ks2 := size_alloc1 w1 (.cells #[.int .i64 0, .int .i64 0] 23)
    clear kr hB hS ht0 hx0 kr1 kB1 ht1 h1b
    go_wp2_with fail
    refine (c4'.out _).mono ?_
    rintro e w2 ⟨rfl, h2b⟩
    generalize hgx : w1.heap.size = gx at kx1 ks1 ks2 ⊢
    have kx2 := kx1.on h2b (by omega)
    have kr3 := kr2.on h2b (by omega)
    have kB3 := kB2.trans (h2b.mono (by omega))
    have ht3 := ht2.on h2b
    have ks3 := h2b.size
    have x0 := kx2.c0
    have x1 := kx2.f0
    have kx3 := kx2.set0 n1
    have kr4 := kr3.other (g := gx) (by omega) 0 (.int .i64 n1)
    have kB4 := kB3.setCell (p := ⟨gx, 0, none⟩) (show w.heap.size ≤ gx by omega) (.int .i64 n1)
    have ht4 := ht.on kB4
    have ks4 : (w2.setCell ⟨gx, 0, none⟩ (.int .i64 n1)).heap.size = w2.heap.size := by simp
    clear kx1 kx2 kr2 kr3 kB2 kB3 h2b ht2 ht3
    go_wp2_with fail
    refine (c5'.out _).mono ?_
    rintro e w3 ⟨rfl, h3b⟩
    clear x0 x1
    have kx5 := kx3.on h3b (by omega)
    have kr5 := kr4.on h3b (by omega)
    have kB5 := kB4.trans (h3b.mono (by omega))
    have ks5 := h3b.size
    have x0 := kx5.c1
    have x1 := kx5.f1
    have kx6 := kx5.set1 n2
    have kr6 := kr5.other (g := gx) (by omega) 1 (.int .i64 n2)
    have kB6 := kB5.setCell (p := ⟨gx, 1, none⟩) (show w.heap.size ≤ gx by omega) (.int .i64 n2)
    have ht6 := ht.on kB6
    have ks6 : w.heap.size + 1 ≤ (w3.setCell ⟨gx, 1, none⟩ (.int .i64 n2)).heap.size := by simp; omega
    have ks7 : gx + 1 ≤ (w3.setCell ⟨gx, 1, none⟩ (.int .i64 n2)).heap.size := by simp; omega
    have y0 := kx6.c0
    have y1 := kx6.c1
    clear kx3 kx5 kr4 kr5 kB4 kB5 h3b ht4 ks1 ks2 ks3 ks4 ks5
    have kr7 := Lib.hid kr6
    have kB7 := Lib.hid kB6
    have kx7 := Lib.hid kx6
    have ht7 := Lib.hid ht6
    have ks6' := Lib.hid ks6
    have ks7' := Lib.hid ks7
    clear kr6 kB6 kx6 ht6 ks6 ks7 ht hx
    by_cases he1 : e1 = 0
    · by_cases he2 : e2 = 0
      · have d1 : (e1 != 0) = false := by rw [he1]; rfl
        have d2 : (e2 != 0) = false := by rw [he2]; rfl
        cases OK
        · have hE := Lib.hid (show (70 : Int) = E from (hdef'.out.trans (if_neg (by simp))).symm)
          have hL := Lib.hid (show (0 : Int) = L from (hno'.out hE.out.symm).1.symm)
          have hH := Lib.hid (show (0 : Int) = H from (hno'.out hE.out.symm).2.symm)
          have hE : Hid (Value.int .i64 70 = .int .i64 E) := Lib.hid (by rw [hE.out])
          clear he1 he2
          go_wp2_with fail
          refine (c6'.out _ ht7.out).mono ?_
          rintro e w4 ⟨rfl, h4⟩
          have kr' := kr7.out.on h4 (by have := ks6'.out; omega)
          have kB' := kB7.out.trans (h4.mono (by have := ks6'.out; omega))
          clear x0 x1 y0 y1 h4
          have r0 := kr'.c0
          have r1 := kr'.c1
          have r2 := kr'.f0
          have r3 := kr'.f1
          have kk := Lib.hid (fun P Q => kr'.set P Q)
          have kb := Lib.hid (fun P Q => below_two (h := w.heap.size) kB' (by omega) P Q)
          clear kr' kB'
          go_wp2
          exact held_ret2 (kk.out _ _) hL.out hH.out (kb.out _ _) _ _ 2 3 rfl rfl rfl hE.out rfl
        · have hE := Lib.hid (show (0 : Int) = E from (hdef'.out.trans (if_pos ⟨he1, he2, rfl⟩)).symm)
          have hL := Lib.hid (show n1 = L from (hyes'.out hE.out.symm).1.symm)
          have hH := Lib.hid (show n2 = H from (hyes'.out hE.out.symm).2.symm)
          have hE : Hid (Value.int .i64 0 = .int .i64 E) := Lib.hid (by rw [hE.out])
          clear he1 he2
          go_wp2_with fail
          refine (c6'.out _ ht7.out).mono ?_
          rintro e w4 ⟨rfl, h4⟩
          have kr' := kr7.out.on h4 (by have := ks6'.out; omega)
          have kB' := kB7.out.trans (h4.mono (by have := ks6'.out; omega))
          have kx' := kx7.out.on h4 (by have := ks7'.out; omega)
          clear x0 x1 y0 y1 h4
          have x0 := kx'.c0
          have x1 := kx'.c1
          clear kx'
          have r0 := kr'.c0
          have r1 := kr'.c1
          have r2 := kr'.f0
          have r3 := kr'.f1
          have kk := Lib.hid (fun P Q => kr'.set P Q)
          have kb := Lib.hid (fun P Q => below_two (h := w.heap.size) kB' (by omega) P Q)
          clear kr' kB'
          go_wp2
          exact held_ret2 (kk.out _ _) hL.out hH.out (kb.out _ _) _ _ 2 3 rfl rfl rfl hE.out rfl
      · have d1 : (e1 != 0) = false := by rw [he1]; rfl
        have d2 : (e2 != 0) = true := by simpa using he2
        have hE := Lib.hid (show (70 : Int) = E from (hdef'.out.trans (if_neg (fun h => he2 h.2.1))).symm)
        have hL := Lib.hid (show (0 : Int) = L from (hno'.out hE.out.symm).1.symm)
        have hH := Lib.hid (show (0 : Int) = H from (hno'.out hE.out.symm).2.symm)
        have hE : Hid (Value.int .i64 70 = .int .i64 E) := Lib.hid (by rw [hE.out])
        clear he1 he2
        have kr' := kr7.out
        have kB' := kB7.out
        have r0 := kr'.c0
        have r1 := kr'.c1
        have r2 := kr'.f0
        have r3 := kr'.f1
        have kk := Lib.hid (fun P Q => kr'.set P Q)
        have kb := Lib.hid (fun P Q => below_two (h := w.heap.size) kB' (by omega) P Q)
        clear kr' kB'
        go_wp2
        exact held_ret2 (kk.out _ _) hL.out hH.out (kb.out _ _) _ _ 2 3 rfl rfl rfl hE.out rfl
    · have d1 : (e1 != 0) = true := by simpa using he1
      have hE := Lib.hid (show (70 : Int) = E from (hdef'.out.trans (if_neg (fun h => he1 h.1))).symm)
      have hL := Lib.hid (show (0 : Int) = L from (hno'.out hE.out.symm).1.symm)
      have hH := Lib.hid (show (0 : Int) = H from (hno'.out hE.out.symm).2.symm)
      have hE : Hid (Value.int .i64 70 = .int .i64 E) := Lib.hid (by rw [hE.out])
      clear he1
      have kr' := kr7.out
      have kB' := kB7.out
      have r0 := kr'.c0
      have r1 := kr'.c1
      have r2 := kr'.f0
      have r3 := kr'.f1
      have kk := Lib.hid (fun P Q => kr'.set P Q)
      have kb := Lib.hid (fun P Q => below_two (h := w.heap.size) kB' (by omega) P Q)
      clear kr' kB'
      go_wp2
      exact held_ret2 (kk.out _ _) hL.out hH.out (kb.out _ _) _ _ 2 3 rfl rfl rfl hE.out rfl
end Go.Proofs.YthjpkbhgpjefpaaDoor
