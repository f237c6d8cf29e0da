import Derived.Lib.BufferMore
import Derived.OwnWalk
import Derived.Test.YtplgmmjppmpnoaaGreatDoorQ06
/- Zones: full, Empty, Bound, Large. -/
namespace Go.Proofs.YtplgmmjppmpnoaaGreatDoor
open Go.RowKit
set_option linter.unusedVariables false
set_option linter.unusedSimpArgs false

def fullB (n : Int) (l : List Int) : Bool := !decide (l = []) && checkB n l
def emptyB (n : Int) (l : List Int) : Bool := decide (l = []) && checkB n l
theorem full_any (n : Int) (a : Option Addr) (m c : Nat) (l : List Int) (w : World) (h : SL w a m c l) :
    Calls Tryz.prog 23 #[.agg #[.int .i64 n, .slice a m c]] w (Gives (.bool (fullB n l)) w) := by
  have hB := box_below w #[.int .i64 n, .slice a m c] 24
  have hc := Lib.hid (dcheck_any n a m c l _ (h.below hB))
  have hB' := Lib.hid hB
  have hmx := h.max
  by_cases h0 : l = []
  · subst h0
    have hm : m = 0 := h.len
    subst hm
    have e : fullB n [] = false := rfl
    rw [e]
    clear hB h hc
    go_enter Tryz.func23, Tryz.ntmps23
    go_wp2
    go_ret
    exact ⟨rfl, hB'.out⟩
  · have hm := len_pos h0 h.len
    have e1 : ((m : Int) != 0) = true := by simp; omega
    have e0 : ((m : Int) == 0) = false := by simp; omega
    have e2 : ¬ (m : Int) = 0 := by omega
    have hr : Hid (fullB n l = checkB n l) := Lib.hid (by unfold fullB; simp [h0])
    have hk := Lib.hid (chk_or n l)
    clear hB h hm h0
    generalize fullB n l = R at *
    generalize chk n l = E at *
    generalize checkB n l = y at *
    have hr2 := hr.out
    subst hr2
    go_enter Tryz.func23, Tryz.ntmps23
    go_wp2_with fail
    refine hc.out.mono ?_
    rintro e w1 ⟨rfl, b1⟩
    have hb1 := Lib.hid (hB'.out.trans (b1.mono hB'.out.size))
    rcases hk.out with ⟨rfl, rfl⟩ | ⟨rfl, rfl⟩
    · go_wp2
      go_ret
      exact ⟨rfl, hb1.out⟩
    · go_wp2
      go_ret
      exact ⟨rfl, hb1.out⟩
theorem empty_any (n : Int) (a : Option Addr) (m c : Nat) (l : List Int) (w : World) (h : SL w a m c l) :
    Calls Tryz.prog 49 #[.agg #[.int .i64 n, .slice a m c]] w (Gives (.bool (emptyB n l)) w) := by
  have hB := box_below w #[.int .i64 n, .slice a m c] 24
  have hc := Lib.hid (dcheck_any n a m c l _ (h.below hB))
  have hB' := Lib.hid hB
  have hmx := h.max
  by_cases h0 : l = []
  · have hm : m = 0 := by rw [h.len, h0]; rfl
    subst hm
    have hr : Hid (emptyB n l = checkB n l) := Lib.hid (by unfold emptyB; simp [h0])
    have hk := Lib.hid (chk_or n l)
    clear hB h h0
    generalize emptyB n l = R at *
    generalize chk n l = E at *
    generalize checkB n l = y at *
    have hr2 := hr.out
    subst hr2
    go_enter Tryz.func49, Tryz.ntmps49
    go_wp2_with fail
    refine hc.out.mono ?_
    rintro e w1 ⟨rfl, b1⟩
    have hb1 := Lib.hid (hB'.out.trans (b1.mono hB'.out.size))
    rcases hk.out with ⟨rfl, rfl⟩ | ⟨rfl, rfl⟩
    · go_wp2
      go_ret
      exact ⟨rfl, hb1.out⟩
    · go_wp2
      go_ret
      exact ⟨rfl, hb1.out⟩
  · have hm := len_pos h0 h.len
    have e0 : ((m : Int) == 0) = false := by simp; omega
    have e2 : ¬ (m : Int) = 0 := by omega
    have e : emptyB n l = false := by unfold emptyB; rw [decide_eq_false h0, Bool.false_and]
    rw [e]
    clear hB h hm h0 hc e
    go_enter Tryz.func49, Tryz.ntmps49
    go_wp2
    go_ret
    exact ⟨rfl, hB'.out⟩
theorem large_any (a : Option Addr) (m c : Nat) (hm : m ≤ 9223372036854775807) (w : World) : Calls Tryz.prog 6 #[.slice a m c] w (Tells (.bool (decide (200 < (m : Int)))) w) := by
  go_enter Tryz.func6, Tryz.ntmps6
  go_wp2
  go_ret
  exact ⟨rfl, rfl⟩
/-- A zone that has valuations. -/
structure Full (n : Nat) (l : List Int) : Prop where
  le : n ≤ 8
  len : l.length = sz n
  ne : l ≠ []
  fix : l = closedL n l
theorem full_of {n : Int} {l : List Int} (h : fullB n l = true) : ∃ k : Nat, n = k ∧ Full k l := by
  unfold fullB at h
  rw [Bool.and_eq_true] at h
  have h0 : l ≠ [] := by intro e; rw [e] at h; simp at h
  have hm : mayB n = true := by
    cases q : mayB n
    · rw [checkB_no q] at h; simp at h
    · rfl
  obtain ⟨k, rfl, hk⟩ := mayB_of hm
  by_cases hl : l.length = sz k
  · rw [checkB_sz hk h0 hl] at h
    exact ⟨k, rfl, hk, hl, h0, of_decide_eq_true h.2⟩
  · rw [checkB_len h0 hl] at h
    simp at h
theorem Full.is {n : Nat} {l : List Int} (h : Full n l) : fullB n l = true := by
  unfold fullB
  rw [decide_eq_false h.ne, checkB_sz h.le h.ne h.len, decide_eq_true h.fix]
  rfl
theorem Full.closed {n : Nat} {l : List Int} (h : Full n l) : Closed n (mat n l) := by
  have := (closedL_is (n := n) (M := l) (by rw [← h.fix]; exact h.ne)).2.1
  rwa [← h.fix] at this
theorem Full.up {n : Nat} {l : List Int} (h : Full n l) {i j : Nat} (hi : i ≤ n) (hj : j ≤ n) : mat n l i j ≤ widestF i j := by
  have := closedL_widest (n := n) (M := l) (by rw [← h.fix]; exact h.ne) hi hj
  rwa [← h.fix] at this
theorem Full.low {n : Nat} {l : List Int} (h : Full n l) {i j : Nat} (hi : i ≤ n) (hj : j ≤ n) : -(widestF j i) ≤ mat n l i j := by
  have h1 := h.closed.tri i i j hi hi hj
  rw [h.closed.zero i hi] at h1
  have := h.up hj hi
  omega
def boundV (n : Nat) (l : List Int) (i j : Int) : Int × Bool := if fullB n l && inB n i && inB n j then (l.getD (i.toNat * (n + 1) + j.toNat) 0, true) else (0, false)
theorem inB_of {n : Nat} {i : Int} (h : inB n i = true) : ∃ k : Nat, i = k ∧ k ≤ n := by
  unfold inB at h
  rw [Bool.and_eq_true, decide_eq_true_eq, decide_eq_true_eq] at h
  exact ⟨i.toNat, by omega, by omega⟩
theorem inB_nat {n k : Nat} (h : k ≤ n) : inB n (k : Int) = true := by unfold inB; simp; omega
/-- What Bound tells. -/
def bndV (n : Int) (l : List Int) (i j : Int) : Int := if fullB n l && inB n.toNat i && inB n.toNat j then l.getD (i.toNat * (n.toNat + 1) + j.toNat) 0 else 0
def bndB (n : Int) (l : List Int) (i j : Int) : Bool := fullB n l && inB n.toNat i && inB n.toNat j
set_option maxRecDepth 100000 in
theorem bound_any (n : Int) (a : Option Addr) (m c : Nat) (l : List Int) (i j : Int) (w : World) (h : SL w a m c l) :
    Calls Tryz.prog 14 #[.agg #[.int .i64 n, .slice a m c], .int .i64 i, .int .i64 j] w (Gives (.tuple #[.int .i64 (bndV n l i j), .bool (bndB n l i j)]) w) := by
  obtain ⟨W1, hW1⟩ : ∃ W1, W1 = w.alloc (.cells #[.int .i64 n, .slice a m c] 24) := ⟨_, rfl⟩
  have hB : Below w.heap.size w W1 := by rw [hW1]; exact box_below _ _ _
  have hz : ZH W1 w.heap.size (.int .i64 n) (.slice a m c) := by rw [hW1]; exact Holds.new w _ _
  have hW1' := Lib.hid hW1
  have hB' := Lib.hid hB
  have hz' := Lib.hid hz
  have hsl := Lib.hid (h.below hB)
  have hful := Lib.hid (full_any n a m c l W1 hsl.out)
  clear hW1 hB hz h
  unfold bndV bndB
  cases hf : fullB n l
  · rw [hf] at hful
    simp only [Bool.false_and, Bool.false_eq_true, if_false]
    clear hf
    go_enter Tryz.func14, Tryz.ntmps14
    go_wp2_with fail
    rw [← hW1'.out]
    refine hful.out.mono ?_
    rintro e w1 ⟨rfl, b1⟩
    have hb1 := Lib.hid (hB'.out.trans (b1.mono hB'.out.size))
    go_wp2
    go_ret2
    exact ⟨rfl, hb1.out⟩
  · rw [hf] at hful
    obtain ⟨n, rfl, hF⟩ := full_of hf
    have en : ((n : Int)).toNat = n := by omega
    rw [en, Bool.true_and]
    have hF' := Lib.hid hF
    have hn := hF.le
    clear hf hF en
    have hin := Lib.hid (fun i W (hW : Below W1.heap.size W1 W) => in_any w.heap.size n i W (((hz'.out.below hW hz'.out.lt).cell 0)))
    have hz2 : Hid (∀ W, Below W1.heap.size W1 W → W.cell? ⟨w.heap.size, 0, none⟩ = some (.int .i64 n) ∧ W.cell? ⟨w.heap.size, 1, none⟩ = some (.slice a m c)) := Lib.hid (fun W hW => ⟨(hz'.out.below hW hz'.out.lt).cell 0, (hz'.out.below hW hz'.out.lt).cell 1⟩)
    cases hi : inB n i
    · simp only [Bool.false_and, Bool.false_eq_true, if_false]
      go_enter Tryz.func14, Tryz.ntmps14
      go_wp2_with fail
      rw [← hW1'.out]
      refine hful.out.mono ?_
      rintro e w1 ⟨rfl, b1⟩
      have hb1 := Lib.hid (hB'.out.trans (b1.mono hB'.out.size))
      have hin2 := Lib.hid (hin.out i w1 b1)
      rw [hi] at hin2
      clear hin hi
      go_wp2_with fail
      refine hin2.out.mono ?_
      rintro e w2 ⟨rfl, rfl⟩
      go_wp2
      go_ret2
      exact ⟨rfl, hb1.out⟩
    · simp only [Bool.true_and]
      cases hj : inB n j
      · simp only [Bool.false_eq_true, if_false]
        go_enter Tryz.func14, Tryz.ntmps14
        go_wp2_with fail
        rw [← hW1'.out]
        refine hful.out.mono ?_
        rintro e w1 ⟨rfl, b1⟩
        have hb1 := Lib.hid (hB'.out.trans (b1.mono hB'.out.size))
        have hin2 := Lib.hid (hin.out i w1 b1)
        have hin3 := Lib.hid (hin.out j w1 b1)
        rw [hi] at hin2
        rw [hj] at hin3
        clear hin hi hj
        go_wp2_with fail
        refine hin2.out.mono ?_
        rintro e w2 ⟨rfl, rfl⟩
        go_wp2_with fail
        refine hin3.out.mono ?_
        rintro e w2 ⟨rfl, rfl⟩
        go_wp2
        go_ret2
        exact ⟨rfl, hb1.out⟩
      · simp only [if_true]
        have hi2 := hi
        have hj2 := hj
        obtain ⟨i, rfl, hin'⟩ := inB_of hi
        obtain ⟨j, rfl, hjn'⟩ := inB_of hj
        have ei : ((i : Int)).toNat = i := by omega
        have ej : ((j : Int)).toNat = j := by omega
        rw [ei, ej]
        clear ei ej hi hj
        obtain ⟨p, q, w1, w2, w3, hq, hqs, -, -, -⟩ := place_wraps hn hin' hjn'
        rw [← hq]
        have hlm : m = sz n := by rw [hsl.out.len, hF'.out.len]
        have hqm : (q : Int) < (m : Int) := by omega
        obtain ⟨b, off, rfl, hbl, hc0⟩ := sees_at' hsl.out.sees (i := q) (by rw [hF'.out.len]; exact hqs)
        have hcc : Hid (∀ W, Below W1.heap.size W1 W → W.cell? ⟨b, off + q, none⟩ = some (.int .i64 (l.getD q 0))) := Lib.hid (fun W hW => (hW.cell (p := ⟨b, off + q, none⟩) hbl).trans hc0)
        clear hq hqs hlm hbl hc0
        generalize l.getD q 0 = x at *
        go_enter Tryz.func14, Tryz.ntmps14
        go_wp2_with fail
        rw [← hW1'.out]
        refine hful.out.mono ?_
        rintro e w1 ⟨rfl, b1⟩
        have hb1 := Lib.hid (hB'.out.trans (b1.mono hB'.out.size))
        have hin2 := Lib.hid (hin.out i w1 b1)
        have hin3 := Lib.hid (hin.out j w1 b1)
        have hcc1 := hcc.out w1 b1
        obtain ⟨z0, z1⟩ := hz2.out w1 b1
        rw [hi2] at hin2
        rw [hj2] at hin3
        clear hin hi2 hj2 hcc hz2
        go_wp2_with fail
        refine hin2.out.mono ?_
        rintro e w2 ⟨rfl, rfl⟩
        go_wp2_with fail
        refine hin3.out.mono ?_
        rintro e w2 ⟨rfl, rfl⟩
        go_wp2
        go_ret2
        exact ⟨rfl, hb1.out⟩
end Go.Proofs.YtplgmmjppmpnoaaGreatDoor
/- Zones: what a zone has; points. -/
namespace Go.Proofs.YtplgmmjppmpnoaaGreatDoor
open Go.RowKit
set_option linter.unusedVariables false
set_option linter.unusedSimpArgs false

def cellB (n : Nat) (l v : List Int) (t : Nat) : Bool := decide (valF v (t / (n + 1)) - valF v (t % (n + 1)) ≤ l.getD t 0)
def cellsB (n : Nat) (l v : List Int) : Bool := (List.range (sz n)).all (cellB n l v)
theorem cellsB_yes {n : Nat} {l v : List Int} (h : ∀ t, t < sz n → cellB n l v t = true) : cellsB n l v = true := List.all_eq_true.2 (fun t ht => h t (List.mem_range.1 ht))
theorem cellsB_no {n : Nat} {l v : List Int} {t : Nat} (ht : t < sz n) (h : cellB n l v t = false) : cellsB n l v = false := List.all_eq_false.2 ⟨t, List.mem_range.2 ht, by rw [h]; decide⟩
theorem val_in {v : List Int} (h : v.any farB = false) (i : Nat) : -1099511627776 ≤ valF v i ∧ valF v i ≤ 1099511627776 := by
  unfold valF
  split
  · omega
  · by_cases hi : i - 1 < v.length
    · have := List.any_eq_false.1 h (v[i - 1]) (List.getElem_mem hi)
      unfold farB at this
      simp at this
      simp [List.getD, hi]
      omega
    · simp [List.getD, show v.length ≤ i - 1 by omega]
theorem is_any (x : Int) (w : World) : Calls Tryz.prog 35 #[.int .i64 x] w (Tells (.bool (!farB x)) w) := by
  have e : (!farB x) = (decide (-1099511627776 ≤ x) && decide (x ≤ 1099511627776)) := by unfold farB; by_cases h1 : 1099511627776 < x <;> by_cases h2 : x < -1099511627776 <;> simp [h1, h2] <;> omega
  rw [e]
  by_cases h0 : -1099511627776 ≤ x
  · have d0 : decide (-1099511627776 ≤ x) = true := decide_eq_true h0
    rw [d0, Bool.true_and]
    clear e d0
    go_enter Tryz.func35, Tryz.ntmps35
    go_wp2
    go_ret
    exact ⟨rfl, rfl⟩
  · have d0 : decide (-1099511627776 ≤ x) = false := decide_eq_false h0
    rw [d0, Bool.false_and]
    clear e d0
    go_enter Tryz.func35, Tryz.ntmps35
    go_wp2
    go_ret
    exact ⟨rfl, rfl⟩
theorem drewN_add (w : World) (a b : Nat) : (w.drewN a).drewN b = w.drewN (a + b) := by simp [World.drewN, Nat.add_assoc]
theorem diff_any (gv : Nat) (a : Option Addr) (v : List Int) (m c : Nat) (hm : m = v.length) (hl : m ≤ 1000) (hv : v.any farB = false) (i j : Nat) (hi : i ≤ m) (hj : j ≤ m) (B : Nat) (w : World) (h : Sees .i64 B w a v)
    (hg : w.cell? ⟨gv, 0, none⟩ = some (.slice a m c)) :
    Calls Tryz.prog 26 #[.int .i64 i, .int .i64 j, .pointer (some ⟨gv, 0, none⟩)] w (ReadsV (.int .i64 (valF v i - valF v j)) w) := by
  have hx := Lib.hid (fun W (hW : ∃ k, W = w.drewN k) => value_any a v m c hm hl i hi B W (by obtain ⟨k, rfl⟩ := hW; exact h.drewN k))
  have hy := Lib.hid (fun W (hW : ∃ k, W = w.drewN k) => value_any a v m c hm hl j hj B W (by obtain ⟨k, rfl⟩ := hW; exact h.drewN k))
  have b1 := val_in hv i
  have b2 := val_in hv j
  clear h hm hv hi hj
  generalize valF v i = x at *
  generalize valF v j = y at *
  have hw : IntKind.i64.wrap (x - y) = x - y := wrap_small (by omega) (by omega)
  go_enter Tryz.func26, Tryz.ntmps26
  go_wp2
  have hc : ∀ W, (∃ k, W = w.drewN k) → W.cell? ⟨gv, 0, none⟩ = some (.slice a m c) := by rintro W ⟨k, rfl⟩; exact hg
  clear hg
  refine wp_drawn_on (fun W => ∃ k, W = w.drewN k) (by kernel_rfl) (⟨1, rfl⟩) (fun hHeld => ?_)
  refine wpAnyH_take (i := 0) (oi := { dst := some 6, op := Go.Op.load 22 (Go.Operand.tmp 2), type := 22, pos := "dbm.go:115", after := #[], guard := none }) (v := ?v1) rfl (by kernel_rfl) (by kernel_rfl) (by kernel_rfl) (fun _ _ _ h => h) (Or.inl ⟨by kernel_rfl, ?h1⟩) (by assumption) ?r1
  case h1 => (intro w hSw; (try dsimp only at hSw); go_simp; try with_reducible rfl)
  try simp only [Act.put, List.setIfInBounds_toArray, List.set_cons_zero, List.set_cons_succ]
  refine wpAnyH_take (i := 1) (oi := { dst := some 7, op := Go.Op.move (Go.Operand.tmp 0), type := 3, pos := "dbm.go:115", after := #[], guard := none }) (v := ?v2) rfl (by kernel_rfl) (by kernel_rfl) (by kernel_rfl) (fun _ _ _ h => h) (Or.inl ⟨by kernel_rfl, ?h2⟩) (by assumption) ?r2
  case h2 => (intro w hSw; (try dsimp only at hSw); go_simp; try with_reducible rfl)
  try simp only [Act.put, List.setIfInBounds_toArray, List.set_cons_zero, List.set_cons_succ]
  refine wpAnyH_take (i := 3) (oi := { dst := some 9, op := Go.Op.load 22 (Go.Operand.tmp 2), type := 22, pos := "dbm.go:115", after := #[], guard := none }) (v := ?v3) rfl (by kernel_rfl) (by kernel_rfl) (by kernel_rfl) (fun _ _ _ h => h) (Or.inl ⟨by kernel_rfl, ?h3⟩) (by assumption) ?r3
  case h3 => (intro w hSw; (try dsimp only at hSw); go_simp; try with_reducible rfl)
  try simp only [Act.put, List.setIfInBounds_toArray, List.set_cons_zero, List.set_cons_succ]
  refine wpAnyH_take (i := 4) (oi := { dst := some 10, op := Go.Op.move (Go.Operand.tmp 1), type := 3, pos := "dbm.go:115", after := #[], guard := none }) (v := ?v4) rfl (by kernel_rfl) (by kernel_rfl) (by kernel_rfl) (fun _ _ _ h => h) (Or.inl ⟨by kernel_rfl, ?h4⟩) (by assumption) ?r4
  case h4 => (intro w hSw; (try dsimp only at hSw); go_simp; try with_reducible rfl)
  try simp only [Act.put, List.setIfInBounds_toArray, List.set_cons_zero, List.set_cons_succ]
  refine wpAnyH_ready (rs := [2]) (by kernel_rfl) (by simp) ?_
  refine AllReadyH.cons (o := { dst := some 8, op := Go.Op.call { callee := Go.Callee.value (Go.Operand.func 27), args := #[Go.Operand.tmp 6, Go.Operand.tmp 7], argTypes := #[22, 3] }, type := 3, pos := "dbm.go:115", after := #[{ on := 0, ground := Go.Ground.data }, { on := 1, ground := Go.Ground.data }], guard := none }) rfl (fun K hK => ?_) AllReadyH.nil
  go_simp
  refine (hx.out _ hHeld).mono ?_
  rintro e w1 ⟨rfl, rfl⟩
  go_simp
  refine hK.out _ _ (hHeld) (fun hHeld => ?_)
  clear hK K
  try simp only [Act.put, List.setIfInBounds_toArray, List.set_cons_zero, List.set_cons_succ]
  refine wpAnyH_ready (rs := [5]) (by kernel_rfl) (by simp) ?_
  refine AllReadyH.cons (o := { dst := some 11, op := Go.Op.call { callee := Go.Callee.value (Go.Operand.func 27), args := #[Go.Operand.tmp 9, Go.Operand.tmp 10], argTypes := #[22, 3] }, type := 3, pos := "dbm.go:115", after := #[{ on := 3, ground := Go.Ground.data }, { on := 4, ground := Go.Ground.data }, { on := 2, ground := Go.Ground.chain }], guard := none }) rfl (fun K hK => ?_) AllReadyH.nil
  go_simp
  refine (hy.out _ hHeld).mono ?_
  rintro e w1 ⟨rfl, rfl⟩
  go_simp
  refine hK.out _ _ (hHeld) (fun hHeld => ?_)
  clear hK K
  try simp only [Act.put, List.setIfInBounds_toArray, List.set_cons_zero, List.set_cons_succ]
  refine wpAnyH_take (i := 6) (oi := { dst := some 12, op := Go.Op.binOp Go.BinOp.sub 3 (Go.Operand.tmp 8) (Go.Operand.tmp 11) 3, type := 3, pos := "dbm.go:115", after := #[{ on := 2, ground := Go.Ground.data }, { on := 5, ground := Go.Ground.data }], guard := none }) (v := ?v5) rfl (by kernel_rfl) (by kernel_rfl) (by kernel_rfl) (fun _ _ _ h => h) (Or.inl ⟨by kernel_rfl, ?h5⟩) (by assumption) ?r5
  case h5 => (intro w hSw; (try dsimp only at hSw); go_simp; try with_reducible rfl)
  try simp only [Act.put, List.setIfInBounds_toArray, List.set_cons_zero, List.set_cons_succ]
  refine wpAnyH_take (i := 7) (oi := { dst := some 5, op := Go.Op.assign (Go.Operand.tmp 12), type := 3, pos := "dbm.go:115", after := #[{ on := 6, ground := Go.Ground.data }, { on := 5, ground := Go.Ground.chain }, { on := 0, ground := Go.Ground.phase }, { on := 1, ground := Go.Ground.phase }, { on := 2, ground := Go.Ground.phase }, { on := 3, ground := Go.Ground.phase }, { on := 4, ground := Go.Ground.phase }, { on := 5, ground := Go.Ground.phase }, { on := 6, ground := Go.Ground.phase }], guard := none }) (v := ?v6) rfl (by kernel_rfl) (by kernel_rfl) (by kernel_rfl) (fun _ _ _ h => h) (Or.inl ⟨by kernel_rfl, ?h6⟩) (by assumption) ?r6
  case h6 => (intro w hSw; (try dsimp only at hSw); go_simp; try with_reducible rfl)
  try simp only [Act.put, List.setIfInBounds_toArray, List.set_cons_zero, List.set_cons_succ]
  refine wpAnyH_done (by kernel_rfl) ?_ _
  obtain ⟨k, hk⟩ := hHeld
  go_wp2
  go_ret
  exact ⟨rfl, k, hk⟩
def hasB (n : Int) (l v : List Int) : Bool := fullB n l && (decide ((v.length : Int) = n) && (!v.any farB && cellsB n.toNat l v))
set_option maxRecDepth 100000 in
set_option maxHeartbeats 1000000 in
theorem has_any (n : Int) (a : Option Addr) (m c : Nat) (l : List Int) (av : Option Addr) (mv cv : Nat) (v : List Int) (w : World) (h : SL w a m c l) (hv : SL w av mv cv v) :
    Calls Tryz.prog 8 #[.agg #[.int .i64 n, .slice a m c], .slice av mv cv] w (Gives (.bool (hasB n l v)) w) := by
  obtain ⟨W1, hW1⟩ : ∃ W1, W1 = (w.alloc (.cells #[.int .i64 n, .slice a m c] 24)).alloc (.cells #[.slice av mv cv] 22) := ⟨_, rfl⟩
  have hB : Below w.heap.size w W1 := by rw [hW1]; exact box2_below _ _ _ _ _
  have hsz : W1.heap.size = w.heap.size + 2 := by rw [hW1]; simp
  have hz : ZH W1 w.heap.size (.int .i64 n) (.slice a m c) := by rw [hW1]; exact (Holds.new w _ _).alloc _
  have hzv : Holds W1 (w.heap.size + 1) 22 #[.slice av mv cv] := by
    rw [hW1]
    have := Holds.new (w.alloc (.cells #[.int .i64 n, .slice a m c] 24)) 22 #[.slice av mv cv]
    simpa using this
  have hW1' := Lib.hid hW1
  have hB' := Lib.hid hB
  have hz' := Lib.hid hz
  have hzv' := Lib.hid hzv
  have hsl := Lib.hid (h.below hB)
  have hvl := Lib.hid (hv.below hB)
  have hsz' := Lib.hid hsz
  have hful := Lib.hid (full_any n a m c l W1 hsl.out)
  have hcells : Hid (∀ W, Below W1.heap.size W1 W → W.cell? ⟨w.heap.size, 0, none⟩ = some (.int .i64 n) ∧ W.cell? ⟨w.heap.size, 1, none⟩ = some (.slice a m c) ∧ W.cell? ⟨w.heap.size + 1, 0, none⟩ = some (.slice av mv cv)) := Lib.hid (fun W hW => ⟨(hz'.out.below hW hz'.out.lt).cell 0, (hz'.out.below hW hz'.out.lt).cell 1, (hzv'.out.below hW hzv'.out.lt).cell 0⟩)
  have hmvx := hv.max
  have hml := h.len
  have hmvl := hv.len
  clear hW1 hB hz hzv hsz h hv
  have hdef : Hid (hasB n l v = (fullB n l && (decide ((v.length : Int) = n) && (!v.any farB && cellsB n.toNat l v)))) := Lib.hid rfl
  generalize hasB n l v = R at *
  cases hf : fullB n l
  · have hr : R = false := by rw [hdef.out, hf, Bool.false_and]
    subst hr
    rw [hf] at hful
    clear hdef hf hml hmvl
    go_enter Tryz.func8, Tryz.ntmps8
    go_wp2_with fail
    rw [← hW1'.out]
    refine hful.out.mono ?_
    rintro e w1 ⟨rfl, b1⟩
    have hb1 := Lib.hid (hB'.out.trans (b1.mono hB'.out.size))
    go_wp2
    go_ret
    exact ⟨rfl, hb1.out⟩
  · rw [hf] at hful hdef
    obtain ⟨n, rfl, hF⟩ := full_of hf
    have hF' := Lib.hid hF
    have hn' := Lib.hid hF.le
    have hni : (n : Int) ≤ 8 := by have := hF.le; omega
    have hms : m = sz n := by rw [hml, hF.len]
    have hms' := Lib.hid hms
    clear hf hF hml hms
    by_cases hvn : mv = n
    · subst hvn
      have hdef2 : Hid (R = (!v.any farB && cellsB mv l v)) := Lib.hid (by
        rw [hdef.out, ← hmvl]
        simp)
      have hcon := Lib.hid (fun W (hW : Below W1.heap.size W1 W) => contains_any av v mv cv hmvl (by omega) W.heap.size W (hvl.out.below hW).sees)
      clear hdef
      cases hfar : v.any farB
      · rw [hfar] at hcon
        have hR : Hid (R = cellsB mv l v) := Lib.hid (by rw [hdef2.out, hfar]; rfl)
        have heach := Lib.hid (fun W (hW : Below W1.heap.size W1 W) => each_diff mv hn'.out (w.heap.size + 1) (fun i j => valF v i - valF v j) W (fun i j hi hj W2 hW2 => diff_any (w.heap.size + 1) av v mv cv hmvl (by omega) hfar i j hi hj W2.heap.size W2 ((hvl.out.below hW).below hW2).sees ((hcells.out W2 (hW.trans (hW2.mono hW.size))).2.2)))
        have hD : Hid (∀ t, t < sz mv → (matL mv (fun i j => valF v i - valF v j)).getD t 0 = valF v (t / (mv + 1)) - valF v (t % (mv + 1))) := Lib.hid (by
          intro t ht
          obtain ⟨q1, q2, q3⟩ := place_of ht
          have := mat_matL (fun i j => valF v i - valF v j) q1 q2
          unfold mat at this
          rw [q3] at this
          exact this)
        have hDl : Hid ((matL mv (fun i j => valF v i - valF v j)).length = sz mv) := Lib.hid (matL_len _ _)
        clear hdef2 hfar hmvl
        generalize matL mv (fun i j => valF v i - valF v j) = D at *
        go_enter Tryz.func8, Tryz.ntmps8
        go_wp2_with fail
        rw [← hW1'.out]
        refine hful.out.mono ?_
        rintro e w1 ⟨rfl, b1⟩
        have hb1 := Lib.hid b1
        obtain ⟨c0, c1, c2⟩ := hcells.out w1 b1
        have hcon1 := Lib.hid (hcon.out w1 b1)
        clear b1 hful hcon
        go_wp2_with fail
        refine hcon1.out.mono ?_
        rintro e w2 ⟨rfl, rfl⟩
        have heach1 := Lib.hid (heach.out w1 hb1.out)
        clear hcon1 heach
        go_wp2_with fail
        refine heach1.out.mono ?_
        intro e w3 hmd
        obtain ⟨a3, c3, rfl, s3, b3, -⟩ := made_parts hmd
        rw [hDl.out]
        have hb3 := Lib.hid (hb1.out.trans (b3.mono hb1.out.size))
        obtain ⟨d0, d1, d2⟩ := hcells.out w3 hb3.out
        have s3' := Lib.hid s3
        have hl3 := Lib.hid ((hsl.out.below hb3.out).sees)
        have hms2 := hms'.out
        have hsi := sz_le hn'.out
        clear hmd heach1 s3 b3 hcells c0 c1 c2 hb1
        subst hms2
        go_wp2
        go_loop [31] (fun x => ∃ k : Nat, k ≤ sz mv ∧ x = .int .i64 k ∧ Hid (∀ t, t < k → cellB mv l v t = true)) (fun x => sz mv - (intOf x).toNat)
        case atStart => exact ⟨0, Nat.zero_le _, rfl, Lib.hid (by intro t ht; omega)⟩
        case round =>
          obtain ⟨k, hk, rfl, hall⟩ := hrel
          by_cases hlt : k < sz mv
          · obtain ⟨b1, o1, rfl, -, e1⟩ := sees_at' hl3.out (i := k) (by rw [hF'.out.len]; exact hlt)
            obtain ⟨b2, o2, rfl, -, e2⟩ := sees_at' s3'.out (i := k) (by rw [hDl.out]; exact hlt)
            have hki : (k : Int) < ((sz mv : Nat) : Int) := by omega
            have hcb : Hid (cellB mv l v k = decide (D.getD k 0 ≤ l.getD k 0)) := Lib.hid (by unfold cellB; rw [hD.out k hlt])
            have hno : Hid (cellB mv l v k = false → R = false) := Lib.hid (fun q => by rw [hR.out]; exact cellsB_no hlt q)
            have hyes : Hid (cellB mv l v k = true → ∀ t, t < k + 1 → cellB mv l v t = true) := Lib.hid (fun q t ht => by
              by_cases e : t = k
              · subst e; exact q
              · exact hall.out t (by omega))
            clear hall
            generalize D.getD k 0 = x at *
            generalize l.getD k 0 = y at *
            generalize cellB mv l v k = z at *
            by_cases hxy : y < x
            · have hz0 : z = false := by rw [hcb.out, decide_eq_false_iff_not]; omega
              have hr := hno.out hz0
              subst hr
              clear hno hyes hcb
              go_wp2
              go_ret
              exact ⟨rfl, hB'.out.trans (hb3.out.mono hB'.out.size)⟩
            · have hz0 : z = true := by rw [hcb.out, decide_eq_true_eq]; omega
              have hn2 := Lib.hid (hyes.out hz0)
              clear hno hyes hcb
              go_wp2
              go_round
              case rel => exact ⟨k + 1, by omega, by go_num, hn2⟩
              case measure => simp [intOf]; omega
          · have hke : k = sz mv := by omega
            have hr : R = true := by rw [hR.out]; exact cellsB_yes (by rw [← hke]; exact hall.out)
            subst hr
            clear hall
            go_wp2
            go_ret
            exact ⟨rfl, hB'.out.trans (hb3.out.mono hB'.out.size)⟩
      · rw [hfar] at hcon
        have hr : R = false := by rw [hdef2.out, hfar]; rfl
        subst hr
        clear hdef2 hfar hmvl
        go_enter Tryz.func8, Tryz.ntmps8
        go_wp2_with fail
        rw [← hW1'.out]
        refine hful.out.mono ?_
        rintro e w1 ⟨rfl, b1⟩
        have hb1 := Lib.hid (hB'.out.trans (b1.mono hB'.out.size))
        obtain ⟨c0, c1, c2⟩ := hcells.out w1 b1
        have hcon1 := Lib.hid (hcon.out w1 b1)
        clear b1 hful hcon
        go_wp2_with fail
        refine hcon1.out.mono ?_
        rintro e w2 ⟨rfl, rfl⟩
        go_wp2
        go_ret
        exact ⟨rfl, hb1.out⟩
    · have hr : R = false := by
        rw [hdef.out, ← hmvl, decide_eq_false (show ¬ (mv : Int) = (n : Int) by omega)]
        rfl
      subst hr
      have e1 : ((mv : Int) != (n : Int)) = true := by simp; omega
      have e2 : ¬ (mv : Int) = (n : Int) := by omega
      have e3 : ((mv : Int) == (n : Int)) = false := by simp; omega
      clear hdef hmvl
      go_enter Tryz.func8, Tryz.ntmps8
      go_wp2_with fail
      rw [← hW1'.out]
      refine hful.out.mono ?_
      rintro e w1 ⟨rfl, b1⟩
      have hb1 := Lib.hid (hB'.out.trans (b1.mono hB'.out.size))
      obtain ⟨c0, c1, c2⟩ := hcells.out w1 b1
      go_wp2
      go_ret
      exact ⟨rfl, hb1.out⟩
end Go.Proofs.YtplgmmjppmpnoaaGreatDoor
/- Zones: the document's Holds, Has; Point. -/
namespace Go.Proofs.YtplgmmjppmpnoaaGreatDoor
open Go.RowKit
set_option linter.unusedVariables false
set_option linter.unusedSimpArgs false

def holdsB (l v : List Int) : Bool := decide (l.length = sz v.length) && (!v.any farB && cellsB v.length l v)
/-- The point of j. -/
def pointL (n : Nat) (l : List Int) (j : Nat) : List Int := (List.range n).map fun k => l.getD ((k + 1) * (n + 1) + j) 0 - l.getD j 0
theorem point_step (n : Nat) (l : List Int) (j k : Nat) (hk : k < n) : (pointL n l j).take k ++ [l.getD ((k + 1) * (n + 1) + j) 0 - l.getD j 0] = (pointL n l j).take (k + 1) := by
  have hl : k < (pointL n l j).length := by simp [pointL, hk]
  have e : (pointL n l j)[k] = l.getD ((k + 1) * (n + 1) + j) 0 - l.getD j 0 := by simp [pointL]
  rw [← List.take_append_getElem hl, e]
def PointS (n : Nat) (l : List Int) (j : Nat) (w : World) (e : Ending) (w' : World) : Prop := ∃ a c, e = .returned (.tuple #[.slice a n c, .bool true]) ∧ n ≤ c ∧ Sees .i64 w'.heap.size w' a (pointL n l j) ∧ Below w.heap.size w w'
theorem full_at {n : Nat} {l : List Int} (hF : Full n l) {p : Nat} (hp : p < sz n) : -2199023255552 ≤ l.getD p 0 ∧ l.getD p 0 ≤ 2199023255552 := by
  obtain ⟨q1, q2, q3⟩ := place_of hp
  have e : l.getD p 0 = mat n l (p / (n + 1)) (p % (n + 1)) := by unfold mat; rw [q3]
  have h1 := hF.up q1 q2
  have h2 := hF.low q1 q2
  have h3 := widestF_le (p / (n + 1)) (p % (n + 1))
  have h4 := widestF_le (p % (n + 1)) (p / (n + 1))
  omega
end Go.Proofs.YtplgmmjppmpnoaaGreatDoor
/- Zones: lives. -/
namespace Go.Proofs.YtplgmmjppmpnoaaGreatDoor
open Go.RowKit
set_option linter.unusedVariables false
set_option linter.unusedSimpArgs false

def zM : List Int := [1125899906842624, 1125899906842624, 1125899906842624, 1125899906842624, 1125899906842624, 3, 4, 1125899906842624, 1125899906842624]
def zY : List Int := [1125899906842624, -8, 1125899906842624, 1125899906842624, 1125899906842624, 3, 4, 1125899906842624, 1125899906842624]
def zD : List Int := [0, 1099511627776, 1099511627776, 7, 0, 3, 4, 1099511627780, 0]
def zA : List Int := [0, 1099511627776, 1099511627776, 0]
theorem zM_closed : closedL 2 zM = zD := by decide +kernel
theorem zY_closed : closedL 2 zY = [] := by decide +kernel
theorem zD_fix : zD = closedL 2 zD := by decide +kernel
theorem zD_full : Full 2 zD := ⟨by omega, rfl, by decide, zD_fix⟩
theorem zA_all : allL 1 = zA := by decide +kernel
def EndsZ (n err : Int) (m : Nat) (l : List Int) (w : World) (e : Ending) (w' : World) : Prop :=
  ∃ a c, e = .returned (.tuple #[.agg #[.int .i64 n, .slice a m c], .int .i64 err]) ∧ SL w' a m c l ∧ Below w.heap.size w w'
theorem ends_of {n err : Int} {m : Nat} {l : List Int} {w : World} {e : Ending} {w' : World} (hm : l.length = m) (hmx : m ≤ 9223372036854775807) (h : ZoneE n l err w e w') : EndsZ n err m l w e w' := by
  obtain ⟨a, c, rfl, hc, hs, hb, -⟩ := h
  subst hm
  exact ⟨a, c, rfl, ⟨rfl, hc, hmx, hs⟩, hb⟩
theorem EndsZ.from {n err : Int} {m : Nat} {l : List Int} {w w1 : World} {e : Ending} {w' : World} (h : EndsZ n err m l w1 e w') (hb : Below w.heap.size w w1) : EndsZ n err m l w e w' := by
  obtain ⟨a, c, rfl, hs, hb2⟩ := h
  exact ⟨a, c, rfl, hs, hb.trans (hb2.mono hb.size)⟩
theorem Gives.from {v : Value} {w w1 : World} {e : Ending} {w' : World} (h : Gives v w1 e w') (hb : Below w.heap.size w w1) : Gives v w e w' := ⟨h.1, hb.trans (h.2.mono hb.size)⟩
theorem sl_lit (W : World) (e : TypeId) (l : List Int) (m : Nat) (cs : Array Value) (h : cs = (nums .i64 l).toArray) (hm : m = l.length) (hmx : m ≤ 9223372036854775807) : SL (W.alloc (.cells cs e)) (some ⟨W.heap.size, 0, none⟩) m m l :=
  ⟨hm, Nat.le_refl _, hmx, by simpa using sees_new .i64 W e l cs h⟩
theorem c1_any (W : World) : Calls Tryz.prog 70 #[.int .i64 2, .slice (some ⟨W.heap.size, 0, none⟩) 9 9] (W.alloc (.cells #[.int .i64 1125899906842624, .int .i64 1125899906842624, .int .i64 1125899906842624, .int .i64 1125899906842624, .int .i64 1125899906842624, .int .i64 3, .int .i64 4, .int .i64 1125899906842624, .int .i64 1125899906842624] 3)) (EndsZ 2 0 9 zD W) := by
  have h := dclose_ok 2 (by omega) (some ⟨W.heap.size, 0, none⟩) zM 9 9 rfl rfl _ (sl_lit W 3 zM 9 _ rfl rfl (by omega)).sees
  rw [zM_closed] at h
  exact h.mono (fun e w' he => (ends_of rfl (by decide) he).from (box_below _ _ _))
theorem c2_any (W : World) : Calls Tryz.prog 70 #[.int .i64 2, .slice (some ⟨W.heap.size, 0, none⟩) 9 9] (W.alloc (.cells #[.int .i64 1125899906842624, .int .i64 (-8), .int .i64 1125899906842624, .int .i64 1125899906842624, .int .i64 1125899906842624, .int .i64 3, .int .i64 4, .int .i64 1125899906842624, .int .i64 1125899906842624] 3)) (EndsZ 2 0 0 [] W) := by
  have h := dclose_ok 2 (by omega) (some ⟨W.heap.size, 0, none⟩) zY 9 9 rfl rfl _ (sl_lit W 3 zY 9 _ rfl rfl (by omega)).sees
  rw [zY_closed] at h
  exact h.mono (fun e w' he => (ends_of rfl (by decide) he).from (box_below _ _ _))
theorem c3_any (W : World) (k : Nat) : Calls Tryz.prog 70 #[.int .i64 2, .slice (some ⟨k, 0, none⟩) 1 1] (W.alloc (.cells #[.int .i64 1] 3)) (EndsZ 0 1 0 [] W) := by
  have h := dclose_no 2 (some ⟨k, 0, none⟩) 1 1 (by omega) (by decide) (W.alloc (.cells #[.int .i64 1] 3))
  exact h.mono (fun e w' he => (ends_of rfl (by decide) he).from (box_below _ _ _))
theorem b1_any (W : World) (a : Option Addr) (c : Nat) (h : SL W a 9 c zD) : Calls Tryz.prog 14 #[.agg #[.int .i64 2, .slice a 9 c], .int .i64 1, .int .i64 0] W (Gives (.tuple #[.int .i64 7, .bool true]) W) := by
  have h := bound_any 2 a 9 c zD 1 0 W h
  rwa [show bndV 2 zD 1 0 = 7 by decide +kernel, show bndB 2 zD 1 0 = true by decide +kernel] at h
def EndsP (m : Nat) (l : List Int) (w : World) (e : Ending) (w' : World) : Prop := ∃ a c, e = .returned (.tuple #[.slice a m c, .bool true]) ∧ SL w' a m c l ∧ Below w.heap.size w w'
theorem e1_any (W : World) (a : Option Addr) (c : Nat) (h : SL W a 0 c []) : Calls Tryz.prog 49 #[.agg #[.int .i64 2, .slice a 0 c]] W (Gives (.bool true) W) := by
  have h := empty_any 2 a 0 c [] W h
  rwa [show emptyB 2 [] = true by decide +kernel] at h
theorem e2_any (W : World) (a : Option Addr) (c : Nat) (h : SL W a 9 c zD) : Calls Tryz.prog 49 #[.agg #[.int .i64 2, .slice a 9 c]] W (Gives (.bool false) W) := by
  have h := empty_any 2 a 9 c zD W h
  rwa [show emptyB 2 zD = false by decide +kernel] at h
theorem k1_any (W : World) (a : Option Addr) (c : Nat) (h : SL W a 9 c zD) : Calls Tryz.prog 43 #[.agg #[.int .i64 2, .slice a 9 c]] W (Gives (.int .i64 0) W) := by
  have h := dcheck_any 2 a 9 c zD W h
  rwa [show chk 2 zD = 0 by decide +kernel] at h
theorem k2_any (W : World) : Calls Tryz.prog 43 #[.agg #[.int .i64 1, .slice (some ⟨W.heap.size, 0, none⟩) 4 4]] (W.alloc (.cells #[.int .i64 0, .int .i64 0, .int .i64 0, .int .i64 1] 3)) (Gives (.int .i64 80) W) := by
  have h := dcheck_any 1 _ 4 4 [0, 0, 0, 1] _ (sl_lit W 3 [0, 0, 0, 1] 4 _ rfl rfl (by omega))
  rw [show chk 1 [0, 0, 0, 1] = 80 by decide +kernel] at h
  exact h.mono (fun e w' he => he.from (box_below _ _ _))
theorem h1_any (W : World) (a : Option Addr) (c : Nat) (h : SL W a 9 c zD) : Calls Tryz.prog 8 #[.agg #[.int .i64 2, .slice a 9 c], .slice (some ⟨W.heap.size, 0, none⟩) 2 2] (W.alloc (.cells #[.int .i64 7, .int .i64 4] 3)) (Gives (.bool true) W) := by
  have h := has_any 2 a 9 c zD _ 2 2 [7, 4] _ (h.below (box_below _ _ _)) (sl_lit W 3 [7, 4] 2 _ rfl rfl (by omega))
  rw [show hasB 2 zD [7, 4] = true by decide +kernel] at h
  exact h.mono (fun e w' he => he.from (box_below _ _ _))
theorem h2_any (W : World) (a : Option Addr) (c : Nat) (h : SL W a 9 c zD) : Calls Tryz.prog 8 #[.agg #[.int .i64 2, .slice a 9 c], .slice (some ⟨W.heap.size, 0, none⟩) 2 2] (W.alloc (.cells #[.int .i64 8, .int .i64 4] 3)) (Gives (.bool false) W) := by
  have h := has_any 2 a 9 c zD _ 2 2 [8, 4] _ (h.below (box_below _ _ _)) (sl_lit W 3 [8, 4] 2 _ rfl rfl (by omega))
  rw [show hasB 2 zD [8, 4] = false by decide +kernel] at h
  exact h.mono (fun e w' he => he.from (box_below _ _ _))
/-- What lives has laid so far. -/
structure Lv (w W : World) (g1 g5 g11 : Nat) (a1 a5 ap a11 : Option Addr) (c1 c5 cp c11 : Nat) : Prop where
  bl : Below w.heap.size w W
  z1 : ZH W g1 (.int .i64 2) (.slice a1 9 c1)
  s1 : SL W a1 9 c1 zD
  z5 : ZH W g5 (.int .i64 2) (.slice a5 0 c5)
  s5 : SL W a5 0 c5 []
  sp : SL W ap 2 cp [7, 4]
  z11 : ZH W g11 (.int .i64 1) (.slice a11 4 c11)
  s11 : SL W a11 4 c11 zA
theorem Lv.on {w W W' : World} {g1 g5 g11 : Nat} {a1 a5 ap a11 : Option Addr} {c1 c5 cp c11 : Nat} (h : Lv w W g1 g5 g11 a1 a5 ap a11 c1 c5 cp c11) (hb : Below W.heap.size W W') : Lv w W' g1 g5 g11 a1 a5 ap a11 c1 c5 cp c11 :=
  ⟨h.bl.trans (hb.mono h.bl.size), h.z1.below hb h.z1.lt, h.s1.below hb, h.z5.below hb h.z5.lt, h.s5.below hb, h.sp.below hb, h.z11.below hb h.z11.lt, h.s11.below hb⟩
end Go.Proofs.YtplgmmjppmpnoaaGreatDoor
/- DbmHas: the walk of the statement's function. -/
namespace Go.Proofs.YtplgmmjppmpnoaaGreatDoor
open Go.RowKit
set_option linter.unusedVariables false
set_option linter.unusedSimpArgs false

/-- What a list's values differ by. -/
def difF (v : List Int) (i j : Nat) : Int := valF v i - valF v j
theorem dif_closed (n : Nat) (v : List Int) : Closed n (difF v) := ⟨fun i _ => by unfold difF; omega, fun i j k _ _ _ => by unfold difF; omega⟩
theorem cells_iff (n : Nat) (l v : List Int) : cellsB n l v = true ↔ Leq n (difF v) (mat n l) := by
  constructor
  · intro h i j hi hj
    have ht := place_lt hi hj
    have := List.all_eq_true.1 h (i * (n + 1) + j) (List.mem_range.2 ht)
    unfold cellB at this
    rw [place_div hj, place_mod hj] at this
    exact of_decide_eq_true this
  · intro h
    refine cellsB_yes (fun t ht => ?_)
    obtain ⟨q1, q2, q3⟩ := place_of ht
    have := h _ _ q1 q2
    unfold cellB
    apply decide_eq_true
    unfold mat at this
    rw [q3] at this
    exact this
theorem dif_widest {v : List Int} (h : v.any farB = false) (i j : Nat) : difF v i j ≤ widestF i j ∧ -2199023255552 ≤ difF v i j := by
  have h1 := val_in h i
  have h2 := val_in h j
  have h0 : valF v 0 = 0 := by unfold valF; rw [if_pos rfl]
  unfold difF widestF
  split
  · rename_i e; subst e; omega
  · split
    · rename_i e
      rcases e with rfl | rfl <;> omega
    · omega
theorem dif_clip {n : Nat} {m v : List Int} (h : v.any farB = false) : Leq n (difF v) (mat n (clipL n m)) ↔ Leq n (difF v) (mat n m) := by
  constructor
  · intro hh i j hi hj
    have := hh i j hi hj
    unfold clipL at this
    rw [mat_matL _ hi hj] at this
    have := dif_widest h i j
    unfold clipF at *
    omega
  · intro hh i j hi hj
    have := hh i j hi hj
    unfold clipL
    rw [mat_matL _ hi hj]
    have := dif_widest h i j
    unfold clipF
    omega
theorem holds_ne {m v : List Int} (h : holdsB m v = true) : closedL v.length m ≠ [] := by
  unfold holdsB at h
  rw [Bool.and_eq_true, Bool.and_eq_true] at h
  have hf : v.any farB = false := by simpa using h.2.1
  have := (cells_iff _ _ _).1 h.2.2
  exact closedL_ne (closedL_max (dif_closed _ v) ((dif_clip hf).2 this)).1
theorem closed_full {n : Nat} (hn : n ≤ 8) {m : List Int} (h : closedL n m ≠ []) : Full n (closedL n m) := ⟨hn, (closedL_is h).1, h, (closedL_again h).symm⟩
theorem has_holds {m v : List Int} (hn : v.length ≤ 8) (hl : m.length = sz v.length) : hasB v.length (closedL v.length m) v = holdsB m v := by
  have ht : (((v.length : Nat) : Int)).toNat = v.length := by omega
  by_cases hc : closedL v.length m = []
  · have h1 : hasB v.length (closedL v.length m) v = false := by unfold hasB; rw [hc]; rfl
    rw [h1]
    cases h2 : holdsB m v
    · rfl
    · exact absurd hc (holds_ne h2)
  · have hF := closed_full hn hc
    unfold hasB holdsB
    rw [hF.is, ht, decide_eq_true hl, decide_eq_true rfl, Bool.true_and, Bool.true_and, Bool.true_and]
    cases hf : v.any farB
    · rw [Bool.not_false, Bool.true_and, Bool.true_and]
      apply Bool.eq_iff_iff.2
      rw [cells_iff, cells_iff]
      obtain ⟨h3, h4, h5⟩ := closedL_is hc
      constructor
      · intro h
        exact (dif_clip hf).1 (fun i j hi hj => Int.le_trans (h i j hi hj) (h5 i j hi hj))
      · intro h
        exact (closedL_max (dif_closed _ v) ((dif_clip hf).2 h)).2
    · rfl
end Go.Proofs.YtplgmmjppmpnoaaGreatDoor
/- DbmCloses: the walk of the statement's function. (Written by gen-dbm-closes.py.) -/
namespace Go.Proofs.YtplgmmjppmpnoaaGreatDoor
open Go.RowKit
set_option linter.unusedVariables false
set_option linter.unusedSimpArgs false

theorem closed_chk {n : Nat} (hn : n ≤ 8) (m : List Int) : chk n (closedL n m) = 0 ∧ emptyB n (closedL n m) = decide (closedL n m = []) := by
  by_cases h : closedL n m = []
  · rw [h]
    have e := checkB_nil (mayB_nat hn)
    unfold chk emptyB
    rw [e]
    simp
  · have hF := closed_full hn h
    have e : checkB n (closedL n m) = true := by rw [checkB_sz hn h hF.len]; exact decide_eq_true hF.fix
    unfold chk emptyB
    rw [e]
    simp
theorem closed_small {n : Nat} (hn : n ≤ 8) (m : List Int) : (closedL n m).length ≤ 81 := by
  have := sz_le hn
  by_cases h : closedL n m = []
  · rw [h]; simp
  · have : (closedL n m).length = sz n := (closedL_is h).1
    omega
theorem ret_tt {e : Ending} {b : Bool} (h : e = .returned (.bool b)) (hb : b = true) : e = .returned (.bool true) := by rw [h, hb]
theorem rzone_nil (w : World) (n : Int) (a : Option Addr) (c : Nat) (h : SL w a 0 c []) : Calls Tryz.prog 29 #[.agg #[.int .i64 0, .slice a 0 c], .agg #[.int .i64 0, .slice none 0 0]] w (Gives (.bool true) w) := by
  have := rsame_any 0 0 a none [] [] 0 0 c 0 w h (SL.nil w)
  simpa using this
theorem rsame_self (n : Int) (a1 a2 : Option Addr) (l : List Int) (m c1 c2 : Nat) (w : World) (h1 : SL w a1 m c1 l) (h2 : SL w a2 m c2 l) :
    Calls Tryz.prog 29 #[.agg #[.int .i64 n, .slice a1 m c1], .agg #[.int .i64 n, .slice a2 m c2]] w (Gives (.bool true) w) := by
  have := rsame_any n n a1 a2 l l m m c1 c2 w h1 h2
  simpa using this
/-- A zone that the document's function hands back, its length a letter. -/
theorem zones_of {n : Int} {l : List Int} {w : World} {e : Ending} {w' : World} {m : Nat} (hm : l.length = m) (hmx : m ≤ 9223372036854775807) (h : ZoneS n l w e w') : ∃ a c, e = .returned (.agg #[.int .i64 n, .slice a m c]) ∧ SL w' a m c l ∧ Below w.heap.size w w' := by
  obtain ⟨a, c, rfl, hc, hs, hb, -⟩ := h
  subst hm
  exact ⟨a, c, rfl, ⟨rfl, hc, hmx, hs⟩, hb⟩
end Go.Proofs.YtplgmmjppmpnoaaGreatDoor
/- DbmTight: the walk of the statement's function. -/
namespace Go.Proofs.YtplgmmjppmpnoaaGreatDoor
open Go.RowKit
set_option linter.unusedVariables false
set_option linter.unusedSimpArgs false

theorem bound_full {n : Nat} {l : List Int} (hF : Full n l) {i j : Nat} (hi : i ≤ n) (hj : j ≤ n) (a : Option Addr) (m c : Nat) (w : World) (h : SL w a m c l) :
    Calls Tryz.prog 14 #[.agg #[.int .i64 n, .slice a m c], .int .i64 i, .int .i64 j] w (Gives (.tuple #[.int .i64 (mat n l i j), .bool true]) w) := by
  have hb := bound_any n a m c l i j w h
  have e0 : (fullB n l && inB ((n : Int)).toNat i && inB ((n : Int)).toNat j) = true := by
    rw [hF.is, show ((n : Int)).toNat = n by omega, inB_nat hi, inB_nat hj]; rfl
  have e1 : bndV n l i j = mat n l i j := by
    unfold bndV mat
    rw [e0, show ((n : Int)).toNat = n by omega, show ((i : Int)).toNat = i by omega, show ((j : Int)).toNat = j by omega]
    rfl
  have e2 : bndB n l i j = true := by unfold bndB; exact e0
  rwa [e1, e2] at hb
theorem point_at {n : Nat} {l : List Int} (hF : Full n l) {i j : Nat} (hi : i ≤ n) (hj : j ≤ n) : valF (pointL n l j) i = mat n l i j - mat n l 0 j := by
  unfold valF mat
  split
  · rename_i e; subst e; simp
  · have h : i - 1 < n := by omega
    unfold pointL
    simp [List.getD, h]
    rw [show i - 1 + 1 = i by omega]
theorem point_len (n : Nat) (l : List Int) (j : Nat) : (pointL n l j).length = n := by simp [pointL]
theorem point_near {n : Nat} {l : List Int} (hF : Full n l) {j : Nat} (hj : j ≤ n) : (pointL n l j).any farB = false := by
  rw [List.any_eq_false]
  intro x hx
  obtain ⟨k, hk, rfl⟩ := List.getElem_of_mem hx
  rw [point_len] at hk
  have h1 := point_at hF (i := k + 1) (by omega) hj
  unfold valF at h1
  rw [if_neg (by omega)] at h1
  have h2 : (pointL n l j)[k]'(by rw [point_len]; exact hk) = mat n l (k + 1) j - mat n l 0 j := by
    simpa [List.getD, point_len, hk] using h1
  rw [h2]
  have t1 := hF.closed.tri (k + 1) j 0 (by omega) hj (by omega)
  have t2 := hF.closed.tri 0 j (k + 1) (by omega) hj (by omega)
  have u1 := hF.up (i := k + 1) (j := 0) (by omega) (by omega)
  have u2 := hF.up (i := 0) (j := k + 1) (by omega) (by omega)
  have e1 : widestF (k + 1) 0 = 1099511627776 := by unfold widestF; rw [if_neg (by omega), if_pos (.inr rfl)]
  have e2 : widestF 0 (k + 1) = 1099511627776 := by unfold widestF; rw [if_neg (by omega), if_pos (.inl rfl)]
  unfold farB
  simp
  omega
theorem point_has {n : Nat} {l : List Int} (hF : Full n l) {j : Nat} (hj : j ≤ n) : hasB n l (pointL n l j) = true := by
  have ht : (((n : Nat) : Int)).toNat = n := by omega
  unfold hasB
  rw [hF.is, point_len, ht, point_near hF hj, decide_eq_true rfl, Bool.true_and, Bool.true_and, Bool.not_false, Bool.true_and, cells_iff]
  intro a b ha hb
  unfold difF
  rw [point_at hF ha hj, point_at hF hb hj]
  have := hF.closed.tri a j b ha hj hb
  omega
theorem point_holds {n : Nat} (hn : n ≤ 8) {m : List Int} (hm : m.length = sz n) {j : Nat} (hj : j ≤ n) (hR : closedL n m ≠ []) : holdsB m (pointL n (closedL n m) j) = true := by
  have hF := closed_full hn hR
  have h1 := has_holds (m := m) (v := pointL n (closedL n m) j) (by rw [point_len]; exact hn) (by rw [point_len]; exact hm)
  rw [point_len] at h1
  rw [← h1]
  exact point_has hF hj
/-- What the loops of DbmTight find. -/
structure Tg (w W : World) (g : Nat) (n : Nat) (a : Option Addr) (m c : Nat) (R : List Int) (aq : Option Addr) (nq cq : Nat) (Q : List Int) : Prop where
  bl : Below w.heap.size w W
  z : ZH W g (.int .i64 n) (.slice a m c)
  s : SL W a m c R
  q : SL W aq nq cq Q
theorem Tg.on {w W W' : World} {g n : Nat} {a : Option Addr} {m c : Nat} {R : List Int} {aq : Option Addr} {nq cq : Nat} {Q : List Int} (h : Tg w W g n a m c R aq nq cq Q) (hb : Below W.heap.size W W') : Tg w W' g n a m c R aq nq cq Q :=
  ⟨h.bl.trans (hb.mono h.bl.size), h.z.below hb h.z.lt, h.s.below hb, h.q.below hb⟩
theorem gives_of_reads {v : Value} {w : World} {e : Ending} {w' : World} (h : ReadsV v w e w') : Gives v w e w' := by
  obtain ⟨he, m, rfl⟩ := h
  exact ⟨he, Below.drewN (Below.refl _ _) m⟩
end Go.Proofs.YtplgmmjppmpnoaaGreatDoor
/- Zones put together: two, empty, clone. -/
namespace Go.Proofs.YtplgmmjppmpnoaaGreatDoor
open Go.RowKit
set_option linter.unusedVariables false
set_option linter.unusedSimpArgs false

/-- What is wrong with two zones. -/
def twoE (n1 : Int) (l1 : List Int) (n2 : Int) (l2 : List Int) : Int := if checkB n1 l1 = false ∨ checkB n2 l2 = false then 80 else if n1 = n2 then 0 else 1
theorem ztwo_any (n1 n2 : Int) (a1 a2 : Option Addr) (l1 l2 : List Int) (m1 m2 c1 c2 : Nat) (w : World) (h1 : SL w a1 m1 c1 l1) (h2 : SL w a2 m2 c2 l2) :
    Calls Tryz.prog 39 #[.agg #[.int .i64 n1, .slice a1 m1 c1], .agg #[.int .i64 n2, .slice a2 m2 c2]] w (Gives (.int .i64 (twoE n1 l1 n2 l2)) w) := by
  obtain ⟨W1, hW1⟩ : ∃ W1, W1 = (w.alloc (.cells #[.int .i64 n1, .slice a1 m1 c1] 24)).alloc (.cells #[.int .i64 n2, .slice a2 m2 c2] 24) := ⟨_, rfl⟩
  have hB : Below w.heap.size w W1 := by rw [hW1]; exact box2_below _ _ _ _ _
  have Z1 : ZH W1 w.heap.size (.int .i64 n1) (.slice a1 m1 c1) := by rw [hW1]; exact (Holds.new w _ _).alloc _
  have Z2 : ZH W1 (w.heap.size + 1) (.int .i64 n2) (.slice a2 m2 c2) := by
    rw [hW1]
    have := Holds.new (w.alloc (.cells #[.int .i64 n1, .slice a1 m1 c1] 24)) 24 #[.int .i64 n2, .slice a2 m2 c2]
    simpa using this
  have hW1' := Lib.hid hW1
  have hB' := Lib.hid hB
  have Z1' := Lib.hid Z1
  have Z2' := Lib.hid Z2
  have S2' := Lib.hid (h2.below hB)
  have q1 := Lib.hid (dcheck_any n1 a1 m1 c1 l1 W1 (h1.below hB))
  have q2 := Lib.hid (fun W (hW : Below W1.heap.size W1 W) => dcheck_any n2 a2 m2 c2 l2 W (S2'.out.below hW))
  have o1 := chk_or n1 l1
  have o2 := chk_or n2 l2
  clear hW1 hB Z1 Z2 h1 h2
  unfold twoE
  generalize chk n1 l1 = E1 at *
  generalize chk n2 l2 = E2 at *
  rcases o1 with ⟨e1, rfl⟩ | ⟨e1, rfl⟩
  · rcases o2 with ⟨e2, rfl⟩ | ⟨e2, rfl⟩
    · rw [if_neg (by rw [e1, e2]; simp)]
      clear e1 e2
      by_cases hn : n1 = n2
      · rw [if_pos hn]
        subst hn
        go_enter Tryz.func39, Tryz.ntmps39
        go_wp2_with fail
        rw [← hW1'.out]
        refine q1.out.mono ?_
        rintro e w1 ⟨rfl, b1⟩
        have k0 := (Z2'.out.below b1 Z2'.out.lt).cell 0
        have k1 := (Z2'.out.below b1 Z2'.out.lt).cell 1
        have p2 := Lib.hid (q2.out w1 b1)
        have b1' := Lib.hid b1
        clear b1 q1 q2
        go_wp2_with fail
        refine p2.out.mono ?_
        rintro e w2 ⟨rfl, b2⟩
        have b12 := Lib.hid (b1'.out.trans (b2.mono b1'.out.size))
        clear k0 k1 b2 p2
        have k0 := (Z1'.out.below b12.out Z1'.out.lt).cell 0
        have k1 := (Z2'.out.below b12.out Z2'.out.lt).cell 0
        go_wp2
        go_ret
        exact ⟨rfl, hB'.out.trans (b12.out.mono hB'.out.size)⟩
      · rw [if_neg hn]
        have hn2 : (n1 != n2) = true := by simpa using hn
        go_enter Tryz.func39, Tryz.ntmps39
        go_wp2_with fail
        rw [← hW1'.out]
        refine q1.out.mono ?_
        rintro e w1 ⟨rfl, b1⟩
        have k0 := (Z2'.out.below b1 Z2'.out.lt).cell 0
        have k1 := (Z2'.out.below b1 Z2'.out.lt).cell 1
        have p2 := Lib.hid (q2.out w1 b1)
        have b1' := Lib.hid b1
        clear b1 q1 q2
        go_wp2_with fail
        refine p2.out.mono ?_
        rintro e w2 ⟨rfl, b2⟩
        have b12 := Lib.hid (b1'.out.trans (b2.mono b1'.out.size))
        clear k0 k1 b2 p2
        have k0 := (Z1'.out.below b12.out Z1'.out.lt).cell 0
        have k1 := (Z2'.out.below b12.out Z2'.out.lt).cell 0
        go_wp2
        go_ret
        exact ⟨rfl, hB'.out.trans (b12.out.mono hB'.out.size)⟩
    · rw [if_pos (.inr e2)]
      clear e1 e2
      go_enter Tryz.func39, Tryz.ntmps39
      go_wp2_with fail
      rw [← hW1'.out]
      refine q1.out.mono ?_
      rintro e w1 ⟨rfl, b1⟩
      have k0 := (Z2'.out.below b1 Z2'.out.lt).cell 0
      have k1 := (Z2'.out.below b1 Z2'.out.lt).cell 1
      have p2 := Lib.hid (q2.out w1 b1)
      have b1' := Lib.hid b1
      clear b1 q1 q2
      go_wp2_with fail
      refine p2.out.mono ?_
      rintro e w2 ⟨rfl, b2⟩
      have b12 := Lib.hid (b1'.out.trans (b2.mono b1'.out.size))
      clear b2 p2
      go_wp2
      go_ret
      exact ⟨rfl, hB'.out.trans (b12.out.mono hB'.out.size)⟩
  · rw [if_pos (.inl e1)]
    clear e1 o2
    go_enter Tryz.func39, Tryz.ntmps39
    go_wp2_with fail
    rw [← hW1'.out]
    refine q1.out.mono ?_
    rintro e w1 ⟨rfl, b1⟩
    have b1' := Lib.hid b1
    clear b1 q1 q2
    go_wp2
    go_ret
    exact ⟨rfl, hB'.out.trans (b1'.out.mono hB'.out.size)⟩
theorem zempty_any (n : Int) (a : Option Addr) (m c : Nat) (l : List Int) (w : World) (h : SL w a m c l) :
    Calls Tryz.prog 40 #[.agg #[.int .i64 n, .slice a m c]] w (Gives (.bool (decide (l = []))) w) := by
  have hB := box_below w #[.int .i64 n, .slice a m c] 24
  have hmx := h.max
  by_cases h0 : l = []
  · rw [decide_eq_true h0]
    have hm : m = 0 := by rw [h.len, h0]; rfl
    subst hm
    clear h h0
    go_enter Tryz.func40, Tryz.ntmps40
    go_wp2
    go_ret
    exact ⟨rfl, hB⟩
  · rw [decide_eq_false h0]
    have hm := len_pos h0 h.len
    have e1 : ((m : Int) == 0) = false := by simp; omega
    clear h h0 hm
    go_enter Tryz.func40, Tryz.ntmps40
    go_wp2
    go_ret
    exact ⟨rfl, hB⟩
theorem iclone_any (A : Option Addr) (l : List Int) (n c : Nat) (hn : n = l.length) (hl : l.length ≤ 1000000) (w : World) (hs : Sees .i64 w.heap.size w A l) :
    Calls Tryz.prog 66 #[.slice A n c] w (Made 3 .i64 w l) := by
  obtain ⟨i0, hi, hz0, hz1, hz2⟩ := info_parts infoInt
  subst hn
  cases A with
  | none =>
    have hl0 : l = [] := by
      rcases hs with h | ⟨b, off, h, _⟩
      · exact h
      · cases h
    subst hl0
    have hq := fun W => Lib.run_eql_slice_nil_nil (P := Tryz.prog) W (t := 22) (e := 3) 0 c Tryz.underlying22
    go_enter Tryz.func66, Tryz.ntmps66
    go_wp2
    go_ret
    exact ⟨_, rfl, ⟨rfl, .inl ⟨rfl, rfl⟩⟩, Below.refl _ _⟩
  | some ad =>
    have hq := fun W => Lib.run_eql_slice_some_nil (P := Tryz.prog) W (t := 22) (e := 3) ad l.length c Tryz.underlying22
    have hB : Below w.heap.size w (w.alloc (.cells #[] 3)) := (Below.refl _ _).alloc (Nat.le_refl _) _
    have hs' : Sees .i64 w.heap.size (w.alloc (.cells #[] 3)) (some ad) l := hs.below hB
    have hl' := Lib.hid hl
    go_enter Tryz.func66, Tryz.ntmps66
    go_wp2_with (at_builtin; refine wpList_append_sees _ rfl (.tmp 5) (.tmp 6) 22 rfl w 3 i0 (.int .i64 0) 8 Tryz.underlying22 hi hz0 hz1 hz2 rfl .i64 _ [] (by exact own_empty 3 .i64 (Below.refl _ w)) (by exact hB) w.heap.size (some ad) l (by exact hs') l.length c rfl rfl rfl (by have := hl'.out; simp; omega) (by omega) ?_; intro v2 w2 hown2 hw2; simp only [List.nil_append] at hown2)
    go_ret
    exact ⟨v2, rfl, hown2, hw2⟩
end Go.Proofs.YtplgmmjppmpnoaaGreatDoor
/- Zones put together: clone, pairs. -/
namespace Go.Proofs.YtplgmmjppmpnoaaGreatDoor
open Go.RowKit
set_option linter.unusedVariables false
set_option linter.unusedSimpArgs false

/-- A zone that a call has handed back, put into a zone's block. -/
theorem zone_put {n : Int} {R : List Int} {err : Int} {w W1 w3 : World} {g a c : _} {z0 z1 : Value} (hB : Below w.heap.size w W1) (hg : w.heap.size ≤ g) (hz : ZH W1 g z0 z1) (hc : R.length ≤ c) (hs : Sees .i64 w3.heap.size w3 a R) (hb : Below W1.heap.size W1 w3) (hnw : New W1 a) :
    ZH ((w3.setCell ⟨g, 0, none⟩ (.int .i64 n)).setCell ⟨g, 1, none⟩ (.slice a R.length c)) g (.int .i64 n) (.slice a R.length c) ∧
      ZoneE n R err w (.returned (.tuple #[.agg #[.int .i64 n, .slice a R.length c], .int .i64 err])) ((w3.setCell ⟨g, 0, none⟩ (.int .i64 n)).setCell ⟨g, 1, none⟩ (.slice a R.length c)) ∧
      ZoneS n R w (.returned (.agg #[.int .i64 n, .slice a R.length c])) ((w3.setCell ⟨g, 0, none⟩ (.int .i64 n)).setCell ⟨g, 1, none⟩ (.slice a R.length c)) := by
  have hlt := hz.lt
  have hne : ∀ p, a = some p → g ≠ p.block := fun p hp => by have := hnw p hp; omega
  have hs2 : Sees .i64 ((w3.setCell ⟨g, 0, none⟩ (.int .i64 n)).setCell ⟨g, 1, none⟩ (.slice a R.length c)).heap.size ((w3.setCell ⟨g, 0, none⟩ (.int .i64 n)).setCell ⟨g, 1, none⟩ (.slice a R.length c)) a R := by
    have := sees_other (sees_other hs g hne 0 (.int .i64 n)) g hne 1 (.slice a R.length c)
    simpa using this
  have hbb : Below w.heap.size w ((w3.setCell ⟨g, 0, none⟩ (.int .i64 n)).setCell ⟨g, 1, none⟩ (.slice a R.length c)) := ((hB.trans (hb.mono hB.size)).setCell (p := ⟨g, 0, none⟩) hg _).setCell (p := ⟨g, 1, none⟩) hg _
  have hnew : New w a := fun p hp => Nat.le_trans hB.size (hnw p hp)
  exact ⟨zh_set (hz.below hb hlt) _ _, ⟨a, c, rfl, hc, hs2, hbb, hnew⟩, ⟨a, c, rfl, hc, hs2, hbb, hnew⟩⟩
set_option maxRecDepth 100000 in
set_option maxHeartbeats 1000000 in
theorem zclone_any (n : Int) (a : Option Addr) (m c : Nat) (l : List Int) (hm : m ≤ 1000) (w : World) (h : SL w a m c l) :
    Calls Tryz.prog 57 #[.agg #[.int .i64 n, .slice a m c]] w (ZoneS n l w) := by
  obtain ⟨W1, hW1⟩ : ∃ W1, W1 = (w.alloc (.cells #[.int .i64 n, .slice a m c] 24)).alloc (.cells #[.int .i64 0, .slice none 0 0] 24) := ⟨_, rfl⟩
  have hB : Below w.heap.size w W1 := by rw [hW1]; exact box2_below _ _ _ _ _
  have Z1 : ZH W1 w.heap.size (.int .i64 n) (.slice a m c) := by rw [hW1]; exact (Holds.new w _ _).alloc _
  have Z2 : ZH W1 (w.heap.size + 1) (.int .i64 0) (.slice none 0 0) := by
    rw [hW1]
    have := Holds.new (w.alloc (.cells #[.int .i64 n, .slice a m c] 24)) 24 #[.int .i64 0, .slice none 0 0]
    simpa using this
  have hcl := Lib.hid (fun W (hs : Sees .i64 W.heap.size W a l) => iclone_any a l m c h.len (by have := h.len; omega) W hs)
  have hs1 := Lib.hid ((h.below hB).below (below_drew (Below.refl W1.heap.size W1))).sees
  have hc0 : ∀ W, BelowE [w.heap.size + 1] W1.heap.size W1 W → W.cell? ⟨w.heap.size, 0, none⟩ = some (.int .i64 n) := fun W hW => (Z1.belowE hW Z1.lt (by simp)).cell 0
  have hc1 : ∀ W, BelowE [w.heap.size + 1] W1.heap.size W1 W → W.cell? ⟨w.heap.size, 1, none⟩ = some (.slice a m c) := fun W hW => (Z1.belowE hW Z1.lt (by simp)).cell 1
  have hW1' := Lib.hid hW1
  have hB' := Lib.hid hB
  have Z2' := Lib.hid Z2
  clear hW1 hB Z1 Z2 h
  go_enter Tryz.func57, Tryz.ntmps57
  go_wp2
  rw [← hW1'.out]
  clear hW1'
  refine wp_drawn_on (fun W => BelowE [w.heap.size + 1] W1.heap.size W1 W) (by kernel_rfl) ((BelowE.refl _ _ _).drew) (fun hHeld => ?_)
  refine wpAnyH_take (i := 0) (oi := { dst := some 3, op := Go.Op.fieldAddr 24 (Go.Operand.tmp 1) 0, type := 0, pos := "zone.go:31", after := #[], guard := none }) (v := ?v1) rfl (by kernel_rfl) (by kernel_rfl) (by kernel_rfl) (fun _ _ _ h => h) (Or.inl ⟨by kernel_rfl, ?h1⟩) (by assumption) ?r1
  case h1 => (intro w hSw; (try dsimp only at hSw); go_simp; try with_reducible rfl)
  try simp only [Act.put, List.setIfInBounds_toArray, List.set_cons_zero, List.set_cons_succ]
  refine wpAnyH_take (i := 1) (oi := { dst := some 4, op := Go.Op.load 3 (Go.Operand.tmp 3), type := 3, pos := "zone.go:31", after := #[{ on := 0, ground := Go.Ground.data }], guard := none }) (v := ?v2) rfl (by kernel_rfl) (by kernel_rfl) (by kernel_rfl) (fun _ _ _ h => h) (Or.inl ⟨by kernel_rfl, ?h2⟩) (by assumption) ?r2
  case h2 => (intro w hSw; (try dsimp only at hSw); go_simp; try with_reducible rfl)
  try simp only [Act.put, List.setIfInBounds_toArray, List.set_cons_zero, List.set_cons_succ]
  refine wpAnyH_take (i := 2) (oi := { dst := some 5, op := Go.Op.fieldAddr 24 (Go.Operand.tmp 1) 1, type := 0, pos := "zone.go:31", after := #[], guard := none }) (v := ?v3) rfl (by kernel_rfl) (by kernel_rfl) (by kernel_rfl) (fun _ _ _ h => h) (Or.inl ⟨by kernel_rfl, ?h3⟩) (by assumption) ?r3
  case h3 => (intro w hSw; (try dsimp only at hSw); go_simp; try with_reducible rfl)
  try simp only [Act.put, List.setIfInBounds_toArray, List.set_cons_zero, List.set_cons_succ]
  refine wpAnyH_take (i := 3) (oi := { dst := some 6, op := Go.Op.load 22 (Go.Operand.tmp 5), type := 22, pos := "zone.go:31", after := #[{ on := 2, ground := Go.Ground.data }], guard := none }) (v := ?v4) rfl (by kernel_rfl) (by kernel_rfl) (by kernel_rfl) (fun _ _ _ h => h) (Or.inl ⟨by kernel_rfl, ?h4⟩) (by assumption) ?r4
  case h4 => (intro w hSw; (try dsimp only at hSw); go_simp; try with_reducible rfl)
  try simp only [Act.put, List.setIfInBounds_toArray, List.set_cons_zero, List.set_cons_succ]
  refine wpAnyH_ready (rs := [4]) (by kernel_rfl) (by simp) ?_
  refine AllReadyH.cons (o := { dst := some 7, op := Go.Op.call { callee := Go.Callee.value (Go.Operand.func 66), args := #[Go.Operand.tmp 6], argTypes := #[22] }, type := 22, pos := "zone.go:31", after := #[{ on := 3, ground := Go.Ground.data }], guard := none }) rfl (fun K hK => ?_) AllReadyH.nil
  go_simp
  refine (hcl.out _ hs1.out).mono ?_
  intro e w3 hmd
  have b3 : Below W1.heap.size W1.drew w3 := by obtain ⟨v3, -, -, b3⟩ := hmd; exact b3
  obtain ⟨a3, c3, rfl, hz3, hall⟩ := zone_end (hB'.out.trans ((below_drew (Below.refl _ _)).mono hB'.out.size)) (g := w.heap.size + 1) (by omega) (Z2'.out.below (below_drew (Below.refl _ _)) Z2'.out.lt) hmd
  have hfin := Lib.hid (hall n 0)
  have j0 := hz3.cell 0
  have j1 := hz3.cell 1
  have f0 := hz3.free 0
  have f1 := hz3.free 1
  clear hmd hall
  go_simp
  refine hK.out _ _ (hHeld.trans (BelowE.of b3)) (fun hHeld => ?_)
  clear hK K
  try simp only [Act.put, List.setIfInBounds_toArray, List.set_cons_zero, List.set_cons_succ]
  refine wpAnyH_take (i := 5) (oi := { dst := some 8, op := Go.Op.build 24 #[(0, Go.Operand.tmp 4), (1, Go.Operand.tmp 7)], type := 24, pos := "zone.go:31", after := #[{ on := 1, ground := Go.Ground.data }, { on := 4, ground := Go.Ground.data }], guard := none }) (v := ?v5) rfl (by kernel_rfl) (by kernel_rfl) (by kernel_rfl) (fun _ _ _ h => h) (Or.inl ⟨by kernel_rfl, ?h5⟩) (by assumption) ?r5
  case h5 => (intro w hSw; (try dsimp only at hSw); go_simp; try with_reducible rfl)
  try simp only [Act.put, List.setIfInBounds_toArray, List.set_cons_zero, List.set_cons_succ]
  refine wpAnyH_ready (rs := [6]) (by kernel_rfl) (by simp) ?_
  refine AllReadyH.cons (o := { dst := none, op := Go.Op.store 24 (Go.Operand.tmp 2) (Go.Operand.tmp 8), type := 0, pos := "zone.go:31", after := #[{ on := 5, ground := Go.Ground.data }, { on := 4, ground := Go.Ground.chain }, { on := 0, ground := Go.Ground.phase }, { on := 1, ground := Go.Ground.phase }, { on := 2, ground := Go.Ground.phase }, { on := 3, ground := Go.Ground.phase }, { on := 4, ground := Go.Ground.phase }, { on := 5, ground := Go.Ground.phase }], guard := none }) rfl (fun K hK => ?_) AllReadyH.nil
  go_simp
  refine hK.out _ _ (((hHeld.setIn (p := ⟨w.heap.size + 1, 0, none⟩) (by simp) _).setIn (p := ⟨w.heap.size + 1, 1, none⟩) (by simp) _)) (fun hHeld => ?_)
  clear hK K
  try simp only [Act.put, List.setIfInBounds_toArray, List.set_cons_zero, List.set_cons_succ]
  refine wpAnyH_done (by kernel_rfl) ?_ _
  go_wp2
  exact zone_ret hfin.out.1 hfin.out.2.2 _ _ 2 rfl rfl rfl

def pw (F : Int → Int → Int) (la lb : List Int) : List Int := (List.range la.length).map fun t => F (la.getD t 0) (lb.getD t 0)
theorem pw_len (F : Int → Int → Int) (la lb : List Int) : (pw F la lb).length = la.length := by simp [pw]
theorem pw_at (F : Int → Int → Int) (la lb : List Int) {t : Nat} (ht : t < la.length) : (pw F la lb).getD t 0 = F (la.getD t 0) (lb.getD t 0) := by simp [pw, List.getD, ht]
theorem pw_ext {F : Int → Int → Int} {la lb L : List Int} (hl : L.length = la.length) (h : ∀ t, t < la.length → L.getD t 0 = F (la.getD t 0) (lb.getD t 0)) : L = pw F la lb := by
  apply List.ext_getElem (by rw [pw_len, hl])
  intro t h1 h2
  have := h t (by omega)
  rw [← pw_at F la lb (by omega)] at this
  simpa [List.getD, h1, h2] using this
set_option maxRecDepth 100000 in
set_option maxHeartbeats 4000000 in
theorem pairs_join (F : Int → Int → Int) (hf : ∀ x y W, Calls Tryz.prog 38 #[.int .i64 x, .int .i64 y] W (Tells (.int .i64 (F x y)) W))
    (n : Nat) (hn : n ≤ 8) (a1 a2 : Option Addr) (m1 m2 c1 c2 : Nat) (l1 l2 : List Int) (hl1 : l1.length = sz n) (hl2 : l2.length = sz n) (w : World) (h1 : SL w a1 m1 c1 l1) (h2 : SL w a2 m2 c2 l2) :
    Calls Tryz.prog 58 #[.agg #[.int .i64 n, .slice a1 m1 c1], .agg #[.int .i64 n, .slice a2 m2 c2], .func (.func 38) #[] #[]] w (ZoneE n (closedL n (pw F l1 l2)) 0 w) := by
  obtain ⟨i0, hi, hz0, hz1, hz2⟩ := info_parts infoInt
  obtain ⟨W1, hW1⟩ : ∃ W1, W1 = ((w.alloc (.cells #[.int .i64 n, .slice a1 m1 c1] 24)).alloc (.cells #[.int .i64 n, .slice a2 m2 c2] 24)).alloc (.cells #[.int .i64 0, .slice none 0 0] 24) := ⟨_, rfl⟩
  have hB : Below w.heap.size w W1 := by rw [hW1]; exact (box2_below _ _ _ _ _).alloc (by simp; omega) _
  have hs1 : W1.heap.size = w.heap.size + 3 := by rw [hW1]; simp
  have Z1 : ZH W1 w.heap.size (.int .i64 n) (.slice a1 m1 c1) := by rw [hW1]; exact ((Holds.new w _ _).alloc _).alloc _
  have Z2 : ZH W1 (w.heap.size + 1) (.int .i64 n) (.slice a2 m2 c2) := by
    rw [hW1]
    have := (Holds.new (w.alloc (.cells #[.int .i64 n, .slice a1 m1 c1] 24)) 24 #[.int .i64 n, .slice a2 m2 c2]).alloc (.cells #[.int .i64 0, .slice none 0 0] 24)
    simpa using this
  have Z3 : ZH W1 (w.heap.size + 1 + 1) (.int .i64 0) (.slice none 0 0) := by
    rw [hW1]
    have := Holds.new ((w.alloc (.cells #[.int .i64 n, .slice a1 m1 c1] 24)).alloc (.cells #[.int .i64 n, .slice a2 m2 c2] 24)) 24 #[.int .i64 0, .slice none 0 0]
    simpa using this
  have hs81 := sz_le hn
  have hm1 : m1 = sz n := by rw [h1.len, hl1]
  have hm2 : m2 = sz n := by rw [h2.len, hl2]
  obtain ⟨gm, w5, hmk, hgm, own5, gr5⟩ : ∃ gm w5, (Instr.makeSlice 22 (.int .i64 (m1 : Int)) (.int .i64 (m1 : Int))).run Tryz.prog W1 = .ok (.slice (some ⟨gm, 0, none⟩) m1 m1) w5 ∧ gm = W1.heap.size ∧ w5.ownsRow W1.heap.size 3 1 (.slice (some ⟨gm, 0, none⟩) m1 m1) m1 (nums .i64 (List.replicate m1 0)) ∧ W1.grownBy w5 none := by
    obtain ⟨w', hrun, r1, r2⟩ := run_make_full (P := Tryz.prog) W1 W1.heap.size 22 3 i0 (.int .i64 0) 1 Tryz.underlying22 hi hz0 hz1 .i64 .i64 m1 (by rw [hz2]; omega) (by unfold maxLen; omega) (Nat.le_refl _)
    rw [made_zero] at r1
    exact ⟨W1.heap.size, w', hrun, rfl, r1, r2⟩
  have b5 : Below W1.heap.size W1 w5 := (Below.refl _ _).grown gr5 (Nat.le_refl _) (by intro k hk; simp at hk)
  rw [hW1] at hmk
  have own5' := Lib.hid own5
  have b5' := Lib.hid b5
  have hW1' := Lib.hid hW1
  have hB' := Lib.hid hB
  have Z1' := Lib.hid (Z1.below b5 Z1.lt)
  have Z2' := Lib.hid (Z2.below b5 Z2.lt)
  have Z3' := Lib.hid (Z3.below b5 Z3.lt)
  have S1' := Lib.hid (h1.sees.below hB)
  have S2' := Lib.hid (h2.sees.below hB)
  have hgm' := Lib.hid hgm
  have hs1' := Lib.hid hs1
  have hl1' := Lib.hid hl1
  have hl2' := Lib.hid hl2
  have hm1' := Lib.hid hm1
  have hf' := Lib.hid hf
  have hn' := Lib.hid hn
  have hmi : (m1 : Int) ≤ 81 := by omega
  have hm12 : m2 = m1 := by omega
  subst hm12
  have z0 := Z1'.out.cell 0
  have z1 := Z1'.out.cell 1
  clear hW1 hB Z1 Z2 Z3 own5 b5 gr5 h1 h2 hgm hs1 hl1 hl2 hf hn hm1 hm2
  go_enter Tryz.func58, Tryz.ntmps58
  go_wp2
  go_loopw [16] (fun x wr => ∃ (k : Nat) (L : List Int), k ≤ m2 ∧ x = .int .i64 k ∧ Hid (L.length = m2 ∧ ∀ t, t < k → L.getD t 0 = F (l1.getD t 0) (l2.getD t 0)) ∧ Hid (wr.ownsRow W1.heap.size 3 1 (.slice (some ⟨gm, 0, none⟩) m2 m2) m2 (nums .i64 L)) ∧ Hid (BelowE [gm] w5.heap.size w5 wr)) (fun x _ => m2 - (intOf x).toNat)
  case atStart => exact ⟨0, List.replicate m2 0, Nat.zero_le _, rfl, Lib.hid ⟨by simp, by intro t ht; omega⟩, own5', Lib.hid (BelowE.refl _ _ _)⟩
  case round =>
    clear z0 z1
    obtain ⟨k, L, hk, rfl, hL, hown, hb⟩ := hrel
    have hx0 : w.heap.size ∉ [gm] := by have := hgm'.out; have := hs1'.out; simp; omega
    have hx1 : w.heap.size + 1 ∉ [gm] := by have := hgm'.out; have := hs1'.out; simp; omega
    have hx2 : w.heap.size + 1 + 1 ∉ [gm] := by have := hgm'.out; have := hs1'.out; simp; omega
    by_cases hlt : k < m2
    · have hki : (k : Int) < (m2 : Int) := by omega
      have Za := Lib.hid (Z1'.out.belowE hb.out Z1'.out.lt hx0)
      have Zb := Lib.hid (Z2'.out.belowE hb.out Z2'.out.lt hx1)
      have hg1 : ∀ x ∈ [gm], w.heap.size ≤ x := by intro x hx; have := hgm'.out; have := hs1'.out; simp at hx; omega
      have T1 := Lib.hid (((S1'.out.below (b5'.out.mono hB'.out.size)).out hg1).belowE (hb.out.mono (by have := hB'.out.size; have := b5'.out.size; omega)))
      have T2 := Lib.hid (((S2'.out.below (b5'.out.mono hB'.out.size)).out hg1).belowE (hb.out.mono (by have := hB'.out.size; have := b5'.out.size; omega)))
      have hszr : w.heap.size ≤ wr.heap.size := by have := hB'.out.size; have := b5'.out.size; have := hb.out.size; omega
      obtain ⟨q1, o1, rfl, hq1, e1⟩ := sees_at' T1.out.sees (i := k) (by have := hl1'.out; have := hm1'.out; omega)
      obtain ⟨q2, o2, rfl, hq2, e2⟩ := sees_at' T2.out.sees (i := k) (by have := hl2'.out; have := hm1'.out; omega)
      have f0 : ∀ W, BelowE [gm] wr.heap.size wr W → W.cell? ⟨w.heap.size, 1, none⟩ = some (.slice (some ⟨q1, o1, none⟩) m2 c1) := fun W hW => (Za.out.belowE hW Za.out.lt hx0).cell 1
      have f1 : ∀ W, BelowE [gm] wr.heap.size wr W → W.cell? ⟨w.heap.size + 1, 1, none⟩ = some (.slice (some ⟨q2, o2, none⟩) m2 c2) := fun W hW => (Zb.out.belowE hW Zb.out.lt hx1).cell 1
      have f2 : ∀ W, BelowE [gm] wr.heap.size wr W → W.cell? ⟨q1, o1 + k, none⟩ = some (.int .i64 (l1.getD k 0)) := fun W hW => (hW.cell (p := ⟨q1, o1 + k, none⟩) (by show q1 < _; omega) (by have := hg1 gm (by simp); simp; omega)).trans e1
      have f3 : ∀ W, BelowE [gm] wr.heap.size wr W → W.cell? ⟨q2, o2 + k, none⟩ = some (.int .i64 (l2.getD k 0)) := fun W hW => (hW.cell (p := ⟨q2, o2 + k, none⟩) (by show q2 < _; omega) (by have := hg1 gm (by simp); simp; omega)).trans e2
      have m0 := own_at hown.out (i := k) (by rw [hL.out.1]; exact hlt)
      have mf := hown.out.frozenAt k
      have hcall := Lib.hid (fun W => hf'.out (l1.getD k 0) (l2.getD k 0) W)
      have hL2 : Hid ((L.set k (F (l1.getD k 0) (l2.getD k 0))).length = m2 ∧ ∀ t, t < k + 1 → (L.set k (F (l1.getD k 0) (l2.getD k 0))).getD t 0 = F (l1.getD t 0) (l2.getD t 0)) := Lib.hid ⟨by rw [List.length_set]; exact hL.out.1, fun t ht => by
        rw [getD_set _ _ _ _ (by rw [hL.out.1]; exact hlt)]
        by_cases e : t = k
        · rw [if_pos e, e]
        · rw [if_neg e]; exact hL.out.2 t (by omega)⟩
      have hnx : Hid ((wr.setCell ⟨gm, k, none⟩ (.int .i64 (F (l1.getD k 0) (l2.getD k 0)))).drew.ownsRow W1.heap.size 3 1 (.slice (some ⟨gm, 0, none⟩) m2 m2) m2 (nums .i64 (L.set k (F (l1.getD k 0) (l2.getD k 0))))) := Lib.hid (own_put hown.out k _)
      have hbx : Hid (BelowE [gm] w5.heap.size w5 (wr.setCell ⟨gm, k, none⟩ (.int .i64 (F (l1.getD k 0) (l2.getD k 0)))).drew) := Lib.hid ((hb.out.setIn (p := ⟨gm, k, none⟩) (by simp) _).drew)
      clear hL hown hb Za Zb T1 T2 hq1 hq2 e1 e2 hg1
      generalize F (l1.getD k 0) (l2.getD k 0) = u at *
      generalize l1.getD k 0 = x at *
      generalize l2.getD k 0 = y at *
      generalize L.getD k 0 = z at *
      go_wp2
      refine wp_drawn_on (fun W => BelowE [gm] wr.heap.size wr W) (by kernel_rfl) ((BelowE.refl _ _ _).drew) (fun hHeld => ?_)
      refine wpAnyH_take (i := 0) (oi := { dst := some 19, op := Go.Op.move (Go.Operand.tmp 8), type := 22, pos := "zone.go:64", after := #[], guard := none }) (v := ?v6) rfl (by kernel_rfl) (by kernel_rfl) (by kernel_rfl) (fun _ _ _ h => h) (Or.inl ⟨by kernel_rfl, ?h6⟩) (by assumption) ?r6
      case h6 => (intro w hSw; (try dsimp only at hSw); go_simp; try with_reducible rfl)
      try simp only [Act.put, List.setIfInBounds_toArray, List.set_cons_zero, List.set_cons_succ]
      refine wpAnyH_take (i := 1) (oi := { dst := some 20, op := Go.Op.move (Go.Operand.tmp 9), type := 3, pos := "zone.go:64", after := #[], guard := none }) (v := ?v7) rfl (by kernel_rfl) (by kernel_rfl) (by kernel_rfl) (fun _ _ _ h => h) (Or.inl ⟨by kernel_rfl, ?h7⟩) (by assumption) ?r7
      case h7 => (intro w hSw; (try dsimp only at hSw); go_simp; try with_reducible rfl)
      try simp only [Act.put, List.setIfInBounds_toArray, List.set_cons_zero, List.set_cons_succ]
      refine wpAnyH_take (i := 2) (oi := { dst := some 21, op := Go.Op.move (Go.Operand.tmp 2), type := 55, pos := "zone.go:64", after := #[], guard := none }) (v := ?v8) rfl (by kernel_rfl) (by kernel_rfl) (by kernel_rfl) (fun _ _ _ h => h) (Or.inl ⟨by kernel_rfl, ?h8⟩) (by assumption) ?r8
      case h8 => (intro w hSw; (try dsimp only at hSw); go_simp; try with_reducible rfl)
      try simp only [Act.put, List.setIfInBounds_toArray, List.set_cons_zero, List.set_cons_succ]
      refine wpAnyH_take (i := 3) (oi := { dst := some 22, op := Go.Op.fieldAddr 24 (Go.Operand.tmp 3) 1, type := 0, pos := "zone.go:64", after := #[], guard := none }) (v := ?v9) rfl (by kernel_rfl) (by kernel_rfl) (by kernel_rfl) (fun _ _ _ h => h) (Or.inl ⟨by kernel_rfl, ?h9⟩) (by assumption) ?r9
      case h9 => (intro w hSw; (try dsimp only at hSw); go_simp; try with_reducible rfl)
      try simp only [Act.put, List.setIfInBounds_toArray, List.set_cons_zero, List.set_cons_succ]
      refine wpAnyH_take (i := 4) (oi := { dst := some 23, op := Go.Op.load 22 (Go.Operand.tmp 22), type := 22, pos := "zone.go:64", after := #[{ on := 3, ground := Go.Ground.data }], guard := none }) (v := ?v10) rfl (by kernel_rfl) (by kernel_rfl) (by kernel_rfl) (fun _ _ _ h => h) (Or.inl ⟨by kernel_rfl, ?h10⟩) (by assumption) ?r10
      case h10 => (intro w hSw; (try dsimp only at hSw); go_simp; try with_reducible rfl)
      try simp only [Act.put, List.setIfInBounds_toArray, List.set_cons_zero, List.set_cons_succ]
      refine wpAnyH_take (i := 5) (oi := { dst := some 24, op := Go.Op.move (Go.Operand.tmp 9), type := 3, pos := "zone.go:64", after := #[], guard := none }) (v := ?v11) rfl (by kernel_rfl) (by kernel_rfl) (by kernel_rfl) (fun _ _ _ h => h) (Or.inl ⟨by kernel_rfl, ?h11⟩) (by assumption) ?r11
      case h11 => (intro w hSw; (try dsimp only at hSw); go_simp; try with_reducible rfl)
      try simp only [Act.put, List.setIfInBounds_toArray, List.set_cons_zero, List.set_cons_succ]
      refine wpAnyH_take (i := 6) (oi := { dst := some 25, op := Go.Op.indexAddr 22 (Go.Operand.tmp 23) (Go.Operand.tmp 24), type := 0, pos := "zone.go:64", after := #[{ on := 4, ground := Go.Ground.data }, { on := 5, ground := Go.Ground.data }], guard := none }) (v := ?v12) rfl (by kernel_rfl) (by kernel_rfl) (by kernel_rfl) (fun _ _ _ h => h) (Or.inl ⟨by kernel_rfl, ?h12⟩) (by assumption) ?r12
      case h12 => (intro w hSw; (try dsimp only at hSw); go_simp; try with_reducible rfl)
      try simp only [Act.put, List.setIfInBounds_toArray, List.set_cons_zero, List.set_cons_succ]
      refine wpAnyH_take (i := 7) (oi := { dst := some 26, op := Go.Op.load 3 (Go.Operand.tmp 25), type := 3, pos := "zone.go:64", after := #[{ on := 6, ground := Go.Ground.data }], guard := none }) (v := ?v13) rfl (by kernel_rfl) (by kernel_rfl) (by kernel_rfl) (fun _ _ _ h => h) (Or.inl ⟨by kernel_rfl, ?h13⟩) (by assumption) ?r13
      case h13 => (intro w hSw; (try dsimp only at hSw); go_simp; try with_reducible rfl)
      try simp only [Act.put, List.setIfInBounds_toArray, List.set_cons_zero, List.set_cons_succ]
      refine wpAnyH_take (i := 8) (oi := { dst := some 27, op := Go.Op.fieldAddr 24 (Go.Operand.tmp 4) 1, type := 0, pos := "zone.go:64", after := #[], guard := none }) (v := ?v14) rfl (by kernel_rfl) (by kernel_rfl) (by kernel_rfl) (fun _ _ _ h => h) (Or.inl ⟨by kernel_rfl, ?h14⟩) (by assumption) ?r14
      case h14 => (intro w hSw; (try dsimp only at hSw); go_simp; try with_reducible rfl)
      try simp only [Act.put, List.setIfInBounds_toArray, List.set_cons_zero, List.set_cons_succ]
      refine wpAnyH_take (i := 9) (oi := { dst := some 28, op := Go.Op.load 22 (Go.Operand.tmp 27), type := 22, pos := "zone.go:64", after := #[{ on := 8, ground := Go.Ground.data }], guard := none }) (v := ?v15) rfl (by kernel_rfl) (by kernel_rfl) (by kernel_rfl) (fun _ _ _ h => h) (Or.inl ⟨by kernel_rfl, ?h15⟩) (by assumption) ?r15
      case h15 => (intro w hSw; (try dsimp only at hSw); go_simp; try with_reducible rfl)
      try simp only [Act.put, List.setIfInBounds_toArray, List.set_cons_zero, List.set_cons_succ]
      refine wpAnyH_take (i := 10) (oi := { dst := some 29, op := Go.Op.move (Go.Operand.tmp 9), type := 3, pos := "zone.go:64", after := #[], guard := none }) (v := ?v16) rfl (by kernel_rfl) (by kernel_rfl) (by kernel_rfl) (fun _ _ _ h => h) (Or.inl ⟨by kernel_rfl, ?h16⟩) (by assumption) ?r16
      case h16 => (intro w hSw; (try dsimp only at hSw); go_simp; try with_reducible rfl)
      try simp only [Act.put, List.setIfInBounds_toArray, List.set_cons_zero, List.set_cons_succ]
      refine wpAnyH_take (i := 11) (oi := { dst := some 30, op := Go.Op.indexAddr 22 (Go.Operand.tmp 28) (Go.Operand.tmp 29), type := 0, pos := "zone.go:64", after := #[{ on := 9, ground := Go.Ground.data }, { on := 10, ground := Go.Ground.data }], guard := none }) (v := ?v17) rfl (by kernel_rfl) (by kernel_rfl) (by kernel_rfl) (fun _ _ _ h => h) (Or.inl ⟨by kernel_rfl, ?h17⟩) (by assumption) ?r17
      case h17 => (intro w hSw; (try dsimp only at hSw); go_simp; try with_reducible rfl)
      try simp only [Act.put, List.setIfInBounds_toArray, List.set_cons_zero, List.set_cons_succ]
      refine wpAnyH_take (i := 12) (oi := { dst := some 31, op := Go.Op.load 3 (Go.Operand.tmp 30), type := 3, pos := "zone.go:64", after := #[{ on := 11, ground := Go.Ground.data }], guard := none }) (v := ?v18) rfl (by kernel_rfl) (by kernel_rfl) (by kernel_rfl) (fun _ _ _ h => h) (Or.inl ⟨by kernel_rfl, ?h18⟩) (by assumption) ?r18
      case h18 => (intro w hSw; (try dsimp only at hSw); go_simp; try with_reducible rfl)
      try simp only [Act.put, List.setIfInBounds_toArray, List.set_cons_zero, List.set_cons_succ]
      refine wpAnyH_ready (rs := [13]) (by kernel_rfl) (by simp) ?_
      refine AllReadyH.cons (o := { dst := some 32, op := Go.Op.call { callee := Go.Callee.value (Go.Operand.tmp 21), args := #[Go.Operand.tmp 26, Go.Operand.tmp 31], argTypes := #[3, 3] }, type := 3, pos := "zone.go:64", after := #[{ on := 2, ground := Go.Ground.data }, { on := 7, ground := Go.Ground.data }, { on := 12, ground := Go.Ground.data }], guard := none }) rfl (fun K hK => ?_) AllReadyH.nil
      go_simp
      refine (hcall.out _).mono ?_
      rintro e w6 ⟨rfl, rfl⟩
      go_simp
      refine hK.out _ _ (hHeld) (fun hHeld => ?_)
      clear hK K
      try simp only [Act.put, List.setIfInBounds_toArray, List.set_cons_zero, List.set_cons_succ]
      refine wpAnyH_take (i := 14) (oi := { dst := some 33, op := Go.Op.indexAddr 22 (Go.Operand.tmp 19) (Go.Operand.tmp 20), type := 0, pos := "zone.go:64", after := #[{ on := 0, ground := Go.Ground.data }, { on := 1, ground := Go.Ground.data }, { on := 0, ground := Go.Ground.phase }, { on := 1, ground := Go.Ground.phase }, { on := 2, ground := Go.Ground.phase }, { on := 3, ground := Go.Ground.phase }, { on := 4, ground := Go.Ground.phase }, { on := 5, ground := Go.Ground.phase }, { on := 6, ground := Go.Ground.phase }, { on := 7, ground := Go.Ground.phase }, { on := 8, ground := Go.Ground.phase }, { on := 9, ground := Go.Ground.phase }, { on := 10, ground := Go.Ground.phase }, { on := 11, ground := Go.Ground.phase }, { on := 12, ground := Go.Ground.phase }, { on := 13, ground := Go.Ground.phase }], guard := none }) (v := ?v19) rfl (by kernel_rfl) (by kernel_rfl) (by kernel_rfl) (fun _ _ _ h => h) (Or.inl ⟨by kernel_rfl, ?h19⟩) (by assumption) ?r19
      case h19 => (intro w hSw; (try dsimp only at hSw); go_simp; try with_reducible rfl)
      try simp only [Act.put, List.setIfInBounds_toArray, List.set_cons_zero, List.set_cons_succ]
      refine wpAnyH_ready (rs := [15]) (by kernel_rfl) (by simp) ?_
      refine AllReadyH.cons (o := { dst := none, op := Go.Op.store 3 (Go.Operand.tmp 33) (Go.Operand.tmp 32), type := 0, pos := "zone.go:64", after := #[{ on := 14, ground := Go.Ground.data }, { on := 13, ground := Go.Ground.data }, { on := 13, ground := Go.Ground.chain }, { on := 0, ground := Go.Ground.phase }, { on := 1, ground := Go.Ground.phase }, { on := 2, ground := Go.Ground.phase }, { on := 3, ground := Go.Ground.phase }, { on := 4, ground := Go.Ground.phase }, { on := 5, ground := Go.Ground.phase }, { on := 6, ground := Go.Ground.phase }, { on := 7, ground := Go.Ground.phase }, { on := 8, ground := Go.Ground.phase }, { on := 9, ground := Go.Ground.phase }, { on := 10, ground := Go.Ground.phase }, { on := 11, ground := Go.Ground.phase }, { on := 12, ground := Go.Ground.phase }, { on := 13, ground := Go.Ground.phase }], guard := none }) rfl (fun K hK => ?_) AllReadyH.nil
      go_simp
      refine hK.out _ _ (hHeld.setIn (p := ⟨gm, k, none⟩) (by simp) _) (fun hHeld => ?_)
      clear hK K
      try simp only [Act.put, List.setIfInBounds_toArray, List.set_cons_zero, List.set_cons_succ]
      refine wpAnyH_done (by kernel_rfl) ?_ _
      go_wp2
      go_roundw
      case rel => exact ⟨k + 1, _, by omega, by go_num, hL2, hnx, hbx⟩
      case measure => simp [intOf]; omega
    · have hke : k = m2 := by omega
      have hLp : L = pw F l1 l2 := pw_ext (by have := hL.out.1; have := hl1'.out; have := hm1'.out; omega) (fun t ht => hL.out.2 t (by have := hl1'.out; have := hm1'.out; omega))
      have Za := Lib.hid (Z1'.out.belowE hb.out Z1'.out.lt hx0)
      have Zc := Lib.hid (Z3'.out.belowE hb.out Z3'.out.lt hx2)
      have hown2 := hown.out
      rw [hLp] at hown2
      obtain ⟨ga, gc, hv, -, ss⟩ := sees_own hown2
      injection hv with e1 e2 e3
      subst e1
      have hbB : Below w.heap.size w wr := hB'.out.trans ((b5'.out.mono hB'.out.size).trans (BelowE.none ((hb.out.mono (by have := hB'.out.size; have := b5'.out.size; omega)).less (by intro x hx hlt; have := hgm'.out; have := hs1'.out; simp at hx; omega))))
      have hcl := Lib.hid (dclose_ok n hn'.out (some ⟨gm, 0, none⟩) (pw F l1 l2) m2 m2 e2 hm1'.out wr ss)
      have hbB' := Lib.hid hbB
      have z0 := Za.out.cell 0
      have z1 := Za.out.cell 1
      clear hL hown hb hown2 e2 e3 ss hLp hbB
      generalize closedL n (pw F l1 l2) = R at *
      go_wp2_with fail
      refine hcl.out.mono ?_
      rintro e w7 ⟨a7, c7, rfl, hc7, s7, b7, nw7⟩
      have Zd := Zc.out.below b7 Zc.out.lt
      have y0 := Zd.cell 0
      have y1 := Zd.cell 1
      have f0 := Zd.free 0
      have f1 := Zd.free 1
      have hfin := Lib.hid (zone_put (n := n) (err := 0) hbB'.out (by omega) Zc.out hc7 s7 b7 nw7)
      clear Zd hcl
      go_wp2
      exact zone_ret2 hfin.out.1 hfin.out.2.1 _ _ 6 7 rfl rfl rfl rfl
end Go.Proofs.YtplgmmjppmpnoaaGreatDoor
/- Zones put together: unlessEmpty, Meet, Join, Widen. (Written by gen-zone-join.py.) -/
namespace Go.Proofs.YtplgmmjppmpnoaaGreatDoor
open Go.RowKit
set_option linter.unusedVariables false
set_option linter.unusedSimpArgs false

theorem fjoin_any (x y : Int) (W : World) : Calls Tryz.prog 38 #[.int .i64 x, .int .i64 y] W (Tells (.int .i64 (max x y)) W) := by
  rw [← ite_max]
  by_cases h : x < y
  · rw [if_pos h]
    go_enter Tryz.func38, Tryz.ntmps38
    go_wp2
    go_ret
    exact ⟨rfl, rfl⟩
  · rw [if_neg h]
    go_enter Tryz.func38, Tryz.ntmps38
    go_wp2
    go_ret
    exact ⟨rfl, rfl⟩
def wid (x y : Int) : Int := if y ≤ x then x else 4398046511104
/-- Two zones and a third one's block. -/
structure B3 (w W : World) (x1 y1 x2 y2 : Value) : Prop where
  bl : Below w.heap.size w W
  z1 : ZH W w.heap.size x1 y1
  z2 : ZH W (w.heap.size + 1) x2 y2
  z3 : ZH W (w.heap.size + 1 + 1) (.int .i64 0) (.slice none 0 0)
theorem B3.on {w W W' : World} {x1 y1 x2 y2 : Value} (h : B3 w W x1 y1 x2 y2) (hb : Below W.heap.size W W') : B3 w W' x1 y1 x2 y2 := ⟨h.bl.trans (hb.mono h.bl.size), h.z1.below hb h.z1.lt, h.z2.below hb h.z2.lt, h.z3.below hb h.z3.lt⟩
theorem b3_new (w : World) (x1 y1 x2 y2 : Value) : B3 w (((w.alloc (.cells #[x1, y1] 24)).alloc (.cells #[x2, y2] 24)).alloc (.cells #[.int .i64 0, .slice none 0 0] 24)) x1 y1 x2 y2 := by
  refine ⟨(box2_below _ _ _ _ _).alloc (by simp; omega) _, ((Holds.new w _ _).alloc _).alloc _, ?_, ?_⟩
  · have := (Holds.new (w.alloc (.cells #[x1, y1] 24)) 24 #[x2, y2]).alloc (.cells #[.int .i64 0, .slice none 0 0] 24)
    simpa using this
  · have := Holds.new ((w.alloc (.cells #[x1, y1] 24)).alloc (.cells #[x2, y2] 24)) 24 #[.int .i64 0, .slice none 0 0]
    simpa using this
/-- A zone: empty, or with valuations. -/
def IsZ (n : Nat) (l : List Int) : Prop := n ≤ 8 ∧ (l = [] ∨ Full n l)
theorem isZ_of {n : Int} {l : List Int} (h : checkB n l = true) : ∃ k : Nat, n = k ∧ IsZ k l := by
  have hm : mayB n = true := by
    cases q : mayB n
    · rw [checkB_no q] at h; cases h
    · rfl
  obtain ⟨k, rfl, hk⟩ := mayB_of hm
  refine ⟨k, rfl, hk, ?_⟩
  by_cases h0 : l = []
  · exact .inl h0
  · right
    by_cases hl : l.length = sz k
    · rw [checkB_sz hk h0 hl] at h
      exact ⟨hk, hl, h0, of_decide_eq_true h⟩
    · rw [checkB_len h0 hl] at h; cases h
theorem IsZ.check {n : Nat} {l : List Int} (h : IsZ n l) : checkB n l = true := by
  rcases h.2 with e | hF
  · rw [e]; exact checkB_nil (mayB_nat h.1)
  · rw [checkB_sz hF.le hF.ne hF.len]; exact decide_eq_true hF.fix
theorem IsZ.small {n : Nat} {l : List Int} (h : IsZ n l) : l.length ≤ 81 := by
  rcases h.2 with e | hF
  · rw [e]; simp
  · have := sz_le h.1; rw [hF.len]; exact this
theorem IsZ.two {n : Nat} {l1 l2 : List Int} (h1 : IsZ n l1) (h2 : IsZ n l2) : twoE n l1 n l2 = 0 := by unfold twoE; rw [if_neg (by rw [h1.check, h2.check]; simp), if_pos rfl]
theorem two_or (n1 : Int) (l1 : List Int) (n2 : Int) (l2 : List Int) : (twoE n1 l1 n2 l2 ≠ 0) ∨ ∃ n : Nat, n1 = n ∧ n2 = n ∧ IsZ n l1 ∧ IsZ n l2 := by
  unfold twoE
  by_cases h : checkB n1 l1 = false ∨ checkB n2 l2 = false
  · left; rw [if_pos h]; omega
  · rw [if_neg h]
    by_cases hn : n1 = n2
    · right
      have h1 : checkB n1 l1 = true := by cases q : checkB n1 l1; exact absurd (.inl q) h; rfl
      have h2 : checkB n2 l2 = true := by cases q : checkB n2 l2; exact absurd (.inr q) h; rfl
      obtain ⟨k, rfl, hk⟩ := isZ_of h1
      subst hn
      obtain ⟨k2, hk2, hz⟩ := isZ_of h2
      have : k = k2 := by omega
      subst this
      exact ⟨k, rfl, rfl, hk, hz⟩
    · left; rw [if_neg hn]; omega
set_option maxRecDepth 100000 in
set_option maxHeartbeats 1000000 in
theorem un_join_bad (n1 n2 : Int) (a1 a2 : Option Addr) (m1 m2 c1 c2 : Nat) (l1 l2 : List Int) (w : World) (h1 : SL w a1 m1 c1 l1) (h2 : SL w a2 m2 c2 l2) (hne : twoE n1 l1 n2 l2 ≠ 0) : Calls Tryz.prog 37 #[.agg #[.int .i64 n1, .slice a1 m1 c1], .agg #[.int .i64 n2, .slice a2 m2 c2], .func (.func 38) #[] #[]] w (ZoneE 0 [] (twoE n1 l1 n2 l2) w) := by
  obtain ⟨W1, hW1⟩ : ∃ W1, W1 = ((w.alloc (.cells #[.int .i64 n1, .slice a1 m1 c1] 24)).alloc (.cells #[.int .i64 n2, .slice a2 m2 c2] 24)).alloc (.cells #[.int .i64 0, .slice none 0 0] 24) := ⟨_, rfl⟩
  have X1 : B3 w W1 (.int .i64 n1) (.slice a1 m1 c1) (.int .i64 n2) (.slice a2 m2 c2) := by rw [hW1]; exact b3_new _ _ _ _ _
  have q1 := Lib.hid (ztwo_any n1 n2 a1 a2 l1 l2 m1 m2 c1 c2 W1 (h1.below X1.bl) (h2.below X1.bl))
  have H1 := Lib.hid h1
  have H2 := Lib.hid h2
  have X1' := Lib.hid X1
  have hW1' := Lib.hid hW1
  clear hW1 X1 h1 h2
  generalize twoE n1 l1 n2 l2 = E at *
  have e1 : (E != 0) = true := by simpa using hne
  go_enter Tryz.func37, Tryz.ntmps37
  go_wp2_with fail
  rw [← hW1'.out]
  refine q1.out.mono ?_
  rintro e w2 ⟨rfl, b2⟩
  have X2 := Lib.hid (X1'.out.on b2)
  clear b2 X1' q1
  have y0 := X2.out.z3.cell 0
  have y1 := X2.out.z3.cell 1
  have f0 := X2.out.z3.free 0
  have f1 := X2.out.z3.free 1
  have hfin := Lib.hid (zone_none X2.out.bl (by omega) X2.out.z3 0 E)
  go_wp2
  exact zone_ret2 hfin.out.1 hfin.out.2.1 _ _ 6 7 rfl rfl rfl rfl
set_option maxRecDepth 100000 in
set_option maxHeartbeats 1000000 in
theorem un_join_a (a1 a2 : Option Addr) (m1 m2 c1 c2 : Nat) (l1 l2 : List Int) (n : Nat) (z1 : IsZ n l1) (z2 : IsZ n l2) (w : World) (h1 : SL w a1 m1 c1 l1) (h2 : SL w a2 m2 c2 l2) (hn : l1 = []) : Calls Tryz.prog 37 #[.agg #[.int .i64 n, .slice a1 m1 c1], .agg #[.int .i64 n, .slice a2 m2 c2], .func (.func 38) #[] #[]] w (ZoneE n l2 0 w) := by
  obtain ⟨W1, hW1⟩ : ∃ W1, W1 = ((w.alloc (.cells #[.int .i64 n, .slice a1 m1 c1] 24)).alloc (.cells #[.int .i64 n, .slice a2 m2 c2] 24)).alloc (.cells #[.int .i64 0, .slice none 0 0] 24) := ⟨_, rfl⟩
  have X1 : B3 w W1 (.int .i64 n) (.slice a1 m1 c1) (.int .i64 n) (.slice a2 m2 c2) := by rw [hW1]; exact b3_new _ _ _ _ _
  have q1 := Lib.hid (ztwo_any n n a1 a2 l1 l2 m1 m2 c1 c2 W1 (h1.below X1.bl) (h2.below X1.bl))
  have H1 := Lib.hid h1
  have H2 := Lib.hid h2
  have X1' := Lib.hid X1
  have hW1' := Lib.hid hW1
  rw [z1.two z2] at q1
  have q2 := Lib.hid (fun W (hW : Below w.heap.size w W) => zempty_any n a1 m1 c1 l1 W (H1.out.below hW))
  have q3 := Lib.hid (fun W (hW : Below w.heap.size w W) => zempty_any n a2 m2 c2 l2 W (H2.out.below hW))
  rw [decide_eq_true hn] at q2
  have hsm := z2.small
  have hcl := Lib.hid (fun W (hW : Below w.heap.size w W) => zclone_any n a2 m2 c2 l2 (by have := H2.out.len; omega) W (H2.out.below hW))
  clear hW1 X1 h1 h2 hn
  go_enter Tryz.func37, Tryz.ntmps37
  go_wp2_with fail
  rw [← hW1'.out]
  refine q1.out.mono ?_
  rintro e w2 ⟨rfl, b2⟩
  have X2 := Lib.hid (X1'.out.on b2)
  clear b2 X1' q1
  have k0 := X2.out.z1.cell 0
  have k1 := X2.out.z1.cell 1
  have p2 := Lib.hid (q2.out w2 X2.out.bl)
  go_wp2_with fail
  refine p2.out.mono ?_
  rintro e w3 ⟨rfl, b3⟩
  have X3 := Lib.hid (X2.out.on b3)
  clear b3 X2 p2 k0 k1
  have p3 := Lib.hid (hcl.out w3 X3.out.bl)
  have k0 := X3.out.z2.cell 0
  have k1 := X3.out.z2.cell 1
  go_wp2_with fail
  refine p3.out.mono ?_
  rintro e w7 ⟨a7, c7, rfl, hc7, s7, b7, nw7⟩
  have Zd := X3.out.z3.below b7 X3.out.z3.lt
  have y0 := Zd.cell 0
  have y1 := Zd.cell 1
  have f0 := Zd.free 0
  have f1 := Zd.free 1
  have hfin := Lib.hid (zone_put (n := n) (err := 0) X3.out.bl (by omega) X3.out.z3 hc7 s7 b7 nw7)
  clear Zd k0 k1
  go_wp2
  exact zone_ret2 hfin.out.1 hfin.out.2.1 _ _ 6 7 rfl rfl rfl rfl
set_option maxRecDepth 100000 in
set_option maxHeartbeats 1000000 in
theorem un_join_b (a1 a2 : Option Addr) (m1 m2 c1 c2 : Nat) (l1 l2 : List Int) (n : Nat) (z1 : IsZ n l1) (z2 : IsZ n l2) (w : World) (h1 : SL w a1 m1 c1 l1) (h2 : SL w a2 m2 c2 l2) (hn1 : l1 ≠ []) (hn : l2 = []) : Calls Tryz.prog 37 #[.agg #[.int .i64 n, .slice a1 m1 c1], .agg #[.int .i64 n, .slice a2 m2 c2], .func (.func 38) #[] #[]] w (ZoneE n l1 0 w) := by
  obtain ⟨W1, hW1⟩ : ∃ W1, W1 = ((w.alloc (.cells #[.int .i64 n, .slice a1 m1 c1] 24)).alloc (.cells #[.int .i64 n, .slice a2 m2 c2] 24)).alloc (.cells #[.int .i64 0, .slice none 0 0] 24) := ⟨_, rfl⟩
  have X1 : B3 w W1 (.int .i64 n) (.slice a1 m1 c1) (.int .i64 n) (.slice a2 m2 c2) := by rw [hW1]; exact b3_new _ _ _ _ _
  have q1 := Lib.hid (ztwo_any n n a1 a2 l1 l2 m1 m2 c1 c2 W1 (h1.below X1.bl) (h2.below X1.bl))
  have H1 := Lib.hid h1
  have H2 := Lib.hid h2
  have X1' := Lib.hid X1
  have hW1' := Lib.hid hW1
  rw [z1.two z2] at q1
  have q2 := Lib.hid (fun W (hW : Below w.heap.size w W) => zempty_any n a1 m1 c1 l1 W (H1.out.below hW))
  have q3 := Lib.hid (fun W (hW : Below w.heap.size w W) => zempty_any n a2 m2 c2 l2 W (H2.out.below hW))
  rw [decide_eq_false hn1] at q2
  rw [decide_eq_true hn] at q3
  have hsm := z1.small
  have hcl := Lib.hid (fun W (hW : Below w.heap.size w W) => zclone_any n a1 m1 c1 l1 (by have := H1.out.len; omega) W (H1.out.below hW))
  clear hW1 X1 h1 h2 hn hn1
  go_enter Tryz.func37, Tryz.ntmps37
  go_wp2_with fail
  rw [← hW1'.out]
  refine q1.out.mono ?_
  rintro e w2 ⟨rfl, b2⟩
  have X2 := Lib.hid (X1'.out.on b2)
  clear b2 X1' q1
  have k0 := X2.out.z1.cell 0
  have k1 := X2.out.z1.cell 1
  have p2 := Lib.hid (q2.out w2 X2.out.bl)
  go_wp2_with fail
  refine p2.out.mono ?_
  rintro e w3 ⟨rfl, b3⟩
  have X3 := Lib.hid (X2.out.on b3)
  clear b3 X2 p2 k0 k1
  have k0 := X3.out.z2.cell 0
  have k1 := X3.out.z2.cell 1
  have p3 := Lib.hid (q3.out w3 X3.out.bl)
  go_wp2_with fail
  refine p3.out.mono ?_
  rintro e w4 ⟨rfl, b4⟩
  have X4 := Lib.hid (X3.out.on b4)
  clear b4 X3 p3 k0 k1
  have p4 := Lib.hid (hcl.out w4 X4.out.bl)
  have k0 := X4.out.z1.cell 0
  have k1 := X4.out.z1.cell 1
  go_wp2_with fail
  refine p4.out.mono ?_
  rintro e w7 ⟨a7, c7, rfl, hc7, s7, b7, nw7⟩
  have Zd := X4.out.z3.below b7 X4.out.z3.lt
  have y0 := Zd.cell 0
  have y1 := Zd.cell 1
  have f0 := Zd.free 0
  have f1 := Zd.free 1
  have hfin := Lib.hid (zone_put (n := n) (err := 0) X4.out.bl (by omega) X4.out.z3 hc7 s7 b7 nw7)
  clear Zd k0 k1
  go_wp2
  exact zone_ret2 hfin.out.1 hfin.out.2.1 _ _ 6 7 rfl rfl rfl rfl
set_option maxRecDepth 100000 in
set_option maxHeartbeats 1000000 in
theorem un_join_c (a1 a2 : Option Addr) (m1 m2 c1 c2 : Nat) (l1 l2 : List Int) (n : Nat) (z1 : IsZ n l1) (z2 : IsZ n l2) (w : World) (h1 : SL w a1 m1 c1 l1) (h2 : SL w a2 m2 c2 l2) (hF1 : Full n l1) (hF2 : Full n l2) : Calls Tryz.prog 37 #[.agg #[.int .i64 n, .slice a1 m1 c1], .agg #[.int .i64 n, .slice a2 m2 c2], .func (.func 38) #[] #[]] w (ZoneE n (closedL n (pw max l1 l2)) 0 w) := by
  obtain ⟨W1, hW1⟩ : ∃ W1, W1 = ((w.alloc (.cells #[.int .i64 n, .slice a1 m1 c1] 24)).alloc (.cells #[.int .i64 n, .slice a2 m2 c2] 24)).alloc (.cells #[.int .i64 0, .slice none 0 0] 24) := ⟨_, rfl⟩
  have X1 : B3 w W1 (.int .i64 n) (.slice a1 m1 c1) (.int .i64 n) (.slice a2 m2 c2) := by rw [hW1]; exact b3_new _ _ _ _ _
  have q1 := Lib.hid (ztwo_any n n a1 a2 l1 l2 m1 m2 c1 c2 W1 (h1.below X1.bl) (h2.below X1.bl))
  have H1 := Lib.hid h1
  have H2 := Lib.hid h2
  have X1' := Lib.hid X1
  have hW1' := Lib.hid hW1
  rw [z1.two z2] at q1
  have q2 := Lib.hid (fun W (hW : Below w.heap.size w W) => zempty_any n a1 m1 c1 l1 W (H1.out.below hW))
  have q3 := Lib.hid (fun W (hW : Below w.heap.size w W) => zempty_any n a2 m2 c2 l2 W (H2.out.below hW))
  rw [decide_eq_false hF1.ne] at q2
  rw [decide_eq_false hF2.ne] at q3
  have hp := Lib.hid (fun W (hW : Below w.heap.size w W) => pairs_join max (fun x y W => fjoin_any x y W) n hF1.le a1 a2 m1 m2 c1 c2 l1 l2 hF1.len hF2.len W (H1.out.below hW) (H2.out.below hW))
  clear hW1 X1 h1 h2 hF1 hF2
  generalize closedL n (pw max l1 l2) = R at *
  go_enter Tryz.func37, Tryz.ntmps37
  go_wp2_with fail
  rw [← hW1'.out]
  refine q1.out.mono ?_
  rintro e w2 ⟨rfl, b2⟩
  have X2 := Lib.hid (X1'.out.on b2)
  clear b2 X1' q1
  have k0 := X2.out.z1.cell 0
  have k1 := X2.out.z1.cell 1
  have p2 := Lib.hid (q2.out w2 X2.out.bl)
  go_wp2_with fail
  refine p2.out.mono ?_
  rintro e w3 ⟨rfl, b3⟩
  have X3 := Lib.hid (X2.out.on b3)
  clear b3 X2 p2 k0 k1
  have k0 := X3.out.z2.cell 0
  have k1 := X3.out.z2.cell 1
  have p3 := Lib.hid (q3.out w3 X3.out.bl)
  go_wp2_with fail
  refine p3.out.mono ?_
  rintro e w4 ⟨rfl, b4⟩
  have X4 := Lib.hid (X3.out.on b4)
  clear b4 X3 p3 k0 k1
  have p4 := Lib.hid (hp.out w4 X4.out.bl)
  have j0 := X4.out.z2.cell 0
  have j1 := X4.out.z2.cell 1
  have k0 := X4.out.z1.cell 0
  have k1 := X4.out.z1.cell 1
  go_wp2_with fail
  refine p4.out.mono ?_
  rintro e w7 ⟨a7, c7, rfl, hc7, s7, b7, nw7⟩
  have Zd := X4.out.z3.below b7 X4.out.z3.lt
  have y0 := Zd.cell 0
  have y1 := Zd.cell 1
  have f0 := Zd.free 0
  have f1 := Zd.free 1
  have hfin := Lib.hid (zone_put (n := n) (err := 0) X4.out.bl (by omega) X4.out.z3 hc7 s7 b7 nw7)
  clear Zd k0 k1
  go_wp2
  exact zone_ret2 hfin.out.1 hfin.out.2.1 _ _ 6 7 rfl rfl rfl rfl
set_option maxRecDepth 100000 in
set_option maxHeartbeats 1000000 in
theorem zjoin_of (n1 n2 : Int) (R : List Int) (nr E : Int) (a1 a2 : Option Addr) (m1 m2 c1 c2 : Nat) (l1 l2 : List Int) (w : World) (h1 : SL w a1 m1 c1 l1) (h2 : SL w a2 m2 c2 l2) (hq : ∀ W, Below w.heap.size w W → Calls Tryz.prog 37 #[.agg #[.int .i64 n1, .slice a1 m1 c1], .agg #[.int .i64 n2, .slice a2 m2 c2], .func (.func 38) #[] #[]] W (ZoneE nr R E W)) : Calls Tryz.prog 18 #[.agg #[.int .i64 n1, .slice a1 m1 c1], .agg #[.int .i64 n2, .slice a2 m2 c2]] w (ZoneE nr R E w) := by
  obtain ⟨W1, hW1⟩ : ∃ W1, W1 = ((w.alloc (.cells #[.int .i64 n1, .slice a1 m1 c1] 24)).alloc (.cells #[.int .i64 n2, .slice a2 m2 c2] 24)).alloc (.cells #[.int .i64 0, .slice none 0 0] 24) := ⟨_, rfl⟩
  have X1 : B3 w W1 (.int .i64 n1) (.slice a1 m1 c1) (.int .i64 n2) (.slice a2 m2 c2) := by rw [hW1]; exact b3_new _ _ _ _ _
  have q1 := Lib.hid (hq W1 X1.bl)
  have X1' := Lib.hid X1
  have hW1' := Lib.hid hW1
  clear hW1 X1 h1 h2 hq
  go_enter Tryz.func18, Tryz.ntmps18
  go_wp2_with fail
  rw [← hW1'.out]
  refine q1.out.mono ?_
  rintro e w7 ⟨a7, c7, rfl, hc7, s7, b7, nw7⟩
  have Zd := X1'.out.z3.below b7 X1'.out.z3.lt
  have y0 := Zd.cell 0
  have y1 := Zd.cell 1
  have f0 := Zd.free 0
  have f1 := Zd.free 1
  have hfin := Lib.hid (zone_put (n := nr) (err := E) X1'.out.bl (by omega) X1'.out.z3 hc7 s7 b7 nw7)
  clear Zd
  go_wp2
  exact zone_ret2 hfin.out.1 hfin.out.2.1 _ _ 4 5 rfl rfl rfl rfl
/-- What Join comes to. -/
def joinL (n : Nat) (l1 l2 : List Int) : List Int := if l1 = [] then l2 else if l2 = [] then l1 else closedL n (pw max l1 l2)
theorem zjoin_ok (a1 a2 : Option Addr) (m1 m2 c1 c2 : Nat) (l1 l2 : List Int) (n : Nat) (z1 : IsZ n l1) (z2 : IsZ n l2) (w : World) (h1 : SL w a1 m1 c1 l1) (h2 : SL w a2 m2 c2 l2) : Calls Tryz.prog 18 #[.agg #[.int .i64 n, .slice a1 m1 c1], .agg #[.int .i64 n, .slice a2 m2 c2]] w (ZoneE n (joinL n l1 l2) 0 w) := by
  refine zjoin_of n n _ n 0 a1 a2 m1 m2 c1 c2 l1 l2 w h1 h2 (fun W hW => ?_)
  unfold joinL
  split
  · rename_i e; exact un_join_a a1 a2 m1 m2 c1 c2 l1 l2 n z1 z2 W (h1.below hW) (h2.below hW) e
  · rename_i e
    split
    · rename_i e2; exact un_join_b a1 a2 m1 m2 c1 c2 l1 l2 n z1 z2 W (h1.below hW) (h2.below hW) e e2
    · rename_i e2
      exact un_join_c a1 a2 m1 m2 c1 c2 l1 l2 n z1 z2 W (h1.below hW) (h2.below hW) (z1.2.resolve_left e) (z2.2.resolve_left e2)
theorem zjoin_bad (n1 n2 : Int) (a1 a2 : Option Addr) (m1 m2 c1 c2 : Nat) (l1 l2 : List Int) (w : World) (h1 : SL w a1 m1 c1 l1) (h2 : SL w a2 m2 c2 l2) (hne : twoE n1 l1 n2 l2 ≠ 0) : Calls Tryz.prog 18 #[.agg #[.int .i64 n1, .slice a1 m1 c1], .agg #[.int .i64 n2, .slice a2 m2 c2]] w (ZoneE 0 [] (twoE n1 l1 n2 l2) w) :=
  zjoin_of n1 n2 _ 0 _ a1 a2 m1 m2 c1 c2 l1 l2 w h1 h2 (fun W hW => un_join_bad n1 n2 a1 a2 m1 m2 c1 c2 l1 l2 W (h1.below hW) (h2.below hW) hne)
/-- What Widen comes to. -/
def widenL (n : Nat) (l1 l2 : List Int) : List Int := if l1 = [] then l2 else if l2 = [] then l1 else closedL n (pw wid l1 l2)
def meetL (n : Nat) (l1 l2 : List Int) : List Int := if l1 = [] then [] else if l2 = [] then [] else closedL n (pw min l1 l2)
end Go.Proofs.YtplgmmjppmpnoaaGreatDoor
