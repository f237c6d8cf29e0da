/- Zones: full, Empty, Bound, Large. -/
import Derived.Test.YtacbkddkjlnklaaDbmCheck
namespace Go.Proofs.Ytacbkddkjlnklaa
open Go.RowKit
set_option linter.unusedVariables false
set_option linter.unusedSimpArgs false

def fullB (n : Int) (l : List Int) : Bool := !decide (l = []) && checkB n l
def emptyB (n : Int) (l : List Int) : Bool := decide (l = []) && checkB n l
theorem full_any (n : Int) (a : Option Addr) (m c : Nat) (l : List Int) (w : World) (h : SL w a m c l) :
    Calls Try.prog 71 #[.agg #[.int .i64 n, .slice a m c]] w (Gives (.bool (fullB n l)) w) := by
  have hB := box_below w #[.int .i64 n, .slice a m c] 24
  have hc := Lib.hid (dcheck_any n a m c l _ (h.below hB))
  have hB' := Lib.hid hB
  have hmx := h.max
  by_cases h0 : l = []
  · subst h0
    have hm : m = 0 := h.len
    subst hm
    have e : fullB n [] = false := rfl
    rw [e]
    clear hB h hc
    go_enter Try.func71, Try.ntmps71
    go_wp2
    go_ret
    exact ⟨rfl, hB'.out⟩
  · have hm := len_pos h0 h.len
    have e1 : ((m : Int) != 0) = true := by simp; omega
    have e0 : ((m : Int) == 0) = false := by simp; omega
    have e2 : ¬ (m : Int) = 0 := by omega
    have hr : Hid (fullB n l = checkB n l) := Lib.hid (by unfold fullB; simp [h0])
    have hk := Lib.hid (chk_or n l)
    clear hB h hm h0
    generalize fullB n l = R at *
    generalize chk n l = E at *
    generalize checkB n l = y at *
    have hr2 := hr.out
    subst hr2
    go_enter Try.func71, Try.ntmps71
    go_wp2_with fail
    refine hc.out.mono ?_
    rintro e w1 ⟨rfl, b1⟩
    have hb1 := Lib.hid (hB'.out.trans (b1.mono hB'.out.size))
    rcases hk.out with ⟨rfl, rfl⟩ | ⟨rfl, rfl⟩
    · go_wp2
      go_ret
      exact ⟨rfl, hb1.out⟩
    · go_wp2
      go_ret
      exact ⟨rfl, hb1.out⟩
theorem empty_any (n : Int) (a : Option Addr) (m c : Nat) (l : List Int) (w : World) (h : SL w a m c l) :
    Calls Try.prog 36 #[.agg #[.int .i64 n, .slice a m c]] w (Gives (.bool (emptyB n l)) w) := by
  have hB := box_below w #[.int .i64 n, .slice a m c] 24
  have hc := Lib.hid (dcheck_any n a m c l _ (h.below hB))
  have hB' := Lib.hid hB
  have hmx := h.max
  by_cases h0 : l = []
  · have hm : m = 0 := by rw [h.len, h0]; rfl
    subst hm
    have hr : Hid (emptyB n l = checkB n l) := Lib.hid (by unfold emptyB; simp [h0])
    have hk := Lib.hid (chk_or n l)
    clear hB h h0
    generalize emptyB n l = R at *
    generalize chk n l = E at *
    generalize checkB n l = y at *
    have hr2 := hr.out
    subst hr2
    go_enter Try.func36, Try.ntmps36
    go_wp2_with fail
    refine hc.out.mono ?_
    rintro e w1 ⟨rfl, b1⟩
    have hb1 := Lib.hid (hB'.out.trans (b1.mono hB'.out.size))
    rcases hk.out with ⟨rfl, rfl⟩ | ⟨rfl, rfl⟩
    · go_wp2
      go_ret
      exact ⟨rfl, hb1.out⟩
    · go_wp2
      go_ret
      exact ⟨rfl, hb1.out⟩
  · have hm := len_pos h0 h.len
    have e0 : ((m : Int) == 0) = false := by simp; omega
    have e2 : ¬ (m : Int) = 0 := by omega
    have e : emptyB n l = false := by unfold emptyB; rw [decide_eq_false h0, Bool.false_and]
    rw [e]
    clear hB h hm h0 hc e
    go_enter Try.func36, Try.ntmps36
    go_wp2
    go_ret
    exact ⟨rfl, hB'.out⟩
theorem large_any (a : Option Addr) (m c : Nat) (hm : m ≤ 9223372036854775807) (w : World) : Calls Try.prog 9 #[.slice a m c] w (Tells (.bool (decide (200 < (m : Int)))) w) := by
  go_enter Try.func9, Try.ntmps9
  go_wp2
  go_ret
  exact ⟨rfl, rfl⟩
/-- A zone that has valuations. -/
structure Full (n : Nat) (l : List Int) : Prop where
  le : n ≤ 8
  len : l.length = sz n
  ne : l ≠ []
  fix : l = closedL n l
theorem full_of {n : Int} {l : List Int} (h : fullB n l = true) : ∃ k : Nat, n = k ∧ Full k l := by
  unfold fullB at h
  rw [Bool.and_eq_true] at h
  have h0 : l ≠ [] := by intro e; rw [e] at h; simp at h
  have hm : mayB n = true := by
    cases q : mayB n
    · rw [checkB_no q] at h; simp at h
    · rfl
  obtain ⟨k, rfl, hk⟩ := mayB_of hm
  by_cases hl : l.length = sz k
  · rw [checkB_sz hk h0 hl] at h
    exact ⟨k, rfl, hk, hl, h0, of_decide_eq_true h.2⟩
  · rw [checkB_len h0 hl] at h
    simp at h
theorem Full.is {n : Nat} {l : List Int} (h : Full n l) : fullB n l = true := by
  unfold fullB
  rw [decide_eq_false h.ne, checkB_sz h.le h.ne h.len, decide_eq_true h.fix]
  rfl
theorem Full.closed {n : Nat} {l : List Int} (h : Full n l) : Closed n (mat n l) := by
  have := (closedL_is (n := n) (M := l) (by rw [← h.fix]; exact h.ne)).2.1
  rwa [← h.fix] at this
theorem Full.up {n : Nat} {l : List Int} (h : Full n l) {i j : Nat} (hi : i ≤ n) (hj : j ≤ n) : mat n l i j ≤ widestF i j := by
  have := closedL_widest (n := n) (M := l) (by rw [← h.fix]; exact h.ne) hi hj
  rwa [← h.fix] at this
theorem Full.low {n : Nat} {l : List Int} (h : Full n l) {i j : Nat} (hi : i ≤ n) (hj : j ≤ n) : -(widestF j i) ≤ mat n l i j := by
  have h1 := h.closed.tri i i j hi hi hj
  rw [h.closed.zero i hi] at h1
  have := h.up hj hi
  omega
def boundV (n : Nat) (l : List Int) (i j : Int) : Int × Bool := if fullB n l && inB n i && inB n j then (l.getD (i.toNat * (n + 1) + j.toNat) 0, true) else (0, false)
theorem inB_of {n : Nat} {i : Int} (h : inB n i = true) : ∃ k : Nat, i = k ∧ k ≤ n := by
  unfold inB at h
  rw [Bool.and_eq_true, decide_eq_true_eq, decide_eq_true_eq] at h
  exact ⟨i.toNat, by omega, by omega⟩
theorem inB_nat {n k : Nat} (h : k ≤ n) : inB n (k : Int) = true := by unfold inB; simp; omega
/-- What Bound tells. -/
def bndV (n : Int) (l : List Int) (i j : Int) : Int := if fullB n l && inB n.toNat i && inB n.toNat j then l.getD (i.toNat * (n.toNat + 1) + j.toNat) 0 else 0
def bndB (n : Int) (l : List Int) (i j : Int) : Bool := fullB n l && inB n.toNat i && inB n.toNat j
set_option maxRecDepth 100000 in
theorem bound_any (n : Int) (a : Option Addr) (m c : Nat) (l : List Int) (i j : Int) (w : World) (h : SL w a m c l) :
    Calls Try.prog 44 #[.agg #[.int .i64 n, .slice a m c], .int .i64 i, .int .i64 j] w (Gives (.tuple #[.int .i64 (bndV n l i j), .bool (bndB n l i j)]) w) := by
  obtain ⟨W1, hW1⟩ : ∃ W1, W1 = w.alloc (.cells #[.int .i64 n, .slice a m c] 24) := ⟨_, rfl⟩
  have hB : Below w.heap.size w W1 := by rw [hW1]; exact box_below _ _ _
  have hz : ZH W1 w.heap.size (.int .i64 n) (.slice a m c) := by rw [hW1]; exact Holds.new w _ _
  have hW1' := Lib.hid hW1
  have hB' := Lib.hid hB
  have hz' := Lib.hid hz
  have hsl := Lib.hid (h.below hB)
  have hful := Lib.hid (full_any n a m c l W1 hsl.out)
  clear hW1 hB hz h
  unfold bndV bndB
  cases hf : fullB n l
  · rw [hf] at hful
    simp only [Bool.false_and, Bool.false_eq_true, if_false]
    clear hf
    go_enter Try.func44, Try.ntmps44
    go_wp2_with fail
    rw [← hW1'.out]
    refine hful.out.mono ?_
    rintro e w1 ⟨rfl, b1⟩
    have hb1 := Lib.hid (hB'.out.trans (b1.mono hB'.out.size))
    go_wp2
    go_ret2
    exact ⟨rfl, hb1.out⟩
  · rw [hf] at hful
    obtain ⟨n, rfl, hF⟩ := full_of hf
    have en : ((n : Int)).toNat = n := by omega
    rw [en, Bool.true_and]
    have hF' := Lib.hid hF
    have hn := hF.le
    clear hf hF en
    have hin := Lib.hid (fun i W (hW : Below W1.heap.size W1 W) => in_any w.heap.size n i W (((hz'.out.below hW hz'.out.lt).cell 0)))
    have hz2 : Hid (∀ W, Below W1.heap.size W1 W → W.cell? ⟨w.heap.size, 0, none⟩ = some (.int .i64 n) ∧ W.cell? ⟨w.heap.size, 1, none⟩ = some (.slice a m c)) := Lib.hid (fun W hW => ⟨(hz'.out.below hW hz'.out.lt).cell 0, (hz'.out.below hW hz'.out.lt).cell 1⟩)
    cases hi : inB n i
    · simp only [Bool.false_and, Bool.false_eq_true, if_false]
      go_enter Try.func44, Try.ntmps44
      go_wp2_with fail
      rw [← hW1'.out]
      refine hful.out.mono ?_
      rintro e w1 ⟨rfl, b1⟩
      have hb1 := Lib.hid (hB'.out.trans (b1.mono hB'.out.size))
      have hin2 := Lib.hid (hin.out i w1 b1)
      rw [hi] at hin2
      clear hin hi
      go_wp2_with fail
      refine hin2.out.mono ?_
      rintro e w2 ⟨rfl, rfl⟩
      go_wp2
      go_ret2
      exact ⟨rfl, hb1.out⟩
    · simp only [Bool.true_and]
      cases hj : inB n j
      · simp only [Bool.false_eq_true, if_false]
        go_enter Try.func44, Try.ntmps44
        go_wp2_with fail
        rw [← hW1'.out]
        refine hful.out.mono ?_
        rintro e w1 ⟨rfl, b1⟩
        have hb1 := Lib.hid (hB'.out.trans (b1.mono hB'.out.size))
        have hin2 := Lib.hid (hin.out i w1 b1)
        have hin3 := Lib.hid (hin.out j w1 b1)
        rw [hi] at hin2
        rw [hj] at hin3
        clear hin hi hj
        go_wp2_with fail
        refine hin2.out.mono ?_
        rintro e w2 ⟨rfl, rfl⟩
        go_wp2_with fail
        refine hin3.out.mono ?_
        rintro e w2 ⟨rfl, rfl⟩
        go_wp2
        go_ret2
        exact ⟨rfl, hb1.out⟩
      · simp only [if_true]
        have hi2 := hi
        have hj2 := hj
        obtain ⟨i, rfl, hin'⟩ := inB_of hi
        obtain ⟨j, rfl, hjn'⟩ := inB_of hj
        have ei : ((i : Int)).toNat = i := by omega
        have ej : ((j : Int)).toNat = j := by omega
        rw [ei, ej]
        clear ei ej hi hj
        obtain ⟨p, q, w1, w2, w3, hq, hqs, -, -, -⟩ := place_wraps hn hin' hjn'
        rw [← hq]
        have hlm : m = sz n := by rw [hsl.out.len, hF'.out.len]
        have hqm : (q : Int) < (m : Int) := by omega
        obtain ⟨b, off, rfl, hbl, hc0⟩ := sees_at' hsl.out.sees (i := q) (by rw [hF'.out.len]; exact hqs)
        have hcc : Hid (∀ W, Below W1.heap.size W1 W → W.cell? ⟨b, off + q, none⟩ = some (.int .i64 (l.getD q 0))) := Lib.hid (fun W hW => (hW.cell (p := ⟨b, off + q, none⟩) hbl).trans hc0)
        clear hq hqs hlm hbl hc0
        generalize l.getD q 0 = x at *
        go_enter Try.func44, Try.ntmps44
        go_wp2_with fail
        rw [← hW1'.out]
        refine hful.out.mono ?_
        rintro e w1 ⟨rfl, b1⟩
        have hb1 := Lib.hid (hB'.out.trans (b1.mono hB'.out.size))
        have hin2 := Lib.hid (hin.out i w1 b1)
        have hin3 := Lib.hid (hin.out j w1 b1)
        have hcc1 := hcc.out w1 b1
        obtain ⟨z0, z1⟩ := hz2.out w1 b1
        rw [hi2] at hin2
        rw [hj2] at hin3
        clear hin hi2 hj2 hcc hz2
        go_wp2_with fail
        refine hin2.out.mono ?_
        rintro e w2 ⟨rfl, rfl⟩
        go_wp2_with fail
        refine hin3.out.mono ?_
        rintro e w2 ⟨rfl, rfl⟩
        go_wp2
        go_ret2
        exact ⟨rfl, hb1.out⟩
end Go.Proofs.Ytacbkddkjlnklaa
