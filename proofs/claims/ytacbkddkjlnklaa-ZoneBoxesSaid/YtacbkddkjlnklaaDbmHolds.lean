/- Zones: the document's Holds, Has; Point. -/
import Derived.Test.YtacbkddkjlnklaaDbmHas
namespace Go.Proofs.Ytacbkddkjlnklaa
open Go.RowKit
set_option linter.unusedVariables false
set_option linter.unusedSimpArgs false

def holdsB (l v : List Int) : Bool := decide (l.length = sz v.length) && (!v.any farB && cellsB v.length l v)
/-- The point of j. -/
def pointL (n : Nat) (l : List Int) (j : Nat) : List Int := (List.range n).map fun k => l.getD ((k + 1) * (n + 1) + j) 0 - l.getD j 0
theorem point_step (n : Nat) (l : List Int) (j k : Nat) (hk : k < n) : (pointL n l j).take k ++ [l.getD ((k + 1) * (n + 1) + j) 0 - l.getD j 0] = (pointL n l j).take (k + 1) := by
  have hl : k < (pointL n l j).length := by simp [pointL, hk]
  have e : (pointL n l j)[k] = l.getD ((k + 1) * (n + 1) + j) 0 - l.getD j 0 := by simp [pointL]
  rw [← List.take_append_getElem hl, e]
def PointS (n : Nat) (l : List Int) (j : Nat) (w : World) (e : Ending) (w' : World) : Prop := ∃ a c, e = .returned (.tuple #[.slice a n c, .bool true]) ∧ n ≤ c ∧ Sees .i64 w'.heap.size w' a (pointL n l j) ∧ Below w.heap.size w w'
theorem full_at {n : Nat} {l : List Int} (hF : Full n l) {p : Nat} (hp : p < sz n) : -2199023255552 ≤ l.getD p 0 ∧ l.getD p 0 ≤ 2199023255552 := by
  obtain ⟨q1, q2, q3⟩ := place_of hp
  have e : l.getD p 0 = mat n l (p / (n + 1)) (p % (n + 1)) := by unfold mat; rw [q3]
  have h1 := hF.up q1 q2
  have h2 := hF.low q1 q2
  have h3 := widestF_le (p / (n + 1)) (p % (n + 1))
  have h4 := widestF_le (p % (n + 1)) (p / (n + 1))
  omega
set_option maxRecDepth 100000 in
theorem point_ok (n : Nat) (a : Option Addr) (m c : Nat) (l : List Int) (j : Nat) (hj : j ≤ n) (hF : Full n l) (w : World) (h : SL w a m c l) :
    Calls Try.prog 45 #[.agg #[.int .i64 n, .slice a m c], .int .i64 j] w (PointS n l j w) := by
  obtain ⟨i0, hi, hz0, hz1, hz2⟩ := info_parts infoInt
  obtain ⟨W1, hW1⟩ : ∃ W1, W1 = w.alloc (.cells #[.int .i64 n, .slice a m c] 24) := ⟨_, rfl⟩
  have hB : Below w.heap.size w W1 := by rw [hW1]; exact box_below _ _ _
  have hz : ZH W1 w.heap.size (.int .i64 n) (.slice a m c) := by rw [hW1]; exact Holds.new w _ _
  have hW1' := Lib.hid hW1
  have hB' := Lib.hid hB
  have hz' := Lib.hid hz
  have hsl := Lib.hid (h.below hB)
  have hbd := Lib.hid (bound_any n a m c l 0 j W1 hsl.out)
  have e1 : bndV n l 0 j = l.getD j 0 := by
    unfold bndV
    rw [hF.is, show ((n : Int)).toNat = n by omega, show ((j : Int)).toNat = j by omega, inB_nat hj, show inB n 0 = true from inB_nat (k := 0) (Nat.zero_le _)]
    simp
  have e2 : bndB n l 0 j = true := by
    unfold bndB
    rw [hF.is, show ((n : Int)).toNat = n by omega, inB_nat hj, show inB n 0 = true from inB_nat (k := 0) (Nat.zero_le _)]
    rfl
  rw [e1, e2] at hbd
  have hn := hF.le
  have hs81 := sz_le hn
  have hms : m = sz n := by rw [h.len, hF.len]
  have hms' := Lib.hid hms
  have hn' := Lib.hid hn
  have hd := full_at hF (p := j) (by have := place_lt (n := n) (i := 0) (j := j) (by omega) hj; unfold sz; omega)
  have hat := Lib.hid (fun p (hp : p < sz n) => full_at hF hp)
  have hlen := Lib.hid hF.len
  have hstep := Lib.hid (point_step n l j)
  have hpl : Hid ((pointL n l j).length = n) := Lib.hid (by simp [pointL])
  have hni : (n : Int) ≤ 8 := by omega
  have hji : (j : Int) ≤ 8 := by omega
  have v1 : IntKind.i64.wrap ((n : Int) + 1) = (n : Int) + 1 := wrap_small (by omega) (by omega)
  clear hW1 hB hz h hF e1 e2 hn hms
  unfold PointS
  generalize pointL n l j = R at *
  generalize l.getD j 0 = dn at *
  go_enter Try.func45, Try.ntmps45
  go_wp2_with fail
  rw [← hW1'.out]
  refine hbd.out.mono ?_
  rintro e w1 ⟨rfl, b1⟩
  have hb1 := Lib.hid b1
  have hz1' := Lib.hid (hz'.out.below b1 hz'.out.lt)
  have c0 := hz1'.out.cell 0
  have c1 := hz1'.out.cell 1
  clear b1 hbd
  go_wp2
  go_loopw [8, 20] (fun v x wr => ∃ k : Nat, k ≤ n ∧ x = .int .i64 k ∧ Hid (wr.ownsRow w1.heap.size 3 1 v (R.take k).length (nums .i64 (R.take k))) ∧ Hid (Below w1.heap.size w1 wr)) (fun _ x _ => n - (intOf x).toNat)
  case atStart => exact ⟨0, by omega, rfl, Lib.hid (by rw [List.take_zero]; exact ⟨rfl, .inl ⟨rfl, rfl⟩⟩), Lib.hid (Below.refl _ _)⟩
  case round =>
    clear c0 c1
    obtain ⟨k, hk, rfl, hown, hb⟩ := hrel
    by_cases hlt : k < n
    · have hki : (k : Int) < (n : Int) := by omega
      have hz2' := hz1'.out.below hb.out hz1'.out.lt
      have c0 := hz2'.cell 0
      have c1 := hz2'.cell 1
      obtain ⟨p, q, u1, u2, u3, hq, hqs, -, -, -⟩ := place_wraps (i := k + 1) hn'.out (by omega) hj
      have hqm : (q : Int) < (m : Int) := by have := hms'.out; omega
      obtain ⟨b, off, rfl, -, hc⟩ := sees_at' ((hsl.out.below hb1.out).below hb.out).sees (i := q) (by have := hlen.out; omega)
      have hx := hat.out q hqs
      have hnx : Hid (R.take k ++ [l.getD q 0 - dn] = R.take (k + 1)) := Lib.hid (by rw [hq]; exact hstep.out k hlt)
      have hku : ((k + 1 : Nat) : Int) = (k : Int) + 1 := by omega
      rw [hku] at u2
      have ku : IntKind.i64.wrap ((k : Int) + 1) = (k : Int) + 1 := wrap_small (by omega) (by omega)
      clear hq hqs hku hz2'
      generalize l.getD q 0 = x at *
      have hw : IntKind.i64.wrap (x - dn) = x - dn := wrap_small (by omega) (by omega)
      have hrl : (R.take k).length ≤ 8 := by have := hpl.out; rw [List.length_take]; omega
      go_wp2_with (at_builtin; refine wpList_append1 _ rfl _ _ 22 rfl w1 3 i0 (.int .i64 0) 8 Try.underlying22 hi hz0 hz1 hz2 rfl .i64 (x - dn) _ _ hown.out hb.out rfl rfl (by omega) (by omega) ?_; intro v' w' hown2 hb2; have hown2' := Lib.hid hown2; have hb2' := Lib.hid hb2; clear hown2 hb2)
      go_roundw
      case rel => exact ⟨k + 1, by omega, by go_num, by rw [← hnx.out]; exact hown2', hb2'⟩
      case measure => simp [intOf]; omega
    · have hke : k = n := by omega
      have htk : R.take k = R := by rw [hke]; exact List.take_of_length_le (by rw [hpl.out]; exact Nat.le_refl _)
      have hw := hown.out
      rw [htk] at hw
      obtain ⟨a5, c5, hv, -, hs⟩ := sees_own hw
      rw [hpl.out] at hv
      subst hv
      have hcap := own_cap hw
      have hs' := Lib.hid hs
      have hbb := Lib.hid (hb1.out.trans (hb.out.mono hb1.out.size))
      clear hown hw hs htk
      go_wp2
      go_ret2
      exact ⟨a5, c5, rfl, hcap, hs'.out, hB'.out.trans (hbb.out.mono hB'.out.size)⟩
theorem point_no (n : Int) (a : Option Addr) (m c : Nat) (l : List Int) (j : Int) (hno : bndB n l 0 j = false) (w : World) (h : SL w a m c l) :
    Calls Try.prog 45 #[.agg #[.int .i64 n, .slice a m c], .int .i64 j] w (Gives (.tuple #[.slice none 0 0, .bool false]) w) := by
  obtain ⟨W1, hW1⟩ : ∃ W1, W1 = w.alloc (.cells #[.int .i64 n, .slice a m c] 24) := ⟨_, rfl⟩
  have hB : Below w.heap.size w W1 := by rw [hW1]; exact box_below _ _ _
  have hW1' := Lib.hid hW1
  have hB' := Lib.hid hB
  have hbd := Lib.hid (bound_any n a m c l 0 j W1 (h.below hB))
  rw [hno] at hbd
  clear hW1 hB h hno
  generalize bndV n l 0 j = x at *
  go_enter Try.func45, Try.ntmps45
  go_wp2_with fail
  rw [← hW1'.out]
  refine hbd.out.mono ?_
  rintro e w1 ⟨rfl, b1⟩
  have hb1 := Lib.hid (hB'.out.trans (b1.mono hB'.out.size))
  go_wp2
  go_ret2
  exact ⟨rfl, hb1.out⟩
end Go.Proofs.Ytacbkddkjlnklaa
