/- DbmTight: the walk of the statement's function. -/
import Derived.Test.YtacbkddkjlnklaaDbmLawCloses
namespace Go.Proofs.Ytacbkddkjlnklaa
open Go.RowKit
set_option linter.unusedVariables false
set_option linter.unusedSimpArgs false

theorem bound_full {n : Nat} {l : List Int} (hF : Full n l) {i j : Nat} (hi : i ≤ n) (hj : j ≤ n) (a : Option Addr) (m c : Nat) (w : World) (h : SL w a m c l) :
    Calls Try.prog 44 #[.agg #[.int .i64 n, .slice a m c], .int .i64 i, .int .i64 j] w (Gives (.tuple #[.int .i64 (mat n l i j), .bool true]) w) := by
  have hb := bound_any n a m c l i j w h
  have e0 : (fullB n l && inB ((n : Int)).toNat i && inB ((n : Int)).toNat j) = true := by
    rw [hF.is, show ((n : Int)).toNat = n by omega, inB_nat hi, inB_nat hj]; rfl
  have e1 : bndV n l i j = mat n l i j := by
    unfold bndV mat
    rw [e0, show ((n : Int)).toNat = n by omega, show ((i : Int)).toNat = i by omega, show ((j : Int)).toNat = j by omega]
    rfl
  have e2 : bndB n l i j = true := by unfold bndB; exact e0
  rwa [e1, e2] at hb
theorem point_at {n : Nat} {l : List Int} (hF : Full n l) {i j : Nat} (hi : i ≤ n) (hj : j ≤ n) : valF (pointL n l j) i = mat n l i j - mat n l 0 j := by
  unfold valF mat
  split
  · rename_i e; subst e; simp
  · have h : i - 1 < n := by omega
    unfold pointL
    simp [List.getD, h]
    rw [show i - 1 + 1 = i by omega]
theorem point_len (n : Nat) (l : List Int) (j : Nat) : (pointL n l j).length = n := by simp [pointL]
theorem point_near {n : Nat} {l : List Int} (hF : Full n l) {j : Nat} (hj : j ≤ n) : (pointL n l j).any farB = false := by
  rw [List.any_eq_false]
  intro x hx
  obtain ⟨k, hk, rfl⟩ := List.getElem_of_mem hx
  rw [point_len] at hk
  have h1 := point_at hF (i := k + 1) (by omega) hj
  unfold valF at h1
  rw [if_neg (by omega)] at h1
  have h2 : (pointL n l j)[k]'(by rw [point_len]; exact hk) = mat n l (k + 1) j - mat n l 0 j := by
    simpa [List.getD, point_len, hk] using h1
  rw [h2]
  have t1 := hF.closed.tri (k + 1) j 0 (by omega) hj (by omega)
  have t2 := hF.closed.tri 0 j (k + 1) (by omega) hj (by omega)
  have u1 := hF.up (i := k + 1) (j := 0) (by omega) (by omega)
  have u2 := hF.up (i := 0) (j := k + 1) (by omega) (by omega)
  have e1 : widestF (k + 1) 0 = 1099511627776 := by unfold widestF; rw [if_neg (by omega), if_pos (.inr rfl)]
  have e2 : widestF 0 (k + 1) = 1099511627776 := by unfold widestF; rw [if_neg (by omega), if_pos (.inl rfl)]
  unfold farB
  simp
  omega
theorem point_has {n : Nat} {l : List Int} (hF : Full n l) {j : Nat} (hj : j ≤ n) : hasB n l (pointL n l j) = true := by
  have ht : (((n : Nat) : Int)).toNat = n := by omega
  unfold hasB
  rw [hF.is, point_len, ht, point_near hF hj, decide_eq_true rfl, Bool.true_and, Bool.true_and, Bool.not_false, Bool.true_and, cells_iff]
  intro a b ha hb
  unfold difF
  rw [point_at hF ha hj, point_at hF hb hj]
  have := hF.closed.tri a j b ha hj hb
  omega
theorem point_holds {n : Nat} (hn : n ≤ 8) {m : List Int} (hm : m.length = sz n) {j : Nat} (hj : j ≤ n) (hR : closedL n m ≠ []) : holdsB m (pointL n (closedL n m) j) = true := by
  have hF := closed_full hn hR
  have h1 := has_holds (m := m) (v := pointL n (closedL n m) j) (by rw [point_len]; exact hn) (by rw [point_len]; exact hm)
  rw [point_len] at h1
  rw [← h1]
  exact point_has hF hj
/-- What the loops of DbmTight find. -/
structure Tg (w W : World) (g : Nat) (n : Nat) (a : Option Addr) (m c : Nat) (R : List Int) (aq : Option Addr) (nq cq : Nat) (Q : List Int) : Prop where
  bl : Below w.heap.size w W
  z : ZH W g (.int .i64 n) (.slice a m c)
  s : SL W a m c R
  q : SL W aq nq cq Q
theorem Tg.on {w W W' : World} {g n : Nat} {a : Option Addr} {m c : Nat} {R : List Int} {aq : Option Addr} {nq cq : Nat} {Q : List Int} (h : Tg w W g n a m c R aq nq cq Q) (hb : Below W.heap.size W W') : Tg w W' g n a m c R aq nq cq Q :=
  ⟨h.bl.trans (hb.mono h.bl.size), h.z.below hb h.z.lt, h.s.below hb, h.q.below hb⟩
theorem gives_of_reads {v : Value} {w : World} {e : Ending} {w' : World} (h : ReadsV v w e w') : Gives v w e w' := by
  obtain ⟨he, m, rfl⟩ := h
  exact ⟨he, Below.drewN (Below.refl _ _) m⟩
end Go.Proofs.Ytacbkddkjlnklaa
