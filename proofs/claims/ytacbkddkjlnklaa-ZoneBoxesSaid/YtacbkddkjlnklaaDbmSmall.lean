/- Zones: the small functions. -/
import Derived.Test.YtacbkddkjlnklaaDbmMath
import Derived.Test.YtacbkddkjlnklaaRows
import Derived.IntWalk
import Derived.Test.YtacbkddkjlnklaaKit2
import Derived.Test.YtacbkddkjlnklaaMem
import Derived.Test.YtacbkddkjlnklaaDrawn
import Derived.Deep.QuietTactic
import Derived.BigQuiet
namespace Go.Proofs.Ytacbkddkjlnklaa
open Go.RowKit
set_option linter.unusedVariables false
set_option linter.unusedSimpArgs false

/-- What only reads. -/
def Tells (v : Value) (w : World) (e : Ending) (w' : World) : Prop := e = .returned v ∧ w = w'
def mayB (n : Int) : Bool := decide (0 ≤ n) && decide (n ≤ 8)
theorem may_any (n : Int) (w : World) : Calls Try.prog 88 #[.int .i64 n] w (Tells (.bool (mayB n)) w) := by
  unfold mayB
  by_cases h0 : 0 ≤ n
  · have d0 : decide (0 ≤ n) = true := decide_eq_true h0
    rw [d0, Bool.true_and]
    go_enter Try.func88, Try.ntmps88
    go_wp2
    go_ret
    exact ⟨rfl, rfl⟩
  · have d0 : decide (0 ≤ n) = false := decide_eq_false h0
    rw [d0, Bool.false_and]
    go_enter Try.func88, Try.ntmps88
    go_wp2
    go_ret
    exact ⟨rfl, rfl⟩
theorem vars_any (n : Int) (w : World) : Calls Try.prog 64 #[.int .i64 n] w (Tells (.bool (mayB n)) w) := by
  unfold mayB
  by_cases h0 : 0 ≤ n
  · have d0 : decide (0 ≤ n) = true := decide_eq_true h0
    rw [d0, Bool.true_and]
    go_enter Try.func64, Try.ntmps64
    go_wp2
    go_ret
    exact ⟨rfl, rfl⟩
  · have d0 : decide (0 ≤ n) = false := decide_eq_false h0
    rw [d0, Bool.false_and]
    go_enter Try.func64, Try.ntmps64
    go_wp2
    go_ret
    exact ⟨rfl, rfl⟩
/-- As many numbers as a matrix of n variables has. -/
def sz (n : Nat) : Nat := (n + 1) * (n + 1)
theorem sz_le {n : Nat} (hn : n ≤ 8) : sz n ≤ 81 := by
  unfold sz
  exact Nat.le_trans (Nat.mul_le_mul (show n + 1 ≤ 9 by omega) (show n + 1 ≤ 9 by omega)) (by decide)
theorem sz_int (n : Nat) : ((n : Int) + 1) * ((n : Int) + 1) = (sz n : Nat) := by unfold sz; rw [Int.natCast_mul]; rfl
theorem size_any (n : Nat) (hn : n ≤ 8) (w : World) : Calls Try.prog 90 #[.int .i64 n] w (Tells (.int .i64 (sz n)) w) := by
  have h1 := sz_int n
  have h2 := sz_le hn
  generalize sz n = s at *
  have hni : (n : Int) ≤ 8 := by omega
  have hsi : (s : Int) ≤ 81 := by omega
  go_enter Try.func90, Try.ntmps90
  go_wp2
  go_ret
  exact ⟨rfl, rfl⟩
theorem widest_any (i j : Nat) (hi : i ≤ 100) (hj : j ≤ 100) (w : World) : Calls Try.prog 89 #[.int .i64 i, .int .i64 j] w (Tells (.int .i64 (widestF i j)) w) := by
  unfold widestF
  by_cases h : i = j
  · subst h
    rw [if_pos rfl]
    go_enter Try.func89, Try.ntmps89
    go_wp2
    go_ret
    exact ⟨rfl, rfl⟩
  rw [if_neg h]
  have hn : ((i : Int) == (j : Int)) = false := by simp; omega
  have hn2 : ¬ (i : Int) = (j : Int) := by omega
  by_cases h0 : i = 0
  · subst h0
    rw [if_pos (.inl rfl)]
    have hj1 : ¬ (0 : Int) = (j : Int) := by simpa using hn2
    go_enter Try.func89, Try.ntmps89
    go_wp2
    go_ret
    exact ⟨rfl, rfl⟩
  have hi1 : ((i : Int) == 0) = false := by simp; omega
  have hi2 : ¬ (i : Int) = 0 := by omega
  by_cases h1 : j = 0
  · subst h1
    rw [if_pos (.inr rfl)]
    go_enter Try.func89, Try.ntmps89
    go_wp2
    go_ret
    exact ⟨rfl, rfl⟩
  have hj1 : ((j : Int) == 0) = false := by simp; omega
  have hj2 : ¬ (j : Int) = 0 := by omega
  rw [if_neg (by omega)]
  go_enter Try.func89, Try.ntmps89
  go_wp2
  go_ret
  exact ⟨rfl, rfl⟩
theorem far_any (i j : Nat) (hi : i ≤ 100) (hj : j ≤ 100) (w : World) : Calls Try.prog 94 #[.int .i64 i, .int .i64 j] w (Tells (.int .i64 (widestF i j)) w) := by
  unfold widestF
  by_cases h : i = j
  · subst h
    rw [if_pos rfl]
    go_enter Try.func94, Try.ntmps94
    go_wp2
    go_ret
    exact ⟨rfl, rfl⟩
  rw [if_neg h]
  have hn : ((i : Int) == (j : Int)) = false := by simp; omega
  have hn2 : ¬ (i : Int) = (j : Int) := by omega
  by_cases h0 : i = 0
  · subst h0
    rw [if_pos (.inl rfl)]
    have hj1 : ¬ (0 : Int) = (j : Int) := by simpa using hn2
    go_enter Try.func94, Try.ntmps94
    go_wp2
    go_ret
    exact ⟨rfl, rfl⟩
  have hi1 : ((i : Int) == 0) = false := by simp; omega
  have hi2 : ¬ (i : Int) = 0 := by omega
  by_cases h1 : j = 0
  · subst h1
    rw [if_pos (.inr rfl)]
    go_enter Try.func94, Try.ntmps94
    go_wp2
    go_ret
    exact ⟨rfl, rfl⟩
  have hj1 : ((j : Int) == 0) = false := by simp; omega
  have hj2 : ¬ (j : Int) = 0 := by omega
  rw [if_neg (by omega)]
  go_enter Try.func94, Try.ntmps94
  go_wp2
  go_ret
  exact ⟨rfl, rfl⟩
theorem sum_any (a b : Int) (h1 : -4611686018427387904 ≤ a) (h2 : a ≤ 4611686018427387903) (h3 : -4611686018427387904 ≤ b) (h4 : b ≤ 4611686018427387903) (w : World) : Calls Try.prog 97 #[.int .i64 a, .int .i64 b] w (Tells (.int .i64 (a + b)) w) := by
  go_enter Try.func97, Try.ntmps97
  go_wp2
  go_ret
  exact ⟨rfl, rfl⟩
def farB (x : Int) : Bool := decide (1099511627776 < x) || decide (x < -1099511627776)
theorem farB_any (x : Int) (w : World) : Calls Try.prog 70 #[.int .i64 x] w (Tells (.bool (farB x)) w) := by
  unfold farB
  by_cases h0 : 1099511627776 < x
  · have d0 : decide (1099511627776 < x) = true := decide_eq_true h0
    rw [d0, Bool.true_or]
    go_enter Try.func70, Try.ntmps70
    go_wp2
    go_ret
    exact ⟨rfl, rfl⟩
  · have d0 : decide (1099511627776 < x) = false := decide_eq_false h0
    rw [d0, Bool.false_or]
    go_enter Try.func70, Try.ntmps70
    go_wp2
    go_ret
    exact ⟨rfl, rfl⟩
/-- The value of x_i. -/
def valF (v : List Int) (i : Nat) : Int := if i = 0 then 0 else v.getD (i - 1) 0
theorem sees_at' {B : Nat} {w : World} {a : Option Addr} {l : List Int} (h : Sees .i64 B w a l) {i : Nat} (hi : i < l.length) : ∃ b off, a = some ⟨b, off, none⟩ ∧ b < B ∧ w.cell? ⟨b, off + i, none⟩ = some (.int .i64 (l.getD i 0)) := by
  rcases h with h | ⟨b, off, ha, hB, hc⟩
  · rw [h] at hi; simp at hi
  · exact ⟨b, off, ha, hB, hc i hi⟩
theorem value_any (a : Option Addr) (v : List Int) (n c : Nat) (hn : n = v.length) (hl : n ≤ 1000) (i : Nat) (hi : i ≤ n) (B : Nat) (w : World) (h : Sees .i64 B w a v) : Calls Try.prog 75 #[.slice a n c, .int .i64 i] w (Tells (.int .i64 (valF v i)) w) := by
  unfold valF
  by_cases h0 : i = 0
  · subst h0
    rw [if_pos rfl]
    go_enter Try.func75, Try.ntmps75
    go_wp2
    go_ret
    exact ⟨rfl, rfl⟩
  · rw [if_neg h0]
    obtain ⟨k, rfl⟩ : ∃ k, i = k + 1 := ⟨i - 1, by omega⟩
    rw [Nat.add_sub_cancel]
    obtain ⟨b, off, rfl, -, hc⟩ := sees_at' h (i := k) (by omega)
    have hkn : k < n := by omega
    have hki : (k : Int) ≤ 1000 := by omega
    clear h hn
    generalize v.getD k 0 = x at *
    go_enter Try.func75, Try.ntmps75
    go_wp2
    go_ret
    exact ⟨rfl, rfl⟩
def inB (n : Nat) (i : Int) : Bool := decide (0 ≤ i) && decide (i ≤ (n : Int))
theorem in_any (g n : Nat) (i : Int) (w : World) (hg : w.cell? ⟨g, 0, none⟩ = some (.int .i64 n)) : Calls Try.prog 78 #[.int .i64 i, .pointer (some ⟨g, 0, none⟩)] w (Tells (.bool (inB n i)) w) := by
  unfold inB
  by_cases h0 : 0 ≤ i
  · have d0 : decide (0 ≤ i) = true := decide_eq_true h0
    rw [d0, Bool.true_and]
    go_enter Try.func78, Try.ntmps78
    go_wp2
    go_ret
    exact ⟨rfl, rfl⟩
  · have d0 : decide (0 ≤ i) = false := decide_eq_false h0
    rw [d0, Bool.false_and]
    go_enter Try.func78, Try.ntmps78
    go_wp2
    go_ret
    exact ⟨rfl, rfl⟩
theorem ite_min (x y : Int) : (if y < x then y else x) = min x y := by split <;> omega
theorem ite_max (x y : Int) : (if x < y then y else x) = max x y := by split <;> omega
theorem wrap_small {x : Int} (h0 : -9223372036854775808 ≤ x) (h1 : x ≤ 9223372036854775807) : IntKind.i64.wrap x = x := by rw [IntKind.wrap_i64]; omega
/-- A place of a matrix, as it is reckoned. -/
theorem place_wraps {n i j : Nat} (hn : n ≤ 8) (hi : i ≤ n) (hj : j ≤ n) : ∃ p q : Nat, IntKind.i64.wrap ((n : Int) + 1) = (n : Int) + 1 ∧ IntKind.i64.wrap ((i : Int) * ((n : Int) + 1)) = (p : Int) ∧ IntKind.i64.wrap ((p : Int) + (j : Int)) = (q : Int) ∧ q = i * (n + 1) + j ∧ q < sz n ∧ q ≤ 80 ∧ (i : Int) * ((n : Int) + 1) = (p : Int) ∧ (p : Int) + (j : Int) = (q : Int) := by
  have hlt := place_lt hi hj
  have h2 := sz_le hn
  unfold sz at *
  have hpi : (i : Int) * ((n : Int) + 1) = ((i * (n + 1) : Nat) : Int) := by rw [Int.natCast_mul]; rfl
  generalize i * (n + 1) = p at *
  refine ⟨p, p + j, wrap_small (by omega) (by omega), ?_, wrap_small (by omega) (by omega), rfl, hlt, by omega, hpi, rfl⟩
  rw [hpi]
  exact wrap_small (by omega) (by omega)
/-- A number of a matrix, clipped. -/
theorem clip_any (gm gn : Nat) (a : Option Addr) (M : List Int) (len c n : Nat) (hn : n ≤ 8) (hM : len = M.length) (hl : len = sz n) (i j : Nat) (hi : i ≤ n) (hj : j ≤ n) (B : Nat) (w : World) (h : Sees .i64 B w a M)
    (hgm : w.cell? ⟨gm, 0, none⟩ = some (.slice a len c)) (hgn : w.cell? ⟨gn, 0, none⟩ = some (.int .i64 n)) :
    Calls Try.prog 95 #[.int .i64 i, .int .i64 j, .pointer (some ⟨gm, 0, none⟩), .pointer (some ⟨gn, 0, none⟩)] w fun e w' => e = .returned (.int .i64 (clipF n M i j)) ∧ ∃ m, w' = w.drewN m := by
  have hw := Lib.hid (fun m => widest_any i j (by omega) (by omega) (w.drewN m))
  obtain ⟨p, q, w1, w2, w3, hq, hqs, -, -, -⟩ := place_wraps hn hi hj
  unfold clipF mat
  rw [← hq]
  have hqn : q < len := by omega
  obtain ⟨b, off, rfl, -, hc⟩ := sees_at' h (i := q) (by omega)
  have hin : (q : Int) < (len : Int) := by omega
  clear h hM hl hqs hq hi hj
  generalize M.getD q 0 = x at *
  generalize widestF i j = y at *
  go_enter Try.func95, Try.ntmps95
  go_wp2
  go_quiet ((go_at_call 89; exact quiet_mine (hw.out _)))
  simp only [ite_min, ite_max]
  go_wp2
  go_ret
  exact ⟨rfl, nq, rfl⟩
end Go.Proofs.Ytacbkddkjlnklaa
