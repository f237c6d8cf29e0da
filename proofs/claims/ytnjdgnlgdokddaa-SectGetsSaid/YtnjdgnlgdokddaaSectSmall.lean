/- sect: follows, unless, tagOf, the closures of check, Find and Same, what of package slices and bytes they are handed to. -/
import Derived.Test.YtnjdgnlgdokddaaSectData
import Derived.IntWalk
namespace Go.Proofs.Ytnjdgnlgdokddaa
open Go.RowKit
set_option linter.unusedVariables false
set_option linter.unusedSimpArgs false

theorem follows_any (a t : Int) (w : World) : Calls Try.prog 43 #[.int .i64 a, .int .i64 t] w fun e w' => e = .returned (.bool (decide (a < t) && decide (t ≤ 255))) ∧ w = w' := by
  by_cases h : a < t
  · go_enter Try.func43, Try.ntmps43
    go_wp2
    go_ret
    exact ⟨by simp [h], rfl⟩
  · have h' : t ≤ a := by omega
    go_enter Try.func43, Try.ntmps43
    go_wp2
    go_ret
    exact ⟨by simp; omega, rfl⟩
theorem unless_any (h : Bool) (x : Int) (w : World) : Calls Try.prog 58 #[.bool h, .int .i64 x] w fun e w' => e = .returned (.int .i64 (if h = true then 0 else x)) ∧ w = w' := by
  cases h
  · go_enter Try.func58, Try.ntmps58
    go_wp2
    go_ret
    exact ⟨rfl, rfl⟩
  · go_enter Try.func58, Try.ntmps58
    go_wp2
    go_ret
    exact ⟨rfl, rfl⟩
def lastTag (l : List Sc) : Int := (l.getLast?.getD sc0).tag
theorem tagOf_any (r : Option Addr) (l : List Sc) (n c B : Nat) (hn : n = l.length) (hl : l.length ≤ 1000) (w : World) (h : SecS B w r l) : Calls Try.prog 61 #[.slice r n c] w fun e w' => e = .returned (.int .i64 (lastTag l)) ∧ w = w' := by
  subst hn
  rcases List.eq_nil_or_concat l with rfl | ⟨l, s, rfl⟩
  · go_enter Try.func61, Try.ntmps61
    go_wp2
    go_ret
    exact ⟨rfl, rfl⟩
  · obtain ⟨b, off, rfl, -, h1, -, -⟩ := h.at_ (i := l.length) (by simp)
    have e1 : lastTag (l ++ [s]) = s.tag := by simp [lastTag]
    rw [show (l.concat s) = l ++ [s] by simp] at *
    rw [show (l ++ [s]).getD l.length sc0 = s by simp [List.getD]] at h1
    rw [e1]
    simp only [List.length_append, List.length_cons, List.length_nil, Nat.zero_add] at hl ⊢
    have hli : (l.length : Int) ≤ 1000 := by omega
    clear h e1
    generalize l.length = k at *
    generalize s.tag = t at *
    go_enter Try.func61, Try.ntmps61
    go_wp2
    go_ret
    exact ⟨rfl, rfl⟩

theorem long_any (t : Int) (a : Option Addr) (m c : Nat) (w : World) : Calls Try.prog 41 #[.agg #[.int .i64 t, .slice a m c]] w (Gives (.bool (decide ((1048576 : Int) < m))) w) := by
  go_enter Try.func41, Try.ntmps41
  go_wp2
  go_ret
  exact ⟨by simp, (Below.refl _ _).alloc (Nat.le_refl _) _⟩
theorem isTag_any (t x : Int) (a : Option Addr) (m c g : Nat) (w : World) (hg : w.cell? ⟨g, 0, none⟩ = some (.int .i64 x)) : Calls Try.prog 35 #[.agg #[.int .i64 t, .slice a m c], .pointer (some ⟨g, 0, none⟩)] w (Gives (.bool (t == x)) w) := by
  have hb : Below w.heap.size w (w.alloc (.cells #[.int .i64 t, .slice a m c] 39)) := (Below.refl _ _).alloc (Nat.le_refl _) _
  have hg2 := (hb.cell (p := ⟨g, 0, none⟩) (World.block_lt_of_cell? _ _ hg)).trans hg
  have hb' := Lib.hid hb
  clear hb hg
  go_enter Try.func35, Try.ntmps35
  go_wp2
  go_ret
  exact ⟨rfl, hb'.out⟩
theorem bequal_any (a1 a2 : Option Addr) (l1 l2 : List Int) (n1 n2 c1 c2 B : Nat) (h1 : n1 = l1.length) (h2 : n2 = l2.length) (b1 : Bs l1) (b2 : Bs l2) (w : World) (s1 : Sees .u8 B w a1 l1) (s2 : Sees .u8 B w a2 l2) :
    Calls Try.prog 39 #[.slice a1 n1 c1, .slice a2 n2 c2] w fun e w' => e = .returned (.bool (decide (l1 = l2))) ∧ w = w' := by
  have hcv1 := conv_sees (P := Try.prog) 25 9 5 Try.underlying25 Try.underlying5 Try.underlying9 s1 n1 c1 h1
  have hcv2 := conv_sees (P := Try.prog) 25 9 5 Try.underlying25 Try.underlying5 Try.underlying9 s2 n2 c2 h2
  have heq : ((strOfNums l1).toList == (strOfNums l2).toList) = decide (l1 = l2) := by
    by_cases h : l1 = l2
    · subst h; simp
    · rw [str_ne b1 b2 h, decide_eq_false h]
  clear s1 s2 h1 h2 b1 b2
  generalize strOfNums l1 = x1 at *
  generalize strOfNums l2 = x2 at *
  generalize decide (l1 = l2) = d at *
  go_enter Try.func39, Try.ntmps39
  go_wp2
  go_ret
  first | exact ⟨rfl, rfl⟩ | exact ⟨by rw [heq], rfl⟩
end Go.Proofs.Ytnjdgnlgdokddaa
