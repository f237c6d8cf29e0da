/- Tokens, the program's. -/
import Derived.Test.YtplgfghffeijcaaLexWays
import Derived.Lib.OthersKept
namespace Go.Proofs.Ytplgfghffeijcaa
open Go.RowKit
set_option linter.unusedVariables false
set_option linter.unusedSimpArgs false

/-- What is told of a text. -/
def TokE (r : List Tk × Int × Int × Int) (w : World) (e : Ending) (w' : World) : Prop := ∃ a n c, e = .returned (.tuple #[.slice a n c, .int .i64 r.2.1, .int .i64 r.2.2.1, .int .i64 r.2.2.2]) ∧ n = r.1.length ∧ n ≤ c ∧ c ≤ maxLen ∧ SeesC w'.heap.size w' a (tcells r.1) ∧ Below w.heap.size w w'
theorem tokE_none (x y z : Int) {w w' : World} (h : Below w.heap.size w w') : TokE ([], x, y, z) w (.returned (.tuple #[.slice none 0 0, .int .i64 x, .int .i64 y, .int .i64 z])) w' := ⟨none, 0, 0, rfl, rfl, Nat.le_refl _, by simp, .inl rfl, h⟩
/-- The rest of a text from a place on. -/
theorem run_rest {b : List Int} {p : Nat} {m : Md} {s : Sg} (h : runS .beg sg0 (b.take p) = .inr (m, s)) (hp : p < b.length) : runS .beg sg0 b = match stepS m s (b.getD p 0) with
    | .inl e => .inl e
    | .inr (m', s') => runS m' s' (b.drop (p + 1)) := by
  have e : b = b.take p ++ b.getD p 0 :: b.drop (p + 1) := by
    have h2 : b.drop p = b.getD p 0 :: b.drop (p + 1) := by rw [List.drop_eq_getElem_cons hp]; simp [List.getD, hp]
    rw [← h2, List.take_append_drop]
  conv => lhs; rw [e]
  rw [runS_app, h]
  simp only [runS]
  cases stepS m s (b.getD p 0) with
  | inl e => rfl
  | inr q => rfl
theorem run_next {b : List Int} {p : Nat} {m : Md} {s : Sg} (h : runS .beg sg0 (b.take p) = .inr (m, s)) (hp : p < b.length) : runS .beg sg0 (b.take (p + 1)) = stepS m s (b.getD p 0) := by
  have e : b.take (p + 1) = b.take p ++ [b.getD p 0] := by
    rw [List.take_succ_eq_append_getElem hp]; simp [List.getD, hp]
  rw [e, runS_snoc h]
/-- A round: what the byte at a place is, and the rune that is read there. -/
theorem rune_at (s : ByteArray) (pos : Nat) (h : pos < s.size) : (∃ c : Nat, c < 128 ∧ Utf8.decode s pos = (c, 1) ∧ (codes s).getD pos 0 = (c : Int)) ∨ (128 ≤ (Utf8.decode s pos).1 ∧ 128 ≤ (codes s).getD pos 0) := by
  have hc : (codes s).getD pos 0 = ((s[pos]'h).toNat : Int) := codes_at s pos h
  by_cases ha : (s[pos]'h).toNat < 128
  · exact .inl ⟨_, ha, decode_ascii s pos h ha, hc⟩
  · exact .inr ⟨(decode_high s pos h (by omega)).1, by rw [hc]; omega⟩
/-- What stands at each round's head. -/
structure Lp (w wr : World) (b : ByteArray) (pos : Nat) (F : List Nat) (m : Md) (s : Sg) : Prop where
  bl : Below w.heap.size w wr
  it : wr.heap[w.heap.size + 2]? = some (.stringIter b pos)
  st : Holds wr (w.heap.size + 1) 45 #[fnV (some m)]
  sk : SkE wr w.heap.size F s
  F0 : ∀ x ∈ F, w.heap.size ≤ x ∧ x ≠ w.heap.size + 1 ∧ x ≠ w.heap.size + 2
  run : runS .beg sg0 ((codes b).take pos) = .inr (m, s)
  sm : s.small pos
  le : pos ≤ b.size
/-- The state's and the iterator's blocks stay where the scanner turns. -/
theorem lp_keep {w w1 w2 : World} {F F' : List Nat} {b : ByteArray} {pos : Nat} {v : Value} (bl : Below w.heap.size w w1) (it : w1.heap[w.heap.size + 2]? = some (.stringIter b pos)) (st : Holds w1 (w.heap.size + 1) 45 #[v]) (hF : ∀ x ∈ F, w.heap.size ≤ x ∧ x ≠ w.heap.size + 1 ∧ x ≠ w.heap.size + 2) (t : Turns F F' w1 w2) :
    Below w.heap.size w w2 ∧ w2.heap[w.heap.size + 2]? = some (.stringIter b pos) ∧ Holds w2 (w.heap.size + 1) 45 #[v] ∧ (∀ x ∈ F', w.heap.size ≤ x ∧ x ≠ w.heap.size + 1 ∧ x ≠ w.heap.size + 2) := by
  have hlt : w.heap.size + 2 < w1.heap.size := (Array.getElem?_eq_some_iff.1 it).1
  refine ⟨bl.trans ((t.1.mono bl.size).toBelow (fun x hx => (hF x hx).1)), (t.1.block _ hlt (fun h => (hF _ h).2.2 rfl)).trans it, st.belowE t.1 st.lt (fun h => (hF _ h).2.1 rfl), fun x hx => ?_⟩
  rcases t.2 x hx with h | h
  · exact hF x h
  · omega
/-- The scanner's numbers and its flag are set. -/
theorem sk_set {w : World} {g : Nat} {F : List Nat} {s : Sg} (h : SkE w g F s) :
    w.cell? ⟨g, 6, none⟩ = some (.int .i64 s.line) ∧ w.cell? ⟨g, 7, none⟩ = some (.int .i64 s.col) ∧ w.cell? ⟨g, 8, none⟩ = some (.bool s.op) ∧ (∀ i, w.frozen? ⟨g, i, none⟩ = false) ∧
    (SkE (w.setCell ⟨g, 8, none⟩ (.bool true)) g F { s with op := true } ∧ Turns F F w (w.setCell ⟨g, 8, none⟩ (.bool true))) ∧
    (∀ x : Int, SkE (w.setCell ⟨g, 7, none⟩ (.int .i64 x)) g F { s with col := x } ∧ Turns F F w (w.setCell ⟨g, 7, none⟩ (.int .i64 x))) ∧
    (∀ x : Int, SkE (((w.setCell ⟨g, 6, none⟩ (.int .i64 x)).setCell ⟨g, 7, none⟩ (.int .i64 1)).setCell ⟨g, 8, none⟩ (.bool false)) g F { s with line := x, col := 1, op := false } ∧ Turns F F w (((w.setCell ⟨g, 6, none⟩ (.int .i64 x)).setCell ⟨g, 7, none⟩ (.int .i64 1)).setCell ⟨g, 8, none⟩ (.bool false))) := by
  obtain ⟨vl, vt, h⟩ := h
  refine ⟨h.h.cell 6, h.h.cell 7, h.h.cell 8, fun i => h.h.free i, ?_, fun x => ?_, fun x => ?_⟩
  · have q := h.put (s' := { s with op := true }) ((BelowE.refl [g] w.heap.size w).setIn (p := ⟨g, 8, none⟩) (by simp) (.bool true)) rfl rfl (by simpa using h.h.set 8 (.bool true))
    exact ⟨⟨_, _, q.1⟩, q.2⟩
  · have q := h.put (s' := { s with col := x }) ((BelowE.refl [g] w.heap.size w).setIn (p := ⟨g, 7, none⟩) (by simp) (.int .i64 x)) rfl rfl (by simpa using h.h.set 7 (.int .i64 x))
    exact ⟨⟨_, _, q.1⟩, q.2⟩
  · have q := h.put (s' := { s with line := x, col := 1, op := false }) ((((BelowE.refl [g] w.heap.size w).setIn (p := ⟨g, 6, none⟩) (by simp) (.int .i64 x)).setIn (p := ⟨g, 7, none⟩) (by simp) (.int .i64 1)).setIn (p := ⟨g, 8, none⟩) (by simp) (.bool false)) rfl rfl (by simpa using ((h.h.set 6 (.int .i64 x)).set 7 (.int .i64 1)).set 8 (.bool false))
    exact ⟨⟨_, _, q.1⟩, q.2⟩
end Go.Proofs.Ytplgfghffeijcaa
