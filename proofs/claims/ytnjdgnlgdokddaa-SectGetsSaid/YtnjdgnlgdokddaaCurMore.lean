/- cur: From, Fail, Left, At, End. -/
import Derived.Test.YtnjdgnlgdokddaaCurPen
import Derived.Test.YtnjdgnlgdokddaaCurCaught
namespace Go.Proofs.Ytnjdgnlgdokddaa
open Go.RowKit
set_option linter.unusedVariables false

/-- cur.From. -/
def Froms (bs : List Int) (w : World) (e : Ending) (w' : World) : Prop := ∃ r a cap, e = .returned (.pointer (some ⟨r, 0, none⟩)) ∧ Rd w' r a cap bs 0 0 ∧ Below w.heap.size w w' ∧ w.heap.size ≤ r
theorem from_any (A : Option Addr) (l : List Int) (n c : Nat) (hn : n = l.length) (B : Nat) (w : World) (hl : l.length ≤ 140737488355328) (hb : Bs l) (hs : Sees .u8 B w A l) :
    Calls Try.prog 48 #[.slice A n c] w (Froms l w) := by
  have hcl := Lib.hid (clone_any A l n c hn B w hl hs)
  clear hs hn
  go_enter Try.func48, Try.ntmps48
  go_wp2_with fail
  refine hcl.out.mono ?_
  intro e w1 h1
  obtain ⟨a1, c1, rfl, hs1, hb1, hc1⟩ := h1.openc l.length rfl
  clear h1
  go_wp2
  go_ret
  have hB := (Below.refl w1.heap.size w1).alloc (Nat.le_refl _) (.cells #[.slice a1 l.length c1, .int .i64 0, .int .i64 0] 91)
  refine ⟨w1.heap.size, a1, c1, rfl, ⟨Holds.new _ _ _, ?_, hb, by unfold maxLen; omega, hc1, Nat.zero_le _⟩, hb1.trans (hB.mono hb1.size), hb1.size⟩
  exact ((hs1.out (X := [w1.heap.size]) (by simp)).belowE (.of hB)).mono (by simp)

/-- What is left. -/
def leftO (bs : List Int) (p : Nat) (e : Int) : Int := if e = 0 then (bs.length : Int) - p else 0
theorem at_any (r : Nat) (p : Nat) (w : World) (c1 : w.cell? ⟨r, 1, none⟩ = some (.int .i64 p)) :
    Calls Try.prog 54 #[.pointer (some ⟨r, 0, none⟩)] w fun e' w' => e' = .returned (.int .i64 p) ∧ w = w' := by
  go_enter Try.func54, Try.ntmps54
  go_wp2
  go_ret
  exact ⟨rfl, rfl⟩
theorem at_nil (w : World) :
    Calls Try.prog 54 #[.pointer none] w fun e' w' => e' = .returned (.int .i64 0) ∧ w = w' := by
  go_enter Try.func54, Try.ntmps54
  go_wp2
  go_ret
  exact ⟨rfl, rfl⟩
end Go.Proofs.Ytnjdgnlgdokddaa
