/- The contracts of leb's readings at a known number. -/
import Derived.Test.YtkfgfbdlbiahkaaLebInt
namespace Go.Proofs.Ytkfgfbdlbiahkaa
open Go.RowKit
set_option linter.unusedVariables false

theorem get_is {l : List Int} {x y z : Int} (h : getL 0 0 1 l = (x, y, z)) (a : Option Addr) (n cap : Nat) (hn : n = l.length) (B : Nat) (w : World) (hl : l.length ≤ maxLen) (hb : Bs l) (hs : Sees .u8 B w a l) :
    Calls Try.prog 75 #[.slice a n cap] w fun e w' => e = .returned (.tuple #[.int .u64 x, .int .i64 y, .int .i64 z]) ∧ w = w' := by
  have := get_any a l n cap hn B w hl hb hs
  rw [h] at this; exact this
end Go.Proofs.Ytkfgfbdlbiahkaa
