/- The library's table of powers of ten: it reads as it was laid. -/
import Derived.Test.YtpbminoefmpmpaaDoorRows
import Derived.Test.YtpbminoefmpmpaaDoorKit
import Derived.Test.YtpbminoefmpmpaaDoorShelf
import Derived.Lib.SmallJoins
namespace Go.Proofs.YtpbminoefmpmpaaDoor
open Go.RowKit
set_option linter.unusedVariables false

/-- The library's table reads as it was laid. -/
def Tab (w : World) : Prop := Lib.TabIs Tryd.prog w "internal/strconv.uint64pow10" .u64 Lib.pow10Tab
theorem globalTab : (Tryd.prog.globalNamed "internal/strconv.uint64pow10").isSome = true := by kernel_rfl
theorem Tab.on {w w' : World} (h : Tab w) (hb : Below w.heap.size w w') : Tab w' := by
  obtain ⟨g, hg⟩ := Option.isSome_iff_exists.1 globalTab
  exact Joins.tab_stays hg h hb (Nat.le_refl _)
theorem below_drewn (w : World) (q : Nat) (os : Array Obj) : Below w.heap.size w (Sort.grow (w.drewN q) os) :=
  ⟨rfl, rfl, rfl, by simp [Sort.grow], fun i hi => by
    show ((w.drewN q).heap ++ os)[i]? = _
    rw [Array.getElem?_append_left (by show i < w.heap.size; omega)]
    rfl⟩
end Go.Proofs.YtpbminoefmpmpaaDoor
