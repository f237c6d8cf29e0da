/- FileNobody: a nil disk. -/
import Derived.Test.YtjhakmpinloioaaFileLives
namespace Go.Proofs.Ytjhakmpinloioaa
open Go.RowKit
set_option linter.unusedVariables false

set_option maxRecDepth 100000 in
set_option maxHeartbeats 1000000 in
theorem fileNobody_walk (w : World) (n : Int) (hn : (Lit.int .i64 n).wf = true) (k : Int) (hk : (Lit.int .i64 k).wf = true) :
    Calls Try.prog 6 #[.int .i64 n, .int .i64 k] w (Gives (.bool true) w) := by
  go_enter Try.func6, Try.ntmps6
  go_wp2_with fail
  refine (arm_nil k w).mono ?_
  rintro e w1 ⟨rfl, b1⟩
  go_wp2_with fail
  refine (wake_nil w1).mono ?_
  rintro e w2 ⟨rfl, h⟩
  replace b1 := b1.trans (h.mono b1.size)
  clear h
  go_wp2_with fail
  refine (read_nil n w2).mono ?_
  rintro e w3 ⟨rfl, h⟩
  replace b1 := b1.trans (h.mono b1.size)
  clear h
  go_wp2_with fail
  refine (lives_any w3).mono ?_
  rintro e w4 ⟨rfl, h⟩
  replace b1 := b1.trans (h.mono b1.size)
  clear h
  go_wp2_with fail
  refine (write_nil n none 0 0 w4).mono ?_
  rintro e w5 ⟨rfl, h⟩
  replace b1 := b1.trans (h.mono b1.size)
  clear h
  go_wp2_with fail
  refine (clear_nil n w5).mono ?_
  rintro e w6 ⟨rfl, h⟩
  replace b1 := b1.trans (h.mono b1.size)
  clear h
  go_wp2_with fail
  refine (cut_nil n k w6).mono ?_
  rintro e w7 ⟨rfl, h⟩
  replace b1 := b1.trans (h.mono b1.size)
  clear h
  go_wp2_with fail
  refine (spoil_nil n k none 0 0 w7).mono ?_
  rintro e w8 ⟨rfl, h⟩
  replace b1 := b1.trans (h.mono b1.size)
  clear h
  go_wp2_with fail
  refine (off_nil w8).mono ?_
  rintro e w9 ⟨rfl, h⟩
  replace b1 := b1.trans (h.mono b1.size)
  clear h
  go_wp2
  go_ret
  exact ⟨rfl, b1⟩
end Go.Proofs.Ytjhakmpinloioaa
