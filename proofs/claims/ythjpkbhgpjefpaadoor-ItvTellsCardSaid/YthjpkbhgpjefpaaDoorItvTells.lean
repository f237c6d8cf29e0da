/- ItvTells: the walk of the statement's function, with what it calls. -/
import Derived.Test.YthjpkbhgpjefpaaDoorItvTellsCore
import Derived.Test.YthjpkbhgpjefpaaDoorItvRefJoin
import Derived.Test.YthjpkbhgpjefpaaDoorItvRefWiden
import Derived.Test.YthjpkbhgpjefpaaDoorItvRefMeet
import Derived.Test.YthjpkbhgpjefpaaDoorItvRefPlus
import Derived.Test.YthjpkbhgpjefpaaDoorItvRefMove
namespace Go.Proofs.YthjpkbhgpjefpaaDoor
open Go.RowKit
set_option linter.unusedVariables false

theorem bq_comm (x y : Int) : (x == y) = (y == x) := by
  rw [Bool.eq_iff_iff, beq_iff_eq, beq_iff_eq]; exact eq_comm

theorem itvTells_walk (w : World) (hE : Env w) (a : Int) (wa : (Lit.int .i64 a).wf = true) (b : Int) (wb : (Lit.int .i64 b).wf = true) (c : Int) (wc : (Lit.int .i64 c).wf = true) (d : Int) (wd : (Lit.int .i64 d).wf = true) (v : Int) (wv : (Lit.int .i64 v).wf = true) :
    Calls Tryd.prog 3 #[.agg #[.int .i64 a, .int .i64 b], .agg #[.int .i64 c, .int .i64 d], .int .i64 v] w (Gives (.bool true) w) :=
  tells_core w hE a b c d v _ _ _ _ _ _ _ _ _ _ _ _ _ _ _ _ _ _ (leqB a b c d)
    (fun w => of_any a b w) (fun w => rplain_any a b w) (fun w => rplain_any c d w) (fun w => by rw [bq_comm _ a, bq_comm _ b]; exact is_itv a b w) (fun w => size_itv a b w) (fun w => rsize_itv a b w)
    (fun w => has_any a b v w) (fun w => rhas_any a b v w) (fun w => leq_any a b c d w) (fun w => rleq_any a b c d w) (fun w => same_any a b c d w)
    (fun w => join_any a b c d w) (fun w => rjoin_any a b c d w) (fun w => meet_any a b c d w) (fun w => rmeet_any a b c d w) (fun w => plus_any a b c d w) (fun w => rplus_any a b c d w)
    (fun w => widen_any a b c d w) (fun w => rwiden_any a b c d w) (fun w => move_any a b v w) (fun w => rmove_any a b v w) (fun w => neg_itv a b w) (fun w => rneg_any a b w)
end Go.Proofs.YthjpkbhgpjefpaaDoor
