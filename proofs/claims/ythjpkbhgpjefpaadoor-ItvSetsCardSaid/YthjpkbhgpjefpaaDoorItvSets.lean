/- ItvSets: the walk of the statement's function, case by case. -/
import Derived.Test.YthjpkbhgpjefpaaDoorItvSets1
import Derived.Test.YthjpkbhgpjefpaaDoorItvSets2
import Derived.Test.YthjpkbhgpjefpaaDoorItvSets3
import Derived.Test.YthjpkbhgpjefpaaDoorItvSets4
import Derived.Test.YthjpkbhgpjefpaaDoorItvSets5
import Derived.Test.YthjpkbhgpjefpaaDoorItvHas
namespace Go.Proofs.YthjpkbhgpjefpaaDoor
open Go.RowKit
set_option linter.unusedVariables false
set_option linter.unusedSimpArgs false

theorem itvSets_walk (w : World) (hE : Env w) (a : Int) (wa : (Lit.int .i64 a).wf = true) (b : Int) (wb : (Lit.int .i64 b).wf = true) (p : Int) (wp : (Lit.int .i64 p).wf = true) (q : Int) (wq : (Lit.int .i64 q).wf = true) (c : Int) (wc : (Lit.int .i64 c).wf = true) (v : Int) (wv : (Lit.int .i64 v).wf = true) (u : Int) (wu : (Lit.int .i64 u).wf = true) :
    Calls Tryd.prog 4 #[.agg #[.int .i64 a, .int .i64 b], .agg #[.int .i64 p, .int .i64 q], .int .i64 c, .int .i64 v, .int .i64 u] w (Gives (.bool true) w) := by
  have H : ∀ (l h x : Int) (w : World), Calls Tryd.prog 14 #[.agg #[.int .i64 l, .int .i64 h], .int .i64 x] w (Gives (.bool (hasB l h x)) w) := fun l h x w => has_any l h x w
  have cMeet := fun w => meet_any a b p q w
  have cHm := fun w => H (ofL (max a p) (min b q)) (ofH (max a p) (min b q)) v w
  rw [has_meet] at cHm
  have cHx := fun w => H a b v w
  have cHy := fun w => H p q v w
  have cHa := fun w => H (-1099511627776) 1099511627776 v w
  rw [has_all] at cHa
  have cV := fun w => refis_any v w
  have cHn := fun w => H 1 0 v w
  rw [has_none] at cHn
  have cJoin := fun w => join_any a b p q w
  have cHj := fun w => H (jnL (ofL a b) (ofH a b) (ofL p q) (ofH p q)) (jnH (ofL a b) (ofH a b) (ofL p q) (ofH p q)) v w
  have cWid := fun w => widen_any a b p q w
  have cHw := fun w => H (wdL (ofL a b) (ofH a b) (ofL p q) (ofH p q)) (wdH (ofL a b) (ofH a b) (ofL p q) (ofH p q)) v w
  have cNeg := fun w => neg_itv a b w
  have cHng := fun w => H (ngL (ofL a b) (ofH a b)) (ngH (ofL a b) (ofH a b)) (-v) w
  have cW := fun w => refis_any u w
  have cHyw := fun w => H p q u w
  have cPlus := fun w => plus_any a b p q w
  have cHp := fun w => H (psL (ofL a b) (ofH a b) (ofL p q) (ofH p q)) (psH (ofL a b) (ofH a b) (ofL p q) (ofH p q)) (v + u) w
  have cQ := fun w => refis_any (v + u) w
  have cC := fun w => refis_any c w
  have cD := fun w => refis_any (v - c) w
  have cMv := fun w => move_any a b c w
  have cHt := fun w => H (mvL (ofL a b) (ofH a b) c) (mvH (ofL a b) (ofH a b) c) v w
  have cHd := fun w => H a b (v - c) w
  by_cases hV : isV v = true
  · have hv := (isV_iff v).1 hV
    have hu := (isV_iff u).1
    have hc := (isV_iff c).1
    rw [has_neg a b v hv] at cHng
    rw [hV] at cHa cV
    have cHt : isV c = true → isV (v - c) = true → ∀ w, Calls Tryd.prog 14 #[.agg #[.int .i64 (mvL (ofL a b) (ofH a b) c), .int .i64 (mvH (ofL a b) (ofH a b) c)], .int .i64 v] w (Gives (.bool (hasB a b (v - c))) w) := fun h1 h2 w => by
      rw [← has_move a b c v hv (hc h1) ((isV_iff _).1 h2)]; exact cHt w
    cases hx : hasB a b v with
    | false =>
      cases hy : hasB p q v with
      | false =>
        rw [hx, hy] at cHm; rw [hx] at cHx cHng; rw [hy] at cHy
        exact sets_ff w hE a b p q c v u _ _ 0 0 0 0 _ _ 0 0 _ _ _ true true _ _ _ hv hu hc cMeet cHm cHx cHy cHa cV cHn cNeg cHng cW cC cD cMv cHt cHd
      | true =>
        rw [has_widen a b p q v (.inr hy)] at cHw
        rw [hx, hy] at cHm; rw [hx] at cHx cHng; rw [hy] at cHy
        exact sets_ft w hE a b p q c v u _ _ 0 0 _ _ _ _ 0 0 _ _ _ true true _ _ _ hv hu hc cMeet cHm cHx cHy cHa cV cHn cWid cHw cNeg cHng cW cC cD cMv cHt cHd
    | true =>
      have cHp : hasB p q u = true → ∀ w, Calls Tryd.prog 14 #[.agg #[.int .i64 (psL (ofL a b) (ofH a b) (ofL p q) (ofH p q)), .int .i64 (psH (ofL a b) (ofH a b) (ofL p q) (ofH p q))], .int .i64 (v + u)] w (Gives (.bool (isV (v + u))) w) := fun h w => by
        rw [← has_plus a b p q v u hx h]; exact cHp w
      rw [has_join a b p q v hx] at cHj
      rw [has_widen a b p q v (.inl hx)] at cHw
      cases hy : hasB p q v with
      | false =>
        rw [hx, hy] at cHm; rw [hx] at cHx cHng; rw [hy] at cHy
        exact sets_tf w hE a b p q c v u _ _ _ _ _ _ _ _ _ _ _ _ _ _ _ _ _ _ hv hu hc cMeet cHm cHx cHy cHa cV cHn cJoin cHj cWid cHw cNeg cHng cW cHyw cPlus cHp cQ cC cD cMv cHt cHd
      | true =>
        rw [hx, hy] at cHm; rw [hx] at cHx cHng; rw [hy] at cHy
        exact sets_tt w hE a b p q c v u _ _ _ _ _ _ _ _ _ _ _ _ _ _ _ _ _ _ hv hu hc cMeet cHm cHx cHy cHa cV cHn cJoin cHj cWid cHw cNeg cHng cW cHyw cPlus cHp cQ cC cD cMv cHt cHd
  · have hV : isV v = false := by simpa using hV
    have hx : hasB a b v = false := by unfold hasB; rw [hV]; rfl
    have hy : hasB p q v = false := by unfold hasB; rw [hV]; rfl
    rw [hx, hy] at cHm; rw [hx] at cHx; rw [hy] at cHy; rw [hV] at cHa cV
    exact sets_v w hE a b p q c v u _ _ 0 0 0 0 0 0 0 0 0 0 true true true true true true cMeet cHm cHx cHy cHa cV cHn
end Go.Proofs.YthjpkbhgpjefpaaDoor
