/- ItvLeast: the walk of the statement's function. -/
import Derived.Test.YthjpkbhgpjefpaaDoorItvLeast1
import Derived.Test.YthjpkbhgpjefpaaDoorItvLeast2
import Derived.Test.YthjpkbhgpjefpaaDoorItvLeast3
import Derived.Test.YthjpkbhgpjefpaaDoorItvLeast4
import Derived.Test.YthjpkbhgpjefpaaDoorItvMath
namespace Go.Proofs.YthjpkbhgpjefpaaDoor
open Go.RowKit
set_option linter.unusedVariables false
set_option linter.unusedSimpArgs false

theorem itvLeast_walk (w : World) (hE : Env w) (a : Int) (wa : (Lit.int .i64 a).wf = true) (b : Int) (wb : (Lit.int .i64 b).wf = true) (c : Int) (wc : (Lit.int .i64 c).wf = true) (d : Int) (wd : (Lit.int .i64 d).wf = true) (p : Int) (wp : (Lit.int .i64 p).wf = true) (q : Int) (wq : (Lit.int .i64 q).wf = true) : Calls Tryd.prog 5 #[.agg #[.int .i64 a, .int .i64 b], .agg #[.int .i64 c, .int .i64 d], .agg #[.int .i64 p, .int .i64 q]] w (Gives (.bool true) w) := by
  have cJ := fun w => join_any a b c d w
  have cA := fun w => leq_any (jnL (ofL a b) (ofH a b) (ofL c d) (ofH c d)) (jnH (ofL a b) (ofH a b) (ofL c d) (ofH c d)) p q w
  rw [show (ofL (max (jnL (ofL a b) (ofH a b) (ofL c d) (ofH c d)) p) (min (jnH (ofL a b) (ofH a b) (ofL c d) (ofH c d)) q) == ofL (jnL (ofL a b) (ofH a b) (ofL c d) (ofH c d)) (jnH (ofL a b) (ofH a b) (ofL c d) (ofH c d)) && ofH (max (jnL (ofL a b) (ofH a b) (ofL c d) (ofH c d)) p) (min (jnH (ofL a b) (ofH a b) (ofL c d) (ofH c d)) q) == ofH (jnL (ofL a b) (ofH a b) (ofL c d) (ofH c d)) (jnH (ofL a b) (ofH a b) (ofL c d) (ofH c d))) = (leqB a b p q && leqB c d p q) from join_leq a b c d p q] at cA
  have cB : ∀ w, Calls Tryd.prog 16 #[.agg #[.int .i64 a, .int .i64 b], .agg #[.int .i64 p, .int .i64 q]] w (Gives (.bool (leqB a b p q)) w) := fun w => leq_any a b p q w
  have cC : ∀ w, Calls Tryd.prog 16 #[.agg #[.int .i64 c, .int .i64 d], .agg #[.int .i64 p, .int .i64 q]] w (Gives (.bool (leqB c d p q)) w) := fun w => leq_any c d p q w
  have cD := fun w => meet_any a b c d w
  have cE : ∀ w, Calls Tryd.prog 16 #[.agg #[.int .i64 p, .int .i64 q], .agg #[.int .i64 (ofL (max a c) (min b d)), .int .i64 (ofH (max a c) (min b d))]] w (Gives (.bool (leqB p q (ofL (max a c) (min b d)) (ofH (max a c) (min b d)))) w) := fun w => leq_any p q _ _ w
  rw [leq_meet] at cE
  have cF : ∀ w, Calls Tryd.prog 16 #[.agg #[.int .i64 p, .int .i64 q], .agg #[.int .i64 a, .int .i64 b]] w (Gives (.bool (leqB p q a b)) w) := fun w => leq_any p q a b w
  have cG : ∀ w, Calls Tryd.prog 16 #[.agg #[.int .i64 p, .int .i64 q], .agg #[.int .i64 c, .int .i64 d]] w (Gives (.bool (leqB p q c d)) w) := fun w => leq_any p q c d w
  have cH : ∀ w, Calls Tryd.prog 16 #[.agg #[.int .i64 a, .int .i64 b], .agg #[.int .i64 c, .int .i64 d]] w (Gives (.bool (leqB a b c d)) w) := fun w => leq_any a b c d w
  have cI : ∀ w, Calls Tryd.prog 16 #[.agg #[.int .i64 c, .int .i64 d], .agg #[.int .i64 a, .int .i64 b]] w (Gives (.bool (leqB c d a b)) w) := fun w => leq_any c d a b w
  have cS := fun w => same_any a b c d w
  rw [← leq_same] at cS
  generalize leqB c d p q = C at *
  generalize leqB p q c d = G at *
  generalize leqB c d a b = I at *
  cases hb : leqB a b p q <;> cases hf : leqB p q a b <;> cases hh : leqB a b c d <;> rw [hb] at cA cB <;> rw [hf] at cE cF <;> rw [hh] at cH cS
  · exact least_fff w hE a b c d p q _ _ _ _ C G I cJ cA cB cD cE cF cH cS
  · exact least_fft w hE a b c d p q _ _ _ _ C G I cJ cA cB cD cE cF cH cI cS
  · exact least_ftf w hE a b c d p q _ _ _ _ C G I cJ cA cB cD cE cF cG cH cS
  · exact least_ftt w hE a b c d p q _ _ _ _ C G I cJ cA cB cD cE cF cG cH cI cS
  · exact least_tff w hE a b c d p q _ _ _ _ C G I cJ cA cB cC cD cE cF cH cS
  · exact least_tft w hE a b c d p q _ _ _ _ C G I cJ cA cB cC cD cE cF cH cI cS
  · exact least_ttf w hE a b c d p q _ _ _ _ C G I cJ cA cB cC cD cE cF cG cH cS
  · exact least_ttt w hE a b c d p q _ _ _ _ C G I cJ cA cB cC cD cE cF cG cH cI cS
end Go.Proofs.YthjpkbhgpjefpaaDoor
