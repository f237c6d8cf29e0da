/- A region that draws its order, walked step by step: the condition may grow on the way. -/
import Derived.Test.YtpbminoefmpmpaaDoorKit2
import Derived.Deep.RegionHeld3
import Derived.Deep.DrawnRows
namespace Go.Proofs.YtpbminoefmpmpaaDoor
open Go.RowKit
set_option linter.unusedVariables false

theorem wpAnyH_mono {P : Program} {md : Region.Mode} {ops : Array Oper} {Q : Exit → Act → World → Prop} {S S' : World → Prop} (hS : ∀ w, S' w → S w) :
    ∀ (fuel : Nat) (listed : Array Bool) (a : Act) (w : World), wpAnyH P md ops Q S' fuel listed a w → wpAnyH P md ops Q S fuel listed a w
  | 0, _, _, _, h => h
  | fuel + 1, _, _, _, h => ⟨h.1, fun i hi => wpOp_mono (fun a' w' h' => ⟨hS w' h'.1, wpAnyH_mono hS fuel _ a' w' h'.2⟩) (h.2 i hi)⟩

/-- From here on: whatever stands now stays. -/
theorem wpAnyH_now {P : Program} {md : Region.Mode} {ops : Array Oper} {Q : Exit → Act → World → Prop} {w0 w : World} {fuel : Nat} {listed : Array Bool} {a : Act} (hb : Below w0.heap.size w0 w)
    (h : Below w.heap.size w w → wpAnyH P md ops Q (fun w' => Below w.heap.size w w') fuel listed a w) : wpAnyH P md ops Q (fun w' => Below w0.heap.size w0 w') fuel listed a w :=
  wpAnyH_mono (fun w' h' => hb.trans (h'.mono hb.size)) _ _ _ _ (h (Below.refl _ _))

/-- What holds wherever all that stood stays, holds later on, too. -/
theorem rebase {w0 w1 : World} {C : World → Prop} (h : ∀ W, Below w0.heap.size w0 W → C W) (hb : Below w0.heap.size w0 w1) : ∀ W, Below w1.heap.size w1 W → C W :=
  fun W hW => h W (hb.trans (hW.mono hb.size))

/-- The beginning. -/
theorem wp_drawn {P : Program} {ops : Array Oper} {Q : Exit → Act → World → Prop} {id : Nat} {a : Act} {w : World} (hm : P.follows .mixedOrders = true)
    (h : Below w.heap.size w w.drew → wpAnyH P .any ops Q (fun w' => Below w.heap.size w w') ops.size (Array.replicate ops.size false) a w.drew) : (Code.region id ops true).wp P Q a w :=
  wp_region_held_drew hm ((Below.refl _ _).drew) h

/-- The same where only the blocks below B stay. -/
theorem wp_drawn_at (B : Nat) {P : Program} {ops : Array Oper} {Q : Exit → Act → World → Prop} {id : Nat} {a : Act} {w : World} (hm : P.follows .mixedOrders = true)
    (h : Below B w w.drew → wpAnyH P .any ops Q (fun w' => Below B w w') ops.size (Array.replicate ops.size false) a w.drew) : (Code.region id ops true).wp P Q a w :=
  wp_region_held_drew hm ((Below.refl _ _).drew) h
/-- The same under a condition of one's own. -/
theorem wp_drawn_on (S : World → Prop) {P : Program} {ops : Array Oper} {Q : Exit → Act → World → Prop} {id : Nat} {a : Act} {w : World} (hm : P.follows .mixedOrders = true) (hS : S w.drew)
    (h : S w.drew → wpAnyH P .any ops Q S ops.size (Array.replicate ops.size false) a w.drew) : (Code.region id ops true).wp P Q a w :=
  wp_region_held_drew hm hS h
theorem wpAnyH_now_at {P : Program} {md : Region.Mode} {ops : Array Oper} {Q : Exit → Act → World → Prop} {B : Nat} {w0 w : World} {fuel : Nat} {listed : Array Bool} {a : Act} (hb : Below B w0 w)
    (h : Below B w w → wpAnyH P md ops Q (fun w' => Below B w w') fuel listed a w) : wpAnyH P md ops Q (fun w' => Below B w0 w') fuel listed a w :=
  wpAnyH_mono (fun w' h' => hb.trans h') _ _ _ _ (h (Below.refl _ _))
theorem rebase_at {B : Nat} {w0 w1 : World} {C : World → Prop} (h : ∀ W, Below B w0 W → C W) (hb : Below B w0 w1) : ∀ W, Below B w1 W → C W :=
  fun W hW => h W (hb.trans hW)
end Go.Proofs.YtpbminoefmpmpaaDoor
