/- Two rows of the call's own, next to each other. -/
import Derived.Test.YtpbminoefmpmpaaDoorFoot
import Derived.Test.YtpbminoefmpmpaaDoorSlices
namespace Go.Proofs.YtpbminoefmpmpaaDoor
open Go.RowKit
set_option linter.unusedVariables false
structure TwoR (w0 : World) (B : Nat) (e1 e2 : TypeId) (v : Value) (n : Nat) (xs : List Value) (u : Value) (m : Nat) (ys : List Value) (w : World) : Prop where
  a : w.ownsRow B e1 1 v n xs
  b : w.ownsRow B e2 1 u m ys
  ap : ∀ x, v.ownBlock = some x → u.ownBlock ≠ some x
  bel : Below B w0 w
  base : B ≤ w0.heap.size
theorem TwoR.low {w0 B e1 e2 v n xs u m ys w} (h : TwoR w0 B e1 e2 v n xs u m ys w) : B ≤ w.heap.size := Nat.le_trans h.base h.bel.size
theorem TwoR.made {w0 B e1 e2 v n xs u m ys w w'} (h : TwoR w0 B e1 e2 v n xs u m ys w) (hb : Below w.heap.size w w') : TwoR w0 B e1 e2 v n xs u m ys w' :=
  ⟨own_below h.a hb, own_below h.b hb, h.ap, h.bel.trans (hb.mono h.low), h.base⟩
theorem TwoR.grow1 {w0 B e1 e2 v n xs u m ys w w' v' n' xs'} (h : TwoR w0 B e1 e2 v n xs u m ys w) (hg : w.grownBy w' v.ownBlock) (ho : w'.ownsRow 0 e1 1 v' n' xs') (hb : v'.ownBlock = v.ownBlock ∨ v'.ownBlock = some w.heap.size) : TwoR w0 B e1 e2 v' n' xs' u m ys w' := by
  have la := h.a.lt
  have lb := h.b.lt
  refine ⟨own_from ho (fun k hk => ?_), h.b.kept hg (by
    cases hu : u.ownBlock with
    | none => exact .inl rfl
    | some x => exact .inr (fun e => h.ap x e.symm hu)), fun x hx hu => ?_, h.bel.grown hg h.low (fun k hk => (la k hk).1), h.base⟩
  · rcases hb with e | e
    · rw [e] at hk; exact (la k hk).1
    · rw [e] at hk; obtain rfl := Option.some.inj hk; exact h.low
  · rcases hb with e | e
    · rw [e] at hx; exact h.ap x hx hu
    · rw [e] at hx; obtain rfl := Option.some.inj hx; have := (lb _ hu).2; omega
theorem TwoR.grow2 {w0 B e1 e2 v n xs u m ys w w' u' m' ys'} (h : TwoR w0 B e1 e2 v n xs u m ys w) (hg : w.grownBy w' u.ownBlock) (ho : w'.ownsRow 0 e2 1 u' m' ys') (hb : u'.ownBlock = u.ownBlock ∨ u'.ownBlock = some w.heap.size) : TwoR w0 B e1 e2 v n xs u' m' ys' w' := by
  have la := h.a.lt
  have lb := h.b.lt
  refine ⟨h.a.kept hg (by
    cases hv : v.ownBlock with
    | none => exact .inl rfl
    | some x => exact .inr (fun e => h.ap x hv e.symm)), own_from ho (fun k hk => ?_), fun x hx hu => ?_, h.bel.grown hg h.low (fun k hk => (lb k hk).1), h.base⟩
  · rcases hb with e | e
    · rw [e] at hk; exact (lb k hk).1
    · rw [e] at hk; obtain rfl := Option.some.inj hk; exact h.low
  · rcases hb with e | e
    · rw [e] at hu; exact h.ap x hx hu
    · rw [e] at hu; obtain rfl := Option.some.inj hu; have := (la _ hx).2; omega
/-- The second one is cut at its end. -/
theorem TwoR.cut2 {w0 : World} {B : Nat} {e1 e2 : TypeId} {v : Value} {n : Nat} {xs : List Value} {a : Option Addr} {m c : Nat} {l : List Int} {w : World} (h : TwoR w0 B e1 e2 v n xs (.slice a m c) m (nums .i64 l) w) (k : Nat) (hk : k ≤ m) : TwoR w0 B e1 e2 v n xs (.slice a k c) k (nums .i64 (l.take k)) w :=
  ⟨h.a, own_cut h.b k hk, fun x hx hu => h.ap x hx (by cases a <;> exact hu), h.bel, h.base⟩
end Go.Proofs.YtpbminoefmpmpaaDoor
