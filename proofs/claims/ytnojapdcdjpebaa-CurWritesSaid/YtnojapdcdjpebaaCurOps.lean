/- The calls that came in: a slice of Op. -/
import Derived.Test.YtnojapdcdjpebaaStructs
import Derived.Test.YtnojapdcdjpebaaCurMeth
import Derived.Test.YtnojapdcdjpebaaCurMore
import Derived.Test.YtnojapdcdjpebaaCurRefMore
namespace Go.Proofs.Ytnojapdcdjpebaa
open Go.RowKit
set_option linter.unusedVariables false

/-- The slice reads as so many calls: kinds K, numbers M, texts Z. -/
def OpRow (w : World) (r : Option Addr) (len : Nat) (K M : Nat → Int) (Z : Nat → ByteArray) : Prop :=
  len = 0 ∨ ∃ b off, r = some ⟨b, off, none⟩ ∧ b < w.heap.size ∧ ∀ i, i < len →
    w.cell? ⟨b, off + i * 3, none⟩ = some (.int .i64 (K i)) ∧ w.cell? ⟨b, off + (i * 3 + 1), none⟩ = some (.int .i64 (M i)) ∧ w.cell? ⟨b, off + (i * 3 + 2), none⟩ = some (.string (Z i)) ∧
    (Lit.int .i64 (M i)).wf = true ∧ (Z i).size ≤ maxLen
def OpSl (w : World) (r : Option Addr) (len cap : Nat) : Prop := len ≤ cap ∧ cap ≤ maxLen ∧ ∃ K M Z, OpRow w r len K M Z
theorem OpRow.below {w w' : World} {r : Option Addr} {len : Nat} {K M : Nat → Int} {Z : Nat → ByteArray} (h : OpRow w r len K M Z) (hb : Below w.heap.size w w') : OpRow w' r len K M Z := by
  rcases h with h | ⟨b, off, hr, hlt, h⟩
  · exact .inl h
  · refine .inr ⟨b, off, hr, Nat.lt_of_lt_of_le hlt hb.size, fun i hi => ?_⟩
    obtain ⟨h0, h1, h2, h3⟩ := h i hi
    exact ⟨(hb.cell (p := ⟨b, _, none⟩) hlt).trans h0, (hb.cell (p := ⟨b, _, none⟩) hlt).trans h1, (hb.cell (p := ⟨b, _, none⟩) hlt).trans h2, h3⟩
theorem op_row {H : Type} {enc : TypeId × Value → H} {w : World} {fuel : Nat} {r : Option Addr} {len cap : Nat} {x : DataW H × List MemPlace}
    (h : DataW.trod enc Try.prog w 0 (fun _ => true) true fuel 23 [.slice r len cap] = some x) : OpSl w r len cap := by
  obtain ⟨h1, h2, h3⟩ := struct_row Try.underlying23 Try.underlying33 (by kernel_rfl) (by kernel_rfl) (by decide) h
  refine ⟨h1, h2, ?_⟩
  rcases h3 with rfl | ⟨b, off, rfl, hlt, h3⟩
  · exact ⟨fun _ => 0, fun _ => 0, fun _ => ⟨#[]⟩, .inl rfl⟩
  · have key : ∀ i, ∃ (k m : Int) (z : ByteArray), i < len → w.cell? ⟨b, off + i * 3, none⟩ = some (.int .i64 k) ∧ w.cell? ⟨b, off + (i * 3 + 1), none⟩ = some (.int .i64 m) ∧ w.cell? ⟨b, off + (i * 3 + 2), none⟩ = some (.string z) ∧ (Lit.int .i64 m).wf = true ∧ z.size ≤ maxLen := by
      intro i
      by_cases hi : i < len
      · obtain ⟨v0, y0, n0, c0, t0⟩ := h3 i hi 0 _ rfl
        obtain ⟨v1, y1, n1, c1, t1⟩ := h3 i hi 1 _ rfl
        obtain ⟨v2, y2, n2, c2, t2⟩ := h3 i hi 2 _ rfl
        obtain ⟨k, e0, _, _⟩ := DataW.trod_int Try.underlying3 t0
        obtain ⟨m, e1, _, wm⟩ := DataW.trod_int Try.underlying3 t1
        obtain ⟨z, e2, _, wz⟩ := DataW.trod_string Try.underlying9 t2
        simp at e0 e1 e2
        subst e0 e1 e2
        exact ⟨k, m, z, fun _ => ⟨c0, c1, c2, wm, wz⟩⟩
      · exact ⟨0, 0, ⟨#[]⟩, fun h => absurd h hi⟩
    refine ⟨fun i => Classical.choose (key i), fun i => Classical.choose (Classical.choose_spec (key i)), fun i => Classical.choose (Classical.choose_spec (Classical.choose_spec (key i))), .inr ⟨b, off, rfl, hlt, fun i hi => ?_⟩⟩
    exact Classical.choose_spec (Classical.choose_spec (Classical.choose_spec (key i))) hi
end Go.Proofs.Ytnojapdcdjpebaa
