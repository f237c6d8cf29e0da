/- Slices of slices of bytes that came in. -/
import Derived.Test.YtplgfghffeijcaaKit
import Derived.Test.YtplgfghffeijcaaStr
import Derived.Deep.Matrix
namespace Go.Proofs.Ytplgfghffeijcaa
open Go.RowKit Go.ChangeShapes Go.WideShapes Go.Deep
set_option linter.unusedVariables false

/-- The slice reads as so many rows of bytes: where, how many, with what room, which. -/
def BytRow (w : World) (r : Option Addr) (len : Nat) (A : Nat → Option Addr) (L C : Nat → Nat) (Z : Nat → List Int) : Prop :=
  len = 0 ∨ ∃ b off, r = some ⟨b, off, none⟩ ∧ b < w.heap.size ∧ ∀ i, i < len →
    w.cell? ⟨b, off + i, none⟩ = some (.slice (A i) (L i) (C i)) ∧ L i ≤ C i ∧ C i ≤ maxLen ∧ (Z i).length = L i ∧ (∀ n ∈ Z i, (Lit.int .u8 n).wf = true) ∧ Sees .u8 w.heap.size w (A i) (Z i)
def BytSl (w : World) (r : Option Addr) (len cap : Nat) : Prop := len ≤ cap ∧ cap ≤ maxLen ∧ ∃ A L C Z, BytRow w r len A L C Z
theorem spot_none {w : World} {a : Addr} {v : Value} (h : w.cell? (a.add 0) = some v) : a.spot = none := by
  have := World.cell?_spot h
  simpa [Addr.add] using this
theorem add_plain (b off i : Nat) : (⟨b, off, none⟩ : Addr).add i = ⟨b, off + i, none⟩ := by unfold Addr.add; split <;> simp_all
theorem byt_row {H : Type} {enc : TypeId × Value → H} {P : Program} {w : World} {fuel : Nat} {t e q : TypeId} {r : Option Addr} {len cap : Nat} {x : DataW H × List MemPlace}
    (ht : P.underlying t = some (.slice e)) (he : P.underlying e = some (.slice q)) (hq : P.underlying q = some (.int .u8)) (ce : P.cellsOf e = 1) (cq : P.cellsOf q = 1)
    (h : DataW.trod enc P w 0 (fun _ => true) true fuel t [.slice r len cap] = some x) : BytSl w r len cap := by
  rcases open_int_rows ht he hq ce cq h with ⟨hcs, _⟩ | ⟨a, l, c, A, L, C, Z, hcs, hb, hl, hm, hx, hi⟩
  · simp at hcs
    obtain ⟨rfl, rfl, rfl⟩ := hcs
    exact ⟨Nat.le_refl _, by simp, fun _ => none, fun _ => 0, fun _ => 0, fun _ => [], .inl rfl⟩
  · simp at hcs
    obtain ⟨rfl, rfl, rfl⟩ := hcs
    refine ⟨hl, hm, A, L, C, fun i => (Z i).take (L i), ?_⟩
    by_cases hz : len = 0
    · exact .inl hz
    right
    obtain ⟨b, off, spot⟩ := a
    obtain ⟨h0, -⟩ := hi 0 (by omega)
    have hs : spot = none := spot_none h0
    subst hs
    rw [add_plain] at h0
    refine ⟨b, off, rfl, World.block_lt_of_cell? w _ h0, fun i hil => ?_⟩
    obtain ⟨h1, h2, h3, h4, h5, h6, h7⟩ := hi i (by omega)
    rw [add_plain] at h1
    refine ⟨h1, h2, h3, by simp; omega, fun n hn => h5 n (List.mem_of_mem_take hn), ?_⟩
    by_cases hL : L i = 0
    · left; simp [hL]
    · right
      cases hA : A i with
      | none => have := h6 hA; omega
      | some a' =>
        obtain ⟨-, hc⟩ := h7 a' hA
        obtain ⟨b', off', spot'⟩ := a'
        have h8 := hc 0 (by omega)
        have hs : spot' = none := spot_none h8
        subst hs
        rw [add_plain] at h8
        refine ⟨b', off', rfl, World.block_lt_of_cell? w _ h8, fun j hj => ?_⟩
        have hj' : j < L i := by simp at hj; omega
        have h9 := hc j (by omega)
        rw [add_plain] at h9
        rw [h9]
        simp [List.getD, hj']
theorem BytRow.at_ {w w' : World} {r : Option Addr} {len : Nat} {A : Nat → Option Addr} {L C : Nat → Nat} {Z : Nat → List Int} (h : BytRow w r len A L C Z) (hb : Below w.heap.size w w') {i : Nat} (hi : i < len) :
    ∃ b off, r = some ⟨b, off, none⟩ ∧ b < w.heap.size ∧ w'.cell? ⟨b, off + i, none⟩ = some (.slice (A i) (L i) (C i)) ∧ L i ≤ C i ∧ C i ≤ maxLen ∧ (Z i).length = L i ∧ (∀ n ∈ Z i, (Lit.int .u8 n).wf = true) ∧ Sees .u8 w.heap.size w' (A i) (Z i) := by
  rcases h with h | ⟨b, off, hr, hlt, h⟩
  · omega
  · obtain ⟨h1, h2, h3, h4, h5, h6⟩ := h i hi
    exact ⟨b, off, hr, hlt, (hb.cell (p := ⟨b, _, none⟩) hlt).trans h1, h2, h3, h4, h5, h6.below hb⟩

theorem str_append (a b : List Int) : strOfNums (a ++ b) = strOfNums a ++ strOfNums b := by
  apply ByteArray.ext
  apply Array.toList_inj.1
  simp [ByteArray.data_append, strOfNums_data]
theorem str_take (a : List Int) (k : Nat) : (strOfNums a).extract 0 k = strOfNums (a.take k) := by
  apply ByteArray.ext
  apply Array.toList_inj.1
  rw [ByteArray.data_extract, Array.toList_extract, List.extract_eq_take_drop, strOfNums_data, strOfNums_data]
  simp [List.map_take]
end Go.Proofs.Ytplgfghffeijcaa
