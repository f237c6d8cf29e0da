/- Zones changed: Let, the program's and the document's. -/
import Derived.Test.YtacbkddkjlnklaaZoneLetMath
namespace Go.Proofs.Ytacbkddkjlnklaa
open Go.RowKit
set_option linter.unusedVariables false
set_option linter.unusedSimpArgs false

theorem mov_far {n : Nat} {l : List Int} (hz : IsZ n l) {i : Nat} (hi0 : 1 ≤ i) (hi : i ≤ n) (c : Int) (hc : 2199023255552 < c ∨ c < -2199023255552) : letMovL n l i c = [] := by
  unfold letMovL stepL
  split
  · rfl
  · rename_i hne
    have hF := hz.2.resolve_left hne
    by_cases e : closedL n (movL n l i c) = []
    · exact e
    · have fA := closed_full hF.le e
      obtain ⟨-, -, h5⟩ := closedL_is e
      have hlen : l.length = (n + 1) * (n + 1) := hF.len
      have a1 := h5 i 0 hi (Nat.zero_le n)
      have a2 := h5 0 i (Nat.zero_le n) hi
      unfold clipL at a1 a2
      rw [mat_matL _ hi (Nat.zero_le n)] at a1
      rw [mat_matL _ (Nat.zero_le n) hi] at a2
      unfold clipF at a1 a2
      rw [show mat n (movL n l i c) i 0 = _ from othK_at (F := fun x => x + c) (G := fun x => x - c) hi hlen (n + 1) (by omega) i 0 hi (Nat.zero_le n), if_pos (by omega)] at a1
      rw [show mat n (movL n l i c) 0 i = _ from othK_at (F := fun x => x + c) (G := fun x => x - c) hi hlen (n + 1) (by omega) 0 i (Nat.zero_le n) hi, if_neg (by omega), if_pos (by omega)] at a2
      have b1 := fA.low hi (Nat.zero_le n)
      have b2 := fA.low (Nat.zero_le n) hi
      have c1 := hF.up hi (Nat.zero_le n)
      have c2 := hF.up (Nat.zero_le n) hi
      have w1 : widestF i 0 = 1099511627776 := by unfold widestF; rw [if_neg (by omega), if_pos (by omega)]
      have w2 : widestF 0 i = 1099511627776 := by unfold widestF; rw [if_neg (by omega), if_pos (by omega)]
      omega
/-- A variable that is another one and a number, or itself and a number. -/
def letL (n : Nat) (l : List Int) (i j : Nat) (c : Int) : List Int := if i = j then letMovL n l i c else letTieL n l i j c
theorem letL_isz {n : Nat} (hn : n ≤ 8) (l : List Int) (i j : Nat) (c : Int) : IsZ n (letL n l i j c) := by
  unfold letL
  split
  · exact stepL_isz hn _ _
  · exact stepL_isz hn _ _
theorem letL_far {n : Nat} {l : List Int} (hz : IsZ n l) {i j : Nat} (hi0 : 1 ≤ i) (hi : i ≤ n) (hj : j ≤ n) (c : Int) (hc : 2199023255552 < c ∨ c < -2199023255552) : letL n l i j c = [] := by
  unfold letL
  split
  · exact mov_far hz hi0 hi c hc
  · exact tie_far hz.1 l hi hj c hc
theorem letL_nil (n i j : Nat) (c : Int) : letL n [] i j c = [] := by
  unfold letL letMovL letTieL stepL
  simp
theorem zlet_ok (n : Nat) (l : List Int) (hz : IsZ n l) (i j : Nat) (hi0 : 1 ≤ i) (hi : i ≤ n) (hj : j ≤ n) (c : Int) (a : Option Addr) (m ca : Nat) (w : World) (h : SL w a m ca l) : Calls Try.prog 23 #[.agg #[.int .i64 n, .slice a m ca], .int .i64 i, .int .i64 j, .int .i64 c] w (ZoneE n (letL n l i j c) 0 w) := by
  by_cases hij : i = j
  · subst hij
    by_cases h1 : c ≤ -4398046511104
    · have := zlet_mov_lo n l hz i hi0 hi c a m ca w h h1
      rw [mov_far hz hi0 hi _ (by omega)] at this
      rw [letL_far hz hi0 hi hj c (by omega)]
      exact this
    · by_cases h2 : 4398046511104 ≤ c
      · have := zlet_mov_hi n l hz i hi0 hi c a m ca w h h2
        rw [mov_far hz hi0 hi _ (by omega)] at this
        rw [letL_far hz hi0 hi hj c (by omega)]
        exact this
      · unfold letL
        rw [if_pos rfl]
        exact zlet_mov_in n l hz i hi0 hi c a m ca w h (by omega) (by omega)
  · by_cases h1 : c ≤ -4398046511104
    · have := zlet_tie_lo n l hz i j hi0 hi hj c a m ca w h hij h1
      rw [tie_far hz.1 l hi hj _ (by omega)] at this
      rw [letL_far hz hi0 hi hj c (by omega)]
      exact this
    · by_cases h2 : 4398046511104 ≤ c
      · have := zlet_tie_hi n l hz i j hi0 hi hj c a m ca w h hij h2
        rw [tie_far hz.1 l hi hj _ (by omega)] at this
        rw [letL_far hz hi0 hi hj c (by omega)]
        exact this
      · unfold letL
        rw [if_neg hij]
        exact zlet_tie_in n l hz i j hi0 hi hj c a m ca w h hij (by omega) (by omega)
theorem rlet_any (n : Nat) (l : List Int) (hz : IsZ n l) (i j : Nat) (hi0 : 1 ≤ i) (hi : i ≤ n) (hj : j ≤ n) (c : Int) (a : Option Addr) (m ca : Nat) (w : World) (h : SL w a m ca l) : Calls Try.prog 31 #[.agg #[.int .i64 n, .slice a m ca], .int .i64 i, .int .i64 j, .int .i64 c] w (ZoneN n (letL n l i j c) w) := by
  have hm : m ≤ 81 := by have := hz.small; rw [h.len]; exact this
  by_cases hc : 2199023255552 < c ∨ c < -2199023255552
  · rw [letL_far hz hi0 hi hj c hc]
    exact rlet_far n i j c a m ca w (by omega) (by omega)
  · rcases hz.2 with e | hF
    · have hm0 : m = 0 := by rw [h.len, e]; rfl
      rw [e, letL_nil]
      exact rlet_far n i j c a m ca w (by omega) (by omega)
    · by_cases hij : i = j
      · subst hij
        unfold letL letMovL stepL
        rw [if_pos rfl, if_neg hF.ne]
        exact rlet_eq n l hF i hi c (by omega) (by omega) a m ca w h
      · unfold letL
        rw [if_neg hij, tie_both hF.le l hi hj c]
        exact rlet_ne n l hF i j hi hj hij c (by omega) (by omega) a m ca w h
end Go.Proofs.Ytacbkddkjlnklaa
