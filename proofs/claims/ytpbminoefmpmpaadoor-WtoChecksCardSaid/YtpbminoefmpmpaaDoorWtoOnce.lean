/- wto: points, each there once. -/
import Derived.Test.YtpbminoefmpmpaaDoorWtoSmall
namespace Go.Proofs.YtpbminoefmpmpaaDoor
open Go.RowKit
set_option linter.unusedVariables false
set_option linter.unusedSimpArgs false

/-- Which points were there among the first k. -/
def seenA (P : List Int) (k : Nat) : Array Value := ((List.range 128).map fun (x : Nat) => Value.bool ((P.take k).contains (x : Int))).toArray
theorem seen_zero (P : List Int) : seenA P 0 = (List.replicate 128 (Value.bool false)).toArray := by
  unfold seenA
  congr 1
theorem seen_size (P : List Int) (k : Nat) : (seenA P k).size = 128 := by simp [seenA]
theorem seen_at (P : List Int) (k x : Nat) (hx : x < 128) : (seenA P k)[x]? = some (.bool ((P.take k).contains (x : Int))) := by
  unfold seenA
  simp [hx]
theorem take_next (P : List Int) (k : Nat) (hk : k < P.length) : P.take (k + 1) = P.take k ++ [P.getD k 0] := by
  rw [List.take_succ_eq_append_getElem hk]
  simp [List.getD, hk]
theorem seen_set (P : List Int) (k x : Nat) (hk : k < P.length) (hx : x < 128) (he : P.getD k 0 = x) : (seenA P k).setIfInBounds x (.bool true) = seenA P (k + 1) := by
  apply Array.ext
  · simp [seenA]
  · intro i h1 h2
    have hi : i < 128 := by simpa [seenA] using h2
    have e1 := seen_at P k i hi
    have e2 := seen_at P (k + 1) i hi
    rw [Array.getElem?_eq_getElem h2] at e2
    have hs : i < (seenA P k).size := by rw [seen_size]; exact hi
    rw [Option.some.inj e2, Array.getElem_setIfInBounds hs]
    rw [take_next P k hk, he]
    by_cases e : x = i
    · subst e; simp
    · rw [if_neg e]
      rw [Array.getElem?_eq_getElem hs] at e1
      rw [Option.some.inj e1]
      have : ¬ ((x : Int) = (i : Int)) := by omega
      congr 1
      rw [List.contains_eq_any_beq, List.contains_eq_any_beq, List.any_append]
      have h3 : ((i : Int) == (x : Int)) = false := by simp; omega
      simp [h3]
theorem seen_iff (P : List Int) (k : Nat) (hk : k < P.length) : (P.take k).contains (P.getD k 0) = false ↔ ∀ j, j < k → P.getD j 0 ≠ P.getD k 0 := by
  constructor
  · intro h j hj he
    have : P.getD k 0 ∈ P.take k := by
      rw [← he]
      have hjl : j < P.length := by omega
      rw [show P.getD j 0 = P[j] by simp [List.getD, hjl]]
      exact List.mem_take_iff_getElem.2 ⟨j, by omega, rfl⟩
    rw [List.contains_iff_mem.2 this] at h
    cases h
  · intro h
    rw [Bool.eq_false_iff]
    intro hc
    obtain ⟨j, hj, he⟩ := List.mem_take_iff_getElem.1 (List.contains_iff_mem.1 hc)
    exact h j (by omega) (by rw [← he]; simp [List.getD, show j < P.length by omega])

set_option maxRecDepth 100000 in
set_option maxHeartbeats 2000000 in
theorem once_any (a : Option Addr) (n c : Nat) (P : List Int) (w : World) (h : SL w a n c P) :
    Calls Tryd.prog 26 #[.slice a n c] w (Gives (.bool (decide (onceP P n))) w) := by
  have hl := Lib.hid h.len
  have hm := h.max
  have hmi : (n : Int) ≤ 9223372036854775807 := by omega
  have hs := Lib.hid h.sees
  clear h
  go_enter Tryd.func26, Tryd.ntmps26
  go_wp2
  go_loopw [8] (fun x wr => ∃ k : Nat, k ≤ n ∧ x = .int .i64 k ∧ Hid (onceP P k) ∧ Hid (Holds wr w.heap.size 56 (seenA P k)) ∧ Hid (Below w.heap.size w wr)) (fun x _ => n - (intOf x).toNat)
  case atStart => exact ⟨0, by omega, rfl, Lib.hid (fun i hi => by omega), Lib.hid (by rw [seen_zero]; exact Holds.new w _ _), Lib.hid (box_below w _ _)⟩
  case round =>
    obtain ⟨k, hk, rfl, hO, hH, hB⟩ := hrel
    by_cases hlt : k < n
    · have hkl : k < P.length := by rw [← hl.out]; exact hlt
      obtain ⟨b, o, rfl, -, e1⟩ := sees_num (hs.out.below hB.out) hkl
      have hki : (k : Int) < (n : Int) := by omega
      have hno : Hid (¬ (0 ≤ P.getD k 0 ∧ P.getD k 0 ≤ 127 ∧ ∀ j, j < k → P.getD j 0 ≠ P.getD k 0) → decide (onceP P n) = false) := Lib.hid (fun hx => decide_eq_false (fun ho => hx (ho k hlt)))
      have hyes : Hid ((0 ≤ P.getD k 0 ∧ P.getD k 0 ≤ 127 ∧ ∀ j, j < k → P.getD j 0 ≠ P.getD k 0) → onceP P (k + 1)) := Lib.hid (fun hx => once_succ.2 ⟨hO.out, hx⟩)
      have hsn := Lib.hid (seen_iff P k hkl)
      have hset := Lib.hid (fun x hx he => seen_set P k x hkl hx he)
      have hat := Lib.hid (seen_at P k)
      have hfr := hH.out.free
      have hcl := Lib.hid hH.out.cell
      clear hO
      generalize hx : P.getD k 0 = x at *
      have hx' := Lib.hid hx
      clear hx
      by_cases h0 : x < 0
      · have hr := Lib.hid (hno.out (by omega))
        clear hno hyes hfr
        go_wp2
        go_ret
        exact ⟨by rw [hr.out]; rfl, hB.out⟩
      by_cases h1 : 128 ≤ x
      · have hr := Lib.hid (hno.out (by omega))
        clear hno hyes hfr
        go_wp2
        go_ret
        exact ⟨by rw [hr.out]; rfl, hB.out⟩
      obtain ⟨y, rfl⟩ : ∃ y : Nat, x = (y : Int) := ⟨x.toNat, by omega⟩
      have hy : y < 128 := by omega
      have hyi : (y : Int) < 128 := by omega
      have hy0 : (0 : Int) ≤ (y : Int) := by omega
      have c1 : wr.cell? ⟨w.heap.size, y, none⟩ = some (.bool ((P.take k).contains (y : Int))) := by rw [hcl.out, hat.out y hy]
      have f1 := hH.out.free y
      have hy1 := Lib.hid (hset.out y hy rfl)
      clear hfr hset hat hcl
      by_cases hc : (P.take k).contains (y : Int) = false
      · have hok := hyes.out ⟨by omega, by omega, hsn.out.1 hc⟩
        rw [hc] at c1
        have H2 := Lib.hid (hH.out.set y (.bool true))
        have B2 := Lib.hid (hB.out.setCell (p := ⟨w.heap.size, y, none⟩) (Nat.le_refl _) (.bool true))
        rw [hy1.out] at H2
        have hok' := Lib.hid hok
        clear hok hno hyes hsn hc
        go_wp2
        go_roundw
        case rel => exact ⟨k + 1, by omega, by go_num, hok', H2, B2⟩
        case measure => simp [intOf]; omega
      · have hc1 : (P.take k).contains (y : Int) = true := by simpa using hc
        have hr := Lib.hid (hno.out (fun h => hc (hsn.out.2 h.2.2)))
        rw [hc1] at c1
        clear hno hyes hsn hc hc1
        go_wp2
        go_ret
        exact ⟨by rw [hr.out]; rfl, hB.out⟩
    · obtain rfl : k = n := by omega
      have hr : Hid (decide (onceP P k) = true) := Lib.hid (decide_eq_true hO.out)
      clear hO
      go_wp2
      go_ret
      exact ⟨by rw [hr.out]; rfl, hB.out⟩
end Go.Proofs.YtpbminoefmpmpaaDoor
