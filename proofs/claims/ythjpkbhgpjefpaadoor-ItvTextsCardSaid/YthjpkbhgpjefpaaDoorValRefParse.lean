/- The document's Parse of a value. -/
import Derived.Test.YthjpkbhgpjefpaaDoorValNumber
namespace Go.Proofs.YthjpkbhgpjefpaaDoor
open Go.RowKit
set_option linter.unusedVariables false

theorem numS_show {v : Int} (h0 : -1099511627776 < v) (h1 : v < 1099511627776) : numS (Lib.itoa v) = some v := by
  by_cases hv : v < 0
  · obtain ⟨u, rfl⟩ : ∃ u : Nat, v = -(u : Int) := ⟨v.natAbs, by omega⟩
    obtain ⟨e1, e2, _⟩ := show_val u
    have hl := canon_len e2 (by omega)
    rw [Lib.itoa_neg u (by omega), numS_neg (by simp; omega) (by simp [negS]), List.drop_one, List.tail_cons, if_pos e2.2.1, e1]
  · obtain ⟨u, rfl⟩ := Int.eq_ofNat_of_zero_le (show 0 ≤ v by omega)
    obtain ⟨e1, e2, _⟩ := show_val u
    have hl := canon_len e2 (by omega)
    have h2 : negS (Lib.decDigits u) = false := by
      generalize Lib.decDigits u = l at *
      cases l with
      | nil => rfl
      | cons c r =>
        unfold negS
        rw [beq_eq_false_iff_ne]
        intro e
        simp at e
        have h3 := e2.2.1 c (by simp)
        rw [e] at h3
        revert h3; decide
    have h3 : (Lib.decDigits u).length ≠ 0 := fun h => e2.1 (List.eq_nil_of_length_eq_zero h)
    rw [Lib.itoa_nonneg u, numS_pos (by omega) h2, List.drop_zero, if_pos e2.2.1, e1]
theorem num_parse {s : List UInt8} (h1 : numOK s = true) (h2 : -1099511627776 < numN s) (h3 : numN s < 1099511627776) : parseV s = some (numN s) := by
  cases hs : numS s with
  | none => rw [(num_none hs).2] at h1; cases h1
  | some n =>
    obtain ⟨e1, e2⟩ := num_some hs
    rw [e2, decide_eq_true_iff] at h1
    rw [e1] at h2 h3 ⊢
    refine (parseV_iff s n).2 ⟨by omega, ?_⟩
    rw [show_mid (by omega) (by omega), h1]
theorem num_no_parse {s : List UInt8} (hi : s ≠ infT) (hn : s ≠ ninfT) (h : numOK s = false ∨ numN s ≤ -1099511627776 ∨ 1099511627776 ≤ numN s) : parseV s = none := by
  cases hp : parseV s with
  | none => rfl
  | some v =>
    exfalso
    obtain ⟨⟨a, b⟩, hv⟩ := (parseV_iff s v).1 hp
    have n1 : v ≠ 1099511627776 := fun e => hi (by rw [← hv, show_max e])
    have n2 : v ≠ -1099511627776 := fun e => hn (by rw [← hv, show_min e])
    rw [show_mid n1 n2] at hv
    have hs := numS_show (v := v) (by omega) (by omega)
    rw [hv] at hs
    obtain ⟨e1, e2⟩ := num_some hs
    rw [e1, e2] at h
    rcases h with h | h | h
    · rw [decide_eq_false_iff_not] at h; exact h hv
    · omega
    · omega
theorem parse_of_some {s : List UInt8} {v : Int} (h : parseV s = some v) : parseN s = v ∧ (parseV s).isSome = true := by unfold parseN; rw [h]; exact ⟨rfl, rfl⟩
theorem parse_of_none {s : List UInt8} (h : parseV s = none) : parseN s = 0 ∧ (parseV s).isSome = false := by unfold parseN; rw [h]; exact ⟨rfl, rfl⟩

set_option maxHeartbeats 1000000 in
theorem refparse_any (s : ByteArray) (hm : s.size ≤ 1000) (w : World) : Calls Tryd.prog 52 #[.string s] w fun e w' => e = .returned (.tuple #[.int .i64 (parseN s.data.toList), .bool (parseV s.data.toList).isSome]) ∧ w = w' := by
  have htl : s.toList = s.data.toList := ByteArray.toList_eq ..
  by_cases hinf : s.data.toList = infT
  · have hv := Lib.hid (parse_of_some (show parseV s.data.toList = some 1099511627776 by rw [hinf]; decide +kernel))
    have h1 : (s.toList == [105, 110, 102]) = true := by rw [htl, hinf]; rfl
    generalize parseN s.data.toList = N at *
    generalize (parseV s.data.toList).isSome = V at *
    clear hinf htl
    go_enter Tryd.func52, Tryd.ntmps52
    go_wp2
    go_ret2
    exact ⟨by rw [hv.out.1, hv.out.2]; rfl, rfl⟩
  · have h1 : (s.toList == [105, 110, 102]) = false := by rw [htl, beq_eq_false_iff_ne]; exact hinf
    by_cases hninf : s.data.toList = ninfT
    · have hv := Lib.hid (parse_of_some (show parseV s.data.toList = some (-1099511627776) by rw [hninf]; decide +kernel))
      have h2 : (s.toList == [45, 105, 110, 102]) = true := by rw [htl, hninf]; rfl
      generalize parseN s.data.toList = N at *
      generalize (parseV s.data.toList).isSome = V at *
      clear hinf hninf htl
      go_enter Tryd.func52, Tryd.ntmps52
      go_wp2
      go_ret2
      exact ⟨by rw [hv.out.1, hv.out.2]; rfl, rfl⟩
    · have h2 : (s.toList == [45, 105, 110, 102]) = false := by rw [htl, beq_eq_false_iff_ne]; exact hninf
      have hnum := Lib.hid (fun w => number_any s hm w)
      have hyes := fun h1 h2 h3 => parse_of_some (num_parse (s := s.data.toList) h1 h2 h3)
      have hno := fun h => parse_of_none (num_no_parse hinf hninf h)
      generalize parseN s.data.toList = N at *
      generalize (parseV s.data.toList).isSome = V at *
      generalize numN s.data.toList = n at *
      generalize numOK s.data.toList = ok at *
      clear hinf hninf htl
      cases ok
      · have hv := Lib.hid (hno (.inl rfl))
        clear hyes hno
        go_enter Tryd.func52, Tryd.ntmps52
        go_wp2_with fail
        refine (hnum.out _).mono ?_
        rintro e w' ⟨rfl, rfl⟩
        go_wp2
        go_ret2
        exact ⟨by rw [hv.out.1, hv.out.2]; rfl, rfl⟩
      · by_cases hlo : n ≤ -1099511627776
        · have hv := Lib.hid (hno (.inr (.inl hlo)))
          have d1 : decide (n ≤ -1099511627776) = true := by simp; omega
          clear hyes hno
          go_enter Tryd.func52, Tryd.ntmps52
          go_wp2_with fail
          refine (hnum.out _).mono ?_
          rintro e w' ⟨rfl, rfl⟩
          go_wp2
          go_ret2
          exact ⟨by rw [hv.out.1, hv.out.2]; rfl, rfl⟩
        · have d1 : decide (n ≤ -1099511627776) = false := by simp; omega
          by_cases hhi : 1099511627776 ≤ n
          · have hv := Lib.hid (hno (.inr (.inr hhi)))
            have d2 : decide (1099511627776 ≤ n) = true := by simp; omega
            clear hyes hno
            go_enter Tryd.func52, Tryd.ntmps52
            go_wp2_with fail
            refine (hnum.out _).mono ?_
            rintro e w' ⟨rfl, rfl⟩
            go_wp2
            go_ret2
            exact ⟨by rw [hv.out.1, hv.out.2]; rfl, rfl⟩
          · have hv := Lib.hid (hyes rfl (by omega) (by omega))
            have d2 : decide (1099511627776 ≤ n) = false := by simp; omega
            clear hyes hno
            go_enter Tryd.func52, Tryd.ntmps52
            go_wp2_with fail
            refine (hnum.out _).mono ?_
            rintro e w' ⟨rfl, rfl⟩
            go_wp2
            go_ret2
            exact ⟨by rw [hv.out.1, hv.out.2]; rfl, rfl⟩
end Go.Proofs.YthjpkbhgpjefpaaDoor
