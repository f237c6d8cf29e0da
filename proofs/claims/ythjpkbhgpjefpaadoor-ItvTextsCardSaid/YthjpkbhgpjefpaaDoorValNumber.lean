/- A value of a text: the document's. -/
import Derived.Test.YthjpkbhgpjefpaaDoorValParse
namespace Go.Proofs.YthjpkbhgpjefpaaDoor
open Go.RowKit
set_option linter.unusedVariables false

def negS (s : List UInt8) : Bool := s.head? == some 45
/-- The number that digits say, with a sign or without. -/
def numS (s : List UInt8) : Option Int :=
  if s.length = 0 ∨ 17 < s.length then none
  else if negS s then (if ∀ c ∈ s.drop 1, isDig c then some (-(val10 (s.drop 1) : Int)) else none)
  else (if ∀ c ∈ s.drop 0, isDig c then some (val10 (s.drop 0) : Int) else none)
def numN (s : List UInt8) : Int := (numS s).getD 0
def numOK (s : List UInt8) : Bool := match numS s with | some n => decide (Lib.itoa n = s) | none => false
theorem num_none {s : List UInt8} (h : numS s = none) : numN s = 0 ∧ numOK s = false := by unfold numN numOK; rw [h]; exact ⟨rfl, rfl⟩
theorem num_some {s : List UInt8} {n : Int} (h : numS s = some n) : numN s = n ∧ numOK s = decide (Lib.itoa n = s) := by unfold numN numOK; rw [h]; exact ⟨rfl, rfl⟩
theorem numS_long {s : List UInt8} (h : s.length = 0 ∨ 17 < s.length) : numS s = none := by unfold numS; rw [if_pos h]
theorem numS_neg {s : List UInt8} (h : ¬ (s.length = 0 ∨ 17 < s.length)) (h2 : negS s = true) : numS s = if ∀ c ∈ s.drop 1, isDig c then some (-(val10 (s.drop 1) : Int)) else none := by unfold numS; rw [if_neg h, if_pos h2]
theorem numS_pos {s : List UInt8} (h : ¬ (s.length = 0 ∨ 17 < s.length)) (h2 : negS s = false) : numS s = if ∀ c ∈ s.drop 0, isDig c then some (val10 (s.drop 0) : Int) else none := by unfold numS; rw [if_neg h, if_neg (by rw [h2]; decide)]
theorem str_beq (a b : ByteArray) : (a.toList == b.toList) = decide (a.data.toList = b.data.toList) := by
  rw [ByteArray.toList_eq, ByteArray.toList_eq, Bool.eq_iff_iff, beq_iff_eq, decide_eq_true_iff]
theorem p10 {n k : Nat} (hk : k ≤ 17) (h : n < 10 ^ k) : n < 100000000000000000 := Nat.lt_of_lt_of_le h (Nat.le_trans (Nat.pow_le_pow_right (by omega) hk) (by decide))

set_option maxHeartbeats 1000000 in
theorem number_any (s : ByteArray) (hm : s.size ≤ 1000) (w : World) : Calls Tryd.prog 61 #[.string s] w fun e w' => e = .returned (.tuple #[.int .i64 (numN s.data.toList), .bool (numOK s.data.toList)]) ∧ w = w' := by
  have hlen : s.data.toList.length = s.size := by rw [Array.length_toList]; rfl
  by_cases hlong : s.size = 0 ∨ 17 < s.size
  · have hz := Lib.hid (num_none (numS_long (show s.data.toList.length = 0 ∨ 17 < s.data.toList.length by omega)))
    generalize numN s.data.toList = N at *
    generalize numOK s.data.toList = O at *
    rcases hlong with h | h
    · have d1 : ((s.size : Int) == 0) = true := by rw [beq_iff_eq]; omega
      go_enter Tryd.func61, Tryd.ntmps61
      go_wp2
      go_ret2
      exact ⟨by rw [hz.out.1, hz.out.2]; rfl, rfl⟩
    · have d1 : ((s.size : Int) == 0) = false := by rw [beq_eq_false_iff_ne]; omega
      have d2 : decide ((17 : Int) < (s.size : Int)) = true := by simp; omega
      go_enter Tryd.func61, Tryd.ntmps61
      go_wp2
      go_ret2
      exact ⟨by rw [hz.out.1, hz.out.2]; rfl, rfl⟩
  · have h0 : 0 < s.size := by omega
    have h17 : s.size ≤ 17 := by omega
    have d1 : ((s.size : Int) == 0) = false := by rw [beq_eq_false_iff_ne]; omega
    have d2 : decide ((17 : Int) < (s.size : Int)) = false := by simp; omega
    have hb := byte_at s
    have hlong2 : ¬ (s.data.toList.length = 0 ∨ 17 < s.data.toList.length) := by omega
    have hn : negS s.data.toList = (((s[0]'h0).toNat : Int) == 45) := by
      have h1 := hb 0 h0
      unfold negS
      rw [List.head?_eq_getElem?, h1, Bool.eq_iff_iff, beq_iff_eq, beq_iff_eq, Option.some.injEq]
      constructor
      · intro h; rw [h]; rfl
      · intro h; apply UInt8.toNat_inj.1; show _ = 45; omega
    have hN := Lib.hid hlong2
    by_cases hneg : ((s[0]'h0).toNat : Int) = 45
    · have d3 : (((s[0]'h0).toNat : Int) == 45) = true := by simp [hneg]
      have hS := numS_neg hlong2 (hn.trans d3)
      have hno := fun (k : Nat) (c : UInt8) (h1 : s.data.toList[k]? = some c) (hk : 1 ≤ k) (h2 : ¬ isDig c) => num_none (hS.trans (if_neg fun h => h2 (h c (by
        have : c ∈ s.data.toList.drop 1 := List.mem_of_getElem? (i := k - 1) (by rw [List.getElem?_drop, show 1 + (k - 1) = k by omega]; exact h1)
        exact this))))
      have hyes := fun (h : ∀ c ∈ s.data.toList.drop 1, isDig c) => num_some (hS.trans (if_pos h))
      have hsb := str_beq
      have hdl : (s.data.toList.drop 1).length = s.size - 1 := by rw [List.length_drop, hlen]
      have hstep := fun (k : Nat) (c : UInt8) (h1 : s.data.toList[k]? = some c) (hk : 1 ≤ k) => take_snoc (l := s.data.toList.drop 1) (k := k - 1) (c := c) (by rw [List.getElem?_drop, show 1 + (k - 1) = k by omega]; exact h1)
      generalize numN s.data.toList = N at *
      generalize numOK s.data.toList = O at *
      have hno' := Lib.hid hno
      have hyes' := Lib.hid hyes
      have hsb' := Lib.hid hsb
      have hstep' := Lib.hid hstep
      have hb' := Lib.hid hb
      have hdl' := Lib.hid hdl
      clear hno hyes hsb hstep hb hS hn hlong2 hlong hdl hlen
      generalize hR : s.data.toList.drop 1 = R at *
      go_enter Tryd.func61, Tryd.ntmps61
      go_wp2
      go_loop [5, 6] (fun a i => ∃ (k n : Nat), 1 ≤ k ∧ k ≤ s.size ∧ Hid (n = val10 (R.take (k - 1))) ∧ Hid (n < 10 ^ (k - 1)) ∧ Hid (∀ c ∈ R.take (k - 1), isDig c) ∧ n < 100000000000000000 ∧ a = .int .i64 n ∧ i = .int .i64 k) (fun _ i => s.size - (intOf i).toNat)
      case atStart => exact ⟨1, 0, by omega, by omega, Lib.hid (by simp [val10]), Lib.hid (by simp), Lib.hid (by simp), by omega, rfl, rfl⟩
      case round =>
        obtain ⟨k, n, hfk, hk, hv, hp, hd, hnb, rfl, rfl⟩ := hrel
        by_cases hlt : k < s.size
        · have hc := hb'.out k hlt
          have hst := hstep'.out k _ hc hfk
          have hnn := hno'.out k _ hc hfk
          obtain ⟨c, hcE⟩ : ∃ c, c = s[k]'hlt := ⟨_, rfl⟩
          rw [← hcE] at hc hst hnn
          obtain ⟨x, hx⟩ : ∃ x, x = c.toNat := ⟨_, rfl⟩
          have hcx : ((s[k]'hlt).toNat : Int) = (x : Int) := by rw [← hcE, hx]
          have hx' := Lib.hid hx
          have hnat : x ≤ 255 := by rw [hx]; have := c.toNat_lt; omega
          by_cases hdig : isDig c
          · have hxd : 48 ≤ x ∧ x ≤ 57 := by rw [hx]; exact hdig
            have e1 : k + 1 - 1 = k - 1 + 1 := by omega
            have hd2 := Lib.hid (show ∀ z ∈ R.take (k + 1 - 1), isDig z by
              rw [e1, hst]
              intro z hz
              rcases List.mem_append.1 hz with hz | hz
              · exact hd.out z hz
              · rw [List.mem_singleton] at hz; subst hz; exact hdig)
            have hv2 := Lib.hid (show 10 * n + (x - 48) = val10 (R.take (k + 1 - 1)) by rw [e1, hst, val10_snoc, ← hv.out, hx'.out])
            have hp2 := Lib.hid (show 10 * n + (x - 48) < 10 ^ (k + 1 - 1) by rw [e1, Nat.pow_succ]; have := hp.out; omega)
            have hnb2 : 10 * n + (x - 48) < 100000000000000000 := p10 (k := k + 1 - 1) (by omega) hp2.out
            clear hc hst hnn hdig hx e1 hcE
            go_wp2
            go_round
            case rel => exact ⟨k + 1, 10 * n + (x - 48), by omega, by omega, hv2, hp2, hd2, hnb2, by go_num, by go_num⟩
            case measure => simp [intOf]; omega
          · have hz := Lib.hid (hnn hdig)
            have hxd : x < 48 ∨ 57 < x := by rw [hx]; unfold isDig at hdig; omega
            clear hc hst hnn hdig hx hcE
            rcases hxd with hxd | hxd
            · have d4 : decide ((x : Int) < 48) = true := by simp; omega
              go_wp2
              go_ret2
              exact ⟨by rw [hz.out.1, hz.out.2]; rfl, rfl⟩
            · have d4 : decide ((x : Int) < 48) = false := by simp; omega
              have d5 : decide ((57 : Int) < (x : Int)) = true := by simp; omega
              go_wp2
              go_ret2
              exact ⟨by rw [hz.out.1, hz.out.2]; rfl, rfl⟩
        · have htk : R.take (k - 1) = R := List.take_of_length_le (by rw [hdl'.out]; omega)
          rw [htk] at hd hv
          have hy := Lib.hid (hyes'.out hd.out)
          have hit := Lib.hid (fun w => digits_any (-(n : Int)) (by omega) (by omega) w)
          have hsb2 := Lib.hid (hsb'.out (strB (Lib.itoa (-(n : Int)))) s)
          rw [← hv.out] at hy
          clear htk
          go_wp2_with fail
          refine (hit.out _).mono ?_
          rintro e w' ⟨rfl, rfl⟩
          go_wp2
          go_ret2
          exact ⟨by rw [hy.out.1, hy.out.2]; exact congrArg (fun b => Ending.returned (.tuple #[.int .i64 (-(n : Int)), .bool b])) hsb2.out, rfl⟩
    · have d3 : (((s[0]'h0).toNat : Int) == 45) = false := by simp [hneg]
      have hS := numS_pos hlong2 (hn.trans d3)
      have hno := fun (k : Nat) (c : UInt8) (h1 : s.data.toList[k]? = some c) (hk : 0 ≤ k) (h2 : ¬ isDig c) => num_none (hS.trans (if_neg fun h => h2 (h c (by
        have : c ∈ s.data.toList.drop 0 := List.mem_of_getElem? (i := k - 0) (by rw [List.getElem?_drop, show 0 + (k - 0) = k by omega]; exact h1)
        exact this))))
      have hyes := fun (h : ∀ c ∈ s.data.toList.drop 0, isDig c) => num_some (hS.trans (if_pos h))
      have hsb := str_beq
      have hdl : (s.data.toList.drop 0).length = s.size - 0 := by rw [List.length_drop, hlen]
      have hstep := fun (k : Nat) (c : UInt8) (h1 : s.data.toList[k]? = some c) (hk : 0 ≤ k) => take_snoc (l := s.data.toList.drop 0) (k := k - 0) (c := c) (by rw [List.getElem?_drop, show 0 + (k - 0) = k by omega]; exact h1)
      generalize numN s.data.toList = N at *
      generalize numOK s.data.toList = O at *
      have hno' := Lib.hid hno
      have hyes' := Lib.hid hyes
      have hsb' := Lib.hid hsb
      have hstep' := Lib.hid hstep
      have hb' := Lib.hid hb
      have hdl' := Lib.hid hdl
      clear hno hyes hsb hstep hb hS hn hlong2 hlong hdl hlen
      generalize hR : s.data.toList.drop 0 = R at *
      go_enter Tryd.func61, Tryd.ntmps61
      go_wp2
      go_loop [5, 6] (fun a i => ∃ (k n : Nat), 0 ≤ k ∧ k ≤ s.size ∧ Hid (n = val10 (R.take (k - 0))) ∧ Hid (n < 10 ^ (k - 0)) ∧ Hid (∀ c ∈ R.take (k - 0), isDig c) ∧ n < 100000000000000000 ∧ a = .int .i64 n ∧ i = .int .i64 k) (fun _ i => s.size - (intOf i).toNat)
      case atStart => exact ⟨0, 0, by omega, by omega, Lib.hid (by simp [val10]), Lib.hid (by simp), Lib.hid (by simp), by omega, rfl, rfl⟩
      case round =>
        obtain ⟨k, n, hfk, hk, hv, hp, hd, hnb, rfl, rfl⟩ := hrel
        by_cases hlt : k < s.size
        · have hc := hb'.out k hlt
          have hst := hstep'.out k _ hc hfk
          have hnn := hno'.out k _ hc hfk
          obtain ⟨c, hcE⟩ : ∃ c, c = s[k]'hlt := ⟨_, rfl⟩
          rw [← hcE] at hc hst hnn
          obtain ⟨x, hx⟩ : ∃ x, x = c.toNat := ⟨_, rfl⟩
          have hcx : ((s[k]'hlt).toNat : Int) = (x : Int) := by rw [← hcE, hx]
          have hx' := Lib.hid hx
          have hnat : x ≤ 255 := by rw [hx]; have := c.toNat_lt; omega
          by_cases hdig : isDig c
          · have hxd : 48 ≤ x ∧ x ≤ 57 := by rw [hx]; exact hdig
            have e1 : k + 1 - 0 = k - 0 + 1 := by omega
            have hd2 := Lib.hid (show ∀ z ∈ R.take (k + 1 - 0), isDig z by
              rw [e1, hst]
              intro z hz
              rcases List.mem_append.1 hz with hz | hz
              · exact hd.out z hz
              · rw [List.mem_singleton] at hz; subst hz; exact hdig)
            have hv2 := Lib.hid (show 10 * n + (x - 48) = val10 (R.take (k + 1 - 0)) by rw [e1, hst, val10_snoc, ← hv.out, hx'.out])
            have hp2 := Lib.hid (show 10 * n + (x - 48) < 10 ^ (k + 1 - 0) by rw [e1, Nat.pow_succ]; have := hp.out; omega)
            have hnb2 : 10 * n + (x - 48) < 100000000000000000 := p10 (k := k + 1 - 0) (by omega) hp2.out
            clear hc hst hnn hdig hx e1 hcE
            go_wp2
            go_round
            case rel => exact ⟨k + 1, 10 * n + (x - 48), by omega, by omega, hv2, hp2, hd2, hnb2, by go_num, by go_num⟩
            case measure => simp [intOf]; omega
          · have hz := Lib.hid (hnn hdig)
            have hxd : x < 48 ∨ 57 < x := by rw [hx]; unfold isDig at hdig; omega
            clear hc hst hnn hdig hx hcE
            rcases hxd with hxd | hxd
            · have d4 : decide ((x : Int) < 48) = true := by simp; omega
              go_wp2
              go_ret2
              exact ⟨by rw [hz.out.1, hz.out.2]; rfl, rfl⟩
            · have d4 : decide ((x : Int) < 48) = false := by simp; omega
              have d5 : decide ((57 : Int) < (x : Int)) = true := by simp; omega
              go_wp2
              go_ret2
              exact ⟨by rw [hz.out.1, hz.out.2]; rfl, rfl⟩
        · have htk : R.take (k - 0) = R := List.take_of_length_le (by rw [hdl'.out]; omega)
          rw [htk] at hd hv
          have hy := Lib.hid (hyes'.out hd.out)
          have hit := Lib.hid (fun w => digits_any ((n : Int)) (by omega) (by omega) w)
          have hsb2 := Lib.hid (hsb'.out (strB (Lib.itoa ((n : Int)))) s)
          rw [← hv.out] at hy
          clear htk
          go_wp2_with fail
          refine (hit.out _).mono ?_
          rintro e w' ⟨rfl, rfl⟩
          go_wp2
          go_ret2
          exact ⟨by rw [hy.out.1, hy.out.2]; exact congrArg (fun b => Ending.returned (.tuple #[.int .i64 ((n : Int)), .bool b])) hsb2.out, rfl⟩
end Go.Proofs.YthjpkbhgpjefpaaDoor
