/- crc.take, More, Sum and the document's. -/
import Derived.Test.YtnjdgnlgdokddaaRows
import Derived.Test.YtnjdgnlgdokddaaCrcMath
import Derived.Shelf.Spec.TrailingZeros
namespace Go.Proofs.Ytnjdgnlgdokddaa
open Go.RowKit
set_option linter.unusedVariables false

theorem u32_xor (a b : Nat) (ha : a < 4294967296) (hb : b < 4294967296) : bits .xor .u32 (a : Int) (b : Int) = ((a ^^^ b : Nat) : Int) := by
  have hx : a ^^^ b < 2 ^ 32 := Nat.xor_lt_two_pow (by omega) (by omega)
  have h1 : (BitVec.ofInt 32 (a : Int)).toNat = a := by
    rw [BitVec.ofInt_natCast, BitVec.toNat_ofNat]; exact Nat.mod_eq_of_lt (by omega)
  have h2 : (BitVec.ofInt 32 (b : Int)).toNat = b := by
    rw [BitVec.ofInt_natCast, BitVec.toNat_ofNat]; exact Nat.mod_eq_of_lt (by omega)
  show IntKind.u32.wrap ((BitVec.ofInt 32 (a : Int) ^^^ BitVec.ofInt 32 (b : Int)).toNat : Int) = _
  rw [BitVec.toNat_xor, h1, h2]
  simp [IntKind.wrap, IntKind.bits, IntKind.signed]; omega
theorem u32_not {n : Nat} (h : n < 4294967296) : bits .xor .u32 IntKind.u32.max (n : Int) = ((4294967295 - n : Nat) : Int) := by
  rw [show IntKind.u32.max = ((4294967295 : Nat) : Int) by rfl, u32_xor _ _ (by decide) h, show (4294967295 : Nat) = 2 ^ 32 - 1 by decide, nat_not (by omega)]
theorem u32_and1 {n : Nat} (h : n < 4294967296) : bits .and .u32 (n : Int) 1 = ((n % 2 : Nat) : Int) := by
  rw [show (1 : Int) = ((1 : Nat) : Int) by rfl, bits_and_u32_nat _ _ h (by decide), Nat.and_one_is_mod]

theorem step_walk {n : Nat} (h : n < 4294967296) : bits .xor .u32 ((n : Int) / 2) (bits .and .u32 2197175160 (-bits .and .u32 (n : Int) 1 % 4294967296)) = ((step n : Nat) : Int) := by
  rw [u32_and1 h, show ((n : Int) / 2) = ((n / 2 : Nat) : Int) by omega]
  unfold step
  by_cases h1 : n % 2 = 1
  · rw [h1, if_pos rfl, show bits .and .u32 2197175160 (-((1 : Nat) : Int) % 4294967296) = ((2197175160 : Nat) : Int) by decide +kernel, u32_xor _ _ (by omega) (by decide)]
  · rw [show n % 2 = 0 by omega, if_neg (by decide), show bits .and .u32 2197175160 (-((0 : Nat) : Int) % 4294967296) = ((0 : Nat) : Int) by decide +kernel, u32_xor _ _ (by omega) (by decide), Nat.xor_zero]

set_option maxHeartbeats 400000 in
theorem take_any (r c : Nat) (hr : r < 4294967296) (hc : c < 4294967296) (w : World) : Calls Try.prog 69 #[.int .u32 r, .int .u32 c] w fun e w' => e = .returned (.int .u32 (tk r c)) ∧ w = w' := by
  have e0 := u32_xor r c hr hc
  have hx := xor_lt32 hr hc
  have hf : Hid (tk r c = steps 8 (r ^^^ c)) := Lib.hid rfl
  generalize tk r c = F at *
  generalize r ^^^ c = x at *
  go_enter Try.func69, Try.ntmps69
  go_wp2
  go_loop [0, 9] (fun a b => ∃ (k t : Nat), k ≤ 8 ∧ Hid (t = steps k x) ∧ t < 4294967296 ∧ a = .int .u32 t ∧ b = .int .i64 k) (fun _ b => 8 - (intOf b).toNat)
  case atStart => exact ⟨0, x, by omega, Lib.hid rfl, hx, rfl, rfl⟩
  case round =>
    obtain ⟨k, t, hk, ht, htu, rfl, rfl⟩ := hrel
    by_cases hlt : k < 8
    · have e1 := step_walk htu
      go_wp2
      go_round
      case rel => exact ⟨k + 1, step t, by omega, Lib.hid (by rw [ht.out]; rfl), step_lt htu, rfl, by go_num⟩
      case measure => simp [intOf]; omega
    · have hfin : Hid ((t : Int) = (F : Int)) := Lib.hid (by rw [hf.out, ht.out, show k = 8 by omega])
      go_wp2
      go_ret
      exact ⟨by rw [← hfin.out]; rfl, rfl⟩

theorem refbit_any (c x : Nat) (hc : c < 4294967296) (hx : x < 4294967296) (w : World) : Calls Try.prog 80 #[.int .u32 c, .int .u32 x] w fun e w' => e = .returned (.int .u32 ((if c % 2 = x % 2 then c / 2 else (c / 2) ^^^ 2197175160 : Nat) : Int)) ∧ w = w' := by
  have e1 : bits .xor .u32 ((c : Int) / 2) 2197175160 = ((c / 2 ^^^ 2197175160 : Nat) : Int) := by
    rw [show ((c : Int) / 2) = ((c / 2 : Nat) : Int) by omega]
    exact u32_xor (c / 2) 2197175160 (by omega) (by decide)
  have q1 := Int.ediv_nonneg (show (0 : Int) ≤ c by omega) (show (0 : Int) ≤ 2 by decide)
  have t1 : ((c : Int)).tdiv 2 = (c : Int) / 2 := Int.tdiv_eq_ediv_of_nonneg (by omega)
  have t2 : ((c : Int)).tmod 2 = (c : Int) % 2 := Int.tmod_eq_emod_of_nonneg (by omega)
  have t3 : ((x : Int)).tmod 2 = (x : Int) % 2 := Int.tmod_eq_emod_of_nonneg (by omega)
  by_cases h : c % 2 = x % 2
  · rw [if_pos h]
    have h2 : ((c : Int) % 2 == (x : Int) % 2) = true := by simp; omega
    have hv : Hid (((c / 2 : Nat) : Int) = (c : Int) / 2) := Lib.hid (by omega)
    generalize ((c / 2 : Nat) : Int) = V at *
    go_enter Try.func80, Try.ntmps80
    go_wp2
    go_ret
    exact ⟨ret_int hv.out.symm, rfl⟩
  · rw [if_neg h]
    have h2 : ((c : Int) % 2 == (x : Int) % 2) = false := by simp; omega
    generalize ((c / 2 ^^^ 2197175160 : Nat) : Int) = V at *
    go_enter Try.func80, Try.ntmps80
    go_wp2
    go_ret
    exact ⟨rfl, rfl⟩

/-- The document's bit and its own: they agree, the byte's bits aside that are still to come. -/
def rbit (c x : Nat) : Nat := if c % 2 = x % 2 then c / 2 else (c / 2) ^^^ 2197175160
theorem rbit_lt {c : Nat} (h : c < 4294967296) (x : Nat) : rbit c x < 4294967296 := by
  unfold rbit; split
  · omega
  · exact xor_lt32 (by omega) (by decide)
theorem xor_half (a b : Nat) : (a ^^^ b) / 2 = a / 2 ^^^ b / 2 := by
  have := Nat.shiftRight_xor_distrib (a := a) (b := b) (i := 1)
  exact this
theorem xor_odd (a b : Nat) : ((a ^^^ b) % 2 = 1) ↔ ¬ (a % 2 = b % 2) := by
  have h : (a ^^^ b).testBit 0 = (a.testBit 0 ^^ b.testBit 0) := Nat.testBit_xor ..
  rw [Nat.testBit_zero, Nat.testBit_zero, Nat.testBit_zero] at h
  have ha := Nat.mod_two_eq_zero_or_one a
  have hb := Nat.mod_two_eq_zero_or_one b
  rcases ha with ha | ha <;> rcases hb with hb | hb <;> simp [ha, hb] at h ⊢ <;> omega
theorem rbit_step (c x : Nat) : rbit c x ^^^ (x / 2) = step (c ^^^ x) := by
  unfold rbit step
  rw [xor_half]
  by_cases h : c % 2 = x % 2
  · rw [if_pos h, if_neg (by rw [xor_odd]; simpa using h)]
  · rw [if_neg h, if_pos (by rw [xor_odd]; exact h)]
    ac_rfl

set_option maxHeartbeats 400000 in
theorem reftake_any (r c : Nat) (hr : r < 4294967296) (hc : c < 256) (w : World) : Calls Try.prog 67 #[.int .u32 r, .int .u8 c] w fun e w' => e = .returned (.int .u32 (tk r c)) ∧ w = w' := by
  have hf : Hid (tk r c = steps 8 (r ^^^ c)) := Lib.hid rfl
  have hbit : Hid (∀ (a b : Nat), a < 4294967296 → b < 4294967296 → ∀ w, Calls Try.prog 80 #[.int .u32 a, .int .u32 b] w fun e w' => e = .returned (.int .u32 ((rbit a b : Nat) : Int)) ∧ w = w') := Lib.hid fun a b ha hb w => refbit_any a b ha hb w
  generalize tk r c = F at *
  go_enter Try.func67, Try.ntmps67
  go_wp2
  go_loop [0, 5, 6] (fun a b i => ∃ (k t n : Nat), k ≤ 8 ∧ Hid (t ^^^ n = steps k (r ^^^ c)) ∧ Hid (n = c / 2 ^ k) ∧ n < 256 ∧ t < 4294967296 ∧ a = .int .u32 t ∧ b = .int .u32 n ∧ i = .int .i64 k) (fun _ _ i => 8 - (intOf i).toNat)
  case atStart => exact ⟨0, r, c, by omega, Lib.hid rfl, Lib.hid (by simp), hc, hr, rfl, rfl, rfl⟩
  case round =>
    obtain ⟨k, t, n, hk, ht, hn, hnl, htu, rfl, rfl, rfl⟩ := hrel
    by_cases hlt : k < 8
    · have t1 : ((n : Int)).tdiv 2 = (n : Int) / 2 := Int.tdiv_eq_ediv_of_nonneg (by omega)
      have h1 : Hid (rbit t n ^^^ (n / 2) = steps (k + 1) (r ^^^ c)) := Lib.hid (by rw [rbit_step, ht.out]; rfl)
      have h2 := rbit_lt htu n
      have hb := Lib.hid (hbit.out t n htu (by omega))
      generalize rbit t n = v at *
      go_wp2_with fail
      refine (hb.out _).mono ?_
      rintro e w' ⟨rfl, rfl⟩
      go_wp2
      go_round
      case rel => exact ⟨k + 1, v, n / 2, by omega, h1, Lib.hid (by rw [hn.out, Nat.div_div_eq_div_mul, Nat.pow_succ]), by omega, h2, rfl, by go_num, by go_num⟩
      case measure => simp [intOf]; omega
    · have hfin : Hid ((t : Int) = (F : Int)) := Lib.hid (by
        have h1 := ht.out
        rw [hn.out, show k = 8 by omega, show c / 2 ^ 8 = 0 by omega, Nat.xor_zero] at h1
        rw [hf.out, h1])
      go_wp2
      go_ret
      exact ⟨by rw [← hfin.out]; rfl, rfl⟩

theorem getD_take_snoc {l : List Int} {k : Nat} (hk : k < l.length) : l.take (k + 1) = l.take k ++ [l.getD k 0] := by
  rw [List.take_succ_eq_append_getElem hk]; simp [List.getD, hk]
theorem csum_lt (s : Nat) (l : List Int) : csum s l < 4294967296 := by unfold csum; omega

set_option maxHeartbeats 400000 in
theorem more_any (s : Nat) (hs : s < 4294967296) (a : Option Addr) (l : List Int) (n cap : Nat) (hn : n = l.length) (B : Nat) (w : World) (hl : l.length ≤ maxLen) (hb : Bs l) (hc : Sees .u8 B w a l) :
    Calls Try.prog 46 #[.int .u32 s, .slice a n cap] w fun e w' => e = .returned (.int .u32 (csum s l)) ∧ w = w' := by
  subst hn
  unfold maxLen at hl
  have hf : Hid (csum s l = 4294967295 - creg (4294967295 - s) l) := Lib.hid rfl
  have e0 := u32_not hs
  have hz : 4294967295 - s < 4294967296 := by omega
  generalize csum s l = F at *
  generalize 4294967295 - s = z at *
  rcases hc with rfl | ⟨b, off, rfl, hB, hc⟩
  · have e2 := u32_not hz
    have hfin : Hid (((4294967295 - z : Nat) : Int) = (F : Int)) := Lib.hid (by rw [hf.out]; rfl)
    generalize ((4294967295 - z : Nat) : Int) = V at *
    go_enter Try.func46, Try.ntmps46
    go_wp2
    refine wp_loop_rounds 1 ?_
    rw [rounds_succ]
    go_wp2
    go_ret
    exact ⟨ret_int hfin.out, rfl⟩
  · go_enter Try.func46, Try.ntmps46
    go_wp2
    go_loop [5, 12] (fun x y => ∃ (k t : Nat), k ≤ l.length ∧ Hid (t = creg z (l.take k)) ∧ t < 4294967296 ∧ x = .int .u32 t ∧ y = .int .i64 k) (fun _ y => l.length - (intOf y).toNat)
    case atStart => exact ⟨0, z, by omega, Lib.hid rfl, hz, rfl, rfl⟩
    case round =>
      obtain ⟨k, t, hk, ht, htu, rfl, rfl⟩ := hrel
      by_cases hlt : k < l.length
      · have hcell := hc k hlt
        have hr := hb.at hlt
        have hd := getD_take_snoc hlt
        generalize l.getD k 0 = c at *
        obtain ⟨c, rfl⟩ := Int.eq_ofNat_of_zero_le hr.1
        clear hc
        have hfin : Hid (tk t c = creg z (l.take (k + 1))) := Lib.hid (by rw [hd, creg_snoc, ← ht.out]; rfl)
        have h2 := tk_lt htu (c := c) (by omega)
        have hcall := Lib.hid (take_any t c htu (by omega))
        generalize tk t c = v at *
        clear hd
        go_wp2_with fail
        refine (hcall.out _).mono ?_
        rintro e w' ⟨rfl, rfl⟩
        go_wp2
        go_round
        case rel => exact ⟨k + 1, v, by omega, hfin, h2, rfl, by go_num⟩
        case measure => simp [intOf]; omega
      · have e2 := u32_not htu
        have hfin : Hid (((4294967295 - t : Nat) : Int) = (F : Int)) := Lib.hid (by rw [hf.out, ht.out, List.take_of_length_le (by omega)])
        generalize ((4294967295 - t : Nat) : Int) = V at *
        go_wp2
        go_ret
        exact ⟨ret_int hfin.out, rfl⟩
end Go.Proofs.Ytnjdgnlgdokddaa
