/- The sum of a text. -/
import Derived.Test.YtnpgkpljmifjdaaFnvShow
import Derived.Test.YtnpgkpljmifjdaaStr
import Derived.Lib.Bytealg
import Derived.Laws.Externs
namespace Go.Proofs.Ytnpgkpljmifjdaa
open Go.RowKit
set_option linter.unusedVariables false

def hexV (c : Int) : Int := if 48 ≤ c ∧ c ≤ 57 then c - 48 else if 97 ≤ c ∧ c ≤ 102 then c - 87 else -1
def pl (t : Int) : List Int → Int
  | [] => t
  | c :: r => if hexV c < 0 then -1 else pl (16 * t + hexV c) r
theorem pl_bad {t c : Int} {r : List Int} (h : hexV c < 0) : pl t (c :: r) = -1 := by unfold pl; exact if_pos h
theorem pl_next {t c : Int} {r : List Int} (h : ¬ hexV c < 0) : pl t (c :: r) = pl (16 * t + hexV c) r := by rw [pl, if_neg h]
theorem hexV_lt (c : Int) : hexV c ≤ 15 := by unfold hexV; split <;> (try split) <;> omega

def digitsV : ByteArray := ⟨#[48, 49, 50, 51, 52, 53, 54, 55, 56, 57, 97, 98, 99, 100, 101, 102]⟩
theorem digit_at (c : Int) (h0 : 0 ≤ c) (h1 : c ≤ 255) : Lib.indexByte digitsV.data.toList c.toNat.toUInt8 = hexV c := by
  have : ∀ x : Fin 256, Lib.indexByte digitsV.data.toList (x.val : Int).toNat.toUInt8 = hexV (x.val : Int) := by decide +kernel
  have h2 := this ⟨c.toNat, by omega⟩
  simp only [] at h2
  rw [show ((c.toNat : Nat) : Int) = c by omega] at h2
  exact h2
theorem index_any (c : Int) (h0 : 0 ≤ c) (h1 : c ≤ 255) (w : World) : Calls Try.prog 18 #[.string digitsV, .int .u8 c] w fun e w' => e = .returned (.int .i64 (hexV c)) ∧ w = w' := by
  have hx : ∀ w, (callFunc 20 #[.string digitsV, .int .u8 c]).run Try.prog w = .ok (.value (.int .i64 (hexV c))) w := fun w => by
    rw [run_callFunc_extern Try.func20 (by kernel_rfl) (by kernel_rfl) (by kernel_rfl) (e := Extern.BytealgIndexByte.indexByte) (by kernel_rfl), Lib.run_indexByteString, digit_at c h0 h1]
    rfl
  generalize digitsV = D at *
  generalize hexV c = v at *
  go_enter Try.func18, Try.ntmps18
  go_wp2
  go_ret
  exact ⟨rfl, rfl⟩

/-- What Parse tells. -/
def parsed (s : ByteArray) : Int × Int := if (codes s).length = 16 ∧ 0 ≤ pl 0 (codes s) then (pl 0 (codes s), 0) else (0, 190)
theorem parsed_ok {s : ByteArray} (h : s.size = 16) (h2 : 0 ≤ pl 0 (codes s)) : parsed s = (pl 0 (codes s), 0) := by unfold parsed; rw [if_pos ⟨by rw [codes_length]; exact h, h2⟩]
theorem parsed_no {s : ByteArray} (h2 : pl 0 (codes s) = -1) : parsed s = (0, 190) := by unfold parsed; rw [if_neg (by omega)]
theorem parsed_len {s : ByteArray} (h : ¬ s.size = 16) : parsed s = (0, 190) := by unfold parsed; rw [if_neg (by rw [codes_length]; omega)]

theorem shl_or {t d : Int} (h0 : 0 ≤ t) (h1 : 16 * t + 15 ≤ 18446744073709551615) (hd0 : 0 ≤ d) (hd1 : d ≤ 15) : bits .or .u64 (t * 16) d = 16 * t + d := by
  obtain ⟨a, rfl⟩ := Int.eq_ofNat_of_zero_le h0
  obtain ⟨b, rfl⟩ := Int.eq_ofNat_of_zero_le hd0
  rw [show ((a : Int) * 16) = ((2 ^ 4 * a : Nat) : Int) by push_cast; omega, bits_or_u64_nat _ _ (by omega) (by omega)]
  have := Nat.two_pow_add_eq_or_of_lt (i := 4) (b := b) (by omega) a
  rw [← this]; push_cast; omega

theorem pow16 {k : Nat} {t : Int} (hk : k < 16) (h : t < 16 ^ k) : 16 * t + 15 ≤ 18446744073709551615 ∧ t * 16 ≤ 18446744073709551615 := by
  have h1 : (16 : Int) ^ k ≤ 16 ^ 15 := by
    obtain ⟨m, hm⟩ : ∃ m, k + m = 15 := ⟨15 - k, by omega⟩
    rw [← hm, Int.pow_add]
    have : (0 : Int) < 16 ^ m := Int.pow_pos (by omega)
    have h0 : (0 : Int) ≤ 16 ^ k := Int.pow_nonneg (by omega)
    have := Int.mul_le_mul_of_nonneg_left (show (1 : Int) ≤ 16 ^ m by omega) h0
    omega
  have e : (16 : Int) ^ 15 = 1152921504606846976 := by decide
  omega

set_option maxHeartbeats 800000 in
theorem parse_any (s : ByteArray) (w : World) (hm : s.size ≤ maxLen) : Calls Try.prog 14 #[.string s] w fun e w' => e = .returned (.tuple #[.int .u64 (parsed s).1, .int .i64 (parsed s).2]) ∧ w = w' := by
  unfold maxLen at hm
  by_cases hs : s.size = 16
  · have hlen := codes_length s
    have hbs := codes_bs s
    have hat := codes_at s
    have hok := parsed_ok hs
    have hno := parsed_no (s := s)
    generalize hL : codes s = L at *
    rw [hs] at hlen
    generalize hP : parsed s = p at *
    have hok' := Lib.hid hok
    have hno' := Lib.hid hno
    have hlen' := Lib.hid hlen
    have hat' := Lib.hid hat
    have hs' := Lib.hid hs
    have hsl : 16 ≤ s.size := by omega
    have hsl2 : ((s.size : Int) != 16) = false := by rw [hs]; rfl
    have hsl3 : (s.size : Int) ≤ 16 := by omega
    clear hL hP hok hno hlen hs hat
    go_enter Try.func14, Try.ntmps14
    go_wp2
    go_loop [4, 12] (fun x i => ∃ (k : Nat) (t : Int), k ≤ 16 ∧ 0 ≤ t ∧ Hid (t < 16 ^ k) ∧ Hid (pl 0 L = pl t (L.drop k)) ∧ x = .int .u64 t ∧ i = .int .i64 k) (fun _ i => 16 - (intOf i).toNat)
    case atStart => exact ⟨0, 0, by omega, by omega, Lib.hid (by simp), Lib.hid rfl, rfl, rfl⟩
    case round =>
      obtain ⟨k, t, hk, ht0, ht1, hp, rfl, rfl⟩ := hrel
      by_cases hlt : k < 16
      · have hks : k < s.size := by omega
        have hc := hat'.out k hks
        have hr := hbs.at (by rw [hlen'.out]; exact hlt)
        have hd : L.drop k = L.getD k 0 :: L.drop (k + 1) := drop_cons (by rw [hlen'.out]; exact hlt)
        have hpw := pow16 hlt ht1.out
        have h15 := hexV_lt (L.getD k 0)
        generalize hcc : ((s[k]'hks).toNat : Int) = c at *
        rw [hc] at hr hd h15
        have hix := fun w => index_any c hr.1 hr.2 w
        by_cases hv : hexV c < 0
        · have hfin := hno'.out (by rw [hp.out, hd, pl_bad hv])
          generalize hexV c = v at *
          have hix' := Lib.hid hix
          have hfin' := Lib.hid hfin
          clear hfin hix hd hc hpw
          go_wp2_with (go_at_call 18; refine (hix'.out _).mono ?_; rintro e w' ⟨rfl, rfl⟩)
          go_ret2
          exact ⟨by rw [hfin'.out]; rfl, rfl⟩
        · have hstep : Hid (pl 0 L = pl (16 * t + hexV c) (L.drop (k + 1))) := Lib.hid (by rw [hp.out, hd, pl_next hv])
          have hv0 : 0 ≤ hexV c := by omega
          have ht2 : Hid (16 * t + hexV c < 16 ^ (k + 1)) := Lib.hid (by
            have := ht1.out
            rw [Int.pow_succ]; omega)
          have e1 := shl_or ht0 hpw.1 hv0 h15
          have b1 := hpw.2
          generalize hexV c = v at *
          have hix' := Lib.hid hix
          clear hix hd hc hpw hv
          go_wp2_with (go_at_call 18; refine (hix'.out _).mono ?_; rintro e w' ⟨rfl, rfl⟩)
          go_round
          case rel => exact ⟨k + 1, 16 * t + v, by omega, by omega, ht2, hstep, rfl, by go_num⟩
          case measure => simp [intOf]; omega
      · have hfin := hok'.out (by rw [hp.out, List.drop_of_length_le (by rw [hlen'.out]; omega)]; exact ht0)
        rw [hp.out, List.drop_of_length_le (by rw [hlen'.out]; omega)] at hfin
        have hfin' := Lib.hid hfin
        clear hfin
        go_wp2
        go_ret2
        exact ⟨by rw [hfin'.out]; rfl, rfl⟩
  · have hfin := parsed_len hs
    generalize parsed s = p at *
    have hs2 : ((s.size : Int) != 16) = true := by rw [bne_iff_ne]; omega
    have hfin' := Lib.hid hfin
    clear hfin hs
    go_enter Try.func14, Try.ntmps14
    go_wp2
    go_ret2
    exact ⟨by rw [hfin'.out]; rfl, rfl⟩
end Go.Proofs.Ytnpgkpljmifjdaa
