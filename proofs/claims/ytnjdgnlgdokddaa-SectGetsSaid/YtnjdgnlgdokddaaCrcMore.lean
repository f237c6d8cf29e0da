/- The document's More; Sum; Whole. -/
import Derived.Test.YtnjdgnlgdokddaaCrcTake
namespace Go.Proofs.Ytnjdgnlgdokddaa
open Go.RowKit
set_option linter.unusedVariables false

theorem nat_sub32 {n : Nat} (h : n < 4294967296) : (4294967295 - (n : Int)) % 4294967296 = ((4294967295 - n : Nat) : Int) := by omega
set_option maxHeartbeats 400000 in
theorem refmore_any (s : Nat) (hs : s < 4294967296) (a : Option Addr) (l : List Int) (n cap : Nat) (hn : n = l.length) (B : Nat) (w : World) (hl : l.length ≤ maxLen) (hb : Bs l) (hc : Sees .u8 B w a l) :
    Calls Try.prog 40 #[.int .u32 s, .slice a n cap] w fun e w' => e = .returned (.int .u32 (csum s l)) ∧ w = w' := by
  subst hn
  unfold maxLen at hl
  have hf : Hid (csum s l = 4294967295 - creg (4294967295 - s) l) := Lib.hid rfl
  have hz : 4294967295 - s < 4294967296 := by omega
  have hzi : Hid ((4294967295 : Int) - (s : Int) = ((4294967295 - s : Nat) : Int)) := Lib.hid (by omega)
  have hm0 : 0 ≤ (4294967295 : Int) - (s : Int) := by omega
  generalize csum s l = F at *
  generalize 4294967295 - s = z at *
  rcases hc with rfl | ⟨b, off, rfl, hB, hc⟩
  · have hfin : Hid (((4294967295 - z : Nat) : Int) = (F : Int)) := Lib.hid (by rw [hf.out]; rfl)
    go_enter Try.func40, Try.ntmps40
    go_wp2
    refine wp_loop_rounds 1 ?_
    rw [rounds_succ]
    go_wp2
    go_ret
    exact ⟨ret_int (by rw [← hfin.out]; have := hzi.out; omega), rfl⟩
  · go_enter Try.func40, Try.ntmps40
    go_wp2
    go_loop [5, 6] (fun x y => ∃ (k t : Nat), k ≤ l.length ∧ Hid (t = creg z (l.take k)) ∧ t < 4294967296 ∧ x = .int .u32 t ∧ y = .int .i64 k) (fun _ y => l.length - (intOf y).toNat)
    case atStart => exact ⟨0, z, by omega, Lib.hid rfl, hz, by rw [← hzi.out], rfl⟩
    case round =>
      obtain ⟨k, t, hk, ht, htu, rfl, rfl⟩ := hrel
      by_cases hlt : k < l.length
      · have hcell := hc k hlt
        have hr := hb.at hlt
        have hd := getD_take_snoc hlt
        generalize l.getD k 0 = c at *
        obtain ⟨c, rfl⟩ := Int.eq_ofNat_of_zero_le hr.1
        clear hc
        have hfin : Hid (tk t c = creg z (l.take (k + 1))) := Lib.hid (by rw [hd, creg_snoc, ← ht.out]; rfl)
        have h2 := tk_lt htu (c := c) (by omega)
        have hcall := Lib.hid (reftake_any t c htu (by omega))
        generalize tk t c = v at *
        clear hd
        go_wp2_with fail
        refine (hcall.out _).mono ?_
        rintro e w' ⟨rfl, rfl⟩
        go_wp2
        go_round
        case rel => exact ⟨k + 1, v, by omega, hfin, h2, rfl, by go_num⟩
        case measure => simp [intOf]; omega
      · have hfin : Hid ((F : Int) = 4294967295 - (t : Int)) := Lib.hid (by
          have h1 := hf.out
          rw [← List.take_of_length_le (show l.length ≤ k by omega), ← ht.out] at h1
          omega)
        have hm1 : 0 ≤ (4294967295 : Int) - (t : Int) := by omega
        go_wp2
        go_ret
        exact ⟨ret_int (by rw [hfin.out]; try omega), rfl⟩
theorem more_i (s : Int) (v : Nat) (hv : s = v) (hs : v < 4294967296) (a : Option Addr) (l : List Int) (n cap : Nat) (hn : n = l.length) (B : Nat) (w : World) (hl : l.length ≤ maxLen) (hb : Bs l) (hc : Sees .u8 B w a l) (F : Int) (hF : F = (csum v l : Nat)) :
    Calls Try.prog 46 #[.int .u32 s, .slice a n cap] w fun e w' => e = .returned (.int .u32 F) ∧ w = w' := by
  subst hv hF; exact more_any v hs a l n cap hn B w hl hb hc
theorem refmore_i (s : Int) (v : Nat) (hv : s = v) (hs : v < 4294967296) (a : Option Addr) (l : List Int) (n cap : Nat) (hn : n = l.length) (B : Nat) (w : World) (hl : l.length ≤ maxLen) (hb : Bs l) (hc : Sees .u8 B w a l) (F : Int) (hF : F = (csum v l : Nat)) :
    Calls Try.prog 40 #[.int .u32 s, .slice a n cap] w fun e w' => e = .returned (.int .u32 F) ∧ w = w' := by
  subst hv hF; exact refmore_any v hs a l n cap hn B w hl hb hc
theorem sum_i (a : Option Addr) (l : List Int) (n cap : Nat) (hn : n = l.length) (B : Nat) (w : World) (hl : l.length ≤ maxLen) (hb : Bs l) (hc : Sees .u8 B w a l) (F : Int) (hF : F = (csum 0 l : Nat)) :
    Calls Try.prog 26 #[.slice a n cap] w fun e w' => e = .returned (.int .u32 F) ∧ w = w' := by
  have h0 : (0 : Nat) < 4294967296 := by omega
  have h1 : (0 : Int) = ((0 : Nat) : Int) := by omega
  subst hn
  have h := Lib.hid (more_i 0 0 h1 h0 a l _ cap rfl B w hl hb hc F hF)
  clear hc hF h0 h1 hb
  go_enter Try.func26, Try.ntmps26
  go_wp2_with fail
  refine h.out.mono ?_
  rintro e w' ⟨rfl, rfl⟩
  go_wp2
  go_ret
  exact ⟨rfl, rfl⟩
theorem sum_any (a : Option Addr) (l : List Int) (n cap : Nat) (hn : n = l.length) (B : Nat) (w : World) (hl : l.length ≤ maxLen) (hb : Bs l) (hc : Sees .u8 B w a l) :
    Calls Try.prog 26 #[.slice a n cap] w fun e w' => e = .returned (.int .u32 ((csum 0 l : Nat) : Int)) ∧ w = w' :=
  sum_i a l n cap hn B w hl hb hc _ rfl
theorem refsum_i (a : Option Addr) (l : List Int) (n cap : Nat) (hn : n = l.length) (B : Nat) (w : World) (hl : l.length ≤ maxLen) (hb : Bs l) (hc : Sees .u8 B w a l) (F : Int) (hF : F = (csum 0 l : Nat)) :
    Calls Try.prog 20 #[.slice a n cap] w fun e w' => e = .returned (.int .u32 F) ∧ w = w' := by
  have h0 : (0 : Nat) < 4294967296 := by omega
  have h1 : (0 : Int) = ((0 : Nat) : Int) := by omega
  subst hn
  have h := Lib.hid (refmore_i 0 0 h1 h0 a l _ cap rfl B w hl hb hc F hF)
  clear hc hF h0 h1 hb
  go_enter Try.func20, Try.ntmps20
  go_wp2_with fail
  refine h.out.mono ?_
  rintro e w' ⟨rfl, rfl⟩
  go_wp2
  go_ret
  exact ⟨rfl, rfl⟩
theorem refsum_any (a : Option Addr) (l : List Int) (n cap : Nat) (hn : n = l.length) (B : Nat) (w : World) (hl : l.length ≤ maxLen) (hb : Bs l) (hc : Sees .u8 B w a l) :
    Calls Try.prog 20 #[.slice a n cap] w fun e w' => e = .returned (.int .u32 ((csum 0 l : Nat) : Int)) ∧ w = w' :=
  refsum_i a l n cap hn B w hl hb hc _ rfl
theorem whole_i (s : Int) (a : Option Addr) (l : List Int) (n cap : Nat) (hn : n = l.length) (B : Nat) (w : World) (hl : l.length ≤ maxLen) (hb : Bs l) (hc : Sees .u8 B w a l) (F : Int) (hF : F = (csum 0 l : Nat)) :
    Calls Try.prog 59 #[.slice a n cap, .int .u32 s] w fun e w' => e = .returned (.bool (F == s)) ∧ w = w' := by
  subst hn
  have h := Lib.hid (sum_i a l _ cap rfl B w hl hb hc F hF)
  clear hc hF hb
  go_enter Try.func59, Try.ntmps59
  go_wp2_with fail
  refine h.out.mono ?_
  rintro e w' ⟨rfl, rfl⟩
  go_wp2
  go_ret
  exact ⟨rfl, rfl⟩
end Go.Proofs.Ytnjdgnlgdokddaa
