/- fnv.More, Sum, Less and the document's More, Sum. -/
import Derived.Test.YtnpgkpljmifjdaaRows
import Derived.Test.YtnpgkpljmifjdaaFnvMath
namespace Go.Proofs.Ytnpgkpljmifjdaa
open Go.RowKit
set_option linter.unusedVariables false

theorem fstep_walk {s c : Int} (hs : InU s) (hc : 0 ≤ c ∧ c ≤ 255) : IntKind.u64.wrap (bits .xor .u64 s c * 1099511628211) = fstep s c := by
  unfold InU at hs
  obtain ⟨a, rfl⟩ := Int.eq_ofNat_of_zero_le hs.1
  obtain ⟨b, rfl⟩ := Int.eq_ofNat_of_zero_le hc.1
  rw [bits_xor_u64_nat a b (by omega) (by omega), u64_wrap]
  unfold fstep
  rw [Int.toNat_natCast, Int.toNat_natCast, Int.natCast_emod, Int.natCast_mul]
  rfl
theorem bstep_walk {s c : Int} (hs : InU s) (hc : 0 ≤ c ∧ c ≤ 255) : bits .xor .u64 (IntKind.u64.wrap (s * 14886173955864302971)) c = bstep s c := by
  unfold InU at hs
  obtain ⟨a, rfl⟩ := Int.eq_ofNat_of_zero_le hs.1
  obtain ⟨b, rfl⟩ := Int.eq_ofNat_of_zero_le hc.1
  have h1 := Nat.mod_lt (a * 14886173955864302971) (show 0 < 18446744073709551616 by decide)
  have e : IntKind.u64.wrap ((a : Int) * 14886173955864302971) = ((a * 14886173955864302971 % 18446744073709551616 : Nat) : Int) := by
    rw [u64_wrap, Int.natCast_emod, Int.natCast_mul]; rfl
  rw [e, bits_xor_u64_nat _ b h1 (by omega)]
  unfold bstep
  rw [Int.toNat_natCast, Int.toNat_natCast]
theorem getD_take_snoc {l : List Int} {k : Nat} (hk : k < l.length) : l.take (k + 1) = l.take k ++ [l.getD k 0] := by
  rw [List.take_succ_eq_append_getElem hk]; simp [List.getD, hk]
theorem drop_cons {l : List Int} {k : Nat} (hk : k < l.length) : l.drop k = l.getD k 0 :: l.drop (k + 1) := by
  rw [List.drop_eq_getElem_cons hk]; simp [List.getD, hk]

set_option maxHeartbeats 400000 in
theorem more_any (s : Int) (hs : InU s) (a : Option Addr) (l : List Int) (n cap : Nat) (hn : n = l.length) (B : Nat) (w : World) (hl : l.length ≤ maxLen) (hb : Bs l) (hc : Sees .u8 B w a l) :
    Calls Try.prog 10 #[.int .u64 s, .slice a n cap] w fun e w' => e = .returned (.int .u64 (fsum s l)) ∧ w = w' := by
  subst hn
  unfold maxLen at hl
  rcases hc with rfl | ⟨b, off, rfl, hB, hc⟩
  · go_enter Try.func10, Try.ntmps10
    go_wp2
    refine wp_loop_rounds 1 ?_
    rw [rounds_succ]
    go_wp2
    go_ret
    exact ⟨rfl, rfl⟩
  · go_enter Try.func10, Try.ntmps10
    go_wp2
    go_loop [0, 9] (fun x y => ∃ (k : Nat) (t : Int), k ≤ l.length ∧ Hid (t = fsum s (l.take k)) ∧ InU t ∧ x = .int .u64 t ∧ y = .int .i64 k) (fun _ y => l.length - (intOf y).toNat)
    case atStart => exact ⟨0, s, by omega, Lib.hid rfl, hs, rfl, rfl⟩
    case round =>
      obtain ⟨k, t, hk, ht, htu, rfl, rfl⟩ := hrel
      by_cases hlt : k < l.length
      · have hcell := hc k hlt
        have hr := hb.at hlt
        have hd := getD_take_snoc hlt
        generalize l.getD k 0 = c at *
        clear hc
        have e1 := fstep_walk htu hr
        have hfin : Hid (fstep t c = fsum s (l.take (k + 1))) := Lib.hid (by rw [hd, fsum_snoc, ← ht.out])
        clear hd
        go_wp2
        go_round
        case rel => exact ⟨k + 1, fstep t c, by omega, hfin, fstep_in _ _, rfl, by go_num⟩
        case measure => simp [intOf]; omega
      · have hfin : Hid (t = fsum s l) := Lib.hid (by rw [ht.out, List.take_of_length_le (by omega)])
        go_wp2
        go_ret
        exact ⟨by rw [← hfin.out]; rfl, rfl⟩

set_option maxHeartbeats 400000 in
theorem refmore_any (s : Int) (hs : InU s) (a : Option Addr) (l : List Int) (n cap : Nat) (hn : n = l.length) (B : Nat) (w : World) (hl : l.length ≤ maxLen) (hb : Bs l) (hc : Sees .u8 B w a l) :
    Calls Try.prog 11 #[.int .u64 s, .slice a n cap] w fun e w' => e = .returned (.int .u64 (fsum s l)) ∧ w = w' := by
  subst hn
  unfold maxLen at hl
  rcases hc with rfl | ⟨b, off, rfl, hB, hc⟩
  · go_enter Try.func11, Try.ntmps11
    go_wp2
    refine wp_loop_rounds 1 ?_
    rw [rounds_succ]
    go_wp2
    go_ret
    exact ⟨rfl, rfl⟩
  · go_enter Try.func11, Try.ntmps11
    go_wp2
    go_loop [0, 5] (fun x y => ∃ (k : Nat) (t : Int), k ≤ l.length ∧ Hid (t = fsum s (l.take k)) ∧ InU t ∧ x = .int .u64 t ∧ y = .int .i64 k) (fun _ y => l.length - (intOf y).toNat)
    case atStart => exact ⟨0, s, by omega, Lib.hid rfl, hs, rfl, rfl⟩
    case round =>
      obtain ⟨k, t, hk, ht, htu, rfl, rfl⟩ := hrel
      by_cases hlt : k < l.length
      · have hcell := hc k hlt
        have hr := hb.at hlt
        have hd := getD_take_snoc hlt
        generalize l.getD k 0 = c at *
        clear hc
        have e1 := fstep_walk htu hr
        have hfin : Hid (fstep t c = fsum s (l.take (k + 1))) := Lib.hid (by rw [hd, fsum_snoc, ← ht.out])
        clear hd
        go_wp2
        go_round
        case rel => exact ⟨k + 1, fstep t c, by omega, hfin, fstep_in _ _, rfl, by go_num⟩
        case measure => simp [intOf]; omega
      · have hfin : Hid (t = fsum s l) := Lib.hid (by rw [ht.out, List.take_of_length_le (by omega)])
        go_wp2
        go_ret
        exact ⟨by rw [← hfin.out]; rfl, rfl⟩

def fstart : Int := 14695981039346656037
theorem fstart_in : InU fstart := by unfold InU fstart; omega
theorem sum_any (a : Option Addr) (l : List Int) (n cap : Nat) (hn : n = l.length) (B : Nat) (w : World) (hl : l.length ≤ maxLen) (hb : Bs l) (hc : Sees .u8 B w a l) :
    Calls Try.prog 8 #[.slice a n cap] w fun e w' => e = .returned (.int .u64 (fsum fstart l)) ∧ w = w' := by
  subst hn
  have hm := Lib.hid (more_any fstart fstart_in a l l.length cap rfl B w hl hb hc)
  go_enter Try.func8, Try.ntmps8
  go_wp2_with (go_at_call 10; refine hm.out.mono ?_; rintro e w' ⟨rfl, rfl⟩)
  go_ret
  exact ⟨rfl, rfl⟩
theorem refsum_any (a : Option Addr) (l : List Int) (n cap : Nat) (hn : n = l.length) (B : Nat) (w : World) (hl : l.length ≤ maxLen) (hb : Bs l) (hc : Sees .u8 B w a l) :
    Calls Try.prog 9 #[.slice a n cap] w fun e w' => e = .returned (.int .u64 (fsum fstart l)) ∧ w = w' := by
  subst hn
  have hm := Lib.hid (refmore_any fstart fstart_in a l l.length cap rfl B w hl hb hc)
  go_enter Try.func9, Try.ntmps9
  go_wp2_with (go_at_call 11; refine hm.out.mono ?_; rintro e w' ⟨rfl, rfl⟩)
  go_ret
  exact ⟨rfl, rfl⟩
end Go.Proofs.Ytnpgkpljmifjdaa
