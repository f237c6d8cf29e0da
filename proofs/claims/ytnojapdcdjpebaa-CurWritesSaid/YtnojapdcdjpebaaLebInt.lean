/- Signed numbers' bytes; and the number with which bytes begin. -/
import Derived.Test.YtnojapdcdjpebaaLebRefPut
import Derived.Test.YtnojapdcdjpebaaLebRefGet
import Derived.Test.YtnojapdcdjpebaaLebZig
namespace Go.Proofs.Ytnojapdcdjpebaa
open Go.RowKit
set_option linter.unusedVariables false

theorem zig_u64 {n : Int} (h : (Lit.int .i64 n).wf = true) : 0 ≤ zig n ∧ U64 (zig n) := by
  have hb := i64_wf h
  unfold U64 zig
  split <;> omega
theorem wf_u64 {n : Int} (h0 : 0 ≤ n) (h1 : n ≤ 18446744073709551615) : (Lit.int .u64 n).wf = true := by
  simp [Lit.wf, IntKind.min, IntKind.max, IntKind.signed, IntKind.bits]; omega
theorem zag_wf {n : Int} (h0 : 0 ≤ n) (h1 : n ≤ 18446744073709551615) : (Lit.int .i64 (zag n)).wf = true := by
  simp [Lit.wf, IntKind.min, IntKind.max, IntKind.signed, IntKind.bits]
  unfold zag
  split <;> omega
theorem zag_zig (n : Int) : zag (zig n) = n := by unfold zig; split <;> (unfold zag; split <;> omega)
theorem zig_zag {n : Int} (h : 0 ≤ n) : zig (zag n) = n := by unfold zag; split <;> (unfold zig; split <;> omega)

theorem putint_any (n : Int) (w : World) (h : (Lit.int .i64 n).wf = true) :
    Calls Try.prog 57 #[.int .i64 n] w (Made 5 .u8 w (leb (zig n).toNat)) := by
  have hz := zig_u64 h
  go_enter Try.func57, Try.ntmps57
  go_wp2_with (first
    | (go_at_call 72; refine (zig_any n _ h).mono ?_; rintro e w' ⟨rfl, rfl⟩)
    | (go_at_call 56; refine (put_any _ _ hz.1 hz.2).mono ?_; rintro e w' ⟨v, rfl, hown, hb⟩))
  go_ret
  exact ⟨_, rfl, hown, hb⟩

theorem refputint_any (n : Int) (w : World) (h : (Lit.int .i64 n).wf = true) :
    Calls Try.prog 39 #[.int .i64 n] w (Made 5 .u8 w (leb (zig n).toNat)) := by
  have hz := zig_u64 h
  go_enter Try.func39, Try.ntmps39
  go_wp2_with (first
    | (go_at_call 61; refine (refzig_any n _ h).mono ?_; rintro e w' ⟨rfl, rfl⟩)
    | (go_at_call 38; refine (refput_any _ _ hz.1 hz.2).mono ?_; rintro e w' ⟨v, rfl, hown, hb⟩))
  go_ret
  exact ⟨_, rfl, hown, hb⟩

/-- What three results these are. -/
def gotI (x : Int × Int × Int) : Value := .tuple #[.int .i64 (zag x.1), .int .i64 x.2.1, .int .i64 x.2.2]

theorem getL_fine {l : List Int} (hb : Bs l) : 0 ≤ (getL 0 0 1 l).1 ∧ (getL 0 0 1 l).1 ≤ 18446744073709551615 ∧ ((getL 0 0 1 l).2.2 = 0 ∨ ((getL 0 0 1 l).1 = 0 ∧ (getL 0 0 1 l).2.1 = 0 ∧ 10 ≤ (getL 0 0 1 l).2.2)) := by
  rcases getL_put0 hb with h | h | ⟨n, j, h, h0, h1, _, _⟩ <;> rw [h] <;> simp
  omega

theorem getint_any (a : Option Addr) (l : List Int) (n cap : Nat) (hn : n = l.length) (B : Nat) (w : World) (hl : l.length ≤ maxLen) (hb : Bs l) (hs : Sees .u8 B w a l) :
    Calls Try.prog 66 #[.slice a n cap] w fun e w' => e = .returned (gotI (getL 0 0 1 l)) ∧ w = w' := by
  subst hn
  have hf := getL_fine hb
  have hg := get_any a l l.length cap rfl B w hl hb hs
  unfold got at hg
  unfold gotI
  generalize getL 0 0 1 l = r at *
  obtain ⟨x, y, z⟩ := r
  have hw := wf_u64 hf.1 hf.2.1
  simp only [] at hg hw ⊢
  have hg' := Lib.hid hg
  clear hg hf
  go_enter Try.func66, Try.ntmps66
  go_wp2_with (first
    | (go_at_call 63; refine hg'.out.mono ?_; rintro e w' ⟨rfl, rfl⟩)
    | (go_at_call 74; refine (zag_any x _ hw).mono ?_; rintro e w' ⟨rfl, rfl⟩))
  go_ret3
  exact ⟨rfl, rfl⟩

end Go.Proofs.Ytnojapdcdjpebaa
