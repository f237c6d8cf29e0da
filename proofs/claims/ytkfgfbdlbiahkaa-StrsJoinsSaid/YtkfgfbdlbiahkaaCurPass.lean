/- cur: pass, number, signed: each where it comes out, and where it stops. -/
import Derived.Test.YtkfgfbdlbiahkaaCurData
import Derived.IntWalk
namespace Go.Proofs.Ytkfgfbdlbiahkaa
open Go.RowKit
set_option linter.unusedVariables false

theorem slice_from {a : Option Addr} {n cap lo : Nat} {a' : Option Addr} {m c : Nat} (h : sliced a lo n cap 1 = .slice a' m c) (hlo : lo ≤ n) (W : World) :
    (Instr.slice 25 (.slice a n cap) (some (.int .i64 (lo : Int))) none none).run Try.prog W = .ok (.slice a' m c) W := by
  rw [← h, run_slice_l (P := Try.prog) (w := W) 25 a n cap (by kernel_rfl) .i64 lo (by omega) (by omega)]
  have hs : (sizeOf (Try.prog.elem 25)).run Try.prog W = .ok 1 W := by kernel_rfl
  rw [hs]
  simp [Result.andThen]
theorem slice_between {a : Option Addr} {n cap lo hi : Nat} {a' : Option Addr} {m c : Nat} (h : sliced a lo hi cap 1 = .slice a' m c) (hlo : lo ≤ hi) (hhi : hi ≤ cap) (W : World) :
    (Instr.slice 25 (.slice a n cap) (some (.int .i64 (lo : Int))) (some (.int .i64 (hi : Int))) none).run Try.prog W = .ok (.slice a' m c) W := by
  rw [← h, run_slice_lh (P := Try.prog) (w := W) 25 a n cap (by kernel_rfl) .i64 .i64 lo hi (by omega) (by omega) (by omega)]
  have hs : (sizeOf (Try.prog.elem 25)).run Try.prog W = .ok 1 W := by kernel_rfl
  rw [hs]
  simp [Result.andThen]

theorem pass_u64_ok (r : Nat) (a : Option Addr) (cap : Nat) (bs : List Int) (p : Nat) (n : Int) (j : Nat) (w : World) (h : Rd w r a cap bs p 0) (hq : p + j ≤ bs.length) :
    Calls Try.prog 76 #[.pointer (some ⟨r, 0, none⟩), .int .u64 n, .int .i64 j, .int .i64 0] w (Steps (.int .u64 n) r a cap bs (p + j) w) := by
  have hl := h.len
  unfold maxLen at hl
  have c1 := h.blk.cell 1
  have f1 := h.blk.free 1
  simp at c1
  have hb := h.blk
  have hw : IntKind.i64.wrap ((p : Int) + (j : Int)) = ((p + j : Nat) : Int) := by rw [IntWalk.i64_in _ (by omega)]; push_cast; rfl
  have hb' := Lib.hid hb
  have hw' := Lib.hid hw
  clear hb hw h
  go_enter Try.func76, Try.ntmps76
  go_wp2
  go_ret
  refine ⟨rfl, ?_, ?_⟩
  · have := hb'.out.set 1 (.int .i64 ((p + j : Nat) : Int))
    simpa using this
  · exact (BelowE.refl _ _ _).setIn (by simp) _
theorem pass_u64_no (r : Nat) (n : Int) (x : Int) (hx : x ≠ 0) (j : Int) (w : World) :
    Calls Try.prog 76 #[.pointer (some ⟨r, 0, none⟩), .int .u64 n, .int .i64 j, .int .i64 x] w fun e w' => e = .panicked [{ v := .iface 79 (.agg #[.int .i64 x]), recovered := false }] ∧ w = w' := by
  go_enter Try.func76, Try.ntmps76
  go_wp2
  exact ⟨rfl, rfl, rfl⟩
theorem number_ok (r : Nat) (a : Option Addr) (cap : Nat) (bs : List Int) (p : Nat) (n : Int) (j : Nat) (w : World) (h : Rd w r a cap bs p 0) (hg : getL 0 0 1 (bs.drop p) = (n, (j : Int), 0)) (hq : p + j ≤ bs.length) :
    Calls Try.prog 59 #[.pointer (some ⟨r, 0, none⟩)] w (Steps (.int .u64 n) r a cap bs (p + j) w) := by
  have hl := h.len
  unfold maxLen at hl
  have hp := h.at_
  have c1 := h.blk.cell 1
  have c0 := h.blk.cell 0
  simp at c1 c0
  obtain ⟨a', hs1, hs2⟩ := h.sees.sees.cut p bs.length cap (Nat.le_refl _) h.at_ h.cap
  rw [List.take_length] at hs2
  have hlen : (bs.drop p).length ≤ maxLen := by unfold maxLen; simp; omega
  have hget := fun m => get_is hg a' (bs.length - p) (cap - p) (by simp) w.heap.size (w.drewN m) hlen (h.byt.drop p) (hs2.drewN m)
  have hget' := Lib.hid hget
  have hpass := Lib.hid (fun m : Nat => pass_u64_ok r a cap bs p n j (w.drewN m) (h.drewN m) hq)
  have hsl := slice_from hs1 hp
  clear hget hg hs1 hs2 h
  go_enter Try.func59, Try.ntmps59
  go_wp2
  go_quiet ((go_at_call 75; exact quiet_mine (hget'.out _)))
  go_wp2_with fail
  refine (hpass.out nq).mono ?_
  rintro e w' ⟨rfl, h1, h2⟩
  go_wp2
  go_ret
  exact ⟨rfl, h1, BelowE.fromDrewN nq h2⟩
theorem number_no (r : Nat) (a : Option Addr) (cap : Nat) (bs : List Int) (p : Nat) (x : Int) (w : World) (h : Rd w r a cap bs p 0) (hg : getL 0 0 1 (bs.drop p) = (0, 0, x)) (hx : x ≠ 0) :
    Calls Try.prog 59 #[.pointer (some ⟨r, 0, none⟩)] w (Stops x r a cap bs w) := by
  have hl := h.len
  unfold maxLen at hl
  have hp := h.at_
  have c1 := h.blk.cell 1
  have c0 := h.blk.cell 0
  simp at c1 c0
  obtain ⟨a', hs1, hs2⟩ := h.sees.sees.cut p bs.length cap (Nat.le_refl _) h.at_ h.cap
  rw [List.take_length] at hs2
  have hlen : (bs.drop p).length ≤ maxLen := by unfold maxLen; simp; omega
  have hget := fun m => get_is hg a' (bs.length - p) (cap - p) (by simp) w.heap.size (w.drewN m) hlen (h.byt.drop p) (hs2.drewN m)
  have hget' := Lib.hid hget
  have hpass := Lib.hid (fun m : Nat => pass_u64_no r 0 x hx 0 (w.drewN m))
  have hsl := slice_from hs1 hp
  have hblk := Lib.hid h.blk
  clear hget hg hs1 hs2 h
  go_enter Try.func59, Try.ntmps59
  go_wp2
  go_quiet ((go_at_call 75; exact quiet_mine (hget'.out _)))
  go_wp2_with fail
  refine (hpass.out nq).mono ?_
  rintro e w' ⟨rfl, rfl⟩
  go_wp2
  exact ⟨rfl, rfl, p, hblk.out.drewN nq, (BelowE.refl _ _ _).drewN nq⟩

end Go.Proofs.Ytkfgfbdlbiahkaa
