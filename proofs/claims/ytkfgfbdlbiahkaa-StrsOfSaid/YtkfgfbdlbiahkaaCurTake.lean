/- cur: take, one, word, count, and the two closures over them: each where it comes out, and where it stops. -/
import Derived.Test.YtkfgfbdlbiahkaaCurPass
import Derived.Test.YtkfgfbdlbiahkaaCurSpec
namespace Go.Proofs.Ytkfgfbdlbiahkaa
open Go.RowKit
set_option linter.unusedVariables false

theorem take_ok (r : Nat) (a : Option Addr) (cap : Nat) (bs : List Int) (p n : Nat) (a' : Option Addr) (w : World) (h : Rd w r a cap bs p 0) (hq : p + n ≤ bs.length)
    (hs : sliced a p (p + n) cap 1 = .slice a' n (cap - p)) :
    Calls Try.prog 62 #[.pointer (some ⟨r, 0, none⟩), .int .i64 n] w (Steps (.slice a' n (cap - p)) r a cap bs (p + n) w) := by
  have hl := h.len
  unfold maxLen at hl
  have hp := h.at_
  have c1 := h.blk.cell 1
  have c0 := h.blk.cell 0
  have f1 := h.blk.free 1
  simp at c1 c0
  have hcap := h.cap
  have hlt : decide ((bs.length : Int) - (p : Int) < (n : Int)) = false := by simp; omega
  have hsl := slice_between (n := bs.length) hs (by omega) (by omega)
  rw [show ((p + n : Nat) : Int) = (p : Int) + (n : Int) by omega] at hsl
  have hblk := Lib.hid h.blk
  clear h hs
  go_enter Try.func62, Try.ntmps62
  go_wp2
  go_quiet (fail)
  go_wp2
  go_quiet (fail)
  go_wp2
  go_ret
  refine ⟨rfl, ?_, ?_⟩
  · have := (hblk.out.drewN nq).set 1 (.int .i64 ((p + n : Nat) : Int))
    simp at this
    exact this
  · exact (((BelowE.refl _ _ _).drewN _).setIn (p := ⟨r, 1, none⟩) (List.mem_singleton.2 rfl) _).drewN _
theorem take_no (r : Nat) (a : Option Addr) (cap : Nat) (bs : List Int) (p n : Nat) (w : World) (h : Rd w r a cap bs p 0) (hq : bs.length < p + n) :
    Calls Try.prog 62 #[.pointer (some ⟨r, 0, none⟩), .int .i64 n] w (Stops 10 r a cap bs w) := by
  have hl := h.len
  unfold maxLen at hl
  have hp := h.at_
  have c1 := h.blk.cell 1
  have c0 := h.blk.cell 0
  simp at c1 c0
  have hlt : decide ((bs.length : Int) - (p : Int) < (n : Int)) = true := by simp; omega
  have hblk := Lib.hid h.blk
  clear h
  go_enter Try.func62, Try.ntmps62
  go_wp2
  go_quiet (fail)
  go_wp2
  exact ⟨rfl, rfl, p, hblk.out.drewN nq, (BelowE.refl _ _ _).drewN nq⟩

/-- The first of the numbers that are taken. -/
theorem taken_at {bs : List Int} {p n i : Nat} (hi : i < n) : ((bs.take (p + n)).drop p).getD i 0 = bs.getD (p + i) 0 := by
  have : p + i < p + n := by omega
  simp [List.getD, this]
theorem u32_or (a b : Nat) (ha : a < 4294967296) (hb : b < 4294967296) : bits .or .u32 (a : Int) (b : Int) = ((a ||| b : Nat) : Int) := by
  have hx : a ||| b < 2 ^ 32 := Nat.or_lt_two_pow (by omega) (by omega)
  have h1 : ∀ c : Nat, c < 4294967296 → (BitVec.ofInt 32 (c : Int)).toNat = c := fun c hc => by
    rw [BitVec.ofInt_natCast, BitVec.toNat_ofNat]; exact Nat.mod_eq_of_lt (by omega)
  show IntKind.u32.wrap ((BitVec.ofInt 32 (a : Int) ||| BitVec.ofInt 32 (b : Int)).toNat : Int) = _
  rw [BitVec.toNat_or, h1 a ha, h1 b hb, IntKind.wrap_u32]
  omega
theorem u32_or_add {a b : Int} {k : Nat} (h0 : 0 ≤ a) (h1 : a < 2 ^ k) (hb : 0 ≤ b) (h : a + 2 ^ k * b ≤ 4294967295) : bits .or .u32 a (2 ^ k * b) = a + 2 ^ k * b := by
  obtain ⟨x, rfl⟩ := Int.eq_ofNat_of_zero_le h0
  obtain ⟨y, rfl⟩ := Int.eq_ofNat_of_zero_le hb
  have h1' : x < 2 ^ k := by exact_mod_cast h1
  have e : (2 : Int) ^ k * (y : Int) = ((2 ^ k * y : Nat) : Int) := by push_cast; rfl
  rw [e] at h ⊢
  have hx : x < 4294967296 := by omega
  have hy : 2 ^ k * y < 4294967296 := by omega
  rw [u32_or _ _ hx hy]
  have := Nat.two_pow_add_eq_or_of_lt h1' y
  rw [Nat.or_comm, ← this]; push_cast; omega
theorem word_sum {b0 b1 b2 b3 : Int} (h0 : 0 ≤ b0 ∧ b0 ≤ 255) (h1 : 0 ≤ b1 ∧ b1 ≤ 255) (h2 : 0 ≤ b2 ∧ b2 ≤ 255) (h3 : 0 ≤ b3 ∧ b3 ≤ 255) :
    bits .or .u32 b0 (b1 * 256) = b0 + 256 * b1 ∧ bits .or .u32 (b0 + 256 * b1) (b2 * 65536) = b0 + 256 * b1 + 65536 * b2 ∧ bits .or .u32 (b0 + 256 * b1 + 65536 * b2) (b3 * 16777216) = b0 + 256 * b1 + 65536 * b2 + 16777216 * b3 := by
  refine ⟨?_, ?_, ?_⟩
  · rw [Int.mul_comm b1]; exact u32_or_add (k := 8) h0.1 (by omega) h1.1 (by omega)
  · rw [Int.mul_comm b2]; exact u32_or_add (k := 16) (by omega) (by omega) h2.1 (by omega)
  · rw [Int.mul_comm b3]; exact u32_or_add (k := 24) (by omega) (by omega) h3.1 (by omega)
theorem count_ok (r : Nat) (a : Option Addr) (cap : Nat) (bs : List Int) (p : Nat) (n : Int) (j : Nat) (m : Int) (w : World) (h : Rd w r a cap bs p 0) (hg : getL 0 0 1 (bs.drop p) = (n, (j : Int), 0)) (hq : p + j ≤ bs.length)
    (hm : m ≤ 9223372036854775807) (h0 : 0 ≤ n) (hn : n ≤ m) :
    Calls Try.prog 49 #[.pointer (some ⟨r, 0, none⟩), .int .i64 m] w (Steps (.int .i64 n) r a cap bs (p + j) w) := by
  have hcall := Lib.hid (number_ok r a cap bs p n j w h hg hq)
  have hm0 : 0 ≤ m := by omega
  clear hg h
  go_enter Try.func49, Try.ntmps49
  go_wp2_with fail
  refine hcall.out.mono ?_
  rintro e w' ⟨rfl, h1⟩
  go_wp2
  go_ret
  exact ⟨rfl, h1⟩
theorem count_long (r : Nat) (a : Option Addr) (cap : Nat) (bs : List Int) (p : Nat) (n : Int) (j : Nat) (m : Int) (w : World) (h : Rd w r a cap bs p 0) (hg : getL 0 0 1 (bs.drop p) = (n, (j : Int), 0)) (hq : p + j ≤ bs.length)
    (hm : m ≤ 9223372036854775807) (hn : m < 0 ∨ m < n) :
    Calls Try.prog 49 #[.pointer (some ⟨r, 0, none⟩), .int .i64 m] w (Stops 3 r a cap bs w) := by
  have hcall := Lib.hid (number_ok r a cap bs p n j w h hg hq)
  clear hg h
  by_cases hm0 : m < 0
  · clear hn
    go_enter Try.func49, Try.ntmps49
    go_wp2_with fail
    refine hcall.out.mono ?_
    rintro e w' ⟨rfl, h1⟩
    go_wp2
    exact ⟨rfl, rfl, _, h1⟩
  · have hlt : m < n := by omega
    have hm1 : 0 ≤ m := by omega
    clear hn hm0
    go_enter Try.func49, Try.ntmps49
    go_wp2_with fail
    refine hcall.out.mono ?_
    rintro e w' ⟨rfl, h1⟩
    go_wp2
    exact ⟨rfl, rfl, _, h1⟩
theorem count_no (r : Nat) (a : Option Addr) (cap : Nat) (bs : List Int) (p : Nat) (m : Int) (x : Int) (w : World) (h : Rd w r a cap bs p 0) (hg : getL 0 0 1 (bs.drop p) = (0, 0, x)) (hx : x ≠ 0) :
    Calls Try.prog 49 #[.pointer (some ⟨r, 0, none⟩), .int .i64 m] w (Stops x r a cap bs w) := by
  have hcall := Lib.hid (number_no r a cap bs p x w h hg hx)
  clear hg h hx
  go_enter Try.func49, Try.ntmps49
  go_wp2_with fail
  refine hcall.out.mono ?_
  rintro e w' ⟨rfl, h1⟩
  go_wp2
  exact ⟨rfl, rfl, h1⟩

/-- The closures of Count and Text: what they captured is the bound's cell. -/
theorem count1 (r c : Nat) (m : Int) (w : World) (hc : w.cell? ⟨c, 0, none⟩ = some (.int .i64 m)) (v : Int) (a : Option Addr) (cap : Nat) (bs : List Int) (q : Nat)
    (h : Calls Try.prog 49 #[.pointer (some ⟨r, 0, none⟩), .int .i64 m] w (Steps (.int .i64 v) r a cap bs q w)) :
    Calls Try.prog 48 #[.pointer (some ⟨r, 0, none⟩), .pointer (some ⟨c, 0, none⟩)] w (Steps (.int .i64 v) r a cap bs q w) := by
  have hcall := Lib.hid h
  clear h
  go_enter Try.func48, Try.ntmps48
  go_wp2_with fail
  refine hcall.out.mono ?_
  rintro e w' ⟨rfl, h1⟩
  go_wp2
  go_ret
  exact ⟨rfl, h1⟩
theorem count1_no (r c : Nat) (m : Int) (w : World) (hc : w.cell? ⟨c, 0, none⟩ = some (.int .i64 m)) (x : Int) (a : Option Addr) (cap : Nat) (bs : List Int)
    (h : Calls Try.prog 49 #[.pointer (some ⟨r, 0, none⟩), .int .i64 m] w (Stops x r a cap bs w)) :
    Calls Try.prog 48 #[.pointer (some ⟨r, 0, none⟩), .pointer (some ⟨c, 0, none⟩)] w (Stops x r a cap bs w) := by
  have hcall := Lib.hid h
  clear h
  go_enter Try.func48, Try.ntmps48
  go_wp2_with fail
  refine hcall.out.mono ?_
  rintro e w' ⟨rfl, h1⟩
  go_wp2
  exact ⟨rfl, rfl, h1⟩
theorem text1_ok (r c : Nat) (hcr : c ≠ r) (m : Int) (w : World) (hc : w.cell? ⟨c, 0, none⟩ = some (.int .i64 m)) (a : Option Addr) (cap : Nat) (bs : List Int) (p n j : Nat) (h : Rd w r a cap bs p 0) (hg : getL 0 0 1 (bs.drop p) = ((n : Int), (j : Int), 0)) (hq : p + j + n ≤ bs.length)
    (hm : m ≤ 9223372036854775807) (hn : (n : Int) ≤ m) :
    Calls Try.prog 61 #[.pointer (some ⟨r, 0, none⟩), .pointer (some ⟨c, 0, none⟩)] w (Steps (.string (strOfNums ((bs.drop (p + j)).take n))) r a cap bs (p + j + n) w) := by
  have hcall := Lib.hid (count_ok r a cap bs p n j m w h hg (by omega) hm (by omega) hn)
  obtain ⟨a', hs1, hs2⟩ := h.sees.cut (p + j) (p + j + n) cap (by omega) (by omega) h.cap
  rw [show p + j + n - (p + j) = n by omega] at hs1
  have htake := Lib.hid (fun w' (hm : Moved r a cap bs (p + j) 0 w w') => take_ok r a cap bs (p + j) n a' w' (h.moved hm (by omega)) (by omega) hs1)
  have hl : List.drop (p + j) (List.take (p + j + n) bs) = (bs.drop (p + j)).take n := by rw [List.drop_take]; congr 1; omega
  rw [hl] at hs2
  have hlen : ((bs.drop (p + j)).take n).length = n := by simp; omega
  have hcv : Hid (∀ w', BelowE [r] w.heap.size w w' → (convert 25 9 (.slice a' n (cap - (p + j)))).run Try.prog w' = .ok (.string (strOfNums ((bs.drop (p + j)).take n))) w') :=
    Lib.hid fun w' hb => conv_sees _ 9 5 Try.underlying25 Try.underlying5 Try.underlying9 (hs2.belowE hb).sees n _ hlen.symm
  clear hs2 hlen hl hs1 h hg hm hn hq
  generalize strOfNums ((bs.drop (p + j)).take n) = s at *
  go_enter Try.func61, Try.ntmps61
  go_wp2_with fail
  refine hcall.out.mono ?_
  rintro e w' ⟨rfl, h1⟩
  go_wp2_with fail
  refine (htake.out w' h1).mono ?_
  rintro e w2 ⟨rfl, h2, h3⟩
  have hb := h1.2.trans (h3.mono h1.2.size)
  have hc2 := hcv.out w2 hb
  go_wp2
  go_ret
  exact ⟨rfl, h2, hb⟩
theorem text1_short (r c : Nat) (hcr : c ≠ r) (m : Int) (w : World) (hc : w.cell? ⟨c, 0, none⟩ = some (.int .i64 m)) (a : Option Addr) (cap : Nat) (bs : List Int) (p n j : Nat) (h : Rd w r a cap bs p 0) (hg : getL 0 0 1 (bs.drop p) = ((n : Int), (j : Int), 0)) (hj : p + j ≤ bs.length) (hq : bs.length < p + j + n)
    (hm : m ≤ 9223372036854775807) (hn : (n : Int) ≤ m) :
    Calls Try.prog 61 #[.pointer (some ⟨r, 0, none⟩), .pointer (some ⟨c, 0, none⟩)] w (Stops 10 r a cap bs w) := by
  have hcall := Lib.hid (count_ok r a cap bs p n j m w h hg (by omega) hm (by omega) hn)
  have htake := Lib.hid (fun w' (hm : Moved r a cap bs (p + j) 0 w w') => take_no r a cap bs (p + j) n w' (h.moved hm hj) hq)
  clear h hg hm hn hq
  go_enter Try.func61, Try.ntmps61
  go_wp2_with fail
  refine hcall.out.mono ?_
  rintro e w' ⟨rfl, h1⟩
  go_wp2_with fail
  refine (htake.out w' h1).mono ?_
  rintro e w2 ⟨rfl, q, h2, h3⟩
  go_wp2
  exact ⟨rfl, rfl, q, h2, h1.2.trans (h3.mono h1.2.size)⟩
theorem text1_no (r c : Nat) (m : Int) (w : World) (hc : w.cell? ⟨c, 0, none⟩ = some (.int .i64 m)) (x : Int) (a : Option Addr) (cap : Nat) (bs : List Int)
    (h : Calls Try.prog 49 #[.pointer (some ⟨r, 0, none⟩), .int .i64 m] w (Stops x r a cap bs w)) :
    Calls Try.prog 61 #[.pointer (some ⟨r, 0, none⟩), .pointer (some ⟨c, 0, none⟩)] w (Stops x r a cap bs w) := by
  have hcall := Lib.hid h
  clear h
  go_enter Try.func61, Try.ntmps61
  go_wp2_with fail
  refine hcall.out.mono ?_
  rintro e w' ⟨rfl, h1⟩
  go_wp2
  exact ⟨rfl, rfl, h1⟩
end Go.Proofs.Ytkfgfbdlbiahkaa
