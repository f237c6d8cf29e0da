/- CurNobody: the walk of the statement's function: a nil pen, a nil reader. -/
import Derived.Test.YtnojapdcdjpebaaCurLives
namespace Go.Proofs.Ytnojapdcdjpebaa
open Go.RowKit
set_option linter.unusedVariables false

theorem refnum_word (n : Int) (w : World) (h0 : 0 ≤ n) (h1 : n ≤ 4294967295) :
    Calls Try.prog 40 #[.int .u32 n] w (Made 5 .u8 w (wordB n)) := by
  go_enter Try.func40, Try.ntmps40
  go_wp2
  go_ret
  exact ⟨_, rfl, own_lit w 5 .u8 (wordB n) _ rfl (by simp [wordB, maxLen]) 4 rfl, (Below.refl _ _).alloc (Nat.le_refl _) _⟩
theorem reftext_any (s : ByteArray) (w : World) (hs : s.size ≤ 140737488351232) :
    Calls Try.prog 41 #[.string s] w (Made 5 .u8 w (leb s.size ++ codes s)) := by
  obtain ⟨i0, hi, hz0, hz1, hz2⟩ := info_parts infoU8
  have hU : U64 (s.size : Int) := by unfold U64; omega
  have hten := hU.le10
  have hput := Lib.hid (refput_any (s.size : Int) w (by omega) hU)
  have hcv := Lib.hid (fun W : World => run_bytes_sees (P := Try.prog) W 9 22 5 s Try.underlying9 Try.underlying22 Try.underlying5)
  have hlen : s.size = (codes s).length := (codes_length s).symm
  have hlen' := Lib.hid hlen
  have hsz : s.size ≤ 9223372036854775807 := by omega
  have hbound : Hid ((leb s.size).length + (codes s).length ≤ 140737488355328) := Lib.hid (by simp at hten; omega)
  clear hten hlen hU
  go_enter Try.func41, Try.ntmps41
  go_wp2_with fail
  refine hput.out.mono ?_
  simp only [Int.toNat_natCast]
  rintro e w1 ⟨v1, rfl, hown, hb1⟩
  obtain ⟨c, w2, hrun, hc, hse, hb, hz⟩ := hcv.out w1
  have hown2 := own_zero (own_below hown hb)
  have hz' := Lib.hid hz
  clear hz
  go_wp2_with (at_builtin; refine wpList_append_foot _ rfl (.tmp 6) (.tmp 8) 22 rfl 5 i0 (.int .u8 0) 1 Try.underlying22 hi hz0 hz1 hz2 rfl .u8 v1 (leb s.size) hown2 _ _ (codes s) hse s.size c hlen'.out rfl rfl (by have := hbound.out; simp [maxLen]; omega) (by have := hbound.out; omega) ?_; intro v' w' hown3 hgrow hblk)
  go_ret
  have hB := hb1.trans (hb.mono hb1.size)
  refine ⟨v', rfl, own_from hown3 fun k hk => ?_, hB.grown hgrow hB.size fun k hk => (hown.lt k hk).1⟩
  rcases hblk with h | h
  · rw [h] at hk; exact (hown.lt k hk).1
  · rw [h] at hk; injection hk with hk; have := hB.size; omega

/-- Whatever is handed back; nothing that was there has turned. -/
def Some_ (w : World) (e : Ending) (w' : World) : Prop := ∃ v, e = .returned v ∧ Below w.heap.size w w'

theorem putnil_1 (n : Int) (hn : (Lit.int .i64 n).wf = true) (s : ByteArray) (hs : s.size ≤ 140737488351232) (w : World) :
    Calls Try.prog 14 #[.pointer none, .agg #[.int .i64 1, .int .i64 n, .string s]] w (Some_ w) := by
  have hn2 := i64_wf hn
  have hsz : s.size ≤ 9223372036854775807 := by omega
  have hB : Below w.heap.size w (w.alloc (.cells #[.int .i64 1, .int .i64 n, .string s] 33)) := (Below.refl _ _).alloc (Nat.le_refl _) _
  have k1 : (w.alloc (.cells #[.int .i64 1, .int .i64 n, .string s] 33)).cell? ⟨w.heap.size, 1, none⟩ = some (.int .i64 n) := by simp [go_sem]
  have k2 : (w.alloc (.cells #[.int .i64 1, .int .i64 n, .string s] 33)).cell? ⟨w.heap.size, 2, none⟩ = some (.string s) := by simp [go_sem]
  have hB' := Lib.hid hB
  clear hB
  go_enter Try.func14, Try.ntmps14
  go_wp2_with fail
  generalize w.alloc (.cells #[.int .i64 1, .int .i64 n, .string s] 33) = W at *
  have hg : w.heap.size < W.heap.size := World.block_lt_of_cell? W _ k1
  refine (pu_nil (n % 18446744073709551616) W (by omega) (by unfold U64; omega)).mono ?_
  rintro e w1 ⟨rfl, hb1⟩
  have k1' := (hb1.cell (p := ⟨w.heap.size, 1, none⟩) hg).trans k1
  have k2' := (hb1.cell (p := ⟨w.heap.size, 2, none⟩) hg).trans k2
  go_wp2_with fail
  have hC := hB'.out.trans (hb1.mono hB'.out.size)
  refine (refput_any (n % 18446744073709551616) w1 (by omega) (by unfold U64; omega)).mono ?_
  rintro e w2 ⟨v, rfl, hown, hb2⟩
  go_wp2
  go_ret
  exact ⟨_, rfl, hC.trans (hb2.mono hC.size)⟩

theorem putnil_2 (n : Int) (hn : (Lit.int .i64 n).wf = true) (s : ByteArray) (hs : s.size ≤ 140737488351232) (w : World) :
    Calls Try.prog 14 #[.pointer none, .agg #[.int .i64 2, .int .i64 n, .string s]] w (Some_ w) := by
  have hn2 := i64_wf hn
  have hsz : s.size ≤ 9223372036854775807 := by omega
  have hB : Below w.heap.size w (w.alloc (.cells #[.int .i64 2, .int .i64 n, .string s] 33)) := (Below.refl _ _).alloc (Nat.le_refl _) _
  have k1 : (w.alloc (.cells #[.int .i64 2, .int .i64 n, .string s] 33)).cell? ⟨w.heap.size, 1, none⟩ = some (.int .i64 n) := by simp [go_sem]
  have k2 : (w.alloc (.cells #[.int .i64 2, .int .i64 n, .string s] 33)).cell? ⟨w.heap.size, 2, none⟩ = some (.string s) := by simp [go_sem]
  have hB' := Lib.hid hB
  clear hB
  go_enter Try.func14, Try.ntmps14
  go_wp2_with fail
  generalize w.alloc (.cells #[.int .i64 2, .int .i64 n, .string s] 33) = W at *
  have hg : w.heap.size < W.heap.size := World.block_lt_of_cell? W _ k1
  refine (pi_nil n W hn).mono ?_
  rintro e w1 ⟨rfl, hb1⟩
  have k1' := (hb1.cell (p := ⟨w.heap.size, 1, none⟩) hg).trans k1
  have k2' := (hb1.cell (p := ⟨w.heap.size, 2, none⟩) hg).trans k2
  go_wp2_with fail
  have hC := hB'.out.trans (hb1.mono hB'.out.size)
  refine (refputint_any n w1 hn).mono ?_
  rintro e w2 ⟨v, rfl, hown, hb2⟩
  go_wp2
  go_ret
  exact ⟨_, rfl, hC.trans (hb2.mono hC.size)⟩

theorem putnil_3 (n : Int) (hn : (Lit.int .i64 n).wf = true) (s : ByteArray) (hs : s.size ≤ 140737488351232) (w : World) :
    Calls Try.prog 14 #[.pointer none, .agg #[.int .i64 3, .int .i64 n, .string s]] w (Some_ w) := by
  have hn2 := i64_wf hn
  have hsz : s.size ≤ 9223372036854775807 := by omega
  have hB : Below w.heap.size w (w.alloc (.cells #[.int .i64 3, .int .i64 n, .string s] 33)) := (Below.refl _ _).alloc (Nat.le_refl _) _
  have k1 : (w.alloc (.cells #[.int .i64 3, .int .i64 n, .string s] 33)).cell? ⟨w.heap.size, 1, none⟩ = some (.int .i64 n) := by simp [go_sem]
  have k2 : (w.alloc (.cells #[.int .i64 3, .int .i64 n, .string s] 33)).cell? ⟨w.heap.size, 2, none⟩ = some (.string s) := by simp [go_sem]
  have hB' := Lib.hid hB
  clear hB
  go_enter Try.func14, Try.ntmps14
  go_wp2_with fail
  generalize w.alloc (.cells #[.int .i64 3, .int .i64 n, .string s] 33) = W at *
  have hg : w.heap.size < W.heap.size := World.block_lt_of_cell? W _ k1
  refine (pbyte_nil n W).mono ?_
  rintro e w1 ⟨rfl, hb1⟩
  have k1' := (hb1.cell (p := ⟨w.heap.size, 1, none⟩) hg).trans k1
  have k2' := (hb1.cell (p := ⟨w.heap.size, 2, none⟩) hg).trans k2
  go_wp2_with fail
  have hC := hB'.out.trans (hb1.mono hB'.out.size)
  go_ret
  exact ⟨_, rfl, hC.alloc hC.size _⟩

theorem putnil_4 (n : Int) (hn : (Lit.int .i64 n).wf = true) (s : ByteArray) (hs : s.size ≤ 140737488351232) (w : World) :
    Calls Try.prog 14 #[.pointer none, .agg #[.int .i64 4, .int .i64 n, .string s]] w (Some_ w) := by
  have hn2 := i64_wf hn
  have hsz : s.size ≤ 9223372036854775807 := by omega
  have hB : Below w.heap.size w (w.alloc (.cells #[.int .i64 4, .int .i64 n, .string s] 33)) := (Below.refl _ _).alloc (Nat.le_refl _) _
  have k1 : (w.alloc (.cells #[.int .i64 4, .int .i64 n, .string s] 33)).cell? ⟨w.heap.size, 1, none⟩ = some (.int .i64 n) := by simp [go_sem]
  have k2 : (w.alloc (.cells #[.int .i64 4, .int .i64 n, .string s] 33)).cell? ⟨w.heap.size, 2, none⟩ = some (.string s) := by simp [go_sem]
  have hB' := Lib.hid hB
  clear hB
  go_enter Try.func14, Try.ntmps14
  go_wp2_with fail
  generalize w.alloc (.cells #[.int .i64 4, .int .i64 n, .string s] 33) = W at *
  have hg : w.heap.size < W.heap.size := World.block_lt_of_cell? W _ k1
  refine (pword_nil (n % 4294967296) W (by omega) (by omega)).mono ?_
  rintro e w1 ⟨rfl, hb1⟩
  have k1' := (hb1.cell (p := ⟨w.heap.size, 1, none⟩) hg).trans k1
  have k2' := (hb1.cell (p := ⟨w.heap.size, 2, none⟩) hg).trans k2
  go_wp2_with fail
  have hC := hB'.out.trans (hb1.mono hB'.out.size)
  refine (refnum_word (n % 4294967296) w1 (by omega) (by omega)).mono ?_
  rintro e w2 ⟨v, rfl, hown, hb2⟩
  go_wp2
  go_ret
  exact ⟨_, rfl, hC.trans (hb2.mono hC.size)⟩

theorem putnil_5 (n : Int) (hn : (Lit.int .i64 n).wf = true) (s : ByteArray) (hs : s.size ≤ 140737488351232) (w : World) :
    Calls Try.prog 14 #[.pointer none, .agg #[.int .i64 5, .int .i64 n, .string s]] w (Some_ w) := by
  have hn2 := i64_wf hn
  have hsz : s.size ≤ 9223372036854775807 := by omega
  have hB : Below w.heap.size w (w.alloc (.cells #[.int .i64 5, .int .i64 n, .string s] 33)) := (Below.refl _ _).alloc (Nat.le_refl _) _
  have k1 : (w.alloc (.cells #[.int .i64 5, .int .i64 n, .string s] 33)).cell? ⟨w.heap.size, 1, none⟩ = some (.int .i64 n) := by simp [go_sem]
  have k2 : (w.alloc (.cells #[.int .i64 5, .int .i64 n, .string s] 33)).cell? ⟨w.heap.size, 2, none⟩ = some (.string s) := by simp [go_sem]
  have hB' := Lib.hid hB
  clear hB
  go_enter Try.func14, Try.ntmps14
  go_wp2_with fail
  generalize w.alloc (.cells #[.int .i64 5, .int .i64 n, .string s] 33) = W at *
  have hg : w.heap.size < W.heap.size := World.block_lt_of_cell? W _ k1
  refine (ptext_nil s W hsz).mono ?_
  rintro e w1 ⟨rfl, hb1⟩
  have k1' := (hb1.cell (p := ⟨w.heap.size, 1, none⟩) hg).trans k1
  have k2' := (hb1.cell (p := ⟨w.heap.size, 2, none⟩) hg).trans k2
  go_wp2_with fail
  have hC := hB'.out.trans (hb1.mono hB'.out.size)
  refine (reftext_any s w1 hs).mono ?_
  rintro e w2 ⟨v, rfl, hown, hb2⟩
  go_wp2
  go_ret
  exact ⟨_, rfl, hC.trans (hb2.mono hC.size)⟩

theorem putnil_else (k : Int) (hk : k ≠ 1 ∧ k ≠ 2 ∧ k ≠ 3 ∧ k ≠ 4 ∧ k ≠ 5) (n : Int) (s : ByteArray) (w : World) :
    Calls Try.prog 14 #[.pointer none, .agg #[.int .i64 k, .int .i64 n, .string s]] w (Some_ w) := by
  have b1 : (k == 1) = false := by simpa using hk.1
  have b2 : (k == 2) = false := by simpa using hk.2.1
  have b3 : (k == 3) = false := by simpa using hk.2.2.1
  have b4 : (k == 4) = false := by simpa using hk.2.2.2.1
  have b5 : (k == 5) = false := by simpa using hk.2.2.2.2
  clear hk
  go_enter Try.func14, Try.ntmps14
  go_wp2
  go_ret
  exact ⟨_, rfl, (Below.refl _ _).alloc (Nat.le_refl _) _⟩
theorem putnil_any (k n : Int) (hn : (Lit.int .i64 n).wf = true) (s : ByteArray) (hs : s.size ≤ 140737488351232) (w : World) :
    Calls Try.prog 14 #[.pointer none, .agg #[.int .i64 k, .int .i64 n, .string s]] w (Some_ w) := by
  by_cases h1 : k = 1
  · subst h1; exact putnil_1 n hn s hs w
  by_cases h2 : k = 2
  · subst h2; exact putnil_2 n hn s hs w
  by_cases h3 : k = 3
  · subst h3; exact putnil_3 n hn s hs w
  by_cases h4 : k = 4
  · subst h4; exact putnil_4 n hn s hs w
  by_cases h5 : k = 5
  · subst h5; exact putnil_5 n hn s hs w
  exact putnil_else k ⟨h1, h2, h3, h4, h5⟩ n s w

set_option maxRecDepth 100000 in
set_option maxHeartbeats 1000000 in
theorem curNobody_walk (w : World) (k : Int) (hk : (Lit.int .i64 k).wf = true) (n : Int) (hn : (Lit.int .i64 n).wf = true) (s : ByteArray) (hs0 : s.size ≤ maxLen) (hs : s.size ≤ 140737488351232) :
    Calls Try.prog 5 #[.agg #[.int .i64 k, .int .i64 n, .string s]] w (Gives (.bool true) w) := by
  have hB : Below w.heap.size w (w.alloc (.cells #[.int .i64 k, .int .i64 n, .string s] 33)) := (Below.refl _ _).alloc (Nat.le_refl _) _
  have k1 : (w.alloc (.cells #[.int .i64 k, .int .i64 n, .string s] 33)).cell? ⟨w.heap.size, 1, none⟩ = some (.int .i64 n) := by simp [go_sem]
  have hB' := Lib.hid hB
  clear hB
  go_enter Try.func5, Try.ntmps5
  go_wp2_with fail
  generalize w.alloc (.cells #[.int .i64 k, .int .i64 n, .string s] 33) = W at *
  have hg : w.heap.size < W.heap.size := World.block_lt_of_cell? W _ k1
  refine (putnil_any k n hn s hs W).mono ?_
  rintro e w1 ⟨v, rfl, hb1⟩
  replace k1 := (hb1.cell (p := ⟨w.heap.size, 1, none⟩) hg).trans k1
  replace hB' := Lib.hid (hB'.out.trans (hb1.mono hB'.out.size))
  replace hg := Nat.lt_of_lt_of_le hg hb1.size
  clear hb1 W
  go_wp2_with fail
  refine (fail_nil _ _).mono ?_
  rintro e w' ⟨rfl, rfl⟩
  go_wp2_with fail
  refine (end_nil _).mono ?_
  rintro e w' ⟨rfl, rfl⟩
  go_wp2_with fail
  refine (lives_any _).mono ?_
  rintro e w2 ⟨rfl, hb⟩
  replace k1 := (hb.cell (p := ⟨w.heap.size, 1, none⟩) hg).trans k1
  replace hB' := Lib.hid (hB'.out.trans (hb.mono hB'.out.size))
  replace hg := Nat.lt_of_lt_of_le hg hb.size
  clear hb w1
  go_wp2_with fail
  refine (pbytes_nil _).mono ?_
  rintro e w' ⟨rfl, rfl⟩
  go_wp2_with fail
  refine (u_nil _).mono ?_
  rintro e w3 ⟨rfl, hb⟩
  replace k1 := (hb.cell (p := ⟨w.heap.size, 1, none⟩) hg).trans k1
  replace hB' := Lib.hid (hB'.out.trans (hb.mono hB'.out.size))
  replace hg := Nat.lt_of_lt_of_le hg hb.size
  clear hb
  go_wp2_with fail
  refine (i_nil _).mono ?_
  rintro e w3 ⟨rfl, hb⟩
  replace k1 := (hb.cell (p := ⟨w.heap.size, 1, none⟩) hg).trans k1
  replace hB' := Lib.hid (hB'.out.trans (hb.mono hB'.out.size))
  replace hg := Nat.lt_of_lt_of_le hg hb.size
  clear hb
  go_wp2_with fail
  refine (byte_nil _).mono ?_
  rintro e w3 ⟨rfl, hb⟩
  replace k1 := (hb.cell (p := ⟨w.heap.size, 1, none⟩) hg).trans k1
  replace hB' := Lib.hid (hB'.out.trans (hb.mono hB'.out.size))
  replace hg := Nat.lt_of_lt_of_le hg hb.size
  clear hb
  go_wp2_with fail
  refine (word_nil _).mono ?_
  rintro e w3 ⟨rfl, hb⟩
  replace k1 := (hb.cell (p := ⟨w.heap.size, 1, none⟩) hg).trans k1
  replace hB' := Lib.hid (hB'.out.trans (hb.mono hB'.out.size))
  replace hg := Nat.lt_of_lt_of_le hg hb.size
  clear hb
  go_wp2_with fail
  refine (count_nil n _).mono ?_
  rintro e w3 ⟨rfl, hb⟩
  replace k1 := (hb.cell (p := ⟨w.heap.size, 1, none⟩) hg).trans k1
  replace hB' := Lib.hid (hB'.out.trans (hb.mono hB'.out.size))
  replace hg := Nat.lt_of_lt_of_le hg hb.size
  clear hb
  go_wp2_with fail
  refine (text_nil n _).mono ?_
  rintro e w3 ⟨rfl, hb⟩
  replace k1 := (hb.cell (p := ⟨w.heap.size, 1, none⟩) hg).trans k1
  replace hB' := Lib.hid (hB'.out.trans (hb.mono hB'.out.size))
  replace hg := Nat.lt_of_lt_of_le hg hb.size
  clear hb
  go_wp2_with fail
  refine (at_nil _).mono ?_
  rintro e w' ⟨rfl, rfl⟩
  go_wp2_with fail
  refine (left_nil _).mono ?_
  rintro e w' ⟨rfl, rfl⟩
  go_wp2_with fail
  refine (err_nil _).mono ?_
  rintro e w' ⟨rfl, rfl⟩
  go_wp2
  go_ret
  exact ⟨rfl, hB'.out⟩
end Go.Proofs.Ytnojapdcdjpebaa
