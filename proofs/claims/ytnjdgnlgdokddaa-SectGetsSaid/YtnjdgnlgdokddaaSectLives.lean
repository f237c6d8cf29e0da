/- 'lives' of the statements on sections. -/
import Derived.Test.YtnjdgnlgdokddaaSectGets0
import Derived.Test.YtnjdgnlgdokddaaSectRound
namespace Go.Proofs.Ytnjdgnlgdokddaa
open Go.RowKit
set_option linter.unusedVariables false
set_option linter.unusedSimpArgs false

def two : List (Int × List Int) := [(5, [97]), (6, [])]
theorem two_ok : checkL two = 0 := by decide
theorem two_bs : ∀ s ∈ two, Bs s.2 := by intro s hs; simp [two] at hs; rcases hs with rfl | rfl <;> intro x hx <;> simp at hx; omega
theorem oneH5 : oneH 5 [97] = [5, 1, 97] := by
  unfold oneH; rw [show ([97] : List Int).length = 1 by rfl, leb_small (by omega)]; rfl
theorem oneH6 : oneH 6 [] = [6, 0] := by
  unfold oneH; rw [show ([] : List Int).length = 0 by rfl, leb_small (by omega)]; rfl
def cs5 : Int := ((csum 0 [5, 1, 97] : Nat) : Int)
theorem put_two : putL two = [65, 73, 82, 88, 1, 5, 1, 97] ++ wordB cs5 ++ ([6, 0] ++ wordB ((csum 0 [6, 0] : Nat) : Int)) := by
  unfold putL bodyL two headL
  simp [oneL, oneH5, oneH6, cs5]
theorem two_len : (putL two).length = 18 := by rw [put_two]; rfl
theorem two_take : (putL two).take 12 = [65, 73, 82, 88, 1, 5, 1, 97] ++ wordB cs5 := by rw [put_two]; rfl
theorem two_get : getAll (putL two) = (two, 18, 0) := by rw [get_put two_bs two_ok, two_len]
theorem airy : getAll [65, 73, 82, 89] = ([], 3, 40) := by
  have : headBad [65, 73, 82, 89] = some 3 := by decide
  unfold getAll; rw [this]
theorem six_bad : checkL [(6, []), (6, [])] = 41 := by decide
theorem eq_str {a b : List Int} (h : a = b) : ((strOfNums a).toList == (strOfNums b).toList) = true := by subst h; simp

set_option maxRecDepth 100000 in
set_option maxHeartbeats 4000000 in
theorem slives_any (w : World) : Calls Try.prog 9 #[] w (Gives (.bool true) w) := by
  have hcs := conv_const'
  obtain ⟨W1, hW1⟩ : ∃ W1, W1 = w.alloc (.cells #[.int .u8 97] 5 (1, 2)) := ⟨_, rfl⟩
  have b1 : Below w.heap.size w W1 := by rw [hW1]; exact (Below.refl _ _).alloc (Nat.le_refl _) _
  have z1 : W1.heap.size = w.heap.size + 1 := by rw [hW1]; simp
  have s1 : Sees .u8 W1.heap.size W1 (some ⟨w.heap.size, 0, none⟩) [97] := by
    rw [z1, hW1]; exact sees_new .u8 w 5 [97] #[.int .u8 97] rfl (1, 2)
  have hL : ∀ s ∈ ([⟨5, some ⟨w.heap.size, 0, none⟩, 1, 1, [97]⟩, ⟨6, none, 0, 0, []⟩] : List Sc), ScOK W1.heap.size W1 s := by
    intro s hs
    simp at hs
    rcases hs with rfl | rfl
    · exact ⟨(by decide : (Lit.int .i64 5).wf = true), rfl, Nat.le_refl 1, (by decide : 1 ≤ maxLen), (bs_lit (by decide) : Bs [97]), s1⟩
    · exact ⟨(by decide : (Lit.int .i64 6).wf = true), rfl, Nat.le_refl 0, (by decide : 0 ≤ maxLen), (bs_lit (by decide) : Bs []), .inl rfl⟩
  have sec2 := secs_lit W1 39 _ #[.int .i64 5, .slice (some ⟨w.heap.size, 0, none⟩) 1 1, .int .i64 6, .slice none 0 0] rfl hL
  obtain ⟨W2, hW2⟩ : ∃ W2, W2 = W1.alloc (.cells #[.int .i64 5, .slice (some ⟨w.heap.size, 0, none⟩) 1 1, .int .i64 6, .slice none 0 0] 39) := ⟨_, rfl⟩
  have b2 : Below w.heap.size w W2 := by rw [hW2]; exact b1.alloc b1.size _
  rw [← hW2, z1] at sec2
  obtain ⟨L, hLe⟩ : ∃ L : List Sc, L = [⟨5, some ⟨w.heap.size, 0, none⟩, 1, 1, [97]⟩, ⟨6, none, 0, 0, []⟩] := ⟨_, rfl⟩
  rw [← hLe] at sec2
  have hLa : L.map absS = two := by rw [hLe]; rfl
  have hLn : 2 = L.length := by rw [hLe]; rfl
  have hM : ∀ s ∈ L, s.b.length ≤ 2000000 := by rw [hLe]; intro s hs; simp at hs; rcases hs with rfl | rfl <;> simp
  have t0 : (L.getD 0 sc0).tag = 5 ∧ (L.getD 0 sc0).b = [97] := by rw [hLe]; exact ⟨rfl, rfl⟩
  have t1 : (L.getD 1 sc0).tag = 6 := by rw [hLe]; rfl
  have hput := Lib.hid (sput_any (some ⟨w.heap.size + 1, 0, none⟩) L 2 2 hLn (by omega) W2 sec2)
  have hsec := Lib.hid sec2
  have hB2 := Lib.hid b2
  have hW1' := Lib.hid hW1
  have hW2' := Lib.hid hW2
  have hLa' := Lib.hid hLa
  have hLn' := Lib.hid hLn
  have hM' := Lib.hid hM
  have ht0 := Lib.hid t0
  have ht1 := Lib.hid t1
  clear b1 b2 z1 s1 hL sec2 hW1 hW2 hLe hLa hLn hM t0 t1
  go_enter Try.func9, Try.ntmps9
  go_wp2_with fail
  rw [← hW1'.out, ← hW2'.out]
  refine hput.out.mono ?_
  rintro en w3 ⟨b3, ⟨-, a3, c3, rfl, hc3, s3⟩ | ⟨hh, -⟩⟩
  rotate_left
  · rw [hLa'.out] at hh; exact absurd two_ok hh
  rw [hLa'.out] at hc3 s3
  simp only [hLa'.out, two_len] at hc3 ⊢
  have hget := Lib.hid (sget_any a3 (putL two) 18 c3 two_len.symm (by omega) hc3 (putL_bs (l := [⟨5, none, 1, 1, [97]⟩, ⟨6, none, 0, 0, []⟩]) (by intro s hs; simp at hs; rcases hs with rfl | rfl <;> exact bs_lit (by decide))) w3 s3)
  have b3' := Lib.hid b3
  have s3' := Lib.hid s3
  clear b3 s3 hput
  go_wp2_with fail
  refine hget.out.mono ?_
  rw [two_get]
  rintro en w4 ⟨b4, a4, c4, ls, hls, rfl, hc4, -, sec4⟩
  have hls2 : ls.length = 2 := by have := congrArg List.length hls; simpa [two] using this
  have b4' := Lib.hid (b3'.out.trans (b4.mono b3'.out.size))
  have s4' := Lib.hid ((s3'.out.below b4).mono b4.size)
  have hsec4 := Lib.hid sec4
  have hls' := Lib.hid hls
  simp only [hls2] at hc4 ⊢
  have hls2' := Lib.hid hls2
  clear b4 sec4 hls hls2 b3' s3' hget
  have hget5 := Lib.hid (fun a W hs => sget_any a [65, 73, 82, 89] 4 4 rfl (by omega) (Nat.le_refl _) (bs_lit (by decide)) W hs)
  rw [airy] at hget5
  have sl5 := Lib.hid (sees_new .u8 w4 5 [65, 73, 82, 89] #[.int .u8 65, .int .u8 73, .int .u8 82, .int .u8 89] rfl (4, 5))
  have b5 : Below w4.heap.size w4 (w4.alloc (.cells #[.int .u8 65, .int .u8 73, .int .u8 82, .int .u8 89] 5 (4, 5))) := (Below.refl _ _).alloc (Nat.le_refl _) _
  have b5' := Lib.hid b5
  clear b5
  go_wp2_with fail
  refine (hget5.out (some ⟨w4.heap.size, 0, none⟩) _ (by simpa using sl5.out)).mono ?_
  rintro en w6 ⟨b6, a6, c6, ls6, hls6, rfl, -, -, -⟩
  have hl6 : ls6.length = 0 := by simp only [List.map_eq_nil_iff] at hls6; rw [hls6]; rfl
  simp only [hl6]
  have b46 := Lib.hid (b5'.out.trans (b6.mono b5'.out.size))
  clear b6 hl6 hls6 hget5 sl5 b5'
  have sec6 := secs_lit w6 39 [⟨6, none, 0, 0, []⟩, ⟨6, none, 0, 0, []⟩] #[.int .i64 6, .slice none 0 0, .int .i64 6, .slice none 0 0] rfl (by
    intro s hs
    simp at hs
    subst hs
    exact ⟨(by decide : (Lit.int .i64 6).wf = true), rfl, Nat.le_refl 0, (by decide : 0 ≤ maxLen), (bs_lit (by decide) : Bs []), .inl rfl⟩)
  have hput6 := Lib.hid (sput_any (some ⟨w6.heap.size, 0, none⟩) [⟨6, none, 0, 0, []⟩, ⟨6, none, 0, 0, []⟩] 2 2 rfl (by omega) _ sec6)
  have b6x : Below w6.heap.size w6 (w6.alloc (.cells #[.int .i64 6, .slice none 0 0, .int .i64 6, .slice none 0 0] 39)) := below_box _ _ _
  have b46x := Lib.hid (b46.out.trans (b6x.mono b46.out.size))
  clear sec6 b6x b46
  go_wp2_with fail
  refine hput6.out.mono ?_
  rintro en w7 ⟨b7, ⟨hh, -⟩ | ⟨-, rfl⟩⟩
  · exact absurd (six_bad.symm.trans hh) (by decide)
  rw [show ([⟨6, none, 0, 0, []⟩, ⟨6, none, 0, 0, []⟩] : List Sc).map absS = [(6, []), (6, [])] by rfl, six_bad]
  have b47 := Lib.hid (b46x.out.trans (b7.mono b46x.out.size))
  have B27 := Lib.hid (b4'.out.trans (b47.out.mono b4'.out.size))
  clear b7 hput6 b46x
  have hf5 := Lib.hid (find_any (some ⟨w.heap.size + 1, 0, none⟩) L 2 2 hLn'.out (by omega) hM'.out 5 w7 ((hsec.out.below B27.out).mono B27.out.size))
  go_wp2_with fail
  refine hf5.out.mono ?_
  rintro en w8 ⟨b8, ⟨k, a8, c8, hk, htg, -, rfl, s8⟩ | ⟨hh, -⟩⟩
  rotate_left
  · exact absurd ht0.out.1 (hh 0 (by have := hLn'.out; omega))
  obtain rfl : k = 0 := by
    have h2 := hLn'.out
    obtain rfl | rfl : k = 0 ∨ k = 1 := by omega
    · rfl
    · rw [ht1.out] at htg; omega
  rw [ht0.out.2] at s8
  simp only [ht0.out.2, show ([97] : List Int).length = 1 by rfl]
  have b48 := Lib.hid (b47.out.trans (b8.mono b47.out.size))
  have B28 := Lib.hid (B27.out.trans (b8.mono B27.out.size))
  have s8' := Lib.hid s8
  clear hk htg s8 b8 b47 B27 hf5
  have hf7 := Lib.hid (find_any (some ⟨w.heap.size + 1, 0, none⟩) L 2 2 hLn'.out (by omega) hM'.out 7 w8 ((hsec.out.below B28.out).mono B28.out.size))
  go_wp2_with fail
  refine hf7.out.mono ?_
  rintro en w9 ⟨b9, ⟨k, a9, c9, hk, htg, -, rfl, s9⟩ | ⟨-, rfl⟩⟩
  · exfalso
    have h2 := hLn'.out
    obtain rfl | rfl : k = 0 ∨ k = 1 := by omega
    · rw [ht0.out.1] at htg; omega
    · rw [ht1.out] at htg; omega
  have b49 := Lib.hid (b48.out.trans (b9.mono b48.out.size))
  have B29 := Lib.hid (B28.out.trans (b9.mono B28.out.size))
  have s9' := Lib.hid ((s8'.out.below b9).mono b9.size)
  clear b9 b48 B28 hf7 s8'
  obtain ⟨Wa, hWa⟩ : ∃ Wa, Wa = w9.alloc (.cells #[.int .u8 65, .int .u8 73, .int .u8 82, .int .u8 88, .int .u8 1, .int .u8 5, .int .u8 1, .int .u8 97] 5 (8, 9)) := ⟨_, rfl⟩
  obtain ⟨Wb, hWb⟩ : ∃ Wb, Wb = Wa.alloc (.cells #[.int .u8 5, .int .u8 1, .int .u8 97] 5 (3, 4)) := ⟨_, rfl⟩
  have bA : Below w9.heap.size w9 Wa := by rw [hWa]; exact (Below.refl _ _).alloc (Nat.le_refl _) _
  have zA : Wa.heap.size = w9.heap.size + 1 := by rw [hWa]; simp
  have bB : Below Wa.heap.size Wa Wb := by rw [hWb]; exact (Below.refl _ _).alloc (Nat.le_refl _) _
  have sA : Sees .u8 Wa.heap.size Wa (some ⟨w9.heap.size, 0, none⟩) [65, 73, 82, 88, 1, 5, 1, 97] := by
    rw [zA, hWa]; exact sees_new .u8 w9 5 _ _ rfl (8, 9)
  have sB : Sees .u8 Wb.heap.size Wb (some ⟨w9.heap.size + 1, 0, none⟩) [5, 1, 97] := by
    rw [← zA]
    have := sees_new .u8 Wa 5 [5, 1, 97] #[.int .u8 5, .int .u8 1, .int .u8 97] rfl (3, 4)
    rw [← hWb] at this
    have z : Wb.heap.size = Wa.heap.size + 1 := by rw [hWb]; simp
    rw [z]; exact this
  have bAB : Below w9.heap.size w9 Wb := bA.trans (bB.mono bA.size)
  have hsum := Lib.hid (refsum_any (some ⟨w9.heap.size + 1, 0, none⟩) [5, 1, 97] 3 3 rfl Wb.heap.size Wb (by decide) (bs_lit (by decide)) sB)
  have hwd := Lib.hid (rwrd_any cs5 Wb (by unfold cs5; omega) (csum_le (bs_lit (by decide))))
  rw [show ((csum 0 [5, 1, 97] : Nat) : Int) = cs5 by rfl] at hsum
  have hout := Lib.hid (fun base => (OutR.below (base := base) (w := Wa) (v := .slice (some ⟨w9.heap.size, 0, none⟩) 8 8) (l := [65, 73, 82, 88, 1, 5, 1, 97]) (.inr ⟨_, rfl, sA⟩) bB))
  have b4b := Lib.hid (b49.out.trans (bAB.mono b49.out.size))
  have B2b := Lib.hid (B29.out.trans (bAB.mono B29.out.size))
  have s9b := Lib.hid ((s9'.out.below bAB).mono bAB.size)
  have hWa' := Lib.hid hWa
  have hWb' := Lib.hid hWb
  clear hWa hWb bA zA bB sA sB bAB b49 B29 s9'
  go_wp2_with fail
  rw [← hWa'.out, ← hWb'.out]
  refine hsum.out.mono ?_
  rintro en wx ⟨rfl, rfl⟩
  clear hsum
  go_wp2_with fail
  refine hwd.out.mono ?_
  intro en w10 h10
  obtain ⟨a10, c10, rfl, s10, b10⟩ := h10.open 4 (wordB_len _)
  have hout10 := Lib.hid ((hout.out w10.heap.size).below b10)
  have b4c := b4b.out.trans (b10.mono b4b.out.size)
  have B2c := B2b.out.trans (b10.mono B2b.out.size)
  have s9c := (s9b.out.below b10).mono b10.size
  have b4c' := Lib.hid b4c
  have B2c' := Lib.hid B2c
  have s9c' := Lib.hid s9c
  have s10' := Lib.hid s10
  clear h10 s10 b10 b4c B2c s9c b4b B2b s9b hout hwd
  go_wp2_with (at_builtin; refine wpList_append_out (w0 := w10) rfl (.tmp 58) (.tmp 62) rfl _ [65, 73, 82, 88, 1, 5, 1, 97] hout10.out (Below.refl _ _) a10 (wordB cs5) 4 c10 (wordB_len _).symm (by rw [wordB_len]; omega) s10'.out rfl rfl (by rw [wordB_len]; decide) ?_; intro v11 w11 o11 b11; have o11' := Lib.hid o11; have b11' := Lib.hid b11; clear o11 b11)
  obtain ⟨a11, c11, rfl, -, s11⟩ := sees_own o11'.out
  have l12 : ([65, 73, 82, 88, 1, 5, 1, 97] ++ wordB cs5).length = 12 := rfl
  simp only [l12]
  have b4d := b4c'.out.trans (b11'.out.mono b4c'.out.size)
  have B2d := B2c'.out.trans (b11'.out.mono B2c'.out.size)
  have s9d := (s9c'.out.below b11'.out).mono b11'.out.size
  have sP := ((s4'.out.below b4d).mono b4d.size).take 12
  rw [two_take] at sP
  have hsecL := (hsec.out.below B2d).mono B2d.size
  have hsecl := (hsec4.out.below b4d).mono b4d.size
  have hdec : decide (L.map absS = ls.map absS) = true := by rw [hLa'.out, hls'.out]; simp
  have hrs : Hid (∀ W, Below w11.heap.size w11 W → Calls Try.prog 14 #[.slice (some ⟨w.heap.size + 1, 0, none⟩) 2 2, .slice a4 2 c4] W (Gives (.bool true) W)) := Lib.hid (fun W hb => by
    have := rsame_any (some ⟨w.heap.size + 1, 0, none⟩) a4 L ls 2 2 2 c4 hLn'.out hls2'.out.symm (by omega) (by omega) W ((hsecL.below hb).mono hb.size) ((hsecl.below hb).mono hb.size)
    rwa [hdec] at this)
  have hss : Hid (∀ W, Below w11.heap.size w11 W → Calls Try.prog 17 #[.slice (some ⟨w.heap.size + 1, 0, none⟩) 2 2, .slice a4 2 c4] W (Gives (.bool true) W)) := Lib.hid (fun W hb => by
    have := ssame_any (some ⟨w.heap.size + 1, 0, none⟩) a4 L ls 2 2 2 c4 hLn'.out hls2'.out.symm (by omega) (by omega) W ((hsecL.below hb).mono hb.size) ((hsecl.below hb).mono hb.size)
    rwa [hdec] at this)
  have hcA : ∀ W, Below w11.heap.size w11 W → (convert 25 9 (.slice a3 12 c3)).run Try.prog W = .ok (.string (strOfNums ([65, 73, 82, 88, 1, 5, 1, 97] ++ wordB cs5))) W := fun W hW => conv_sees _ 9 5 Try.underlying25 Try.underlying5 Try.underlying9 (sP.below hW) 12 c3 l12.symm
  have hcB : ∀ W, Below w11.heap.size w11 W → (convert 25 9 (.slice a11 12 c11)).run Try.prog W = .ok (.string (strOfNums ([65, 73, 82, 88, 1, 5, 1, 97] ++ wordB cs5))) W := fun W hW => conv_sees _ 9 5 Try.underlying25 Try.underlying5 Try.underlying9 (s11.below hW) 12 c11 l12.symm
  have hcC : ∀ W, Below w11.heap.size w11 W → (convert 25 9 (.slice a8 1 c8)).run Try.prog W = .ok (.string ⟨#[97]⟩) W := fun W hW => conv_sees _ 9 5 Try.underlying25 Try.underlying5 Try.underlying9 (s9d.below hW) 1 c8 rfl
  have h12 : (12 : Nat) ≤ c3 := by omega
  have h12i : (12 : Int) ≤ (c3 : Int) := by omega
  have Bend := Lib.hid (hB2.out.trans (B2d.mono hB2.out.size))
  clear b4d B2d s9d sP hsecL hsecl hdec s11 o11' b11' s10' s9c' B2c' b4c' hsec4 s4' hsec hls' hls2' hLa' hLn' hM' ht0 ht1 hout10 l12 hW1' hW2' hWa' hWb'
  generalize strOfNums ([65, 73, 82, 88, 1, 5, 1, 97] ++ wordB cs5) = X12 at *
  refine wp_drawn (by kernel_rfl) (fun hHeld => ?_)
  refine wpAnyH_take (i := 0) (oi := { dst := some 64, op := Go.Op.move (Go.Operand.tmp 3), type := 26, pos := "law.go:22", after := #[], guard := none }) (v := ?v1) rfl (by kernel_rfl) (by kernel_rfl) (by kernel_rfl) (fun _ _ _ h => h) (Or.inl ⟨by kernel_rfl, ?h1⟩) (by assumption) ?r1
  case h1 => (intro w hSw; (try dsimp only at hSw); go_simp; try with_reducible rfl)
  try simp only [Act.put, List.setIfInBounds_toArray, List.set_cons_zero, List.set_cons_succ]
  refine wpAnyH_take (i := 1) (oi := { dst := some 65, op := Go.Op.binOp Go.BinOp.eql 26 (Go.Operand.tmp 64) (Go.Operand.const (Go.Value.int Go.IntKind.i64 0)) 26, type := 4, pos := "law.go:22", after := #[{ on := 0, ground := Go.Ground.data }], guard := none }) (v := ?v2) rfl (by kernel_rfl) (by kernel_rfl) (by kernel_rfl) (fun _ _ _ h => h) (Or.inl ⟨by kernel_rfl, ?h2⟩) (by assumption) ?r2
  case h2 => (intro w hSw; (try dsimp only at hSw); go_simp; try with_reducible rfl)
  try simp only [Act.put, List.setIfInBounds_toArray, List.set_cons_zero, List.set_cons_succ]
  refine wpAnyH_take (i := 2) (oi := { dst := some 66, op := Go.Op.move (Go.Operand.tmp 65), type := 4, pos := "law.go:22", after := #[{ on := 1, ground := Go.Ground.data }], guard := none }) (v := ?v3) rfl (by kernel_rfl) (by kernel_rfl) (by kernel_rfl) (fun _ _ _ h => h) (Or.inl ⟨by kernel_rfl, ?h3⟩) (by assumption) ?r3
  case h3 => (intro w hSw; (try dsimp only at hSw); go_simp; try with_reducible rfl)
  try simp only [Act.put, List.setIfInBounds_toArray, List.set_cons_zero, List.set_cons_succ]
  refine wpAnyH_take (i := 3) (oi := { dst := some 67, op := Go.Op.move (Go.Operand.tmp 2), type := 25, pos := "law.go:22", after := #[{ on := 2, ground := Go.Ground.guard }], guard := some (2, true) }) (v := ?v4) rfl (by kernel_rfl) (by kernel_rfl) (by kernel_rfl) (fun _ _ _ h => h) (Or.inl ⟨by kernel_rfl, ?h4⟩) (by assumption) ?r4
  case h4 => (intro w hSw; (try dsimp only at hSw); go_simp; try with_reducible rfl)
  try simp only [Act.put, List.setIfInBounds_toArray, List.set_cons_zero, List.set_cons_succ]
  refine wpAnyH_take (i := 4) (oi := { dst := some 68, op := Go.Op.call { callee := Go.Callee.builtin Go.Builtin.len, args := #[Go.Operand.tmp 67], argTypes := #[25] }, type := 3, pos := "law.go:22", after := #[{ on := 3, ground := Go.Ground.data }, { on := 2, ground := Go.Ground.guard }], guard := some (2, true) }) (v := ?v5) rfl (by kernel_rfl) (by kernel_rfl) (by kernel_rfl) (fun _ _ _ h => h) (Or.inl ⟨by kernel_rfl, ?h5⟩) (by assumption) ?r5
  case h5 => (intro w hSw; (try dsimp only at hSw); go_simp; try with_reducible rfl)
  try simp only [Act.put, List.setIfInBounds_toArray, List.set_cons_zero, List.set_cons_succ]
  refine wpAnyH_take (i := 5) (oi := { dst := some 69, op := Go.Op.binOp Go.BinOp.eql 3 (Go.Operand.tmp 68) (Go.Operand.const (Go.Value.int Go.IntKind.i64 18)) 3, type := 4, pos := "law.go:22", after := #[{ on := 4, ground := Go.Ground.data }, { on := 2, ground := Go.Ground.guard }], guard := some (2, true) }) (v := ?v6) rfl (by kernel_rfl) (by kernel_rfl) (by kernel_rfl) (fun _ _ _ h => h) (Or.inl ⟨by kernel_rfl, ?h6⟩) (by assumption) ?r6
  case h6 => (intro w hSw; (try dsimp only at hSw); go_simp; try with_reducible rfl)
  try simp only [Act.put, List.setIfInBounds_toArray, List.set_cons_zero, List.set_cons_succ]
  refine wpAnyH_take (i := 6) (oi := { dst := some 70, op := Go.Op.pick (Go.Operand.tmp 66) (Go.Operand.tmp 69) (Go.Operand.const (Go.Value.bool false)), type := 4, pos := "law.go:22", after := #[{ on := 2, ground := Go.Ground.data }, { on := 5, ground := Go.Ground.data }], guard := none }) (v := ?v7) rfl (by kernel_rfl) (by kernel_rfl) (by kernel_rfl) (fun _ _ _ h => h) (Or.inl ⟨by kernel_rfl, ?h7⟩) (by assumption) ?r7
  case h7 => (intro w hSw; (try dsimp only at hSw); go_simp; try with_reducible rfl)
  try simp only [Act.put, List.setIfInBounds_toArray, List.set_cons_zero, List.set_cons_succ]
  refine wpAnyH_take (i := 7) (oi := { dst := some 71, op := Go.Op.move (Go.Operand.tmp 70), type := 4, pos := "law.go:22", after := #[{ on := 6, ground := Go.Ground.data }, { on := 2, ground := Go.Ground.chain }], guard := none }) (v := ?v8) rfl (by kernel_rfl) (by kernel_rfl) (by kernel_rfl) (fun _ _ _ h => h) (Or.inl ⟨by kernel_rfl, ?h8⟩) (by assumption) ?r8
  case h8 => (intro w hSw; (try dsimp only at hSw); go_simp; try with_reducible rfl)
  try simp only [Act.put, List.setIfInBounds_toArray, List.set_cons_zero, List.set_cons_succ]
  refine wpAnyH_take (i := 8) (oi := { dst := some 72, op := Go.Op.move (Go.Operand.tmp 2), type := 25, pos := "law.go:22", after := #[{ on := 7, ground := Go.Ground.guard }], guard := some (7, true) }) (v := ?v9) rfl (by kernel_rfl) (by kernel_rfl) (by kernel_rfl) (fun _ _ _ h => h) (Or.inl ⟨by kernel_rfl, ?h9⟩) (by assumption) ?r9
  case h9 => (intro w hSw; (try dsimp only at hSw); go_simp; try with_reducible rfl)
  try simp only [Act.put, List.setIfInBounds_toArray, List.set_cons_zero, List.set_cons_succ]
  refine wpAnyH_take (i := 9) (oi := { dst := some 73, op := Go.Op.slice 25 (Go.Operand.tmp 72) none (some (Go.Operand.const (Go.Value.int Go.IntKind.i64 12))) none, type := 25, pos := "law.go:22", after := #[{ on := 8, ground := Go.Ground.data }, { on := 7, ground := Go.Ground.guard }], guard := some (7, true) }) (v := ?v10) rfl (by kernel_rfl) (by kernel_rfl) (by kernel_rfl) (fun _ _ _ h => h) (Or.inl ⟨by kernel_rfl, ?h10⟩) (by assumption) ?r10
  case h10 => (intro w hSw; (try dsimp only at hSw); go_simp; try with_reducible rfl)
  try simp only [Act.put, List.setIfInBounds_toArray, List.set_cons_zero, List.set_cons_succ]
  refine wpAnyH_take (i := 10) (oi := { dst := some 74, op := Go.Op.convert 25 9 (Go.Operand.tmp 73), type := 9, pos := "law.go:22", after := #[{ on := 9, ground := Go.Ground.data }, { on := 7, ground := Go.Ground.guard }], guard := some (7, true) }) (v := ?v11) rfl (by kernel_rfl) (by kernel_rfl) (by kernel_rfl) (fun _ _ _ h => h) (Or.inl ⟨by kernel_rfl, ?h11⟩) (by assumption) ?r11
  case h11 => (intro w hSw; (try dsimp only at hSw); go_simp; try with_reducible rfl)
  try simp only [Act.put, List.setIfInBounds_toArray, List.set_cons_zero, List.set_cons_succ]
  refine wpAnyH_take (i := 11) (oi := { dst := some 75, op := Go.Op.move (Go.Operand.tmp 16), type := 25, pos := "law.go:22", after := #[{ on := 7, ground := Go.Ground.guard }], guard := some (7, true) }) (v := ?v12) rfl (by kernel_rfl) (by kernel_rfl) (by kernel_rfl) (fun _ _ _ h => h) (Or.inl ⟨by kernel_rfl, ?h12⟩) (by assumption) ?r12
  case h12 => (intro w hSw; (try dsimp only at hSw); go_simp; try with_reducible rfl)
  try simp only [Act.put, List.setIfInBounds_toArray, List.set_cons_zero, List.set_cons_succ]
  refine wpAnyH_take (i := 12) (oi := { dst := some 76, op := Go.Op.convert 25 9 (Go.Operand.tmp 75), type := 9, pos := "law.go:22", after := #[{ on := 11, ground := Go.Ground.data }, { on := 7, ground := Go.Ground.guard }], guard := some (7, true) }) (v := ?v13) rfl (by kernel_rfl) (by kernel_rfl) (by kernel_rfl) (fun _ _ _ h => h) (Or.inl ⟨by kernel_rfl, ?h13⟩) (by assumption) ?r13
  case h13 => (intro w hSw; (try dsimp only at hSw); go_simp; try with_reducible rfl)
  try simp only [Act.put, List.setIfInBounds_toArray, List.set_cons_zero, List.set_cons_succ]
  refine wpAnyH_take (i := 13) (oi := { dst := some 77, op := Go.Op.binOp Go.BinOp.eql 9 (Go.Operand.tmp 74) (Go.Operand.tmp 76) 9, type := 4, pos := "law.go:22", after := #[{ on := 10, ground := Go.Ground.data }, { on := 12, ground := Go.Ground.data }, { on := 7, ground := Go.Ground.guard }], guard := some (7, true) }) (v := ?v14) rfl (by kernel_rfl) (by kernel_rfl) (by kernel_rfl) (fun _ _ _ h => h) (Or.inl ⟨by kernel_rfl, ?h14⟩) (by assumption) ?r14
  case h14 => (intro w hSw; (try dsimp only at hSw); go_simp; try with_reducible rfl)
  try simp only [Act.put, List.setIfInBounds_toArray, List.set_cons_zero, List.set_cons_succ]
  refine wpAnyH_take (i := 14) (oi := { dst := some 78, op := Go.Op.pick (Go.Operand.tmp 71) (Go.Operand.tmp 77) (Go.Operand.const (Go.Value.bool false)), type := 4, pos := "law.go:22", after := #[{ on := 7, ground := Go.Ground.data }, { on := 13, ground := Go.Ground.data }], guard := none }) (v := ?v15) rfl (by kernel_rfl) (by kernel_rfl) (by kernel_rfl) (fun _ _ _ h => h) (Or.inl ⟨by kernel_rfl, ?h15⟩) (by assumption) ?r15
  case h15 => (intro w hSw; (try dsimp only at hSw); go_simp; try with_reducible rfl)
  try simp only [Act.put, List.setIfInBounds_toArray, List.set_cons_zero, List.set_cons_succ]
  refine wpAnyH_take (i := 15) (oi := { dst := some 79, op := Go.Op.move (Go.Operand.tmp 78), type := 4, pos := "law.go:22", after := #[{ on := 14, ground := Go.Ground.data }, { on := 7, ground := Go.Ground.chain }], guard := none }) (v := ?v16) rfl (by kernel_rfl) (by kernel_rfl) (by kernel_rfl) (fun _ _ _ h => h) (Or.inl ⟨by kernel_rfl, ?h16⟩) (by assumption) ?r16
  case h16 => (intro w hSw; (try dsimp only at hSw); go_simp; try with_reducible rfl)
  try simp only [Act.put, List.setIfInBounds_toArray, List.set_cons_zero, List.set_cons_succ]
  refine wpAnyH_take (i := 16) (oi := { dst := some 80, op := Go.Op.move (Go.Operand.tmp 6), type := 26, pos := "law.go:22", after := #[{ on := 15, ground := Go.Ground.guard }], guard := some (15, true) }) (v := ?v17) rfl (by kernel_rfl) (by kernel_rfl) (by kernel_rfl) (fun _ _ _ h => h) (Or.inl ⟨by kernel_rfl, ?h17⟩) (by assumption) ?r17
  case h17 => (intro w hSw; (try dsimp only at hSw); go_simp; try with_reducible rfl)
  try simp only [Act.put, List.setIfInBounds_toArray, List.set_cons_zero, List.set_cons_succ]
  refine wpAnyH_take (i := 17) (oi := { dst := some 81, op := Go.Op.binOp Go.BinOp.eql 26 (Go.Operand.tmp 80) (Go.Operand.const (Go.Value.int Go.IntKind.i64 0)) 26, type := 4, pos := "law.go:22", after := #[{ on := 16, ground := Go.Ground.data }, { on := 15, ground := Go.Ground.guard }], guard := some (15, true) }) (v := ?v18) rfl (by kernel_rfl) (by kernel_rfl) (by kernel_rfl) (fun _ _ _ h => h) (Or.inl ⟨by kernel_rfl, ?h18⟩) (by assumption) ?r18
  case h18 => (intro w hSw; (try dsimp only at hSw); go_simp; try with_reducible rfl)
  try simp only [Act.put, List.setIfInBounds_toArray, List.set_cons_zero, List.set_cons_succ]
  refine wpAnyH_take (i := 18) (oi := { dst := some 82, op := Go.Op.pick (Go.Operand.tmp 79) (Go.Operand.tmp 81) (Go.Operand.const (Go.Value.bool false)), type := 4, pos := "law.go:22", after := #[{ on := 15, ground := Go.Ground.data }, { on := 17, ground := Go.Ground.data }], guard := none }) (v := ?v19) rfl (by kernel_rfl) (by kernel_rfl) (by kernel_rfl) (fun _ _ _ h => h) (Or.inl ⟨by kernel_rfl, ?h19⟩) (by assumption) ?r19
  case h19 => (intro w hSw; (try dsimp only at hSw); go_simp; try with_reducible rfl)
  try simp only [Act.put, List.setIfInBounds_toArray, List.set_cons_zero, List.set_cons_succ]
  refine wpAnyH_take (i := 19) (oi := { dst := some 83, op := Go.Op.move (Go.Operand.tmp 82), type := 4, pos := "law.go:22", after := #[{ on := 18, ground := Go.Ground.data }, { on := 15, ground := Go.Ground.chain }], guard := none }) (v := ?v20) rfl (by kernel_rfl) (by kernel_rfl) (by kernel_rfl) (fun _ _ _ h => h) (Or.inl ⟨by kernel_rfl, ?h20⟩) (by assumption) ?r20
  case h20 => (intro w hSw; (try dsimp only at hSw); go_simp; try with_reducible rfl)
  try simp only [Act.put, List.setIfInBounds_toArray, List.set_cons_zero, List.set_cons_succ]
  refine wpAnyH_take (i := 20) (oi := { dst := some 84, op := Go.Op.move (Go.Operand.tmp 5), type := 3, pos := "law.go:22", after := #[{ on := 19, ground := Go.Ground.guard }], guard := some (19, true) }) (v := ?v21) rfl (by kernel_rfl) (by kernel_rfl) (by kernel_rfl) (fun _ _ _ h => h) (Or.inl ⟨by kernel_rfl, ?h21⟩) (by assumption) ?r21
  case h21 => (intro w hSw; (try dsimp only at hSw); go_simp; try with_reducible rfl)
  try simp only [Act.put, List.setIfInBounds_toArray, List.set_cons_zero, List.set_cons_succ]
  refine wpAnyH_take (i := 21) (oi := { dst := some 85, op := Go.Op.binOp Go.BinOp.eql 3 (Go.Operand.tmp 84) (Go.Operand.const (Go.Value.int Go.IntKind.i64 18)) 3, type := 4, pos := "law.go:22", after := #[{ on := 20, ground := Go.Ground.data }, { on := 19, ground := Go.Ground.guard }], guard := some (19, true) }) (v := ?v22) rfl (by kernel_rfl) (by kernel_rfl) (by kernel_rfl) (fun _ _ _ h => h) (Or.inl ⟨by kernel_rfl, ?h22⟩) (by assumption) ?r22
  case h22 => (intro w hSw; (try dsimp only at hSw); go_simp; try with_reducible rfl)
  try simp only [Act.put, List.setIfInBounds_toArray, List.set_cons_zero, List.set_cons_succ]
  refine wpAnyH_take (i := 22) (oi := { dst := some 86, op := Go.Op.pick (Go.Operand.tmp 83) (Go.Operand.tmp 85) (Go.Operand.const (Go.Value.bool false)), type := 4, pos := "law.go:22", after := #[{ on := 19, ground := Go.Ground.data }, { on := 21, ground := Go.Ground.data }], guard := none }) (v := ?v23) rfl (by kernel_rfl) (by kernel_rfl) (by kernel_rfl) (fun _ _ _ h => h) (Or.inl ⟨by kernel_rfl, ?h23⟩) (by assumption) ?r23
  case h23 => (intro w hSw; (try dsimp only at hSw); go_simp; try with_reducible rfl)
  try simp only [Act.put, List.setIfInBounds_toArray, List.set_cons_zero, List.set_cons_succ]
  refine wpAnyH_take (i := 23) (oi := { dst := some 87, op := Go.Op.move (Go.Operand.tmp 86), type := 4, pos := "law.go:22", after := #[{ on := 22, ground := Go.Ground.data }, { on := 19, ground := Go.Ground.chain }], guard := none }) (v := ?v24) rfl (by kernel_rfl) (by kernel_rfl) (by kernel_rfl) (fun _ _ _ h => h) (Or.inl ⟨by kernel_rfl, ?h24⟩) (by assumption) ?r24
  case h24 => (intro w hSw; (try dsimp only at hSw); go_simp; try with_reducible rfl)
  try simp only [Act.put, List.setIfInBounds_toArray, List.set_cons_zero, List.set_cons_succ]
  refine wpAnyH_take (i := 24) (oi := { dst := some 88, op := Go.Op.move (Go.Operand.tmp 1), type := 22, pos := "law.go:22", after := #[{ on := 23, ground := Go.Ground.guard }], guard := some (23, true) }) (v := ?v25) rfl (by kernel_rfl) (by kernel_rfl) (by kernel_rfl) (fun _ _ _ h => h) (Or.inl ⟨by kernel_rfl, ?h25⟩) (by assumption) ?r25
  case h25 => (intro w hSw; (try dsimp only at hSw); go_simp; try with_reducible rfl)
  try simp only [Act.put, List.setIfInBounds_toArray, List.set_cons_zero, List.set_cons_succ]
  refine wpAnyH_take (i := 25) (oi := { dst := some 89, op := Go.Op.move (Go.Operand.tmp 4), type := 22, pos := "law.go:22", after := #[{ on := 23, ground := Go.Ground.guard }], guard := some (23, true) }) (v := ?v26) rfl (by kernel_rfl) (by kernel_rfl) (by kernel_rfl) (fun _ _ _ h => h) (Or.inl ⟨by kernel_rfl, ?h26⟩) (by assumption) ?r26
  case h26 => (intro w hSw; (try dsimp only at hSw); go_simp; try with_reducible rfl)
  try simp only [Act.put, List.setIfInBounds_toArray, List.set_cons_zero, List.set_cons_succ]
  refine wpAnyH_ready (rs := [26]) (by kernel_rfl) (by simp) ?_
  refine AllReadyH.cons (o := { dst := some 90, op := Go.Op.call { callee := Go.Callee.value (Go.Operand.func 14), args := #[Go.Operand.tmp 88, Go.Operand.tmp 89], argTypes := #[22, 22] }, type := 4, pos := "law.go:22", after := #[{ on := 24, ground := Go.Ground.data }, { on := 25, ground := Go.Ground.data }, { on := 23, ground := Go.Ground.chain }, { on := 23, ground := Go.Ground.guard }], guard := some (23, true) }) rfl (fun K hK => ?_) AllReadyH.nil
  go_simp
  refine (hrs.out _ hHeld).mono ?_
  rintro e w12 ⟨rfl, b12⟩
  have hb26 : Below w11.heap.size w11 w12 := hHeld.trans (b12.mono hHeld.size)
  go_simp
  refine hK.out _ _ (hb26) (fun hHeld => ?_)
  clear hK K
  try simp only [Act.put, List.setIfInBounds_toArray, List.set_cons_zero, List.set_cons_succ]
  refine wpAnyH_now hHeld (fun hHeld => ?_)
  replace hcA := rebase hcA (hb26)
  replace hcB := rebase hcB (hb26)
  replace hcC := rebase hcC (hb26)
  refine wpAnyH_take (i := 27) (oi := { dst := some 91, op := Go.Op.pick (Go.Operand.tmp 87) (Go.Operand.tmp 90) (Go.Operand.const (Go.Value.bool false)), type := 4, pos := "law.go:22", after := #[{ on := 23, ground := Go.Ground.data }, { on := 26, ground := Go.Ground.data }], guard := none }) (v := ?v27) rfl (by kernel_rfl) (by kernel_rfl) (by kernel_rfl) (fun _ _ _ h => h) (Or.inl ⟨by kernel_rfl, ?h27⟩) (by assumption) ?r27
  case h27 => (intro w hSw; (try dsimp only at hSw); go_simp; try with_reducible rfl)
  try simp only [Act.put, List.setIfInBounds_toArray, List.set_cons_zero, List.set_cons_succ]
  refine wpAnyH_take (i := 28) (oi := { dst := some 92, op := Go.Op.move (Go.Operand.tmp 91), type := 4, pos := "law.go:22", after := #[{ on := 27, ground := Go.Ground.data }, { on := 26, ground := Go.Ground.chain }], guard := none }) (v := ?v28) rfl (by kernel_rfl) (by kernel_rfl) (by kernel_rfl) (fun _ _ _ h => h) (Or.inl ⟨by kernel_rfl, ?h28⟩) (by assumption) ?r28
  case h28 => (intro w hSw; (try dsimp only at hSw); go_simp; try with_reducible rfl)
  try simp only [Act.put, List.setIfInBounds_toArray, List.set_cons_zero, List.set_cons_succ]
  refine wpAnyH_take (i := 29) (oi := { dst := some 93, op := Go.Op.move (Go.Operand.tmp 8), type := 3, pos := "law.go:22", after := #[{ on := 28, ground := Go.Ground.guard }], guard := some (28, true) }) (v := ?v29) rfl (by kernel_rfl) (by kernel_rfl) (by kernel_rfl) (fun _ _ _ h => h) (Or.inl ⟨by kernel_rfl, ?h29⟩) (by assumption) ?r29
  case h29 => (intro w hSw; (try dsimp only at hSw); go_simp; try with_reducible rfl)
  try simp only [Act.put, List.setIfInBounds_toArray, List.set_cons_zero, List.set_cons_succ]
  refine wpAnyH_take (i := 30) (oi := { dst := some 94, op := Go.Op.binOp Go.BinOp.eql 3 (Go.Operand.tmp 93) (Go.Operand.const (Go.Value.int Go.IntKind.i64 3)) 3, type := 4, pos := "law.go:22", after := #[{ on := 29, ground := Go.Ground.data }, { on := 28, ground := Go.Ground.guard }], guard := some (28, true) }) (v := ?v30) rfl (by kernel_rfl) (by kernel_rfl) (by kernel_rfl) (fun _ _ _ h => h) (Or.inl ⟨by kernel_rfl, ?h30⟩) (by assumption) ?r30
  case h30 => (intro w hSw; (try dsimp only at hSw); go_simp; try with_reducible rfl)
  try simp only [Act.put, List.setIfInBounds_toArray, List.set_cons_zero, List.set_cons_succ]
  refine wpAnyH_take (i := 31) (oi := { dst := some 95, op := Go.Op.pick (Go.Operand.tmp 92) (Go.Operand.tmp 94) (Go.Operand.const (Go.Value.bool false)), type := 4, pos := "law.go:22", after := #[{ on := 28, ground := Go.Ground.data }, { on := 30, ground := Go.Ground.data }], guard := none }) (v := ?v31) rfl (by kernel_rfl) (by kernel_rfl) (by kernel_rfl) (fun _ _ _ h => h) (Or.inl ⟨by kernel_rfl, ?h31⟩) (by assumption) ?r31
  case h31 => (intro w hSw; (try dsimp only at hSw); go_simp; try with_reducible rfl)
  try simp only [Act.put, List.setIfInBounds_toArray, List.set_cons_zero, List.set_cons_succ]
  refine wpAnyH_take (i := 32) (oi := { dst := some 96, op := Go.Op.move (Go.Operand.tmp 95), type := 4, pos := "law.go:22", after := #[{ on := 31, ground := Go.Ground.data }, { on := 28, ground := Go.Ground.chain }], guard := none }) (v := ?v32) rfl (by kernel_rfl) (by kernel_rfl) (by kernel_rfl) (fun _ _ _ h => h) (Or.inl ⟨by kernel_rfl, ?h32⟩) (by assumption) ?r32
  case h32 => (intro w hSw; (try dsimp only at hSw); go_simp; try with_reducible rfl)
  try simp only [Act.put, List.setIfInBounds_toArray, List.set_cons_zero, List.set_cons_succ]
  refine wpAnyH_take (i := 33) (oi := { dst := some 97, op := Go.Op.move (Go.Operand.tmp 9), type := 26, pos := "law.go:22", after := #[{ on := 32, ground := Go.Ground.guard }], guard := some (32, true) }) (v := ?v33) rfl (by kernel_rfl) (by kernel_rfl) (by kernel_rfl) (fun _ _ _ h => h) (Or.inl ⟨by kernel_rfl, ?h33⟩) (by assumption) ?r33
  case h33 => (intro w hSw; (try dsimp only at hSw); go_simp; try with_reducible rfl)
  try simp only [Act.put, List.setIfInBounds_toArray, List.set_cons_zero, List.set_cons_succ]
  refine wpAnyH_take (i := 34) (oi := { dst := some 98, op := Go.Op.binOp Go.BinOp.eql 26 (Go.Operand.tmp 97) (Go.Operand.const (Go.Value.int Go.IntKind.i64 40)) 26, type := 4, pos := "law.go:22", after := #[{ on := 33, ground := Go.Ground.data }, { on := 32, ground := Go.Ground.guard }], guard := some (32, true) }) (v := ?v34) rfl (by kernel_rfl) (by kernel_rfl) (by kernel_rfl) (fun _ _ _ h => h) (Or.inl ⟨by kernel_rfl, ?h34⟩) (by assumption) ?r34
  case h34 => (intro w hSw; (try dsimp only at hSw); go_simp; try with_reducible rfl)
  try simp only [Act.put, List.setIfInBounds_toArray, List.set_cons_zero, List.set_cons_succ]
  refine wpAnyH_take (i := 35) (oi := { dst := some 99, op := Go.Op.pick (Go.Operand.tmp 96) (Go.Operand.tmp 98) (Go.Operand.const (Go.Value.bool false)), type := 4, pos := "law.go:22", after := #[{ on := 32, ground := Go.Ground.data }, { on := 34, ground := Go.Ground.data }], guard := none }) (v := ?v35) rfl (by kernel_rfl) (by kernel_rfl) (by kernel_rfl) (fun _ _ _ h => h) (Or.inl ⟨by kernel_rfl, ?h35⟩) (by assumption) ?r35
  case h35 => (intro w hSw; (try dsimp only at hSw); go_simp; try with_reducible rfl)
  try simp only [Act.put, List.setIfInBounds_toArray, List.set_cons_zero, List.set_cons_succ]
  refine wpAnyH_take (i := 36) (oi := { dst := some 100, op := Go.Op.move (Go.Operand.tmp 99), type := 4, pos := "law.go:22", after := #[{ on := 35, ground := Go.Ground.data }, { on := 32, ground := Go.Ground.chain }], guard := none }) (v := ?v36) rfl (by kernel_rfl) (by kernel_rfl) (by kernel_rfl) (fun _ _ _ h => h) (Or.inl ⟨by kernel_rfl, ?h36⟩) (by assumption) ?r36
  case h36 => (intro w hSw; (try dsimp only at hSw); go_simp; try with_reducible rfl)
  try simp only [Act.put, List.setIfInBounds_toArray, List.set_cons_zero, List.set_cons_succ]
  refine wpAnyH_take (i := 37) (oi := { dst := some 101, op := Go.Op.move (Go.Operand.tmp 11), type := 26, pos := "law.go:22", after := #[{ on := 36, ground := Go.Ground.guard }], guard := some (36, true) }) (v := ?v37) rfl (by kernel_rfl) (by kernel_rfl) (by kernel_rfl) (fun _ _ _ h => h) (Or.inl ⟨by kernel_rfl, ?h37⟩) (by assumption) ?r37
  case h37 => (intro w hSw; (try dsimp only at hSw); go_simp; try with_reducible rfl)
  try simp only [Act.put, List.setIfInBounds_toArray, List.set_cons_zero, List.set_cons_succ]
  refine wpAnyH_take (i := 38) (oi := { dst := some 102, op := Go.Op.binOp Go.BinOp.eql 26 (Go.Operand.tmp 101) (Go.Operand.const (Go.Value.int Go.IntKind.i64 41)) 26, type := 4, pos := "law.go:22", after := #[{ on := 37, ground := Go.Ground.data }, { on := 36, ground := Go.Ground.guard }], guard := some (36, true) }) (v := ?v38) rfl (by kernel_rfl) (by kernel_rfl) (by kernel_rfl) (fun _ _ _ h => h) (Or.inl ⟨by kernel_rfl, ?h38⟩) (by assumption) ?r38
  case h38 => (intro w hSw; (try dsimp only at hSw); go_simp; try with_reducible rfl)
  try simp only [Act.put, List.setIfInBounds_toArray, List.set_cons_zero, List.set_cons_succ]
  refine wpAnyH_take (i := 39) (oi := { dst := some 103, op := Go.Op.pick (Go.Operand.tmp 100) (Go.Operand.tmp 102) (Go.Operand.const (Go.Value.bool false)), type := 4, pos := "law.go:22", after := #[{ on := 36, ground := Go.Ground.data }, { on := 38, ground := Go.Ground.data }], guard := none }) (v := ?v39) rfl (by kernel_rfl) (by kernel_rfl) (by kernel_rfl) (fun _ _ _ h => h) (Or.inl ⟨by kernel_rfl, ?h39⟩) (by assumption) ?r39
  case h39 => (intro w hSw; (try dsimp only at hSw); go_simp; try with_reducible rfl)
  try simp only [Act.put, List.setIfInBounds_toArray, List.set_cons_zero, List.set_cons_succ]
  refine wpAnyH_take (i := 40) (oi := { dst := some 104, op := Go.Op.move (Go.Operand.tmp 103), type := 4, pos := "law.go:22", after := #[{ on := 39, ground := Go.Ground.data }, { on := 36, ground := Go.Ground.chain }], guard := none }) (v := ?v40) rfl (by kernel_rfl) (by kernel_rfl) (by kernel_rfl) (fun _ _ _ h => h) (Or.inl ⟨by kernel_rfl, ?h40⟩) (by assumption) ?r40
  case h40 => (intro w hSw; (try dsimp only at hSw); go_simp; try with_reducible rfl)
  try simp only [Act.put, List.setIfInBounds_toArray, List.set_cons_zero, List.set_cons_succ]
  refine wpAnyH_take (i := 41) (oi := { dst := some 105, op := Go.Op.move (Go.Operand.tmp 13), type := 4, pos := "law.go:22", after := #[{ on := 40, ground := Go.Ground.guard }], guard := some (40, true) }) (v := ?v41) rfl (by kernel_rfl) (by kernel_rfl) (by kernel_rfl) (fun _ _ _ h => h) (Or.inl ⟨by kernel_rfl, ?h41⟩) (by assumption) ?r41
  case h41 => (intro w hSw; (try dsimp only at hSw); go_simp; try with_reducible rfl)
  try simp only [Act.put, List.setIfInBounds_toArray, List.set_cons_zero, List.set_cons_succ]
  refine wpAnyH_take (i := 42) (oi := { dst := some 106, op := Go.Op.pick (Go.Operand.tmp 104) (Go.Operand.tmp 105) (Go.Operand.const (Go.Value.bool false)), type := 4, pos := "law.go:22", after := #[{ on := 40, ground := Go.Ground.data }, { on := 41, ground := Go.Ground.data }], guard := none }) (v := ?v42) rfl (by kernel_rfl) (by kernel_rfl) (by kernel_rfl) (fun _ _ _ h => h) (Or.inl ⟨by kernel_rfl, ?h42⟩) (by assumption) ?r42
  case h42 => (intro w hSw; (try dsimp only at hSw); go_simp; try with_reducible rfl)
  try simp only [Act.put, List.setIfInBounds_toArray, List.set_cons_zero, List.set_cons_succ]
  refine wpAnyH_take (i := 43) (oi := { dst := some 107, op := Go.Op.move (Go.Operand.tmp 106), type := 4, pos := "law.go:22", after := #[{ on := 42, ground := Go.Ground.data }, { on := 40, ground := Go.Ground.chain }], guard := none }) (v := ?v43) rfl (by kernel_rfl) (by kernel_rfl) (by kernel_rfl) (fun _ _ _ h => h) (Or.inl ⟨by kernel_rfl, ?h43⟩) (by assumption) ?r43
  case h43 => (intro w hSw; (try dsimp only at hSw); go_simp; try with_reducible rfl)
  try simp only [Act.put, List.setIfInBounds_toArray, List.set_cons_zero, List.set_cons_succ]
  refine wpAnyH_take (i := 44) (oi := { dst := some 108, op := Go.Op.move (Go.Operand.tmp 12), type := 25, pos := "law.go:22", after := #[{ on := 43, ground := Go.Ground.guard }], guard := some (43, true) }) (v := ?v44) rfl (by kernel_rfl) (by kernel_rfl) (by kernel_rfl) (fun _ _ _ h => h) (Or.inl ⟨by kernel_rfl, ?h44⟩) (by assumption) ?r44
  case h44 => (intro w hSw; (try dsimp only at hSw); go_simp; try with_reducible rfl)
  try simp only [Act.put, List.setIfInBounds_toArray, List.set_cons_zero, List.set_cons_succ]
  refine wpAnyH_take (i := 45) (oi := { dst := some 109, op := Go.Op.convert 25 9 (Go.Operand.tmp 108), type := 9, pos := "law.go:22", after := #[{ on := 44, ground := Go.Ground.data }, { on := 43, ground := Go.Ground.guard }], guard := some (43, true) }) (v := ?v45) rfl (by kernel_rfl) (by kernel_rfl) (by kernel_rfl) (fun _ _ _ h => h) (Or.inl ⟨by kernel_rfl, ?h45⟩) (by assumption) ?r45
  case h45 => (intro w hSw; (try dsimp only at hSw); go_simp; try with_reducible rfl)
  try simp only [Act.put, List.setIfInBounds_toArray, List.set_cons_zero, List.set_cons_succ]
  refine wpAnyH_take (i := 46) (oi := { dst := some 110, op := Go.Op.binOp Go.BinOp.eql 9 (Go.Operand.tmp 109) (Go.Operand.const (Go.Value.string { data := #[97] })) 9, type := 4, pos := "law.go:22", after := #[{ on := 45, ground := Go.Ground.data }, { on := 43, ground := Go.Ground.guard }], guard := some (43, true) }) (v := ?v46) rfl (by kernel_rfl) (by kernel_rfl) (by kernel_rfl) (fun _ _ _ h => h) (Or.inl ⟨by kernel_rfl, ?h46⟩) (by assumption) ?r46
  case h46 => (intro w hSw; (try dsimp only at hSw); go_simp; try with_reducible rfl)
  try simp only [Act.put, List.setIfInBounds_toArray, List.set_cons_zero, List.set_cons_succ]
  refine wpAnyH_take (i := 47) (oi := { dst := some 111, op := Go.Op.pick (Go.Operand.tmp 107) (Go.Operand.tmp 110) (Go.Operand.const (Go.Value.bool false)), type := 4, pos := "law.go:22", after := #[{ on := 43, ground := Go.Ground.data }, { on := 46, ground := Go.Ground.data }], guard := none }) (v := ?v47) rfl (by kernel_rfl) (by kernel_rfl) (by kernel_rfl) (fun _ _ _ h => h) (Or.inl ⟨by kernel_rfl, ?h47⟩) (by assumption) ?r47
  case h47 => (intro w hSw; (try dsimp only at hSw); go_simp; try with_reducible rfl)
  try simp only [Act.put, List.setIfInBounds_toArray, List.set_cons_zero, List.set_cons_succ]
  refine wpAnyH_take (i := 48) (oi := { dst := some 112, op := Go.Op.move (Go.Operand.tmp 111), type := 4, pos := "law.go:22", after := #[{ on := 47, ground := Go.Ground.data }, { on := 43, ground := Go.Ground.chain }], guard := none }) (v := ?v48) rfl (by kernel_rfl) (by kernel_rfl) (by kernel_rfl) (fun _ _ _ h => h) (Or.inl ⟨by kernel_rfl, ?h48⟩) (by assumption) ?r48
  case h48 => (intro w hSw; (try dsimp only at hSw); go_simp; try with_reducible rfl)
  try simp only [Act.put, List.setIfInBounds_toArray, List.set_cons_zero, List.set_cons_succ]
  refine wpAnyH_take (i := 49) (oi := { dst := some 113, op := Go.Op.move (Go.Operand.tmp 15), type := 4, pos := "law.go:22", after := #[{ on := 48, ground := Go.Ground.guard }], guard := some (48, true) }) (v := ?v49) rfl (by kernel_rfl) (by kernel_rfl) (by kernel_rfl) (fun _ _ _ h => h) (Or.inl ⟨by kernel_rfl, ?h49⟩) (by assumption) ?r49
  case h49 => (intro w hSw; (try dsimp only at hSw); go_simp; try with_reducible rfl)
  try simp only [Act.put, List.setIfInBounds_toArray, List.set_cons_zero, List.set_cons_succ]
  refine wpAnyH_take (i := 50) (oi := { dst := some 114, op := Go.Op.unOp Go.UnOp.not 4 (Go.Operand.tmp 113), type := 4, pos := "law.go:22", after := #[{ on := 49, ground := Go.Ground.data }, { on := 48, ground := Go.Ground.guard }], guard := some (48, true) }) (v := ?v50) rfl (by kernel_rfl) (by kernel_rfl) (by kernel_rfl) (fun _ _ _ h => h) (Or.inl ⟨by kernel_rfl, ?h50⟩) (by assumption) ?r50
  case h50 => (intro w hSw; (try dsimp only at hSw); go_simp; try with_reducible rfl)
  try simp only [Act.put, List.setIfInBounds_toArray, List.set_cons_zero, List.set_cons_succ]
  refine wpAnyH_take (i := 51) (oi := { dst := some 115, op := Go.Op.pick (Go.Operand.tmp 112) (Go.Operand.tmp 114) (Go.Operand.const (Go.Value.bool false)), type := 4, pos := "law.go:22", after := #[{ on := 48, ground := Go.Ground.data }, { on := 50, ground := Go.Ground.data }], guard := none }) (v := ?v51) rfl (by kernel_rfl) (by kernel_rfl) (by kernel_rfl) (fun _ _ _ h => h) (Or.inl ⟨by kernel_rfl, ?h51⟩) (by assumption) ?r51
  case h51 => (intro w hSw; (try dsimp only at hSw); go_simp; try with_reducible rfl)
  try simp only [Act.put, List.setIfInBounds_toArray, List.set_cons_zero, List.set_cons_succ]
  refine wpAnyH_take (i := 52) (oi := { dst := some 116, op := Go.Op.move (Go.Operand.tmp 115), type := 4, pos := "law.go:22", after := #[{ on := 51, ground := Go.Ground.data }, { on := 48, ground := Go.Ground.chain }], guard := none }) (v := ?v52) rfl (by kernel_rfl) (by kernel_rfl) (by kernel_rfl) (fun _ _ _ h => h) (Or.inl ⟨by kernel_rfl, ?h52⟩) (by assumption) ?r52
  case h52 => (intro w hSw; (try dsimp only at hSw); go_simp; try with_reducible rfl)
  try simp only [Act.put, List.setIfInBounds_toArray, List.set_cons_zero, List.set_cons_succ]
  refine wpAnyH_take (i := 53) (oi := { dst := some 117, op := Go.Op.move (Go.Operand.tmp 1), type := 22, pos := "law.go:22", after := #[{ on := 52, ground := Go.Ground.guard }], guard := some (52, true) }) (v := ?v53) rfl (by kernel_rfl) (by kernel_rfl) (by kernel_rfl) (fun _ _ _ h => h) (Or.inl ⟨by kernel_rfl, ?h53⟩) (by assumption) ?r53
  case h53 => (intro w hSw; (try dsimp only at hSw); go_simp; try with_reducible rfl)
  try simp only [Act.put, List.setIfInBounds_toArray, List.set_cons_zero, List.set_cons_succ]
  refine wpAnyH_take (i := 54) (oi := { dst := some 118, op := Go.Op.move (Go.Operand.tmp 4), type := 22, pos := "law.go:22", after := #[{ on := 52, ground := Go.Ground.guard }], guard := some (52, true) }) (v := ?v54) rfl (by kernel_rfl) (by kernel_rfl) (by kernel_rfl) (fun _ _ _ h => h) (Or.inl ⟨by kernel_rfl, ?h54⟩) (by assumption) ?r54
  case h54 => (intro w hSw; (try dsimp only at hSw); go_simp; try with_reducible rfl)
  try simp only [Act.put, List.setIfInBounds_toArray, List.set_cons_zero, List.set_cons_succ]
  refine wpAnyH_ready (rs := [55]) (by kernel_rfl) (by simp) ?_
  refine AllReadyH.cons (o := { dst := some 119, op := Go.Op.call { callee := Go.Callee.value (Go.Operand.func 17), args := #[Go.Operand.tmp 117, Go.Operand.tmp 118], argTypes := #[22, 22] }, type := 4, pos := "law.go:22", after := #[{ on := 53, ground := Go.Ground.data }, { on := 54, ground := Go.Ground.data }, { on := 52, ground := Go.Ground.chain }, { on := 52, ground := Go.Ground.guard }], guard := some (52, true) }) rfl (fun K hK => ?_) AllReadyH.nil
  go_simp
  refine (hss.out _ hb26).mono ?_
  rintro e w13 ⟨rfl, b13⟩
  have hb55 : Below w12.heap.size w12 w13 := b13
  go_simp
  refine hK.out _ _ (hb55) (fun hHeld => ?_)
  clear hK K
  try simp only [Act.put, List.setIfInBounds_toArray, List.set_cons_zero, List.set_cons_succ]
  refine wpAnyH_now hHeld (fun hHeld => ?_)
  replace hcA := rebase hcA (hb55)
  replace hcB := rebase hcB (hb55)
  replace hcC := rebase hcC (hb55)
  refine wpAnyH_take (i := 56) (oi := { dst := some 120, op := Go.Op.pick (Go.Operand.tmp 116) (Go.Operand.tmp 119) (Go.Operand.const (Go.Value.bool false)), type := 4, pos := "law.go:22", after := #[{ on := 52, ground := Go.Ground.data }, { on := 55, ground := Go.Ground.data }], guard := none }) (v := ?v55) rfl (by kernel_rfl) (by kernel_rfl) (by kernel_rfl) (fun _ _ _ h => h) (Or.inl ⟨by kernel_rfl, ?h55⟩) (by assumption) ?r55
  case h55 => (intro w hSw; (try dsimp only at hSw); go_simp; try with_reducible rfl)
  try simp only [Act.put, List.setIfInBounds_toArray, List.set_cons_zero, List.set_cons_succ]
  refine wpAnyH_take (i := 57) (oi := { dst := some 0, op := Go.Op.assign (Go.Operand.tmp 120), type := 4, pos := "law.go:22", after := #[{ on := 56, ground := Go.Ground.data }, { on := 55, ground := Go.Ground.chain }, { on := 0, ground := Go.Ground.phase }, { on := 1, ground := Go.Ground.phase }, { on := 2, ground := Go.Ground.phase }, { on := 3, ground := Go.Ground.phase }, { on := 4, ground := Go.Ground.phase }, { on := 5, ground := Go.Ground.phase }, { on := 6, ground := Go.Ground.phase }, { on := 7, ground := Go.Ground.phase }, { on := 8, ground := Go.Ground.phase }, { on := 9, ground := Go.Ground.phase }, { on := 10, ground := Go.Ground.phase }, { on := 11, ground := Go.Ground.phase }, { on := 12, ground := Go.Ground.phase }, { on := 13, ground := Go.Ground.phase }, { on := 14, ground := Go.Ground.phase }, { on := 15, ground := Go.Ground.phase }, { on := 16, ground := Go.Ground.phase }, { on := 17, ground := Go.Ground.phase }, { on := 18, ground := Go.Ground.phase }, { on := 19, ground := Go.Ground.phase }, { on := 20, ground := Go.Ground.phase }, { on := 21, ground := Go.Ground.phase }, { on := 22, ground := Go.Ground.phase }, { on := 23, ground := Go.Ground.phase }, { on := 24, ground := Go.Ground.phase }, { on := 25, ground := Go.Ground.phase }, { on := 26, ground := Go.Ground.phase }, { on := 27, ground := Go.Ground.phase }, { on := 28, ground := Go.Ground.phase }, { on := 29, ground := Go.Ground.phase }, { on := 30, ground := Go.Ground.phase }, { on := 31, ground := Go.Ground.phase }, { on := 32, ground := Go.Ground.phase }, { on := 33, ground := Go.Ground.phase }, { on := 34, ground := Go.Ground.phase }, { on := 35, ground := Go.Ground.phase }, { on := 36, ground := Go.Ground.phase }, { on := 37, ground := Go.Ground.phase }, { on := 38, ground := Go.Ground.phase }, { on := 39, ground := Go.Ground.phase }, { on := 40, ground := Go.Ground.phase }, { on := 41, ground := Go.Ground.phase }, { on := 42, ground := Go.Ground.phase }, { on := 43, ground := Go.Ground.phase }, { on := 44, ground := Go.Ground.phase }, { on := 45, ground := Go.Ground.phase }, { on := 46, ground := Go.Ground.phase }, { on := 47, ground := Go.Ground.phase }, { on := 48, ground := Go.Ground.phase }, { on := 49, ground := Go.Ground.phase }, { on := 50, ground := Go.Ground.phase }, { on := 51, ground := Go.Ground.phase }, { on := 52, ground := Go.Ground.phase }, { on := 53, ground := Go.Ground.phase }, { on := 54, ground := Go.Ground.phase }, { on := 55, ground := Go.Ground.phase }, { on := 56, ground := Go.Ground.phase }], guard := none }) (v := ?v56) rfl (by kernel_rfl) (by kernel_rfl) (by kernel_rfl) (fun _ _ _ h => h) (Or.inl ⟨by kernel_rfl, ?h56⟩) (by assumption) ?r56
  case h56 => (intro w hSw; (try dsimp only at hSw); go_simp; try with_reducible rfl)
  try simp only [Act.put, List.setIfInBounds_toArray, List.set_cons_zero, List.set_cons_succ]
  refine wpAnyH_done (by kernel_rfl) ?_ _
  go_wp2
  go_ret
  have q1 := Bend.out.trans (hb26.mono Bend.out.size)
  exact ⟨rfl, q1.trans (hb55.mono q1.size)⟩
end Go.Proofs.Ytnjdgnlgdokddaa
