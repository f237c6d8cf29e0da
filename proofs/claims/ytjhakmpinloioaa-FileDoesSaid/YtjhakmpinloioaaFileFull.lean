/- FileFull: a file has at most so many bytes. -/
import Derived.Test.YtjhakmpinloioaaFileLives
import Derived.OwnWalk
namespace Go.Proofs.Ytjhakmpinloioaa
open Go.RowKit
set_option linter.unusedVariables false
set_option linter.unusedSimpArgs false

def Zs (N : Nat) : List Int := List.replicate N 0
theorem zs_len (N : Nat) : (Zs N).length = N := by simp [Zs]
theorem zs_take (N : Nat) : (Zs N).take N = Zs N := by simp [Zs]
theorem zs_add (N M : Nat) : Zs N ++ Zs M = Zs (N + M) := by simp [Zs]
def S0 : St := ⟨fun _ => [], false, false, 0⟩
def Ln (N : Nat) : St := ⟨upd (fun _ => []) 0 (Zs N), false, false, 0⟩
theorem s0_fine : S0.fine := ⟨by decide, by decide, by decide⟩
theorem ln_fine (N : Nat) (h : N ≤ 4194304) : (Ln N).fine := ⟨by simpa [Ln, upd, zs_len] using h, by simp [Ln, upd], by simp [Ln]⟩
theorem write1 (N : Nat) (h : N ≤ 4194304) : writeO S0 0 (Zs N) = (0, Ln N) := by
  have h1 : ¬ 4194304 < N := by omega
  simp [writeO, S0, zs_len, h1, St.code, St.after, St.paid, St.with_, Ln, zs_take]
theorem write1f (N : Nat) (h : 4194304 < N) : writeO S0 0 (Zs N) = (2, S0) := by simp [writeO, S0, zs_len, h]
theorem write2 (N M : Nat) (h : N + M ≤ 4194304) : writeO (Ln N) 0 (Zs M) = (0, Ln (N + M)) := by
  have h1 : ¬ 4194304 < N + M := by omega
  simp [writeO, zs_len, upd, h1, St.code, St.after, St.paid, St.with_, Ln, zs_take, zs_add]
  funext i; simp [upd]; split <;> simp_all
theorem write2f (N M : Nat) (h : 4194304 < N + M) : writeO (Ln N) 0 (Zs M) = (2, Ln N) := by simp [writeO, Ln, upd, zs_len, h]
theorem spoilf (K N : Nat) (h : N ≤ K) (h2 : 4194304 < N + 21) : spoilO (Ln K) 0 N (Zs 21) = (2, Ln K) := by
  have h3 : ¬ ((K : Int) < (N : Int)) := by omega
  have h4 : ¬ ((N : Int) < 0) := by omega
  have h5 : (4194304 : Int) < (N : Int) + 21 := by omega
  simp [spoilO, Ln, upd, zs_len, h3, h4, h5]
theorem readln (K : Nat) : readO (Ln K) 0 = (Zs K, 0) := by simp [readO, Ln, upd]
theorem own_seesE {w : World} {X : List Nat} {base : Nat} {e : TypeId} {k : IntKind} {v : Value} {l : List Int} (h : w.ownsRow base e 1 v l.length (nums k l)) (hX : ∀ x ∈ X, x < base) :
    ∃ a c, v = .slice a l.length c ∧ SeesE X k w.heap.size w a l := by
  obtain ⟨a, c, rfl, -, hs⟩ := sees_own h
  refine ⟨a, c, rfl, ?_⟩
  rcases hs with hs | ⟨b, off, rfl, hlt, hcell⟩
  · exact .inl hs
  · rcases h.2 with ⟨h1, h2⟩ | ⟨g, cap, cur, hv, hg, r⟩
    · exact .inl (List.eq_nil_of_length_eq_zero h2)
    · injection hv with ha
      injection ha with ha
      injection ha with ha
      subst ha
      exact .inr ⟨_, _, rfl, hlt, fun hm => by have := hX _ hm; omega, hcell⟩
/-- make([]byte, n): what is made, and what of it is asked. -/
theorem made_sees {w w' : World} {X : List Nat} (hX : ∀ x ∈ X, x < w.heap.size) (N : Nat) (h : w'.ownsRow w.heap.size 5 1 (.slice (some ⟨w.heap.size, 0, none⟩) N N) N (madeCells (Value.int .u8 0).cells (N * 1)).toList) :
    SeesE X .u8 w'.heap.size w' (some ⟨w.heap.size, 0, none⟩) (Zs N) := by
  rw [made_zero] at h
  have h2 : w'.ownsRow w.heap.size 5 1 (.slice (some ⟨w.heap.size, 0, none⟩) N N) (Zs N).length (nums .u8 (Zs N)) := by rw [zs_len]; exact h
  obtain ⟨a, c, hv, hs⟩ := own_seesE h2 hX
  injection hv with ha
  subst ha
  exact hs
theorem grown_below {w w' : World} (h : w.grownBy w' none) : Below w.heap.size w w' := ((BelowE.refl ([] : List Nat) w.heap.size w).grown h (Nat.le_refl _) (by simp)).none

theorem fileFull_lives (w : World) (n : Int) (hn : (Lit.int .i64 n).wf = true) (k : Int) (hk : (Lit.int .i64 k).wf = true) (h : n < 4194294 ∨ 4194314 < n ∨ k < 0 ∨ 20 < k) :
    Calls Try.prog 5 #[.int .i64 n, .int .i64 k] w (Gives (.bool true) w) := by
  have hl := Lib.hid (lives_any w)
  by_cases h1 : n < 4194294
  · clear h
    go_enter Try.func5, Try.ntmps5
    go_wp2_with fail
    refine hl.out.mono ?_
    rintro e w1 ⟨rfl, b1⟩
    go_wp2
    go_ret
    exact ⟨rfl, b1⟩
  · by_cases h2 : 4194314 < n
    · clear h
      go_enter Try.func5, Try.ntmps5
      go_wp2_with fail
      refine hl.out.mono ?_
      rintro e w1 ⟨rfl, b1⟩
      go_wp2
      go_ret
      exact ⟨rfl, b1⟩
    · by_cases h3 : k < 0
      · clear h
        go_enter Try.func5, Try.ntmps5
        go_wp2_with fail
        refine hl.out.mono ?_
        rintro e w1 ⟨rfl, b1⟩
        go_wp2
        go_ret
        exact ⟨rfl, b1⟩
      · have h4 : 20 < k := by omega
        clear h
        go_enter Try.func5, Try.ntmps5
        go_wp2_with fail
        refine hl.out.mono ?_
        rintro e w1 ⟨rfl, b1⟩
        go_wp2
        go_ret
        exact ⟨rfl, b1⟩

set_option maxRecDepth 100000 in
set_option maxHeartbeats 1000000 in
theorem fileFull_over (w : World) (N M : Nat) (h1 : 4194304 < N) (h2 : N ≤ 4194314) (h3 : M ≤ 20) :
    Calls Try.prog 5 #[.int .i64 N, .int .i64 M] w (Gives (.bool true) w) := by
  obtain ⟨i0, hi, hz0, hz1, hz2⟩ := info_parts infoU8'
  have g1 : ¬ ((N : Int) < 4194294) := by omega
  have g2 : ¬ ((4194314 : Int) < N) := by omega
  have g3 : ¬ ((M : Int) < 0) := by omega
  have g4 : ¬ ((20 : Int) < M) := by omega
  have g5 : (4194304 : Int) < N := by omega
  have hN : i0.bytes * N ≤ 281474976710656 := by rw [hz2]; omega
  have hN2 : N ≤ maxLen := by unfold maxLen; omega
  have hN' := Lib.hid hN
  have hN2' := Lib.hid hN2
  have hw := Lib.hid (write1f N h1)
  have hNb : Hid ((Zs N).length ≤ 50000000) := Lib.hid (by rw [zs_len]; omega)
  have hNl : Hid (N = (Zs N).length) := Lib.hid (zs_len N).symm
  clear hN hN2 h1 h2 h3
  go_enter Try.func5, Try.ntmps5
  go_wp2_with fail
  refine (new_any w).mono ?_
  rintro e w1 ⟨d, F, rfl, D, b1, f1⟩
  go_wp2_with fail
  refine (lives_any w1).mono ?_
  rintro e w2 ⟨rfl, h⟩
  have D2 := D.below h
  replace b1 := b1.trans (h.mono b1.size)
  clear h D
  go_wp2_with (at_make; refine wpList_make_full w2 rfl _ _ 30 rfl w2.heap.size 5 i0 (.int .u8 0) 1 Try.underlying30 hi hz0 hz1 .i64 .i64 _ _ N rfl rfl rfl rfl hN'.out hN2'.out (Nat.le_refl _) ?_; intro w3 hown hgrow)
  have hb := grown_below hgrow
  refine (write_any d F S0 0 (some ⟨w2.heap.size, 0, none⟩) N N (Zs N) _ (D2.below hb) s0_fine hNl.out (made_sees (by simpa using D2.lt) N hown) (Nat.le_refl _) hNb.out).mono ?_
  rw [hw.out]
  rintro e w4 ⟨rfl, F4, D4, t4⟩
  obtain ⟨b4, f4⟩ := t4.all (b1.trans (hb.mono b1.size)) f1
  clear hb hown hgrow D2 t4 b1 f1
  go_wp2
  go_ret
  exact ⟨rfl, b4⟩

set_option maxRecDepth 100000 in
set_option maxHeartbeats 1000000 in
theorem fileFull_full (w : World) (N M : Nat) (h0 : 4194294 ≤ N) (h1 : N ≤ 4194304) (h3 : M ≤ 20) (K : Nat) (c : Int) (hK : N ≤ K ∧ K ≤ 4194304) (hw2 : writeO (Ln N) 0 (Zs M) = (c, Ln K)) (hc : (c = 0 ∧ N + M ≤ 4194304) ∨ (c = 2 ∧ 4194304 < N + M ∧ K = N)) :
    Calls Try.prog 5 #[.int .i64 N, .int .i64 M] w (Gives (.bool true) w) := by
  obtain ⟨i0, hi, hz0, hz1, hz2⟩ := info_parts infoU8'
  have g1 : ¬ ((N : Int) < 4194294) := by omega
  have g2 : ¬ ((4194314 : Int) < N) := by omega
  have g3 : ¬ ((M : Int) < 0) := by omega
  have g4 : ¬ ((20 : Int) < M) := by omega
  have g5 : ¬ ((4194304 : Int) < N) := by omega
  have gN : (N : Int) ≤ 4194304 := by omega
  have gN0 : (4194294 : Int) ≤ N := by omega
  have gM : (M : Int) ≤ 20 := by omega
  have hN' : Hid (i0.bytes * N ≤ 281474976710656) := Lib.hid (by rw [hz2]; omega)
  have hN2' : Hid (N ≤ maxLen) := Lib.hid (by unfold maxLen; omega)
  have hM' : Hid (i0.bytes * M ≤ 281474976710656) := Lib.hid (by rw [hz2]; omega)
  have hM2' : Hid (M ≤ maxLen) := Lib.hid (by unfold maxLen; omega)
  have hV' : Hid (i0.bytes * 21 ≤ 281474976710656) := Lib.hid (by rw [hz2]; omega)
  have hV2' : Hid (21 ≤ maxLen) := Lib.hid (by unfold maxLen; omega)
  have hw := Lib.hid (write1 N h1)
  have hw2' := Lib.hid hw2
  have hsp := Lib.hid (spoilf K N hK.1 (by omega))
  have fN := Lib.hid (ln_fine N h1)
  have fK := Lib.hid (ln_fine K hK.2)
  have hNb : Hid ((Zs N).length ≤ 50000000) := Lib.hid (by rw [zs_len]; omega)
  have hNl : Hid (N = (Zs N).length) := Lib.hid (zs_len N).symm
  have hMb : Hid ((Zs M).length ≤ 50000000) := Lib.hid (by rw [zs_len]; omega)
  have hMl : Hid (M = (Zs M).length) := Lib.hid (zs_len M).symm
  have hc' := Lib.hid hc
  clear h0 h1 h3 hK hw2 hc
  go_enter Try.func5, Try.ntmps5
  go_wp2_with fail
  refine (new_any w).mono ?_
  rintro e w1 ⟨d, F, rfl, D, b1, f1⟩
  go_wp2_with fail
  refine (lives_any w1).mono ?_
  rintro e w2 ⟨rfl, h⟩
  have D2 := D.below h
  replace b1 := b1.trans (h.mono b1.size)
  clear h D
  go_wp2_with (at_make; refine wpList_make_full w2 rfl _ _ 30 rfl w2.heap.size 5 i0 (.int .u8 0) 1 Try.underlying30 hi hz0 hz1 .i64 .i64 _ _ N rfl rfl rfl rfl hN'.out hN2'.out (Nat.le_refl _) ?_; intro w3 hown hgrow)
  have hb := grown_below hgrow
  refine (write_any d F S0 0 (some ⟨w2.heap.size, 0, none⟩) N N (Zs N) _ (D2.below hb) s0_fine hNl.out (made_sees (by simpa using D2.lt) N hown) (Nat.le_refl _) hNb.out).mono ?_
  rw [hw.out]
  rintro e w4 ⟨rfl, F4, D4, t4⟩
  obtain ⟨b4, f4⟩ := t4.all (b1.trans (hb.mono b1.size)) f1
  clear hb hown hgrow D2 t4 b1 f1
  go_wp2_with (at_make; refine wpList_make_full w4 rfl _ _ 30 rfl w4.heap.size 5 i0 (.int .u8 0) 1 Try.underlying30 hi hz0 hz1 .i64 .i64 _ _ M rfl rfl rfl rfl hM'.out hM2'.out (Nat.le_refl _) ?_; intro w5 hown hgrow)
  have hb := grown_below hgrow
  refine (write_any d F4 (Ln N) 0 (some ⟨w4.heap.size, 0, none⟩) M M (Zs M) _ (D4.below hb) fN.out hMl.out (made_sees (by simpa using D4.lt) M hown) (Nat.le_refl _) hMb.out).mono ?_
  rw [hw2'.out]
  rintro e w6 ⟨rfl, F6, D6, t6⟩
  obtain ⟨b6, f6⟩ := t6.all (b4.trans (hb.mono b4.size)) f4
  clear hb hown hgrow D4 t6 b4 f4
  go_wp2_with (at_make; refine wpList_make_full w6 rfl _ _ 30 rfl w6.heap.size 5 i0 (.int .u8 0) 1 Try.underlying30 hi hz0 hz1 .i64 .i64 _ _ 21 rfl rfl rfl rfl hV'.out hV2'.out (Nat.le_refl _) ?_; intro w7 hown hgrow)
  have hb := grown_below hgrow
  refine (spoil_any d F6 (Ln K) 0 N (some ⟨w6.heap.size, 0, none⟩) 21 21 (Zs 21) _ (D6.below hb) fK.out rfl (made_sees D6.all 21 hown) (by decide)).mono ?_
  rw [hsp.out]
  rintro e w8 ⟨rfl, F8, D8, t8⟩
  obtain ⟨b8, f8⟩ := t8.all (b6.trans (hb.mono b6.size)) f6
  clear hb hown hgrow D6 t8 b6 f6
  go_wp2_with fail
  refine (read_any d F8 (Ln K) 0 w8 D8 fK.out).mono ?_
  rw [readln]
  rintro e w9 ⟨v9, rfl, o9, c9⟩
  have b9 := b8.trans (c9.mono b8.size)
  have o9' : w9.ownsRow w8.heap.size 5 1 v9 (Zs K).length (nums .u8 (Zs K)) := o9
  obtain ⟨a9, k9, rfl, -, -⟩ := sees_own o9'
  rw [zs_len]
  clear D8 c9 b8 o9 o9'
  rcases hc'.out with ⟨rfl, hk⟩ | ⟨rfl, hk, rfl⟩
  · have g6 : ¬ ((4194304 : Int) < (N : Int) + M) := by omega
    have g7 : ¬ ((N : Int) + 21 ≤ 4194304) := by omega
    clear hk hc'
    go_wp2
    go_ret
    exact ⟨by simp; omega, b9⟩
  · have g6 : ((4194304 : Int) < (K : Int) + M) := by omega
    clear hk hc'
    go_wp2
    go_ret
    exact ⟨rfl, b9⟩

theorem fileFull_walk (w : World) (n : Int) (hn : (Lit.int .i64 n).wf = true) (k : Int) (hk : (Lit.int .i64 k).wf = true) :
    Calls Try.prog 5 #[.int .i64 n, .int .i64 k] w (Gives (.bool true) w) := by
  by_cases h : n < 4194294 ∨ 4194314 < n ∨ k < 0 ∨ 20 < k
  · exact fileFull_lives w n hn k hk h
  · obtain ⟨N, rfl⟩ := Int.eq_ofNat_of_zero_le (show 0 ≤ n by omega)
    obtain ⟨M, rfl⟩ := Int.eq_ofNat_of_zero_le (show 0 ≤ k by omega)
    by_cases h1 : 4194304 < N
    · exact fileFull_over w N M h1 (by omega) (by omega)
    · by_cases h2 : N + M ≤ 4194304
      · exact fileFull_full w N M (by omega) (by omega) (by omega) (N + M) 0 ⟨by omega, h2⟩ (write2 N M h2) (.inl ⟨rfl, h2⟩)
      · exact fileFull_full w N M (by omega) (by omega) (by omega) N 2 ⟨by omega, by omega⟩ (write2f N M (by omega)) (.inr ⟨rfl, by omega, rfl⟩)
end Go.Proofs.Ytjhakmpinloioaa
