/- CrcJoins: the walk of the statement's function. -/
import Derived.Test.YtgdfanpolmoffaaCrcLives
import Derived.Test.YtgdfanpolmoffaaKit2
namespace Go.Proofs.Ytgdfanpolmoffaa
open Go.RowKit
set_option linter.unusedVariables false
set_option linter.unusedSimpArgs false

theorem infoU8 : (Try.prog.info? 5).map (fun i => (i.zero, i.size, i.bytes)) = some (some (.int .u8 0), 1, 1) := by kernel_rfl
theorem creg_xor (p q : Nat) (r : List Int) : creg (p ^^^ q) r = creg p r ^^^ steps (8 * r.length) q := by
  induction r generalizing p q with
  | nil => rfl
  | cons c r ih =>
    have e : tk (p ^^^ q) c.toNat = tk p c.toNat ^^^ steps 8 q := by
      unfold tk
      rw [show p ^^^ q ^^^ c.toNat = p ^^^ c.toNat ^^^ q by ac_rfl, steps_xor]
    show creg (tk (p ^^^ q) c.toNat) r = creg (tk p c.toNat) r ^^^ steps (8 * (r.length + 1)) q
    rw [e, ih, ← steps_add, show 8 * r.length + 8 = 8 * (r.length + 1) by omega]
theorem not32 {x : Nat} (h : x < 4294967296) : 4294967295 - x = 4294967295 ^^^ x := by
  have := nat_not (n := 32) (x := x) h
  rw [show (2 : Nat) ^ 32 - 1 = 4294967295 by decide] at this
  exact this.symm
theorem join_sum {l r : List Int} (hl : Bs l) (hr : Bs r) : steps (8 * r.length) (csum 0 l) ^^^ csum 0 r = csum 0 (l ++ r) := by
  unfold csum
  rw [Nat.sub_zero, creg_append]
  have hz : 4294967295 < 4294967296 := by omega
  have hL := creg_lt hz hl
  have hR := creg_lt hz hr
  have hLR := creg_lt hL hr
  rw [not32 hL, not32 hR, not32 hLR]
  have e : creg 4294967295 l = 4294967295 ^^^ (4294967295 ^^^ creg 4294967295 l) := by rw [← Nat.xor_assoc, Nat.xor_self, Nat.zero_xor]
  have e2 : creg (creg 4294967295 l) r = creg 4294967295 r ^^^ steps (8 * r.length) (4294967295 ^^^ creg 4294967295 l) := by
    conv => lhs; rw [e]
    exact creg_xor _ _ _
  rw [e2]
  ac_rfl
theorem bs_app {l r : List Int} (h : Bs l) (h2 : Bs r) : Bs (l ++ r) := by
  intro x hx
  rcases List.mem_append.1 hx with hx | hx
  · exact h x hx
  · exact h2 x hx
theorem join_i (A B : Int) (a b : Nat) (hA : A = a) (hB : B = b) (ha : a < 4294967296) (hb : b < 4294967296) (n : Int) (hn : n ≤ 9223372036854775807) (w : World) (F : Int) (hF : F = (steps (8 * n.toNat) a ^^^ b : Nat)) :
    Calls Try.prog 14 #[.int .u32 A, .int .u32 B, .int .i64 n] w fun e w' => e = .returned (.int .u32 F) ∧ Below w.heap.size w w' := by
  subst hA hB hF; exact join_any a b ha hb n hn w

set_option maxRecDepth 100000 in
set_option maxHeartbeats 2000000 in
theorem crcJoins_walk (w : World)
    (a : Option Addr) (len cap : Nat) (l : List Int) (hlen : l.length = len) (hm : len ≤ maxLen) (hcap : len ≤ cap) (hwf : ∀ n ∈ l, (Lit.int .u8 n).wf = true) (hs : Sees .u8 w.heap.size w a l)
    (b : Option Addr) (len2 cap2 : Nat) (r : List Int) (hlen2 : r.length = len2) (hm2 : len2 ≤ maxLen) (hcap2 : len2 ≤ cap2) (hwf2 : ∀ n ∈ r, (Lit.int .u8 n).wf = true) (hs2 : Sees .u8 w.heap.size w b r)
    (n : Int) (hnw : (Lit.int .i64 n).wf = true) :
    Calls Try.prog 5 #[.slice a len cap, .slice b len2 cap2, .int .i64 n] w (Gives (.bool true) w) := by
  obtain ⟨i0, hi, hz0, hz1, hz2⟩ := info_parts infoU8
  have hb := bs_of_wf hwf
  have hb2 := bs_of_wf hwf2
  clear hwf hwf2
  subst hlen
  subst hlen2
  have hn64 := i64_wf hnw
  have hm' := hm
  have hm2' := hm2
  unfold maxLen at hm' hm2'
  by_cases hbig : 3000 < l.length
  · go_enter Try.func5, Try.ntmps5
    go_wp2_with (go_at_call 7; refine (lives_any _).mono ?_; rintro e w' ⟨rfl, hb'⟩)
    go_ret
    exact ⟨rfl, hb'⟩
  have hd : decide ((3000 : Int) < (l.length : Int)) = false := by simp; omega
  by_cases hbig2 : 3000 < r.length
  · go_enter Try.func5, Try.ntmps5
    go_wp2_with (go_at_call 7; refine (lives_any _).mono ?_; rintro e w' ⟨rfl, hb'⟩)
    go_ret
    exact ⟨rfl, hb'⟩
  have hd2 : decide ((3000 : Int) < (r.length : Int)) = false := by simp; omega
  obtain ⟨X, hX⟩ : ∃ F : Int, F = (csum 0 l : Nat) := ⟨_, rfl⟩
  obtain ⟨Y, hY⟩ : ∃ F : Int, F = (csum 0 r : Nat) := ⟨_, rfl⟩
  obtain ⟨Z, hZ⟩ : ∃ F : Int, F = (csum 0 (l ++ r) : Nat) := ⟨_, rfl⟩
  obtain ⟨J, hJ⟩ : ∃ F : Int, F = (steps (8 * (0 : Int).toNat) (csum 0 l) ^^^ csum 0 r : Nat) := ⟨_, rfl⟩
  have hJZ : Z = (steps (8 * ((r.length : Nat) : Int).toNat) (csum 0 l) ^^^ csum 0 r : Nat) := by rw [hZ, Int.toNat_natCast, join_sum hb hb2]
  have c1 := fun B w hc => sum_i a l l.length cap rfl B w hm hb hc X hX
  have c2 := fun B w hc => sum_i b r r.length cap2 rfl B w hm2 hb2 hc Y hY
  have c3 := fun w => join_i X Y _ _ hX hY (csum_lt _ _) (csum_lt _ _) ((r.length : Nat) : Int) (by omega) w Z hJZ
  have c4 := fun x c B w hc => refsum_i x (l ++ r) (l.length + r.length) c (by simp) B w (by simp; unfold maxLen; omega) (bs_app hb hb2) hc Z hZ
  have c5 := fun (hn : n ≤ 0) w => join_i X Y _ _ hX hY (csum_lt _ _) (csum_lt _ _) n (by omega) w J (by rw [hJ]; rw [show n.toNat = (0 : Int).toNat by simp; omega])
  have c6 := fun w => join_i X Y _ _ hX hY (csum_lt _ _) (csum_lt _ _) 0 (by omega) w J hJ
  have c1' := Lib.hid c1
  have c2' := Lib.hid c2
  have c3' := Lib.hid c3
  have c4' := Lib.hid c4
  have c5' := Lib.hid c5
  have c6' := Lib.hid c6
  clear c1 c2 c3 c4 c5 c6 hX hY hZ hJ hJZ hb hb2
  have hlr : l.length + r.length < 7000 := by omega
  have main : (0 < n ∨ n ≤ 0) := by omega
  rcases main with hpos | hneg
  · go_enter Try.func5, Try.ntmps5
    go_wp2_with fail
    refine (c1'.out _ _ hs).mono ?_
    rintro e w' ⟨rfl, rfl⟩
    go_wp2_with fail
    refine (c2'.out _ _ hs2).mono ?_
    rintro e w' ⟨rfl, rfl⟩
    go_wp2_with fail
    refine (lives_any _).mono ?_
    rintro e w1 ⟨rfl, hw1⟩
    go_wp2_with fail
    refine (c3'.out _).mono ?_
    rintro e wj ⟨rfl, hwj⟩
    have kj := on hw1 hwj
    have k1 := hs.below kj
    have k2 := hs2.below kj
    have kz := kj.size
    go_wp2_with (first
      | (at_builtin; refine wpList_append_sees_g _ (by rfl) (.tmp 29) (.tmp 30) 22 rfl wj 5 i0 (.int .u8 0) 1 Try.underlying22 hi hz0 hz1 hz2 rfl .u8 _ [] (by exact own_empty 5 .u8 (Below.refl _ wj)) (by exact (Below.refl _ wj).alloc (Nat.le_refl _) _) w.heap.size a l (by exact k1.below ((Below.refl _ wj).alloc (by omega) _)) l.length cap rfl rfl rfl (by simp; omega) (by omega) ?_; intro v2 w2 hown2 hw2; simp only [List.nil_append] at hown2)
      | (at_builtin; refine wpList_append_sees_g _ (by rfl) (.tmp 31) (.tmp 32) 22 rfl wj 5 i0 (.int .u8 0) 1 Try.underlying22 hi hz0 hz1 hz2 rfl .u8 _ l hown2 hw2 w.heap.size b r (by exact k2.below (hw2.mono kz)) r.length cap2 rfl rfl rfl (by omega) (by omega) ?_; intro v3 w3 hown3 hw3))
    have kw3 := on kj hw3
    obtain ⟨a3, cap3, rfl, _, hs3⟩ := sees_own hown3
    clear hown2 hown3
    rw [List.length_append]
    refine (c4'.out _ _ _ _ hs3).mono ?_
    rintro e w' ⟨rfl, rfl⟩
    go_wp2
    go_ret
    exact ⟨rfl, kw3⟩
  · go_enter Try.func5, Try.ntmps5
    go_wp2_with fail
    refine (c1'.out _ _ hs).mono ?_
    rintro e w' ⟨rfl, rfl⟩
    go_wp2_with fail
    refine (c2'.out _ _ hs2).mono ?_
    rintro e w' ⟨rfl, rfl⟩
    go_wp2_with fail
    refine (lives_any _).mono ?_
    rintro e w1 ⟨rfl, hw1⟩
    go_wp2_with fail
    refine (c3'.out _).mono ?_
    rintro e wj ⟨rfl, hwj⟩
    have kj := on hw1 hwj
    have k1 := hs.below kj
    have k2 := hs2.below kj
    have kz := kj.size
    go_wp2_with (first
      | (at_builtin; refine wpList_append_sees_g _ (by rfl) (.tmp 29) (.tmp 30) 22 rfl wj 5 i0 (.int .u8 0) 1 Try.underlying22 hi hz0 hz1 hz2 rfl .u8 _ [] (by exact own_empty 5 .u8 (Below.refl _ wj)) (by exact (Below.refl _ wj).alloc (Nat.le_refl _) _) w.heap.size a l (by exact k1.below ((Below.refl _ wj).alloc (by omega) _)) l.length cap rfl rfl rfl (by simp; omega) (by omega) ?_; intro v2 w2 hown2 hw2; simp only [List.nil_append] at hown2)
      | (at_builtin; refine wpList_append_sees_g _ (by rfl) (.tmp 31) (.tmp 32) 22 rfl wj 5 i0 (.int .u8 0) 1 Try.underlying22 hi hz0 hz1 hz2 rfl .u8 _ l hown2 hw2 w.heap.size b r (by exact k2.below (hw2.mono kz)) r.length cap2 rfl rfl rfl (by omega) (by omega) ?_; intro v3 w3 hown3 hw3))
    have kw3 := on kj hw3
    obtain ⟨a3, cap3, rfl, _, hs3⟩ := sees_own hown3
    clear hown2 hown3
    rw [List.length_append]
    refine (c4'.out _ _ _ _ hs3).mono ?_
    rintro e w' ⟨rfl, rfl⟩
    go_wp2_with fail
    refine (c5'.out hneg _).mono ?_
    rintro e w5 ⟨rfl, hw5⟩
    go_wp2_with fail
    refine (c6'.out _).mono ?_
    rintro e w6 ⟨rfl, hw6⟩
    go_wp2
    go_ret
    exact ⟨rfl, on (on kw3 hw5) hw6⟩
end Go.Proofs.Ytgdfanpolmoffaa
