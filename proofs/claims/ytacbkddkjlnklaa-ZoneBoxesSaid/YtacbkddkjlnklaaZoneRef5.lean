/- Zones changed: the document's Let, of another variable. -/
import Derived.Test.YtacbkddkjlnklaaZoneRef4
namespace Go.Proofs.Ytacbkddkjlnklaa
open Go.RowKit
set_option linter.unusedVariables false
set_option linter.unusedSimpArgs false

theorem rlim_any (n : Nat) (l : List Int) (hz : IsZ n l) (i j : Nat) (hi : i ≤ n) (hj : j ≤ n) (c : Int) (a : Option Addr) (m ca : Nat) (w : World) (h : SL w a m ca l) : Calls Try.prog 30 #[.agg #[.int .i64 n, .slice a m ca], .int .i64 i, .int .i64 j, .int .i64 c] w (ZoneN n (limitL n l i j c) w) := by
  unfold limitL stepL
  rcases hz.2 with e | hF
  · subst e
    have hm : m = 0 := by rw [h.len]; rfl
    subst hm
    rw [if_pos rfl]
    exact rlim_nil n i j c a ca w
  · rw [if_neg hF.ne]
    exact rlim_full n l hF i j hi hj c a m ca w h
theorem rfor_any (n : Nat) (l : List Int) (hz : IsZ n l) (i : Nat) (hi : i ≤ n) (a : Option Addr) (m ca : Nat) (w : World) (h : SL w a m ca l) : Calls Try.prog 29 #[.agg #[.int .i64 n, .slice a m ca], .int .i64 i] w (ZoneN n (forgetL n l i) w) := by
  unfold forgetL stepL
  rcases hz.2 with e | hF
  · subst e
    have hm : m = 0 := by rw [h.len]; rfl
    subst hm
    rw [if_pos rfl]
    exact rfor_nil n i a ca w
  · rw [if_neg hF.ne]
    exact rfor_full n l hF i hi a m ca w h
theorem rlet_far (n : Nat) (i j c : Int) (a : Option Addr) (m ca : Nat) (w : World) (hm : m ≤ 9223372036854775807) (hc : 2199023255552 < c ∨ c < -2199023255552 ∨ m = 0) : Calls Try.prog 31 #[.agg #[.int .i64 n, .slice a m ca], .int .i64 i, .int .i64 j, .int .i64 c] w (ZoneN n [] w) := by
  obtain ⟨hb, hz⟩ := b1_new2 w (.int .i64 n) (.slice a m ca) (.int .i64 n) (.slice none 0 0)
  have hb' := Lib.hid hb
  have hz' := Lib.hid hz
  clear hb hz
  have hsplit : (2199023255552 < c) ∨ (¬ 2199023255552 < c ∧ c < -2199023255552) ∨ (¬ 2199023255552 < c ∧ ¬ c < -2199023255552 ∧ m = 0) := by omega
  clear hc
  rcases hsplit with h1 | ⟨h1, h2⟩ | ⟨h1, h2, h3⟩
  · go_enter Try.func31, Try.ntmps31
    go_wp2
    exact zone_ret hz'.out ⟨none, 0, 0, rfl, SL.nil _, hb'.out, .inl rfl⟩ _ _ 8 rfl rfl rfl
  · go_enter Try.func31, Try.ntmps31
    go_wp2
    exact zone_ret hz'.out ⟨none, 0, 0, rfl, SL.nil _, hb'.out, .inl rfl⟩ _ _ 8 rfl rfl rfl
  · subst h3
    go_enter Try.func31, Try.ntmps31
    go_wp2
    exact zone_ret hz'.out ⟨none, 0, 0, rfl, SL.nil _, hb'.out, .inl rfl⟩ _ _ 8 rfl rfl rfl
set_option maxRecDepth 100000 in
set_option maxHeartbeats 1000000 in
theorem rlet_ne (n : Nat) (l : List Int) (hF : Full n l) (i j : Nat) (hi : i ≤ n) (hj : j ≤ n) (hij : i ≠ j) (c : Int) (hc1 : c ≤ 2199023255552) (hc2 : -2199023255552 ≤ c) (a : Option Addr) (m ca : Nat) (w : World) (h : SL w a m ca l) : Calls Try.prog 31 #[.agg #[.int .i64 n, .slice a m ca], .int .i64 i, .int .i64 j, .int .i64 c] w (ZoneN n (limitL n (limitL n (forgetL n l i) i j c) j i (-c)) w) := by
  obtain ⟨W1, hW1⟩ : ∃ W1, W1 = (w.alloc (.cells #[.int .i64 n, .slice a m ca] 24)).alloc (.cells #[.int .i64 0, .slice none 0 0] 24) := ⟨_, rfl⟩
  have X1 : B1 w W1 (.int .i64 n) (.slice a m ca) := by rw [hW1]; exact b1_new _ _ _
  have hpos := sz_pos n
  have hs81 := sz_le hF.le
  have hm : m = sz n := by rw [h.len, hF.len]
  have p1 : ((m : Int) == 0) = false := by simp; omega
  have p2 : ¬ (m : Int) = 0 := by omega
  have hw : IntKind.i64.wrap (-c) = -c := wrap_small (by omega) (by omega)
  have g1 : ¬ 2199023255552 < c := by omega
  have g2 : ¬ c < -2199023255552 := by omega
  have hne : ((i : Int) != (j : Int)) = true := by simp; omega
  have q1 := Lib.hid (rfor_any n l ⟨hF.le, .inr hF⟩ i hi a m ca W1 (h.below X1.bl))
  have z1 : IsZ n (forgetL n l i) := stepL_isz hF.le _ _
  have z2 : IsZ n (limitL n (forgetL n l i) i j c) := stepL_isz hF.le _ _
  have z3 : IsZ n (limitL n (limitL n (forgetL n l i) i j c) j i (-c)) := stepL_isz hF.le _ _
  have q2 := Lib.hid (fun a m ca W h => rlim_any n _ z1 i j hi hj c a m ca W h)
  have q3 := Lib.hid (fun a m ca W h => rlim_any n _ z2 j i hj hi (-c) a m ca W h)
  have k0 := X1.z1.cell 0
  have k1 := X1.z1.cell 1
  have hW1' := Lib.hid hW1
  have X1' := Lib.hid X1
  have hmi : (m : Int) ≤ 81 := by omega
  clear X1 hW1 h hF hm hpos hs81 z1 z2 z3 hij
  generalize limitL n (limitL n (forgetL n l i) i j c) j i (-c) = R3 at *
  generalize limitL n (forgetL n l i) i j c = R2 at *
  generalize forgetL n l i = R1 at *
  go_enter Try.func31, Try.ntmps31
  go_wp2_with fail
  rw [← hW1'.out]
  refine q1.out.mono ?_
  rintro e w2 ⟨a2, m2, c2, rfl, s2, b2, nw2⟩
  have T2 := Lib.hid (q2.out a2 m2 c2 w2 s2)
  have X2 := Lib.hid (X1'.out.on b2)
  clear q1 q2 X1' b2 nw2 s2 k0 k1
  go_wp2_with fail
  refine T2.out.mono ?_
  rintro e w3 ⟨a3, m3, c3, rfl, s3, b3, nw3⟩
  have T3 := Lib.hid (q3.out a3 m3 c3 w3 s3)
  have X3 := Lib.hid (X2.out.on b3)
  clear T2 q3 X2 b3 nw3 s3
  go_wp2_with fail
  refine T3.out.mono ?_
  rintro e w4 ⟨a4, m4, c4, rfl, s4, b4, nw4⟩
  have Zd := X3.out.z2.below b4 X3.out.z2.lt
  have y0 := Zd.cell 0
  have y1 := Zd.cell 1
  have f0 := Zd.free 0
  have f1 := Zd.free 1
  have hfin := Lib.hid (zone_putN (n := n) X3.out.bl (by omega) X3.out.z2 s4 b4 nw4)
  clear Zd T3
  go_wp2
  exact zone_ret hfin.out.1 hfin.out.2 _ _ 8 rfl rfl rfl
end Go.Proofs.Ytacbkddkjlnklaa
