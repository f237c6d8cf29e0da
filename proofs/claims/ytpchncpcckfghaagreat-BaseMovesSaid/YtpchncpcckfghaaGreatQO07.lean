/-
  Words and walks under the law's proof.
-/
import Derived.Sort.WalkB2
import Derived.Deep.Cut
import Derived.Deep.QuietTactic
import Derived.BigQuiet
import Derived.Sort.WalkB3
import Derived.Sort.Walk7a
import Derived.Sort.WalkC4
import Derived.Test.YtpchncpcckfghaaGreatQO02
import Derived.Test.YtpchncpcckfghaaGreatQO06
namespace Go.Proofs.YtpchncpcckfghaaGreat
open Go.RowKit
set_option linter.unusedVariables false
set_option linter.unusedSimpArgs false
theorem lit_mk (w : World) (cs : Array Value) (l : List MkD) (n : Nat) (hn : n = l.length) (hm : n ≤ 1000) (h : cs.toList = mkcells l) : RO mkC (w.alloc (.cells cs 40)) (some ⟨w.heap.size, 0, none⟩) n n l := by
  refine ⟨hn, Nat.le_refl _, by simp [maxLen]; omega, ?_⟩
  have := seesC_lit w 40 cs
  rw [h] at this
  exact this
theorem lit_al (w : World) (cs : Array Value) (h : cs.toList = [bvA, bvB].flatMap alC) : RO alC (w.alloc (.cells cs 54)) (some ⟨w.heap.size, 0, none⟩) 2 2 [bvA, bvB] := by
  refine ⟨rfl, Nat.le_refl _, by decide, ?_⟩
  rw [← h]
  exact seesC_lit w _ cs
set_option maxRecDepth 100000 in
set_option maxHeartbeats 8000000 in
theorem blives_any (w : World) : Calls Tryz.prog 10 #[] w (Gives (.bool true) w) := by
  have q4 : Hid (∀ W, Calls Tryz.prog 28 #[.agg #[.int .i64 1, .int .i64 1, .string ⟨#[102]⟩, .string ⟨#[97, 46, 103, 111]⟩, .int .i64 9, .string ⟨#[120, 32, 60, 61, 32, 48]⟩], .int .i64 0] W (Gives (.int .u64 (oneA bvA 0)) W)) := Lib.hid (fun (W : World) => fone_any bvA (by decide) (by unfold smallA; decide) 0 (by decide) W)
  have e4 : oneA bvA 0 = oneK (keyA bvA) 0 := rfl
  rw [e4] at q4
  have hne := bv_ne (keyA bvA)
  have hpr := bv_prints
  have q5 := Lib.hid (fun R W a1 a2 (h1 : RO mkC W a1 1 1 [⟨R, ⟨#[107]⟩⟩]) (h2 : RO alC W a2 2 2 [bvA, bvB]) => bmatch_ok W a1 a2 1 2 1 2 [⟨R, ⟨#[107]⟩⟩] [bvA, bvB] bv_one h1 h2 bv_w bv_s (by omega) (pdqOK_small (by omega)))
  have hnd : ([oneK (keyA bvA) 1, oneK (keyA bvA) 0] : List Int).Nodup := by simp [hne]
  have q6 := Lib.hid (fun W a2 (h2 : RO alC W a2 2 2 [bvA, bvB]) => bof_ok W a2 2 2 [bvA, bvB] ⟨#[110]⟩ bv_note h2 bv_w bv_s (by omega) (pdqOK_small (by omega)) (by rw [bv_prints]; exact hnd))
  rw [hpr] at q5 q6
  have hsp := fun s => bv_split hne s
  have q5' := Lib.hid (fun W a1 a2 h1 h2 => by have := q5.out (oneK (keyA bvA) 0) W a1 a2 h1 h2; rw [hsp] at this; exact this)
  have q7 := Lib.hid (fun W a1 a2 (h1 : RO mkC W a1 1 1 uA) (h2 : RO mkC W a2 2 2 uB) => by have := bunion_ok W a1 a2 1 2 1 2 uA uB (by rw [u_merge]; decide) uA_b uB_b h1 h2; rw [u_merge] at this; exact this)
  have q8 := Lib.hid (fun W a1 a2 c1 (h1 : RO mkC W a1 2 c1 uB) (h2 : RO mkC W a2 1 1 uC) => by have := bless_ok W a1 a2 2 1 c1 1 uB uC uB_b uC_b h1 h2; rw [u_less] at this; exact this)
  have q9 := Lib.hid (fun W a1 c1 (h1 : RO mkC W a1 2 c1 uB) => by have := bFind_yes a1 2 c1 uB 2 uB_b W h1; unfold MkE at this; rw [u_has, u_look, if_pos rfl] at this; exact this)
  have q10 := Lib.hid (fun W a1 (h1 : RO mkC W a1 2 2 uD) => bmatch_bad W a1 none 2 0 2 0 uD uD_b h1)
  have q11 := Lib.hid (fun W a1 a2 c1 (h1 : RO mkC W a1 2 c1 uB) (h2 : RO mkC W a2 2 2 uB) => by have := mkSame_any a1 a2 2 2 c1 2 uB uB W h1 h2; exact this)
  have q12 := Lib.hid (fun W a1 c1 (h1 : RO mkC W a1 2 c1 uB) => bsame_any W a1 a1 2 2 c1 c1 uB uB h1 h1)
  have hsm : sameM uB uB = true := by decide +kernel
  rw [hsm] at q11 q12
  clear q5 hsp hpr hne hnd e4
  generalize oneK (keyA bvA) 0 = R0 at *
  generalize oneK (keyA bvA) 1 = R1 at *
  obtain ⟨ga, hga⟩ : ∃ g, g = w.heap.size := ⟨_, rfl⟩
  obtain ⟨gb, hgb⟩ : ∃ g, g = w.heap.size + 1 := ⟨_, rfl⟩
  go_enter Tryz.func10, Tryz.ntmps10
  go_upto_region 4 with (fail)
  obtain ⟨W3, hW3⟩ : ∃ W, W = (w.alloc (.cells #[.int .i64 1, .int .i64 1, .string ⟨#[102]⟩, .string ⟨#[97, 46, 103, 111]⟩, .int .i64 9, .string ⟨#[120, 32, 60, 61, 32, 48]⟩] 54)).alloc (.cells #[.int .i64 1, .int .i64 1, .string ⟨#[102]⟩, .string ⟨#[97, 46, 103, 111]⟩, .int .i64 3, .string ⟨#[120, 32, 60, 61, 32, 48]⟩] 54) := ⟨_, rfl⟩
  have B3 : Hid (Below w.heap.size w W3) := Lib.hid (by rw [hW3]; exact box2_below _ _ _ _ _)
  have HA3 : Hid (Holds W3 ga 54 #[.int .i64 1, .int .i64 1, .string ⟨#[102]⟩, .string ⟨#[97, 46, 103, 111]⟩, .int .i64 9, .string ⟨#[120, 32, 60, 61, 32, 48]⟩]) := Lib.hid (by rw [hW3, hga]; exact (Holds.new _ _ _).alloc _)
  have HB3 : Hid (Holds W3 gb 54 #[.int .i64 1, .int .i64 1, .string ⟨#[102]⟩, .string ⟨#[97, 46, 103, 111]⟩, .int .i64 3, .string ⟨#[120, 32, 60, 61, 32, 48]⟩]) := Lib.hid (by rw [hW3, hgb]; have := Holds.new (w.alloc (.cells #[.int .i64 1, .int .i64 1, .string ⟨#[102]⟩, .string ⟨#[97, 46, 103, 111]⟩, .int .i64 9, .string ⟨#[120, 32, 60, 61, 32, 48]⟩] 54)) 54 #[.int .i64 1, .int .i64 1, .string ⟨#[102]⟩, .string ⟨#[97, 46, 103, 111]⟩, .int .i64 3, .string ⟨#[120, 32, 60, 61, 32, 48]⟩]; rwa [World.size_alloc] at this)
  rw [← hW3, ← hgb, ← hga]
  clear hW3 hga hgb
  have xa0 := HA3.out.cell 0
  have xb0 := HB3.out.cell 0
  have xa1 := HA3.out.cell 1
  have xb1 := HB3.out.cell 1
  have xa2 := HA3.out.cell 2
  have xb2 := HB3.out.cell 2
  have xa3 := HA3.out.cell 3
  have xb3 := HB3.out.cell 3
  have xa4 := HA3.out.cell 4
  have xb4 := HB3.out.cell 4
  have xa5 := HA3.out.cell 5
  have xb5 := HB3.out.cell 5
  simp at xa0 xb0 xa1 xb1 xa2 xb2 xa3 xb3 xa4 xb4 xa5 xb5
  go_wp2_with fail
  refine (q4.out W3).mono ?_
  rintro e w4 ⟨rfl, b4⟩
  have HA4 := Lib.hid (HA3.out.below b4 HA3.out.lt)
  have HB4 := Lib.hid (HB3.out.below b4 HB3.out.lt)
  have B4 := Lib.hid (B3.out.trans (b4.mono B3.out.size))
  have HA4b := Lib.hid (HA4.out.alloc (.cells #[.int .u64 R0, .string ⟨#[107]⟩] 40))
  have HB4b := Lib.hid (HB4.out.alloc (.cells #[.int .u64 R0, .string ⟨#[107]⟩] 40))
  obtain ⟨W5, hW5⟩ : ∃ W, W = (w4.alloc (.cells #[.int .u64 R0, .string ⟨#[107]⟩] 40)).alloc (.cells #[.int .i64 1, .int .i64 1, .string ⟨#[102]⟩, .string ⟨#[97, 46, 103, 111]⟩, .int .i64 9, .string ⟨#[120, 32, 60, 61, 32, 48]⟩, .int .i64 1, .int .i64 1, .string ⟨#[102]⟩, .string ⟨#[97, 46, 103, 111]⟩, .int .i64 3, .string ⟨#[120, 32, 60, 61, 32, 48]⟩] 54) := ⟨_, rfl⟩
  have b5 : Below w4.heap.size w4 W5 := by rw [hW5]; exact box2_below _ _ _ _ _
  have r5a : RO mkC W5 (some ⟨w4.heap.size, 0, none⟩) 1 1 [⟨R0, ⟨#[107]⟩⟩] := by rw [hW5]; exact (lit_mk w4 _ _ 1 rfl (by omega) rfl).below ((Below.refl _ _).alloc (Nat.le_refl _) _)
  have r5b : RO alC W5 (some ⟨w4.heap.size + 1, 0, none⟩) 2 2 [bvA, bvB] := by rw [hW5]; have := lit_al (w4.alloc (.cells #[.int .u64 R0, .string ⟨#[107]⟩] 40)) #[.int .i64 1, .int .i64 1, .string ⟨#[102]⟩, .string ⟨#[97, 46, 103, 111]⟩, .int .i64 9, .string ⟨#[120, 32, 60, 61, 32, 48]⟩, .int .i64 1, .int .i64 1, .string ⟨#[102]⟩, .string ⟨#[97, 46, 103, 111]⟩, .int .i64 3, .string ⟨#[120, 32, 60, 61, 32, 48]⟩] rfl; rwa [World.size_alloc] at this
  have Q5 := Lib.hid (q5'.out W5 _ _ r5a r5b)
  have HA5 := Lib.hid (HA4.out.below b5 HA4.out.lt)
  have HB5 := Lib.hid (HB4.out.below b5 HB4.out.lt)
  have B5 := Lib.hid (B4.out.trans (b5.mono B4.out.size))
  have hW5' := Lib.hid hW5
  clear b4 b5 r5a r5b hW5 HA3 HB3 B3 xa0 xb0 xa1 xb1 xa2 xb2 xa3 xb3 xa4 xb4 xa5 xb5 q4 q5'
  have xa0 := HA4b.out.cell 0
  have xb0 := HB4b.out.cell 0
  have xa1 := HA4b.out.cell 1
  have xb1 := HB4b.out.cell 1
  have xa2 := HA4b.out.cell 2
  have xb2 := HB4b.out.cell 2
  have xa3 := HA4b.out.cell 3
  have xb3 := HB4b.out.cell 3
  have xa4 := HA4b.out.cell 4
  have xb4 := HB4b.out.cell 4
  have xa5 := HA4b.out.cell 5
  have xb5 := HB4b.out.cell 5
  simp at xa0 xb0 xa1 xb1 xa2 xb2 xa3 xb3 xa4 xb4 xa5 xb5
  go_wp2_with fail
  rw [← hW5'.out]
  clear hW5'
  refine Q5.out.mono ?_
  rintro e w6 ⟨⟨k1, k1n, k1c, k2, k2n, k2c, k3, k3n, k3c, k4, k4n, k4c⟩, rfl, hR, b6⟩
  unfold SpV.cells
  dsimp only
  have hk1 : k1n = 1 := hR.k.len
  have hk2 : k2n = 1 := hR.f.len
  have hk3 : k3n = 1 := hR.m.len
  have hk4 : k4n = 0 := hR.s.len
  subst hk1 hk2 hk3 hk4
  obtain ⟨V6, hV6⟩ : ∃ W, W = w6.alloc (.cells #[.slice k1 1 k1c, .slice k2 1 k2c, .slice k3 1 k3c, .slice k4 0 k4c] 28) := ⟨_, rfl⟩
  obtain ⟨gs, hgs⟩ : ∃ g, g = w6.heap.size := ⟨_, rfl⟩
  have c6 : Below w6.heap.size w6 V6 := by rw [hV6]; exact box_below _ _ _
  have HS6 := Lib.hid (show Holds V6 gs 28 #[.slice k1 1 k1c, .slice k2 1 k2c, .slice k3 1 k3c, .slice k4 0 k4c] by rw [hV6, hgs]; exact Holds.new _ _ _)
  have HA6 := Lib.hid ((HA5.out.below b6 HA5.out.lt).below c6 (Nat.lt_of_lt_of_le HA5.out.lt b6.size))
  have HB6 := Lib.hid ((HB5.out.below b6 HB5.out.lt).below c6 (Nat.lt_of_lt_of_le HB5.out.lt b6.size))
  have B6 := Lib.hid ((B5.out.trans (b6.mono B5.out.size)).trans (c6.mono (Nat.le_trans B5.out.size b6.size)))
  have RK6 := Lib.hid (hR.k.below c6)
  have RF6 := Lib.hid (hR.f.below c6)
  have hV6' := Lib.hid hV6
  have hgs' := Lib.hid hgs
  clear b6 c6 hV6 hgs hR HA4b HB4b HA4 HB4 B4 HA5 HB5 B5 xa0 xb0 xa1 xb1 xa2 xb2 xa3 xb3 xa4 xb4 xa5 xb5 Q5
  go_upto_region 6 with (fail)
  rw [← hV6'.out, ← hgs'.out]
  clear hV6' hgs'
  have xa0 := HA6.out.cell 0
  have xb0 := HB6.out.cell 0
  have xa1 := HA6.out.cell 1
  have xb1 := HB6.out.cell 1
  have xa2 := HA6.out.cell 2
  have xb2 := HB6.out.cell 2
  have xa3 := HA6.out.cell 3
  have xb3 := HB6.out.cell 3
  have xa4 := HA6.out.cell 4
  have xb4 := HB6.out.cell 4
  have xa5 := HA6.out.cell 5
  have xb5 := HB6.out.cell 5
  simp at xa0 xb0 xa1 xb1 xa2 xb2 xa3 xb3 xa4 xb4 xa5 xb5
  obtain ⟨W7, hW7⟩ : ∃ W, W = V6.alloc (.cells #[.int .i64 1, .int .i64 1, .string ⟨#[102]⟩, .string ⟨#[97, 46, 103, 111]⟩, .int .i64 9, .string ⟨#[120, 32, 60, 61, 32, 48]⟩, .int .i64 1, .int .i64 1, .string ⟨#[102]⟩, .string ⟨#[97, 46, 103, 111]⟩, .int .i64 3, .string ⟨#[120, 32, 60, 61, 32, 48]⟩] 54) := ⟨_, rfl⟩
  have b7 : Below V6.heap.size V6 W7 := by rw [hW7]; exact box_below _ _ _
  have r7 : RO alC W7 (some ⟨V6.heap.size, 0, none⟩) 2 2 [bvA, bvB] := by rw [hW7]; exact lit_al V6 #[.int .i64 1, .int .i64 1, .string ⟨#[102]⟩, .string ⟨#[97, 46, 103, 111]⟩, .int .i64 9, .string ⟨#[120, 32, 60, 61, 32, 48]⟩, .int .i64 1, .int .i64 1, .string ⟨#[102]⟩, .string ⟨#[97, 46, 103, 111]⟩, .int .i64 3, .string ⟨#[120, 32, 60, 61, 32, 48]⟩] rfl
  have Q6 := Lib.hid (q6.out W7 _ r7)
  have hW7' := Lib.hid hW7
  have b7' := Lib.hid b7
  clear hW7 b7 r7 q6
  go_wp2_with fail
  rw [← hW7'.out]
  clear hW7'
  refine Q6.out.mono ?_
  rintro e w8 ⟨l8, a8, c8, -, hp8, rfl, -, b8⟩
  have hl8 : (mkL ⟨#[110]⟩ l8).length = 2 := by unfold mkL; rw [List.length_map, hp8.length_eq]; rfl
  rw [hl8]
  have d8 := b7'.out.trans (b8.mono b7'.out.size)
  have HA8 := Lib.hid (HA6.out.below d8 HA6.out.lt)
  have HB8 := Lib.hid (HB6.out.below d8 HB6.out.lt)
  have HS8 := Lib.hid (HS6.out.below d8 HS6.out.lt)
  have RK8 := Lib.hid (RK6.out.below d8)
  have RF8 := Lib.hid (RF6.out.below d8)
  have B8 := Lib.hid (B6.out.trans (d8.mono B6.out.size))
  clear hp8 hl8 b8 d8 b7' Q6 HA6 HB6 HS6 RK6 RF6 B6 xa0 xb0 xa1 xb1 xa2 xb2 xa3 xb3 xa4 xb4 xa5 xb5
  obtain ⟨W9, hW9⟩ : ∃ W, W = (w8.alloc (.cells #[.int .u64 2, .string ⟨#[97]⟩] 40)).alloc (.cells #[.int .u64 1, .string ⟨#[]⟩, .int .u64 2, .string ⟨#[98]⟩] 40) := ⟨_, rfl⟩
  have b9 : Below w8.heap.size w8 W9 := by rw [hW9]; exact box2_below _ _ _ _ _
  have r9a : RO mkC W9 (some ⟨w8.heap.size, 0, none⟩) 1 1 uA := by rw [hW9]; exact (lit_mk w8 _ uA 1 rfl (by omega) rfl).below ((Below.refl _ _).alloc (Nat.le_refl _) _)
  have r9b : RO mkC W9 (some ⟨w8.heap.size + 1, 0, none⟩) 2 2 uB := by rw [hW9]; have := lit_mk (w8.alloc (.cells #[.int .u64 2, .string ⟨#[97]⟩] 40)) #[.int .u64 1, .string ⟨#[]⟩, .int .u64 2, .string ⟨#[98]⟩] uB 2 rfl (by omega) rfl; rwa [World.size_alloc] at this
  have Q7 := Lib.hid (q7.out W9 _ _ r9a r9b)
  have hW9' := Lib.hid hW9
  have b9' := Lib.hid b9
  clear hW9 b9 r9a r9b q7
  go_wp2_with fail
  rw [← hW9'.out]
  clear hW9'
  refine Q7.out.mono ?_
  rintro e w10 ⟨a9, c9, rfl, r10, b10⟩
  rw [show uB.length = 2 from rfl] at r10 ⊢
  obtain ⟨W11, hW11⟩ : ∃ W, W = w10.alloc (.cells #[.int .u64 1, .string ⟨#[]⟩] 40) := ⟨_, rfl⟩
  have b11 : Below w10.heap.size w10 W11 := by rw [hW11]; exact box_below _ _ _
  have Q8 := Lib.hid (q8.out W11 _ _ _ (r10.below b11) (by rw [hW11]; exact lit_mk w10 _ uC 1 rfl (by omega) rfl))
  have R10 := Lib.hid r10
  have d11 := Lib.hid (b9'.out.trans (b10.mono b9'.out.size))
  have b11' := Lib.hid b11
  have hW11' := Lib.hid hW11
  clear r10 b10 b11 hW11 q8 Q7 b9'
  go_wp2_with fail
  rw [← hW11'.out]
  clear hW11'
  refine Q8.out.mono ?_
  rintro e w12 ⟨a12, c12, rfl, -, b12⟩
  rw [show ([⟨2, ⟨#[98]⟩⟩] : List MkD).length = 1 from rfl]
  have e12 := b11'.out.trans (b12.mono b11'.out.size)
  have R12 := Lib.hid (R10.out.below e12)
  have Q9 := Lib.hid (q9.out w12 _ _ R12.out)
  have d12 := Lib.hid (d11.out.trans (e12.mono d11.out.size))
  clear b12 e12 R10 d11 b11' Q8 q9
  go_wp2_with fail
  refine Q9.out.mono ?_
  rintro e w13 ⟨rfl, b13⟩
  dsimp only [Option.getD]
  obtain ⟨V13, hV13⟩ : ∃ W, W = w13.alloc (.cells #[.int .u64 2, .string ⟨#[98]⟩] 40) := ⟨_, rfl⟩
  obtain ⟨gm, hgm⟩ : ∃ g, g = w13.heap.size := ⟨_, rfl⟩
  have c13 : Below w13.heap.size w13 V13 := by rw [hV13]; exact box_below _ _ _
  have HM13 := Lib.hid (show Holds V13 gm 40 #[.int .u64 2, .string ⟨#[98]⟩] by rw [hV13, hgm]; exact Holds.new _ _ _)
  have e13 := b13.trans (c13.mono b13.size)
  have R13 := Lib.hid (R12.out.below e13)
  have d13 := Lib.hid (d12.out.trans (e13.mono d12.out.size))
  have hV13' := Lib.hid hV13
  have hgm' := Lib.hid hgm
  clear b13 c13 e13 hV13 hgm R12 d12 Q9
  go_upto_region 10 with (fail)
  rw [← hV13'.out, ← hgm'.out]
  clear hV13' hgm'
  obtain ⟨W14, hW14⟩ : ∃ W, W = V13.alloc (.cells #[.int .u64 2, .string ⟨#[]⟩, .int .u64 1, .string ⟨#[]⟩] 40) := ⟨_, rfl⟩
  have b14 : Below V13.heap.size V13 W14 := by rw [hW14]; exact box_below _ _ _
  have Q10 := Lib.hid (q10.out W14 _ (by rw [hW14]; exact lit_mk V13 _ uD 2 rfl (by omega) rfl))
  have b14' := Lib.hid b14
  have hW14' := Lib.hid hW14
  clear b14 hW14 q10
  go_wp2_with fail
  rw [← hW14'.out]
  clear hW14'
  refine Q10.out.mono ?_
  rintro e w15 ⟨⟨j1, j1n, j1c, j2, j2n, j2c, j3, j3n, j3c, j4, j4n, j4c⟩, rfl, -, b15⟩
  unfold SpV.cells
  dsimp only
  obtain ⟨V16, hV16⟩ : ∃ W, W = w15.alloc (.cells #[.slice j1 j1n j1c, .slice j2 j2n j2c, .slice j3 j3n j3c, .slice j4 j4n j4c] 28) := ⟨_, rfl⟩
  have c16 : Below w15.heap.size w15 V16 := by rw [hV16]; exact box_below _ _ _
  have e16 : Below V13.heap.size V13 V16 := b14'.out.trans ((b15.trans (c16.mono b15.size)).mono b14'.out.size)
  have f16 := d13.out.trans (e16.mono d13.out.size)
  have HM := Lib.hid (HM13.out.below e16 HM13.out.lt)
  have RU := Lib.hid (R13.out.below e16)
  have HA := Lib.hid (HA8.out.below f16 HA8.out.lt)
  have HB := Lib.hid (HB8.out.below f16 HB8.out.lt)
  have HS := Lib.hid (HS8.out.below f16 HS8.out.lt)
  have RK := Lib.hid (RK8.out.below f16)
  have RF := Lib.hid (RF8.out.below f16)
  have BB := Lib.hid (B8.out.trans (f16.mono B8.out.size))
  have hV16' := Lib.hid hV16
  clear b14' b15 c16 e16 f16 hV16 HM13 R13 HA8 HB8 HS8 RK8 RF8 B8 d13 Q10
  go_upto_region 11 with (fail)
  rw [← hV16'.out]
  clear hV16'
  obtain ⟨bk, ok, rfl, hbk, kk0, kk1, kk2, kk3, kk4, kk5⟩ := al_at RK.out (show 0 < 1 by omega)
  obtain ⟨bf, of, rfl, hbf, kf0, kf1, kf2, kf3, kf4, kf5⟩ := al_at RF.out (show 0 < 1 by omega)
  have s0 := HS.out.cell 0
  have s1 := HS.out.cell 1
  have s2 := HS.out.cell 2
  have s3 := HS.out.cell 3
  have m1 := HM.out.cell 1
  have xa0 := HA.out.cell 0
  have xb0 := HB.out.cell 0
  have xa1 := HA.out.cell 1
  have xb1 := HB.out.cell 1
  have xa2 := HA.out.cell 2
  have xb2 := HB.out.cell 2
  have xa3 := HA.out.cell 3
  have xb3 := HB.out.cell 3
  have xa4 := HA.out.cell 4
  have xb4 := HB.out.cell 4
  have xa5 := HA.out.cell 5
  have xb5 := HB.out.cell 5
  simp at xa0 xb0 xa1 xb1 xa2 xb2 xa3 xb3 xa4 xb4 xa5 xb5
  simp [bvA, bvB] at s0 s1 s2 s3 m1 kk0 kk1 kk2 kk3 kk4 kk5 kf0 kf1 kf2 kf3 kf4 kf5
  have s0' : ∀ W, Below V16.heap.size V16 W → W.cell? ⟨gs, 0, none⟩ = some (.slice (some ⟨bk, ok, none⟩) 1 k1c) := fun W hW => (hW.cell (p := ⟨gs, 0, none⟩) HS.out.lt).trans s0
  have s1' : ∀ W, Below V16.heap.size V16 W → W.cell? ⟨gs, 1, none⟩ = some (.slice (some ⟨bf, of, none⟩) 1 k2c) := fun W hW => (hW.cell (p := ⟨gs, 1, none⟩) HS.out.lt).trans s1
  have s2' : ∀ W, Below V16.heap.size V16 W → W.cell? ⟨gs, 2, none⟩ = some (.slice k3 1 k3c) := fun W hW => (hW.cell (p := ⟨gs, 2, none⟩) HS.out.lt).trans s2
  have s3' : ∀ W, Below V16.heap.size V16 W → W.cell? ⟨gs, 3, none⟩ = some (.slice k4 0 k4c) := fun W hW => (hW.cell (p := ⟨gs, 3, none⟩) HS.out.lt).trans s3
  have m1' : ∀ W, Below V16.heap.size V16 W → W.cell? ⟨gm, 1, none⟩ = some (.string ⟨#[98]⟩) := fun W hW => (hW.cell (p := ⟨gm, 1, none⟩) HM.out.lt).trans m1
  have kk0' : ∀ W, Below V16.heap.size V16 W → W.cell? ⟨bk, ok, none⟩ = some (.int .i64 1) := fun W hW => (hW.cell (p := ⟨bk, ok, none⟩) hbk).trans kk0
  have kf0' : ∀ W, Below V16.heap.size V16 W → W.cell? ⟨bf, of, none⟩ = some (.int .i64 1) := fun W hW => (hW.cell (p := ⟨bf, of, none⟩) hbf).trans kf0
  have xa0' : ∀ W, Below V16.heap.size V16 W → W.cell? ⟨ga, 0, none⟩ = some (.int .i64 1) := fun W hW => (hW.cell (p := ⟨ga, 0, none⟩) HA.out.lt).trans xa0
  have xb0' : ∀ W, Below V16.heap.size V16 W → W.cell? ⟨gb, 0, none⟩ = some (.int .i64 1) := fun W hW => (hW.cell (p := ⟨gb, 0, none⟩) HB.out.lt).trans xb0
  have kk1' : ∀ W, Below V16.heap.size V16 W → W.cell? ⟨bk, ok + 1, none⟩ = some (.int .i64 1) := fun W hW => (hW.cell (p := ⟨bk, ok + 1, none⟩) hbk).trans kk1
  have kf1' : ∀ W, Below V16.heap.size V16 W → W.cell? ⟨bf, of + 1, none⟩ = some (.int .i64 1) := fun W hW => (hW.cell (p := ⟨bf, of + 1, none⟩) hbf).trans kf1
  have xa1' : ∀ W, Below V16.heap.size V16 W → W.cell? ⟨ga, 1, none⟩ = some (.int .i64 1) := fun W hW => (hW.cell (p := ⟨ga, 1, none⟩) HA.out.lt).trans xa1
  have xb1' : ∀ W, Below V16.heap.size V16 W → W.cell? ⟨gb, 1, none⟩ = some (.int .i64 1) := fun W hW => (hW.cell (p := ⟨gb, 1, none⟩) HB.out.lt).trans xb1
  have kk2' : ∀ W, Below V16.heap.size V16 W → W.cell? ⟨bk, ok + 2, none⟩ = some (.string ⟨#[102]⟩) := fun W hW => (hW.cell (p := ⟨bk, ok + 2, none⟩) hbk).trans kk2
  have kf2' : ∀ W, Below V16.heap.size V16 W → W.cell? ⟨bf, of + 2, none⟩ = some (.string ⟨#[102]⟩) := fun W hW => (hW.cell (p := ⟨bf, of + 2, none⟩) hbf).trans kf2
  have xa2' : ∀ W, Below V16.heap.size V16 W → W.cell? ⟨ga, 2, none⟩ = some (.string ⟨#[102]⟩) := fun W hW => (hW.cell (p := ⟨ga, 2, none⟩) HA.out.lt).trans xa2
  have xb2' : ∀ W, Below V16.heap.size V16 W → W.cell? ⟨gb, 2, none⟩ = some (.string ⟨#[102]⟩) := fun W hW => (hW.cell (p := ⟨gb, 2, none⟩) HB.out.lt).trans xb2
  have kk3' : ∀ W, Below V16.heap.size V16 W → W.cell? ⟨bk, ok + 3, none⟩ = some (.string ⟨#[97, 46, 103, 111]⟩) := fun W hW => (hW.cell (p := ⟨bk, ok + 3, none⟩) hbk).trans kk3
  have kf3' : ∀ W, Below V16.heap.size V16 W → W.cell? ⟨bf, of + 3, none⟩ = some (.string ⟨#[97, 46, 103, 111]⟩) := fun W hW => (hW.cell (p := ⟨bf, of + 3, none⟩) hbf).trans kf3
  have xa3' : ∀ W, Below V16.heap.size V16 W → W.cell? ⟨ga, 3, none⟩ = some (.string ⟨#[97, 46, 103, 111]⟩) := fun W hW => (hW.cell (p := ⟨ga, 3, none⟩) HA.out.lt).trans xa3
  have xb3' : ∀ W, Below V16.heap.size V16 W → W.cell? ⟨gb, 3, none⟩ = some (.string ⟨#[97, 46, 103, 111]⟩) := fun W hW => (hW.cell (p := ⟨gb, 3, none⟩) HB.out.lt).trans xb3
  have kk4' : ∀ W, Below V16.heap.size V16 W → W.cell? ⟨bk, ok + 4, none⟩ = some (.int .i64 3) := fun W hW => (hW.cell (p := ⟨bk, ok + 4, none⟩) hbk).trans kk4
  have kf4' : ∀ W, Below V16.heap.size V16 W → W.cell? ⟨bf, of + 4, none⟩ = some (.int .i64 9) := fun W hW => (hW.cell (p := ⟨bf, of + 4, none⟩) hbf).trans kf4
  have xa4' : ∀ W, Below V16.heap.size V16 W → W.cell? ⟨ga, 4, none⟩ = some (.int .i64 9) := fun W hW => (hW.cell (p := ⟨ga, 4, none⟩) HA.out.lt).trans xa4
  have xb4' : ∀ W, Below V16.heap.size V16 W → W.cell? ⟨gb, 4, none⟩ = some (.int .i64 3) := fun W hW => (hW.cell (p := ⟨gb, 4, none⟩) HB.out.lt).trans xb4
  have kk5' : ∀ W, Below V16.heap.size V16 W → W.cell? ⟨bk, ok + 5, none⟩ = some (.string ⟨#[120, 32, 60, 61, 32, 48]⟩) := fun W hW => (hW.cell (p := ⟨bk, ok + 5, none⟩) hbk).trans kk5
  have kf5' : ∀ W, Below V16.heap.size V16 W → W.cell? ⟨bf, of + 5, none⟩ = some (.string ⟨#[120, 32, 60, 61, 32, 48]⟩) := fun W hW => (hW.cell (p := ⟨bf, of + 5, none⟩) hbf).trans kf5
  have xa5' : ∀ W, Below V16.heap.size V16 W → W.cell? ⟨ga, 5, none⟩ = some (.string ⟨#[120, 32, 60, 61, 32, 48]⟩) := fun W hW => (hW.cell (p := ⟨ga, 5, none⟩) HA.out.lt).trans xa5
  have xb5' : ∀ W, Below V16.heap.size V16 W → W.cell? ⟨gb, 5, none⟩ = some (.string ⟨#[120, 32, 60, 61, 32, 48]⟩) := fun W hW => (hW.cell (p := ⟨gb, 5, none⟩) HB.out.lt).trans xb5
  clear s0 s1 s2 s3 m1 kk0 kk1 kk2 kk3 kk4 kk5 kf0 kf1 kf2 kf3 kf4 kf5 xa0 xb0 xa1 xb1 xa2 xb2 xa3 xb3 xa4 xb4 xa5 xb5
  go_wp2
  refine wp_drawn_on (fun W => Below V16.heap.size V16 W) (by kernel_rfl) ((Below.refl _ _).drew) (fun hHeld => ?_)
  refine wT 0 (v := ?v1) rfl (by as_aux_lemma => kernel_rfl) (fun _ _ _ h => h) ?h1 (by assumption) ?r1
  case h1 => (intro w hSw; (try dsimp only at hSw); go_simp; try with_reducible rfl)
  refine wT 1 (v := ?v2) rfl (by as_aux_lemma => kernel_rfl) (fun _ _ _ h => h) ?h2 (by assumption) ?r2
  case h2 => (intro w hSw; (try dsimp only at hSw); go_simp; try with_reducible rfl)
  refine wT 2 (v := ?v3) rfl (by as_aux_lemma => kernel_rfl) (fun _ _ _ h => h) ?h3 (by assumption) ?r3
  case h3 => (intro w hSw; (try dsimp only at hSw); go_simp; try with_reducible rfl)
  refine wT 3 (v := ?v4) rfl (by as_aux_lemma => kernel_rfl) (fun _ _ _ h => h) ?h4 (by assumption) ?r4
  case h4 => (intro w hSw; (try dsimp only at hSw); go_simp; try with_reducible rfl)
  refine wT 4 (v := ?v5) rfl (by as_aux_lemma => kernel_rfl) (fun _ _ _ h => h) ?h5 (by assumption) ?r5
  case h5 => (intro w hSw; (try dsimp only at hSw); go_simp; try with_reducible rfl)
  refine wT 5 (v := ?v6) rfl (by as_aux_lemma => kernel_rfl) (fun _ _ _ h => h) ?h6 (by assumption) ?r6
  case h6 => (intro w hSw; (try dsimp only at hSw); go_simp; try with_reducible rfl)
  refine wT 6 (v := ?v7) rfl (by as_aux_lemma => kernel_rfl) (fun _ _ _ h => h) ?h7 (by assumption) ?r7
  case h7 => (intro w hSw; (try dsimp only at hSw); go_simp; try with_reducible rfl)
  refine wT 7 (v := ?v8) rfl (by as_aux_lemma => kernel_rfl) (fun _ _ _ h => h) ?h8 (by assumption) ?r8
  case h8 => (intro w hSw; (try dsimp only at hSw); go_simp; try with_reducible rfl)
  refine wT 8 (v := ?v9) rfl (by as_aux_lemma => kernel_rfl) (fun _ _ _ h => h) ?h9 (by assumption) ?r9
  case h9 => (intro w hSw; (try dsimp only at hSw); go_simp; try with_reducible rfl)
  refine wT 9 (v := ?v10) rfl (by as_aux_lemma => kernel_rfl) (fun _ _ _ h => h) ?h10 (by assumption) ?r10
  case h10 => (intro w hSw; (try dsimp only at hSw); go_simp; try with_reducible rfl)
  refine wT 10 (v := ?v11) rfl (by as_aux_lemma => kernel_rfl) (fun _ _ _ h => h) ?h11 (by assumption) ?r11
  case h11 => (intro w hSw; (try dsimp only at hSw); go_simp; try with_reducible rfl)
  refine wT 11 (v := ?v12) rfl (by as_aux_lemma => kernel_rfl) (fun _ _ _ h => h) ?h12 (by assumption) ?r12
  case h12 => (intro w hSw; (try dsimp only at hSw); go_simp; try with_reducible rfl)
  refine wT 12 (v := ?v13) rfl (by as_aux_lemma => kernel_rfl) (fun _ _ _ h => h) ?h13 (by assumption) ?r13
  case h13 => (intro w hSw; (try dsimp only at hSw); go_simp; try with_reducible rfl)
  refine wT 13 (v := ?v14) rfl (by as_aux_lemma => kernel_rfl) (fun _ _ _ h => h) ?h14 (by assumption) ?r14
  case h14 => (intro w hSw; (try dsimp only at hSw); go_simp; try with_reducible rfl)
  refine wT 14 (v := ?v15) rfl (by as_aux_lemma => kernel_rfl) (fun _ _ _ h => h) ?h15 (by assumption) ?r15
  case h15 => (intro w hSw; (try dsimp only at hSw); go_simp; try with_reducible rfl)
  refine wT 15 (v := ?v16) rfl (by as_aux_lemma => kernel_rfl) (fun _ _ _ h => h) ?h16 (by assumption) ?r16
  case h16 => (intro w hSw; (try dsimp only at hSw); go_simp; try with_reducible rfl)
  refine wT 16 (v := ?v17) rfl (by as_aux_lemma => kernel_rfl) (fun _ _ _ h => h) ?h17 (by assumption) ?r17
  case h17 => (intro w hSw; (try dsimp only at hSw); go_simp; try with_reducible rfl)
  refine wT 17 (v := ?v18) rfl (by as_aux_lemma => kernel_rfl) (fun _ _ _ h => h) ?h18 (by assumption) ?r18
  case h18 => (intro w hSw; (try dsimp only at hSw); go_simp; try with_reducible rfl)
  refine wT 18 (v := ?v19) rfl (by as_aux_lemma => kernel_rfl) (fun _ _ _ h => h) ?h19 (by assumption) ?r19
  case h19 => (intro w hSw; (try dsimp only at hSw); go_simp; try with_reducible rfl)
  refine wT 19 (v := ?v20) rfl (by as_aux_lemma => kernel_rfl) (fun _ _ _ h => h) ?h20 (by assumption) ?r20
  case h20 => (intro w hSw; (try dsimp only at hSw); go_simp; try with_reducible rfl)
  refine wT 20 (v := ?v21) rfl (by as_aux_lemma => kernel_rfl) (fun _ _ _ h => h) ?h21 (by assumption) ?r21
  case h21 => (intro w hSw; (try dsimp only at hSw); go_simp; try with_reducible rfl)
  refine wT 21 (v := ?v22) rfl (by as_aux_lemma => kernel_rfl) (fun _ _ _ h => h) ?h22 (by assumption) ?r22
  case h22 => (intro w hSw; (try dsimp only at hSw); go_simp; try with_reducible rfl)
  refine wT 22 (v := ?v23) rfl (by as_aux_lemma => kernel_rfl) (fun _ _ _ h => h) ?h23 (by assumption) ?r23
  case h23 => (intro w hSw; (try dsimp only at hSw); go_simp; try with_reducible rfl)
  refine wT 23 (v := ?v24) rfl (by as_aux_lemma => kernel_rfl) (fun _ _ _ h => h) ?h24 (by assumption) ?r24
  case h24 => (intro w hSw; (try dsimp only at hSw); go_simp; try with_reducible rfl)
  refine wT 24 (v := ?v25) rfl (by as_aux_lemma => kernel_rfl) (fun _ _ _ h => h) ?h25 (by assumption) ?r25
  case h25 => (intro w hSw; (try dsimp only at hSw); go_simp; try with_reducible rfl)
  refine wT 25 (v := ?v26) rfl (by as_aux_lemma => kernel_rfl) (fun _ _ _ h => h) ?h26 (by assumption) ?r26
  case h26 => (intro w hSw; (try dsimp only at hSw); go_simp; try with_reducible rfl)
  refine wT 26 (v := ?v27) rfl (by as_aux_lemma => kernel_rfl) (fun _ _ _ h => h) ?h27 (by assumption) ?r27
  case h27 => (intro w hSw; (try dsimp only at hSw); go_simp; try with_reducible rfl)
  refine wT 27 (v := ?v28) rfl (by as_aux_lemma => kernel_rfl) (fun _ _ _ h => h) ?h28 (by assumption) ?r28
  case h28 => (intro w hSw; (try dsimp only at hSw); go_simp; try with_reducible rfl)
  refine wT 28 (v := ?v29) rfl (by as_aux_lemma => kernel_rfl) (fun _ _ _ h => h) ?h29 (by assumption) ?r29
  case h29 => (intro w hSw; (try dsimp only at hSw); go_simp; try with_reducible rfl)
  refine wT 29 (v := ?v30) rfl (by as_aux_lemma => kernel_rfl) (fun _ _ _ h => h) ?h30 (by assumption) ?r30
  case h30 => (intro w hSw; (try dsimp only at hSw); go_simp; try with_reducible rfl)
  refine wT 30 (v := ?v31) rfl (by as_aux_lemma => kernel_rfl) (fun _ _ _ h => h) ?h31 (by assumption) ?r31
  case h31 => (intro w hSw; (try dsimp only at hSw); go_simp; try with_reducible rfl)
  refine wT 31 (v := ?v32) rfl (by as_aux_lemma => kernel_rfl) (fun _ _ _ h => h) ?h32 (by assumption) ?r32
  case h32 => (intro w hSw; (try dsimp only at hSw); go_simp; try with_reducible rfl)
  refine wT 32 (v := ?v33) rfl (by as_aux_lemma => kernel_rfl) (fun _ _ _ h => h) ?h33 (by assumption) ?r33
  case h33 => (intro w hSw; (try dsimp only at hSw); go_simp; try with_reducible rfl)
  refine wT 33 (v := ?v34) rfl (by as_aux_lemma => kernel_rfl) (fun _ _ _ h => h) ?h34 (by assumption) ?r34
  case h34 => (intro w hSw; (try dsimp only at hSw); go_simp; try with_reducible rfl)
  refine wT 34 (v := ?v35) rfl (by as_aux_lemma => kernel_rfl) (fun _ _ _ h => h) ?h35 (by assumption) ?r35
  case h35 => (intro w hSw; (try dsimp only at hSw); go_simp; try with_reducible rfl)
  refine wT 35 (v := ?v36) rfl (by as_aux_lemma => kernel_rfl) (fun _ _ _ h => h) ?h36 (by assumption) ?r36
  case h36 => (intro w hSw; (try dsimp only at hSw); go_simp; try with_reducible rfl)
  refine wT 36 (v := ?v37) rfl (by as_aux_lemma => kernel_rfl) (fun _ _ _ h => h) ?h37 (by assumption) ?r37
  case h37 => (intro w hSw; (try dsimp only at hSw); go_simp; try with_reducible rfl)
  refine wT 37 (v := ?v38) rfl (by as_aux_lemma => kernel_rfl) (fun _ _ _ h => h) ?h38 (by assumption) ?r38
  case h38 => (intro w hSw; (try dsimp only at hSw); go_simp; try with_reducible rfl)
  refine wT 38 (v := ?v39) rfl (by as_aux_lemma => kernel_rfl) (fun _ _ _ h => h) ?h39 (by assumption) ?r39
  case h39 => (intro w hSw; (try dsimp only at hSw); go_simp; try with_reducible rfl)
  refine wT 39 (v := ?v40) rfl (by as_aux_lemma => kernel_rfl) (fun _ _ _ h => h) ?h40 (by assumption) ?r40
  case h40 => (intro w hSw; (try dsimp only at hSw); go_simp; try with_reducible rfl)
  refine wT 40 (v := ?v41) rfl (by as_aux_lemma => kernel_rfl) (fun _ _ _ h => h) ?h41 (by assumption) ?r41
  case h41 => (intro w hSw; (try dsimp only at hSw); go_simp; try with_reducible rfl)
  refine wT 41 (v := ?v42) rfl (by as_aux_lemma => kernel_rfl) (fun _ _ _ h => h) ?h42 (by assumption) ?r42
  case h42 => (intro w hSw; (try dsimp only at hSw); go_simp; try with_reducible rfl)
  refine wT 42 (v := ?v43) rfl (by as_aux_lemma => kernel_rfl) (fun _ _ _ h => h) ?h43 (by assumption) ?r43
  case h43 => (intro w hSw; (try dsimp only at hSw); go_simp; try with_reducible rfl)
  refine wT 43 (v := ?v44) rfl (by as_aux_lemma => kernel_rfl) (fun _ _ _ h => h) ?h44 (by assumption) ?r44
  case h44 => (intro w hSw; (try dsimp only at hSw); go_simp; try with_reducible rfl)
  refine wT 44 (v := ?v45) rfl (by as_aux_lemma => kernel_rfl) (fun _ _ _ h => h) ?h45 (by assumption) ?r45
  case h45 => (intro w hSw; (try dsimp only at hSw); go_simp; try with_reducible rfl)
  refine wT 45 (v := ?v46) rfl (by as_aux_lemma => kernel_rfl) (fun _ _ _ h => h) ?h46 (by assumption) ?r46
  case h46 => (intro w hSw; (try dsimp only at hSw); go_simp; try with_reducible rfl)
  refine wT 46 (v := ?v47) rfl (by as_aux_lemma => kernel_rfl) (fun _ _ _ h => h) ?h47 (by assumption) ?r47
  case h47 => (intro w hSw; (try dsimp only at hSw); go_simp; try with_reducible rfl)
  refine wT 47 (v := ?v48) rfl (by as_aux_lemma => kernel_rfl) (fun _ _ _ h => h) ?h48 (by assumption) ?r48
  case h48 => (intro w hSw; (try dsimp only at hSw); go_simp; try with_reducible rfl)
  refine wT 48 (v := ?v49) rfl (by as_aux_lemma => kernel_rfl) (fun _ _ _ h => h) ?h49 (by assumption) ?r49
  case h49 => (intro w hSw; (try dsimp only at hSw); go_simp; try with_reducible rfl)
  refine wT 49 (v := ?v50) rfl (by as_aux_lemma => kernel_rfl) (fun _ _ _ h => h) ?h50 (by assumption) ?r50
  case h50 => (intro w hSw; (try dsimp only at hSw); go_simp; try with_reducible rfl)
  refine wT 50 (v := ?v51) rfl (by as_aux_lemma => kernel_rfl) (fun _ _ _ h => h) ?h51 (by assumption) ?r51
  case h51 => (intro w hSw; (try dsimp only at hSw); go_simp; try with_reducible rfl)
  refine wT 51 (v := ?v52) rfl (by as_aux_lemma => kernel_rfl) (fun _ _ _ h => h) ?h52 (by assumption) ?r52
  case h52 => (intro w hSw; (try dsimp only at hSw); go_simp; try with_reducible rfl)
  refine wT 52 (v := ?v53) rfl (by as_aux_lemma => kernel_rfl) (fun _ _ _ h => h) ?h53 (by assumption) ?r53
  case h53 => (intro w hSw; (try dsimp only at hSw); go_simp; try with_reducible rfl)
  refine wT 53 (v := ?v54) rfl (by as_aux_lemma => kernel_rfl) (fun _ _ _ h => h) ?h54 (by assumption) ?r54
  case h54 => (intro w hSw; (try dsimp only at hSw); go_simp; try with_reducible rfl)
  refine wT 54 (v := ?v55) rfl (by as_aux_lemma => kernel_rfl) (fun _ _ _ h => h) ?h55 (by assumption) ?r55
  case h55 => (intro w hSw; (try dsimp only at hSw); go_simp; try with_reducible rfl)
  refine wT 55 (v := ?v56) rfl (by as_aux_lemma => kernel_rfl) (fun _ _ _ h => h) ?h56 (by assumption) ?r56
  case h56 => (intro w hSw; (try dsimp only at hSw); go_simp; try with_reducible rfl)
  refine wT 56 (v := ?v57) rfl (by as_aux_lemma => kernel_rfl) (fun _ _ _ h => h) ?h57 (by assumption) ?r57
  case h57 => (intro w hSw; (try dsimp only at hSw); go_simp; try with_reducible rfl)
  refine wT 57 (v := ?v58) rfl (by as_aux_lemma => kernel_rfl) (fun _ _ _ h => h) ?h58 (by assumption) ?r58
  case h58 => (intro w hSw; (try dsimp only at hSw); go_simp; try with_reducible rfl)
  refine wT 58 (v := ?v59) rfl (by as_aux_lemma => kernel_rfl) (fun _ _ _ h => h) ?h59 (by assumption) ?r59
  case h59 => (intro w hSw; (try dsimp only at hSw); go_simp; try with_reducible rfl)
  try simp only [Act.put, List.setIfInBounds_toArray, List.set_cons_zero, List.set_cons_succ]
  refine wpAnyH_ready (rs := [59]) (by as_aux_lemma => kernel_rfl) (by simp) ?_
  refine AllReadyH.cons (o := ⟨_, _, _, _, _, _⟩) rfl (fun K hK => ?_) AllReadyH.nil
  go_simp
  have hx59 : Below V16.heap.size V16 ((V16.alloc (.cells #[.int .u64 1, .string ⟨#[]⟩, .int .u64 2, .string ⟨#[98]⟩] 40)).drew) := ((Below.refl V16.heap.size V16).alloc (Nat.le_refl _) _).drew
  have r59 : RO mkC ((V16.alloc (.cells #[.int .u64 1, .string ⟨#[]⟩, .int .u64 2, .string ⟨#[98]⟩] 40)).drew) (some ⟨V16.heap.size, 0, none⟩) 2 2 uB := RO.below (lit_mk V16 #[.int .u64 1, .string ⟨#[]⟩, .int .u64 2, .string ⟨#[98]⟩] uB 2 rfl (by omega) rfl) (Below.refl _ _).drew
  refine hK.out _ _ (hx59) (fun hHeld => ?_)
  clear hK K
  try simp only [Act.put, List.setIfInBounds_toArray, List.set_cons_zero, List.set_cons_succ]
  refine wpAnyH_ready (rs := [60]) (by as_aux_lemma => kernel_rfl) (by simp) ?_
  refine AllReadyH.cons (o := ⟨_, _, _, _, _, _⟩) rfl (fun K hK => ?_) AllReadyH.nil
  go_simp
  refine (q11.out _ _ _ _ (RU.out.below hx59) r59).mono ?_
  rintro e w60 ⟨rfl, m60, rfl⟩
  have hx60 : Below V16.heap.size V16 ((V16.alloc (.cells #[.int .u64 1, .string ⟨#[]⟩, .int .u64 2, .string ⟨#[98]⟩] 40)).drewN (1 + m60)) := Below.drewN ((Below.refl V16.heap.size V16).alloc (Nat.le_refl _) _) (1 + m60)
  go_simp
  refine hK.out _ _ (hx60) (fun hHeld => ?_)
  clear hK K
  refine wT 61 (v := ?v60) rfl (by as_aux_lemma => kernel_rfl) (fun _ _ _ h => h) ?h60 (by assumption) ?r60
  case h60 => (intro w hSw; (try dsimp only at hSw); go_simp; try with_reducible rfl)
  refine wT 62 (v := ?v61) rfl (by as_aux_lemma => kernel_rfl) (fun _ _ _ h => h) ?h61 (by assumption) ?r61
  case h61 => (intro w hSw; (try dsimp only at hSw); go_simp; try with_reducible rfl)
  refine wT 63 (v := ?v62) rfl (by as_aux_lemma => kernel_rfl) (fun _ _ _ h => h) ?h62 (by assumption) ?r62
  case h62 => (intro w hSw; (try dsimp only at hSw); go_simp; try with_reducible rfl)
  refine wT 64 (v := ?v63) rfl (by as_aux_lemma => kernel_rfl) (fun _ _ _ h => h) ?h63 (by assumption) ?r63
  case h63 => (intro w hSw; (try dsimp only at hSw); go_simp; try with_reducible rfl)
  refine wT 65 (v := ?v64) rfl (by as_aux_lemma => kernel_rfl) (fun _ _ _ h => h) ?h64 (by assumption) ?r64
  case h64 => (intro w hSw; (try dsimp only at hSw); go_simp; try with_reducible rfl)
  refine wT 66 (v := ?v65) rfl (by as_aux_lemma => kernel_rfl) (fun _ _ _ h => h) ?h65 (by assumption) ?r65
  case h65 => (intro w hSw; (try dsimp only at hSw); go_simp; try with_reducible rfl)
  refine wT 67 (v := ?v66) rfl (by as_aux_lemma => kernel_rfl) (fun _ _ _ h => h) ?h66 (by assumption) ?r66
  case h66 => (intro w hSw; (try dsimp only at hSw); go_simp; try with_reducible rfl)
  refine wT 68 (v := ?v67) rfl (by as_aux_lemma => kernel_rfl) (fun _ _ _ h => h) ?h67 (by assumption) ?r67
  case h67 => (intro w hSw; (try dsimp only at hSw); go_simp; try with_reducible rfl)
  refine wT 69 (v := ?v68) rfl (by as_aux_lemma => kernel_rfl) (fun _ _ _ h => h) ?h68 (by assumption) ?r68
  case h68 => (intro w hSw; (try dsimp only at hSw); go_simp; try with_reducible rfl)
  refine wT 70 (v := ?v69) rfl (by as_aux_lemma => kernel_rfl) (fun _ _ _ h => h) ?h69 (by assumption) ?r69
  case h69 => (intro w hSw; (try dsimp only at hSw); go_simp; try with_reducible rfl)
  refine wT 71 (v := ?v70) rfl (by as_aux_lemma => kernel_rfl) (fun _ _ _ h => h) ?h70 (by assumption) ?r70
  case h70 => (intro w hSw; (try dsimp only at hSw); go_simp; try with_reducible rfl)
  refine wT 72 (v := ?v71) rfl (by as_aux_lemma => kernel_rfl) (fun _ _ _ h => h) ?h71 (by assumption) ?r71
  case h71 => (intro w hSw; (try dsimp only at hSw); go_simp; try with_reducible rfl)
  refine wT 73 (v := ?v72) rfl (by as_aux_lemma => kernel_rfl) (fun _ _ _ h => h) ?h72 (by assumption) ?r72
  case h72 => (intro w hSw; (try dsimp only at hSw); go_simp; try with_reducible rfl)
  refine wT 74 (v := ?v73) rfl (by as_aux_lemma => kernel_rfl) (fun _ _ _ h => h) ?h73 (by assumption) ?r73
  case h73 => (intro w hSw; (try dsimp only at hSw); go_simp; try with_reducible rfl)
  refine wT 75 (v := ?v74) rfl (by as_aux_lemma => kernel_rfl) (fun _ _ _ h => h) ?h74 (by assumption) ?r74
  case h74 => (intro w hSw; (try dsimp only at hSw); go_simp; try with_reducible rfl)
  refine wT 76 (v := ?v75) rfl (by as_aux_lemma => kernel_rfl) (fun _ _ _ h => h) ?h75 (by assumption) ?r75
  case h75 => (intro w hSw; (try dsimp only at hSw); go_simp; try with_reducible rfl)
  refine wT 77 (v := ?v76) rfl (by as_aux_lemma => kernel_rfl) (fun _ _ _ h => h) ?h76 (by assumption) ?r76
  case h76 => (intro w hSw; (try dsimp only at hSw); go_simp; try with_reducible rfl)
  refine wT 78 (v := ?v77) rfl (by as_aux_lemma => kernel_rfl) (fun _ _ _ h => h) ?h77 (by assumption) ?r77
  case h77 => (intro w hSw; (try dsimp only at hSw); go_simp; try with_reducible rfl)
  refine wT 79 (v := ?v78) rfl (by as_aux_lemma => kernel_rfl) (fun _ _ _ h => h) ?h78 (by assumption) ?r78
  case h78 => (intro w hSw; (try dsimp only at hSw); go_simp; try with_reducible rfl)
  refine wT 80 (v := ?v79) rfl (by as_aux_lemma => kernel_rfl) (fun _ _ _ h => h) ?h79 (by assumption) ?r79
  case h79 => (intro w hSw; (try dsimp only at hSw); go_simp; try with_reducible rfl)
  refine wT 81 (v := ?v80) rfl (by as_aux_lemma => kernel_rfl) (fun _ _ _ h => h) ?h80 (by assumption) ?r80
  case h80 => (intro w hSw; (try dsimp only at hSw); go_simp; try with_reducible rfl)
  refine wT 82 (v := ?v81) rfl (by as_aux_lemma => kernel_rfl) (fun _ _ _ h => h) ?h81 (by assumption) ?r81
  case h81 => (intro w hSw; (try dsimp only at hSw); go_simp; try with_reducible rfl)
  refine wT 83 (v := ?v82) rfl (by as_aux_lemma => kernel_rfl) (fun _ _ _ h => h) ?h82 (by assumption) ?r82
  case h82 => (intro w hSw; (try dsimp only at hSw); go_simp; try with_reducible rfl)
  refine wT 84 (v := ?v83) rfl (by as_aux_lemma => kernel_rfl) (fun _ _ _ h => h) ?h83 (by assumption) ?r83
  case h83 => (intro w hSw; (try dsimp only at hSw); go_simp; try with_reducible rfl)
  refine wT 85 (v := ?v84) rfl (by as_aux_lemma => kernel_rfl) (fun _ _ _ h => h) ?h84 (by assumption) ?r84
  case h84 => (intro w hSw; (try dsimp only at hSw); go_simp; try with_reducible rfl)
  try simp only [Act.put, List.setIfInBounds_toArray, List.set_cons_zero, List.set_cons_succ]
  refine wpAnyH_ready (rs := [86]) (by as_aux_lemma => kernel_rfl) (by simp) ?_
  refine AllReadyH.cons (o := ⟨_, _, _, _, _, _⟩) rfl (fun K hK => ?_) AllReadyH.nil
  go_simp
  refine (q12.out _ _ _ (RU.out.below hHeld)).mono ?_
  rintro e w86 ⟨rfl, b86⟩
  have hx86 := hHeld.trans (b86.mono hHeld.size)
  go_simp
  refine hK.out _ _ (hx86) (fun hHeld => ?_)
  clear hK K
  refine wT 87 (v := ?v85) rfl (by as_aux_lemma => kernel_rfl) (fun _ _ _ h => h) ?h85 (by assumption) ?r85
  case h85 => (intro w hSw; (try dsimp only at hSw); go_simp; try with_reducible rfl)
  refine wT 88 (v := ?v86) rfl (by as_aux_lemma => kernel_rfl) (fun _ _ _ h => h) ?h86 (by assumption) ?r86
  case h86 => (intro w hSw; (try dsimp only at hSw); go_simp; try with_reducible rfl)
  try simp only [Act.put, List.setIfInBounds_toArray, List.set_cons_zero, List.set_cons_succ]
  refine wpAnyH_done (by as_aux_lemma => kernel_rfl) ?_ _
  clear s0' s1' s2' s3' m1'
  go_wp2
  exact bodyPost_ret (results_tmp rfl _ _ _) rfl ⟨rfl, BB.out.trans (hHeld.mono BB.out.size)⟩
end Go.Proofs.YtpchncpcckfghaaGreat
namespace Go.Proofs.YtpchncpcckfghaaGreat
open Go.RowKit Go.Sort
set_option linter.unusedVariables false
set_option linter.unusedSimpArgs false
set_option maxRecDepth 1000000 in
set_option maxHeartbeats 16000000 in
theorem usift_any (blk off cap lo hi first : Nat) (d0 d : Array Int) (w0 w : World) (R : RU w0 blk off d0) (hs : d.size = d0.size) (S : SU w0 blk off d w) (hlo : lo ≤ hi) (hb : first + hi ≤ d.size) (hsz : d.size ≤ 1000000) :
    Calls Tryz.prog 106 #[.slice (some ⟨blk, off, none⟩) d.size cap, .int .i64 lo, .int .i64 hi, .int .i64 first] w fun e w' => e = .returned (.tuple #[]) ∧ SU w0 blk off (Sort.siftDown ltInt hi first lo d) w' := by
  have S0 := Lib.hid S
  have RR := Lib.hid R
  have HS := Lib.hid hs
  clear S R hs
  go_enter Tryz.func106, Tryz.ntmps106
  go_wp2
  go_loopw [8] (fun vi wr => ∃ (r : Nat) (dk : Array Int), vi = .int .i64 r ∧ r ≤ hi ∧ dk.size = d.size ∧ Hid (SU w0 blk off dk wr) ∧ Hid (Sort.siftDown ltInt hi first r dk = Sort.siftDown ltInt hi first lo d)) (fun vi _ => hi - (intOf vi).toNat)
  case atStart => exact ⟨lo, d, rfl, hlo, rfl, S0, Lib.hid rfl⟩
  case round =>
    clear S0
    obtain ⟨r, dk, rfl, hr, hsk, SK, HO⟩ := hrel
    obtain ⟨G, hG⟩ : ∃ G : Nat → Int, ∀ t, G t = dk[t]! := ⟨fun t => dk[t]!, fun _ => rfl⟩
    obtain ⟨hcw, hfw⟩ := SK.out.cells RR.out (by have := HS.out; omega) G hG hsk
    have HG := Lib.hid hG
    clear hG
    by_cases h0 : hi ≤ 2 * r + 1
    · have h0z : (hi : Int) ≤ 2 * (r : Int) + 1 := by omega
      go_wp2
      go_end0
      exact ⟨rfl, by rw [← HO.out, sd_end ltInt dk h0]; exact SK.out⟩
    · have h0z : ¬ (hi : Int) ≤ 2 * (r : Int) + 1 := by omega
      have hgo : ∀ q, Hid (Sort.siftDown ltInt hi first r dk = Sort.siftDown ltInt hi first q (swp dk (first + r) (first + q))) → Hid (Sort.siftDown ltInt hi first q (swp dk (first + r) (first + q)) = Sort.siftDown ltInt hi first lo d) := fun q h => Lib.hid (h.out.symm.trans HO.out)
      have hgo' := Lib.hid hgo
      clear hgo
      by_cases h2 : 2 * r + 2 < hi
      · have h2z : 2 * (r : Int) + 1 + 1 < (hi : Int) := by omega
        obtain ⟨c2, hc2⟩ : ∃ q, q = 2 * r + 2 := ⟨_, rfl⟩
        obtain ⟨c1, hc1⟩ : ∃ q, q = 2 * r + 1 := ⟨_, rfl⟩
        have E1 : first + (2 * r + 1) = first + 2 * r + 1 := by omega
        have E2 : first + (2 * r + 2) = first + 2 * r + 2 := by omega
        by_cases hl1 : G (first + 2 * r + 1) < G (first + 2 * r + 2)
        · have hl1' := hl1
          have hcmp : Hid (ltInt dk[first + (2 * r + 1)]! dk[first + (2 * r + 2)]! = true) := Lib.hid (by rw [← HG.out, ← HG.out, E1, E2]; exact decide_eq_true hl1)
          go_wp2
          go_quiet (first | (go_at_call 60; exact quiet_mine (uless_any _ _ _)))
          go_upto_region 5 with (fail)
          rw [show 2 * (r : Int) + 1 + 1 = (c2 : Int) by omega]
          have hcz : (c2 : Int) < (hi : Int) := by omega
          have hch : c2 < hi := by omega
          have hfc : first + c2 < d.size := by omega
          have hfr : first + r < d.size := by omega
          have hrc : r < c2 := by omega
          have hc2' := Lib.hid hc2
          clear hc2 E1 E2 hl1 hl1'
          have SK2 : Hid (SU w0 blk off dk (wr.drewN nq)) := Lib.hid (SK.out.drewN nq)
          clear hcw hfw SK
          generalize wr.drewN nq = W2 at *
          obtain ⟨hcw, hfw⟩ := SK2.out.cells RR.out (by have := HS.out; omega) G HG.out hsk
          go_wp2
          go_quiet (first | (go_at_call 60; exact quiet_mine (uless_any _ _ _)))
          go_wp2
          · have hn : (!decide (G (first + r) < G (first + c2))) = true := by assumption
            have hl2 : ¬ G (first + r) < G (first + c2) := by simpa using hn
            have hst : Hid (dk = Sort.siftDown ltInt hi first lo d) := Lib.hid (((by have hcc := hc2'.out; subst hcc; exact sd_right_stop ltInt dk h2 hcmp.out (by rw [← HG.out, ← HG.out]; exact decide_eq_false (by omega))) : Sort.siftDown ltInt hi first r dk = dk).symm.trans HO.out)
            exact bodyPost_ret (results_none rfl _ _ _) rfl ⟨rfl, by rw [← hst.out]; exact SK2.out.drewN _⟩
          · have hn : (!decide (G (first + r) < G (first + c2))) = false := by assumption
            have hl2 : G (first + r) < G (first + c2) := by simpa using hn
            have hst : Hid (Sort.siftDown ltInt hi first c2 (swp dk (first + r) (first + c2)) = Sort.siftDown ltInt hi first lo d) := hgo'.out c2 (Lib.hid (by have hcc := hc2'.out; subst hcc; exact sd_right_go ltInt dk h2 hcmp.out (by rw [← HG.out, ← HG.out]; exact decide_eq_true hl2)))
            go_region
            all_goals go_wp2
            go_roundw
            case rel => exact ⟨c2, swp dk (first + r) (first + c2), rfl, by omega, by rw [size_swp]; exact hsk, Lib.hid (SK2.out.swp RR.out _ HG.out (by omega) (by omega)), hst⟩
            case measure => simp [intOf]; omega
        · have hl1' := hl1
          have hcmp : Hid (2 * r + 2 < hi → ltInt dk[first + (2 * r + 1)]! dk[first + (2 * r + 2)]! = false) := Lib.hid (fun _ => by rw [← HG.out, ← HG.out, E1, E2]; exact decide_eq_false (by omega))
          go_wp2
          go_quiet (first | (go_at_call 60; exact quiet_mine (uless_any _ _ _)))
          go_upto_region 5 with (fail)
          rw [show 2 * (r : Int) + 1 = (c1 : Int) by omega]
          have hcz : (c1 : Int) < (hi : Int) := by omega
          have hch : c1 < hi := by omega
          have hfc : first + c1 < d.size := by omega
          have hfr : first + r < d.size := by omega
          have hrc : r < c1 := by omega
          have hc1' := Lib.hid hc1
          clear hc1 E1 E2 hl1 hl1'
          have SK2 : Hid (SU w0 blk off dk (wr.drewN nq)) := Lib.hid (SK.out.drewN nq)
          clear hcw hfw SK
          generalize wr.drewN nq = W2 at *
          obtain ⟨hcw, hfw⟩ := SK2.out.cells RR.out (by have := HS.out; omega) G HG.out hsk
          go_wp2
          go_quiet (first | (go_at_call 60; exact quiet_mine (uless_any _ _ _)))
          go_wp2
          · have hn : (!decide (G (first + r) < G (first + c1))) = true := by assumption
            have hl2 : ¬ G (first + r) < G (first + c1) := by simpa using hn
            have hst : Hid (dk = Sort.siftDown ltInt hi first lo d) := Lib.hid (((by have hcc := hc1'.out; subst hcc; exact sd_left_stop ltInt dk (by omega) hcmp.out (by rw [← HG.out, ← HG.out]; exact decide_eq_false (by omega))) : Sort.siftDown ltInt hi first r dk = dk).symm.trans HO.out)
            exact bodyPost_ret (results_none rfl _ _ _) rfl ⟨rfl, by rw [← hst.out]; exact SK2.out.drewN _⟩
          · have hn : (!decide (G (first + r) < G (first + c1))) = false := by assumption
            have hl2 : G (first + r) < G (first + c1) := by simpa using hn
            have hst : Hid (Sort.siftDown ltInt hi first c1 (swp dk (first + r) (first + c1)) = Sort.siftDown ltInt hi first lo d) := hgo'.out c1 (Lib.hid (by have hcc := hc1'.out; subst hcc; exact sd_left_go ltInt dk (by omega) hcmp.out (by rw [← HG.out, ← HG.out]; exact decide_eq_true hl2)))
            go_region
            all_goals go_wp2
            go_roundw
            case rel => exact ⟨c1, swp dk (first + r) (first + c1), rfl, by omega, by rw [size_swp]; exact hsk, Lib.hid (SK2.out.swp RR.out _ HG.out (by omega) (by omega)), hst⟩
            case measure => simp [intOf]; omega
      · have h2z : ¬ 2 * (r : Int) + 1 + 1 < (hi : Int) := by omega
        obtain ⟨c1, hc1⟩ : ∃ q, q = 2 * r + 1 := ⟨_, rfl⟩
        have hcmp : Hid (2 * r + 2 < hi → ltInt dk[first + (2 * r + 1)]! dk[first + (2 * r + 2)]! = false) := Lib.hid (fun h => absurd h h2)
        have h2b : decide (2 * (r : Int) + 1 + 1 < (hi : Int)) = false := decide_eq_false h2z
        have hc1z := Lib.hid hc1
        clear hc1
        go_wp2
        go_quiet (first | (go_at_call 60; exact quiet_mine (uless_any _ _ _)))
        have hc1 := hc1z.out
        go_upto_region 5 with (fail)
        rw [show 2 * (r : Int) + 1 = (c1 : Int) by omega]
        have hcz : (c1 : Int) < (hi : Int) := by omega
        have hch : c1 < hi := by omega
        have hfc : first + c1 < d.size := by omega
        have hfr : first + r < d.size := by omega
        have hrc : r < c1 := by omega
        have hc1' := Lib.hid hc1
        clear hc1
        have SK2 : Hid (SU w0 blk off dk (wr.drewN nq)) := Lib.hid (SK.out.drewN nq)
        clear hcw hfw SK
        generalize wr.drewN nq = W2 at *
        obtain ⟨hcw, hfw⟩ := SK2.out.cells RR.out (by have := HS.out; omega) G HG.out hsk
        go_wp2
        go_quiet (first | (go_at_call 60; exact quiet_mine (uless_any _ _ _)))
        go_wp2
        · have hn : (!decide (G (first + r) < G (first + c1))) = true := by assumption
          have hl2 : ¬ G (first + r) < G (first + c1) := by simpa using hn
          have hst : Hid (dk = Sort.siftDown ltInt hi first lo d) := Lib.hid (((by have hcc := hc1'.out; subst hcc; exact sd_left_stop ltInt dk (by omega) hcmp.out (by rw [← HG.out, ← HG.out]; exact decide_eq_false (by omega))) : Sort.siftDown ltInt hi first r dk = dk).symm.trans HO.out)
          exact bodyPost_ret (results_none rfl _ _ _) rfl ⟨rfl, by rw [← hst.out]; exact SK2.out.drewN _⟩
        · have hn : (!decide (G (first + r) < G (first + c1))) = false := by assumption
          have hl2 : G (first + r) < G (first + c1) := by simpa using hn
          have hst : Hid (Sort.siftDown ltInt hi first c1 (swp dk (first + r) (first + c1)) = Sort.siftDown ltInt hi first lo d) := hgo'.out c1 (Lib.hid (by have hcc := hc1'.out; subst hcc; exact sd_left_go ltInt dk (by omega) hcmp.out (by rw [← HG.out, ← HG.out]; exact decide_eq_true hl2)))
          go_region
          all_goals go_wp2
          go_roundw
          case rel => exact ⟨c1, swp dk (first + r) (first + c1), rfl, by omega, by rw [size_swp]; exact hsk, Lib.hid (SK2.out.swp RR.out _ HG.out (by omega) (by omega)), hst⟩
          case measure => simp [intOf]; omega
end Go.Proofs.YtpchncpcckfghaaGreat
namespace Go.Proofs.YtpchncpcckfghaaGreat
open Go.RowKit Go.Sort
set_option linter.unusedVariables false
set_option linter.unusedSimpArgs false
set_option maxRecDepth 1000000 in
set_option maxHeartbeats 16000000 in
theorem uheap_any (blk off cap a b : Nat) (d0 d : Array Int) (w0 w : World) (R : RU w0 blk off d0) (hs : d.size = d0.size) (S : SU w0 blk off d w) (hab : a ≤ b) (hb : b ≤ d.size) (hsz : d.size ≤ 1000000) :
    Calls Tryz.prog 82 #[.slice (some ⟨blk, off, none⟩) d.size cap, .int .i64 a, .int .i64 b] w fun e w' => e = .returned (.tuple #[]) ∧ SU w0 blk off (Sort.heapSort ltInt d a b) w' := by
  have S0 := Lib.hid S
  have RR := Lib.hid R
  have HS := Lib.hid hs
  obtain ⟨n, hn⟩ : ∃ n, n = b - a := ⟨_, rfl⟩
  have hnz : (b : Int) - (a : Int) = (n : Int) := by omega
  have hbn : a + n ≤ d.size := by omega
  have hbn0 : n ≤ 1000000 := by omega
  have hfin : Hid (Sort.heapSort ltInt d a b = heapPop ltInt a n (heapBuild ltInt n a ((n - 1) / 2 + 1) d)) := Lib.hid (by unfold Sort.heapSort; rw [← hn])
  obtain ⟨m, hm⟩ : ∃ m, m = (n - 1) / 2 + 1 := ⟨_, rfl⟩
  have hmz : ((n : Int) - 1).tdiv 2 = (m : Int) - 1 := by have := half_start hab; rw [hnz] at this; rw [this, hm, hn]
  have hmn : m ≤ n + 1 := by omega
  rw [← hm] at hfin
  clear S R hs hn hm
  go_enter Tryz.func82, Tryz.ntmps82
  go_wp2
  go_loopw [9] (fun vi wr => ∃ (k : Nat) (dk : Array Int), vi = .int .i64 ((k : Int) - 1) ∧ k ≤ m ∧ dk.size = d.size ∧ Hid (SU w0 blk off dk wr) ∧ Hid (heapBuild ltInt n a k dk = heapBuild ltInt n a m d)) (fun vi _ => (intOf vi + 1).toNat)
  case atStart => exact ⟨m, d, by first | rfl | rw [hmz], Nat.le_refl _, rfl, S0, Lib.hid rfl⟩
  case round =>
    clear S0
    obtain ⟨k, dk, rfl, hk, hsk, SK, HO⟩ := hrel
    by_cases h0 : k = 0
    · have HO2 : Hid (heapBuild ltInt n a m d = dk) := Lib.hid (by rw [← HO.out, h0]; rfl)
      clear HO
      obtain ⟨z, hz⟩ : ∃ z : Int, (k : Int) - 1 = z := ⟨_, rfl⟩
      rw [hz]
      have hzn : ¬ (0 : Int) ≤ z := by omega
      clear hz hk h0
      go_wp2
      go_loopw [10] (fun vi wr => ∃ (k : Nat) (dj : Array Int), vi = .int .i64 ((k : Int) - 1) ∧ k ≤ n ∧ dj.size = d.size ∧ Hid (SU w0 blk off dj wr) ∧ Hid (heapPop ltInt a k dj = heapPop ltInt a n dk)) (fun vi _ => (intOf vi + 1).toNat)
      case atStart => exact ⟨n, dk, rfl, Nat.le_refl _, hsk, SK, Lib.hid rfl⟩
      case round =>
        clear SK
        obtain ⟨k, dj, rfl, hk2, hsj, SJ, HP⟩ := hrel
        by_cases h0 : k = 0
        · have hfn : Hid (Sort.heapSort ltInt d a b = dj) := Lib.hid (by rw [hfin.out, HO2.out, ← HP.out, h0]; rfl)
          obtain ⟨y, hy⟩ : ∃ y : Int, (k : Int) - 1 = y := ⟨_, rfl⟩
          rw [hy]
          have hyn : ¬ (0 : Int) ≤ y := by omega
          clear hy h0
          go_wp2
          go_end0
          exact ⟨rfl, by rw [hfn.out]; exact SJ.out⟩
        · obtain ⟨q, rfl⟩ : ∃ q, k = q + 1 := ⟨k - 1, by omega⟩
          have hqz : ((q + 1 : Nat) : Int) - 1 = (q : Int) := by omega
          have hq0 : (0 : Int) ≤ (q : Int) := by omega
          obtain ⟨G, hG⟩ : ∃ G : Nat → Int, ∀ t, G t = dj[t]! := ⟨fun t => dj[t]!, fun _ => rfl⟩
          obtain ⟨hcw, hfw⟩ := SJ.out.cells RR.out (by have := HS.out; omega) G hG hsj
          obtain ⟨u1, hu1⟩ := SJ.out.c2 RR.out (by rw [hsj]; exact HS.out) a (a + q) (by omega) (by omega) (.int .u64 (G (a + q)))
          have HG := Lib.hid hG
          clear hG
          have hstep : Hid (heapPop ltInt a q (Sort.siftDown ltInt q a 0 (swp dj a (a + q))) = heapPop ltInt a n dk) := HP
          have hsw : (swp dj a (a + q)).size = d.size := by rw [size_swp]; exact hsj
          have hss : (Sort.siftDown ltInt q a 0 (swp dj a (a + q))).size = d.size := by rw [size_siftDown ltInt q a _ 0 _ (Nat.le_refl _)]; exact hsw
          have hsft := Lib.hid (fun W S => usift_any blk off cap 0 q a d0 (swp dj a (a + q)) w0 W RR.out (by rw [hsw]; exact HS.out) S (Nat.zero_le _) (by omega) (by omega))
          rw [hsw] at hsft
          rw [hqz]
          clear HP
          go_wp2
          go_region
          all_goals go_wp2_with fail
          refine (hsft.out _ (SJ.out.swp RR.out _ HG.out (by omega) (by omega))).mono ?_
          rintro e w9 ⟨rfl, s9⟩
          have S9 := Lib.hid s9
          clear s9 hsft hu1
          go_wp2
          go_roundw
          case rel => exact ⟨q, _, rfl, by omega, hss, S9, hstep⟩
          case measure => simp [intOf]
    · obtain ⟨q, rfl⟩ : ∃ q, k = q + 1 := ⟨k - 1, by omega⟩
      have hqz : ((q + 1 : Nat) : Int) - 1 = (q : Int) := by omega
      have hq0 : (0 : Int) ≤ (q : Int) := by omega
      have hstep : Hid (heapBuild ltInt n a q (Sort.siftDown ltInt n a q dk) = heapBuild ltInt n a m d) := HO
      have hss : (Sort.siftDown ltInt n a q dk).size = d.size := by rw [size_siftDown ltInt n a _ q _ (Nat.le_refl _)]; exact hsk
      have hsft := Lib.hid (usift_any blk off cap q n a d0 dk w0 wr RR.out (by rw [hsk]; exact HS.out) SK.out (by omega) (by omega) (by omega))
      rw [hsk] at hsft
      rw [hqz]
      clear HO SK
      go_wp2_with fail
      refine hsft.out.mono ?_
      rintro e w9 ⟨rfl, s9⟩
      have S9 := Lib.hid s9
      clear s9 hsft
      go_wp2
      go_roundw
      case rel => exact ⟨q, _, rfl, by omega, hss, S9, hstep⟩
      case measure => simp [intOf]
set_option maxRecDepth 1000000 in
set_option maxHeartbeats 16000000 in
theorem urev_any (blk off cap a b : Nat) (d0 d : Array Int) (w0 w : World) (R : RU w0 blk off d0) (hs : d.size = d0.size) (S : SU w0 blk off d w) (hab : a < b) (hb : b ≤ d.size) (hsz : d.size ≤ 1000000) :
    Calls Tryz.prog 85 #[.slice (some ⟨blk, off, none⟩) d.size cap, .int .i64 a, .int .i64 b] w fun e w' => e = .returned (.tuple #[]) ∧ ∃ d', PermIn a b d d' ∧ SU w0 blk off d' w' := by
  have S0 := Lib.hid S
  have RR := Lib.hid R
  have HS := Lib.hid hs
  clear S R hs
  go_enter Tryz.func85, Tryz.ntmps85
  go_wp2
  go_loopw [6, 7] (fun vi vj wr => ∃ (i j : Nat) (dk : Array Int), vi = .int .i64 i ∧ vj = .int .i64 j ∧ a ≤ i ∧ j < b ∧ i ≤ j + 1 ∧ Hid (PermIn a b d dk) ∧ Hid (SU w0 blk off dk wr)) (fun vi vj _ => (intOf vj + 1).toNat - (intOf vi).toNat)
  case atStart => exact ⟨a, b - 1, d, rfl, by congr 1; omega, Nat.le_refl _, by omega, by omega, Lib.hid (permIn_refl d a b), S0⟩
  case round =>
    clear S0
    obtain ⟨i, j, dk, rfl, rfl, hai, hjb, hij, HP, SK⟩ := hrel
    have hsk : dk.size = d.size := HP.out.1
    by_cases hlt : i < j
    · have hltz : (i : Int) < (j : Int) := by omega
      obtain ⟨G, hG⟩ : ∃ G : Nat → Int, ∀ t, G t = dk[t]! := ⟨fun t => dk[t]!, fun _ => rfl⟩
      obtain ⟨hcw, hfw⟩ := SK.out.cells RR.out (by have := HS.out; omega) G hG hsk
      have HG := Lib.hid hG
      clear hG
      go_wp2
      go_region
      all_goals go_wp2
      go_roundw
      case rel => exact ⟨i + 1, j - 1, swp dk i j, by go_num, by congr 1; omega, by omega, by omega, by omega, Lib.hid (permIn_trans _ _ _ _ _ HP.out (swp_permIn dk a b i j hai (by omega) (by omega) hjb (by omega))), Lib.hid (SK.out.swp RR.out _ HG.out (by omega) (by omega))⟩
      case measure => simp [intOf]; omega
    · have hltz : ¬ (i : Int) < (j : Int) := by omega
      go_wp2
      go_end0
      exact ⟨rfl, dk, HP.out, SK.out⟩
end Go.Proofs.YtpchncpcckfghaaGreat
namespace Go.Proofs.YtpchncpcckfghaaGreat
open Go.RowKit Go.Sort
set_option linter.unusedVariables false
set_option linter.unusedSimpArgs false
def CU (w0 : World) (blk off : Nat) (dk : Array Int) (g : Nat) (s : Nat) (W : World) : Prop := Cnt1 encU w0 blk off dk g s W
theorem CU.box {w0 W : World} {blk off g s : Nat} {dk : Array Int} (h : CU w0 blk off dk g s W) : W.cell? ⟨g, 0, none⟩ = some (.int .i64 s) ∧ W.frozen? ⟨g, 0, none⟩ = false := ⟨h.2.1, h.2.2.1⟩
theorem CU.drewN {w0 W : World} {blk off g s : Nat} {dk : Array Int} (h : CU w0 blk off dk g s W) (n : Nat) : CU w0 blk off dk g s (W.drewN n) := by
  have := Cnt1.grown h n #[]
  rwa [grow_empty] at this
set_option maxRecDepth 1000000 in
set_option maxHeartbeats 16000000 in
theorem uorder_any (blk off cap a b g s : Nat) (d0 d : Array Int) (w0 w : World) (R : RU w0 blk off d0) (hs : d.size = d0.size) (S : CU w0 blk off d g s w) (ha : a < d.size) (hb : b < d.size) (hsz : d.size ≤ 1000000) (hss : s ≤ 1000) :
    Calls Tryz.prog 136 #[.slice (some ⟨blk, off, none⟩) d.size cap, .int .i64 a, .int .i64 b, .pointer (some ⟨g, 0, none⟩)] w fun e w' => ∃ p q s' : Nat, e = .returned (.tuple #[.int .i64 p, .int .i64 q]) ∧ ((p = a ∧ q = b) ∨ (p = b ∧ q = a)) ∧ s' ≤ s + 1 ∧ CU w0 blk off d g s' w' := by
  have S0 := Lib.hid S
  obtain ⟨G, hG⟩ : ∃ G : Nat → Int, ∀ t, G t = d[t]! := ⟨fun t => d[t]!, fun _ => rfl⟩
  obtain ⟨hcw, hfw⟩ := SU.cells S.1 R hs G hG rfl
  obtain ⟨hc, hf⟩ := S.box
  have hsz' : (s : Int) ≤ 1000 := by omega
  clear S R hs hG
  go_enter Tryz.func136, Tryz.ntmps136
  go_wp2
  go_quiet (first | (go_at_call 60; exact quiet_mine (uless_any _ _ _)))
  go_wp2
  · exact bodyPost_ret (results_tmp2 rfl _ _ _) rfl ⟨b, a, s + 1, rfl, .inr ⟨rfl, rfl⟩, Nat.le_refl _, by have := Cnt1.bump (S0.out.drewN nq) (s + 1); trace_state; exact this⟩
  · exact bodyPost_ret (results_tmp2 rfl _ _ _) rfl ⟨a, b, s, rfl, .inl ⟨rfl, rfl⟩, Nat.le_succ _, S0.out.drewN nq⟩
set_option maxRecDepth 1000000 in
set_option maxHeartbeats 16000000 in
theorem umedian_any (blk off cap a b c g s : Nat) (d0 d : Array Int) (w0 w : World) (R : RU w0 blk off d0) (hs : d.size = d0.size) (S : CU w0 blk off d g s w) (lo hi : Nat) (ha : lo ≤ a ∧ a < hi) (hb : lo ≤ b ∧ b < hi) (hc : lo ≤ c ∧ c < hi) (hh : hi ≤ d.size) (hsz : d.size ≤ 1000000) (hss : s ≤ 900) :
    Calls Tryz.prog 110 #[.slice (some ⟨blk, off, none⟩) d.size cap, .int .i64 a, .int .i64 b, .int .i64 c, .pointer (some ⟨g, 0, none⟩)] w fun e w' => ∃ p s' : Nat, e = .returned (.int .i64 p) ∧ lo ≤ p ∧ p < hi ∧ s' ≤ s + 3 ∧ CU w0 blk off d g s' w' := by
  have q := Lib.hid (fun x y s W S hx hy h => uorder_any blk off cap x y g s d0 d w0 W R hs S hx hy hsz h)
  have S0 := Lib.hid S
  clear S R hs
  go_enter Tryz.func110, Tryz.ntmps110
  go_wp2_with fail
  refine (q.out a b s _ S0.out (by omega) (by omega) (by omega)).mono ?_
  rintro e w1 ⟨p1, q1, s1, rfl, h1, hs1, S1⟩
  have S1' := Lib.hid S1
  clear S1 S0
  have hp1 : lo ≤ p1 ∧ p1 < hi := by omega
  have hq1 : lo ≤ q1 ∧ q1 < hi := by omega
  clear h1 ha hb
  go_wp2_with fail
  refine (q.out q1 c s1 _ S1'.out (by omega) (by omega) (by omega)).mono ?_
  rintro e w2 ⟨p2, q2, s2, rfl, h2, hs2, S2⟩
  have S2' := Lib.hid S2
  clear S2 S1'
  have hp2 : lo ≤ p2 ∧ p2 < hi := by omega
  clear h2 hc hq1
  go_wp2_with fail
  refine (q.out p1 p2 s2 _ S2'.out (by omega) (by omega) (by omega)).mono ?_
  rintro e w3 ⟨p3, q3, s3, rfl, h3, hs3, S3⟩
  have S3' := Lib.hid S3
  clear S3 S2'
  have hq3 : lo ≤ q3 ∧ q3 < hi := by omega
  clear h3
  go_wp2
  exact bodyPost_ret (results_tmp rfl _ _ _) rfl ⟨q3, s3, rfl, hq3.1, hq3.2, by omega, S3'.out⟩
set_option maxRecDepth 1000000 in
set_option maxHeartbeats 16000000 in
theorem umedadj_any (blk off cap a g s : Nat) (d0 d : Array Int) (w0 w : World) (R : RU w0 blk off d0) (hs : d.size = d0.size) (S : CU w0 blk off d g s w) (lo hi : Nat) (ha : lo + 1 ≤ a ∧ a + 1 < hi) (hh : hi ≤ d.size) (hsz : d.size ≤ 1000000) (hss : s ≤ 900) :
    Calls Tryz.prog 109 #[.slice (some ⟨blk, off, none⟩) d.size cap, .int .i64 a, .pointer (some ⟨g, 0, none⟩)] w fun e w' => ∃ p s' : Nat, e = .returned (.int .i64 p) ∧ lo ≤ p ∧ p < hi ∧ s' ≤ s + 3 ∧ CU w0 blk off d g s' w' := by
  obtain ⟨p, rfl⟩ : ∃ p, a = p + 1 := ⟨a - 1, by omega⟩
  have q := Lib.hid (umedian_any blk off cap p (p + 1) (p + 2) g s d0 d w0 w R hs S lo hi (by omega) (by omega) (by omega) hh hsz hss)
  have e1 : ((p + 1 : Nat) : Int) - 1 = (p : Int) := by omega
  have e2 : ((p + 1 : Nat) : Int) + 1 = ((p + 2 : Nat) : Int) := by omega
  clear S R hs
  obtain ⟨x, hx⟩ : ∃ x : Int, x = ((p + 1 : Nat) : Int) := ⟨_, rfl⟩
  rw [← hx] at e1 e2 q ⊢
  have hxb : 0 ≤ x ∧ x ≤ 1000000 := by omega
  clear hx
  go_enter Tryz.func109, Tryz.ntmps109
  go_wp2_with fail
  refine q.out.mono ?_
  rintro e w1 ⟨p1, s1, rfl, h1, h2, h3, S1⟩
  go_wp2
  exact bodyPost_ret (results_tmp rfl _ _ _) rfl ⟨p1, s1, rfl, h1, h2, h3, S1⟩
end Go.Proofs.YtpchncpcckfghaaGreat
namespace Go.Proofs.YtpchncpcckfghaaGreat
open Go.RowKit Go.Sort
set_option linter.unusedVariables false
set_option linter.unusedSimpArgs false
set_option maxRecDepth 1000000 in
set_option maxHeartbeats 16000000 in
theorem uchoose_any (blk off cap a b : Nat) (d0 d : Array Int) (w0 w : World) (R : RU w0 blk off d0) (hs : d.size = d0.size) (S : SU w0 blk off d w) (hab : a < b) (hb : b ≤ d.size) (hsz : d.size ≤ 1000000) :
    Calls Tryz.prog 84 #[.slice (some ⟨blk, off, none⟩) d.size cap, .int .i64 a, .int .i64 b] w fun e w' => ∃ p h : Nat, e = .returned (.tuple #[.int .i64 p, .int .i64 h]) ∧ a ≤ p ∧ p < b ∧ SU w0 blk off d w' := by
  have RR := Lib.hid R
  have HS := Lib.hid hs
  obtain ⟨V, hV⟩ : ∃ V, V = w.alloc (.cells #[.int .i64 0] 3) := ⟨_, rfl⟩
  obtain ⟨g, hg⟩ : ∃ g, g = w.heap.size := ⟨_, rfl⟩
  have S0 : Hid (CU w0 blk off d g 0 V) := Lib.hid (by rw [hV, hg]; exact Cnt1.start S _)
  have q3 := Lib.hid (fun x y z s W S hx hy hz h => umedian_any blk off cap x y z g s d0 d w0 W R hs S a b hx hy hz hb hsz h)
  have q1 := Lib.hid (fun x s W S hx h => umedadj_any blk off cap x g s d0 d w0 W R hs S a b hx hb hsz h)
  obtain ⟨L, hL⟩ : ∃ L, L = b - a := ⟨_, rfl⟩
  obtain ⟨q, hq⟩ : ∃ q, q = L / 4 := ⟨_, rfl⟩
  have hLz : (b : Int) - (a : Int) = (L : Int) := by omega
  have hqz : (L : Int).tdiv 4 = (q : Int) := by rw [Int.tdiv_eq_ediv_of_nonneg (by omega)]; omega
  obtain ⟨i, hi⟩ : ∃ i, i = a + q := ⟨_, rfl⟩
  obtain ⟨j, hj⟩ : ∃ j, j = a + q * 2 := ⟨_, rfl⟩
  obtain ⟨k, hk⟩ : ∃ k, k = a + q * 3 := ⟨_, rfl⟩
  have hiz : (a : Int) + (q : Int) = (i : Int) := by omega
  have hjz : (a : Int) + (q : Int) * 2 = (j : Int) := by omega
  have hkz : (a : Int) + (q : Int) * 3 = (k : Int) := by omega
  have hV' := Lib.hid hV
  have hg' := Lib.hid hg
  have hab1 : (a : Int) ≤ 1000000 := by omega
  have hbb1 : (b : Int) ≤ 1000000 := by omega
  have hqb : (q : Int) ≤ 1000000 := by omega
  have B50 : Hid (50 ≤ L → (a + 1 ≤ i ∧ i + 1 < b) ∧ (a + 1 ≤ j ∧ j + 1 < b) ∧ (a + 1 ≤ k ∧ k + 1 < b)) := Lib.hid (fun h => by omega)
  have B8 : Hid (8 ≤ L → (a ≤ i ∧ i < b) ∧ (a ≤ j ∧ j < b) ∧ (a ≤ k ∧ k < b)) := Lib.hid (fun h => by omega)
  have B0 : Hid (a ≤ j ∧ j < b) := Lib.hid (by omega)
  have hb' := Lib.hid hb
  have hab' := Lib.hid hab
  clear S R hs hV hg hL hq hi hj hk
  go_enter Tryz.func84, Tryz.ntmps84
  go_upto_region 3 with (fail)
  rw [← hV'.out, ← hg'.out]
  clear hV' hg'
  by_cases h8 : 8 ≤ L
  · have h8z : (8 : Int) ≤ (L : Int) := by omega
    by_cases h50 : 50 ≤ L
    · have h50z : (50 : Int) ≤ (L : Int) := by omega
      go_wp2_with fail
      refine (q1.out i 0 _ S0.out (B50.out h50).1 (by omega)).mono ?_
      rintro e w1 ⟨p1, s1, rfl, h1, h2, h3, S1⟩
      have S1' := Lib.hid S1
      clear S1 S0
      go_wp2_with fail
      refine (q1.out j s1 _ S1'.out (B50.out h50).2.1 (by omega)).mono ?_
      rintro e w2 ⟨p2, s2, rfl, h4, h5, h6, S2⟩
      have S2' := Lib.hid S2
      clear S2 S1'
      go_wp2_with fail
      refine (q1.out k s2 _ S2'.out (B50.out h50).2.2 (by omega)).mono ?_
      rintro e w3 ⟨p3, s3, rfl, h7, h9, h10, S3⟩
      have S3' := Lib.hid S3
      clear S3 S2'
      go_wp2_with fail
      refine (q3.out p1 p2 p3 s3 _ S3'.out ⟨h1, h2⟩ ⟨h4, h5⟩ ⟨h7, h9⟩ (by omega)).mono ?_
      rintro e w4 ⟨p4, s4, rfl, h11, h12', h13, S4⟩
      have S4' := Lib.hid S4
      clear S4 S3'
      obtain ⟨hc, hf⟩ := S4'.out.box
      have SF := Lib.hid S4'.out.1
      by_cases h0 : s4 = 0
      · have h0b : ((s4 : Int) == 0) = true := by simp; omega
        clear S4'
        go_wp2
        exact bodyPost_ret (results_tmp2 rfl _ _ _) rfl ⟨p4, 1, rfl, h11, h12', SF.out⟩
      · have h0b : ((s4 : Int) == 0) = false := by simp; omega
        by_cases h12 : s4 = 12
        · have h12b : ((s4 : Int) == 12) = true := by simp; omega
          clear S4'
          go_wp2
          exact bodyPost_ret (results_tmp2 rfl _ _ _) rfl ⟨p4, 2, rfl, h11, h12', SF.out⟩
        · have h12b : ((s4 : Int) == 12) = false := by simp; omega
          clear S4'
          go_wp2
          exact bodyPost_ret (results_tmp2 rfl _ _ _) rfl ⟨p4, 0, rfl, h11, h12', SF.out⟩
    · have h50z : ¬ (50 : Int) ≤ (L : Int) := by omega
      go_wp2_with fail
      refine (q3.out i j k 0 _ S0.out (B8.out h8).1 (B8.out h8).2.1 (B8.out h8).2.2 (by omega)).mono ?_
      rintro e w4 ⟨p4, s4, rfl, h11, h12', h13, S4⟩
      have S4' := Lib.hid S4
      clear S4 S0
      obtain ⟨hc, hf⟩ := S4'.out.box
      have SF := Lib.hid S4'.out.1
      by_cases h0 : s4 = 0
      · have h0b : ((s4 : Int) == 0) = true := by simp; omega
        clear S4'
        go_wp2
        exact bodyPost_ret (results_tmp2 rfl _ _ _) rfl ⟨p4, 1, rfl, h11, h12', SF.out⟩
      · have h0b : ((s4 : Int) == 0) = false := by simp; omega
        by_cases h12 : s4 = 12
        · have h12b : ((s4 : Int) == 12) = true := by simp; omega
          clear S4'
          go_wp2
          exact bodyPost_ret (results_tmp2 rfl _ _ _) rfl ⟨p4, 2, rfl, h11, h12', SF.out⟩
        · have h12b : ((s4 : Int) == 12) = false := by simp; omega
          clear S4'
          go_wp2
          exact bodyPost_ret (results_tmp2 rfl _ _ _) rfl ⟨p4, 0, rfl, h11, h12', SF.out⟩
  · have h8z : ¬ (8 : Int) ≤ (L : Int) := by omega
    obtain ⟨hc, hf⟩ := S0.out.box
    have SF := Lib.hid S0.out.1
    have hc' : V.cell? ⟨g, 0, none⟩ = some (.int .i64 0) := hc
    clear S0 hc
    go_wp2
    refine bodyPost_ret (results_tmp2 rfl _ _ _) rfl ?_
    exact ⟨j, ⟨1, rfl⟩, B0.out.1, B0.out.2, SF.out⟩
end Go.Proofs.YtpchncpcckfghaaGreat
namespace Go.Proofs.YtpchncpcckfghaaGreat
open Go.RowKit Go.Sort
set_option linter.unusedVariables false
set_option linter.unusedSimpArgs false
set_option maxRecDepth 1000000 in
set_option maxHeartbeats 32000000 in
theorem unext_any (g X : Nat) (hX : X < 18446744073709551616) (w : World) (hc : w.cell? ⟨g, 0, none⟩ = some (.int .u64 X)) (hf : w.frozen? ⟨g, 0, none⟩ = false) :
    Calls Tryz.prog 108 #[.pointer (some ⟨g, 0, none⟩)] w fun e w' => ∃ Y : Nat, e = .returned (.int .u64 Y) ∧ Y < 18446744073709551616 ∧ w' = (w.setCell ⟨g, 0, none⟩ (.int .u64 Y)).drewN 3 := by
  obtain ⟨A, hA⟩ : ∃ A : Nat, A = X ^^^ (X * 8192 % 18446744073709551616) := ⟨_, rfl⟩
  obtain ⟨B, hB⟩ : ∃ B : Nat, B = A ^^^ (A / 128) := ⟨_, rfl⟩
  obtain ⟨C, hC⟩ : ∃ C : Nat, C = B ^^^ (B * 131072 % 18446744073709551616) := ⟨_, rfl⟩
  have lA : A < 18446744073709551616 := by rw [hA]; exact Nat.xor_lt_two_pow (n := 64) (by omega) (by omega)
  have lB : B < 18446744073709551616 := by rw [hB]; exact Nat.xor_lt_two_pow (n := 64) (by omega) (by omega)
  have lC : C < 18446744073709551616 := by rw [hC]; exact Nat.xor_lt_two_pow (n := 64) (by omega) (by omega)
  have e1 : bits .xor .u64 (X : Int) (IntKind.u64.wrap ((X : Int) * 8192)) = (A : Int) := by
    rw [IntKind.wrap_u64, show ((X : Int) * 8192 % 18446744073709551616) = ((X * 8192 % 18446744073709551616 : Nat) : Int) by omega, bits_xor_u64_nat _ _ hX (by omega), hA]
  have e2 : bits .xor .u64 (A : Int) ((A : Int) / 128) = (B : Int) := by
    rw [show ((A : Int) / 128) = ((A / 128 : Nat) : Int) by omega, bits_xor_u64_nat _ _ lA (by omega), hB]
  have e3 : bits .xor .u64 (B : Int) (IntKind.u64.wrap ((B : Int) * 131072)) = (C : Int) := by
    rw [IntKind.wrap_u64, show ((B : Int) * 131072 % 18446744073709551616) = ((B * 131072 % 18446744073709551616 : Nat) : Int) by omega, bits_xor_u64_nat _ _ lB (by omega), hC]
  clear hA hB hC
  have hss : ∀ v v', (w.setCell ⟨g, 0, none⟩ v).setCell ⟨g, 0, none⟩ v' = w.setCell ⟨g, 0, none⟩ v' := setCell_setCell w g 0
  go_enter Tryz.func108, Tryz.ntmps108
  go_wp2
  go_region
  all_goals go_wp2
  all_goals go_region
  all_goals go_wp2
  all_goals go_region
  all_goals go_wp2
  go_ret
  exact ⟨C, rfl, lC, rfl⟩
set_option maxRecDepth 1000000 in
set_option maxHeartbeats 4000000 in
theorem unpow_any (n : Nat) (hn : n ≤ 1000000) (w : World) :
    Calls Tryz.prog 107 #[.int .i64 n] w fun e w' => ∃ m : Nat, e = .returned (.int .u64 m) ∧ n < m ∧ (0 < n → m ≤ 2 * n) ∧ w' = w := by
  have hb : ∀ W, Calls Tryz.prog 63 #[.int .u64 (n : Int)] W fun e w' => e = .returned (.int .i64 (bitsLen n : Nat)) ∧ w' = W := fun W => by
    have h := Tryz.bits_Len (n : Int) W (by omega) (by omega)
    rwa [Int.toNat_natCast, bitLen_eq _ (by omega)] at h
  have hnz : (n : Int) ≤ 1000000 := by omega
  have hk : bitsLen n ≤ 62 := (bitsLen_le_iff n 62).2 (by omega)
  have hp := wrap_two_pow (bitsLen n) hk
  have hlt := lt_two_pow_bitsLen n
  have hle : 0 < n → 1 <<< bitsLen n ≤ 2 * n := fun h0 => by
    rw [Nat.shiftLeft_eq, Nat.one_mul]
    have h1 : ¬ n < 2 ^ (bitsLen n - 1) := fun h => by
      have := (bitsLen_le_iff n (bitsLen n - 1)).2 h
      have h2 : 0 < bitsLen n := by
        apply Nat.pos_of_ne_zero
        intro hz
        rw [hz] at hlt
        omega
      omega
    have h2 : 0 < bitsLen n := by
      apply Nat.pos_of_ne_zero
      intro hz
      rw [hz] at hlt
      omega
    have h3 : 2 ^ bitsLen n = 2 * 2 ^ (bitsLen n - 1) := by
      rw [show bitsLen n = bitsLen n - 1 + 1 by omega, Nat.pow_succ]
      simp
      omega
    omega
  rw [← Nat.one_mul (2 ^ bitsLen n), ← Nat.shiftLeft_eq] at hlt
  go_enter Tryz.func107, Tryz.ntmps107
  go_wp2_with (first | (refine (hb _).mono ?_; rintro e w' ⟨rfl, rfl⟩))
  go_ret
  exact ⟨_, rfl, hlt, hle, rfl⟩
end Go.Proofs.YtpchncpcckfghaaGreat
namespace Go.Proofs.YtpchncpcckfghaaGreat
open Go.RowKit Go.Sort
set_option linter.unusedVariables false
set_option linter.unusedSimpArgs false
def BU (w0 : World) (blk off : Nat) (dk : Array Int) (g R : Nat) (W : World) : Prop := SU w0 blk off dk W ∧ W.cell? ⟨g, 0, none⟩ = some (.int .u64 R) ∧ W.frozen? ⟨g, 0, none⟩ = false ∧ w0.heap.size ≤ g ∧ g < W.heap.size
theorem BU.start {w0 W : World} {blk off : Nat} {dk : Array Int} (h : SU w0 blk off dk W) (T : TypeId) (R : Nat) : BU w0 blk off dk W.heap.size R (W.alloc (.cells #[.int .u64 R] T)) := ⟨h.alloc _, by simp, by simp, h.le, by simp⟩
theorem BU.drewN {w0 W : World} {blk off g R : Nat} {dk : Array Int} (h : BU w0 blk off dk g R W) (n : Nat) : BU w0 blk off dk g R (W.drewN n) := ⟨h.1.drewN n, h.2.1, h.2.2.1, h.2.2.2.1, h.2.2.2.2⟩
theorem BU.put {w0 W : World} {blk off g R : Nat} {dk : Array Int} (h : BU w0 blk off dk g R W) (Y : Nat) : BU w0 blk off dk g Y (W.setCell ⟨g, 0, none⟩ (.int .u64 Y)) :=
  ⟨h.1.setCell_new g 0 _ h.2.2.2.1, World.cell?_setCell_same' _ _ _ (by rw [h.2.1]; rfl), by rw [World.frozen?_setCell]; exact h.2.2.1, h.2.2.2.1, by simpa using h.2.2.2.2⟩
theorem BU.swp {w0 W : World} {blk off g R : Nat} {d0 dk : Array Int} (h : BU w0 blk off dk g R W) (RR : RU w0 blk off d0) (q : Nat) {G : Nat → Int} (hG : ∀ t, G t = dk[t]!) {i j : Nat} (hi : i < dk.size) (hj : j < dk.size) :
    BU w0 blk off (swp dk i j) g R (((W.drewN q).setCell ⟨blk, off + i, none⟩ (.int .u64 (G j))).setCell ⟨blk, off + j, none⟩ (.int .u64 (G i))) := by
  have hne : g ≠ blk := by have := h.2.2.2.1; have := RR.hblk; omega
  have hn := box_kept_swap1 (W := W.drewN q) (blk := blk) hne h.2.1 h.2.2.1 (off + i) (off + j) (.int .u64 (G j)) (.int .u64 (G i))
  exact ⟨h.1.swp RR q hG hi hj, hn.1, hn.2, h.2.2.2.1, by simpa using h.2.2.2.2⟩
theorem BU.cells {w0 W : World} {blk off g R : Nat} {d0 dk : Array Int} (h : BU w0 blk off dk g R W) (RR : RU w0 blk off d0) (hs : dk.size = d0.size) (G : Nat → Int) (hG : ∀ t, G t = dk[t]!) {n : Nat} (hn : dk.size = n) :
    (∀ t, t < n → W.cell? ⟨blk, off + t, none⟩ = some (.int .u64 (G t))) ∧ ∀ t, t < n → W.frozen? ⟨blk, off + t, none⟩ = false := h.1.cells RR hs G hG hn
set_option maxRecDepth 1000000 in
set_option maxHeartbeats 1600000 in
theorem ubreak_any (blk off cap a L : Nat) (d0 d : Array Int) (w0 w : World) (R : RU w0 blk off d0) (hs : d.size = d0.size) (S : SU w0 blk off d w) (hb : a + L ≤ d.size) (hsz : d.size ≤ 1000000) (h8 : 8 ≤ L) :
    Calls Tryz.prog 83 #[.slice (some ⟨blk, off, none⟩) d.size cap, .int .i64 a, .int .i64 ((a + L : Nat) : Int)] w fun e w' => e = .returned (.tuple #[]) ∧ ∃ d', PermIn a (a + L) d d' ∧ SU w0 blk off d' w' := by
  have S0 := Lib.hid S
  have RR := Lib.hid R
  have HS := Lib.hid hs
  have HB := Lib.hid (fun T => BU.start S T L)
  have hP := unpow_any L (by omega)
  clear S R hs
  go_enter Tryz.func83, Tryz.ntmps83
  go_wp2_with (first | (go_at_call 107; rw [show ((a : Int) + (L : Int) - (a : Int)) = (L : Int) by omega]; refine (hP _).mono ?_; rintro e w' ⟨M, rfl, hM1, hM2, rfl⟩))
  have hMz : (M : Int) ≤ 2000000 := by omega
  have hM1z : (L : Int) < (M : Int) := by omega
  have hM2' : M ≤ 2 * L := hM2 (by omega)
  have hA : ∀ Y : Nat, Y < 18446744073709551616 → ∃ O : Nat, O ≤ M - 1 ∧ bits .and .u64 (Y : Int) ((M : Int) - 1) = (O : Int) := fun Y hY => ⟨Y &&& (M - 1), Nat.and_le_right, by rw [show ((M : Int) - 1) = ((M - 1 : Nat) : Int) by omega, bits_and_u64_nat _ _ hY (by omega)]⟩
  generalize w.heap.size = g at HB ⊢
  go_loopw [9] (fun vi wr => ∃ (t r : Nat) (dk : Array Int), vi = .int .i64 ((a + L / 4 * 2 - 1 + t : Nat) : Int) ∧ t ≤ 3 ∧ r < 18446744073709551616 ∧ Hid (PermIn a (a + L) d dk) ∧ Hid (BU w0 blk off dk g r wr)) (fun vi _ => a + L / 4 * 2 + 3 - (intOf vi).toNat)
  case atStart => exact ⟨0, L, d, by congr 1; omega, by omega, by omega, Lib.hid (permIn_refl _ _ _), Lib.hid (HB.out _)⟩
  case round =>
    clear HB S0
    obtain ⟨t, r, dk, rfl, ht, hr, HP, HK⟩ := hrel
    have hsk : dk.size = d.size := HP.out.1
    obtain ⟨G, hG⟩ : ∃ G : Nat → Int, ∀ x, G x = dk[x]! := ⟨fun x => dk[x]!, fun _ => rfl⟩
    have HG := Lib.hid hG
    have hN := unext_any g r hr wr HK.out.2.1 HK.out.2.2.1
    clear hG
    go_wp2_with (first | (go_at_call 108; refine hN.mono ?_; rintro e W2 ⟨Y, rfl, hY, hW2⟩; obtain ⟨O, hO, eAnd⟩ := hA Y hY; have HK2 : Hid (BU w0 blk off dk g Y W2) := Lib.hid (by rw [hW2]; exact (HK.out.put Y).drewN 3); obtain ⟨hcw, hfw⟩ := HK2.out.cells RR.out (by have := HS.out; omega) G HG.out hsk; clear hW2 hN))
    · have hLO : L ≤ O := by omega
      by_cases hEq : a + L / 4 * 2 - 1 + t = a + (O - L)
      all_goals
        go_region
        all_goals go_wp2
        go_roundw
        case rel => exact ⟨t + 1, Y, swp dk (a + L / 4 * 2 - 1 + t) (a + (O - L)), by first | rfl | (congr 1 <;> omega), by omega, hY, Lib.hid (permIn_trans _ _ _ _ _ HP.out (swp_permIn dk a (a + L) _ _ (by omega) (by omega) (by omega) (by omega) (by omega))), Lib.hid (by (try rw [hEq]); exact HK2.out.swp RR.out _ HG.out (by omega) (by omega))⟩
        case measure => simp [intOf]; omega
    · have hLO : ¬ L ≤ O := by omega
      by_cases hEq : a + L / 4 * 2 - 1 + t = a + O
      all_goals
        go_region
        all_goals go_wp2
        go_roundw
        case rel => exact ⟨t + 1, Y, swp dk (a + L / 4 * 2 - 1 + t) (a + O), by first | rfl | (congr 1 <;> omega), by omega, hY, Lib.hid (permIn_trans _ _ _ _ _ HP.out (swp_permIn dk a (a + L) _ _ (by omega) (by omega) (by omega) (by omega) (by omega))), Lib.hid (by (try rw [hEq]); exact HK2.out.swp RR.out _ HG.out (by omega) (by omega))⟩
        case measure => simp [intOf]; omega
    · obtain rfl : t = 3 := by omega
      go_end0
      exact ⟨rfl, dk, HP.out, HK.out.1⟩
end Go.Proofs.YtpchncpcckfghaaGreat
namespace Go.Proofs.YtpchncpcckfghaaGreat
open Go.RowKit Go.Sort
set_option linter.unusedVariables false
set_option linter.unusedSimpArgs false
set_option maxRecDepth 1000000 in
set_option maxHeartbeats 16000000 in
theorem upart_any (blk off cap a b pv : Nat) (d0 d : Array Int) (w0 w : World) (R : RU w0 blk off d0) (hs : d.size = d0.size) (S : SU w0 blk off d w) (hap : a ≤ pv) (hpb : pv < b) (hb : b ≤ d.size) (hsz : d.size ≤ 1000000) :
    Calls Tryz.prog 88 #[.slice (some ⟨blk, off, none⟩) d.size cap, .int .i64 a, .int .i64 b, .int .i64 pv] w fun e w' => ∃ (m : Nat) (c : Bool) (dk : Array Int), Sort.partition ltInt d a b pv = (m, c, dk) ∧ e = .returned (.tuple #[.int .i64 m, .bool c]) ∧ SU w0 blk off dk w' := by
  have S0 := Lib.hid S
  have RR := Lib.hid R
  have HS := Lib.hid hs
  obtain ⟨G, hG⟩ : ∃ G : Nat → Int, ∀ t, G t = d[t]! := ⟨fun t => d[t]!, fun _ => rfl⟩
  obtain ⟨hcw, hfw⟩ := S.cells R hs G hG rfl
  obtain ⟨u0, hu0⟩ := S.c2 R hs a pv (by omega) (by omega) (.int .u64 (G pv))
  have HG := Lib.hid hG
  clear S R hs hG
  go_enter Tryz.func88, Tryz.ntmps88
  go_wp2
  go_region
  all_goals go_wp2
  have S1 := Lib.hid (S0.out.swp RR.out 1 HG.out (i := a) (j := pv) (by omega) (by omega))
  clear hcw hfw hu0 S0 HG
  obtain ⟨dk, hdk⟩ : ∃ dk, dk = swp d a pv := ⟨_, rfl⟩
  have hsk : dk.size = d.size := by rw [hdk, size_swp]
  rw [← hdk] at S1
  have HDK := Lib.hid hdk
  rw [show ((a : Int) + 1) = ((a + 1 : Nat) : Int) by omega, show ((b : Int) - 1) = ((b - 1 : Nat) : Int) by omega]
  obtain ⟨i, hi⟩ : ∃ i, i = a + 1 := ⟨_, rfl⟩
  obtain ⟨j, hj⟩ : ∃ j, j = b - 1 := ⟨_, rfl⟩
  rw [← hi, ← hj]
  have hai : a < i := by omega
  have hij : i ≤ j + 1 := by omega
  have hjb : j < b := by omega
  have HI1 := Lib.hid hi
  have HJ1 := Lib.hid hj
  have SK := S1
  clear hi hj hdk S1
  obtain ⟨G, hG⟩ : ∃ G : Nat → Int, ∀ t, G t = dk[t]! := ⟨fun t => dk[t]!, fun _ => rfl⟩
  have HG := Lib.hid hG
  clear hG
  go_loopw [10] (fun vi wr2 => ∃ (i2 : Nat), vi = .int .i64 i2 ∧ i ≤ i2 ∧ i2 ≤ j + 1 ∧ Hid (SU w0 blk off dk wr2) ∧ Hid (scanUp (fun x => ltInt x dk[a]!) dk j i2 = scanUp (fun x => ltInt x dk[a]!) dk j i)) (fun vi _ => j + 1 - (intOf vi).toNat)
  case atStart => exact ⟨i, rfl, Nat.le_refl _, hij, SK, Lib.hid rfl⟩
  case round =>
    clear SK
    obtain ⟨i2, rfl, hii, hi2j, SI, HI⟩ := hrel
    obtain ⟨hcw, hfw⟩ := SI.out.cells RR.out (by have := HS.out; omega) G HG.out hsk
    by_cases hle : i2 ≤ j
    · go_wp2
      go_quiet (first | (go_at_call 60; exact quiet_mine (uless_any _ _ _)))
      go_wp2
      · have ht : G i2 < G a := by assumption
        go_roundw
        case rel => exact ⟨i2 + 1, by go_num, by omega, by omega, Lib.hid (SI.out.drewN nq), Lib.hid ((scanUp_go (fun x => ltInt x dk[a]!) dk j i2 hle (by simp only [← HG.out, ltInt]; first | exact ht | (simp; omega))).symm.trans HI.out)⟩
        case measure => simp [intOf]; omega
      · have ht : G a ≤ G i2 := by assumption
        have HI2 : Hid (i2 = scanUp (fun x => ltInt x dk[a]!) dk j i) := Lib.hid ((scanUp_end (fun x => ltInt x dk[a]!) dk j i2 (Or.inr (by simp only [← HG.out, ltInt]; first | exact ht | (simp; omega)))).symm.trans HI.out)
        have SK2 := Lib.hid (SI.out.drewN nq)
        clear hcw hfw SI HI ht
        go_loopw [11] (fun vj wr3 => ∃ (j2 : Nat), vj = .int .i64 j2 ∧ j2 ≤ j ∧ i2 ≤ j2 + 1 ∧ Hid (SU w0 blk off dk wr3) ∧ Hid (scanDown (fun x => !ltInt x dk[a]!) dk i2 j2 = scanDown (fun x => !ltInt x dk[a]!) dk i2 j)) (fun vj _ => (intOf vj).toNat)
        case atStart => exact ⟨j, rfl, Nat.le_refl _, hi2j, SK2, Lib.hid rfl⟩
        case round =>
          clear SK2
          obtain ⟨j2, rfl, hjj, hij2, SI, HJ⟩ := hrel
          obtain ⟨hcw, hfw⟩ := SI.out.cells RR.out (by have := HS.out; omega) G HG.out hsk
          by_cases hle2 : i2 ≤ j2
          · go_wp2
            go_quiet (first | (go_at_call 60; exact quiet_mine (uless_any _ _ _)))
            go_wp2
            · have ht : (!decide (G j2 < G a)) = true := by assumption
              go_roundw
              case rel => exact ⟨j2 - 1, by go_num, by omega, by omega, Lib.hid (SI.out.drewN nq), Lib.hid ((scanDown_go (fun x => !ltInt x dk[a]!) dk i2 j2 hle2 (by omega) (by simp only [← HG.out, ltInt]; first | exact ht | (simp; omega))).symm.trans HJ.out)⟩
              case measure => simp [intOf]; omega
            · have ht : (!decide (G j2 < G a)) = false := by assumption
              have HJ2 : Hid (j2 = scanDown (fun x => !ltInt x dk[a]!) dk i2 j) := Lib.hid ((scanDown_end (fun x => !ltInt x dk[a]!) dk i2 j2 (Or.inr (by simp only [← HG.out, ltInt]; first | exact ht | (simp; omega)))).symm.trans HJ.out)
              clear HJ ht
              have SK3 : Hid (SU w0 blk off dk (wr.drewN nq)) := Lib.hid (SI.out.drewN nq)
              clear hcw hfw SI
              generalize wr.drewN nq = W3 at SK3 ⊢
              obtain ⟨hcw, hfw⟩ := SK3.out.cells RR.out (by have := HS.out; omega) G HG.out hsk
              have hlt3 := part_scans_lt ltInt a i j dk (by omega) HI2.out HJ2.out hle2
              obtain ⟨R0, hR⟩ : ∃ R0, R0 = partLoop ltInt a (i2 + 1) (j2 - 1) (swp dk i2 j2) := ⟨_, rfl⟩
              have HP : Hid (Sort.partition ltInt d a b pv = (R0.1, false, swp R0.2 R0.1 a)) := Lib.hid (by rw [hR]; exact part_first_go ltInt d a b pv HI1.out HJ1.out HDK.out HI2.out HJ2.out (by omega))
              have HR := Lib.hid hR
              clear hR
              go_wp2
              go_region
              all_goals go_wp2
              have S4 := Lib.hid (SK3.out.swp RR.out 1 HG.out (i := i2) (j := j2) (by omega) (by omega))
              clear hcw hfw SK3
              go_loopw [10, 11] (fun vi vj wr => ∃ (i j : Nat) (dk : Array Int), vi = .int .i64 i ∧ vj = .int .i64 j ∧ a < i ∧ i ≤ j + 1 ∧ j < b ∧ dk.size = d.size ∧ Hid (SU w0 blk off dk wr) ∧ Hid (partLoop ltInt a i j dk = R0)) (fun vi vj _ => (intOf vj).toNat + 1 - (intOf vi).toNat)
              case atStart => exact ⟨i2 + 1, j2 - 1, swp dk i2 j2, by go_num, by go_num, by omega, by omega, by omega, by rw [size_swp]; exact hsk, S4, Lib.hid HR.out.symm⟩
              case round =>
                clear S4 HG HR HI2 HJ2 HI1 HJ1 HDK hlt3 hle hle2 hij2 hi2j hii hjj hai hij hjb hsk
                obtain ⟨i, j, dk, rfl, rfl, hai, hij, hjb, hsk, SK, HE⟩ := hrel
                obtain ⟨G, hG⟩ : ∃ G : Nat → Int, ∀ t, G t = dk[t]! := ⟨fun t => dk[t]!, fun _ => rfl⟩
                have HG := Lib.hid hG
                clear hG
                go_wp2
                go_loopw [10] (fun vi wr2 => ∃ (i2 : Nat), vi = .int .i64 i2 ∧ i ≤ i2 ∧ i2 ≤ j + 1 ∧ Hid (SU w0 blk off dk wr2) ∧ Hid (scanUp (fun x => ltInt x dk[a]!) dk j i2 = scanUp (fun x => ltInt x dk[a]!) dk j i)) (fun vi _ => j + 1 - (intOf vi).toNat)
                case atStart => exact ⟨i, rfl, Nat.le_refl _, hij, SK, Lib.hid rfl⟩
                case round =>
                  clear SK
                  obtain ⟨i2, rfl, hii, hi2j, SI, HI⟩ := hrel
                  obtain ⟨hcw, hfw⟩ := SI.out.cells RR.out (by have := HS.out; omega) G HG.out hsk
                  by_cases hle : i2 ≤ j
                  · go_wp2
                    go_quiet (first | (go_at_call 60; exact quiet_mine (uless_any _ _ _)))
                    go_wp2
                    · have ht : G i2 < G a := by assumption
                      go_roundw
                      case rel => exact ⟨i2 + 1, by go_num, by omega, by omega, Lib.hid (SI.out.drewN nq), Lib.hid ((scanUp_go (fun x => ltInt x dk[a]!) dk j i2 hle (by simp only [← HG.out, ltInt]; first | exact ht | (simp; omega))).symm.trans HI.out)⟩
                      case measure => simp [intOf]; omega
                    · have ht : G a ≤ G i2 := by assumption
                      have HI2 : Hid (i2 = scanUp (fun x => ltInt x dk[a]!) dk j i) := Lib.hid ((scanUp_end (fun x => ltInt x dk[a]!) dk j i2 (Or.inr (by simp only [← HG.out, ltInt]; first | exact ht | (simp; omega)))).symm.trans HI.out)
                      have SK2 := Lib.hid (SI.out.drewN nq)
                      clear hcw hfw SI HI ht
                      go_loopw [11] (fun vj wr3 => ∃ (j2 : Nat), vj = .int .i64 j2 ∧ j2 ≤ j ∧ i2 ≤ j2 + 1 ∧ Hid (SU w0 blk off dk wr3) ∧ Hid (scanDown (fun x => !ltInt x dk[a]!) dk i2 j2 = scanDown (fun x => !ltInt x dk[a]!) dk i2 j)) (fun vj _ => (intOf vj).toNat)
                      case atStart => exact ⟨j, rfl, Nat.le_refl _, hi2j, SK2, Lib.hid rfl⟩
                      case round =>
                        clear SK2
                        obtain ⟨j2, rfl, hjj, hij2, SI, HJ⟩ := hrel
                        obtain ⟨hcw, hfw⟩ := SI.out.cells RR.out (by have := HS.out; omega) G HG.out hsk
                        by_cases hle2 : i2 ≤ j2
                        · go_wp2
                          go_quiet (first | (go_at_call 60; exact quiet_mine (uless_any _ _ _)))
                          go_wp2
                          · have ht : (!decide (G j2 < G a)) = true := by assumption
                            go_roundw
                            case rel => exact ⟨j2 - 1, by go_num, by omega, by omega, Lib.hid (SI.out.drewN nq), Lib.hid ((scanDown_go (fun x => !ltInt x dk[a]!) dk i2 j2 hle2 (by omega) (by simp only [← HG.out, ltInt]; first | exact ht | (simp; omega))).symm.trans HJ.out)⟩
                            case measure => simp [intOf]; omega
                          · have ht : (!decide (G j2 < G a)) = false := by assumption
                            have HJ2 : Hid (j2 = scanDown (fun x => !ltInt x dk[a]!) dk i2 j) := Lib.hid ((scanDown_end (fun x => !ltInt x dk[a]!) dk i2 j2 (Or.inr (by simp only [← HG.out, ltInt]; first | exact ht | (simp; omega)))).symm.trans HJ.out)
                            clear HJ ht
                            have SK3 : Hid (SU w0 blk off dk (wr.drewN nq)) := Lib.hid (SI.out.drewN nq)
                            clear hcw hfw SI
                            generalize wr.drewN nq = W3 at SK3 ⊢
                            obtain ⟨hcw, hfw⟩ := SK3.out.cells RR.out (by have := HS.out; omega) G HG.out hsk
                            have hlt3 := part_scans_lt ltInt a i j dk (by omega) HI2.out HJ2.out hle2
                            go_wp2
                            go_region
                            all_goals go_wp2
                            go_roundw
                            case rel => exact ⟨i2 + 1, j2 - 1, swp dk i2 j2, by go_num, by go_num, by omega, by omega, by omega, by rw [size_swp]; exact hsk, Lib.hid (SK3.out.swp RR.out _ HG.out (by omega) (by omega)), Lib.hid ((part_go ltInt a i j dk HI2.out HJ2.out (by omega)).symm.trans HE.out)⟩
                            case measure => simp [intOf]; omega
                        · go_wp2
                          go_quiet (fail)
                          go_wp2
                          have HJ2 : Hid (j2 = scanDown (fun x => !ltInt x dk[a]!) dk i2 j) := Lib.hid ((scanDown_end (fun x => !ltInt x dk[a]!) dk i2 j2 (Or.inl hle2)).symm.trans HJ.out)
                          clear HJ
                          have SK3 : Hid (SU w0 blk off dk (wr.drewN nq)) := Lib.hid (SI.out.drewN nq)
                          clear hcw hfw SI
                          generalize wr.drewN nq = W3 at SK3 ⊢
                          obtain ⟨hcw, hfw⟩ := SK3.out.cells RR.out (by have := HS.out; omega) G HG.out hsk
                          obtain ⟨u1, hu1⟩ := SK3.out.c2 RR.out (by have := HS.out; omega) j2 a (by omega) (by omega) (.int .u64 (G a))
                          go_wp2
                          go_region
                          all_goals go_wp2
                          exact bodyPost_ret (results_tmp2 rfl _ _ _) rfl ⟨j2, false, swp dk j2 a, by rw [HP.out, ← HE.out, part_break ltInt a i j dk HI2.out HJ2.out (by omega)], rfl, SK3.out.swp RR.out _ HG.out (by omega) (by omega)⟩
                  · go_wp2
                    go_quiet (fail)
                    go_wp2
                    have HI2 : Hid (i2 = scanUp (fun x => ltInt x dk[a]!) dk j i) := Lib.hid ((scanUp_end (fun x => ltInt x dk[a]!) dk j i2 (Or.inl hle)).symm.trans HI.out)
                    have SK2 := Lib.hid (SI.out.drewN nq)
                    clear hcw hfw SI HI
                    go_loopw [11] (fun vj wr3 => ∃ (j2 : Nat), vj = .int .i64 j2 ∧ j2 ≤ j ∧ i2 ≤ j2 + 1 ∧ Hid (SU w0 blk off dk wr3) ∧ Hid (scanDown (fun x => !ltInt x dk[a]!) dk i2 j2 = scanDown (fun x => !ltInt x dk[a]!) dk i2 j)) (fun vj _ => (intOf vj).toNat)
                    case atStart => exact ⟨j, rfl, Nat.le_refl _, hi2j, SK2, Lib.hid rfl⟩
                    case round =>
                      clear SK2
                      obtain ⟨j2, rfl, hjj, hij2, SI, HJ⟩ := hrel
                      obtain ⟨hcw, hfw⟩ := SI.out.cells RR.out (by have := HS.out; omega) G HG.out hsk
                      by_cases hle2 : i2 ≤ j2
                      · exfalso; omega
                      · go_wp2
                        go_quiet (fail)
                        go_wp2
                        have HJ2 : Hid (j2 = scanDown (fun x => !ltInt x dk[a]!) dk i2 j) := Lib.hid ((scanDown_end (fun x => !ltInt x dk[a]!) dk i2 j2 (Or.inl hle2)).symm.trans HJ.out)
                        clear HJ
                        have SK3 : Hid (SU w0 blk off dk (wr.drewN nq)) := Lib.hid (SI.out.drewN nq)
                        clear hcw hfw SI
                        generalize wr.drewN nq = W3 at SK3 ⊢
                        obtain ⟨hcw, hfw⟩ := SK3.out.cells RR.out (by have := HS.out; omega) G HG.out hsk
                        obtain ⟨u1, hu1⟩ := SK3.out.c2 RR.out (by have := HS.out; omega) j2 a (by omega) (by omega) (.int .u64 (G a))
                        go_wp2
                        go_region
                        all_goals go_wp2
                        exact bodyPost_ret (results_tmp2 rfl _ _ _) rfl ⟨j2, false, swp dk j2 a, by rw [HP.out, ← HE.out, part_break ltInt a i j dk HI2.out HJ2.out (by omega)], rfl, SK3.out.swp RR.out _ HG.out (by omega) (by omega)⟩
          · go_wp2
            go_quiet (fail)
            go_wp2
            have HJ2 : Hid (j2 = scanDown (fun x => !ltInt x dk[a]!) dk i2 j) := Lib.hid ((scanDown_end (fun x => !ltInt x dk[a]!) dk i2 j2 (Or.inl hle2)).symm.trans HJ.out)
            clear HJ
            have SK3 : Hid (SU w0 blk off dk (wr.drewN nq)) := Lib.hid (SI.out.drewN nq)
            clear hcw hfw SI
            generalize wr.drewN nq = W3 at SK3 ⊢
            obtain ⟨hcw, hfw⟩ := SK3.out.cells RR.out (by have := HS.out; omega) G HG.out hsk
            obtain ⟨u1, hu1⟩ := SK3.out.c2 RR.out (by have := HS.out; omega) j2 a (by omega) (by omega) (.int .u64 (G a))
            go_wp2
            go_region
            all_goals go_wp2
            exact bodyPost_ret (results_tmp2 rfl _ _ _) rfl ⟨j2, true, swp dk j2 a, part_first_break ltInt d a b pv HI1.out HJ1.out HDK.out HI2.out HJ2.out (by omega), rfl, SK3.out.swp RR.out _ HG.out (by omega) (by omega)⟩
    · go_wp2
      go_quiet (fail)
      go_wp2
      have HI2 : Hid (i2 = scanUp (fun x => ltInt x dk[a]!) dk j i) := Lib.hid ((scanUp_end (fun x => ltInt x dk[a]!) dk j i2 (Or.inl hle)).symm.trans HI.out)
      have SK2 := Lib.hid (SI.out.drewN nq)
      clear hcw hfw SI HI
      go_loopw [11] (fun vj wr3 => ∃ (j2 : Nat), vj = .int .i64 j2 ∧ j2 ≤ j ∧ i2 ≤ j2 + 1 ∧ Hid (SU w0 blk off dk wr3) ∧ Hid (scanDown (fun x => !ltInt x dk[a]!) dk i2 j2 = scanDown (fun x => !ltInt x dk[a]!) dk i2 j)) (fun vj _ => (intOf vj).toNat)
      case atStart => exact ⟨j, rfl, Nat.le_refl _, hi2j, SK2, Lib.hid rfl⟩
      case round =>
        clear SK2
        obtain ⟨j2, rfl, hjj, hij2, SI, HJ⟩ := hrel
        obtain ⟨hcw, hfw⟩ := SI.out.cells RR.out (by have := HS.out; omega) G HG.out hsk
        by_cases hle2 : i2 ≤ j2
        · exfalso; omega
        · go_wp2
          go_quiet (fail)
          go_wp2
          have HJ2 : Hid (j2 = scanDown (fun x => !ltInt x dk[a]!) dk i2 j) := Lib.hid ((scanDown_end (fun x => !ltInt x dk[a]!) dk i2 j2 (Or.inl hle2)).symm.trans HJ.out)
          clear HJ
          have SK3 : Hid (SU w0 blk off dk (wr.drewN nq)) := Lib.hid (SI.out.drewN nq)
          clear hcw hfw SI
          generalize wr.drewN nq = W3 at SK3 ⊢
          obtain ⟨hcw, hfw⟩ := SK3.out.cells RR.out (by have := HS.out; omega) G HG.out hsk
          obtain ⟨u1, hu1⟩ := SK3.out.c2 RR.out (by have := HS.out; omega) j2 a (by omega) (by omega) (.int .u64 (G a))
          go_wp2
          go_region
          all_goals go_wp2
          exact bodyPost_ret (results_tmp2 rfl _ _ _) rfl ⟨j2, true, swp dk j2 a, part_first_break ltInt d a b pv HI1.out HJ1.out HDK.out HI2.out HJ2.out (by omega), rfl, SK3.out.swp RR.out _ HG.out (by omega) (by omega)⟩
end Go.Proofs.YtpchncpcckfghaaGreat
namespace Go.Proofs.YtpchncpcckfghaaGreat
open Go.RowKit Go.Sort
set_option linter.unusedVariables false
set_option linter.unusedSimpArgs false
set_option maxRecDepth 1000000 in
set_option maxHeartbeats 16000000 in
theorem upartEq_any (blk off cap a b pv : Nat) (d0 d : Array Int) (w0 w : World) (R : RU w0 blk off d0) (hs : d.size = d0.size) (S : SU w0 blk off d w) (hap : a ≤ pv) (hpb : pv < b) (hb : b ≤ d.size) (hsz : d.size ≤ 1000000) :
    Calls Tryz.prog 87 #[.slice (some ⟨blk, off, none⟩) d.size cap, .int .i64 a, .int .i64 b, .int .i64 pv] w fun e w' => ∃ (m : Nat) (dk : Array Int), partitionEqual ltInt d a b pv = (m, dk) ∧ e = .returned (.int .i64 m) ∧ SU w0 blk off dk w' := by
  have S0 := Lib.hid S
  have RR := Lib.hid R
  have HS := Lib.hid hs
  obtain ⟨G, hG⟩ : ∃ G : Nat → Int, ∀ t, G t = d[t]! := ⟨fun t => d[t]!, fun _ => rfl⟩
  obtain ⟨hcw, hfw⟩ := S.cells R hs G hG rfl
  obtain ⟨u0, hu0⟩ := S.c2 R hs a pv (by omega) (by omega) (.int .u64 (G pv))
  have HG := Lib.hid hG
  clear S R hs hG
  go_enter Tryz.func87, Tryz.ntmps87
  go_wp2
  go_region
  all_goals go_wp2
  have S1 := Lib.hid (S0.out.swp RR.out 1 HG.out (i := a) (j := pv) (by omega) (by omega))
  clear hcw hfw hu0 S0
  go_loopw [9, 10] (fun vi vj wr => ∃ (i j : Nat) (dk : Array Int), vi = .int .i64 i ∧ vj = .int .i64 j ∧ a < i ∧ i ≤ j + 1 ∧ j < b ∧ dk.size = d.size ∧ Hid (SU w0 blk off dk wr) ∧ Hid (partEqLoop ltInt a i j dk = partEqLoop ltInt a (a + 1) (b - 1) (swp d a pv))) (fun vi vj _ => (intOf vj).toNat + 1 - (intOf vi).toNat)
  case atStart => exact ⟨a + 1, b - 1, swp d a pv, by go_num, by congr 1; omega, by omega, by omega, by omega, size_swp _ _ _, S1, Lib.hid rfl⟩
  case round =>
    clear S1 HG
    obtain ⟨i, j, dk, rfl, rfl, hai, hij, hjb, hsk, SK, HE⟩ := hrel
    obtain ⟨G, hG⟩ : ∃ G : Nat → Int, ∀ t, G t = dk[t]! := ⟨fun t => dk[t]!, fun _ => rfl⟩
    have HG := Lib.hid hG
    clear hG
    go_wp2
    go_loopw [9] (fun vi wr2 => ∃ (i2 : Nat), vi = .int .i64 i2 ∧ i ≤ i2 ∧ i2 ≤ j + 1 ∧ Hid (SU w0 blk off dk wr2) ∧ Hid (scanUp (fun x => !ltInt dk[a]! x) dk j i2 = scanUp (fun x => !ltInt dk[a]! x) dk j i)) (fun vi _ => j + 1 - (intOf vi).toNat)
    case atStart => exact ⟨i, rfl, Nat.le_refl _, hij, SK, Lib.hid rfl⟩
    case round =>
      clear SK
      obtain ⟨i2, rfl, hii, hi2j, SI, HI⟩ := hrel
      obtain ⟨hcw, hfw⟩ := SI.out.cells RR.out (by have := HS.out; omega) G HG.out hsk
      by_cases hle : i2 ≤ j
      · go_wp2
        go_quiet (first | (go_at_call 60; exact quiet_mine (uless_any _ _ _)))
        go_wp2
        · have ht : (!decide (G a < G i2)) = true := by assumption
          go_roundw
          case rel => exact ⟨i2 + 1, by go_num, by omega, by omega, Lib.hid (SI.out.drewN nq), Lib.hid ((scanUp_go (fun x => !ltInt dk[a]! x) dk j i2 hle (by simp only [← HG.out, ltInt]; first | exact ht | (simp; omega))).symm.trans HI.out)⟩
          case measure => simp [intOf]; omega
        · have ht : (!decide (G a < G i2)) = false := by assumption
          have HI2 : Hid (i2 = scanUp (fun x => !ltInt dk[a]! x) dk j i) := Lib.hid ((scanUp_end (fun x => !ltInt dk[a]! x) dk j i2 (Or.inr (by simp only [← HG.out, ltInt]; first | exact ht | (simp; omega)))).symm.trans HI.out)
          have SK2 := Lib.hid (SI.out.drewN nq)
          clear hcw hfw SI HI ht
          go_loopw [10] (fun vj wr3 => ∃ (j2 : Nat), vj = .int .i64 j2 ∧ j2 ≤ j ∧ i2 ≤ j2 + 1 ∧ Hid (SU w0 blk off dk wr3) ∧ Hid (scanDown (fun x => ltInt dk[a]! x) dk i2 j2 = scanDown (fun x => ltInt dk[a]! x) dk i2 j)) (fun vj _ => (intOf vj).toNat)
          case atStart => exact ⟨j, rfl, Nat.le_refl _, hi2j, SK2, Lib.hid rfl⟩
          case round =>
            clear SK2
            obtain ⟨j2, rfl, hjj, hij2, SI, HJ⟩ := hrel
            obtain ⟨hcw, hfw⟩ := SI.out.cells RR.out (by have := HS.out; omega) G HG.out hsk
            by_cases hle2 : i2 ≤ j2
            · go_wp2
              go_quiet (first | (go_at_call 60; exact quiet_mine (uless_any _ _ _)))
              go_wp2
              · have ht : G a < G j2 := by assumption
                go_roundw
                case rel => exact ⟨j2 - 1, by go_num, by omega, by omega, Lib.hid (SI.out.drewN nq), Lib.hid ((scanDown_go (fun x => ltInt dk[a]! x) dk i2 j2 hle2 (by omega) (by simp only [← HG.out, ltInt]; first | exact ht | (simp; omega))).symm.trans HJ.out)⟩
                case measure => simp [intOf]; omega
              · have ht : G j2 ≤ G a := by assumption
                have HJ2 : Hid (j2 = scanDown (fun x => ltInt dk[a]! x) dk i2 j) := Lib.hid ((scanDown_end (fun x => ltInt dk[a]! x) dk i2 j2 (Or.inr (by simp only [← HG.out, ltInt]; first | exact ht | (simp; omega)))).symm.trans HJ.out)
                clear HJ ht
                have hlt3 := scans_lt ltInt a i j dk (by omega) HI2.out HJ2.out hle2
                go_wp2
                go_region
                all_goals go_wp2
                go_roundw
                case rel => exact ⟨i2 + 1, j2 - 1, swp dk i2 j2, by go_num, by go_num, by omega, by omega, by omega, by rw [size_swp]; exact hsk, Lib.hid (SI.out.swp RR.out _ HG.out (by omega) (by omega)), Lib.hid ((partEq_go ltInt a i j dk HI2.out HJ2.out (by omega)).symm.trans HE.out)⟩
                case measure => simp [intOf]; omega
            · go_wp2
              go_quiet (fail)
              go_wp2
              have HJ2 : Hid (j2 = scanDown (fun x => ltInt dk[a]! x) dk i2 j) := Lib.hid ((scanDown_end (fun x => ltInt dk[a]! x) dk i2 j2 (Or.inl hle2)).symm.trans HJ.out)
              clear HJ
              go_wp2
              exact bodyPost_ret (results_tmp rfl _ _ _) rfl ⟨i2, dk, by show partEqLoop _ _ _ _ _ = _; rw [← HE.out, partEq_break ltInt a i j dk HI2.out HJ2.out (by omega)], rfl, SI.out.drewN nq⟩
      · go_wp2
        go_quiet (fail)
        go_wp2
        have HI2 : Hid (i2 = scanUp (fun x => !ltInt dk[a]! x) dk j i) := Lib.hid ((scanUp_end (fun x => !ltInt dk[a]! x) dk j i2 (Or.inl hle)).symm.trans HI.out)
        have SK2 := Lib.hid (SI.out.drewN nq)
        clear hcw hfw SI HI
        go_loopw [10] (fun vj wr3 => ∃ (j2 : Nat), vj = .int .i64 j2 ∧ j2 ≤ j ∧ i2 ≤ j2 + 1 ∧ Hid (SU w0 blk off dk wr3) ∧ Hid (scanDown (fun x => ltInt dk[a]! x) dk i2 j2 = scanDown (fun x => ltInt dk[a]! x) dk i2 j)) (fun vj _ => (intOf vj).toNat)
        case atStart => exact ⟨j, rfl, Nat.le_refl _, hi2j, SK2, Lib.hid rfl⟩
        case round =>
          clear SK2
          obtain ⟨j2, rfl, hjj, hij2, SI, HJ⟩ := hrel
          obtain ⟨hcw, hfw⟩ := SI.out.cells RR.out (by have := HS.out; omega) G HG.out hsk
          by_cases hle2 : i2 ≤ j2
          · exfalso; omega
          · go_wp2
            go_quiet (fail)
            go_wp2
            have HJ2 : Hid (j2 = scanDown (fun x => ltInt dk[a]! x) dk i2 j) := Lib.hid ((scanDown_end (fun x => ltInt dk[a]! x) dk i2 j2 (Or.inl hle2)).symm.trans HJ.out)
            clear HJ
            go_wp2
            exact bodyPost_ret (results_tmp rfl _ _ _) rfl ⟨i2, dk, by show partEqLoop _ _ _ _ _ = _; rw [← HE.out, partEq_break ltInt a i j dk HI2.out HJ2.out (by omega)], rfl, SI.out.drewN nq⟩
end Go.Proofs.YtpchncpcckfghaaGreat
