/-
  Words and walks under the law's proof.
-/
import Derived.Test.YtpchncpcckfghaaGreatQS03
import Derived.Test.YtpchncpcckfghaaGreatQS05
namespace Go.Proofs.YtpchncpcckfghaaGreat
open Go.RowKit
set_option linter.unusedVariables false
set_option linter.unusedSimpArgs false
theorem lit_mk (w : World) (cs : Array Value) (l : List MkD) (n : Nat) (hn : n = l.length) (hm : n ≤ 1000) (h : cs.toList = mkcells l) : RO mkC (w.alloc (.cells cs 40)) (some ⟨w.heap.size, 0, none⟩) n n l := by
  refine ⟨hn, Nat.le_refl _, by simp [maxLen]; omega, ?_⟩
  have := seesC_lit w 40 cs
  rw [h] at this
  exact this
theorem lit_al (w : World) (cs : Array Value) (h : cs.toList = [bvA, bvB].flatMap alC) : RO alC (w.alloc (.cells cs 54)) (some ⟨w.heap.size, 0, none⟩) 2 2 [bvA, bvB] := by
  refine ⟨rfl, Nat.le_refl _, by decide, ?_⟩
  rw [← h]
  exact seesC_lit w _ cs
set_option maxRecDepth 100000 in
set_option maxHeartbeats 8000000 in
theorem blives_any (w : World) : Calls Tryz.prog 10 #[] w (Gives (.bool true) w) := by
  have q4 : Hid (∀ W, Calls Tryz.prog 28 #[.agg #[.int .i64 1, .int .i64 1, .string ⟨#[102]⟩, .string ⟨#[97, 46, 103, 111]⟩, .int .i64 9, .string ⟨#[120, 32, 60, 61, 32, 48]⟩], .int .i64 0] W (Gives (.int .u64 (oneA bvA 0)) W)) := Lib.hid (fun (W : World) => fone_any bvA (by decide) (by unfold smallA; decide) 0 (by decide) W)
  have e4 : oneA bvA 0 = oneK (keyA bvA) 0 := rfl
  rw [e4] at q4
  have hne := bv_ne (keyA bvA)
  have hpr := bv_prints
  have q5 := Lib.hid (fun R W a1 a2 (h1 : RO mkC W a1 1 1 [⟨R, ⟨#[107]⟩⟩]) (h2 : RO alC W a2 2 2 [bvA, bvB]) => bmatch_ok W a1 a2 1 2 1 2 [⟨R, ⟨#[107]⟩⟩] [bvA, bvB] bv_one h1 h2 bv_w bv_s (by omega) (pdqOK_small (by omega)))
  have hnd : ([oneK (keyA bvA) 1, oneK (keyA bvA) 0] : List Int).Nodup := by simp [hne]
  have q6 := Lib.hid (fun W a2 (h2 : RO alC W a2 2 2 [bvA, bvB]) => bof_ok W a2 2 2 [bvA, bvB] ⟨#[110]⟩ bv_note h2 bv_w bv_s (by omega) (pdqOK_small (by omega)) (by rw [bv_prints]; exact hnd))
  rw [hpr] at q5 q6
  have hsp := fun s => bv_split hne s
  have q5' := Lib.hid (fun W a1 a2 h1 h2 => by have := q5.out (oneK (keyA bvA) 0) W a1 a2 h1 h2; rw [hsp] at this; exact this)
  have q7 := Lib.hid (fun W a1 a2 (h1 : RO mkC W a1 1 1 uA) (h2 : RO mkC W a2 2 2 uB) => by have := bunion_ok W a1 a2 1 2 1 2 uA uB (by rw [u_merge]; decide) uA_b uB_b h1 h2; rw [u_merge] at this; exact this)
  have q8 := Lib.hid (fun W a1 a2 c1 (h1 : RO mkC W a1 2 c1 uB) (h2 : RO mkC W a2 1 1 uC) => by have := bless_ok W a1 a2 2 1 c1 1 uB uC uB_b uC_b h1 h2; rw [u_less] at this; exact this)
  have q9 := Lib.hid (fun W a1 c1 (h1 : RO mkC W a1 2 c1 uB) => by have := bFind_yes a1 2 c1 uB 2 uB_b W h1; unfold MkE at this; rw [u_has, u_look, if_pos rfl] at this; exact this)
  have q10 := Lib.hid (fun W a1 (h1 : RO mkC W a1 2 2 uD) => bmatch_bad W a1 none 2 0 2 0 uD uD_b h1)
  have q11 := Lib.hid (fun W a1 a2 c1 (h1 : RO mkC W a1 2 c1 uB) (h2 : RO mkC W a2 2 2 uB) => by have := mkSame_any a1 a2 2 2 c1 2 uB uB W h1 h2; exact this)
  have q12 := Lib.hid (fun W a1 c1 (h1 : RO mkC W a1 2 c1 uB) => bsame_any W a1 a1 2 2 c1 c1 uB uB h1 h1)
  have hsm : sameM uB uB = true := by decide +kernel
  rw [hsm] at q11 q12
  clear q5 hsp hpr hne hnd e4
  generalize oneK (keyA bvA) 0 = R0 at *
  generalize oneK (keyA bvA) 1 = R1 at *
  obtain ⟨ga, hga⟩ : ∃ g, g = w.heap.size := ⟨_, rfl⟩
  obtain ⟨gb, hgb⟩ : ∃ g, g = w.heap.size + 1 := ⟨_, rfl⟩
  go_enter Tryz.func10, Tryz.ntmps10
  go_upto_region 4 with (fail)
  obtain ⟨W3, hW3⟩ : ∃ W, W = (w.alloc (.cells #[.int .i64 1, .int .i64 1, .string ⟨#[102]⟩, .string ⟨#[97, 46, 103, 111]⟩, .int .i64 9, .string ⟨#[120, 32, 60, 61, 32, 48]⟩] 54)).alloc (.cells #[.int .i64 1, .int .i64 1, .string ⟨#[102]⟩, .string ⟨#[97, 46, 103, 111]⟩, .int .i64 3, .string ⟨#[120, 32, 60, 61, 32, 48]⟩] 54) := ⟨_, rfl⟩
  have B3 : Hid (Below w.heap.size w W3) := Lib.hid (by rw [hW3]; exact box2_below _ _ _ _ _)
  have HA3 : Hid (Holds W3 ga 54 #[.int .i64 1, .int .i64 1, .string ⟨#[102]⟩, .string ⟨#[97, 46, 103, 111]⟩, .int .i64 9, .string ⟨#[120, 32, 60, 61, 32, 48]⟩]) := Lib.hid (by rw [hW3, hga]; exact (Holds.new _ _ _).alloc _)
  have HB3 : Hid (Holds W3 gb 54 #[.int .i64 1, .int .i64 1, .string ⟨#[102]⟩, .string ⟨#[97, 46, 103, 111]⟩, .int .i64 3, .string ⟨#[120, 32, 60, 61, 32, 48]⟩]) := Lib.hid (by rw [hW3, hgb]; have := Holds.new (w.alloc (.cells #[.int .i64 1, .int .i64 1, .string ⟨#[102]⟩, .string ⟨#[97, 46, 103, 111]⟩, .int .i64 9, .string ⟨#[120, 32, 60, 61, 32, 48]⟩] 54)) 54 #[.int .i64 1, .int .i64 1, .string ⟨#[102]⟩, .string ⟨#[97, 46, 103, 111]⟩, .int .i64 3, .string ⟨#[120, 32, 60, 61, 32, 48]⟩]; rwa [World.size_alloc] at this)
  rw [← hW3, ← hgb, ← hga]
  clear hW3 hga hgb
  have xa0 := HA3.out.cell 0
  have xb0 := HB3.out.cell 0
  have xa1 := HA3.out.cell 1
  have xb1 := HB3.out.cell 1
  have xa2 := HA3.out.cell 2
  have xb2 := HB3.out.cell 2
  have xa3 := HA3.out.cell 3
  have xb3 := HB3.out.cell 3
  have xa4 := HA3.out.cell 4
  have xb4 := HB3.out.cell 4
  have xa5 := HA3.out.cell 5
  have xb5 := HB3.out.cell 5
  simp at xa0 xb0 xa1 xb1 xa2 xb2 xa3 xb3 xa4 xb4 xa5 xb5
  go_wp2_with fail
  refine (q4.out W3).mono ?_
  rintro e w4 ⟨rfl, b4⟩
  have HA4 := Lib.hid (HA3.out.below b4 HA3.out.lt)
  have HB4 := Lib.hid (HB3.out.below b4 HB3.out.lt)
  have B4 := Lib.hid (B3.out.trans (b4.mono B3.out.size))
  have HA4b := Lib.hid (HA4.out.alloc (.cells #[.int .u64 R0, .string ⟨#[107]⟩] 40))
  have HB4b := Lib.hid (HB4.out.alloc (.cells #[.int .u64 R0, .string ⟨#[107]⟩] 40))
  obtain ⟨W5, hW5⟩ : ∃ W, W = (w4.alloc (.cells #[.int .u64 R0, .string ⟨#[107]⟩] 40)).alloc (.cells #[.int .i64 1, .int .i64 1, .string ⟨#[102]⟩, .string ⟨#[97, 46, 103, 111]⟩, .int .i64 9, .string ⟨#[120, 32, 60, 61, 32, 48]⟩, .int .i64 1, .int .i64 1, .string ⟨#[102]⟩, .string ⟨#[97, 46, 103, 111]⟩, .int .i64 3, .string ⟨#[120, 32, 60, 61, 32, 48]⟩] 54) := ⟨_, rfl⟩
  have b5 : Below w4.heap.size w4 W5 := by rw [hW5]; exact box2_below _ _ _ _ _
  have r5a : RO mkC W5 (some ⟨w4.heap.size, 0, none⟩) 1 1 [⟨R0, ⟨#[107]⟩⟩] := by rw [hW5]; exact (lit_mk w4 _ _ 1 rfl (by omega) rfl).below ((Below.refl _ _).alloc (Nat.le_refl _) _)
  have r5b : RO alC W5 (some ⟨w4.heap.size + 1, 0, none⟩) 2 2 [bvA, bvB] := by rw [hW5]; have := lit_al (w4.alloc (.cells #[.int .u64 R0, .string ⟨#[107]⟩] 40)) #[.int .i64 1, .int .i64 1, .string ⟨#[102]⟩, .string ⟨#[97, 46, 103, 111]⟩, .int .i64 9, .string ⟨#[120, 32, 60, 61, 32, 48]⟩, .int .i64 1, .int .i64 1, .string ⟨#[102]⟩, .string ⟨#[97, 46, 103, 111]⟩, .int .i64 3, .string ⟨#[120, 32, 60, 61, 32, 48]⟩] rfl; rwa [World.size_alloc] at this
  have Q5 := Lib.hid (q5'.out W5 _ _ r5a r5b)
  have HA5 := Lib.hid (HA4.out.below b5 HA4.out.lt)
  have HB5 := Lib.hid (HB4.out.below b5 HB4.out.lt)
  have B5 := Lib.hid (B4.out.trans (b5.mono B4.out.size))
  have hW5' := Lib.hid hW5
  clear b4 b5 r5a r5b hW5 HA3 HB3 B3 xa0 xb0 xa1 xb1 xa2 xb2 xa3 xb3 xa4 xb4 xa5 xb5 q4 q5'
  have xa0 := HA4b.out.cell 0
  have xb0 := HB4b.out.cell 0
  have xa1 := HA4b.out.cell 1
  have xb1 := HB4b.out.cell 1
  have xa2 := HA4b.out.cell 2
  have xb2 := HB4b.out.cell 2
  have xa3 := HA4b.out.cell 3
  have xb3 := HB4b.out.cell 3
  have xa4 := HA4b.out.cell 4
  have xb4 := HB4b.out.cell 4
  have xa5 := HA4b.out.cell 5
  have xb5 := HB4b.out.cell 5
  simp at xa0 xb0 xa1 xb1 xa2 xb2 xa3 xb3 xa4 xb4 xa5 xb5
  go_wp2_with fail
  rw [← hW5'.out]
  clear hW5'
  refine Q5.out.mono ?_
  rintro e w6 ⟨⟨k1, k1n, k1c, k2, k2n, k2c, k3, k3n, k3c, k4, k4n, k4c⟩, rfl, hR, b6⟩
  unfold SpV.cells
  dsimp only
  have hk1 : k1n = 1 := hR.k.len
  have hk2 : k2n = 1 := hR.f.len
  have hk3 : k3n = 1 := hR.m.len
  have hk4 : k4n = 0 := hR.s.len
  subst hk1 hk2 hk3 hk4
  obtain ⟨V6, hV6⟩ : ∃ W, W = w6.alloc (.cells #[.slice k1 1 k1c, .slice k2 1 k2c, .slice k3 1 k3c, .slice k4 0 k4c] 28) := ⟨_, rfl⟩
  obtain ⟨gs, hgs⟩ : ∃ g, g = w6.heap.size := ⟨_, rfl⟩
  have c6 : Below w6.heap.size w6 V6 := by rw [hV6]; exact box_below _ _ _
  have HS6 := Lib.hid (show Holds V6 gs 28 #[.slice k1 1 k1c, .slice k2 1 k2c, .slice k3 1 k3c, .slice k4 0 k4c] by rw [hV6, hgs]; exact Holds.new _ _ _)
  have HA6 := Lib.hid ((HA5.out.below b6 HA5.out.lt).below c6 (Nat.lt_of_lt_of_le HA5.out.lt b6.size))
  have HB6 := Lib.hid ((HB5.out.below b6 HB5.out.lt).below c6 (Nat.lt_of_lt_of_le HB5.out.lt b6.size))
  have B6 := Lib.hid ((B5.out.trans (b6.mono B5.out.size)).trans (c6.mono (Nat.le_trans B5.out.size b6.size)))
  have RK6 := Lib.hid (hR.k.below c6)
  have RF6 := Lib.hid (hR.f.below c6)
  have hV6' := Lib.hid hV6
  have hgs' := Lib.hid hgs
  clear b6 c6 hV6 hgs hR HA4b HB4b HA4 HB4 B4 HA5 HB5 B5 xa0 xb0 xa1 xb1 xa2 xb2 xa3 xb3 xa4 xb4 xa5 xb5 Q5
  go_upto_region 6 with (fail)
  rw [← hV6'.out, ← hgs'.out]
  clear hV6' hgs'
  have xa0 := HA6.out.cell 0
  have xb0 := HB6.out.cell 0
  have xa1 := HA6.out.cell 1
  have xb1 := HB6.out.cell 1
  have xa2 := HA6.out.cell 2
  have xb2 := HB6.out.cell 2
  have xa3 := HA6.out.cell 3
  have xb3 := HB6.out.cell 3
  have xa4 := HA6.out.cell 4
  have xb4 := HB6.out.cell 4
  have xa5 := HA6.out.cell 5
  have xb5 := HB6.out.cell 5
  simp at xa0 xb0 xa1 xb1 xa2 xb2 xa3 xb3 xa4 xb4 xa5 xb5
  obtain ⟨W7, hW7⟩ : ∃ W, W = V6.alloc (.cells #[.int .i64 1, .int .i64 1, .string ⟨#[102]⟩, .string ⟨#[97, 46, 103, 111]⟩, .int .i64 9, .string ⟨#[120, 32, 60, 61, 32, 48]⟩, .int .i64 1, .int .i64 1, .string ⟨#[102]⟩, .string ⟨#[97, 46, 103, 111]⟩, .int .i64 3, .string ⟨#[120, 32, 60, 61, 32, 48]⟩] 54) := ⟨_, rfl⟩
  have b7 : Below V6.heap.size V6 W7 := by rw [hW7]; exact box_below _ _ _
  have r7 : RO alC W7 (some ⟨V6.heap.size, 0, none⟩) 2 2 [bvA, bvB] := by rw [hW7]; exact lit_al V6 #[.int .i64 1, .int .i64 1, .string ⟨#[102]⟩, .string ⟨#[97, 46, 103, 111]⟩, .int .i64 9, .string ⟨#[120, 32, 60, 61, 32, 48]⟩, .int .i64 1, .int .i64 1, .string ⟨#[102]⟩, .string ⟨#[97, 46, 103, 111]⟩, .int .i64 3, .string ⟨#[120, 32, 60, 61, 32, 48]⟩] rfl
  have Q6 := Lib.hid (q6.out W7 _ r7)
  have hW7' := Lib.hid hW7
  have b7' := Lib.hid b7
  clear hW7 b7 r7 q6
  go_wp2_with fail
  rw [← hW7'.out]
  clear hW7'
  refine Q6.out.mono ?_
  rintro e w8 ⟨l8, a8, c8, -, hp8, rfl, -, b8⟩
  have hl8 : (mkL ⟨#[110]⟩ l8).length = 2 := by unfold mkL; rw [List.length_map, hp8.length_eq]; rfl
  rw [hl8]
  have d8 := b7'.out.trans (b8.mono b7'.out.size)
  have HA8 := Lib.hid (HA6.out.below d8 HA6.out.lt)
  have HB8 := Lib.hid (HB6.out.below d8 HB6.out.lt)
  have HS8 := Lib.hid (HS6.out.below d8 HS6.out.lt)
  have RK8 := Lib.hid (RK6.out.below d8)
  have RF8 := Lib.hid (RF6.out.below d8)
  have B8 := Lib.hid (B6.out.trans (d8.mono B6.out.size))
  clear hp8 hl8 b8 d8 b7' Q6 HA6 HB6 HS6 RK6 RF6 B6 xa0 xb0 xa1 xb1 xa2 xb2 xa3 xb3 xa4 xb4 xa5 xb5
  obtain ⟨W9, hW9⟩ : ∃ W, W = (w8.alloc (.cells #[.int .u64 2, .string ⟨#[97]⟩] 40)).alloc (.cells #[.int .u64 1, .string ⟨#[]⟩, .int .u64 2, .string ⟨#[98]⟩] 40) := ⟨_, rfl⟩
  have b9 : Below w8.heap.size w8 W9 := by rw [hW9]; exact box2_below _ _ _ _ _
  have r9a : RO mkC W9 (some ⟨w8.heap.size, 0, none⟩) 1 1 uA := by rw [hW9]; exact (lit_mk w8 _ uA 1 rfl (by omega) rfl).below ((Below.refl _ _).alloc (Nat.le_refl _) _)
  have r9b : RO mkC W9 (some ⟨w8.heap.size + 1, 0, none⟩) 2 2 uB := by rw [hW9]; have := lit_mk (w8.alloc (.cells #[.int .u64 2, .string ⟨#[97]⟩] 40)) #[.int .u64 1, .string ⟨#[]⟩, .int .u64 2, .string ⟨#[98]⟩] uB 2 rfl (by omega) rfl; rwa [World.size_alloc] at this
  have Q7 := Lib.hid (q7.out W9 _ _ r9a r9b)
  have hW9' := Lib.hid hW9
  have b9' := Lib.hid b9
  clear hW9 b9 r9a r9b q7
  go_wp2_with fail
  rw [← hW9'.out]
  clear hW9'
  refine Q7.out.mono ?_
  rintro e w10 ⟨a9, c9, rfl, r10, b10⟩
  rw [show uB.length = 2 from rfl] at r10 ⊢
  obtain ⟨W11, hW11⟩ : ∃ W, W = w10.alloc (.cells #[.int .u64 1, .string ⟨#[]⟩] 40) := ⟨_, rfl⟩
  have b11 : Below w10.heap.size w10 W11 := by rw [hW11]; exact box_below _ _ _
  have Q8 := Lib.hid (q8.out W11 _ _ _ (r10.below b11) (by rw [hW11]; exact lit_mk w10 _ uC 1 rfl (by omega) rfl))
  have R10 := Lib.hid r10
  have d11 := Lib.hid (b9'.out.trans (b10.mono b9'.out.size))
  have b11' := Lib.hid b11
  have hW11' := Lib.hid hW11
  clear r10 b10 b11 hW11 q8 Q7 b9'
  go_wp2_with fail
  rw [← hW11'.out]
  clear hW11'
  refine Q8.out.mono ?_
  rintro e w12 ⟨a12, c12, rfl, -, b12⟩
  rw [show ([⟨2, ⟨#[98]⟩⟩] : List MkD).length = 1 from rfl]
  have e12 := b11'.out.trans (b12.mono b11'.out.size)
  have R12 := Lib.hid (R10.out.below e12)
  have Q9 := Lib.hid (q9.out w12 _ _ R12.out)
  have d12 := Lib.hid (d11.out.trans (e12.mono d11.out.size))
  clear b12 e12 R10 d11 b11' Q8 q9
  go_wp2_with fail
  refine Q9.out.mono ?_
  rintro e w13 ⟨rfl, b13⟩
  dsimp only [Option.getD]
  obtain ⟨V13, hV13⟩ : ∃ W, W = w13.alloc (.cells #[.int .u64 2, .string ⟨#[98]⟩] 40) := ⟨_, rfl⟩
  obtain ⟨gm, hgm⟩ : ∃ g, g = w13.heap.size := ⟨_, rfl⟩
  have c13 : Below w13.heap.size w13 V13 := by rw [hV13]; exact box_below _ _ _
  have HM13 := Lib.hid (show Holds V13 gm 40 #[.int .u64 2, .string ⟨#[98]⟩] by rw [hV13, hgm]; exact Holds.new _ _ _)
  have e13 := b13.trans (c13.mono b13.size)
  have R13 := Lib.hid (R12.out.below e13)
  have d13 := Lib.hid (d12.out.trans (e13.mono d12.out.size))
  have hV13' := Lib.hid hV13
  have hgm' := Lib.hid hgm
  clear b13 c13 e13 hV13 hgm R12 d12 Q9
  go_upto_region 10 with (fail)
  rw [← hV13'.out, ← hgm'.out]
  clear hV13' hgm'
  obtain ⟨W14, hW14⟩ : ∃ W, W = V13.alloc (.cells #[.int .u64 2, .string ⟨#[]⟩, .int .u64 1, .string ⟨#[]⟩] 40) := ⟨_, rfl⟩
  have b14 : Below V13.heap.size V13 W14 := by rw [hW14]; exact box_below _ _ _
  have Q10 := Lib.hid (q10.out W14 _ (by rw [hW14]; exact lit_mk V13 _ uD 2 rfl (by omega) rfl))
  have b14' := Lib.hid b14
  have hW14' := Lib.hid hW14
  clear b14 hW14 q10
  go_wp2_with fail
  rw [← hW14'.out]
  clear hW14'
  refine Q10.out.mono ?_
  rintro e w15 ⟨⟨j1, j1n, j1c, j2, j2n, j2c, j3, j3n, j3c, j4, j4n, j4c⟩, rfl, -, b15⟩
  unfold SpV.cells
  dsimp only
  obtain ⟨V16, hV16⟩ : ∃ W, W = w15.alloc (.cells #[.slice j1 j1n j1c, .slice j2 j2n j2c, .slice j3 j3n j3c, .slice j4 j4n j4c] 28) := ⟨_, rfl⟩
  have c16 : Below w15.heap.size w15 V16 := by rw [hV16]; exact box_below _ _ _
  have e16 : Below V13.heap.size V13 V16 := b14'.out.trans ((b15.trans (c16.mono b15.size)).mono b14'.out.size)
  have f16 := d13.out.trans (e16.mono d13.out.size)
  have HM := Lib.hid (HM13.out.below e16 HM13.out.lt)
  have RU := Lib.hid (R13.out.below e16)
  have HA := Lib.hid (HA8.out.below f16 HA8.out.lt)
  have HB := Lib.hid (HB8.out.below f16 HB8.out.lt)
  have HS := Lib.hid (HS8.out.below f16 HS8.out.lt)
  have RK := Lib.hid (RK8.out.below f16)
  have RF := Lib.hid (RF8.out.below f16)
  have BB := Lib.hid (B8.out.trans (f16.mono B8.out.size))
  have hV16' := Lib.hid hV16
  clear b14' b15 c16 e16 f16 hV16 HM13 R13 HA8 HB8 HS8 RK8 RF8 B8 d13 Q10
  go_upto_region 11 with (fail)
  rw [← hV16'.out]
  clear hV16'
  obtain ⟨bk, ok, rfl, hbk, kk0, kk1, kk2, kk3, kk4, kk5⟩ := al_at RK.out (show 0 < 1 by omega)
  obtain ⟨bf, of, rfl, hbf, kf0, kf1, kf2, kf3, kf4, kf5⟩ := al_at RF.out (show 0 < 1 by omega)
  have s0 := HS.out.cell 0
  have s1 := HS.out.cell 1
  have s2 := HS.out.cell 2
  have s3 := HS.out.cell 3
  have m1 := HM.out.cell 1
  have xa0 := HA.out.cell 0
  have xb0 := HB.out.cell 0
  have xa1 := HA.out.cell 1
  have xb1 := HB.out.cell 1
  have xa2 := HA.out.cell 2
  have xb2 := HB.out.cell 2
  have xa3 := HA.out.cell 3
  have xb3 := HB.out.cell 3
  have xa4 := HA.out.cell 4
  have xb4 := HB.out.cell 4
  have xa5 := HA.out.cell 5
  have xb5 := HB.out.cell 5
  simp at xa0 xb0 xa1 xb1 xa2 xb2 xa3 xb3 xa4 xb4 xa5 xb5
  simp [bvA, bvB] at s0 s1 s2 s3 m1 kk0 kk1 kk2 kk3 kk4 kk5 kf0 kf1 kf2 kf3 kf4 kf5
  have s0' : ∀ W, Below V16.heap.size V16 W → W.cell? ⟨gs, 0, none⟩ = some (.slice (some ⟨bk, ok, none⟩) 1 k1c) := fun W hW => (hW.cell (p := ⟨gs, 0, none⟩) HS.out.lt).trans s0
  have s1' : ∀ W, Below V16.heap.size V16 W → W.cell? ⟨gs, 1, none⟩ = some (.slice (some ⟨bf, of, none⟩) 1 k2c) := fun W hW => (hW.cell (p := ⟨gs, 1, none⟩) HS.out.lt).trans s1
  have s2' : ∀ W, Below V16.heap.size V16 W → W.cell? ⟨gs, 2, none⟩ = some (.slice k3 1 k3c) := fun W hW => (hW.cell (p := ⟨gs, 2, none⟩) HS.out.lt).trans s2
  have s3' : ∀ W, Below V16.heap.size V16 W → W.cell? ⟨gs, 3, none⟩ = some (.slice k4 0 k4c) := fun W hW => (hW.cell (p := ⟨gs, 3, none⟩) HS.out.lt).trans s3
  have m1' : ∀ W, Below V16.heap.size V16 W → W.cell? ⟨gm, 1, none⟩ = some (.string ⟨#[98]⟩) := fun W hW => (hW.cell (p := ⟨gm, 1, none⟩) HM.out.lt).trans m1
  have kk0' : ∀ W, Below V16.heap.size V16 W → W.cell? ⟨bk, ok, none⟩ = some (.int .i64 1) := fun W hW => (hW.cell (p := ⟨bk, ok, none⟩) hbk).trans kk0
  have kf0' : ∀ W, Below V16.heap.size V16 W → W.cell? ⟨bf, of, none⟩ = some (.int .i64 1) := fun W hW => (hW.cell (p := ⟨bf, of, none⟩) hbf).trans kf0
  have xa0' : ∀ W, Below V16.heap.size V16 W → W.cell? ⟨ga, 0, none⟩ = some (.int .i64 1) := fun W hW => (hW.cell (p := ⟨ga, 0, none⟩) HA.out.lt).trans xa0
  have xb0' : ∀ W, Below V16.heap.size V16 W → W.cell? ⟨gb, 0, none⟩ = some (.int .i64 1) := fun W hW => (hW.cell (p := ⟨gb, 0, none⟩) HB.out.lt).trans xb0
  have kk1' : ∀ W, Below V16.heap.size V16 W → W.cell? ⟨bk, ok + 1, none⟩ = some (.int .i64 1) := fun W hW => (hW.cell (p := ⟨bk, ok + 1, none⟩) hbk).trans kk1
  have kf1' : ∀ W, Below V16.heap.size V16 W → W.cell? ⟨bf, of + 1, none⟩ = some (.int .i64 1) := fun W hW => (hW.cell (p := ⟨bf, of + 1, none⟩) hbf).trans kf1
  have xa1' : ∀ W, Below V16.heap.size V16 W → W.cell? ⟨ga, 1, none⟩ = some (.int .i64 1) := fun W hW => (hW.cell (p := ⟨ga, 1, none⟩) HA.out.lt).trans xa1
  have xb1' : ∀ W, Below V16.heap.size V16 W → W.cell? ⟨gb, 1, none⟩ = some (.int .i64 1) := fun W hW => (hW.cell (p := ⟨gb, 1, none⟩) HB.out.lt).trans xb1
  have kk2' : ∀ W, Below V16.heap.size V16 W → W.cell? ⟨bk, ok + 2, none⟩ = some (.string ⟨#[102]⟩) := fun W hW => (hW.cell (p := ⟨bk, ok + 2, none⟩) hbk).trans kk2
  have kf2' : ∀ W, Below V16.heap.size V16 W → W.cell? ⟨bf, of + 2, none⟩ = some (.string ⟨#[102]⟩) := fun W hW => (hW.cell (p := ⟨bf, of + 2, none⟩) hbf).trans kf2
  have xa2' : ∀ W, Below V16.heap.size V16 W → W.cell? ⟨ga, 2, none⟩ = some (.string ⟨#[102]⟩) := fun W hW => (hW.cell (p := ⟨ga, 2, none⟩) HA.out.lt).trans xa2
  have xb2' : ∀ W, Below V16.heap.size V16 W → W.cell? ⟨gb, 2, none⟩ = some (.string ⟨#[102]⟩) := fun W hW => (hW.cell (p := ⟨gb, 2, none⟩) HB.out.lt).trans xb2
  have kk3' : ∀ W, Below V16.heap.size V16 W → W.cell? ⟨bk, ok + 3, none⟩ = some (.string ⟨#[97, 46, 103, 111]⟩) := fun W hW => (hW.cell (p := ⟨bk, ok + 3, none⟩) hbk).trans kk3
  have kf3' : ∀ W, Below V16.heap.size V16 W → W.cell? ⟨bf, of + 3, none⟩ = some (.string ⟨#[97, 46, 103, 111]⟩) := fun W hW => (hW.cell (p := ⟨bf, of + 3, none⟩) hbf).trans kf3
  have xa3' : ∀ W, Below V16.heap.size V16 W → W.cell? ⟨ga, 3, none⟩ = some (.string ⟨#[97, 46, 103, 111]⟩) := fun W hW => (hW.cell (p := ⟨ga, 3, none⟩) HA.out.lt).trans xa3
  have xb3' : ∀ W, Below V16.heap.size V16 W → W.cell? ⟨gb, 3, none⟩ = some (.string ⟨#[97, 46, 103, 111]⟩) := fun W hW => (hW.cell (p := ⟨gb, 3, none⟩) HB.out.lt).trans xb3
  have kk4' : ∀ W, Below V16.heap.size V16 W → W.cell? ⟨bk, ok + 4, none⟩ = some (.int .i64 3) := fun W hW => (hW.cell (p := ⟨bk, ok + 4, none⟩) hbk).trans kk4
  have kf4' : ∀ W, Below V16.heap.size V16 W → W.cell? ⟨bf, of + 4, none⟩ = some (.int .i64 9) := fun W hW => (hW.cell (p := ⟨bf, of + 4, none⟩) hbf).trans kf4
  have xa4' : ∀ W, Below V16.heap.size V16 W → W.cell? ⟨ga, 4, none⟩ = some (.int .i64 9) := fun W hW => (hW.cell (p := ⟨ga, 4, none⟩) HA.out.lt).trans xa4
  have xb4' : ∀ W, Below V16.heap.size V16 W → W.cell? ⟨gb, 4, none⟩ = some (.int .i64 3) := fun W hW => (hW.cell (p := ⟨gb, 4, none⟩) HB.out.lt).trans xb4
  have kk5' : ∀ W, Below V16.heap.size V16 W → W.cell? ⟨bk, ok + 5, none⟩ = some (.string ⟨#[120, 32, 60, 61, 32, 48]⟩) := fun W hW => (hW.cell (p := ⟨bk, ok + 5, none⟩) hbk).trans kk5
  have kf5' : ∀ W, Below V16.heap.size V16 W → W.cell? ⟨bf, of + 5, none⟩ = some (.string ⟨#[120, 32, 60, 61, 32, 48]⟩) := fun W hW => (hW.cell (p := ⟨bf, of + 5, none⟩) hbf).trans kf5
  have xa5' : ∀ W, Below V16.heap.size V16 W → W.cell? ⟨ga, 5, none⟩ = some (.string ⟨#[120, 32, 60, 61, 32, 48]⟩) := fun W hW => (hW.cell (p := ⟨ga, 5, none⟩) HA.out.lt).trans xa5
  have xb5' : ∀ W, Below V16.heap.size V16 W → W.cell? ⟨gb, 5, none⟩ = some (.string ⟨#[120, 32, 60, 61, 32, 48]⟩) := fun W hW => (hW.cell (p := ⟨gb, 5, none⟩) HB.out.lt).trans xb5
  clear s0 s1 s2 s3 m1 kk0 kk1 kk2 kk3 kk4 kk5 kf0 kf1 kf2 kf3 kf4 kf5 xa0 xb0 xa1 xb1 xa2 xb2 xa3 xb3 xa4 xb4 xa5 xb5
  go_wp2
  refine wp_drawn_on (fun W => Below V16.heap.size V16 W) (by kernel_rfl) ((Below.refl _ _).drew) (fun hHeld => ?_)
  refine wT 0 (v := ?v1) rfl (by as_aux_lemma => kernel_rfl) (fun _ _ _ h => h) ?h1 (by assumption) ?r1
  case h1 => (intro w hSw; (try dsimp only at hSw); go_simp; try with_reducible rfl)
  refine wT 1 (v := ?v2) rfl (by as_aux_lemma => kernel_rfl) (fun _ _ _ h => h) ?h2 (by assumption) ?r2
  case h2 => (intro w hSw; (try dsimp only at hSw); go_simp; try with_reducible rfl)
  refine wT 2 (v := ?v3) rfl (by as_aux_lemma => kernel_rfl) (fun _ _ _ h => h) ?h3 (by assumption) ?r3
  case h3 => (intro w hSw; (try dsimp only at hSw); go_simp; try with_reducible rfl)
  refine wT 3 (v := ?v4) rfl (by as_aux_lemma => kernel_rfl) (fun _ _ _ h => h) ?h4 (by assumption) ?r4
  case h4 => (intro w hSw; (try dsimp only at hSw); go_simp; try with_reducible rfl)
  refine wT 4 (v := ?v5) rfl (by as_aux_lemma => kernel_rfl) (fun _ _ _ h => h) ?h5 (by assumption) ?r5
  case h5 => (intro w hSw; (try dsimp only at hSw); go_simp; try with_reducible rfl)
  refine wT 5 (v := ?v6) rfl (by as_aux_lemma => kernel_rfl) (fun _ _ _ h => h) ?h6 (by assumption) ?r6
  case h6 => (intro w hSw; (try dsimp only at hSw); go_simp; try with_reducible rfl)
  refine wT 6 (v := ?v7) rfl (by as_aux_lemma => kernel_rfl) (fun _ _ _ h => h) ?h7 (by assumption) ?r7
  case h7 => (intro w hSw; (try dsimp only at hSw); go_simp; try with_reducible rfl)
  refine wT 7 (v := ?v8) rfl (by as_aux_lemma => kernel_rfl) (fun _ _ _ h => h) ?h8 (by assumption) ?r8
  case h8 => (intro w hSw; (try dsimp only at hSw); go_simp; try with_reducible rfl)
  refine wT 8 (v := ?v9) rfl (by as_aux_lemma => kernel_rfl) (fun _ _ _ h => h) ?h9 (by assumption) ?r9
  case h9 => (intro w hSw; (try dsimp only at hSw); go_simp; try with_reducible rfl)
  refine wT 9 (v := ?v10) rfl (by as_aux_lemma => kernel_rfl) (fun _ _ _ h => h) ?h10 (by assumption) ?r10
  case h10 => (intro w hSw; (try dsimp only at hSw); go_simp; try with_reducible rfl)
  refine wT 10 (v := ?v11) rfl (by as_aux_lemma => kernel_rfl) (fun _ _ _ h => h) ?h11 (by assumption) ?r11
  case h11 => (intro w hSw; (try dsimp only at hSw); go_simp; try with_reducible rfl)
  refine wT 11 (v := ?v12) rfl (by as_aux_lemma => kernel_rfl) (fun _ _ _ h => h) ?h12 (by assumption) ?r12
  case h12 => (intro w hSw; (try dsimp only at hSw); go_simp; try with_reducible rfl)
  refine wT 12 (v := ?v13) rfl (by as_aux_lemma => kernel_rfl) (fun _ _ _ h => h) ?h13 (by assumption) ?r13
  case h13 => (intro w hSw; (try dsimp only at hSw); go_simp; try with_reducible rfl)
  refine wT 13 (v := ?v14) rfl (by as_aux_lemma => kernel_rfl) (fun _ _ _ h => h) ?h14 (by assumption) ?r14
  case h14 => (intro w hSw; (try dsimp only at hSw); go_simp; try with_reducible rfl)
  refine wT 14 (v := ?v15) rfl (by as_aux_lemma => kernel_rfl) (fun _ _ _ h => h) ?h15 (by assumption) ?r15
  case h15 => (intro w hSw; (try dsimp only at hSw); go_simp; try with_reducible rfl)
  refine wT 15 (v := ?v16) rfl (by as_aux_lemma => kernel_rfl) (fun _ _ _ h => h) ?h16 (by assumption) ?r16
  case h16 => (intro w hSw; (try dsimp only at hSw); go_simp; try with_reducible rfl)
  refine wT 16 (v := ?v17) rfl (by as_aux_lemma => kernel_rfl) (fun _ _ _ h => h) ?h17 (by assumption) ?r17
  case h17 => (intro w hSw; (try dsimp only at hSw); go_simp; try with_reducible rfl)
  refine wT 17 (v := ?v18) rfl (by as_aux_lemma => kernel_rfl) (fun _ _ _ h => h) ?h18 (by assumption) ?r18
  case h18 => (intro w hSw; (try dsimp only at hSw); go_simp; try with_reducible rfl)
  refine wT 18 (v := ?v19) rfl (by as_aux_lemma => kernel_rfl) (fun _ _ _ h => h) ?h19 (by assumption) ?r19
  case h19 => (intro w hSw; (try dsimp only at hSw); go_simp; try with_reducible rfl)
  refine wT 19 (v := ?v20) rfl (by as_aux_lemma => kernel_rfl) (fun _ _ _ h => h) ?h20 (by assumption) ?r20
  case h20 => (intro w hSw; (try dsimp only at hSw); go_simp; try with_reducible rfl)
  refine wT 20 (v := ?v21) rfl (by as_aux_lemma => kernel_rfl) (fun _ _ _ h => h) ?h21 (by assumption) ?r21
  case h21 => (intro w hSw; (try dsimp only at hSw); go_simp; try with_reducible rfl)
  refine wT 21 (v := ?v22) rfl (by as_aux_lemma => kernel_rfl) (fun _ _ _ h => h) ?h22 (by assumption) ?r22
  case h22 => (intro w hSw; (try dsimp only at hSw); go_simp; try with_reducible rfl)
  refine wT 22 (v := ?v23) rfl (by as_aux_lemma => kernel_rfl) (fun _ _ _ h => h) ?h23 (by assumption) ?r23
  case h23 => (intro w hSw; (try dsimp only at hSw); go_simp; try with_reducible rfl)
  refine wT 23 (v := ?v24) rfl (by as_aux_lemma => kernel_rfl) (fun _ _ _ h => h) ?h24 (by assumption) ?r24
  case h24 => (intro w hSw; (try dsimp only at hSw); go_simp; try with_reducible rfl)
  refine wT 24 (v := ?v25) rfl (by as_aux_lemma => kernel_rfl) (fun _ _ _ h => h) ?h25 (by assumption) ?r25
  case h25 => (intro w hSw; (try dsimp only at hSw); go_simp; try with_reducible rfl)
  refine wT 25 (v := ?v26) rfl (by as_aux_lemma => kernel_rfl) (fun _ _ _ h => h) ?h26 (by assumption) ?r26
  case h26 => (intro w hSw; (try dsimp only at hSw); go_simp; try with_reducible rfl)
  refine wT 26 (v := ?v27) rfl (by as_aux_lemma => kernel_rfl) (fun _ _ _ h => h) ?h27 (by assumption) ?r27
  case h27 => (intro w hSw; (try dsimp only at hSw); go_simp; try with_reducible rfl)
  refine wT 27 (v := ?v28) rfl (by as_aux_lemma => kernel_rfl) (fun _ _ _ h => h) ?h28 (by assumption) ?r28
  case h28 => (intro w hSw; (try dsimp only at hSw); go_simp; try with_reducible rfl)
  refine wT 28 (v := ?v29) rfl (by as_aux_lemma => kernel_rfl) (fun _ _ _ h => h) ?h29 (by assumption) ?r29
  case h29 => (intro w hSw; (try dsimp only at hSw); go_simp; try with_reducible rfl)
  refine wT 29 (v := ?v30) rfl (by as_aux_lemma => kernel_rfl) (fun _ _ _ h => h) ?h30 (by assumption) ?r30
  case h30 => (intro w hSw; (try dsimp only at hSw); go_simp; try with_reducible rfl)
  refine wT 30 (v := ?v31) rfl (by as_aux_lemma => kernel_rfl) (fun _ _ _ h => h) ?h31 (by assumption) ?r31
  case h31 => (intro w hSw; (try dsimp only at hSw); go_simp; try with_reducible rfl)
  refine wT 31 (v := ?v32) rfl (by as_aux_lemma => kernel_rfl) (fun _ _ _ h => h) ?h32 (by assumption) ?r32
  case h32 => (intro w hSw; (try dsimp only at hSw); go_simp; try with_reducible rfl)
  refine wT 32 (v := ?v33) rfl (by as_aux_lemma => kernel_rfl) (fun _ _ _ h => h) ?h33 (by assumption) ?r33
  case h33 => (intro w hSw; (try dsimp only at hSw); go_simp; try with_reducible rfl)
  refine wT 33 (v := ?v34) rfl (by as_aux_lemma => kernel_rfl) (fun _ _ _ h => h) ?h34 (by assumption) ?r34
  case h34 => (intro w hSw; (try dsimp only at hSw); go_simp; try with_reducible rfl)
  refine wT 34 (v := ?v35) rfl (by as_aux_lemma => kernel_rfl) (fun _ _ _ h => h) ?h35 (by assumption) ?r35
  case h35 => (intro w hSw; (try dsimp only at hSw); go_simp; try with_reducible rfl)
  refine wT 35 (v := ?v36) rfl (by as_aux_lemma => kernel_rfl) (fun _ _ _ h => h) ?h36 (by assumption) ?r36
  case h36 => (intro w hSw; (try dsimp only at hSw); go_simp; try with_reducible rfl)
  refine wT 36 (v := ?v37) rfl (by as_aux_lemma => kernel_rfl) (fun _ _ _ h => h) ?h37 (by assumption) ?r37
  case h37 => (intro w hSw; (try dsimp only at hSw); go_simp; try with_reducible rfl)
  refine wT 37 (v := ?v38) rfl (by as_aux_lemma => kernel_rfl) (fun _ _ _ h => h) ?h38 (by assumption) ?r38
  case h38 => (intro w hSw; (try dsimp only at hSw); go_simp; try with_reducible rfl)
  refine wT 38 (v := ?v39) rfl (by as_aux_lemma => kernel_rfl) (fun _ _ _ h => h) ?h39 (by assumption) ?r39
  case h39 => (intro w hSw; (try dsimp only at hSw); go_simp; try with_reducible rfl)
  refine wT 39 (v := ?v40) rfl (by as_aux_lemma => kernel_rfl) (fun _ _ _ h => h) ?h40 (by assumption) ?r40
  case h40 => (intro w hSw; (try dsimp only at hSw); go_simp; try with_reducible rfl)
  refine wT 40 (v := ?v41) rfl (by as_aux_lemma => kernel_rfl) (fun _ _ _ h => h) ?h41 (by assumption) ?r41
  case h41 => (intro w hSw; (try dsimp only at hSw); go_simp; try with_reducible rfl)
  refine wT 41 (v := ?v42) rfl (by as_aux_lemma => kernel_rfl) (fun _ _ _ h => h) ?h42 (by assumption) ?r42
  case h42 => (intro w hSw; (try dsimp only at hSw); go_simp; try with_reducible rfl)
  refine wT 42 (v := ?v43) rfl (by as_aux_lemma => kernel_rfl) (fun _ _ _ h => h) ?h43 (by assumption) ?r43
  case h43 => (intro w hSw; (try dsimp only at hSw); go_simp; try with_reducible rfl)
  refine wT 43 (v := ?v44) rfl (by as_aux_lemma => kernel_rfl) (fun _ _ _ h => h) ?h44 (by assumption) ?r44
  case h44 => (intro w hSw; (try dsimp only at hSw); go_simp; try with_reducible rfl)
  refine wT 44 (v := ?v45) rfl (by as_aux_lemma => kernel_rfl) (fun _ _ _ h => h) ?h45 (by assumption) ?r45
  case h45 => (intro w hSw; (try dsimp only at hSw); go_simp; try with_reducible rfl)
  refine wT 45 (v := ?v46) rfl (by as_aux_lemma => kernel_rfl) (fun _ _ _ h => h) ?h46 (by assumption) ?r46
  case h46 => (intro w hSw; (try dsimp only at hSw); go_simp; try with_reducible rfl)
  refine wT 46 (v := ?v47) rfl (by as_aux_lemma => kernel_rfl) (fun _ _ _ h => h) ?h47 (by assumption) ?r47
  case h47 => (intro w hSw; (try dsimp only at hSw); go_simp; try with_reducible rfl)
  refine wT 47 (v := ?v48) rfl (by as_aux_lemma => kernel_rfl) (fun _ _ _ h => h) ?h48 (by assumption) ?r48
  case h48 => (intro w hSw; (try dsimp only at hSw); go_simp; try with_reducible rfl)
  refine wT 48 (v := ?v49) rfl (by as_aux_lemma => kernel_rfl) (fun _ _ _ h => h) ?h49 (by assumption) ?r49
  case h49 => (intro w hSw; (try dsimp only at hSw); go_simp; try with_reducible rfl)
  refine wT 49 (v := ?v50) rfl (by as_aux_lemma => kernel_rfl) (fun _ _ _ h => h) ?h50 (by assumption) ?r50
  case h50 => (intro w hSw; (try dsimp only at hSw); go_simp; try with_reducible rfl)
  refine wT 50 (v := ?v51) rfl (by as_aux_lemma => kernel_rfl) (fun _ _ _ h => h) ?h51 (by assumption) ?r51
  case h51 => (intro w hSw; (try dsimp only at hSw); go_simp; try with_reducible rfl)
  refine wT 51 (v := ?v52) rfl (by as_aux_lemma => kernel_rfl) (fun _ _ _ h => h) ?h52 (by assumption) ?r52
  case h52 => (intro w hSw; (try dsimp only at hSw); go_simp; try with_reducible rfl)
  refine wT 52 (v := ?v53) rfl (by as_aux_lemma => kernel_rfl) (fun _ _ _ h => h) ?h53 (by assumption) ?r53
  case h53 => (intro w hSw; (try dsimp only at hSw); go_simp; try with_reducible rfl)
  refine wT 53 (v := ?v54) rfl (by as_aux_lemma => kernel_rfl) (fun _ _ _ h => h) ?h54 (by assumption) ?r54
  case h54 => (intro w hSw; (try dsimp only at hSw); go_simp; try with_reducible rfl)
  refine wT 54 (v := ?v55) rfl (by as_aux_lemma => kernel_rfl) (fun _ _ _ h => h) ?h55 (by assumption) ?r55
  case h55 => (intro w hSw; (try dsimp only at hSw); go_simp; try with_reducible rfl)
  refine wT 55 (v := ?v56) rfl (by as_aux_lemma => kernel_rfl) (fun _ _ _ h => h) ?h56 (by assumption) ?r56
  case h56 => (intro w hSw; (try dsimp only at hSw); go_simp; try with_reducible rfl)
  refine wT 56 (v := ?v57) rfl (by as_aux_lemma => kernel_rfl) (fun _ _ _ h => h) ?h57 (by assumption) ?r57
  case h57 => (intro w hSw; (try dsimp only at hSw); go_simp; try with_reducible rfl)
  refine wT 57 (v := ?v58) rfl (by as_aux_lemma => kernel_rfl) (fun _ _ _ h => h) ?h58 (by assumption) ?r58
  case h58 => (intro w hSw; (try dsimp only at hSw); go_simp; try with_reducible rfl)
  refine wT 58 (v := ?v59) rfl (by as_aux_lemma => kernel_rfl) (fun _ _ _ h => h) ?h59 (by assumption) ?r59
  case h59 => (intro w hSw; (try dsimp only at hSw); go_simp; try with_reducible rfl)
  try simp only [Act.put, List.setIfInBounds_toArray, List.set_cons_zero, List.set_cons_succ]
  refine wpAnyH_ready (rs := [59]) (by as_aux_lemma => kernel_rfl) (by simp) ?_
  refine AllReadyH.cons (o := ⟨_, _, _, _, _, _⟩) rfl (fun K hK => ?_) AllReadyH.nil
  go_simp
  have hx59 : Below V16.heap.size V16 ((V16.alloc (.cells #[.int .u64 1, .string ⟨#[]⟩, .int .u64 2, .string ⟨#[98]⟩] 40)).drew) := ((Below.refl V16.heap.size V16).alloc (Nat.le_refl _) _).drew
  have r59 : RO mkC ((V16.alloc (.cells #[.int .u64 1, .string ⟨#[]⟩, .int .u64 2, .string ⟨#[98]⟩] 40)).drew) (some ⟨V16.heap.size, 0, none⟩) 2 2 uB := RO.below (lit_mk V16 #[.int .u64 1, .string ⟨#[]⟩, .int .u64 2, .string ⟨#[98]⟩] uB 2 rfl (by omega) rfl) (Below.refl _ _).drew
  refine hK.out _ _ (hx59) (fun hHeld => ?_)
  clear hK K
  try simp only [Act.put, List.setIfInBounds_toArray, List.set_cons_zero, List.set_cons_succ]
  refine wpAnyH_ready (rs := [60]) (by as_aux_lemma => kernel_rfl) (by simp) ?_
  refine AllReadyH.cons (o := ⟨_, _, _, _, _, _⟩) rfl (fun K hK => ?_) AllReadyH.nil
  go_simp
  refine (q11.out _ _ _ _ (RU.out.below hx59) r59).mono ?_
  rintro e w60 ⟨rfl, m60, rfl⟩
  have hx60 : Below V16.heap.size V16 ((V16.alloc (.cells #[.int .u64 1, .string ⟨#[]⟩, .int .u64 2, .string ⟨#[98]⟩] 40)).drewN (1 + m60)) := Below.drewN ((Below.refl V16.heap.size V16).alloc (Nat.le_refl _) _) (1 + m60)
  go_simp
  refine hK.out _ _ (hx60) (fun hHeld => ?_)
  clear hK K
  refine wT 61 (v := ?v60) rfl (by as_aux_lemma => kernel_rfl) (fun _ _ _ h => h) ?h60 (by assumption) ?r60
  case h60 => (intro w hSw; (try dsimp only at hSw); go_simp; try with_reducible rfl)
  refine wT 62 (v := ?v61) rfl (by as_aux_lemma => kernel_rfl) (fun _ _ _ h => h) ?h61 (by assumption) ?r61
  case h61 => (intro w hSw; (try dsimp only at hSw); go_simp; try with_reducible rfl)
  refine wT 63 (v := ?v62) rfl (by as_aux_lemma => kernel_rfl) (fun _ _ _ h => h) ?h62 (by assumption) ?r62
  case h62 => (intro w hSw; (try dsimp only at hSw); go_simp; try with_reducible rfl)
  refine wT 64 (v := ?v63) rfl (by as_aux_lemma => kernel_rfl) (fun _ _ _ h => h) ?h63 (by assumption) ?r63
  case h63 => (intro w hSw; (try dsimp only at hSw); go_simp; try with_reducible rfl)
  refine wT 65 (v := ?v64) rfl (by as_aux_lemma => kernel_rfl) (fun _ _ _ h => h) ?h64 (by assumption) ?r64
  case h64 => (intro w hSw; (try dsimp only at hSw); go_simp; try with_reducible rfl)
  refine wT 66 (v := ?v65) rfl (by as_aux_lemma => kernel_rfl) (fun _ _ _ h => h) ?h65 (by assumption) ?r65
  case h65 => (intro w hSw; (try dsimp only at hSw); go_simp; try with_reducible rfl)
  refine wT 67 (v := ?v66) rfl (by as_aux_lemma => kernel_rfl) (fun _ _ _ h => h) ?h66 (by assumption) ?r66
  case h66 => (intro w hSw; (try dsimp only at hSw); go_simp; try with_reducible rfl)
  refine wT 68 (v := ?v67) rfl (by as_aux_lemma => kernel_rfl) (fun _ _ _ h => h) ?h67 (by assumption) ?r67
  case h67 => (intro w hSw; (try dsimp only at hSw); go_simp; try with_reducible rfl)
  refine wT 69 (v := ?v68) rfl (by as_aux_lemma => kernel_rfl) (fun _ _ _ h => h) ?h68 (by assumption) ?r68
  case h68 => (intro w hSw; (try dsimp only at hSw); go_simp; try with_reducible rfl)
  refine wT 70 (v := ?v69) rfl (by as_aux_lemma => kernel_rfl) (fun _ _ _ h => h) ?h69 (by assumption) ?r69
  case h69 => (intro w hSw; (try dsimp only at hSw); go_simp; try with_reducible rfl)
  refine wT 71 (v := ?v70) rfl (by as_aux_lemma => kernel_rfl) (fun _ _ _ h => h) ?h70 (by assumption) ?r70
  case h70 => (intro w hSw; (try dsimp only at hSw); go_simp; try with_reducible rfl)
  refine wT 72 (v := ?v71) rfl (by as_aux_lemma => kernel_rfl) (fun _ _ _ h => h) ?h71 (by assumption) ?r71
  case h71 => (intro w hSw; (try dsimp only at hSw); go_simp; try with_reducible rfl)
  refine wT 73 (v := ?v72) rfl (by as_aux_lemma => kernel_rfl) (fun _ _ _ h => h) ?h72 (by assumption) ?r72
  case h72 => (intro w hSw; (try dsimp only at hSw); go_simp; try with_reducible rfl)
  refine wT 74 (v := ?v73) rfl (by as_aux_lemma => kernel_rfl) (fun _ _ _ h => h) ?h73 (by assumption) ?r73
  case h73 => (intro w hSw; (try dsimp only at hSw); go_simp; try with_reducible rfl)
  refine wT 75 (v := ?v74) rfl (by as_aux_lemma => kernel_rfl) (fun _ _ _ h => h) ?h74 (by assumption) ?r74
  case h74 => (intro w hSw; (try dsimp only at hSw); go_simp; try with_reducible rfl)
  refine wT 76 (v := ?v75) rfl (by as_aux_lemma => kernel_rfl) (fun _ _ _ h => h) ?h75 (by assumption) ?r75
  case h75 => (intro w hSw; (try dsimp only at hSw); go_simp; try with_reducible rfl)
  refine wT 77 (v := ?v76) rfl (by as_aux_lemma => kernel_rfl) (fun _ _ _ h => h) ?h76 (by assumption) ?r76
  case h76 => (intro w hSw; (try dsimp only at hSw); go_simp; try with_reducible rfl)
  refine wT 78 (v := ?v77) rfl (by as_aux_lemma => kernel_rfl) (fun _ _ _ h => h) ?h77 (by assumption) ?r77
  case h77 => (intro w hSw; (try dsimp only at hSw); go_simp; try with_reducible rfl)
  refine wT 79 (v := ?v78) rfl (by as_aux_lemma => kernel_rfl) (fun _ _ _ h => h) ?h78 (by assumption) ?r78
  case h78 => (intro w hSw; (try dsimp only at hSw); go_simp; try with_reducible rfl)
  refine wT 80 (v := ?v79) rfl (by as_aux_lemma => kernel_rfl) (fun _ _ _ h => h) ?h79 (by assumption) ?r79
  case h79 => (intro w hSw; (try dsimp only at hSw); go_simp; try with_reducible rfl)
  refine wT 81 (v := ?v80) rfl (by as_aux_lemma => kernel_rfl) (fun _ _ _ h => h) ?h80 (by assumption) ?r80
  case h80 => (intro w hSw; (try dsimp only at hSw); go_simp; try with_reducible rfl)
  refine wT 82 (v := ?v81) rfl (by as_aux_lemma => kernel_rfl) (fun _ _ _ h => h) ?h81 (by assumption) ?r81
  case h81 => (intro w hSw; (try dsimp only at hSw); go_simp; try with_reducible rfl)
  refine wT 83 (v := ?v82) rfl (by as_aux_lemma => kernel_rfl) (fun _ _ _ h => h) ?h82 (by assumption) ?r82
  case h82 => (intro w hSw; (try dsimp only at hSw); go_simp; try with_reducible rfl)
  refine wT 84 (v := ?v83) rfl (by as_aux_lemma => kernel_rfl) (fun _ _ _ h => h) ?h83 (by assumption) ?r83
  case h83 => (intro w hSw; (try dsimp only at hSw); go_simp; try with_reducible rfl)
  refine wT 85 (v := ?v84) rfl (by as_aux_lemma => kernel_rfl) (fun _ _ _ h => h) ?h84 (by assumption) ?r84
  case h84 => (intro w hSw; (try dsimp only at hSw); go_simp; try with_reducible rfl)
  try simp only [Act.put, List.setIfInBounds_toArray, List.set_cons_zero, List.set_cons_succ]
  refine wpAnyH_ready (rs := [86]) (by as_aux_lemma => kernel_rfl) (by simp) ?_
  refine AllReadyH.cons (o := ⟨_, _, _, _, _, _⟩) rfl (fun K hK => ?_) AllReadyH.nil
  go_simp
  refine (q12.out _ _ _ (RU.out.below hHeld)).mono ?_
  rintro e w86 ⟨rfl, b86⟩
  have hx86 := hHeld.trans (b86.mono hHeld.size)
  go_simp
  refine hK.out _ _ (hx86) (fun hHeld => ?_)
  clear hK K
  refine wT 87 (v := ?v85) rfl (by as_aux_lemma => kernel_rfl) (fun _ _ _ h => h) ?h85 (by assumption) ?r85
  case h85 => (intro w hSw; (try dsimp only at hSw); go_simp; try with_reducible rfl)
  refine wT 88 (v := ?v86) rfl (by as_aux_lemma => kernel_rfl) (fun _ _ _ h => h) ?h86 (by assumption) ?r86
  case h86 => (intro w hSw; (try dsimp only at hSw); go_simp; try with_reducible rfl)
  try simp only [Act.put, List.setIfInBounds_toArray, List.set_cons_zero, List.set_cons_succ]
  refine wpAnyH_done (by as_aux_lemma => kernel_rfl) ?_ _
  clear s0' s1' s2' s3' m1'
  go_wp2
  exact bodyPost_ret (results_tmp rfl _ _ _) rfl ⟨rfl, BB.out.trans (hHeld.mono BB.out.size)⟩
end Go.Proofs.YtpchncpcckfghaaGreat
namespace Go.Proofs.YtpchncpcckfghaaGreat
open Go.RowKit
set_option linter.unusedVariables false
set_option linter.unusedSimpArgs false
theorem size_mk (W : World) : (sizeOf (Tryz.prog.elem 22)).run Tryz.prog W = .ok 2 W := by kernel_rfl
theorem under_mk : Tryz.prog.underlying 22 = some (.slice (Tryz.prog.elem 22)) := by kernel_rfl
theorem mkcells_drop (L : List MkD) (q : Nat) (h : q ≤ L.length) : (mkcells L).drop (q * 2) = mkcells (L.drop q) := by
  conv => lhs; rw [← List.take_append_drop q L, mkcells_app]
  have e : (mkcells (L.take q)).length = q * 2 := by rw [mkcells_len, List.length_take]; congr 1; omega
  rw [List.drop_left' e]
theorem mkcells_take (L : List MkD) (q : Nat) (h : q ≤ L.length) : (mkcells L).take (q * 2) = mkcells (L.take q) := by
  conv => lhs; rw [← List.take_append_drop q L, mkcells_app]
  have e : (mkcells (L.take q)).length = q * 2 := by rw [mkcells_len, List.length_take]; congr 1; omega
  rw [List.take_left' e]
theorem put_at (m : MkD) : ∀ (L : List MkD) (k : Nat), k ≤ L.length → (∀ t, t < k → (L.getD t mk0).f < m.f) → (k = L.length ∨ m.f < (L.getD k mk0).f) → putL L m = L.take k ++ m :: L.drop k
  | [], k, hk, _, _ => by
    simp at hk
    subst hk
    rfl
  | x :: L, 0, _, _, h => by
    have hx : m.f < x.f := by
      rcases h with h | h
      · simp at h
      · simpa using h
    simp [putL, show ¬ x.f < m.f by omega, show ¬ x.f = m.f by omega]
  | x :: L, k + 1, hk, h1, h => by
    have hx : x.f < m.f := by simpa using h1 0 (by omega)
    have := put_at m L k (by simpa using hk) (fun t ht => by simpa using h1 (t + 1) (by omega)) (by simpa using h)
    simp [putL, hx, this]
theorem put_same (m : MkD) : ∀ (L : List MkD) (k : Nat), k < L.length → (∀ t, t < k → (L.getD t mk0).f < m.f) → (L.getD k mk0).f = m.f → putL L m = L.set k ⟨(L.getD k mk0).f, maxN (L.getD k mk0).note m.note⟩
  | [], k, hk, _, _ => by simp at hk
  | x :: L, 0, _, _, h => by
    have hx : x.f = m.f := by simpa using h
    simp [putL, hx]
  | x :: L, k + 1, hk, h1, h => by
    have hx : x.f < m.f := by simpa using h1 0 (by omega)
    have := put_same m L k (by simpa using hk) (fun t ht => by simpa using h1 (t + 1) (by omega)) (by simpa using h)
    simp [putL, hx, this]
theorem set_self (L : List MkD) {k : Nat} (hk : k < L.length) (y : MkD) (h : L.getD k mk0 = y) : L.set k y = L := by
  subst h
  apply List.ext_getElem
  · simp
  · intro i h1 h2
    rw [List.getElem_set]
    split
    · rename_i e; subst e; simp [List.getD, hk]
    · rfl
theorem own_mk_at {w : World} {base g n c : Nat} {l : List MkD} (h : w.ownsRow base 40 2 (.slice (some ⟨g, 0, none⟩) n c) n (mkcells l)) {i : Nat} (hi : i < n) :
    w.cell? ⟨g, i * 2, none⟩ = some (.int .u64 (l.getD i mk0).f) ∧ w.cell? ⟨g, i * 2 + 1, none⟩ = some (.string (l.getD i mk0).note) ∧ w.frozen? ⟨g, i * 2 + 1, none⟩ = false := by
  have hl := h.1
  rw [mkcells_len] at hl
  have key : ∀ j, j < 2 → w.cell? ⟨g, i * 2 + j, none⟩ = (mkC (l.getD i mk0))[j]? := by
    intro j hj
    have e : (mkcells l)[i * 2 + j]? = (mkC (l.getD i mk0))[j]? := by
      unfold mkcells
      rw [flat_at mkC_len l i j hj]
      simp [List.getD, show i < l.length by omega]
    have h2 : j < (mkC (l.getD i mk0)).length := by rw [mkC_len]; exact hj
    rw [List.getElem?_eq_getElem h2] at e ⊢
    have q := h.cells (g := g) rfl _ _ e
    rw [add_at, Nat.zero_add] at q
    exact q
  refine ⟨key 0 (by decide), key 1 (by decide), ?_⟩
  rcases h.2 with ⟨he, _⟩ | ⟨g', cap, cur, he, hbg, hgg, -⟩
  · injection he with he; cases he
  · injection he with e1 e2 e3
    injection e1 with e1
    injection e1 with e1
    subst e1
    exact Holds.free hgg _
theorem own_mk_set {w : World} {base g n c : Nat} {l : List MkD} (h : w.ownsRow base 40 2 (.slice (some ⟨g, 0, none⟩) n c) n (mkcells l)) {i : Nat} (hi : i < n) (s : ByteArray) :
    (w.setCell ⟨g, i * 2 + 1, none⟩ (.string s)).ownsRow base 40 2 (.slice (some ⟨g, 0, none⟩) n c) n (mkcells (l.set i ⟨(l.getD i mk0).f, s⟩)) := by
  have hl := h.1
  rw [mkcells_len] at hl
  rcases h.2 with ⟨he, _⟩ | ⟨g', cap, cur, he, hbg, hgg, hnc, hcm, hcs, htake⟩
  · injection he with he; cases he
  · injection he with h1 h2 h3
    injection h1 with h1
    injection h1 with h1
    subst h1 h3
    refine ⟨by rw [mkcells_len, List.length_set]; exact hl, .inr ⟨g, c, _, rfl, hbg, Holds.set (t := 40) hgg (i * 2 + 1) (.string s), hnc, hcm, by simpa using hcs, ?_⟩⟩
    have e : mkcells (l.set i ⟨(l.getD i mk0).f, s⟩) = (mkcells l).set (i * 2 + 1) (.string s) := by
      have hil : i < l.length := by omega
      apply List.ext_getElem?
      intro k
      rw [List.getElem?_set]
      have hd : k = k / 2 * 2 + k % 2 := by omega
      have hm : k % 2 < 2 := Nat.mod_lt _ (by decide)
      unfold mkcells
      generalize k / 2 = q at hd
      generalize k % 2 = r at hd hm
      subst hd
      rw [flat_at mkC_len _ q r hm, flat_at mkC_len _ q r hm, List.getElem?_set]
      by_cases hq : i = q
      · subst hq
        simp only [if_pos rfl]
        rw [if_pos hil]
        by_cases hr : r = 1
        · subst hr
          have hln : i * 2 + 1 < (l.flatMap mkC).length := by rw [flat_len mkC_len]; omega
          simp only [hln, if_true]
          rfl
        · have hr0 : r = 0 := by omega
          subst hr0
          have hne : ¬ (i * 2 + 1 = i * 2 + 0) := by omega
          simp [mkC, List.getD, hil]
      · rw [if_neg hq, if_neg (by omega)]
    rw [e, ← htake]
    simp only [Array.toList_setIfInBounds]
    rw [List.take_set]
def PutE (w0 : World) (l : List MkD) (e : Ending) (w' : World) : Prop := ∃ v n, e = .returned v ∧ n = l.length ∧ w'.ownsRow w0.heap.size 40 2 v n (mkcells l) ∧ Below w0.heap.size w0 w'
def DN (V W : World) : Prop := ∃ q, W = V.drewN q
theorem DN.drewN {V W : World} (h : DN V W) (n : Nat) : DN V (W.drewN n) := by
  obtain ⟨q, rfl⟩ := h
  exact ⟨q + n, by simp [World.drewN, Nat.add_assoc]⟩
theorem DN.below {V W : World} (h : DN V W) (B : Nat) : Below B V W := by
  obtain ⟨q, rfl⟩ := h
  exact Below.drewN (Below.refl _ _) q
theorem DN.own {V W : World} (h : DN V W) {base : Nat} {e : TypeId} {size n : Nat} {v : Value} {xs : List Value} (ho : V.ownsRow base e size v n xs) : W.ownsRow base e size v n xs := own_below ho (h.below _)
set_option maxRecDepth 100000 in
set_option maxHeartbeats 8000000 in
theorem rput_any (w0 w : World) (v : Value) (n : Nat) (L : List MkD) (mf : Int) (ms : ByteArray) (hn : n ≤ 90000) (ho : w.ownsRow w0.heap.size 40 2 v n (mkcells L)) (hb : Below w0.heap.size w0 w) :
    Calls Tryz.prog 44 #[v, .agg #[.int .u64 mf, .string ms]] w (PutE w0 (putL L ⟨mf, ms⟩)) := by
  obtain ⟨i0, z0, hi, hz0, hz1, hz2, hz6⟩ := infoMkZ
  have hol : L.length = n := by
    have := ho.1
    rw [mkcells_len] at this
    omega
  have hst := Lib.hid (fun k h1 h2 h3 => put_at ⟨mf, ms⟩ L k h1 h2 h3)
  have hsm := Lib.hid (fun k h1 h2 h3 => put_same ⟨mf, ms⟩ L k h1 h2 h3)
  have hfin5 : Hid (∀ k, mkcells (L.take k ++ ⟨mf, ms⟩ :: L.drop k) = mkcells (L.take k) ++ mkC ⟨mf, ms⟩ ++ mkcells (L.drop k)) := Lib.hid (fun k => by simp [mkcells])
  obtain ⟨ao, co, rfl, hlc, hcm, hse⟩ := seesC_own ho
  obtain ⟨Vb, hV⟩ : ∃ V, V = w.alloc (.cells #[.int .u64 mf, .string ms] 40) := ⟨_, rfl⟩
  have bV : Below w.heap.size w Vb := by rw [hV]; exact box_below _ _ _
  obtain ⟨gb, hgb⟩ : ∃ gb, gb = w.heap.size := ⟨_, rfl⟩
  have HB : Hid (Holds Vb gb 40 #[.int .u64 mf, .string ms]) := Lib.hid (by rw [hV, hgb]; exact Holds.new _ _ _)
  have hb0 := Lib.hid (hb.trans (bV.mono hb.size))
  have hown := Lib.hid (own_below ho bV)
  have hRO : Hid (RO mkC Vb ao n co L) := Lib.hid (RO.below ⟨hol.symm, hlc, hcm, hse⟩ bV)
  have hse' : Hid (SeesC Vb.heap.size Vb ao (mkcells L)) := Lib.hid ((hse.below bV).mono bV.size)
  have hol' := Lib.hid hol
  have hgl : Hid (∀ g, ao = some ⟨g, 0, none⟩ → g < gb) := Lib.hid (fun g h => by rw [hgb]; exact (ho.lt g (by rw [h]; rfl)).2)
  have hV' := Lib.hid hV
  have hgb' := Lib.hid hgb
  have hc0 := HB.out.cell 0
  have hc1 := HB.out.cell 1
  clear hc0 hc1
  obtain ⟨O2, hO2⟩ : ∃ O2, putL L ⟨mf, ms⟩ = O2 := ⟨_, rfl⟩
  rw [hO2] at hst hsm
  rw [hO2]
  clear ho hb hse hV hgb bV hol hO2
  go_enter Tryz.func44, Tryz.ntmps44
  go_wp2_with fail
  rw [← hV'.out, ← hgb'.out]
  clear hV' hgb'
  go_wp2
  go_loopw [5] (fun x wk => ∃ k : Nat, k ≤ n ∧ x = .int .i64 k ∧ Hid (∀ j, j < k → (L.getD j mk0).f < mf) ∧ Hid (DN Vb wk)) (fun x _ => n - (intOf x).toNat)
  case atStart => exact ⟨0, Nat.zero_le _, rfl, Lib.hid (fun j h => by omega), Lib.hid ⟨0, rfl⟩⟩
  case round =>
    obtain ⟨k, hk, rfl, hal, hq⟩ := hrel
    generalize wr = W0 at *
    by_cases hlt : k < n
    · have hki : (k : Int) < (n : Int) := by omega
      obtain ⟨g, rfl⟩ : ∃ g, ao = some ⟨g, 0, none⟩ := by
        rcases hown.out.2 with ⟨he, _⟩ | ⟨g', cap, cur, he, -⟩
        · injection he with e1 e2 e3; omega
        · injection he with e1 e2 e3; exact ⟨g', e1⟩
      obtain ⟨x0, x1, fx⟩ := own_mk_at (hq.out.own hown.out) hlt
      have hc0 := (HB.out.below (hq.out.below _) HB.out.lt).cell 0
      have hc1 := (HB.out.below (hq.out.below _) HB.out.lt).cell 1
      simp at hc0 hc1
      have hset := Lib.hid (fun s W (hW : DN Vb W) => own_mk_set (hW.own hown.out) hlt s)
      have hgg : w0.heap.size ≤ g := (hown.out.lt g rfl).1
      have hgne : gb ≠ g := by
        have h1 := hgl.out g rfl
        omega
      have hsm' := Lib.hid (fun h3 => hsm.out k (by rw [hol'.out]; exact hlt) hal.out h3)
      have hst' := Lib.hid (fun h3 => hst.out k (by rw [hol'.out]; omega) hal.out (.inr h3))
      have hself := Lib.hid (fun y h => set_self L (k := k) (by rw [hol'.out]; exact hlt) y h)
      have hal2 : Hid ((L.getD k mk0).f < mf → ∀ t, t < k + 1 → (L.getD t mk0).f < mf) := Lib.hid (fun h t ht => by
        by_cases e : t = k
        · rw [e]; exact h
        · exact hal.out t (by omega))
      have hLk : Hid (L.getD k mk0 = ⟨(L.getD k mk0).f, (L.getD k mk0).note⟩) := Lib.hid rfl
      generalize (L.getD k mk0).f = f at *
      generalize (L.getD k mk0).note = s at *
      clear hal hst hsm
      by_cases h1 : f < mf
      · have hA := Lib.hid (hal2.out h1)
        clear hal2 hsm' hst' hset hself hLk
        go_wp2
        go_quiet (fail)
        go_wp2
        go_roundw
        case rel => exact ⟨k + 1, by omega, by go_num, hA, Lib.hid (hq.out.drewN _)⟩
        case measure => simp [intOf]; omega
      · clear hal2
        by_cases h2 : f = mf
        · have h2b : (f == mf) = true := by simpa using h2
          have hO := Lib.hid (hsm'.out h2)
          clear hsm' hst'
          cases hnn : lt8 (byt s) (byt ms) with
          | true =>
            have hM : maxN s ms = ms := by unfold maxN; rw [if_pos hnn]
            rw [hM] at hO
            obtain ⟨hb1, hb2⟩ := gtr_yes hnn
            go_wp2
            go_quiet (fail)
            go_wp2
            go_quiet (fail)
            go_wp2
            go_quiet (fail)
            go_wp2
            exact bodyPost_ret (results_tmp rfl _ _ _) rfl ⟨_, n, rfl, by rw [hO.out, List.length_set]; exact hol'.out.symm, by rw [hO.out]; exact hset.out ms _ (hq.out.drewN _), bl_set (hb0.out.trans (((hq.out.drewN _).below _).mono hb0.out.size)) (p := ⟨g, k * 2 + 1, none⟩) hgg _⟩
          | false =>
            have hM : maxN s ms = s := by unfold maxN; rw [if_neg (by rw [hnn]; decide)]
            rw [hM, hself.out _ hLk.out] at hO
            rcases gtr_no hnn with hb1 | rfl
            · go_wp2
              go_quiet (fail)
              go_wp2
              go_quiet (fail)
              go_wp2
              go_quiet (fail)
              go_wp2
              exact bodyPost_ret (results_tmp rfl _ _ _) rfl ⟨_, n, rfl, by rw [hO.out]; exact hol'.out.symm, by rw [hO.out]; exact (((hq.out.drewN _).drewN _).drewN _).own hown.out, hb0.out.trans (((((hq.out.drewN _).drewN _).drewN _).below _).mono hb0.out.size)⟩
            · have hb2 : (ms.toList == ms.toList) = true := by simp
              go_wp2
              go_quiet (fail)
              go_wp2
              go_quiet (fail)
              go_wp2
              go_quiet (fail)
              go_wp2
              exact bodyPost_ret (results_tmp rfl _ _ _) rfl ⟨_, n, rfl, by rw [hO.out]; exact hol'.out.symm, by rw [hO.out]; exact (((hq.out.drewN _).drewN _).drewN _).own hown.out, hb0.out.trans (((((hq.out.drewN _).drewN _).drewN _).below _).mono hb0.out.size)⟩
        · have h2b : (f == mf) = false := by simpa using h2
          have hO3 := Lib.hid (hst'.out (by omega))
          clear hst' hsm' hset hself hLk
          go_wp2
          go_quiet (fail)
          generalize nq = m1 at *
          go_wp2
          go_quiet (fail)
          generalize nq = m2 at *
          have hBk2 := ((hq.out.drewN m1).drewN m2).below Vb.heap.size
          generalize (W0.drewN m1).drewN m2 = V at hBk2 ⊢
          have hVz : V.heap.size = V.heap.size := rfl
          have hol := hol'.out
          obtain ⟨ad, hsl1, hsd, hnd⟩ := hse'.out.cut 2 k n co (by rw [mkcells_len, hol]; omega) (by omega) hlc (by omega)
          obtain ⟨ae, hsl2, hsf, hnf⟩ := hse'.out.cut 2 0 k k (by rw [mkcells_len, hol]; omega) (by omega) (Nat.le_refl _) (by omega)
          have g1' := ccut_l under_mk size_mk _ n co k hsl1 (by omega)
          have g2' := ccut_hm under_mk size_mk _ n co k k hsl2 (Nat.le_refl _) (by omega)
          have nl : (mkcells L).length = n * 2 := by rw [mkcells_len, hol]
          simp only [List.take_of_length_le (Nat.le_of_eq nl), mkcells_drop L k (by omega), mkcells_take L k (by omega), List.drop_zero, Nat.sub_zero, Nat.zero_mul] at hsd hsf g1' g2'
          have hne : ae = none → k = 0 ∧ k = 0 := by
            intro h
            by_cases h0 : k = 0
            · exact ⟨h0, h0⟩
            · rcases hsf with h1 | ⟨g, off, h1, _⟩
              · have h3 : (mkcells (L.take k)).length = 0 := by rw [h1]; rfl
                rw [mkcells_len, List.length_take] at h3; omega
              · rw [h] at h1; cases h1
          have hne' := Lib.hid hne
          have hk5 : k ≤ 100000 := by omega
          have hko5 : n - k ≤ 100000 := by omega
          have hBV : Below w0.heap.size w0 V := hb0.out.trans (hBk2.mono hb0.out.size)
          have hsfV : SeesC V.heap.size V ae (mkcells (L.take k)) := (hsf.below hBk2).mono hBk2.size
          obtain ⟨W2, hW2⟩ : ∃ W2, W2 = V.alloc (.cells #[] 40) := ⟨_, rfl⟩
          have hBx : Below V.heap.size V W2 := by rw [hW2]; exact (Below.refl _ _).alloc (Nat.le_refl _) _
          have hBx' := Lib.hid hBx
          have hsd2 : Hid (SeesC W2.heap.size W2 ad (mkcells (L.drop k))) := Lib.hid (by
            have : SeesC V.heap.size V ad (mkcells (L.drop k)) := (hsd.below hBk2).mono hBk2.size
            exact (this.below hBx).mono hBx.size)
          have hro : Hid (W2.ownsRow V.heap.size 40 2 (.slice (some ⟨V.heap.size, 0, none⟩) 0 0) 0 []) := Lib.hid (by rw [hW2, ← hVz]; exact own_cells V 40 2 0 #[] (by simp) (by simp [maxLen]))
          have hdl : Hid ((mkcells (L.drop k)).length = (n - k) * 2) := Lib.hid (by rw [mkcells_len, List.length_drop, hol])
          have htl : Hid ((mkcells (L.take k)).length = k * 2) := Lib.hid (by rw [mkcells_len, List.length_take, hol]; congr 1; omega)
          have hW2' := Lib.hid hW2
          have hBV' := Lib.hid hBV
          have hsfV' := Lib.hid hsfV
          have hHM := Lib.hid (HB.out.below hBk2 HB.out.lt)
          have hone : Hid (∀ q : List MkD, ∀ u ∈ mkcells q, u.oneCell' = true) := Lib.hid (fun q u hu => mkcells_one hu)
          have hgV : gb < V.heap.size := hHM.out.lt
          clear hsl1 hsl2 hsd hsf hnd hnf hse' hown hBx hW2 hBV hsfV hne hVz hol nl hBk2 hRO HB
          go_wp2_with (at_builtin; go_loud (rw [← hW2'.out]; refine wpList_append_cellsB _ rfl (.tmp 52) (.tmp 55) 22 rfl V 40 i0 z0 2 24 Tryz.underlying22 hi hz0 hz1 hz2 hz6 (by decide) _ 0 [] hro.out hBx'.out W2.heap.size ad (n - k) (co - k) (mkcells (L.drop k)) hdl.out hsd2.out (hone.out _) rfl rfl (by simp [maxLen]; omega) (by omega) ?_); intro v3 w3 own3 b3; simp only [List.nil_append, Nat.zero_add] at own3)
          obtain ⟨a3, c3, rfl, -, -, s3⟩ := seesC_own own3
          have hsz : SeesC w3.drew.heap.size w3.drew a3 (mkcells (L.drop k)) := s3
          have hall : Below V.heap.size V w3.drew := b3.drew
          have h0 : ∀ W, Below V.heap.size V W → W.cell? ⟨gb, 0, none⟩ = some (.int .u64 mf) := fun W hW => (hW.cell (p := ⟨gb, 0, none⟩) hgV).trans (hHM.out.cell 0)
          have h1 : ∀ W, Below V.heap.size V W → W.cell? ⟨gb, 1, none⟩ = some (.string ms) := fun W hW => (hW.cell (p := ⟨gb, 1, none⟩) hgV).trans (hHM.out.cell 1)
          clear own3 s3 hro hsd2
          refine wp_drawn_on (fun W => Below V.heap.size V W) (by kernel_rfl) (b3.drew) (fun hHeld => ?_)
          generalize w3.drew = W4 at hsz hall hHeld ⊢
          refine wT 0 (v := ?v1) rfl (by kernel_rfl) (fun _ _ _ h => h) ?h1 (by assumption) ?r1
          case h1 => (intro w hSw; (try dsimp only at hSw); go_simp; try with_reducible rfl)
          refine wT 1 (v := ?v2) rfl (by kernel_rfl) (fun _ _ _ h => h) ?h2 (by assumption) ?r2
          case h2 => (intro w hSw; (try dsimp only at hSw); go_simp; try with_reducible rfl)
          refine wT 2 (v := ?v3) rfl (by kernel_rfl) (fun _ _ _ h => h) ?h3 (by assumption) ?r3
          case h3 => (intro w hSw; (try dsimp only at hSw); go_simp; try with_reducible rfl)
          refine wT 3 (v := ?v4) rfl (by kernel_rfl) (fun _ _ _ h => h) ?h4 (by assumption) ?r4
          case h4 => (intro w hSw; (try dsimp only at hSw); go_simp; try with_reducible rfl)
          refine wT 4 (v := ?v5) rfl (by kernel_rfl) (fun _ _ _ h => h) ?h5 (by assumption) ?r5
          case h5 => (intro w hSw; (try dsimp only at hSw); go_simp; try with_reducible rfl)
          refine wT 7 (v := ?v6) rfl (by kernel_rfl) (fun _ _ _ h => h) ?h6 (by assumption) ?r6
          case h6 => (intro w hSw; (try dsimp only at hSw); go_simp; try with_reducible rfl)
          try simp only [Act.put, List.setIfInBounds_toArray, List.set_cons_zero, List.set_cons_succ]
          refine wpAnyH_ready (rs := [5]) (by kernel_rfl) (by simp) ?_
          refine AllReadyH.cons (o := ⟨_, _, _, _, _, _⟩) rfl (fun K hK => ?_) AllReadyH.nil
          go_simp
          have hx8 := hHeld.alloc hHeld.size (.cells #[.int .u64 mf, .string ms] 40)
          have s8 := seesC_lit (W4) 40 #[.int .u64 mf, .string ms]
          have s38 := (hsz.below (box_below (W4) #[.int .u64 mf, .string ms] 40)).mono (box_below (W4) #[.int .u64 mf, .string ms] 40).size
          go_simp
          generalize hw8 : (W4).alloc (.cells #[.int .u64 mf, .string ms] 40) = w8 at *
          generalize (W4).heap.size = g8 at *
          refine hK.out _ _ (hx8) (fun hHeld => ?_)
          clear hK K
          try simp only [Act.put, List.setIfInBounds_toArray, List.set_cons_zero, List.set_cons_succ]
          refine wpAnyH_ready (rs := [6]) (by kernel_rfl) (by simp) ?_
          refine AllReadyH.cons (o := ⟨_, _, _, _, _, _⟩) rfl (fun K hK => ?_) AllReadyH.nil
          refine wp_append_full _ (.tmp 60) (.tmp 62) 22 rfl 40 i0 z0 2 24 Tryz.underlying22 hi hz0 hz1 hz2 hz6 (by decide) ae k k (mkcells (L.take k)) rfl hne'.out htl.out w8.heap.size ((hsfV'.out.below hHeld).mono hHeld.size) ⟨g8, 0, none⟩ 1 1 [.int .u64 mf, .string ms] rfl (by simp) s8 (by intro u hu; simp at hu; rcases hu with rfl | rfl <;> rfl) (by omega) (by simp [maxLen]; omega) (by omega) ?_
          intro v9 w9 own9 grow9
          have bg9 : Below w8.heap.size w8 w9 := (Below.refl _ _).grown grow9 (Nat.le_refl _) (by intro k hk; cases hk)
          have hx9 := hHeld.trans (bg9.mono hHeld.size)
          have s39 := (s38.below bg9).mono bg9.size
          have own9' := own_from own9 (B := w0.heap.size) (fun k hk => by have q1 := (own9.lt k hk).1; have q2 := hHeld.size; have q3 := hBV'.out.size; omega)
          refine hK.out _ _ (hx9) (fun hHeld => ?_)
          clear hK K
          try simp only [Act.put, List.setIfInBounds_toArray, List.set_cons_zero, List.set_cons_succ]
          refine wpAnyH_ready (rs := [8]) (by kernel_rfl) (by simp) ?_
          refine AllReadyH.cons (o := ⟨_, _, _, _, _, _⟩) rfl (fun K hK => ?_) AllReadyH.nil
          refine wp_append_cellsB _ (.tmp 63) (.tmp 64) 22 rfl w0.heap.size 40 i0 z0 2 24 Tryz.underlying22 hi hz0 hz1 hz2 hz6 (by decide) v9 (k + 1) _ own9' (by have q2 := hHeld.size; have q3 := hBV'.out.size; omega) _ a3 (n - k) c3 (mkcells (L.drop k)) hdl.out s39 (hone.out _) rfl rfl (by simp [maxLen]; omega) (by omega) ?_
          intro v11 w11 own11 grow11
          have hx11 : Below V.heap.size V w11 := hHeld.grown grow11 hHeld.size (fun k hk => by have q1 := (own9.lt k hk).1; have q2 := hx8.size; omega)
          refine hK.out _ _ (hx11) (fun hHeld => ?_)
          clear hK K
          refine wT 9 (v := ?v7) rfl (by kernel_rfl) (fun _ _ _ h => h) ?h7 (by assumption) ?r7
          case h7 => (intro w hSw; (try dsimp only at hSw); go_simp; try with_reducible rfl)
          try simp only [Act.put, List.setIfInBounds_toArray, List.set_cons_zero, List.set_cons_succ]
          refine wpAnyH_done (by kernel_rfl) ?_ _
          have hfin : Hid (w11.ownsRow w0.heap.size 40 2 v11 (n + 1) (mkcells (L.take k ++ ⟨mf, ms⟩ :: L.drop k)) ∧ Below w0.heap.size w0 w11) := Lib.hid ⟨by rw [hfin5.out k, show n + 1 = k + 1 + (n - k) by omega]; exact own11, hBV'.out.trans (hx11.mono hBV'.out.size)⟩
          clear own11 grow11 hx11 own9' own9 grow9 bg9 s39 s38 s8 hx8 hx9 hHeld h0 h1
          go_wp2
          go_ret
          exact ⟨v11, n + 1, rfl, by rw [hO3.out]; simp [List.length_take]; have := hol'.out; omega, by rw [hO3.out]; exact hfin.out.1, hfin.out.2⟩
    · have hki : ¬ (k : Int) < (n : Int) := by omega
      have hO3 := Lib.hid (hst.out k (by rw [hol'.out]; omega) hal.out (.inl (by rw [hol'.out]; omega)))
      clear hst hsm
      go_wp2
      go_quiet (fail)
      generalize nq = m1 at *
      go_wp2
      go_quiet (fail)
      generalize nq = m2 at *
      have hBk2 := ((hq.out.drewN m1).drewN m2).below Vb.heap.size
      generalize (W0.drewN m1).drewN m2 = V at hBk2 ⊢
      have hVz : V.heap.size = V.heap.size := rfl
      have hol := hol'.out
      obtain ⟨ad, hsl1, hsd, hnd⟩ := hse'.out.cut 2 k n co (by rw [mkcells_len, hol]; omega) (by omega) hlc (by omega)
      obtain ⟨ae, hsl2, hsf, hnf⟩ := hse'.out.cut 2 0 k k (by rw [mkcells_len, hol]; omega) (by omega) (Nat.le_refl _) (by omega)
      have g1' := ccut_l under_mk size_mk _ n co k hsl1 (by omega)
      have g2' := ccut_hm under_mk size_mk _ n co k k hsl2 (Nat.le_refl _) (by omega)
      have nl : (mkcells L).length = n * 2 := by rw [mkcells_len, hol]
      simp only [List.take_of_length_le (Nat.le_of_eq nl), mkcells_drop L k (by omega), mkcells_take L k (by omega), List.drop_zero, Nat.sub_zero, Nat.zero_mul] at hsd hsf g1' g2'
      have hne : ae = none → k = 0 ∧ k = 0 := by
        intro h
        by_cases h0 : k = 0
        · exact ⟨h0, h0⟩
        · rcases hsf with h1 | ⟨g, off, h1, _⟩
          · have h3 : (mkcells (L.take k)).length = 0 := by rw [h1]; rfl
            rw [mkcells_len, List.length_take] at h3; omega
          · rw [h] at h1; cases h1
      have hne' := Lib.hid hne
      have hk5 : k ≤ 100000 := by omega
      have hko5 : n - k ≤ 100000 := by omega
      have hBV : Below w0.heap.size w0 V := hb0.out.trans (hBk2.mono hb0.out.size)
      have hsfV : SeesC V.heap.size V ae (mkcells (L.take k)) := (hsf.below hBk2).mono hBk2.size
      obtain ⟨W2, hW2⟩ : ∃ W2, W2 = V.alloc (.cells #[] 40) := ⟨_, rfl⟩
      have hBx : Below V.heap.size V W2 := by rw [hW2]; exact (Below.refl _ _).alloc (Nat.le_refl _) _
      have hBx' := Lib.hid hBx
      have hsd2 : Hid (SeesC W2.heap.size W2 ad (mkcells (L.drop k))) := Lib.hid (by
        have : SeesC V.heap.size V ad (mkcells (L.drop k)) := (hsd.below hBk2).mono hBk2.size
        exact (this.below hBx).mono hBx.size)
      have hro : Hid (W2.ownsRow V.heap.size 40 2 (.slice (some ⟨V.heap.size, 0, none⟩) 0 0) 0 []) := Lib.hid (by rw [hW2, ← hVz]; exact own_cells V 40 2 0 #[] (by simp) (by simp [maxLen]))
      have hdl : Hid ((mkcells (L.drop k)).length = (n - k) * 2) := Lib.hid (by rw [mkcells_len, List.length_drop, hol])
      have htl : Hid ((mkcells (L.take k)).length = k * 2) := Lib.hid (by rw [mkcells_len, List.length_take, hol]; congr 1; omega)
      have hW2' := Lib.hid hW2
      have hBV' := Lib.hid hBV
      have hsfV' := Lib.hid hsfV
      have hHM := Lib.hid (HB.out.below hBk2 HB.out.lt)
      have hone : Hid (∀ q : List MkD, ∀ u ∈ mkcells q, u.oneCell' = true) := Lib.hid (fun q u hu => mkcells_one hu)
      have hgV : gb < V.heap.size := hHM.out.lt
      clear hsl1 hsl2 hsd hsf hnd hnf hse' hown hBx hW2 hBV hsfV hne hVz hol nl hBk2 hRO HB
      go_wp2_with (at_builtin; go_loud (rw [← hW2'.out]; refine wpList_append_cellsB _ rfl (.tmp 52) (.tmp 55) 22 rfl V 40 i0 z0 2 24 Tryz.underlying22 hi hz0 hz1 hz2 hz6 (by decide) _ 0 [] hro.out hBx'.out W2.heap.size ad (n - k) (co - k) (mkcells (L.drop k)) hdl.out hsd2.out (hone.out _) rfl rfl (by simp [maxLen]; omega) (by omega) ?_); intro v3 w3 own3 b3; simp only [List.nil_append, Nat.zero_add] at own3)
      obtain ⟨a3, c3, rfl, -, -, s3⟩ := seesC_own own3
      have hsz : SeesC w3.drew.heap.size w3.drew a3 (mkcells (L.drop k)) := s3
      have hall : Below V.heap.size V w3.drew := b3.drew
      have h0 : ∀ W, Below V.heap.size V W → W.cell? ⟨gb, 0, none⟩ = some (.int .u64 mf) := fun W hW => (hW.cell (p := ⟨gb, 0, none⟩) hgV).trans (hHM.out.cell 0)
      have h1 : ∀ W, Below V.heap.size V W → W.cell? ⟨gb, 1, none⟩ = some (.string ms) := fun W hW => (hW.cell (p := ⟨gb, 1, none⟩) hgV).trans (hHM.out.cell 1)
      clear own3 s3 hro hsd2
      refine wp_drawn_on (fun W => Below V.heap.size V W) (by kernel_rfl) (b3.drew) (fun hHeld => ?_)
      generalize w3.drew = W4 at hsz hall hHeld ⊢
      refine wT 0 (v := ?v8) rfl (by kernel_rfl) (fun _ _ _ h => h) ?h8 (by assumption) ?r8
      case h8 => (intro w hSw; (try dsimp only at hSw); go_simp; try with_reducible rfl)
      refine wT 1 (v := ?v9) rfl (by kernel_rfl) (fun _ _ _ h => h) ?h9 (by assumption) ?r9
      case h9 => (intro w hSw; (try dsimp only at hSw); go_simp; try with_reducible rfl)
      refine wT 2 (v := ?v10) rfl (by kernel_rfl) (fun _ _ _ h => h) ?h10 (by assumption) ?r10
      case h10 => (intro w hSw; (try dsimp only at hSw); go_simp; try with_reducible rfl)
      refine wT 3 (v := ?v11) rfl (by kernel_rfl) (fun _ _ _ h => h) ?h11 (by assumption) ?r11
      case h11 => (intro w hSw; (try dsimp only at hSw); go_simp; try with_reducible rfl)
      refine wT 4 (v := ?v12) rfl (by kernel_rfl) (fun _ _ _ h => h) ?h12 (by assumption) ?r12
      case h12 => (intro w hSw; (try dsimp only at hSw); go_simp; try with_reducible rfl)
      refine wT 7 (v := ?v13) rfl (by kernel_rfl) (fun _ _ _ h => h) ?h13 (by assumption) ?r13
      case h13 => (intro w hSw; (try dsimp only at hSw); go_simp; try with_reducible rfl)
      try simp only [Act.put, List.setIfInBounds_toArray, List.set_cons_zero, List.set_cons_succ]
      refine wpAnyH_ready (rs := [5]) (by kernel_rfl) (by simp) ?_
      refine AllReadyH.cons (o := ⟨_, _, _, _, _, _⟩) rfl (fun K hK => ?_) AllReadyH.nil
      go_simp
      have hx8 := hHeld.alloc hHeld.size (.cells #[.int .u64 mf, .string ms] 40)
      have s8 := seesC_lit (W4) 40 #[.int .u64 mf, .string ms]
      have s38 := (hsz.below (box_below (W4) #[.int .u64 mf, .string ms] 40)).mono (box_below (W4) #[.int .u64 mf, .string ms] 40).size
      go_simp
      generalize hw8 : (W4).alloc (.cells #[.int .u64 mf, .string ms] 40) = w8 at *
      generalize (W4).heap.size = g8 at *
      refine hK.out _ _ (hx8) (fun hHeld => ?_)
      clear hK K
      try simp only [Act.put, List.setIfInBounds_toArray, List.set_cons_zero, List.set_cons_succ]
      refine wpAnyH_ready (rs := [6]) (by kernel_rfl) (by simp) ?_
      refine AllReadyH.cons (o := ⟨_, _, _, _, _, _⟩) rfl (fun K hK => ?_) AllReadyH.nil
      refine wp_append_full _ (.tmp 60) (.tmp 62) 22 rfl 40 i0 z0 2 24 Tryz.underlying22 hi hz0 hz1 hz2 hz6 (by decide) ae k k (mkcells (L.take k)) rfl hne'.out htl.out w8.heap.size ((hsfV'.out.below hHeld).mono hHeld.size) ⟨g8, 0, none⟩ 1 1 [.int .u64 mf, .string ms] rfl (by simp) s8 (by intro u hu; simp at hu; rcases hu with rfl | rfl <;> rfl) (by omega) (by simp [maxLen]; omega) (by omega) ?_
      intro v9 w9 own9 grow9
      have bg9 : Below w8.heap.size w8 w9 := (Below.refl _ _).grown grow9 (Nat.le_refl _) (by intro k hk; cases hk)
      have hx9 := hHeld.trans (bg9.mono hHeld.size)
      have s39 := (s38.below bg9).mono bg9.size
      have own9' := own_from own9 (B := w0.heap.size) (fun k hk => by have q1 := (own9.lt k hk).1; have q2 := hHeld.size; have q3 := hBV'.out.size; omega)
      refine hK.out _ _ (hx9) (fun hHeld => ?_)
      clear hK K
      try simp only [Act.put, List.setIfInBounds_toArray, List.set_cons_zero, List.set_cons_succ]
      refine wpAnyH_ready (rs := [8]) (by kernel_rfl) (by simp) ?_
      refine AllReadyH.cons (o := ⟨_, _, _, _, _, _⟩) rfl (fun K hK => ?_) AllReadyH.nil
      refine wp_append_cellsB _ (.tmp 63) (.tmp 64) 22 rfl w0.heap.size 40 i0 z0 2 24 Tryz.underlying22 hi hz0 hz1 hz2 hz6 (by decide) v9 (k + 1) _ own9' (by have q2 := hHeld.size; have q3 := hBV'.out.size; omega) _ a3 (n - k) c3 (mkcells (L.drop k)) hdl.out s39 (hone.out _) rfl rfl (by simp [maxLen]; omega) (by omega) ?_
      intro v11 w11 own11 grow11
      have hx11 : Below V.heap.size V w11 := hHeld.grown grow11 hHeld.size (fun k hk => by have q1 := (own9.lt k hk).1; have q2 := hx8.size; omega)
      refine hK.out _ _ (hx11) (fun hHeld => ?_)
      clear hK K
      refine wT 9 (v := ?v14) rfl (by kernel_rfl) (fun _ _ _ h => h) ?h14 (by assumption) ?r14
      case h14 => (intro w hSw; (try dsimp only at hSw); go_simp; try with_reducible rfl)
      try simp only [Act.put, List.setIfInBounds_toArray, List.set_cons_zero, List.set_cons_succ]
      refine wpAnyH_done (by kernel_rfl) ?_ _
      have hfin : Hid (w11.ownsRow w0.heap.size 40 2 v11 (n + 1) (mkcells (L.take k ++ ⟨mf, ms⟩ :: L.drop k)) ∧ Below w0.heap.size w0 w11) := Lib.hid ⟨by rw [hfin5.out k, show n + 1 = k + 1 + (n - k) by omega]; exact own11, hBV'.out.trans (hx11.mono hBV'.out.size)⟩
      clear own11 grow11 hx11 own9' own9 grow9 bg9 s39 s38 s8 hx8 hx9 hHeld h0 h1
      go_wp2
      go_ret
      exact ⟨v11, n + 1, rfl, by rw [hO3.out]; simp [List.length_take]; have := hol'.out; omega, by rw [hO3.out]; exact hfin.out.1, hfin.out.2⟩
end Go.Proofs.YtpchncpcckfghaaGreat
namespace Go.Proofs.YtpchncpcckfghaaGreat
open Go.RowKit
set_option linter.unusedVariables false
set_option linter.unusedSimpArgs false
theorem put_len (m : MkD) : ∀ L : List MkD, (putL L m).length ≤ L.length + 1
  | [] => by simp [putL]
  | t :: L => by
    have := put_len m L
    unfold putL
    split
    · simp; omega
    · split <;> simp
theorem union_next (A B : List MkD) {k : Nat} (hk : k < B.length) : unionR A (B.take (k + 1)) = putL (unionR A (B.take k)) (B.getD k mk0) := by
  have e : B.take (k + 1) = B.take k ++ [B.getD k mk0] := by rw [List.take_add_one]; simp [List.getD, hk]
  rw [e]
  unfold unionR
  rw [List.foldl_append]
  rfl
theorem union_len : ∀ (B A : List MkD), (unionR A B).length ≤ A.length + B.length
  | [], A => by simp [unionR]
  | m :: B, A => by
    have h1 := union_len B (putL A m)
    have h2 := put_len m A
    have e : unionR A (m :: B) = unionR (putL A m) B := rfl
    rw [e]
    simp
    omega
set_option maxRecDepth 100000 in
set_option maxHeartbeats 4000000 in
theorem runion_any (w : World) (a1 a2 : Option Addr) (n1 n2 c1 c2 : Nat) (A B : List MkD) (hn1 : n1 ≤ 5000) (hn2 : n2 ≤ 5000) (h1 : RO mkC w a1 n1 c1 A) (h2 : RO mkC w a2 n2 c2 B) :
    Calls Tryz.prog 21 #[.slice a1 n1 c1, .slice a2 n2 c2] w (MkGives w (unionR A B)) := by
  obtain ⟨i0, z0, hi, hz0, hz1, hz2, hz6⟩ := infoMkZ
  have la := h1.len
  have lb := Lib.hid h2.len
  have hnx := Lib.hid (fun k hk => union_next A B (k := k) hk)
  have hln := Lib.hid (fun k => union_len (B.take k) A)
  have qp := Lib.hid (fun W v n L mf ms hn ho hb => rput_any w W v n L mf ms hn ho hb)
  obtain ⟨W1, hW1⟩ : ∃ W1, W1 = w.alloc (.cells #[] 40) := ⟨_, rfl⟩
  have bW : Below w.heap.size w W1 := by rw [hW1]; exact (Below.refl _ _).alloc (Nat.le_refl _) _
  have hs1 := Lib.hid ((h1.below bW).sees)
  have hro : Hid (W1.ownsRow w.heap.size 40 2 (.slice (some ⟨w.heap.size, 0, none⟩) 0 0) 0 []) := Lib.hid (by rw [hW1]; exact own_cells w 40 2 0 #[] (by simp) (by simp [maxLen]))
  have hdl : Hid ((mkcells A).length = n1 * 2) := Lib.hid (by rw [mkcells_len, la])
  have hone : Hid (∀ u ∈ mkcells A, u.oneCell' = true) := Lib.hid (fun u hu => mkcells_one hu)
  have R2 := Lib.hid h2
  have hW1' := Lib.hid hW1
  have bW' := Lib.hid bW
  have la' := Lib.hid la
  clear h1 h2 hW1 bW la
  go_enter Tryz.func21, Tryz.ntmps21
  go_wp2_with (at_builtin; go_loud (rw [← hW1'.out]; refine wpList_append_cellsB _ rfl (.tmp 7) (.tmp 8) 22 rfl w 40 i0 z0 2 24 Tryz.underlying22 hi hz0 hz1 hz2 hz6 (by decide) _ 0 [] hro.out bW'.out W1.heap.size a1 n1 c1 (mkcells A) hdl.out hs1.out hone.out rfl rfl (by simp [maxLen]; omega) (by omega) ?_); intro v3 w3 own3 b3; simp only [List.nil_append, Nat.zero_add] at own3)
  have O3 : Hid (w3.ownsRow w.heap.size 40 2 v3 (unionR A (B.take 0)).length (mkcells (unionR A (B.take 0)))) := Lib.hid (by show w3.ownsRow w.heap.size _ 2 v3 A.length (mkcells A); rw [← la'.out]; exact own3)
  have B3 := Lib.hid b3
  clear own3 b3 hro hs1 hdl hone
  go_loopw [5, 6] (fun v x wr => ∃ k : Nat, k ≤ n2 ∧ x = .int .i64 k ∧ Hid (wr.ownsRow w.heap.size 40 2 v (unionR A (B.take k)).length (mkcells (unionR A (B.take k)))) ∧ Hid (Below w.heap.size w wr)) (fun _ x _ => n2 - (intOf x).toNat)
  case atStart => exact ⟨0, Nat.zero_le _, rfl, O3, B3⟩
  case round =>
    clear O3 B3
    obtain ⟨k, hk, rfl, hO, hB⟩ := hrel
    generalize wr = g0 at *
    by_cases hlt : k < n2
    · have hki : (k : Int) < (n2 : Int) := by omega
      obtain ⟨b, off, rfl, hbl, x0, x1⟩ := mk_at (R2.out.below hB.out) hlt
      have hN := hnx.out k (by rw [← lb.out]; exact hlt)
      have hl : (unionR A (B.take k)).length ≤ 90000 := by
        have := hln.out k
        have := la'.out
        have : (B.take k).length ≤ k := by simp; omega
        omega
      obtain ⟨⟨mf, ms⟩, hm⟩ : ∃ u, B.getD k mk0 = (u : MkD) := ⟨_, rfl⟩
      rw [hm] at x0 x1 hN
      dsimp only at x0 x1
      have q := Lib.hid (qp.out g0 _ _ (unionR A (B.take k)) mf ms hl hO.out hB.out)
      rw [← hN] at q
      clear hm hN hnx hln qp hO
      go_wp2_with fail
      refine q.out.mono ?_
      rintro e w9 ⟨v9, n9, rfl, h9, o9, b9⟩
      have O9 : Hid (w9.ownsRow w.heap.size 40 2 v9 (unionR A (B.take (k + 1))).length (mkcells (unionR A (B.take (k + 1))))) := Lib.hid (by rw [← h9]; exact o9)
      have B9 := Lib.hid b9
      clear o9 b9 h9 q hB
      go_wp2
      go_roundw
      case rel => exact ⟨k + 1, by omega, by go_num, O9, B9⟩
      case measure => simp [intOf]; omega
    · have hki : ¬ (k : Int) < (n2 : Int) := by omega
      have ht : B.take k = B := List.take_of_length_le (by have := lb.out; omega)
      rw [ht] at hO
      obtain ⟨a3, c3, rfl, hro⟩ := mro_own hO.out
      have R3 := Lib.hid hro
      clear hO hro ht hnx hln qp
      go_wp2
      exact bodyPost_ret (results_tmp rfl _ _ _) rfl ⟨a3, c3, rfl, R3.out, hB.out⟩
end Go.Proofs.YtpchncpcckfghaaGreat
