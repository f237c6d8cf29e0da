/-
  Words and walks under the law's proof.
-/
import Derived.Test.YtpchncpcckfghaaGreatQS03
import Derived.Test.YtpchncpcckfghaaGreatQS06
namespace Go.Proofs.YtpchncpcckfghaaGreat
open Go.RowKit
set_option linter.unusedVariables false
set_option linter.unusedSimpArgs false
theorem sameM_refl (l : List MkD) : sameM l l = true := by simp [sameM]
theorem merge_len (A B : List MkD) (ha : baseB A = true) (hb : baseB B = true) : (mergeL A B).length ≤ A.length + B.length := by
  rw [merge_union (baseB_rise ha) (baseB_rise hb)]
  exact union_len B A
set_option maxRecDepth 100000 in
set_option maxHeartbeats 8000000 in
theorem sums_ttt (w : World) (a1 a2 : Option Addr) (n1 n2 c1 c2 : Nat) (l1 l2 : List MkD) (f : Int) (hn1 : n1 ≤ 300) (hn2 : n2 ≤ 300) (hw1 : ∀ t ∈ l1, mkW t) (hw2 : ∀ t ∈ l2, mkW t) (hg1 : bigMk 300 l1 = false) (hg2 : bigMk 300 l2 = false) (h1 : RO mkC w a1 n1 c1 l1) (h2 : RO mkC w a2 n2 c2 l2) (hb1 : baseB l1 = true) (hb2 : baseB l2 = true) (hB : hasB l1 f = true) :
    Calls Tryz.prog 4 #[.slice a1 n1 c1, .slice a2 n2 c2, .int .u64 f] w (Gives (.bool true) w) := by
  have m1 := h1.len
  have m2 := h2.len
  have qg1 := blarge_any w a1 n1 c1 l1 300 h1 hw1
  have qg2 := blarge_any w a2 n2 c2 l2 300 h2 hw2
  rw [hg1] at qg1
  rw [hg2] at qg2
  have QG1 := Lib.hid qg1
  have QG2 := Lib.hid qg2
  have qlv := Lib.hid (fun W => blives_any W)
  have qS := Lib.hid (fun W hW => bsame_any W a1 a2 n1 n2 c1 c2 l1 l2 (h1.below hW) (h2.below hW))
  have qM := Lib.hid (fun W hW => mkSame_any a1 a2 n1 n2 c1 c2 l1 l2 W (h1.below hW) (h2.below hW))
  have hz1 := Lib.hid (fun t (ht : t < n1) => by
    have h5 := (bigMk_no hg1).2 (l1.getD t mk0) (by have htl : t < l1.length := by omega
                                                    simp [List.getD, htl])
    omega : ∀ t, t < n1 → (l1.getD t mk0).note.size ≤ 9223372036854775806)
  have hz2 := Lib.hid (fun t (ht : t < n2) => by
    have h5 := (bigMk_no hg2).2 (l2.getD t mk0) (by have htl : t < l2.length := by omega
                                                    simp [List.getD, htl])
    omega : ∀ t, t < n2 → (l2.getD t mk0).note.size ≤ 9223372036854775806)
  have qB1 := Lib.hid (fun W hW => by have := rbbase_any W a1 n1 c1 l1 (h1.below hW) hz1.out; rw [hb1] at this; exact this)
  have qB2 := Lib.hid (fun W hW => by have := rbbase_any W a2 n2 c2 l2 (h2.below hW) hz2.out; rw [hb2] at this; exact this)
  have qH := Lib.hid (fun W hW => by have := bhas_any W a1 n1 c1 l1 f (h1.below hW); rw [hB] at this; exact this)
  have qRU := Lib.hid (fun W hW => runion_any W a1 a2 n1 n2 c1 c2 l1 l2 (by omega) (by omega) (h1.below hW) (h2.below hW))
  have qRL := Lib.hid (fun W hW => rbless_any W a1 a2 n1 n2 c1 c2 l1 l2 (by omega) (h1.below hW) (h2.below hW))
  have hll : ¬ 1024 < (mergeL l1 l2).length := by have := merge_len l1 l2 hb1 hb2; omega
  have qU := Lib.hid (bunion_ok w a1 a2 n1 n2 c1 c2 l1 l2 hll hb1 hb2 h1 h2)
  have qL := Lib.hid (fun W hW => bless_ok W a1 a2 n1 n2 c1 c2 l1 l2 hb1 hb2 (h1.below hW) (h2.below hW))
  have hun := Lib.hid (merge_union (baseB_rise hb1) (baseB_rise hb2))
  have hfi := Lib.hid (fun k (hk : k < n1) (he : (l1.getD k mk0).f = f) => by
    have hkl : k < l1.length := by omega
    have hme : l1.getD k mk0 ∈ l1 := by simp [List.getD, hkl]
    have := look_mem (baseB_rise hb1) hme
    rw [he] at this
    exact this)
  obtain ⟨s, hs⟩ : ∃ s, look l1 f = some s := by
    have := look_has l1 f
    rw [hB] at this
    cases hx : look l1 f with
    | none => rw [hx] at this; cases this
    | some s => exact ⟨s, rfl⟩
  have qF := Lib.hid (fun W hW => by have := bFind_yes a1 n1 c1 l1 f hb1 W (h1.below hW); unfold MkE at this; rw [hB, hs, if_pos rfl] at this; exact this)
  have hfi' := Lib.hid (fun k hk he => by have := hfi.out k hk he; rw [hs] at this; exact (Option.some.inj this).symm)
  clear hfi hs
  have R1 := Lib.hid (fun W hW => h1.below (w' := W) hW)
  have hm1 := Lib.hid m1
  clear qg1 qg2 h1 h2 hw1 hw2 hg1 hg2 m1 m2 hb1 hb2 hB hll
  generalize sameM l1 l2 = SM at *
  go_enter Tryz.func4, Tryz.ntmps4
  go_wp2_with fail
  with_reducible refine QG1.out.mono ?_
  rintro e w1 ⟨rfl, rfl⟩
  go_wp2_with fail
  with_reducible refine QG2.out.mono ?_
  rintro e w1 ⟨rfl, rfl⟩
  go_wp2_with fail
  refine qU.out.mono ?_
  rintro e w1 ⟨au, cu, rfl, ru, b1⟩
  have RU := Lib.hid ru
  have B1 := Lib.hid b1
  clear ru b1 qU QG1 QG2
  go_wp2_with fail
  refine (qL.out _ B1.out).mono ?_
  rintro e w2 ⟨al, cl, rfl, rl, b2⟩
  have RL := Lib.hid rl
  have RU2 := Lib.hid (RU.out.below b2)
  have B2 := Lib.hid (B1.out.trans (b2.mono B1.out.size))
  clear rl b2 RU B1 qL
  go_wp2_with fail
  refine (qF.out _ B2.out).mono ?_
  rintro e w3 ⟨rfl, b3⟩
  dsimp only [Option.getD]
  obtain ⟨V4, hV4⟩ : ∃ W, W = w3.alloc (.cells #[.int .u64 f, .string s] 40) := ⟨_, rfl⟩
  obtain ⟨gm, hgm⟩ : ∃ g, g = w3.heap.size := ⟨_, rfl⟩
  have c4 : Below w3.heap.size w3 V4 := by rw [hV4]; exact box_below _ _ _
  have HM := Lib.hid (show Holds V4 gm 40 #[.int .u64 f, .string s] by rw [hV4, hgm]; exact Holds.new _ _ _)
  have e4 := b3.trans (c4.mono b3.size)
  have RL4 := Lib.hid (RL.out.below e4)
  have RU4 := Lib.hid (RU2.out.below e4)
  have B4 := Lib.hid (B2.out.trans (e4.mono B2.out.size))
  have hV4' := Lib.hid hV4
  have hgm' := Lib.hid hgm
  clear b3 c4 e4 hV4 hgm RL RU2 B2 qF
  go_upto_region 6 with (fail)
  rw [← hV4'.out, ← hgm'.out]
  clear hV4' hgm'
  go_wp2_with fail
  with_reducible refine (qlv.out _).mono ?_
  rintro e w5 ⟨rfl, b5⟩
  have B5 := Lib.hid (B4.out.trans (b5.mono B4.out.size))
  have D5 := Lib.hid (show Below V4.heap.size V4 w5 from b5)
  clear b5
  go_wp2_with fail
  refine (qS.out _ B5.out).mono ?_
  rintro e w6 ⟨rfl, b6⟩
  have B6 := Lib.hid (B5.out.trans (b6.mono B5.out.size))
  have D6 := Lib.hid (D5.out.trans (b6.mono D5.out.size))
  clear b6 B5 D5
  go_wp2_with fail
  refine (qM.out _ B6.out).mono ?_
  rintro e w7 ⟨rfl, m7, rfl⟩
  have B7 := Lib.hid (Below.drewN B6.out m7)
  have D7 := Lib.hid (Below.drewN D6.out m7)
  clear B6 D6
  generalize w6.drewN m7 = w7 at *
  go_wp2_with fail
  refine (qB1.out _ B7.out).mono ?_
  rintro e w8 ⟨rfl, m8, rfl⟩
  have B8 := Lib.hid (Below.drewN B7.out m8)
  have D8 := Lib.hid (Below.drewN D7.out m8)
  clear B7 D7
  generalize w7.drewN m8 = w8 at *
  go_wp2_with fail
  refine (qH.out _ B8.out).mono ?_
  rintro e w9 ⟨rfl, rfl⟩
  have HM8 := Lib.hid (HM.out.below D8.out HM.out.lt)
  have k0 := HM8.out.cell 0
  have k1 := HM8.out.cell 1
  simp at k0 k1
  have R8 := Lib.hid (fun W hW => R1.out W (B8.out.trans (Below.mono hW B8.out.size)))
  go_wp2
  go_loopw [13] (fun x wr => ∃ k : Nat, k ≤ n1 ∧ x = .int .i64 k ∧ Hid (Below w8.heap.size w8 wr)) (fun x _ => n1 - (intOf x).toNat)
  case atStart => exact ⟨0, Nat.zero_le _, rfl, Lib.hid (Below.refl _ _)⟩
  case round =>
    clear k0 k1
    obtain ⟨k, hk, rfl, hB⟩ := hrel
    generalize wr = g0 at *
    by_cases hlt : k < n1
    · have hki : (k : Int) < (n1 : Int) := by omega
      obtain ⟨b, off, rfl, hbl, x0, x1⟩ := mk_at (R8.out g0 hB.out) hlt
      have k0 := (HM8.out.below hB.out HM8.out.lt).cell 0
      have k1 := (HM8.out.below hB.out HM8.out.lt).cell 1
      simp at k0 k1
      have hfk := Lib.hid (hfi'.out k hlt)
      generalize (l1.getD k mk0).f = f' at *
      generalize (l1.getD k mk0).note = s' at *
      by_cases hff : f' = f
      · have hss := hfk.out hff
        subst hff hss
        have hfb : (f' == f') = true := by simp
        clear hfk
        go_wp2
        go_quiet (fail)
        go_wp2
        go_roundw
        case rel => exact ⟨k + 1, by omega, by go_num, Lib.hid (Below.drewN hB.out _)⟩
        case measure => simp [intOf]; omega
      · have hfb : (f' == f) = false := by simpa using hff
        clear hfk
        go_wp2
        go_quiet (fail)
        go_wp2
        go_roundw
        case rel => exact ⟨k + 1, by omega, by go_num, Lib.hid (Below.drewN hB.out _)⟩
        case measure => simp [intOf]; omega
    · have hki : ¬ (k : Int) < (n1 : Int) := by omega
      have B10 := Lib.hid (B8.out.trans (hB.out.mono B8.out.size))
      have D10 := Lib.hid (D8.out.trans (hB.out.mono D8.out.size))
      clear hB R8 B8 D8 HM8 hfi'
      go_wp2_with fail
      refine (qB1.out _ B10.out).mono ?_
      rintro e w11 ⟨rfl, m11, rfl⟩
      have B11 := Lib.hid (Below.drewN B10.out m11)
      have D11 := Lib.hid (Below.drewN D10.out m11)
      clear B10 D10
      generalize g0.drewN m11 = w11 at *
      go_wp2_with fail
      refine (qB2.out _ B11.out).mono ?_
      rintro e w12 ⟨rfl, m12, rfl⟩
      have B12 := Lib.hid (Below.drewN B11.out m12)
      have D12 := Lib.hid (Below.drewN D11.out m12)
      clear B11 D11
      generalize w11.drewN m12 = w12 at *
      go_wp2_with fail
      refine (qRU.out _ B12.out).mono ?_
      rintro e w13 ⟨ar, cr, rfl, rr, b13⟩
      have qS1 := mkSame_any au ar _ _ cu cr (mergeL l1 l2) (unionR l1 l2) w13 ((RU4.out.below D12.out).below b13) rr
      rw [show sameM (mergeL l1 l2) (unionR l1 l2) = true by rw [hun.out]; exact sameM_refl _] at qS1
      have QS1 := Lib.hid qS1
      have B13 := Lib.hid (B12.out.trans (b13.mono B12.out.size))
      have D13 := Lib.hid (D12.out.trans (b13.mono D12.out.size))
      clear qS1 rr b13 B12 D12
      go_wp2_with fail
      refine QS1.out.mono ?_
      rintro e w14 ⟨rfl, m14, rfl⟩
      have B14 := Lib.hid (Below.drewN B13.out m14)
      have D14 := Lib.hid (Below.drewN D13.out m14)
      clear B13 D13 QS1
      generalize w13.drewN m14 = w14 at *
      go_wp2_with fail
      refine (qRL.out _ B14.out).mono ?_
      rintro e w15 ⟨at2, ct2, rfl, rr, b15⟩
      have qS1 := mkSame_any al at2 _ _ cl ct2 (lessL l1 l2) (lessL l1 l2) w15 ((RL4.out.below D14.out).below b15) rr
      rw [sameM_refl] at qS1
      have QS1 := Lib.hid qS1
      have B15 := Lib.hid (B14.out.trans (b15.mono B14.out.size))
      clear qS1 rr b15 B14 D14
      go_wp2_with fail
      refine QS1.out.mono ?_
      rintro e w16 ⟨rfl, m16, rfl⟩
      have B16 := Lib.hid (Below.drewN B15.out m16)
      go_wp2
      exact bodyPost_ret (results_tmp rfl _ _ _) rfl ⟨rfl, B16.out⟩
set_option maxRecDepth 100000 in
set_option maxHeartbeats 8000000 in
theorem sums_ttf (w : World) (a1 a2 : Option Addr) (n1 n2 c1 c2 : Nat) (l1 l2 : List MkD) (f : Int) (hn1 : n1 ≤ 300) (hn2 : n2 ≤ 300) (hw1 : ∀ t ∈ l1, mkW t) (hw2 : ∀ t ∈ l2, mkW t) (hg1 : bigMk 300 l1 = false) (hg2 : bigMk 300 l2 = false) (h1 : RO mkC w a1 n1 c1 l1) (h2 : RO mkC w a2 n2 c2 l2) (hb1 : baseB l1 = true) (hb2 : baseB l2 = true) (hB : hasB l1 f = false) :
    Calls Tryz.prog 4 #[.slice a1 n1 c1, .slice a2 n2 c2, .int .u64 f] w (Gives (.bool true) w) := by
  have m1 := h1.len
  have m2 := h2.len
  have qg1 := blarge_any w a1 n1 c1 l1 300 h1 hw1
  have qg2 := blarge_any w a2 n2 c2 l2 300 h2 hw2
  rw [hg1] at qg1
  rw [hg2] at qg2
  have QG1 := Lib.hid qg1
  have QG2 := Lib.hid qg2
  have qlv := Lib.hid (fun W => blives_any W)
  have qS := Lib.hid (fun W hW => bsame_any W a1 a2 n1 n2 c1 c2 l1 l2 (h1.below hW) (h2.below hW))
  have qM := Lib.hid (fun W hW => mkSame_any a1 a2 n1 n2 c1 c2 l1 l2 W (h1.below hW) (h2.below hW))
  have hz1 := Lib.hid (fun t (ht : t < n1) => by
    have h5 := (bigMk_no hg1).2 (l1.getD t mk0) (by have htl : t < l1.length := by omega
                                                    simp [List.getD, htl])
    omega : ∀ t, t < n1 → (l1.getD t mk0).note.size ≤ 9223372036854775806)
  have hz2 := Lib.hid (fun t (ht : t < n2) => by
    have h5 := (bigMk_no hg2).2 (l2.getD t mk0) (by have htl : t < l2.length := by omega
                                                    simp [List.getD, htl])
    omega : ∀ t, t < n2 → (l2.getD t mk0).note.size ≤ 9223372036854775806)
  have qB1 := Lib.hid (fun W hW => by have := rbbase_any W a1 n1 c1 l1 (h1.below hW) hz1.out; rw [hb1] at this; exact this)
  have qB2 := Lib.hid (fun W hW => by have := rbbase_any W a2 n2 c2 l2 (h2.below hW) hz2.out; rw [hb2] at this; exact this)
  have qH := Lib.hid (fun W hW => by have := bhas_any W a1 n1 c1 l1 f (h1.below hW); rw [hB] at this; exact this)
  have qRU := Lib.hid (fun W hW => runion_any W a1 a2 n1 n2 c1 c2 l1 l2 (by omega) (by omega) (h1.below hW) (h2.below hW))
  have qRL := Lib.hid (fun W hW => rbless_any W a1 a2 n1 n2 c1 c2 l1 l2 (by omega) (h1.below hW) (h2.below hW))
  have hll : ¬ 1024 < (mergeL l1 l2).length := by have := merge_len l1 l2 hb1 hb2; omega
  have qU := Lib.hid (bunion_ok w a1 a2 n1 n2 c1 c2 l1 l2 hll hb1 hb2 h1 h2)
  have qL := Lib.hid (fun W hW => bless_ok W a1 a2 n1 n2 c1 c2 l1 l2 hb1 hb2 (h1.below hW) (h2.below hW))
  have hun := Lib.hid (merge_union (baseB_rise hb1) (baseB_rise hb2))
  have hlo : look l1 f = none := by
    have := look_has l1 f
    rw [hB] at this
    cases hx : look l1 f with
    | none => rfl
    | some s => rw [hx] at this; cases this
  have qF := Lib.hid (fun W hW => by have := bFind_yes a1 n1 c1 l1 f hb1 W (h1.below hW); unfold MkE at this; rw [hB, hlo, if_neg (by decide)] at this; exact this)
  clear hlo
  have R1 := Lib.hid (fun W hW => h1.below (w' := W) hW)
  have hm1 := Lib.hid m1
  clear qg1 qg2 h1 h2 hw1 hw2 hg1 hg2 m1 m2 hb1 hb2 hB hll
  generalize sameM l1 l2 = SM at *
  go_enter Tryz.func4, Tryz.ntmps4
  go_wp2_with fail
  with_reducible refine QG1.out.mono ?_
  rintro e w1 ⟨rfl, rfl⟩
  go_wp2_with fail
  with_reducible refine QG2.out.mono ?_
  rintro e w1 ⟨rfl, rfl⟩
  go_wp2_with fail
  refine qU.out.mono ?_
  rintro e w1 ⟨au, cu, rfl, ru, b1⟩
  have RU := Lib.hid ru
  have B1 := Lib.hid b1
  clear ru b1 qU QG1 QG2
  go_wp2_with fail
  refine (qL.out _ B1.out).mono ?_
  rintro e w2 ⟨al, cl, rfl, rl, b2⟩
  have RL := Lib.hid rl
  have RU2 := Lib.hid (RU.out.below b2)
  have B2 := Lib.hid (B1.out.trans (b2.mono B1.out.size))
  clear rl b2 RU B1 qL
  go_wp2_with fail
  refine (qF.out _ B2.out).mono ?_
  rintro e w3 ⟨rfl, b3⟩
  obtain ⟨V4, hV4⟩ : ∃ W, W = w3.alloc (.cells #[.int .u64 0, .string ⟨#[]⟩] 40) := ⟨_, rfl⟩
  obtain ⟨gm, hgm⟩ : ∃ g, g = w3.heap.size := ⟨_, rfl⟩
  have c4 : Below w3.heap.size w3 V4 := by rw [hV4]; exact box_below _ _ _
  have HM := Lib.hid (show Holds V4 gm 40 #[.int .u64 0, .string ⟨#[]⟩] by rw [hV4, hgm]; exact Holds.new _ _ _)
  have e4 := b3.trans (c4.mono b3.size)
  have RL4 := Lib.hid (RL.out.below e4)
  have RU4 := Lib.hid (RU2.out.below e4)
  have B4 := Lib.hid (B2.out.trans (e4.mono B2.out.size))
  have hV4' := Lib.hid hV4
  have hgm' := Lib.hid hgm
  clear b3 c4 e4 hV4 hgm RL RU2 B2 qF
  go_upto_region 6 with (fail)
  rw [← hV4'.out, ← hgm'.out]
  clear hV4' hgm'
  go_wp2_with fail
  with_reducible refine (qlv.out _).mono ?_
  rintro e w5 ⟨rfl, b5⟩
  have B5 := Lib.hid (B4.out.trans (b5.mono B4.out.size))
  have D5 := Lib.hid (show Below V4.heap.size V4 w5 from b5)
  clear b5
  go_wp2_with fail
  refine (qS.out _ B5.out).mono ?_
  rintro e w6 ⟨rfl, b6⟩
  have B6 := Lib.hid (B5.out.trans (b6.mono B5.out.size))
  have D6 := Lib.hid (D5.out.trans (b6.mono D5.out.size))
  clear b6 B5 D5
  go_wp2_with fail
  refine (qM.out _ B6.out).mono ?_
  rintro e w7 ⟨rfl, m7, rfl⟩
  have B7 := Lib.hid (Below.drewN B6.out m7)
  have D7 := Lib.hid (Below.drewN D6.out m7)
  clear B6 D6
  generalize w6.drewN m7 = w7 at *
  go_wp2_with fail
  refine (qB1.out _ B7.out).mono ?_
  rintro e w8 ⟨rfl, m8, rfl⟩
  have B8 := Lib.hid (Below.drewN B7.out m8)
  have D8 := Lib.hid (Below.drewN D7.out m8)
  clear B7 D7
  generalize w7.drewN m8 = w8 at *
  go_wp2_with fail
  refine (qH.out _ B8.out).mono ?_
  rintro e w9 ⟨rfl, rfl⟩
  have HM8 := Lib.hid (HM.out.below D8.out HM.out.lt)
  have k0 := HM8.out.cell 0
  have k1 := HM8.out.cell 1
  simp at k0 k1
  have R8 := Lib.hid (fun W hW => R1.out W (B8.out.trans (Below.mono hW B8.out.size)))
  go_wp2
  go_loopw [13] (fun x wr => ∃ k : Nat, k ≤ n1 ∧ x = .int .i64 k ∧ Hid (Below w8.heap.size w8 wr)) (fun x _ => n1 - (intOf x).toNat)
  case atStart => exact ⟨0, Nat.zero_le _, rfl, Lib.hid (Below.refl _ _)⟩
  case round =>
    clear k0 k1
    obtain ⟨k, hk, rfl, hB⟩ := hrel
    generalize wr = g0 at *
    by_cases hlt : k < n1
    · have hki : (k : Int) < (n1 : Int) := by omega
      go_wp2
      go_quiet (fail)
      go_wp2
      go_roundw
      case rel => exact ⟨k + 1, by omega, by go_num, Lib.hid (Below.drewN hB.out _)⟩
      case measure => simp [intOf]; omega
    · have hki : ¬ (k : Int) < (n1 : Int) := by omega
      have B10 := Lib.hid (B8.out.trans (hB.out.mono B8.out.size))
      have D10 := Lib.hid (D8.out.trans (hB.out.mono D8.out.size))
      clear hB R8 B8 D8 HM8
      go_wp2_with fail
      refine (qB1.out _ B10.out).mono ?_
      rintro e w11 ⟨rfl, m11, rfl⟩
      have B11 := Lib.hid (Below.drewN B10.out m11)
      have D11 := Lib.hid (Below.drewN D10.out m11)
      clear B10 D10
      generalize g0.drewN m11 = w11 at *
      go_wp2_with fail
      refine (qB2.out _ B11.out).mono ?_
      rintro e w12 ⟨rfl, m12, rfl⟩
      have B12 := Lib.hid (Below.drewN B11.out m12)
      have D12 := Lib.hid (Below.drewN D11.out m12)
      clear B11 D11
      generalize w11.drewN m12 = w12 at *
      go_wp2_with fail
      refine (qRU.out _ B12.out).mono ?_
      rintro e w13 ⟨ar, cr, rfl, rr, b13⟩
      have qS1 := mkSame_any au ar _ _ cu cr (mergeL l1 l2) (unionR l1 l2) w13 ((RU4.out.below D12.out).below b13) rr
      rw [show sameM (mergeL l1 l2) (unionR l1 l2) = true by rw [hun.out]; exact sameM_refl _] at qS1
      have QS1 := Lib.hid qS1
      have B13 := Lib.hid (B12.out.trans (b13.mono B12.out.size))
      have D13 := Lib.hid (D12.out.trans (b13.mono D12.out.size))
      clear qS1 rr b13 B12 D12
      go_wp2_with fail
      refine QS1.out.mono ?_
      rintro e w14 ⟨rfl, m14, rfl⟩
      have B14 := Lib.hid (Below.drewN B13.out m14)
      have D14 := Lib.hid (Below.drewN D13.out m14)
      clear B13 D13 QS1
      generalize w13.drewN m14 = w14 at *
      go_wp2_with fail
      refine (qRL.out _ B14.out).mono ?_
      rintro e w15 ⟨at2, ct2, rfl, rr, b15⟩
      have qS1 := mkSame_any al at2 _ _ cl ct2 (lessL l1 l2) (lessL l1 l2) w15 ((RL4.out.below D14.out).below b15) rr
      rw [sameM_refl] at qS1
      have QS1 := Lib.hid qS1
      have B15 := Lib.hid (B14.out.trans (b15.mono B14.out.size))
      clear qS1 rr b15 B14 D14
      go_wp2_with fail
      refine QS1.out.mono ?_
      rintro e w16 ⟨rfl, m16, rfl⟩
      have B16 := Lib.hid (Below.drewN B15.out m16)
      go_wp2
      exact bodyPost_ret (results_tmp rfl _ _ _) rfl ⟨rfl, B16.out⟩
set_option maxRecDepth 100000 in
set_option maxHeartbeats 8000000 in
theorem sums_tft (w : World) (a1 a2 : Option Addr) (n1 n2 c1 c2 : Nat) (l1 l2 : List MkD) (f : Int) (hn1 : n1 ≤ 300) (hn2 : n2 ≤ 300) (hw1 : ∀ t ∈ l1, mkW t) (hw2 : ∀ t ∈ l2, mkW t) (hg1 : bigMk 300 l1 = false) (hg2 : bigMk 300 l2 = false) (h1 : RO mkC w a1 n1 c1 l1) (h2 : RO mkC w a2 n2 c2 l2) (hb1 : baseB l1 = true) (hb2 : baseB l2 = false) (hB : hasB l1 f = true) :
    Calls Tryz.prog 4 #[.slice a1 n1 c1, .slice a2 n2 c2, .int .u64 f] w (Gives (.bool true) w) := by
  have m1 := h1.len
  have m2 := h2.len
  have qg1 := blarge_any w a1 n1 c1 l1 300 h1 hw1
  have qg2 := blarge_any w a2 n2 c2 l2 300 h2 hw2
  rw [hg1] at qg1
  rw [hg2] at qg2
  have QG1 := Lib.hid qg1
  have QG2 := Lib.hid qg2
  have qlv := Lib.hid (fun W => blives_any W)
  have qS := Lib.hid (fun W hW => bsame_any W a1 a2 n1 n2 c1 c2 l1 l2 (h1.below hW) (h2.below hW))
  have qM := Lib.hid (fun W hW => mkSame_any a1 a2 n1 n2 c1 c2 l1 l2 W (h1.below hW) (h2.below hW))
  have hz1 := Lib.hid (fun t (ht : t < n1) => by
    have h5 := (bigMk_no hg1).2 (l1.getD t mk0) (by have htl : t < l1.length := by omega
                                                    simp [List.getD, htl])
    omega : ∀ t, t < n1 → (l1.getD t mk0).note.size ≤ 9223372036854775806)
  have hz2 := Lib.hid (fun t (ht : t < n2) => by
    have h5 := (bigMk_no hg2).2 (l2.getD t mk0) (by have htl : t < l2.length := by omega
                                                    simp [List.getD, htl])
    omega : ∀ t, t < n2 → (l2.getD t mk0).note.size ≤ 9223372036854775806)
  have qB1 := Lib.hid (fun W hW => by have := rbbase_any W a1 n1 c1 l1 (h1.below hW) hz1.out; rw [hb1] at this; exact this)
  have qB2 := Lib.hid (fun W hW => by have := rbbase_any W a2 n2 c2 l2 (h2.below hW) hz2.out; rw [hb2] at this; exact this)
  have qH := Lib.hid (fun W hW => by have := bhas_any W a1 n1 c1 l1 f (h1.below hW); rw [hB] at this; exact this)
  have qU := Lib.hid (bunion_bad w a1 a2 n1 n2 c1 c2 l1 l2 (by rw [hb1, hb2]; rfl) h1 h2)
  have qL := Lib.hid (fun W hW => bless_bad W a1 a2 n1 n2 c1 c2 l1 l2 (by rw [hb1, hb2]; rfl) (h1.below hW) (h2.below hW))
  have hfi := Lib.hid (fun k (hk : k < n1) (he : (l1.getD k mk0).f = f) => by
    have hkl : k < l1.length := by omega
    have hme : l1.getD k mk0 ∈ l1 := by simp [List.getD, hkl]
    have := look_mem (baseB_rise hb1) hme
    rw [he] at this
    exact this)
  obtain ⟨s, hs⟩ : ∃ s, look l1 f = some s := by
    have := look_has l1 f
    rw [hB] at this
    cases hx : look l1 f with
    | none => rw [hx] at this; cases this
    | some s => exact ⟨s, rfl⟩
  have qF := Lib.hid (fun W hW => by have := bFind_yes a1 n1 c1 l1 f hb1 W (h1.below hW); unfold MkE at this; rw [hB, hs, if_pos rfl] at this; exact this)
  have hfi' := Lib.hid (fun k hk he => by have := hfi.out k hk he; rw [hs] at this; exact (Option.some.inj this).symm)
  clear hfi hs
  have R1 := Lib.hid (fun W hW => h1.below (w' := W) hW)
  have hm1 := Lib.hid m1
  clear qg1 qg2 h1 h2 hw1 hw2 hg1 hg2 m1 m2 hb1 hb2 hB
  generalize sameM l1 l2 = SM at *
  go_enter Tryz.func4, Tryz.ntmps4
  go_wp2_with fail
  with_reducible refine QG1.out.mono ?_
  rintro e w1 ⟨rfl, rfl⟩
  go_wp2_with fail
  with_reducible refine QG2.out.mono ?_
  rintro e w1 ⟨rfl, rfl⟩
  go_wp2_with fail
  refine qU.out.mono ?_
  rintro e w1 ⟨au, cu, rfl, ru, b1⟩
  have RU := Lib.hid ru
  have B1 := Lib.hid b1
  clear ru b1 qU QG1 QG2
  go_wp2_with fail
  refine (qL.out _ B1.out).mono ?_
  rintro e w2 ⟨al, cl, rfl, rl, b2⟩
  have RL := Lib.hid rl
  have RU2 := Lib.hid (RU.out.below b2)
  have B2 := Lib.hid (B1.out.trans (b2.mono B1.out.size))
  clear rl b2 RU B1 qL
  go_wp2_with fail
  refine (qF.out _ B2.out).mono ?_
  rintro e w3 ⟨rfl, b3⟩
  dsimp only [Option.getD]
  obtain ⟨V4, hV4⟩ : ∃ W, W = w3.alloc (.cells #[.int .u64 f, .string s] 40) := ⟨_, rfl⟩
  obtain ⟨gm, hgm⟩ : ∃ g, g = w3.heap.size := ⟨_, rfl⟩
  have c4 : Below w3.heap.size w3 V4 := by rw [hV4]; exact box_below _ _ _
  have HM := Lib.hid (show Holds V4 gm 40 #[.int .u64 f, .string s] by rw [hV4, hgm]; exact Holds.new _ _ _)
  have e4 := b3.trans (c4.mono b3.size)
  have RL4 := Lib.hid (RL.out.below e4)
  have RU4 := Lib.hid (RU2.out.below e4)
  have B4 := Lib.hid (B2.out.trans (e4.mono B2.out.size))
  have hV4' := Lib.hid hV4
  have hgm' := Lib.hid hgm
  clear b3 c4 e4 hV4 hgm RL RU2 B2 qF
  go_upto_region 6 with (fail)
  rw [← hV4'.out, ← hgm'.out]
  clear hV4' hgm'
  go_wp2_with fail
  with_reducible refine (qlv.out _).mono ?_
  rintro e w5 ⟨rfl, b5⟩
  have B5 := Lib.hid (B4.out.trans (b5.mono B4.out.size))
  have D5 := Lib.hid (show Below V4.heap.size V4 w5 from b5)
  clear b5
  go_wp2_with fail
  refine (qS.out _ B5.out).mono ?_
  rintro e w6 ⟨rfl, b6⟩
  have B6 := Lib.hid (B5.out.trans (b6.mono B5.out.size))
  have D6 := Lib.hid (D5.out.trans (b6.mono D5.out.size))
  clear b6 B5 D5
  go_wp2_with fail
  refine (qM.out _ B6.out).mono ?_
  rintro e w7 ⟨rfl, m7, rfl⟩
  have B7 := Lib.hid (Below.drewN B6.out m7)
  have D7 := Lib.hid (Below.drewN D6.out m7)
  clear B6 D6
  generalize w6.drewN m7 = w7 at *
  go_wp2_with fail
  refine (qB1.out _ B7.out).mono ?_
  rintro e w8 ⟨rfl, m8, rfl⟩
  have B8 := Lib.hid (Below.drewN B7.out m8)
  have D8 := Lib.hid (Below.drewN D7.out m8)
  clear B7 D7
  generalize w7.drewN m8 = w8 at *
  go_wp2_with fail
  refine (qH.out _ B8.out).mono ?_
  rintro e w9 ⟨rfl, rfl⟩
  have HM8 := Lib.hid (HM.out.below D8.out HM.out.lt)
  have k0 := HM8.out.cell 0
  have k1 := HM8.out.cell 1
  simp at k0 k1
  have R8 := Lib.hid (fun W hW => R1.out W (B8.out.trans (Below.mono hW B8.out.size)))
  go_wp2
  go_loopw [13] (fun x wr => ∃ k : Nat, k ≤ n1 ∧ x = .int .i64 k ∧ Hid (Below w8.heap.size w8 wr)) (fun x _ => n1 - (intOf x).toNat)
  case atStart => exact ⟨0, Nat.zero_le _, rfl, Lib.hid (Below.refl _ _)⟩
  case round =>
    clear k0 k1
    obtain ⟨k, hk, rfl, hB⟩ := hrel
    generalize wr = g0 at *
    by_cases hlt : k < n1
    · have hki : (k : Int) < (n1 : Int) := by omega
      obtain ⟨b, off, rfl, hbl, x0, x1⟩ := mk_at (R8.out g0 hB.out) hlt
      have k0 := (HM8.out.below hB.out HM8.out.lt).cell 0
      have k1 := (HM8.out.below hB.out HM8.out.lt).cell 1
      simp at k0 k1
      have hfk := Lib.hid (hfi'.out k hlt)
      generalize (l1.getD k mk0).f = f' at *
      generalize (l1.getD k mk0).note = s' at *
      by_cases hff : f' = f
      · have hss := hfk.out hff
        subst hff hss
        have hfb : (f' == f') = true := by simp
        clear hfk
        go_wp2
        go_quiet (fail)
        go_wp2
        go_roundw
        case rel => exact ⟨k + 1, by omega, by go_num, Lib.hid (Below.drewN hB.out _)⟩
        case measure => simp [intOf]; omega
      · have hfb : (f' == f) = false := by simpa using hff
        clear hfk
        go_wp2
        go_quiet (fail)
        go_wp2
        go_roundw
        case rel => exact ⟨k + 1, by omega, by go_num, Lib.hid (Below.drewN hB.out _)⟩
        case measure => simp [intOf]; omega
    · have hki : ¬ (k : Int) < (n1 : Int) := by omega
      have B10 := Lib.hid (B8.out.trans (hB.out.mono B8.out.size))
      have D10 := Lib.hid (D8.out.trans (hB.out.mono D8.out.size))
      clear hB R8 B8 D8 HM8 hfi'
      go_wp2_with fail
      refine (qB1.out _ B10.out).mono ?_
      rintro e w11 ⟨rfl, m11, rfl⟩
      have B11 := Lib.hid (Below.drewN B10.out m11)
      have D11 := Lib.hid (Below.drewN D10.out m11)
      clear B10 D10
      generalize g0.drewN m11 = w11 at *
      go_wp2_with fail
      refine (qB2.out _ B11.out).mono ?_
      rintro e w12 ⟨rfl, m12, rfl⟩
      have B12 := Lib.hid (Below.drewN B11.out m12)
      go_wp2
      exact bodyPost_ret (results_tmp rfl _ _ _) rfl ⟨rfl, B12.out⟩
set_option maxRecDepth 100000 in
set_option maxHeartbeats 8000000 in
theorem sums_tff (w : World) (a1 a2 : Option Addr) (n1 n2 c1 c2 : Nat) (l1 l2 : List MkD) (f : Int) (hn1 : n1 ≤ 300) (hn2 : n2 ≤ 300) (hw1 : ∀ t ∈ l1, mkW t) (hw2 : ∀ t ∈ l2, mkW t) (hg1 : bigMk 300 l1 = false) (hg2 : bigMk 300 l2 = false) (h1 : RO mkC w a1 n1 c1 l1) (h2 : RO mkC w a2 n2 c2 l2) (hb1 : baseB l1 = true) (hb2 : baseB l2 = false) (hB : hasB l1 f = false) :
    Calls Tryz.prog 4 #[.slice a1 n1 c1, .slice a2 n2 c2, .int .u64 f] w (Gives (.bool true) w) := by
  have m1 := h1.len
  have m2 := h2.len
  have qg1 := blarge_any w a1 n1 c1 l1 300 h1 hw1
  have qg2 := blarge_any w a2 n2 c2 l2 300 h2 hw2
  rw [hg1] at qg1
  rw [hg2] at qg2
  have QG1 := Lib.hid qg1
  have QG2 := Lib.hid qg2
  have qlv := Lib.hid (fun W => blives_any W)
  have qS := Lib.hid (fun W hW => bsame_any W a1 a2 n1 n2 c1 c2 l1 l2 (h1.below hW) (h2.below hW))
  have qM := Lib.hid (fun W hW => mkSame_any a1 a2 n1 n2 c1 c2 l1 l2 W (h1.below hW) (h2.below hW))
  have hz1 := Lib.hid (fun t (ht : t < n1) => by
    have h5 := (bigMk_no hg1).2 (l1.getD t mk0) (by have htl : t < l1.length := by omega
                                                    simp [List.getD, htl])
    omega : ∀ t, t < n1 → (l1.getD t mk0).note.size ≤ 9223372036854775806)
  have hz2 := Lib.hid (fun t (ht : t < n2) => by
    have h5 := (bigMk_no hg2).2 (l2.getD t mk0) (by have htl : t < l2.length := by omega
                                                    simp [List.getD, htl])
    omega : ∀ t, t < n2 → (l2.getD t mk0).note.size ≤ 9223372036854775806)
  have qB1 := Lib.hid (fun W hW => by have := rbbase_any W a1 n1 c1 l1 (h1.below hW) hz1.out; rw [hb1] at this; exact this)
  have qB2 := Lib.hid (fun W hW => by have := rbbase_any W a2 n2 c2 l2 (h2.below hW) hz2.out; rw [hb2] at this; exact this)
  have qH := Lib.hid (fun W hW => by have := bhas_any W a1 n1 c1 l1 f (h1.below hW); rw [hB] at this; exact this)
  have qU := Lib.hid (bunion_bad w a1 a2 n1 n2 c1 c2 l1 l2 (by rw [hb1, hb2]; rfl) h1 h2)
  have qL := Lib.hid (fun W hW => bless_bad W a1 a2 n1 n2 c1 c2 l1 l2 (by rw [hb1, hb2]; rfl) (h1.below hW) (h2.below hW))
  have hlo : look l1 f = none := by
    have := look_has l1 f
    rw [hB] at this
    cases hx : look l1 f with
    | none => rfl
    | some s => rw [hx] at this; cases this
  have qF := Lib.hid (fun W hW => by have := bFind_yes a1 n1 c1 l1 f hb1 W (h1.below hW); unfold MkE at this; rw [hB, hlo, if_neg (by decide)] at this; exact this)
  clear hlo
  have R1 := Lib.hid (fun W hW => h1.below (w' := W) hW)
  have hm1 := Lib.hid m1
  clear qg1 qg2 h1 h2 hw1 hw2 hg1 hg2 m1 m2 hb1 hb2 hB
  generalize sameM l1 l2 = SM at *
  go_enter Tryz.func4, Tryz.ntmps4
  go_wp2_with fail
  with_reducible refine QG1.out.mono ?_
  rintro e w1 ⟨rfl, rfl⟩
  go_wp2_with fail
  with_reducible refine QG2.out.mono ?_
  rintro e w1 ⟨rfl, rfl⟩
  go_wp2_with fail
  refine qU.out.mono ?_
  rintro e w1 ⟨au, cu, rfl, ru, b1⟩
  have RU := Lib.hid ru
  have B1 := Lib.hid b1
  clear ru b1 qU QG1 QG2
  go_wp2_with fail
  refine (qL.out _ B1.out).mono ?_
  rintro e w2 ⟨al, cl, rfl, rl, b2⟩
  have RL := Lib.hid rl
  have RU2 := Lib.hid (RU.out.below b2)
  have B2 := Lib.hid (B1.out.trans (b2.mono B1.out.size))
  clear rl b2 RU B1 qL
  go_wp2_with fail
  refine (qF.out _ B2.out).mono ?_
  rintro e w3 ⟨rfl, b3⟩
  obtain ⟨V4, hV4⟩ : ∃ W, W = w3.alloc (.cells #[.int .u64 0, .string ⟨#[]⟩] 40) := ⟨_, rfl⟩
  obtain ⟨gm, hgm⟩ : ∃ g, g = w3.heap.size := ⟨_, rfl⟩
  have c4 : Below w3.heap.size w3 V4 := by rw [hV4]; exact box_below _ _ _
  have HM := Lib.hid (show Holds V4 gm 40 #[.int .u64 0, .string ⟨#[]⟩] by rw [hV4, hgm]; exact Holds.new _ _ _)
  have e4 := b3.trans (c4.mono b3.size)
  have RL4 := Lib.hid (RL.out.below e4)
  have RU4 := Lib.hid (RU2.out.below e4)
  have B4 := Lib.hid (B2.out.trans (e4.mono B2.out.size))
  have hV4' := Lib.hid hV4
  have hgm' := Lib.hid hgm
  clear b3 c4 e4 hV4 hgm RL RU2 B2 qF
  go_upto_region 6 with (fail)
  rw [← hV4'.out, ← hgm'.out]
  clear hV4' hgm'
  go_wp2_with fail
  with_reducible refine (qlv.out _).mono ?_
  rintro e w5 ⟨rfl, b5⟩
  have B5 := Lib.hid (B4.out.trans (b5.mono B4.out.size))
  have D5 := Lib.hid (show Below V4.heap.size V4 w5 from b5)
  clear b5
  go_wp2_with fail
  refine (qS.out _ B5.out).mono ?_
  rintro e w6 ⟨rfl, b6⟩
  have B6 := Lib.hid (B5.out.trans (b6.mono B5.out.size))
  have D6 := Lib.hid (D5.out.trans (b6.mono D5.out.size))
  clear b6 B5 D5
  go_wp2_with fail
  refine (qM.out _ B6.out).mono ?_
  rintro e w7 ⟨rfl, m7, rfl⟩
  have B7 := Lib.hid (Below.drewN B6.out m7)
  have D7 := Lib.hid (Below.drewN D6.out m7)
  clear B6 D6
  generalize w6.drewN m7 = w7 at *
  go_wp2_with fail
  refine (qB1.out _ B7.out).mono ?_
  rintro e w8 ⟨rfl, m8, rfl⟩
  have B8 := Lib.hid (Below.drewN B7.out m8)
  have D8 := Lib.hid (Below.drewN D7.out m8)
  clear B7 D7
  generalize w7.drewN m8 = w8 at *
  go_wp2_with fail
  refine (qH.out _ B8.out).mono ?_
  rintro e w9 ⟨rfl, rfl⟩
  have HM8 := Lib.hid (HM.out.below D8.out HM.out.lt)
  have k0 := HM8.out.cell 0
  have k1 := HM8.out.cell 1
  simp at k0 k1
  have R8 := Lib.hid (fun W hW => R1.out W (B8.out.trans (Below.mono hW B8.out.size)))
  go_wp2
  go_loopw [13] (fun x wr => ∃ k : Nat, k ≤ n1 ∧ x = .int .i64 k ∧ Hid (Below w8.heap.size w8 wr)) (fun x _ => n1 - (intOf x).toNat)
  case atStart => exact ⟨0, Nat.zero_le _, rfl, Lib.hid (Below.refl _ _)⟩
  case round =>
    clear k0 k1
    obtain ⟨k, hk, rfl, hB⟩ := hrel
    generalize wr = g0 at *
    by_cases hlt : k < n1
    · have hki : (k : Int) < (n1 : Int) := by omega
      go_wp2
      go_quiet (fail)
      go_wp2
      go_roundw
      case rel => exact ⟨k + 1, by omega, by go_num, Lib.hid (Below.drewN hB.out _)⟩
      case measure => simp [intOf]; omega
    · have hki : ¬ (k : Int) < (n1 : Int) := by omega
      have B10 := Lib.hid (B8.out.trans (hB.out.mono B8.out.size))
      have D10 := Lib.hid (D8.out.trans (hB.out.mono D8.out.size))
      clear hB R8 B8 D8 HM8
      go_wp2_with fail
      refine (qB1.out _ B10.out).mono ?_
      rintro e w11 ⟨rfl, m11, rfl⟩
      have B11 := Lib.hid (Below.drewN B10.out m11)
      have D11 := Lib.hid (Below.drewN D10.out m11)
      clear B10 D10
      generalize g0.drewN m11 = w11 at *
      go_wp2_with fail
      refine (qB2.out _ B11.out).mono ?_
      rintro e w12 ⟨rfl, m12, rfl⟩
      have B12 := Lib.hid (Below.drewN B11.out m12)
      go_wp2
      exact bodyPost_ret (results_tmp rfl _ _ _) rfl ⟨rfl, B12.out⟩
set_option maxRecDepth 100000 in
set_option maxHeartbeats 8000000 in
theorem sums_fxf (w : World) (a1 a2 : Option Addr) (n1 n2 c1 c2 : Nat) (l1 l2 : List MkD) (f : Int) (hn1 : n1 ≤ 300) (hn2 : n2 ≤ 300) (hw1 : ∀ t ∈ l1, mkW t) (hw2 : ∀ t ∈ l2, mkW t) (hg1 : bigMk 300 l1 = false) (hg2 : bigMk 300 l2 = false) (h1 : RO mkC w a1 n1 c1 l1) (h2 : RO mkC w a2 n2 c2 l2) (hb1 : baseB l1 = false) :
    Calls Tryz.prog 4 #[.slice a1 n1 c1, .slice a2 n2 c2, .int .u64 f] w (Gives (.bool true) w) := by
  have m1 := h1.len
  have m2 := h2.len
  have qg1 := blarge_any w a1 n1 c1 l1 300 h1 hw1
  have qg2 := blarge_any w a2 n2 c2 l2 300 h2 hw2
  rw [hg1] at qg1
  rw [hg2] at qg2
  have QG1 := Lib.hid qg1
  have QG2 := Lib.hid qg2
  have qlv := Lib.hid (fun W => blives_any W)
  have qS := Lib.hid (fun W hW => bsame_any W a1 a2 n1 n2 c1 c2 l1 l2 (h1.below hW) (h2.below hW))
  have qM := Lib.hid (fun W hW => mkSame_any a1 a2 n1 n2 c1 c2 l1 l2 W (h1.below hW) (h2.below hW))
  have hz1 := Lib.hid (fun t (ht : t < n1) => by
    have h5 := (bigMk_no hg1).2 (l1.getD t mk0) (by have htl : t < l1.length := by omega
                                                    simp [List.getD, htl])
    omega : ∀ t, t < n1 → (l1.getD t mk0).note.size ≤ 9223372036854775806)
  have hz2 := Lib.hid (fun t (ht : t < n2) => by
    have h5 := (bigMk_no hg2).2 (l2.getD t mk0) (by have htl : t < l2.length := by omega
                                                    simp [List.getD, htl])
    omega : ∀ t, t < n2 → (l2.getD t mk0).note.size ≤ 9223372036854775806)
  have qB1 := Lib.hid (fun W hW => by have := rbbase_any W a1 n1 c1 l1 (h1.below hW) hz1.out; rw [hb1] at this; exact this)
  have qU := Lib.hid (bunion_bad w a1 a2 n1 n2 c1 c2 l1 l2 (by rw [hb1]; rfl) h1 h2)
  have qL := Lib.hid (fun W hW => bless_bad W a1 a2 n1 n2 c1 c2 l1 l2 (by rw [hb1]; rfl) (h1.below hW) (h2.below hW))
  have qF := Lib.hid (fun W hW => bFind_no a1 n1 c1 l1 f hb1 W (h1.below hW))
  have R1 := Lib.hid (fun W hW => h1.below (w' := W) hW)
  have hm1 := Lib.hid m1
  clear qg1 qg2 h1 h2 hw1 hw2 hg1 hg2 m1 m2 hb1
  generalize sameM l1 l2 = SM at *
  go_enter Tryz.func4, Tryz.ntmps4
  go_wp2_with fail
  with_reducible refine QG1.out.mono ?_
  rintro e w1 ⟨rfl, rfl⟩
  go_wp2_with fail
  with_reducible refine QG2.out.mono ?_
  rintro e w1 ⟨rfl, rfl⟩
  go_wp2_with fail
  refine qU.out.mono ?_
  rintro e w1 ⟨au, cu, rfl, ru, b1⟩
  have RU := Lib.hid ru
  have B1 := Lib.hid b1
  clear ru b1 qU QG1 QG2
  go_wp2_with fail
  refine (qL.out _ B1.out).mono ?_
  rintro e w2 ⟨al, cl, rfl, rl, b2⟩
  have RL := Lib.hid rl
  have RU2 := Lib.hid (RU.out.below b2)
  have B2 := Lib.hid (B1.out.trans (b2.mono B1.out.size))
  clear rl b2 RU B1 qL
  go_wp2_with fail
  refine (qF.out _ B2.out).mono ?_
  rintro e w3 ⟨rfl, b3⟩
  obtain ⟨V4, hV4⟩ : ∃ W, W = w3.alloc (.cells #[.int .u64 0, .string ⟨#[]⟩] 40) := ⟨_, rfl⟩
  obtain ⟨gm, hgm⟩ : ∃ g, g = w3.heap.size := ⟨_, rfl⟩
  have c4 : Below w3.heap.size w3 V4 := by rw [hV4]; exact box_below _ _ _
  have HM := Lib.hid (show Holds V4 gm 40 #[.int .u64 0, .string ⟨#[]⟩] by rw [hV4, hgm]; exact Holds.new _ _ _)
  have e4 := b3.trans (c4.mono b3.size)
  have RL4 := Lib.hid (RL.out.below e4)
  have RU4 := Lib.hid (RU2.out.below e4)
  have B4 := Lib.hid (B2.out.trans (e4.mono B2.out.size))
  have hV4' := Lib.hid hV4
  have hgm' := Lib.hid hgm
  clear b3 c4 e4 hV4 hgm RL RU2 B2 qF
  go_upto_region 6 with (fail)
  rw [← hV4'.out, ← hgm'.out]
  clear hV4' hgm'
  go_wp2_with fail
  with_reducible refine (qlv.out _).mono ?_
  rintro e w5 ⟨rfl, b5⟩
  have B5 := Lib.hid (B4.out.trans (b5.mono B4.out.size))
  have D5 := Lib.hid (show Below V4.heap.size V4 w5 from b5)
  clear b5
  go_wp2_with fail
  refine (qS.out _ B5.out).mono ?_
  rintro e w6 ⟨rfl, b6⟩
  have B6 := Lib.hid (B5.out.trans (b6.mono B5.out.size))
  have D6 := Lib.hid (D5.out.trans (b6.mono D5.out.size))
  clear b6 B5 D5
  go_wp2_with fail
  refine (qM.out _ B6.out).mono ?_
  rintro e w7 ⟨rfl, m7, rfl⟩
  have B7 := Lib.hid (Below.drewN B6.out m7)
  have D7 := Lib.hid (Below.drewN D6.out m7)
  clear B6 D6
  generalize w6.drewN m7 = w7 at *
  go_wp2_with fail
  refine (qB1.out _ B7.out).mono ?_
  rintro e w8 ⟨rfl, m8, rfl⟩
  have B8 := Lib.hid (Below.drewN B7.out m8)
  have D8 := Lib.hid (Below.drewN D7.out m8)
  clear B7 D7
  generalize w7.drewN m8 = w8 at *
  have HM8 := Lib.hid (HM.out.below D8.out HM.out.lt)
  have k0 := HM8.out.cell 0
  have k1 := HM8.out.cell 1
  simp at k0 k1
  have R8 := Lib.hid (fun W hW => R1.out W (B8.out.trans (Below.mono hW B8.out.size)))
  go_wp2
  go_loopw [13] (fun x wr => ∃ k : Nat, k ≤ n1 ∧ x = .int .i64 k ∧ Hid (Below w8.heap.size w8 wr)) (fun x _ => n1 - (intOf x).toNat)
  case atStart => exact ⟨0, Nat.zero_le _, rfl, Lib.hid (Below.refl _ _)⟩
  case round =>
    clear k0 k1
    obtain ⟨k, hk, rfl, hB⟩ := hrel
    generalize wr = g0 at *
    by_cases hlt : k < n1
    · have hki : (k : Int) < (n1 : Int) := by omega
      go_wp2
      go_quiet (fail)
      go_wp2
      go_roundw
      case rel => exact ⟨k + 1, by omega, by go_num, Lib.hid (Below.drewN hB.out _)⟩
      case measure => simp [intOf]; omega
    · have hki : ¬ (k : Int) < (n1 : Int) := by omega
      have B10 := Lib.hid (B8.out.trans (hB.out.mono B8.out.size))
      have D10 := Lib.hid (D8.out.trans (hB.out.mono D8.out.size))
      clear hB R8 B8 D8 HM8
      go_wp2_with fail
      refine (qB1.out _ B10.out).mono ?_
      rintro e w11 ⟨rfl, m11, rfl⟩
      have B11 := Lib.hid (Below.drewN B10.out m11)
      have D11 := Lib.hid (Below.drewN D10.out m11)
      clear B10 D10
      generalize g0.drewN m11 = w11 at *
      go_wp2
      exact bodyPost_ret (results_tmp rfl _ _ _) rfl ⟨rfl, B11.out⟩
set_option maxRecDepth 100000 in
set_option maxHeartbeats 4000000 in
theorem sums_big1 (w : World) (a1 a2 : Option Addr) (n1 n2 c1 c2 : Nat) (l1 l2 : List MkD) (f : Int) (hw1 : ∀ t ∈ l1, mkW t) (hw2 : ∀ t ∈ l2, mkW t) (hg : bigMk 300 l1 = true ∨ (bigMk 300 l1 = false ∧ bigMk 300 l2 = true)) (h1 : RO mkC w a1 n1 c1 l1) (h2 : RO mkC w a2 n2 c2 l2) :
    Calls Tryz.prog 4 #[.slice a1 n1 c1, .slice a2 n2 c2, .int .u64 f] w (Gives (.bool true) w) := by
  have qg1 := blarge_any w a1 n1 c1 l1 300 h1 hw1
  have qg2 := blarge_any w a2 n2 c2 l2 300 h2 hw2
  have qlv := Lib.hid (fun W => blives_any W)
  rcases hg with hg | ⟨hg, hg2⟩
  · rw [hg] at qg1
    have QG1 := Lib.hid qg1
    clear qg1 qg2 h1 h2 hw1 hw2 hg
    go_enter Tryz.func4, Tryz.ntmps4
    go_wp2_with fail
    with_reducible refine QG1.out.mono ?_
    rintro e w1 ⟨rfl, rfl⟩
    go_wp2_with fail
    with_reducible refine (qlv.out _).mono ?_
    rintro e w2 ⟨rfl, b2⟩
    have b2' := Lib.hid b2
    clear b2
    go_wp2
    exact bodyPost_ret (results_tmp rfl _ _ _) rfl ⟨rfl, b2'.out⟩
  · rw [hg] at qg1
    rw [hg2] at qg2
    have QG1 := Lib.hid qg1
    have QG2 := Lib.hid qg2
    clear qg1 qg2 h1 h2 hw1 hw2 hg hg2
    go_enter Tryz.func4, Tryz.ntmps4
    go_wp2_with fail
    with_reducible refine QG1.out.mono ?_
    rintro e w1 ⟨rfl, rfl⟩
    go_wp2_with fail
    with_reducible refine QG2.out.mono ?_
    rintro e w1 ⟨rfl, rfl⟩
    go_wp2_with fail
    with_reducible refine (qlv.out _).mono ?_
    rintro e w2 ⟨rfl, b2⟩
    have b2' := Lib.hid b2
    clear b2
    go_wp2
    exact bodyPost_ret (results_tmp rfl _ _ _) rfl ⟨rfl, b2'.out⟩
theorem baseSums_walk (w : World) (a1 : Option Addr) (n1 c1 : Nat) (row1 : MkSl w a1 n1 c1) (a2 : Option Addr) (n2 c2 : Nat) (row2 : MkSl w a2 n2 c2) (f : Int) (hf : (Lit.int .u64 f).wf = true) :
    Calls Tryz.prog 4 #[.slice a1 n1 c1, .slice a2 n2 c2, .int .u64 f] w (Gives (.bool true) w) := by
  obtain ⟨l1, h1, hw1, -⟩ := row1
  obtain ⟨l2, h2, hw2, -⟩ := row2
  have m1 := h1.len
  have m2 := h2.len
  cases hg1 : bigMk 300 l1 with
  | true => exact sums_big1 w a1 a2 n1 n2 c1 c2 l1 l2 f hw1 hw2 (.inl hg1) h1 h2
  | false =>
  cases hg2 : bigMk 300 l2 with
  | true => exact sums_big1 w a1 a2 n1 n2 c1 c2 l1 l2 f hw1 hw2 (.inr ⟨hg1, hg2⟩) h1 h2
  | false =>
  have hn1 : n1 ≤ 300 := by have := (bigMk_no hg1).1; omega
  have hn2 : n2 ≤ 300 := by have := (bigMk_no hg2).1; omega
  cases hb1 : baseB l1 with
  | false => exact sums_fxf w a1 a2 n1 n2 c1 c2 l1 l2 f hn1 hn2 hw1 hw2 hg1 hg2 h1 h2 hb1
  | true =>
  cases hb2 : baseB l2 with
  | true =>
    cases hB : hasB l1 f with
    | true => exact sums_ttt w a1 a2 n1 n2 c1 c2 l1 l2 f hn1 hn2 hw1 hw2 hg1 hg2 h1 h2 hb1 hb2 hB
    | false => exact sums_ttf w a1 a2 n1 n2 c1 c2 l1 l2 f hn1 hn2 hw1 hw2 hg1 hg2 h1 h2 hb1 hb2 hB
  | false =>
    cases hB : hasB l1 f with
    | true => exact sums_tft w a1 a2 n1 n2 c1 c2 l1 l2 f hn1 hn2 hw1 hw2 hg1 hg2 h1 h2 hb1 hb2 hB
    | false => exact sums_tff w a1 a2 n1 n2 c1 c2 l1 l2 f hn1 hn2 hw1 hw2 hg1 hg2 h1 h2 hb1 hb2 hB
end Go.Proofs.YtpchncpcckfghaaGreat
