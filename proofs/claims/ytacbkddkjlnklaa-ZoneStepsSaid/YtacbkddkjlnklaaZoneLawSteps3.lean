/- ZoneSteps: where i is not j. (Written by gen-zone-steps.py.) -/
import Derived.Test.YtacbkddkjlnklaaZoneLawSteps2
namespace Go.Proofs.Ytacbkddkjlnklaa
open Go.RowKit
set_option linter.unusedVariables false
set_option linter.unusedSimpArgs false

set_option maxRecDepth 100000 in
set_option maxHeartbeats 8000000 in
theorem steps_ntt (i j : Nat) (c : Int) (a1 av : Option Addr) (m1 mv c1 cv : Nat) (l1 v : List Int) (w : World) (h1 : SL w a1 m1 c1 l1) (hv : SL w av mv cv v) (g1 : ¬ 200 < m1) (g2 : ¬ 8 < mv) (z1 : IsZ mv l1) (hi0 : 1 ≤ i) (hi : i ≤ mv) (hj : j ≤ mv) (hij : i ≠ j) (hc : farB c = false) (hhf : hasB mv (forgetL mv l1 i) v = true) (hhl : hasB mv (letL mv l1 i j c) v = true) : Calls Try.prog 7 #[.agg #[.int .i64 mv, .slice a1 m1 c1], .slice av mv cv, .int .i64 i, .int .i64 j, .int .i64 c] w (Gives (.bool true) w) := by
  have hvl : v.length = mv := hv.len.symm
  have g2i : ¬ (8 : Int) < (mv : Int) := by omega
  have hck := Lib.hid z1.check
  have his : Hid ((!farB c) = true) := Lib.hid (by rw [hc]; rfl)
  have hvar : Hid ((decide (1 ≤ (i : Int)) && decide ((i : Int) ≤ (mv : Int))) = true) := Lib.hid (by simp; omega)
  have hor : Hid ((decide (0 ≤ (j : Int)) && decide ((j : Int) ≤ (mv : Int))) = true) := Lib.hid (by simp; omega)
  have H1 := Lib.hid h1
  have HV := Lib.hid hv
  have bc : -1099511627776 ≤ c ∧ c ≤ 1099511627776 := by unfold farB at hc; simp at hc; omega
  have zF : IsZ mv (forgetL mv l1 i) := forgetL_isz z1.1 _ _
  obtain ⟨mF, hmF⟩ : ∃ x, x = (forgetL mv l1 i).length := ⟨_, rfl⟩
  have rF : mF ≤ 81 := by rw [hmF]; exact zF.small
  have QF := Lib.hid (fun W (hW : Below w.heap.size w W) => (zforget_ok mv l1 z1 i hi0 hi a1 m1 c1 W (H1.out.below hW)).mono (fun e w' h => ends_of (m := mF) hmF.symm (by omega) h))
  have zL : IsZ mv (letL mv l1 i j c) := letL_isz z1.1 _ _ _ _
  obtain ⟨mL, hmL⟩ : ∃ x, x = (letL mv l1 i j c).length := ⟨_, rfl⟩
  have rL : mL ≤ 81 := by rw [hmL]; exact zL.small
  have QL := Lib.hid (fun W (hW : Below w.heap.size w W) => (zlet_ok mv l1 z1 i j hi0 hi hj c a1 m1 c1 W (H1.out.below hW)).mono (fun e w' h => ends_of (m := mL) hmL.symm (by omega) h))
  have QHL : Hid (∀ W a cz, SL W a mL cz (letL mv l1 i j c) → SL W av mv cv v → Calls Try.prog 35 #[.agg #[.int .i64 mv, .slice a mL cz], .slice av mv cv] W (Gives (.bool (true)) W)) := Lib.hid (fun W a cz hS hV => by have := has_any mv a mL cz _ av mv cv v W hS hV; rwa [hhl] at this)
  have ft := (fact_tie z1 hvl hi hj hij c hhl).1
  have hij1 : (i == j) = false := by simpa using hij
  have QHF : Hid (∀ W a cz, SL W a mF cz (forgetL mv l1 i) → SL W av mv cv v → Calls Try.prog 35 #[.agg #[.int .i64 mv, .slice a mF cz], .slice av mv cv] W (Gives (.bool (true)) W)) := Lib.hid (fun W a cz hS hV => by have := has_any mv a mF cz _ av mv cv v W hS hV; rwa [hhf] at this)
  have QVk := Lib.hid (fun k (hk : k ≤ mv) W (hV : SL W av mv cv v) => lval_any av v mv cv hvl.symm (by omega) k hk W.heap.size W hV.sees)
  have QVi := Lib.hid (fun W (hV : SL W av mv cv v) => QVk.out i hi W hV)
  have QVj := Lib.hid (fun W (hV : SL W av mv cv v) => QVk.out j hj W hV)
  have hhas := (has_iff (forgetL_isz z1.1 l1 i) hvl).1 hhf
  have hfo := (has_forget z1 hi).1 hhas
  have hF := z1.2.resolve_left hfo.1
  have hval : Hid (∀ k, -1099511627776 ≤ valF v k ∧ valF v k ≤ 1099511627776) := Lib.hid (fun k => val_in hfo.2.1 k)
  have hmat : Hid (∀ k, k ≤ mv → -2199023255552 ≤ mat mv l1 k i ∧ mat mv l1 k i ≤ 2199023255552) := Lib.hid (fun k hk => full_near hF (place_lt hk hi))
  have QBd := Lib.hid (fun k (hk : k ≤ mv) W (hS : SL W a1 m1 c1 l1) => bound_full hF hk hi a1 m1 c1 W hS)
  have flst := fact_least z1 hvl hi0 hi hhf
  have QWl := Lib.hid (fun W (hV : SL W av mv cv v) => lwith_any av v mv cv (by omega) i hi0 hi (leastK mv l1 v i (mv + 1)) W hV)
  have QHz : Hid (∀ W b d, SL W a1 m1 c1 l1 → SL W b mv d (withL v i (leastK mv l1 v i (mv + 1))) → Calls Try.prog 35 #[.agg #[.int .i64 mv, .slice a1 m1 c1], .slice b mv d] W (Gives (.bool (true)) W)) := Lib.hid (fun W b d hS hV => by have := has_any mv a1 m1 c1 l1 b mv d _ W hS hV; rwa [flst] at this)
  have bi := hval.out i
  have bj := hval.out j
  rw [ft] at QVi
  rw [ft] at bi
  clear hc hhf hhl ft hhas hfo hF flst zF hmF zL hmL
  clear z1 hi0 hi hvl hj hij
  generalize withL v i (leastK mv l1 v i (mv + 1)) = vl at *
  generalize forgetL mv l1 i = LF at *
  generalize letL mv l1 i j c = LL at *
  obtain ⟨y, hy⟩ : ∃ y, y = valF v j := ⟨_, rfl⟩
  rw [← hy] at QVj QVi bi bj
  clear hy
  obtain ⟨W1, hW1⟩ : ∃ W1, W1 = w.alloc (.cells #[.int .i64 mv, .slice a1 m1 c1] 24) := ⟨_, rfl⟩
  have Z1 : Hid (Holds W1 (w.heap.size) 24 #[.int .i64 mv, .slice a1 m1 c1]) := Lib.hid (by rw [hW1]; exact Holds.new w _ _)
  have BL := Lib.hid (show Below w.heap.size w W1 by rw [hW1]; exact box_below _ _ _)
  have S1 := Lib.hid (h1.below BL.out)
  have SV := Lib.hid (hv.below BL.out)
  have hW1' := Lib.hid hW1
  clear hW1
  clear h1 hv
  go_enter Try.func7, Try.ntmps7
  have k1 := Z1.out.cell 0
  have k2 := Z1.out.cell 1
  have q := Lib.hid (by have := large_any a1 m1 c1 S1.out.max W1; rwa [decide_eq_false (show ¬ (200 : Int) < (m1 : Int) by omega)] at this)
  go_wp2_with fail
  rw [← hW1'.out]
  with_reducible refine q.out.mono ?_
  rintro e u1 ⟨rfl, rfl⟩
  clear hW1'
  clear q
  have q := Lib.hid (by have := rcheck_any mv a1 m1 c1 l1 W1 S1.out; rwa [hck.out] at this)
  go_wp2_with fail
  with_reducible refine q.out.mono ?_
  rintro e u2 ⟨rfl, b2⟩
  clear k1 k2
  clear q
  have k3 : u2.cell? ⟨w.heap.size, 0, none⟩ = some (.int .i64 mv) := (Z1.out.below b2 Z1.out.lt).cell 0
  have k4 : u2.cell? ⟨w.heap.size, 1, none⟩ = some (.slice a1 m1 c1) := (Z1.out.below b2 Z1.out.lt).cell 1
  replace Z1 := Lib.hid (Z1.out.below b2 Z1.out.lt)
  replace BL := Lib.hid (BL.out.trans (b2.mono BL.out.size))
  replace S1 := Lib.hid (S1.out.below b2)
  replace SV := Lib.hid (SV.out.below b2)
  clear b2
  have q := Lib.hid (by have := rvar_any mv i a1 m1 c1 u2; rwa [hvar.out] at this)
  go_wp2_with fail
  with_reducible refine q.out.mono ?_
  rintro e u3 ⟨rfl, b3⟩
  clear k3 k4
  clear q
  have k5 : u3.cell? ⟨w.heap.size, 0, none⟩ = some (.int .i64 mv) := (Z1.out.below b3 Z1.out.lt).cell 0
  have k6 : u3.cell? ⟨w.heap.size, 1, none⟩ = some (.slice a1 m1 c1) := (Z1.out.below b3 Z1.out.lt).cell 1
  replace Z1 := Lib.hid (Z1.out.below b3 Z1.out.lt)
  replace BL := Lib.hid (BL.out.trans (b3.mono BL.out.size))
  replace S1 := Lib.hid (S1.out.below b3)
  replace SV := Lib.hid (SV.out.below b3)
  clear b3
  have q := Lib.hid (by have := ror0_any mv j a1 m1 c1 u3; rwa [hor.out] at this)
  go_wp2_with fail
  with_reducible refine q.out.mono ?_
  rintro e u4 ⟨rfl, b4⟩
  clear k5 k6
  clear q
  have k7 : u4.cell? ⟨w.heap.size, 0, none⟩ = some (.int .i64 mv) := (Z1.out.below b4 Z1.out.lt).cell 0
  have k8 : u4.cell? ⟨w.heap.size, 1, none⟩ = some (.slice a1 m1 c1) := (Z1.out.below b4 Z1.out.lt).cell 1
  replace Z1 := Lib.hid (Z1.out.below b4 Z1.out.lt)
  replace BL := Lib.hid (BL.out.trans (b4.mono BL.out.size))
  replace S1 := Lib.hid (S1.out.below b4)
  replace SV := Lib.hid (SV.out.below b4)
  clear b4
  have q := Lib.hid (by have := is_any c u4; rwa [his.out] at this)
  go_wp2_with fail
  with_reducible refine q.out.mono ?_
  rintro e u1 ⟨rfl, rfl⟩
  clear q
  clear k7 k8
  have k9 := Z1.out.cell 0
  have k10 := Z1.out.cell 1
  have q := Lib.hid (QF.out _ BL.out)
  go_wp2_with fail
  with_reducible refine q.out.mono ?_
  rintro e v1 ⟨aF, dF, rfl, sF, bF⟩
  clear k9 k10
  clear q QF
  have k11 : v1.cell? ⟨w.heap.size, 0, none⟩ = some (.int .i64 mv) := (Z1.out.below bF Z1.out.lt).cell 0
  have k12 : v1.cell? ⟨w.heap.size, 1, none⟩ = some (.slice a1 m1 c1) := (Z1.out.below bF Z1.out.lt).cell 1
  have k13 : w.heap.size < v1.heap.size := (Z1.out.below bF Z1.out.lt).lt
  have B0 := box_below v1 #[.int .i64 mv, .slice aF mF dF] 24
  have B := bF.trans (B0.mono bF.size)
  replace Z1 := Lib.hid (Z1.out.below B Z1.out.lt)
  replace BL := Lib.hid (BL.out.trans (B.mono BL.out.size))
  replace S1 := Lib.hid (S1.out.below B)
  replace SV := Lib.hid (SV.out.below B)
  have ZF := Lib.hid (Holds.new v1 24 #[.int .i64 mv, .slice aF mF dF])
  have TF := Lib.hid (sF.below B0)
  clear bF B B0 sF
  have q := Lib.hid (QL.out _ BL.out)
  go_wp2_with fail
  with_reducible refine q.out.mono ?_
  rintro e v2 ⟨aL, dL, rfl, sL, bL⟩
  clear k11 k12 k13
  clear q QL
  have B0 := box_below v2 #[.int .i64 mv, .slice aL mL dL] 24
  have B := bL.trans (B0.mono bL.size)
  replace Z1 := Lib.hid (Z1.out.below B Z1.out.lt)
  replace ZF := Lib.hid (ZF.out.below B ZF.out.lt)
  replace BL := Lib.hid (BL.out.trans (B.mono BL.out.size))
  replace S1 := Lib.hid (S1.out.below B)
  replace SV := Lib.hid (SV.out.below B)
  replace TF := Lib.hid (TF.out.below B)
  have ZL := Lib.hid (Holds.new v2 24 #[.int .i64 mv, .slice aL mL dL])
  have TL := Lib.hid (sL.below B0)
  clear bL B B0 sL
  have q := Lib.hid (zlivesAt w _ BL.out)
  go_wp2_with fail
  with_reducible refine q.out.mono ?_
  rintro e v3 ⟨rfl, b3, -⟩
  clear q
  have k14 : v3.cell? ⟨v2.heap.size, 0, none⟩ = some (.int .i64 mv) := (ZL.out.below b3 ZL.out.lt).cell 0
  have k15 : v3.cell? ⟨v2.heap.size, 1, none⟩ = some (.slice aL mL dL) := (ZL.out.below b3 ZL.out.lt).cell 1
  replace Z1 := Lib.hid (Z1.out.below b3 Z1.out.lt)
  replace ZF := Lib.hid (ZF.out.below b3 ZF.out.lt)
  replace ZL := Lib.hid (ZL.out.below b3 ZL.out.lt)
  replace BL := Lib.hid (BL.out.trans (b3.mono BL.out.size))
  replace S1 := Lib.hid (S1.out.below b3)
  replace SV := Lib.hid (SV.out.below b3)
  replace TF := Lib.hid (TF.out.below b3)
  replace TL := Lib.hid (TL.out.below b3)
  clear b3
  have q := Lib.hid (QHL.out _ aL dL TL.out SV.out)
  go_wp2_with fail
  with_reducible refine q.out.mono ?_
  rintro e v4 ⟨rfl, b4⟩
  clear k14 k15
  clear q
  have k16 : v4.cell? ⟨v1.heap.size, 0, none⟩ = some (.int .i64 mv) := (ZF.out.below b4 ZF.out.lt).cell 0
  have k17 : v4.cell? ⟨v1.heap.size, 1, none⟩ = some (.slice aF mF dF) := (ZF.out.below b4 ZF.out.lt).cell 1
  replace Z1 := Lib.hid (Z1.out.below b4 Z1.out.lt)
  replace ZF := Lib.hid (ZF.out.below b4 ZF.out.lt)
  replace ZL := Lib.hid (ZL.out.below b4 ZL.out.lt)
  replace BL := Lib.hid (BL.out.trans (b4.mono BL.out.size))
  replace S1 := Lib.hid (S1.out.below b4)
  replace SV := Lib.hid (SV.out.below b4)
  replace TF := Lib.hid (TF.out.below b4)
  replace TL := Lib.hid (TL.out.below b4)
  clear b4
  have q := Lib.hid (QVi.out _ SV.out)
  go_wp2_with fail
  with_reducible refine q.out.mono ?_
  rintro e u1 ⟨rfl, rfl⟩
  clear q
  have q := Lib.hid (QVj.out _ SV.out)
  go_wp2_with fail
  with_reducible refine q.out.mono ?_
  rintro e u1 ⟨rfl, rfl⟩
  clear q
  have q := Lib.hid (QHF.out _ aF dF TF.out SV.out)
  go_wp2_with fail
  with_reducible refine q.out.mono ?_
  rintro e v5 ⟨rfl, b5⟩
  clear k16 k17
  clear q QHF
  replace Z1 := Lib.hid (Z1.out.below b5 Z1.out.lt)
  replace ZF := Lib.hid (ZF.out.below b5 ZF.out.lt)
  replace ZL := Lib.hid (ZL.out.below b5 ZL.out.lt)
  replace BL := Lib.hid (BL.out.trans (b5.mono BL.out.size))
  replace S1 := Lib.hid (S1.out.below b5)
  replace SV := Lib.hid (SV.out.below b5)
  replace TF := Lib.hid (TF.out.below b5)
  replace TL := Lib.hid (TL.out.below b5)
  clear b5
  clear TF
  clear TL
  clear ZF
  clear ZL
  have k18 := Z1.out.cell 0
  have k19 := Z1.out.cell 1
  go_wp2
  go_loopw [16, 17] (fun y x wr => ∃ k : Nat, k ≤ mv + 1 ∧ x = .int .i64 k ∧ y = .int .i64 (leastK mv l1 v i k) ∧ Hid (Below w.heap.size w wr) ∧ Hid (Holds wr w.heap.size 24 #[.int .i64 mv, .slice a1 m1 c1]) ∧ Hid (SL wr a1 m1 c1 l1) ∧ Hid (SL wr av mv cv v)) (fun _ x _ => mv + 1 - (intOf x).toNat)
  case atStart => exact ⟨0, by omega, rfl, rfl, BL, Z1, S1, SV⟩
  case round =>
    clear k18 k19 BL S1 SV Z1
    obtain ⟨k, hk, rfl, rfl, BL, Y1, S1, SV⟩ := hrel
    have k301 := Y1.out.cell 0
    have k302 := Y1.out.cell 1
    by_cases hlt : k < mv + 1
    · have hki : (k : Int) ≤ (mv : Int) := by omega
      have bk := hval.out k
      have bm := hmat.out k (by omega)
      have qv := Lib.hid (fun W hS => QVk.out k (by omega) W hS)
      have hnx : Hid (leastK mv l1 v i (k + 1) = if k ≠ i ∧ leastK mv l1 v i k < valF v k - mat mv l1 k i then valF v k - mat mv l1 k i else leastK mv l1 v i k) := Lib.hid rfl
      have qb := Lib.hid (QBd.out k (by omega) wr S1.out)
      obtain ⟨ln, hln⟩ : ∃ x, x = leastK mv l1 v i (k + 1) := ⟨_, rfl⟩
      have hln1 := Lib.hid hln.symm
      rw [← hln] at hnx
      clear hln
      generalize leastK mv l1 v i k = lk at *
      generalize valF v k = xk at *
      generalize mat mv l1 k i = mk at *
      by_cases e : k = i
      · have hn1 : Hid (ln = lk) := Lib.hid (by rw [hnx.out, if_neg (fun q => q.1 e)])
        have e1 : (k == i) = true := by simpa using e
        clear hnx e
        have q := Lib.hid (qb.out)
        go_wp2_with fail
        with_reducible refine q.out.mono ?_
        rintro e v1 ⟨rfl, b1⟩
        clear k301 k302
        clear q qb
        have k501 : v1.cell? ⟨w.heap.size, 0, none⟩ = some (.int .i64 mv) := (Y1.out.below b1 Y1.out.lt).cell 0
        have k502 : v1.cell? ⟨w.heap.size, 1, none⟩ = some (.slice a1 m1 c1) := (Y1.out.below b1 Y1.out.lt).cell 1
        replace Y1 := Lib.hid (Y1.out.below b1 Y1.out.lt)
        replace BL := Lib.hid (BL.out.trans (b1.mono BL.out.size))
        replace S1 := Lib.hid (S1.out.below b1)
        replace SV := Lib.hid (SV.out.below b1)
        clear b1
        go_wp2
        go_roundw
        case rel => exact ⟨k + 1, by omega, by go_num, by rw [hln1.out, hn1.out], BL, Y1, S1, SV⟩
        case measure => simp [intOf]; omega
      · have e1 : (k == i) = false := by simpa using e
        by_cases hl : lk < xk - mk
        · have hn1 : Hid (ln = xk - mk) := Lib.hid (by rw [hnx.out, if_pos ⟨e, hl⟩])
          clear hnx
          have q := Lib.hid (qb.out)
          go_wp2_with fail
          with_reducible refine q.out.mono ?_
          rintro e v1 ⟨rfl, b1⟩
          clear k301 k302
          clear q qb
          have k701 : v1.cell? ⟨w.heap.size, 0, none⟩ = some (.int .i64 mv) := (Y1.out.below b1 Y1.out.lt).cell 0
          have k702 : v1.cell? ⟨w.heap.size, 1, none⟩ = some (.slice a1 m1 c1) := (Y1.out.below b1 Y1.out.lt).cell 1
          replace Y1 := Lib.hid (Y1.out.below b1 Y1.out.lt)
          replace BL := Lib.hid (BL.out.trans (b1.mono BL.out.size))
          replace S1 := Lib.hid (S1.out.below b1)
          replace SV := Lib.hid (SV.out.below b1)
          clear b1
          have q := Lib.hid (qv.out v1 SV.out)
          go_wp2_with fail
          with_reducible refine q.out.mono ?_
          rintro e u1 ⟨rfl, rfl⟩
          clear q
          have q := Lib.hid (qv.out v1 SV.out)
          go_wp2_with fail
          with_reducible refine q.out.mono ?_
          rintro e u1 ⟨rfl, rfl⟩
          clear q
          go_wp2
          go_roundw
          case rel => exact ⟨k + 1, by omega, by go_num, by rw [hln1.out, hn1.out], BL, Y1, S1, SV⟩
          case measure => simp [intOf]; omega
        · have hn1 : Hid (ln = lk) := Lib.hid (by rw [hnx.out, if_neg (fun q => hl q.2)])
          clear hnx
          have q := Lib.hid (qb.out)
          go_wp2_with fail
          with_reducible refine q.out.mono ?_
          rintro e v1 ⟨rfl, b1⟩
          clear k301 k302
          clear q qb
          have k701 : v1.cell? ⟨w.heap.size, 0, none⟩ = some (.int .i64 mv) := (Y1.out.below b1 Y1.out.lt).cell 0
          have k702 : v1.cell? ⟨w.heap.size, 1, none⟩ = some (.slice a1 m1 c1) := (Y1.out.below b1 Y1.out.lt).cell 1
          replace Y1 := Lib.hid (Y1.out.below b1 Y1.out.lt)
          replace BL := Lib.hid (BL.out.trans (b1.mono BL.out.size))
          replace S1 := Lib.hid (S1.out.below b1)
          replace SV := Lib.hid (SV.out.below b1)
          clear b1
          have q := Lib.hid (qv.out v1 SV.out)
          go_wp2_with fail
          with_reducible refine q.out.mono ?_
          rintro e u1 ⟨rfl, rfl⟩
          clear q
          go_wp2
          go_roundw
          case rel => exact ⟨k + 1, by omega, by go_num, by rw [hln1.out, hn1.out], BL, Y1, S1, SV⟩
          case measure => simp [intOf]; omega
    · have hke : k = mv + 1 := by omega
      subst hke
      generalize leastK mv l1 v i (mv + 1) = le at *
      go_wp2
      clear k301 k302
      have k801 : ∀ W, Below wr.heap.size wr W → W.cell? ⟨w.heap.size, 0, none⟩ = some (.int .i64 mv) := fun W hW => (Y1.out.below hW Y1.out.lt).cell 0
      have k802 : ∀ W, Below wr.heap.size wr W → W.cell? ⟨w.heap.size, 1, none⟩ = some (.slice a1 m1 c1) := fun W hW => (Y1.out.below hW Y1.out.lt).cell 1
      have qt := Lib.hid (fun W (hW : Below wr.heap.size wr W) => BL.out.trans (hW.mono BL.out.size))
      have qa := Lib.hid (fun W (hW : Below wr.heap.size wr W) => SV.out.below hW)
      have q1 := Lib.hid (fun W (hW : Below wr.heap.size wr W) => S1.out.below hW)
      refine wp_drawn_on (fun W => Below wr.heap.size wr W) (by kernel_rfl) (below_drew (Below.refl _ _)) (fun hHeld => ?_)
      refine wpAnyH_take (i := 0) (oi := { dst := some 161, op := Go.Op.load 24 (Go.Operand.tmp 5), type := 24, pos := "law.go:174", after := #[], guard := none }) (v := ?v1) rfl (by kernel_rfl) (by kernel_rfl) (by kernel_rfl) (fun _ _ _ h => h) (Or.inl ⟨by kernel_rfl, ?h1⟩) (by assumption) ?r1
      case h1 => (intro w hSw; (try dsimp only at hSw); go_simp; try with_reducible rfl)
      try simp only [Act.put, List.setIfInBounds_toArray, List.set_cons_zero, List.set_cons_succ]
      refine wpAnyH_take (i := 1) (oi := { dst := some 162, op := Go.Op.move (Go.Operand.tmp 1), type := 22, pos := "law.go:174", after := #[], guard := none }) (v := ?v2) rfl (by kernel_rfl) (by kernel_rfl) (by kernel_rfl) (fun _ _ _ h => h) (Or.inl ⟨by kernel_rfl, ?h2⟩) (by assumption) ?r2
      case h2 => (intro w hSw; (try dsimp only at hSw); go_simp; try with_reducible rfl)
      try simp only [Act.put, List.setIfInBounds_toArray, List.set_cons_zero, List.set_cons_succ]
      refine wpAnyH_take (i := 2) (oi := { dst := some 163, op := Go.Op.move (Go.Operand.tmp 2), type := 3, pos := "law.go:174", after := #[], guard := none }) (v := ?v3) rfl (by kernel_rfl) (by kernel_rfl) (by kernel_rfl) (fun _ _ _ h => h) (Or.inl ⟨by kernel_rfl, ?h3⟩) (by assumption) ?r3
      case h3 => (intro w hSw; (try dsimp only at hSw); go_simp; try with_reducible rfl)
      try simp only [Act.put, List.setIfInBounds_toArray, List.set_cons_zero, List.set_cons_succ]
      refine wpAnyH_take (i := 3) (oi := { dst := some 164, op := Go.Op.move (Go.Operand.tmp 16), type := 3, pos := "law.go:174", after := #[], guard := none }) (v := ?v4) rfl (by kernel_rfl) (by kernel_rfl) (by kernel_rfl) (fun _ _ _ h => h) (Or.inl ⟨by kernel_rfl, ?h4⟩) (by assumption) ?r4
      case h4 => (intro w hSw; (try dsimp only at hSw); go_simp; try with_reducible rfl)
      try simp only [Act.put, List.setIfInBounds_toArray, List.set_cons_zero, List.set_cons_succ]
      refine wpAnyH_ready (rs := [4]) (by kernel_rfl) (by simp) ?_
      refine AllReadyH.cons (o := { dst := some 165, op := Go.Op.call { callee := Go.Callee.value (Go.Operand.func 42), args := #[Go.Operand.tmp 162, Go.Operand.tmp 163, Go.Operand.tmp 164], argTypes := #[22, 3, 3] }, type := 22, pos := "law.go:174", after := #[{ on := 1, ground := Go.Ground.data }, { on := 2, ground := Go.Ground.data }, { on := 3, ground := Go.Ground.data }], guard := none }) rfl (fun K hK => ?_) AllReadyH.nil
      go_simp
      with_reducible refine (QWl.out _ (qa.out _ hHeld)).mono ?_
      rintro e t4 ⟨bF, eF, rfl, sf, b4⟩
      go_simp
      refine hK.out _ _ (hHeld.trans (b4.mono hHeld.size)) (fun hHeld => ?_)
      clear hK K
      try simp only [Act.put, List.setIfInBounds_toArray, List.set_cons_zero, List.set_cons_succ]
      refine wpAnyH_ready (rs := [5]) (by kernel_rfl) (by simp) ?_
      refine AllReadyH.cons (o := { dst := some 166, op := Go.Op.call { callee := Go.Callee.value (Go.Operand.func 35), args := #[Go.Operand.tmp 161, Go.Operand.tmp 165], argTypes := #[24, 22] }, type := 4, pos := "law.go:174", after := #[{ on := 0, ground := Go.Ground.data }, { on := 4, ground := Go.Ground.data }, { on := 4, ground := Go.Ground.chain }], guard := none }) rfl (fun K hK => ?_) AllReadyH.nil
      go_simp
      with_reducible refine (QHz.out _ bF eF (q1.out _ hHeld) sf).mono ?_
      rintro e t5 ⟨rfl, b5⟩
      go_simp
      refine hK.out _ _ (hHeld.trans (b5.mono hHeld.size)) (fun hHeld => ?_)
      clear hK K
      try simp only [Act.put, List.setIfInBounds_toArray, List.set_cons_zero, List.set_cons_succ]
      refine wpAnyH_take (i := 6) (oi := { dst := some 10, op := Go.Op.assign (Go.Operand.tmp 166), type := 4, pos := "law.go:174", after := #[{ on := 5, ground := Go.Ground.data }, { on := 5, ground := Go.Ground.chain }, { on := 0, ground := Go.Ground.phase }, { on := 1, ground := Go.Ground.phase }, { on := 2, ground := Go.Ground.phase }, { on := 3, ground := Go.Ground.phase }, { on := 4, ground := Go.Ground.phase }, { on := 5, ground := Go.Ground.phase }], guard := none }) (v := ?v5) rfl (by kernel_rfl) (by kernel_rfl) (by kernel_rfl) (fun _ _ _ h => h) (Or.inl ⟨by kernel_rfl, ?h5⟩) (by assumption) ?r5
      case h5 => (intro w hSw; (try dsimp only at hSw); go_simp; try with_reducible rfl)
      try simp only [Act.put, List.setIfInBounds_toArray, List.set_cons_zero, List.set_cons_succ]
      refine wpAnyH_done (by kernel_rfl) ?_ _
      have bw := Lib.hid (qt.out _ hHeld)
      clear k801 k802
      go_wp2
      go_ret
      exact ⟨rfl, bw.out⟩
set_option maxRecDepth 100000 in
set_option maxHeartbeats 8000000 in
theorem steps_nft (i j : Nat) (c : Int) (a1 av : Option Addr) (m1 mv c1 cv : Nat) (l1 v : List Int) (w : World) (h1 : SL w a1 m1 c1 l1) (hv : SL w av mv cv v) (g1 : ¬ 200 < m1) (g2 : ¬ 8 < mv) (z1 : IsZ mv l1) (hi0 : 1 ≤ i) (hi : i ≤ mv) (hj : j ≤ mv) (hij : i ≠ j) (hc : farB c = false) (hhf : hasB mv (forgetL mv l1 i) v = true) (hhl : hasB mv (letL mv l1 i j c) v = false) : Calls Try.prog 7 #[.agg #[.int .i64 mv, .slice a1 m1 c1], .slice av mv cv, .int .i64 i, .int .i64 j, .int .i64 c] w (Gives (.bool true) w) := by
  have hvl : v.length = mv := hv.len.symm
  have g2i : ¬ (8 : Int) < (mv : Int) := by omega
  have hck := Lib.hid z1.check
  have his : Hid ((!farB c) = true) := Lib.hid (by rw [hc]; rfl)
  have hvar : Hid ((decide (1 ≤ (i : Int)) && decide ((i : Int) ≤ (mv : Int))) = true) := Lib.hid (by simp; omega)
  have hor : Hid ((decide (0 ≤ (j : Int)) && decide ((j : Int) ≤ (mv : Int))) = true) := Lib.hid (by simp; omega)
  have H1 := Lib.hid h1
  have HV := Lib.hid hv
  have bc : -1099511627776 ≤ c ∧ c ≤ 1099511627776 := by unfold farB at hc; simp at hc; omega
  have zF : IsZ mv (forgetL mv l1 i) := forgetL_isz z1.1 _ _
  obtain ⟨mF, hmF⟩ : ∃ x, x = (forgetL mv l1 i).length := ⟨_, rfl⟩
  have rF : mF ≤ 81 := by rw [hmF]; exact zF.small
  have QF := Lib.hid (fun W (hW : Below w.heap.size w W) => (zforget_ok mv l1 z1 i hi0 hi a1 m1 c1 W (H1.out.below hW)).mono (fun e w' h => ends_of (m := mF) hmF.symm (by omega) h))
  have zL : IsZ mv (letL mv l1 i j c) := letL_isz z1.1 _ _ _ _
  obtain ⟨mL, hmL⟩ : ∃ x, x = (letL mv l1 i j c).length := ⟨_, rfl⟩
  have rL : mL ≤ 81 := by rw [hmL]; exact zL.small
  have QL := Lib.hid (fun W (hW : Below w.heap.size w W) => (zlet_ok mv l1 z1 i j hi0 hi hj c a1 m1 c1 W (H1.out.below hW)).mono (fun e w' h => ends_of (m := mL) hmL.symm (by omega) h))
  have QHL : Hid (∀ W a cz, SL W a mL cz (letL mv l1 i j c) → SL W av mv cv v → Calls Try.prog 35 #[.agg #[.int .i64 mv, .slice a mL cz], .slice av mv cv] W (Gives (.bool (false)) W)) := Lib.hid (fun W a cz hS hV => by have := has_any mv a mL cz _ av mv cv v W hS hV; rwa [hhl] at this)
  have hij1 : (i == j) = false := by simpa using hij
  have QHF : Hid (∀ W a cz, SL W a mF cz (forgetL mv l1 i) → SL W av mv cv v → Calls Try.prog 35 #[.agg #[.int .i64 mv, .slice a mF cz], .slice av mv cv] W (Gives (.bool (true)) W)) := Lib.hid (fun W a cz hS hV => by have := has_any mv a mF cz _ av mv cv v W hS hV; rwa [hhf] at this)
  have QVk := Lib.hid (fun k (hk : k ≤ mv) W (hV : SL W av mv cv v) => lval_any av v mv cv hvl.symm (by omega) k hk W.heap.size W hV.sees)
  have QVi := Lib.hid (fun W (hV : SL W av mv cv v) => QVk.out i hi W hV)
  have QVj := Lib.hid (fun W (hV : SL W av mv cv v) => QVk.out j hj W hV)
  have hhas := (has_iff (forgetL_isz z1.1 l1 i) hvl).1 hhf
  have hfo := (has_forget z1 hi).1 hhas
  have hF := z1.2.resolve_left hfo.1
  have hval : Hid (∀ k, -1099511627776 ≤ valF v k ∧ valF v k ≤ 1099511627776) := Lib.hid (fun k => val_in hfo.2.1 k)
  have hmat : Hid (∀ k, k ≤ mv → -2199023255552 ≤ mat mv l1 k i ∧ mat mv l1 k i ≤ 2199023255552) := Lib.hid (fun k hk => full_near hF (place_lt hk hi))
  have QBd := Lib.hid (fun k (hk : k ≤ mv) W (hS : SL W a1 m1 c1 l1) => bound_full hF hk hi a1 m1 c1 W hS)
  have flst := fact_least z1 hvl hi0 hi hhf
  have QWl := Lib.hid (fun W (hV : SL W av mv cv v) => lwith_any av v mv cv (by omega) i hi0 hi (leastK mv l1 v i (mv + 1)) W hV)
  have QHz : Hid (∀ W b d, SL W a1 m1 c1 l1 → SL W b mv d (withL v i (leastK mv l1 v i (mv + 1))) → Calls Try.prog 35 #[.agg #[.int .i64 mv, .slice a1 m1 c1], .slice b mv d] W (Gives (.bool (true)) W)) := Lib.hid (fun W b d hS hV => by have := has_any mv a1 m1 c1 l1 b mv d _ W hS hV; rwa [flst] at this)
  have bi := hval.out i
  have bj := hval.out j
  clear hc hhf hhl hhas hfo hF flst zF hmF zL hmL
  clear z1 hi0 hi hvl hj hij
  generalize withL v i (leastK mv l1 v i (mv + 1)) = vl at *
  generalize forgetL mv l1 i = LF at *
  generalize letL mv l1 i j c = LL at *
  obtain ⟨y, hy⟩ : ∃ y, y = valF v j := ⟨_, rfl⟩
  rw [← hy] at QVj bj
  clear hy
  clear bi bj
  obtain ⟨W1, hW1⟩ : ∃ W1, W1 = w.alloc (.cells #[.int .i64 mv, .slice a1 m1 c1] 24) := ⟨_, rfl⟩
  have Z1 : Hid (Holds W1 (w.heap.size) 24 #[.int .i64 mv, .slice a1 m1 c1]) := Lib.hid (by rw [hW1]; exact Holds.new w _ _)
  have BL := Lib.hid (show Below w.heap.size w W1 by rw [hW1]; exact box_below _ _ _)
  have S1 := Lib.hid (h1.below BL.out)
  have SV := Lib.hid (hv.below BL.out)
  have hW1' := Lib.hid hW1
  clear hW1
  clear h1 hv
  go_enter Try.func7, Try.ntmps7
  have k1 := Z1.out.cell 0
  have k2 := Z1.out.cell 1
  have q := Lib.hid (by have := large_any a1 m1 c1 S1.out.max W1; rwa [decide_eq_false (show ¬ (200 : Int) < (m1 : Int) by omega)] at this)
  go_wp2_with fail
  rw [← hW1'.out]
  with_reducible refine q.out.mono ?_
  rintro e u1 ⟨rfl, rfl⟩
  clear hW1'
  clear q
  have q := Lib.hid (by have := rcheck_any mv a1 m1 c1 l1 W1 S1.out; rwa [hck.out] at this)
  go_wp2_with fail
  with_reducible refine q.out.mono ?_
  rintro e u2 ⟨rfl, b2⟩
  clear k1 k2
  clear q
  have k3 : u2.cell? ⟨w.heap.size, 0, none⟩ = some (.int .i64 mv) := (Z1.out.below b2 Z1.out.lt).cell 0
  have k4 : u2.cell? ⟨w.heap.size, 1, none⟩ = some (.slice a1 m1 c1) := (Z1.out.below b2 Z1.out.lt).cell 1
  replace Z1 := Lib.hid (Z1.out.below b2 Z1.out.lt)
  replace BL := Lib.hid (BL.out.trans (b2.mono BL.out.size))
  replace S1 := Lib.hid (S1.out.below b2)
  replace SV := Lib.hid (SV.out.below b2)
  clear b2
  have q := Lib.hid (by have := rvar_any mv i a1 m1 c1 u2; rwa [hvar.out] at this)
  go_wp2_with fail
  with_reducible refine q.out.mono ?_
  rintro e u3 ⟨rfl, b3⟩
  clear k3 k4
  clear q
  have k5 : u3.cell? ⟨w.heap.size, 0, none⟩ = some (.int .i64 mv) := (Z1.out.below b3 Z1.out.lt).cell 0
  have k6 : u3.cell? ⟨w.heap.size, 1, none⟩ = some (.slice a1 m1 c1) := (Z1.out.below b3 Z1.out.lt).cell 1
  replace Z1 := Lib.hid (Z1.out.below b3 Z1.out.lt)
  replace BL := Lib.hid (BL.out.trans (b3.mono BL.out.size))
  replace S1 := Lib.hid (S1.out.below b3)
  replace SV := Lib.hid (SV.out.below b3)
  clear b3
  have q := Lib.hid (by have := ror0_any mv j a1 m1 c1 u3; rwa [hor.out] at this)
  go_wp2_with fail
  with_reducible refine q.out.mono ?_
  rintro e u4 ⟨rfl, b4⟩
  clear k5 k6
  clear q
  have k7 : u4.cell? ⟨w.heap.size, 0, none⟩ = some (.int .i64 mv) := (Z1.out.below b4 Z1.out.lt).cell 0
  have k8 : u4.cell? ⟨w.heap.size, 1, none⟩ = some (.slice a1 m1 c1) := (Z1.out.below b4 Z1.out.lt).cell 1
  replace Z1 := Lib.hid (Z1.out.below b4 Z1.out.lt)
  replace BL := Lib.hid (BL.out.trans (b4.mono BL.out.size))
  replace S1 := Lib.hid (S1.out.below b4)
  replace SV := Lib.hid (SV.out.below b4)
  clear b4
  have q := Lib.hid (by have := is_any c u4; rwa [his.out] at this)
  go_wp2_with fail
  with_reducible refine q.out.mono ?_
  rintro e u1 ⟨rfl, rfl⟩
  clear q
  clear k7 k8
  have k9 := Z1.out.cell 0
  have k10 := Z1.out.cell 1
  have q := Lib.hid (QF.out _ BL.out)
  go_wp2_with fail
  with_reducible refine q.out.mono ?_
  rintro e v1 ⟨aF, dF, rfl, sF, bF⟩
  clear k9 k10
  clear q QF
  have k11 : v1.cell? ⟨w.heap.size, 0, none⟩ = some (.int .i64 mv) := (Z1.out.below bF Z1.out.lt).cell 0
  have k12 : v1.cell? ⟨w.heap.size, 1, none⟩ = some (.slice a1 m1 c1) := (Z1.out.below bF Z1.out.lt).cell 1
  have k13 : w.heap.size < v1.heap.size := (Z1.out.below bF Z1.out.lt).lt
  have B0 := box_below v1 #[.int .i64 mv, .slice aF mF dF] 24
  have B := bF.trans (B0.mono bF.size)
  replace Z1 := Lib.hid (Z1.out.below B Z1.out.lt)
  replace BL := Lib.hid (BL.out.trans (B.mono BL.out.size))
  replace S1 := Lib.hid (S1.out.below B)
  replace SV := Lib.hid (SV.out.below B)
  have ZF := Lib.hid (Holds.new v1 24 #[.int .i64 mv, .slice aF mF dF])
  have TF := Lib.hid (sF.below B0)
  clear bF B B0 sF
  have q := Lib.hid (QL.out _ BL.out)
  go_wp2_with fail
  with_reducible refine q.out.mono ?_
  rintro e v2 ⟨aL, dL, rfl, sL, bL⟩
  clear k11 k12 k13
  clear q QL
  have B0 := box_below v2 #[.int .i64 mv, .slice aL mL dL] 24
  have B := bL.trans (B0.mono bL.size)
  replace Z1 := Lib.hid (Z1.out.below B Z1.out.lt)
  replace ZF := Lib.hid (ZF.out.below B ZF.out.lt)
  replace BL := Lib.hid (BL.out.trans (B.mono BL.out.size))
  replace S1 := Lib.hid (S1.out.below B)
  replace SV := Lib.hid (SV.out.below B)
  replace TF := Lib.hid (TF.out.below B)
  have ZL := Lib.hid (Holds.new v2 24 #[.int .i64 mv, .slice aL mL dL])
  have TL := Lib.hid (sL.below B0)
  clear bL B B0 sL
  have q := Lib.hid (zlivesAt w _ BL.out)
  go_wp2_with fail
  with_reducible refine q.out.mono ?_
  rintro e v3 ⟨rfl, b3, -⟩
  clear q
  have k14 : v3.cell? ⟨v2.heap.size, 0, none⟩ = some (.int .i64 mv) := (ZL.out.below b3 ZL.out.lt).cell 0
  have k15 : v3.cell? ⟨v2.heap.size, 1, none⟩ = some (.slice aL mL dL) := (ZL.out.below b3 ZL.out.lt).cell 1
  replace Z1 := Lib.hid (Z1.out.below b3 Z1.out.lt)
  replace ZF := Lib.hid (ZF.out.below b3 ZF.out.lt)
  replace ZL := Lib.hid (ZL.out.below b3 ZL.out.lt)
  replace BL := Lib.hid (BL.out.trans (b3.mono BL.out.size))
  replace S1 := Lib.hid (S1.out.below b3)
  replace SV := Lib.hid (SV.out.below b3)
  replace TF := Lib.hid (TF.out.below b3)
  replace TL := Lib.hid (TL.out.below b3)
  clear b3
  have q := Lib.hid (QHL.out _ aL dL TL.out SV.out)
  go_wp2_with fail
  with_reducible refine q.out.mono ?_
  rintro e v4 ⟨rfl, b4⟩
  clear k14 k15
  clear q
  have k16 : v4.cell? ⟨v1.heap.size, 0, none⟩ = some (.int .i64 mv) := (ZF.out.below b4 ZF.out.lt).cell 0
  have k17 : v4.cell? ⟨v1.heap.size, 1, none⟩ = some (.slice aF mF dF) := (ZF.out.below b4 ZF.out.lt).cell 1
  replace Z1 := Lib.hid (Z1.out.below b4 Z1.out.lt)
  replace ZF := Lib.hid (ZF.out.below b4 ZF.out.lt)
  replace ZL := Lib.hid (ZL.out.below b4 ZL.out.lt)
  replace BL := Lib.hid (BL.out.trans (b4.mono BL.out.size))
  replace S1 := Lib.hid (S1.out.below b4)
  replace SV := Lib.hid (SV.out.below b4)
  replace TF := Lib.hid (TF.out.below b4)
  replace TL := Lib.hid (TL.out.below b4)
  clear b4
  have q := Lib.hid (QHF.out _ aF dF TF.out SV.out)
  go_wp2_with fail
  with_reducible refine q.out.mono ?_
  rintro e v5 ⟨rfl, b5⟩
  clear k16 k17
  clear q QHF
  replace Z1 := Lib.hid (Z1.out.below b5 Z1.out.lt)
  replace ZF := Lib.hid (ZF.out.below b5 ZF.out.lt)
  replace ZL := Lib.hid (ZL.out.below b5 ZL.out.lt)
  replace BL := Lib.hid (BL.out.trans (b5.mono BL.out.size))
  replace S1 := Lib.hid (S1.out.below b5)
  replace SV := Lib.hid (SV.out.below b5)
  replace TF := Lib.hid (TF.out.below b5)
  replace TL := Lib.hid (TL.out.below b5)
  clear b5
  clear TF
  clear TL
  clear ZF
  clear ZL
  have k18 := Z1.out.cell 0
  have k19 := Z1.out.cell 1
  go_wp2
  go_loopw [16, 17] (fun y x wr => ∃ k : Nat, k ≤ mv + 1 ∧ x = .int .i64 k ∧ y = .int .i64 (leastK mv l1 v i k) ∧ Hid (Below w.heap.size w wr) ∧ Hid (Holds wr w.heap.size 24 #[.int .i64 mv, .slice a1 m1 c1]) ∧ Hid (SL wr a1 m1 c1 l1) ∧ Hid (SL wr av mv cv v)) (fun _ x _ => mv + 1 - (intOf x).toNat)
  case atStart => exact ⟨0, by omega, rfl, rfl, BL, Z1, S1, SV⟩
  case round =>
    clear k18 k19 BL S1 SV Z1
    obtain ⟨k, hk, rfl, rfl, BL, Y1, S1, SV⟩ := hrel
    have k301 := Y1.out.cell 0
    have k302 := Y1.out.cell 1
    by_cases hlt : k < mv + 1
    · have hki : (k : Int) ≤ (mv : Int) := by omega
      have bk := hval.out k
      have bm := hmat.out k (by omega)
      have qv := Lib.hid (fun W hS => QVk.out k (by omega) W hS)
      have hnx : Hid (leastK mv l1 v i (k + 1) = if k ≠ i ∧ leastK mv l1 v i k < valF v k - mat mv l1 k i then valF v k - mat mv l1 k i else leastK mv l1 v i k) := Lib.hid rfl
      have qb := Lib.hid (QBd.out k (by omega) wr S1.out)
      obtain ⟨ln, hln⟩ : ∃ x, x = leastK mv l1 v i (k + 1) := ⟨_, rfl⟩
      have hln1 := Lib.hid hln.symm
      rw [← hln] at hnx
      clear hln
      generalize leastK mv l1 v i k = lk at *
      generalize valF v k = xk at *
      generalize mat mv l1 k i = mk at *
      by_cases e : k = i
      · have hn1 : Hid (ln = lk) := Lib.hid (by rw [hnx.out, if_neg (fun q => q.1 e)])
        have e1 : (k == i) = true := by simpa using e
        clear hnx e
        have q := Lib.hid (qb.out)
        go_wp2_with fail
        with_reducible refine q.out.mono ?_
        rintro e v1 ⟨rfl, b1⟩
        clear k301 k302
        clear q qb
        have k501 : v1.cell? ⟨w.heap.size, 0, none⟩ = some (.int .i64 mv) := (Y1.out.below b1 Y1.out.lt).cell 0
        have k502 : v1.cell? ⟨w.heap.size, 1, none⟩ = some (.slice a1 m1 c1) := (Y1.out.below b1 Y1.out.lt).cell 1
        replace Y1 := Lib.hid (Y1.out.below b1 Y1.out.lt)
        replace BL := Lib.hid (BL.out.trans (b1.mono BL.out.size))
        replace S1 := Lib.hid (S1.out.below b1)
        replace SV := Lib.hid (SV.out.below b1)
        clear b1
        go_wp2
        go_roundw
        case rel => exact ⟨k + 1, by omega, by go_num, by rw [hln1.out, hn1.out], BL, Y1, S1, SV⟩
        case measure => simp [intOf]; omega
      · have e1 : (k == i) = false := by simpa using e
        by_cases hl : lk < xk - mk
        · have hn1 : Hid (ln = xk - mk) := Lib.hid (by rw [hnx.out, if_pos ⟨e, hl⟩])
          clear hnx
          have q := Lib.hid (qb.out)
          go_wp2_with fail
          with_reducible refine q.out.mono ?_
          rintro e v1 ⟨rfl, b1⟩
          clear k301 k302
          clear q qb
          have k701 : v1.cell? ⟨w.heap.size, 0, none⟩ = some (.int .i64 mv) := (Y1.out.below b1 Y1.out.lt).cell 0
          have k702 : v1.cell? ⟨w.heap.size, 1, none⟩ = some (.slice a1 m1 c1) := (Y1.out.below b1 Y1.out.lt).cell 1
          replace Y1 := Lib.hid (Y1.out.below b1 Y1.out.lt)
          replace BL := Lib.hid (BL.out.trans (b1.mono BL.out.size))
          replace S1 := Lib.hid (S1.out.below b1)
          replace SV := Lib.hid (SV.out.below b1)
          clear b1
          have q := Lib.hid (qv.out v1 SV.out)
          go_wp2_with fail
          with_reducible refine q.out.mono ?_
          rintro e u1 ⟨rfl, rfl⟩
          clear q
          have q := Lib.hid (qv.out v1 SV.out)
          go_wp2_with fail
          with_reducible refine q.out.mono ?_
          rintro e u1 ⟨rfl, rfl⟩
          clear q
          go_wp2
          go_roundw
          case rel => exact ⟨k + 1, by omega, by go_num, by rw [hln1.out, hn1.out], BL, Y1, S1, SV⟩
          case measure => simp [intOf]; omega
        · have hn1 : Hid (ln = lk) := Lib.hid (by rw [hnx.out, if_neg (fun q => hl q.2)])
          clear hnx
          have q := Lib.hid (qb.out)
          go_wp2_with fail
          with_reducible refine q.out.mono ?_
          rintro e v1 ⟨rfl, b1⟩
          clear k301 k302
          clear q qb
          have k701 : v1.cell? ⟨w.heap.size, 0, none⟩ = some (.int .i64 mv) := (Y1.out.below b1 Y1.out.lt).cell 0
          have k702 : v1.cell? ⟨w.heap.size, 1, none⟩ = some (.slice a1 m1 c1) := (Y1.out.below b1 Y1.out.lt).cell 1
          replace Y1 := Lib.hid (Y1.out.below b1 Y1.out.lt)
          replace BL := Lib.hid (BL.out.trans (b1.mono BL.out.size))
          replace S1 := Lib.hid (S1.out.below b1)
          replace SV := Lib.hid (SV.out.below b1)
          clear b1
          have q := Lib.hid (qv.out v1 SV.out)
          go_wp2_with fail
          with_reducible refine q.out.mono ?_
          rintro e u1 ⟨rfl, rfl⟩
          clear q
          go_wp2
          go_roundw
          case rel => exact ⟨k + 1, by omega, by go_num, by rw [hln1.out, hn1.out], BL, Y1, S1, SV⟩
          case measure => simp [intOf]; omega
    · have hke : k = mv + 1 := by omega
      subst hke
      generalize leastK mv l1 v i (mv + 1) = le at *
      go_wp2
      clear k301 k302
      have k801 : ∀ W, Below wr.heap.size wr W → W.cell? ⟨w.heap.size, 0, none⟩ = some (.int .i64 mv) := fun W hW => (Y1.out.below hW Y1.out.lt).cell 0
      have k802 : ∀ W, Below wr.heap.size wr W → W.cell? ⟨w.heap.size, 1, none⟩ = some (.slice a1 m1 c1) := fun W hW => (Y1.out.below hW Y1.out.lt).cell 1
      have qt := Lib.hid (fun W (hW : Below wr.heap.size wr W) => BL.out.trans (hW.mono BL.out.size))
      have qa := Lib.hid (fun W (hW : Below wr.heap.size wr W) => SV.out.below hW)
      have q1 := Lib.hid (fun W (hW : Below wr.heap.size wr W) => S1.out.below hW)
      refine wp_drawn_on (fun W => Below wr.heap.size wr W) (by kernel_rfl) (below_drew (Below.refl _ _)) (fun hHeld => ?_)
      refine wpAnyH_take (i := 0) (oi := { dst := some 161, op := Go.Op.load 24 (Go.Operand.tmp 5), type := 24, pos := "law.go:174", after := #[], guard := none }) (v := ?v6) rfl (by kernel_rfl) (by kernel_rfl) (by kernel_rfl) (fun _ _ _ h => h) (Or.inl ⟨by kernel_rfl, ?h6⟩) (by assumption) ?r6
      case h6 => (intro w hSw; (try dsimp only at hSw); go_simp; try with_reducible rfl)
      try simp only [Act.put, List.setIfInBounds_toArray, List.set_cons_zero, List.set_cons_succ]
      refine wpAnyH_take (i := 1) (oi := { dst := some 162, op := Go.Op.move (Go.Operand.tmp 1), type := 22, pos := "law.go:174", after := #[], guard := none }) (v := ?v7) rfl (by kernel_rfl) (by kernel_rfl) (by kernel_rfl) (fun _ _ _ h => h) (Or.inl ⟨by kernel_rfl, ?h7⟩) (by assumption) ?r7
      case h7 => (intro w hSw; (try dsimp only at hSw); go_simp; try with_reducible rfl)
      try simp only [Act.put, List.setIfInBounds_toArray, List.set_cons_zero, List.set_cons_succ]
      refine wpAnyH_take (i := 2) (oi := { dst := some 163, op := Go.Op.move (Go.Operand.tmp 2), type := 3, pos := "law.go:174", after := #[], guard := none }) (v := ?v8) rfl (by kernel_rfl) (by kernel_rfl) (by kernel_rfl) (fun _ _ _ h => h) (Or.inl ⟨by kernel_rfl, ?h8⟩) (by assumption) ?r8
      case h8 => (intro w hSw; (try dsimp only at hSw); go_simp; try with_reducible rfl)
      try simp only [Act.put, List.setIfInBounds_toArray, List.set_cons_zero, List.set_cons_succ]
      refine wpAnyH_take (i := 3) (oi := { dst := some 164, op := Go.Op.move (Go.Operand.tmp 16), type := 3, pos := "law.go:174", after := #[], guard := none }) (v := ?v9) rfl (by kernel_rfl) (by kernel_rfl) (by kernel_rfl) (fun _ _ _ h => h) (Or.inl ⟨by kernel_rfl, ?h9⟩) (by assumption) ?r9
      case h9 => (intro w hSw; (try dsimp only at hSw); go_simp; try with_reducible rfl)
      try simp only [Act.put, List.setIfInBounds_toArray, List.set_cons_zero, List.set_cons_succ]
      refine wpAnyH_ready (rs := [4]) (by kernel_rfl) (by simp) ?_
      refine AllReadyH.cons (o := { dst := some 165, op := Go.Op.call { callee := Go.Callee.value (Go.Operand.func 42), args := #[Go.Operand.tmp 162, Go.Operand.tmp 163, Go.Operand.tmp 164], argTypes := #[22, 3, 3] }, type := 22, pos := "law.go:174", after := #[{ on := 1, ground := Go.Ground.data }, { on := 2, ground := Go.Ground.data }, { on := 3, ground := Go.Ground.data }], guard := none }) rfl (fun K hK => ?_) AllReadyH.nil
      go_simp
      with_reducible refine (QWl.out _ (qa.out _ hHeld)).mono ?_
      rintro e t4 ⟨bF, eF, rfl, sf, b4⟩
      go_simp
      refine hK.out _ _ (hHeld.trans (b4.mono hHeld.size)) (fun hHeld => ?_)
      clear hK K
      try simp only [Act.put, List.setIfInBounds_toArray, List.set_cons_zero, List.set_cons_succ]
      refine wpAnyH_ready (rs := [5]) (by kernel_rfl) (by simp) ?_
      refine AllReadyH.cons (o := { dst := some 166, op := Go.Op.call { callee := Go.Callee.value (Go.Operand.func 35), args := #[Go.Operand.tmp 161, Go.Operand.tmp 165], argTypes := #[24, 22] }, type := 4, pos := "law.go:174", after := #[{ on := 0, ground := Go.Ground.data }, { on := 4, ground := Go.Ground.data }, { on := 4, ground := Go.Ground.chain }], guard := none }) rfl (fun K hK => ?_) AllReadyH.nil
      go_simp
      with_reducible refine (QHz.out _ bF eF (q1.out _ hHeld) sf).mono ?_
      rintro e t5 ⟨rfl, b5⟩
      go_simp
      refine hK.out _ _ (hHeld.trans (b5.mono hHeld.size)) (fun hHeld => ?_)
      clear hK K
      try simp only [Act.put, List.setIfInBounds_toArray, List.set_cons_zero, List.set_cons_succ]
      refine wpAnyH_take (i := 6) (oi := { dst := some 10, op := Go.Op.assign (Go.Operand.tmp 166), type := 4, pos := "law.go:174", after := #[{ on := 5, ground := Go.Ground.data }, { on := 5, ground := Go.Ground.chain }, { on := 0, ground := Go.Ground.phase }, { on := 1, ground := Go.Ground.phase }, { on := 2, ground := Go.Ground.phase }, { on := 3, ground := Go.Ground.phase }, { on := 4, ground := Go.Ground.phase }, { on := 5, ground := Go.Ground.phase }], guard := none }) (v := ?v10) rfl (by kernel_rfl) (by kernel_rfl) (by kernel_rfl) (fun _ _ _ h => h) (Or.inl ⟨by kernel_rfl, ?h10⟩) (by assumption) ?r10
      case h10 => (intro w hSw; (try dsimp only at hSw); go_simp; try with_reducible rfl)
      try simp only [Act.put, List.setIfInBounds_toArray, List.set_cons_zero, List.set_cons_succ]
      refine wpAnyH_done (by kernel_rfl) ?_ _
      have bw := Lib.hid (qt.out _ hHeld)
      clear k801 k802
      go_wp2
      go_ret
      exact ⟨rfl, bw.out⟩
set_option maxRecDepth 100000 in
set_option maxHeartbeats 8000000 in
theorem steps_nff (i j : Nat) (c : Int) (a1 av : Option Addr) (m1 mv c1 cv : Nat) (l1 v : List Int) (w : World) (h1 : SL w a1 m1 c1 l1) (hv : SL w av mv cv v) (g1 : ¬ 200 < m1) (g2 : ¬ 8 < mv) (z1 : IsZ mv l1) (hi0 : 1 ≤ i) (hi : i ≤ mv) (hj : j ≤ mv) (hij : i ≠ j) (hc : farB c = false) (hhf : hasB mv (forgetL mv l1 i) v = false) (hhl : hasB mv (letL mv l1 i j c) v = false) : Calls Try.prog 7 #[.agg #[.int .i64 mv, .slice a1 m1 c1], .slice av mv cv, .int .i64 i, .int .i64 j, .int .i64 c] w (Gives (.bool true) w) := by
  have hvl : v.length = mv := hv.len.symm
  have g2i : ¬ (8 : Int) < (mv : Int) := by omega
  have hck := Lib.hid z1.check
  have his : Hid ((!farB c) = true) := Lib.hid (by rw [hc]; rfl)
  have hvar : Hid ((decide (1 ≤ (i : Int)) && decide ((i : Int) ≤ (mv : Int))) = true) := Lib.hid (by simp; omega)
  have hor : Hid ((decide (0 ≤ (j : Int)) && decide ((j : Int) ≤ (mv : Int))) = true) := Lib.hid (by simp; omega)
  have H1 := Lib.hid h1
  have HV := Lib.hid hv
  have bc : -1099511627776 ≤ c ∧ c ≤ 1099511627776 := by unfold farB at hc; simp at hc; omega
  have zF : IsZ mv (forgetL mv l1 i) := forgetL_isz z1.1 _ _
  obtain ⟨mF, hmF⟩ : ∃ x, x = (forgetL mv l1 i).length := ⟨_, rfl⟩
  have rF : mF ≤ 81 := by rw [hmF]; exact zF.small
  have QF := Lib.hid (fun W (hW : Below w.heap.size w W) => (zforget_ok mv l1 z1 i hi0 hi a1 m1 c1 W (H1.out.below hW)).mono (fun e w' h => ends_of (m := mF) hmF.symm (by omega) h))
  have zL : IsZ mv (letL mv l1 i j c) := letL_isz z1.1 _ _ _ _
  obtain ⟨mL, hmL⟩ : ∃ x, x = (letL mv l1 i j c).length := ⟨_, rfl⟩
  have rL : mL ≤ 81 := by rw [hmL]; exact zL.small
  have QL := Lib.hid (fun W (hW : Below w.heap.size w W) => (zlet_ok mv l1 z1 i j hi0 hi hj c a1 m1 c1 W (H1.out.below hW)).mono (fun e w' h => ends_of (m := mL) hmL.symm (by omega) h))
  have QHL : Hid (∀ W a cz, SL W a mL cz (letL mv l1 i j c) → SL W av mv cv v → Calls Try.prog 35 #[.agg #[.int .i64 mv, .slice a mL cz], .slice av mv cv] W (Gives (.bool (false)) W)) := Lib.hid (fun W a cz hS hV => by have := has_any mv a mL cz _ av mv cv v W hS hV; rwa [hhl] at this)
  have hij1 : (i == j) = false := by simpa using hij
  have QHF : Hid (∀ W a cz, SL W a mF cz (forgetL mv l1 i) → SL W av mv cv v → Calls Try.prog 35 #[.agg #[.int .i64 mv, .slice a mF cz], .slice av mv cv] W (Gives (.bool (false)) W)) := Lib.hid (fun W a cz hS hV => by have := has_any mv a mF cz _ av mv cv v W hS hV; rwa [hhf] at this)
  have QVk := Lib.hid (fun k (hk : k ≤ mv) W (hV : SL W av mv cv v) => lval_any av v mv cv hvl.symm (by omega) k hk W.heap.size W hV.sees)
  have QVi := Lib.hid (fun W (hV : SL W av mv cv v) => QVk.out i hi W hV)
  have QVj := Lib.hid (fun W (hV : SL W av mv cv v) => QVk.out j hj W hV)
  clear hc hhf hhl zF hmF zL hmL
  clear z1 hi0 hi hvl hj hij
  generalize forgetL mv l1 i = LF at *
  generalize letL mv l1 i j c = LL at *
  obtain ⟨y, hy⟩ : ∃ y, y = valF v j := ⟨_, rfl⟩
  rw [← hy] at QVj
  clear hy
  obtain ⟨W1, hW1⟩ : ∃ W1, W1 = w.alloc (.cells #[.int .i64 mv, .slice a1 m1 c1] 24) := ⟨_, rfl⟩
  have Z1 : Hid (Holds W1 (w.heap.size) 24 #[.int .i64 mv, .slice a1 m1 c1]) := Lib.hid (by rw [hW1]; exact Holds.new w _ _)
  have BL := Lib.hid (show Below w.heap.size w W1 by rw [hW1]; exact box_below _ _ _)
  have S1 := Lib.hid (h1.below BL.out)
  have SV := Lib.hid (hv.below BL.out)
  have hW1' := Lib.hid hW1
  clear hW1
  clear h1 hv
  go_enter Try.func7, Try.ntmps7
  have k1 := Z1.out.cell 0
  have k2 := Z1.out.cell 1
  have q := Lib.hid (by have := large_any a1 m1 c1 S1.out.max W1; rwa [decide_eq_false (show ¬ (200 : Int) < (m1 : Int) by omega)] at this)
  go_wp2_with fail
  rw [← hW1'.out]
  with_reducible refine q.out.mono ?_
  rintro e u1 ⟨rfl, rfl⟩
  clear hW1'
  clear q
  have q := Lib.hid (by have := rcheck_any mv a1 m1 c1 l1 W1 S1.out; rwa [hck.out] at this)
  go_wp2_with fail
  with_reducible refine q.out.mono ?_
  rintro e u2 ⟨rfl, b2⟩
  clear k1 k2
  clear q
  have k3 : u2.cell? ⟨w.heap.size, 0, none⟩ = some (.int .i64 mv) := (Z1.out.below b2 Z1.out.lt).cell 0
  have k4 : u2.cell? ⟨w.heap.size, 1, none⟩ = some (.slice a1 m1 c1) := (Z1.out.below b2 Z1.out.lt).cell 1
  replace Z1 := Lib.hid (Z1.out.below b2 Z1.out.lt)
  replace BL := Lib.hid (BL.out.trans (b2.mono BL.out.size))
  replace S1 := Lib.hid (S1.out.below b2)
  replace SV := Lib.hid (SV.out.below b2)
  clear b2
  have q := Lib.hid (by have := rvar_any mv i a1 m1 c1 u2; rwa [hvar.out] at this)
  go_wp2_with fail
  with_reducible refine q.out.mono ?_
  rintro e u3 ⟨rfl, b3⟩
  clear k3 k4
  clear q
  have k5 : u3.cell? ⟨w.heap.size, 0, none⟩ = some (.int .i64 mv) := (Z1.out.below b3 Z1.out.lt).cell 0
  have k6 : u3.cell? ⟨w.heap.size, 1, none⟩ = some (.slice a1 m1 c1) := (Z1.out.below b3 Z1.out.lt).cell 1
  replace Z1 := Lib.hid (Z1.out.below b3 Z1.out.lt)
  replace BL := Lib.hid (BL.out.trans (b3.mono BL.out.size))
  replace S1 := Lib.hid (S1.out.below b3)
  replace SV := Lib.hid (SV.out.below b3)
  clear b3
  have q := Lib.hid (by have := ror0_any mv j a1 m1 c1 u3; rwa [hor.out] at this)
  go_wp2_with fail
  with_reducible refine q.out.mono ?_
  rintro e u4 ⟨rfl, b4⟩
  clear k5 k6
  clear q
  have k7 : u4.cell? ⟨w.heap.size, 0, none⟩ = some (.int .i64 mv) := (Z1.out.below b4 Z1.out.lt).cell 0
  have k8 : u4.cell? ⟨w.heap.size, 1, none⟩ = some (.slice a1 m1 c1) := (Z1.out.below b4 Z1.out.lt).cell 1
  replace Z1 := Lib.hid (Z1.out.below b4 Z1.out.lt)
  replace BL := Lib.hid (BL.out.trans (b4.mono BL.out.size))
  replace S1 := Lib.hid (S1.out.below b4)
  replace SV := Lib.hid (SV.out.below b4)
  clear b4
  have q := Lib.hid (by have := is_any c u4; rwa [his.out] at this)
  go_wp2_with fail
  with_reducible refine q.out.mono ?_
  rintro e u1 ⟨rfl, rfl⟩
  clear q
  clear k7 k8
  have k9 := Z1.out.cell 0
  have k10 := Z1.out.cell 1
  have q := Lib.hid (QF.out _ BL.out)
  go_wp2_with fail
  with_reducible refine q.out.mono ?_
  rintro e v1 ⟨aF, dF, rfl, sF, bF⟩
  clear k9 k10
  clear q QF
  have k11 : v1.cell? ⟨w.heap.size, 0, none⟩ = some (.int .i64 mv) := (Z1.out.below bF Z1.out.lt).cell 0
  have k12 : v1.cell? ⟨w.heap.size, 1, none⟩ = some (.slice a1 m1 c1) := (Z1.out.below bF Z1.out.lt).cell 1
  have k13 : w.heap.size < v1.heap.size := (Z1.out.below bF Z1.out.lt).lt
  have B0 := box_below v1 #[.int .i64 mv, .slice aF mF dF] 24
  have B := bF.trans (B0.mono bF.size)
  replace Z1 := Lib.hid (Z1.out.below B Z1.out.lt)
  replace BL := Lib.hid (BL.out.trans (B.mono BL.out.size))
  replace S1 := Lib.hid (S1.out.below B)
  replace SV := Lib.hid (SV.out.below B)
  have ZF := Lib.hid (Holds.new v1 24 #[.int .i64 mv, .slice aF mF dF])
  have TF := Lib.hid (sF.below B0)
  clear bF B B0 sF
  have q := Lib.hid (QL.out _ BL.out)
  go_wp2_with fail
  with_reducible refine q.out.mono ?_
  rintro e v2 ⟨aL, dL, rfl, sL, bL⟩
  clear k11 k12 k13
  clear q QL
  have B0 := box_below v2 #[.int .i64 mv, .slice aL mL dL] 24
  have B := bL.trans (B0.mono bL.size)
  replace Z1 := Lib.hid (Z1.out.below B Z1.out.lt)
  replace ZF := Lib.hid (ZF.out.below B ZF.out.lt)
  replace BL := Lib.hid (BL.out.trans (B.mono BL.out.size))
  replace S1 := Lib.hid (S1.out.below B)
  replace SV := Lib.hid (SV.out.below B)
  replace TF := Lib.hid (TF.out.below B)
  have ZL := Lib.hid (Holds.new v2 24 #[.int .i64 mv, .slice aL mL dL])
  have TL := Lib.hid (sL.below B0)
  clear bL B B0 sL
  have q := Lib.hid (zlivesAt w _ BL.out)
  go_wp2_with fail
  with_reducible refine q.out.mono ?_
  rintro e v3 ⟨rfl, b3, -⟩
  clear q
  have k14 : v3.cell? ⟨v2.heap.size, 0, none⟩ = some (.int .i64 mv) := (ZL.out.below b3 ZL.out.lt).cell 0
  have k15 : v3.cell? ⟨v2.heap.size, 1, none⟩ = some (.slice aL mL dL) := (ZL.out.below b3 ZL.out.lt).cell 1
  replace Z1 := Lib.hid (Z1.out.below b3 Z1.out.lt)
  replace ZF := Lib.hid (ZF.out.below b3 ZF.out.lt)
  replace ZL := Lib.hid (ZL.out.below b3 ZL.out.lt)
  replace BL := Lib.hid (BL.out.trans (b3.mono BL.out.size))
  replace S1 := Lib.hid (S1.out.below b3)
  replace SV := Lib.hid (SV.out.below b3)
  replace TF := Lib.hid (TF.out.below b3)
  replace TL := Lib.hid (TL.out.below b3)
  clear b3
  have q := Lib.hid (QHL.out _ aL dL TL.out SV.out)
  go_wp2_with fail
  with_reducible refine q.out.mono ?_
  rintro e v4 ⟨rfl, b4⟩
  clear k14 k15
  clear q
  have k16 : v4.cell? ⟨v1.heap.size, 0, none⟩ = some (.int .i64 mv) := (ZF.out.below b4 ZF.out.lt).cell 0
  have k17 : v4.cell? ⟨v1.heap.size, 1, none⟩ = some (.slice aF mF dF) := (ZF.out.below b4 ZF.out.lt).cell 1
  replace Z1 := Lib.hid (Z1.out.below b4 Z1.out.lt)
  replace ZF := Lib.hid (ZF.out.below b4 ZF.out.lt)
  replace ZL := Lib.hid (ZL.out.below b4 ZL.out.lt)
  replace BL := Lib.hid (BL.out.trans (b4.mono BL.out.size))
  replace S1 := Lib.hid (S1.out.below b4)
  replace SV := Lib.hid (SV.out.below b4)
  replace TF := Lib.hid (TF.out.below b4)
  replace TL := Lib.hid (TL.out.below b4)
  clear b4
  have q := Lib.hid (QHF.out _ aF dF TF.out SV.out)
  go_wp2_with fail
  with_reducible refine q.out.mono ?_
  rintro e v5 ⟨rfl, b5⟩
  clear k16 k17
  clear q QHF
  have k18 : v5.cell? ⟨v2.heap.size, 0, none⟩ = some (.int .i64 mv) := (ZL.out.below b5 ZL.out.lt).cell 0
  have k19 : v5.cell? ⟨v2.heap.size, 1, none⟩ = some (.slice aL mL dL) := (ZL.out.below b5 ZL.out.lt).cell 1
  replace Z1 := Lib.hid (Z1.out.below b5 Z1.out.lt)
  replace ZF := Lib.hid (ZF.out.below b5 ZF.out.lt)
  replace ZL := Lib.hid (ZL.out.below b5 ZL.out.lt)
  replace BL := Lib.hid (BL.out.trans (b5.mono BL.out.size))
  replace S1 := Lib.hid (S1.out.below b5)
  replace SV := Lib.hid (SV.out.below b5)
  replace TF := Lib.hid (TF.out.below b5)
  replace TL := Lib.hid (TL.out.below b5)
  clear b5
  have q := Lib.hid (QHL.out _ aL dL TL.out SV.out)
  go_wp2_with fail
  with_reducible refine q.out.mono ?_
  rintro e v6 ⟨rfl, b6⟩
  clear k18 k19
  clear q
  replace Z1 := Lib.hid (Z1.out.below b6 Z1.out.lt)
  replace ZF := Lib.hid (ZF.out.below b6 ZF.out.lt)
  replace ZL := Lib.hid (ZL.out.below b6 ZL.out.lt)
  replace BL := Lib.hid (BL.out.trans (b6.mono BL.out.size))
  replace S1 := Lib.hid (S1.out.below b6)
  replace SV := Lib.hid (SV.out.below b6)
  replace TF := Lib.hid (TF.out.below b6)
  replace TL := Lib.hid (TL.out.below b6)
  clear b6
  go_wp2
  go_ret
  exact ⟨rfl, BL.out⟩
theorem zoneSteps_walk (w : World) (n1 : Int) (hn1 : (Lit.int .i64 n1).wf = true) (a1 : Option Addr) (m1 c1 : Nat) (l1 : List Int) (hl1 : l1.length = m1) (hm1 : m1 ≤ maxLen) (hc1 : m1 ≤ c1) (hw1 : ∀ n ∈ l1, (Lit.int .i64 n).wf = true) (hs1 : Sees .i64 w.heap.size w a1 l1)
    (av : Option Addr) (mv cv : Nat) (v : List Int) (hlv : v.length = mv) (hmv : mv ≤ maxLen) (hcv : mv ≤ cv) (hwv : ∀ n ∈ v, (Lit.int .i64 n).wf = true) (hsv : Sees .i64 w.heap.size w av v)
    (i : Int) (hi : (Lit.int .i64 i).wf = true) (j : Int) (hj : (Lit.int .i64 j).wf = true) (c : Int) (hc : (Lit.int .i64 c).wf = true) :
    Calls Try.prog 7 #[.agg #[.int .i64 n1, .slice a1 m1 c1], .slice av mv cv, .int .i64 i, .int .i64 j, .int .i64 c] w (Gives (.bool true) w) := by
  have h1 : SL w a1 m1 c1 l1 := ⟨hl1.symm, hc1, by unfold maxLen at hm1; omega, hs1⟩
  have hv : SL w av mv cv v := ⟨hlv.symm, hcv, by unfold maxLen at hmv; omega, hsv⟩
  by_cases b1 : 200 < m1
  · exact steps_g1 n1 i j c a1 av m1 mv c1 cv l1 v w h1 hv b1
  by_cases b2 : 8 < mv
  · exact steps_g2 n1 i j c a1 av m1 mv c1 cv l1 v w h1 hv b1 b2
  cases hck : checkB n1 l1
  · exact steps_g3 n1 i j c a1 av m1 mv c1 cv l1 v w h1 hv b1 b2 hck
  obtain ⟨n, rfl, z1⟩ := isZ_of hck
  by_cases b4 : mv = n
  · by_cases b5 : i < 1 ∨ n < i
    · exact steps_g5 n i j c a1 av m1 mv c1 cv l1 v w h1 hv b1 b2 b4 z1 b5
    · by_cases b6 : j < 0 ∨ n < j
      · exact steps_g6 n i j c a1 av m1 mv c1 cv l1 v w h1 hv b1 b2 b4 (by omega) z1 b6
      · cases hfc : farB c
        · subst b4
          obtain ⟨I, rfl⟩ : ∃ I : Nat, i = I := ⟨i.toNat, by omega⟩
          obtain ⟨J, rfl⟩ : ∃ J : Nat, j = J := ⟨j.toNat, by omega⟩
          have hvl : v.length = mv := hlv
          by_cases hij : I = J
          · subst hij
            cases hsv : farB (valF v I)
            · cases hsb : farB (IntKind.i64.wrap (valF v I - c)) <;> cases hhf : hasB mv (forgetL mv l1 I) v
              · exact steps_ettf I c a1 av m1 mv c1 cv l1 v w h1 hv b1 b2 z1 (by omega) (by omega) hfc hhf hsv hsb
              · exact steps_ettt I c a1 av m1 mv c1 cv l1 v w h1 hv b1 b2 z1 (by omega) (by omega) hfc hhf hsv hsb
              · exact steps_etff I c a1 av m1 mv c1 cv l1 v w h1 hv b1 b2 z1 (by omega) (by omega) hfc hhf hsv hsb
              · exact steps_etft I c a1 av m1 mv c1 cv l1 v w h1 hv b1 b2 z1 (by omega) (by omega) hfc hhf hsv hsb
            · have hhf : hasB mv (forgetL mv l1 I) v = false := by
                cases q : hasB mv (forgetL mv l1 I) v
                · rfl
                · have q1 := ((has_iff (forgetL_isz z1.1 l1 I) hvl).1 q).2.1
                  have q2 := val_in q1 I
                  unfold farB at hsv
                  simp at hsv
                  omega
              cases hsb : farB (IntKind.i64.wrap (valF v I - c))
              · exact steps_eftf I c a1 av m1 mv c1 cv l1 v w h1 hv b1 b2 z1 (by omega) (by omega) hfc hhf hsv hsb
              · exact steps_efff I c a1 av m1 mv c1 cv l1 v w h1 hv b1 b2 z1 (by omega) (by omega) hfc hhf hsv hsb
          · cases hhl : hasB mv (letL mv l1 I J c) v
            · cases hhf : hasB mv (forgetL mv l1 I) v
              · exact steps_nff I J c a1 av m1 mv c1 cv l1 v w h1 hv b1 b2 z1 (by omega) (by omega) (by omega) hij hfc hhf hhl
              · exact steps_nft I J c a1 av m1 mv c1 cv l1 v w h1 hv b1 b2 z1 (by omega) (by omega) (by omega) hij hfc hhf hhl
            · exact steps_ntt I J c a1 av m1 mv c1 cv l1 v w h1 hv b1 b2 z1 (by omega) (by omega) (by omega) hij hfc (fact_tie z1 hvl (by omega) (by omega) hij c hhl).2 hhl
        · exact steps_g7 n i j c a1 av m1 mv c1 cv l1 v w h1 hv b1 b2 b4 (by omega) (by omega) z1 hfc
  · exact steps_g4 n i j c a1 av m1 mv c1 cv l1 v w h1 hv b1 b2 z1 b4
end Go.Proofs.Ytacbkddkjlnklaa
