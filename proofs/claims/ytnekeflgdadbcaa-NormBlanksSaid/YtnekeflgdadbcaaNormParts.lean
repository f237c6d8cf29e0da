/- norm.Parts: the parts of a text. -/
import Derived.Test.YtnekeflgdadbcaaNormCut
import Derived.WalkMore
import Derived.Deep.LoopGhost
namespace Go.Proofs.Ytnekeflgdadbcaa
open Go.RowKit
set_option linter.unusedVariables false
set_option linter.unusedSimpArgs false

theorem push {w wr w1 : World} {B : Nat} {v v' : Value} {out : List (List Int)} {x : List Int} (hr : TRow wr B v out) (hb : Below B w wr) (hBw : B ≤ wr.heap.size)
    (own1 : w1.ownsRow 0 9 1 v' (out.map strOfNums ++ [strOfNums x]).length (txts (out.map strOfNums ++ [strOfNums x])))
    (grow1 : (wr.alloc (.cells #[.string (strOfNums x)] 9)).grownBy w1 v.ownBlock) (blk1 : v'.ownBlock = v.ownBlock ∨ v'.ownBlock = some (wr.alloc (.cells #[.string (strOfNums x)] 9)).heap.size) :
    TRow w1 B v' (out ++ [x]) ∧ Below B w w1 := by
  have e : (out ++ [x]).map strOfNums = out.map strOfNums ++ [strOfNums x] := by simp
  refine ⟨⟨by rw [e]; exact own1, fun k hk => ?_⟩, ?_⟩
  · rcases blk1 with h | h
    · exact hr.2 k (by rw [← h]; exact hk)
    · rw [hk] at h
      simp at h
      omega
  · have h1 : Below B w (wr.alloc (.cells #[.string (strOfNums x)] 9)) := hb.alloc hBw _
    exact ((BelowE.of h1 (X := [])).grown grow1 (by simp; omega) (fun k hk hlt => by have := hr.2 k hk; omega)).none

set_option maxRecDepth 100000 in
set_option maxHeartbeats 2000000 in
theorem parts_any (s : ByteArray) (hs : s.size ≤ 100000) (w : World) : Calls Try.prog 11 #[.string s] w (GivesT (partsL (codes s)) w) := by
  obtain ⟨i0, hi, hz0, hz1, hz2⟩ := info_parts infoStr
  have hL' := Lib.hid (codes_length s)
  have hbs' := Lib.hid (codes_bs s)
  have hs' := Lib.hid hs
  have hsi : (s.size : Int) ≤ 100000 := by omega
  clear hs
  go_enter Try.func11, Try.ntmps11
  go_wp2
  go_step3
  go_wp2
  go_step3
  go_wp2
  go_loopg [3, 4] s.size (fun g v i wr => ∃ (k : Nat) (out : List (List Int)), k ≤ s.size ∧ s.size ≤ k + g ∧ i = .int .i64 k ∧ Hid (out.length ≤ k) ∧ Hid (TRow wr w.heap.size v out) ∧ Hid (out ++ partsL ((codes s).drop k) = partsL (codes s)) ∧ Hid (Below w.heap.size w wr))
  case atStart => exact ⟨0, [], by omega, by omega, rfl, Lib.hid (by simp), Lib.hid ⟨⟨rfl, .inl ⟨rfl, rfl⟩⟩, by simp [Value.ownBlock]⟩, Lib.hid (by simp), Lib.hid (Below.refl _ _)⟩
  case round =>
    obtain ⟨k, out, hk, hg, rfl, hok, hrow, hrel2, hB⟩ := hrel
    by_cases hlt : k < s.size
    · obtain ⟨G, rfl⟩ : ∃ G, gk = G + 1 := ⟨gk - 1, by omega⟩
      go_wp2
      go_loopg [3, 4] s.size (fun g2 v i wr2 => ∃ j : Nat, k ≤ j ∧ j < s.size ∧ s.size ≤ j + g2 ∧ v = u3 ∧ i = .int .i64 j ∧ wr2 = wr ∧ Hid (∀ c ∈ ((codes s).take j).drop k, wdB c = true))
      case atStart => exact ⟨k, Nat.le_refl _, hlt, by omega, rfl, rfl, rfl, Lib.hid (by intro c hc; rw [List.drop_of_length_le (by simp; omega)] at hc; simp at hc)⟩
      case round =>
        obtain ⟨j, hkj, hj, hgj, rfl, rfl, rfl, hall⟩ := hrel
        obtain ⟨g2, rfl⟩ : ∃ g2, gk = g2 + 1 := ⟨gk - 1, by omega⟩

        have gi := ix s j hj
        have hc2 := hbs'.out ((codes s).getD j 0) (by
          have : j < (codes s).length := by have := hL'.out; omega
          simp [List.getD, this])
        have hcall := Lib.hid (fun W => wordByte_any ((codes s).getD j 0) (by omega) (by omega) W)
        clear hc2
        have hch := Lib.hid (rfl : (codes s).getD j 0 = (codes s).getD j 0)
        have hjL : Hid (j < (codes s).length) := Lib.hid (by have := hL'.out; omega)
        have hdj : Hid ((codes s).drop j = (codes s).getD j 0 :: (codes s).drop (j + 1)) := Lib.hid (by
          have := hjL.out
          rw [List.drop_eq_getElem_cons this]
          simp [List.getD, this])
        have hall2 : wdB ((codes s).getD j 0) = true → ∀ c ∈ ((codes s).take (j + 1)).drop k, wdB c = true := by
          intro hw c hc
          have hq := hjL.out
          rw [List.take_succ_eq_append_getElem hq, List.drop_append_of_le_length (by simp; omega)] at hc
          rcases List.mem_append.1 hc with h | h
          · exact hall.out c h
          · simp at h
            rw [h]
            simpa [List.getD, hq] using hw
        have hall2' := Lib.hid hall2
        clear hall2 hch
        by_cases hw : wdB ((codes s).getD j 0) = true
        · have ha := Lib.hid (hall2'.out hw)
          rw [hw] at hcall
          clear hall2' hall hdj
          generalize (codes s).getD j 0 = ch at *
          clear hw
          by_cases hend : j + 1 = s.size
          · have hsl := cut_l s k hk
            have hfin : Hid (out ++ [(codes s).drop k] = partsL (codes s)) := Lib.hid (by
              rw [← hrel2.out]
              have h2 := partsL_run (p := (codes s).drop k) (q := []) (by intro e; have := congrArg List.length e; simp at this; have := hL'.out; omega) (by
                have := ha.out
                rw [List.take_of_length_le (by have := hL'.out; omega)] at this
                exact this) (.inl rfl)
              rw [List.append_nil] at h2
              rw [h2, partsL_nil])
            have hei : (j : Int) + 1 = (s.size : Int) := by omega
            clear ha hgj hg
            go_wp2_with fail
            refine (hcall.out _).mono ?_
            rintro e w' ⟨rfl, rfl⟩
            go_wp2_with (at_builtin; refine wpList_append_text _ rfl (.tmp 21) (.tmp 25) 25 rfl 9 i0 (.string ⟨#[]⟩) 16 Try.underlying25 hi hz0 hz1 hz2 rfl u3 (out.map strOfNums) ((own_below hrow.out.1 ((Below.refl _ _).alloc (Nat.le_refl _) _))) _ (strOfNums ((codes s).drop k)) 1 (by simp [go_sem]) rfl rfl (by have := hok.out; have := hs'.out; simp [maxLen]; omega) (by have := hok.out; have := hs'.out; simp; omega) ?_; intro v' w1 own1 grow1 blk1; have hpu := Lib.hid (push hrow.out hB.out hB.out.size own1 grow1 blk1); clear own1 grow1 blk1)
            try rw [Exit.noGoto_ret]
            go_ret
            exact ⟨_, rfl, by rw [← hfin.out]; exact hpu.out.1, hpu.out.2⟩
          · have hei : ¬ ((j : Int) + 1 = (s.size : Int)) := by omega
            go_wp2_with fail
            refine (hcall.out _).mono ?_
            rintro e w' ⟨rfl, rfl⟩
            go_wp2
            go_roundg g2
            case rel => exact ⟨j + 1, by omega, by omega, by omega, rfl, by go_num, rfl, ha⟩
            case measure => omega
        · have hw' : wdB ((codes s).getD j 0) = false := by simpa using hw
          rw [hw'] at hcall
          clear hall2' hw
          by_cases hkj2 : k < j
          · have hsl := cut_lh s k j hkj (by omega)
            have hr : Hid ((out ++ [((codes s).take j).drop k]) ++ partsL ((codes s).drop j) = partsL (codes s)) := Lib.hid (by
              rw [← hrel2.out]
              have h1 : (codes s).drop k = ((codes s).take j).drop k ++ (codes s).drop j := by
                conv => lhs; rw [← List.take_append_drop j (codes s)]
                rw [List.drop_append_of_le_length (by simp; have := hL'.out; omega)]
              rw [h1, partsL_run (p := ((codes s).take j).drop k) (q := (codes s).drop j) (by intro e; have := congrArg List.length e; simp at this; have := hL'.out; omega) hall.out (.inr ⟨_, _, hdj.out, hw'⟩)]
              simp)
            have hol : Hid ((out ++ [((codes s).take j).drop k]).length ≤ j) := Lib.hid (by have := hok.out; simp; omega)
            have hgG : s.size ≤ j + G := by omega
            have hci : (k : Int) < (j : Int) := by omega
            clear hdj hw' hall hgj hg
            generalize (codes s).getD j 0 = ch at *
            go_wp2_with fail
            refine (hcall.out _).mono ?_
            rintro e w' ⟨rfl, rfl⟩
            go_wp2_with (at_builtin; refine wpList_append_text _ rfl (.tmp 30) (.tmp 35) 25 rfl 9 i0 (.string ⟨#[]⟩) 16 Try.underlying25 hi hz0 hz1 hz2 rfl u3 (out.map strOfNums) ((own_below hrow.out.1 ((Below.refl _ _).alloc (Nat.le_refl _) _))) _ (strOfNums (((codes s).take j).drop k)) 1 (by simp [go_sem]) rfl rfl (by have := hok.out; have := hs'.out; simp [maxLen]; omega) (by have := hok.out; have := hs'.out; simp; omega) ?_; intro v' w1 own1 grow1 blk1; have hpu := Lib.hid (push hrow.out hB.out hB.out.size own1 grow1 blk1); clear own1 grow1 blk1)
            go_roundg G
            case rel => exact ⟨j, _, by omega, hgG, rfl, hol, Lib.hid hpu.out.1, hr, Lib.hid hpu.out.2⟩
            case measure => omega
          · have hjk : j = k := by omega
            subst hjk
            have hgG : s.size ≤ j + 1 + G := by omega
            by_cases h32 : (codes s).getD j 0 = 32
            · have hr : Hid (out ++ partsL ((codes s).drop (j + 1)) = partsL (codes s)) := Lib.hid (by
                rw [← hrel2.out, hdj.out, h32, partsL_blank])
              have hol : Hid (out.length ≤ j + 1) := Lib.hid (by have := hok.out; omega)
              rw [h32] at gi hcall
              clear hdj hw' hall hgj hg h32
              go_wp2_with fail
              refine (hcall.out _).mono ?_
              rintro e w' ⟨rfl, rfl⟩
              go_wp2
              go_roundg G
              case rel => exact ⟨j + 1, out, by omega, hgG, by go_num, hol, hrow, hr, hB⟩
              case measure => omega
            · have hsl := cut_lh s j (j + 1) (by omega) (by omega)
              rw [show ((j + 1 : Nat) : Int) = (j : Int) + 1 by omega] at hsl
              have hone : ((codes s).take (j + 1)).drop j = [(codes s).getD j 0] := by
                have hq := hjL.out
                rw [List.take_succ_eq_append_getElem hq, List.drop_append_of_le_length (by simp; omega), List.drop_of_length_le (by simp; omega)]
                simp [List.getD, hq]
              rw [hone] at hsl
              have hr : Hid ((out ++ [[(codes s).getD j 0]]) ++ partsL ((codes s).drop (j + 1)) = partsL (codes s)) := Lib.hid (by
                rw [← hrel2.out, hdj.out, partsL_other hw' h32]; simp)
              have hol : Hid ((out ++ [[(codes s).getD j 0]]).length ≤ j + 1) := Lib.hid (by have := hok.out; simp; omega)
              have hne : ((codes s).getD j 0 != 32) = true := by simpa using h32
              clear hdj hw' hall hgj hg hone
              generalize (codes s).getD j 0 = ch at *
              go_wp2_with fail
              refine (hcall.out _).mono ?_
              rintro e w' ⟨rfl, rfl⟩
              go_wp2_with (at_builtin; refine wpList_append_text _ rfl (.tmp 41) (.tmp 47) 25 rfl 9 i0 (.string ⟨#[]⟩) 16 Try.underlying25 hi hz0 hz1 hz2 rfl u3 (out.map strOfNums) ((own_below hrow.out.1 ((Below.refl _ _).alloc (Nat.le_refl _) _))) _ (strOfNums ([ch])) 1 (by simp [go_sem]) rfl rfl (by have := hok.out; have := hs'.out; simp [maxLen]; omega) (by have := hok.out; have := hs'.out; simp; omega) ?_; intro v' w1 own1 grow1 blk1; have hpu := Lib.hid (push hrow.out hB.out hB.out.size own1 grow1 blk1); clear own1 grow1 blk1)
              go_roundg G
              case rel => exact ⟨j + 1, _, by omega, hgG, by go_num, hol, Lib.hid hpu.out.1, hr, Lib.hid hpu.out.2⟩
              case measure => omega
    · have hres : GivesT (partsL (codes s)) w (.returned u3) wr := by
        have h1 := hrel2.out
        rw [List.drop_of_length_le (by have := hL'.out; omega), partsL_nil, List.append_nil] at h1
        rw [← h1]
        exact ⟨_, rfl, hrow.out, hB.out⟩
      go_wp2
      try rw [Exit.noGoto_ret]
      go_ret
      exact hres
end Go.Proofs.Ytnekeflgdadbcaa
