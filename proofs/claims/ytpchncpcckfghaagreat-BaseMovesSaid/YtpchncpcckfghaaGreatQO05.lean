/-
  Words and walks under the law's proof.
-/
import Derived.Test.YtpchncpcckfghaaGreatRows
import Derived.Laws.Bits64b
import Derived.Laws.BitsAllLaws
import Derived.WalkSpells
import Derived.Lib.BufferMore
import Derived.Sort.Grow
import Derived.Test.YtpchncpcckfghaaGreatQO01
import Derived.Test.YtpchncpcckfghaaGreatQO03
import Derived.Test.YtpchncpcckfghaaGreatQO04
namespace Go.Proofs.YtpchncpcckfghaaGreat
open Go.RowKit
set_option linter.unusedVariables false
set_option linter.unusedSimpArgs false
theorem good_len : ∀ (ps : List (List Int)) (last : Bool), (∀ p ∈ ps, Good p) → ps.length ≤ (normL last ps).length ∧ ∀ p ∈ ps, p.length ≤ (normL last ps).length := by
  intro ps
  induction ps with
  | nil => intro _ _; simp
  | cons p r ih =>
    intro last hg
    have h1 := ih (hw p) (fun x hx => hg x (by simp [hx]))
    have h2 : 0 < p.length := List.length_pos_iff.2 (hg p (by simp)).ne
    simp only [normL, List.length_append, List.length_cons]
    refine ⟨by omega, fun q hq => ?_⟩
    rcases List.mem_cons.1 hq with rfl | hq
    · omega
    · have := h1.2 q hq; omega
theorem parts_len (L : List Int) : (partsL L).length ≤ L.length := Nat.le_trans (good_len _ false (parts_good _ (Nat.le_refl _))).1 (normS_len L)
theorem part_len (L : List Int) : ∀ p ∈ partsL L, p.length ≤ L.length := fun p hp => Nat.le_trans ((good_len _ false (parts_good _ (Nat.le_refl _))).2 p hp) (normS_len L)
theorem map_dropLast_snoc (ls : List (List Int)) (x : List Int) : (ls.dropLast ++ [x]).map strOfNums = (ls.map strOfNums).dropLast ++ [strOfNums x] := by simp
theorem str_append' (a b : List Int) : strOfNums (a ++ b) = strOfNums a ++ strOfNums b := by
  apply ByteArray.ext
  apply Array.toList_inj.1
  simp [ByteArray.data_append, strOfNums_data]
set_option maxRecDepth 100000 in
set_option maxHeartbeats 4000000 in
theorem rparts_any (s : ByteArray) (hs : s.size ≤ 100000) (w : World) : Calls Tryz.prog 137 #[.string s] w (GivesT (partsL (codes s)) w) := by
  obtain ⟨i0, hi, hz0, hz1, hz2⟩ := info_parts infoStr
  have hL' := Lib.hid (codes_length s)
  have hbs' := Lib.hid (codes_bs s)
  have hsi : (s.size : Int) ≤ 100000 := by omega
  have hs' := Lib.hid hs
  clear hs
  go_enter Tryz.func137, Tryz.ntmps137
  go_wp2
  go_loopw [3, 4] (fun v i wr => ∃ k : Nat, k ≤ s.size ∧ i = .int .i64 k ∧ Hid (TRow wr w.heap.size v (partsL ((codes s).take k))) ∧ Hid (Below w.heap.size w wr)) (fun _ i _ => s.size - (intOf i).toNat)
  case atStart => exact ⟨0, by omega, rfl, Lib.hid (by simp [partsL_nil]; exact ⟨⟨rfl, .inl ⟨rfl, rfl⟩⟩, by simp [Value.ownBlock]⟩), Lib.hid (Below.refl _ _)⟩
  case round =>
    obtain ⟨k, hk, rfl, hrow, hB⟩ := hrel
    by_cases hlt : k < s.size
    · have gi := ix s k hlt
      have hkL : k < (codes s).length := by have := hL'.out; omega
      have hc := hbs'.out.at hkL
      have hcall := Lib.hid (fun W => dword_any ((codes s).getD k 0) hc.1 hc.2 W)
      have hsn : Hid (partsL ((codes s).take (k + 1)) = more1 (partsL ((codes s).take k)) (((codes s).take k).getLast?.getD 32) ((codes s).getD k 0)) := Lib.hid (by
        rw [← partsL_snoc _ _ _ (Nat.le_refl _), List.take_succ_eq_append_getElem hkL]
        simp [List.getD, hkL])
      have hpl : Hid ((partsL ((codes s).take k)).length ≤ 100000) := Lib.hid (by have := parts_len ((codes s).take k); simp at this; have := hs'.out; omega)
      have hpp : Hid (∀ p ∈ partsL ((codes s).take k), p.length ≤ 100000) := Lib.hid (fun p hp => by have := part_len ((codes s).take k) p hp; simp at this; have := hs'.out; omega)
      have hcut := cut_lh s k (k + 1) (by omega) (by omega)
      rw [show ((k + 1 : Nat) : Int) = (k : Int) + 1 by omega] at hcut
      have hone : ((codes s).take (k + 1)).drop k = [(codes s).getD k 0] := by
        rw [List.take_succ_eq_append_getElem hkL, List.drop_append_of_le_length (by simp; omega), List.drop_of_length_le (by simp; omega)]
        simp [List.getD, hkL]
      rw [hone] at hcut
      clear hone
      by_cases h32 : (codes s).getD k 0 = 32
      · have hsn' : Hid (partsL ((codes s).take (k + 1)) = partsL ((codes s).take k)) := Lib.hid (by rw [hsn.out, more1, if_pos h32])
        have he : ((codes s).getD k 0 == 32) = true := by simpa using h32
        clear hsn hcall hcut hpl hpp hc hkL
        rw [h32] at gi
        clear h32 he
        go_wp2
        go_roundw
        case rel => exact ⟨k + 1, by omega, by go_num, Lib.hid (by rw [hsn'.out]; exact hrow.out), hB⟩
        case measure => simp [intOf]; omega
      have hb32 : ((codes s).getD k 0 == 32) = false := by simpa using h32
      have hlast : Hid (0 < k → ((codes s).take k).getLast?.getD 32 = (codes s).getD (k - 1) 0) := Lib.hid (fun h0 => by
        have hk1 : k - 1 < (codes s).length := by omega
        have h1 : (codes s).take k = (codes s).take (k - 1) ++ [(codes s)[k - 1]] := by
          rw [← List.take_succ_eq_append_getElem hk1]; congr 1; omega
        rw [h1, List.getLast?_concat]; simp [List.getD, hk1])
      have hgp : Hid (0 < k → ∀ W, (Instr.index 9 (.string s) (.int .i64 ((k : Int) - 1))).run Tryz.prog W = .ok (.int .u8 ((codes s).getD (k - 1) 0)) W) := Lib.hid (fun h0 W => by
        have := ix s (k - 1) (by omega) W
        rw [show ((k - 1 : Nat) : Int) = (k : Int) - 1 by omega] at this
        exact this)
      have hcallp : Hid (0 < k → ∀ W, Calls Tryz.prog 138 #[.int .u8 ((codes s).getD (k - 1) 0)] W fun e w' => e = .returned (.bool (wdB ((codes s).getD (k - 1) 0))) ∧ Below W.heap.size W w') := Lib.hid (fun h0 W => by
        have hcp := hbs'.out.at (i := k - 1) (by omega)
        exact dword_any _ hcp.1 hcp.2 W)
      by_cases hwc : wdB ((codes s).getD k 0) = true
      · rw [hwc] at hcall
        by_cases h0 : 0 < k
        · have hgp' := hgp.out h0
          have hcallp' := Lib.hid (hcallp.out h0)
          have h0i : (0 : Int) < (k : Int) := by omega
          by_cases hwp : wdB ((codes s).getD (k - 1) 0) = true
          · have hne0 : partsL ((codes s).take k) ≠ [] := last_ne (by rw [hlast.out h0]; exact hwp)
            have hnew : Hid (partsL ((codes s).take (k + 1)) = (partsL ((codes s).take k)).dropLast ++ [(partsL ((codes s).take k)).getLast?.getD [] ++ [(codes s).getD k 0]]) := Lib.hid (by
              rw [hsn.out, more1, if_neg h32, if_pos ⟨hwc, by rw [hlast.out h0]; exact hwp⟩])
            rw [hwp] at hcallp'
            have hlp : Hid (((partsL ((codes s).take k)).getLast?.getD []).length ≤ 100000) := Lib.hid (by
              rw [List.getLast?_eq_some_getLast hne0]; exact hpp.out _ (List.getLast_mem hne0))
            have hlg : Hid ((partsL ((codes s).take k)).getD ((partsL ((codes s).take k)).length - 1) [] = (partsL ((codes s).take k)).getLast?.getD []) := Lib.hid (by
              rw [List.getLast?_eq_getElem?]; simp [List.getD])
            have hnz : 0 < (partsL ((codes s).take k)).length := List.length_pos_iff.2 hne0
            have hnl := hpl.out
            clear hgp hcallp hlast hsn hwc hwp h32 hpp hc hkL hpl
            generalize (codes s).getD (k - 1) 0 = cp at *
            generalize (codes s).getD k 0 = ch at *
            generalize partsL ((codes s).take k) = ps at *
            generalize ps.getLast?.getD [] = lp at *
            rcases hrow.out.1.2 with ⟨rfl, h0'⟩ | ⟨g, cap, cur, rfl, _, hgg, _, _, _, _⟩
            · simp at h0'; exact absurd h0' hne0
            clear hgg hne0
            go_wp2_with fail
            refine (hcall.out _).mono ?_
            rintro e W1 ⟨rfl, hB1⟩
            have hB1' := Lib.hid hB1
            clear hB1
            go_wp2_with fail
            refine (hcallp'.out _).mono ?_
            rintro e W2 ⟨rfl, hB2⟩
            have hrow2 := Lib.hid (own_below (own_below hrow.out.1 hB1'.out) hB2)
            have hB2' := Lib.hid ((hB.out.trans (hB1'.out.mono hB.out.size)).trans (hB2.mono (by have := hB.out.size; have := hB1'.out.size; omega)))
            have hown2 := hrow2.out
            have hgB := hrow.out.2 g rfl
            clear hB2 hrow hB hB1' hcall hcallp'
            obtain ⟨m, hm⟩ : ∃ m, ps.length = m + 1 := ⟨ps.length - 1, by omega⟩
            have hml : (List.map strOfNums ps).length = m + 1 := by simpa using hm
            have hcm : W2.cell? ⟨g, m, none⟩ = some (.string (strOfNums lp)) := by
              have := hown2.cells (g := g) rfl m (.string (strOfNums lp)) (by
                have hl := hlg.out
                rw [hm] at hl
                simp at hl
                simp [txts]
                exact ⟨lp, by rw [← hl]; simp [List.getD, hm], rfl⟩)
              have h2 : (⟨g, 0, none⟩ : Addr).add m = ⟨g, m, none⟩ := by unfold Addr.add; split <;> simp_all
              rw [h2] at this; exact this
            have hfz : W2.frozen? ⟨g, m, none⟩ = false := own_free hown2 m
            have hfin : Hid (TRow ((W2.setCell ⟨g, m, none⟩ (.string (strOfNums lp ++ strOfNums [ch]))).drew) w.heap.size (.slice (some ⟨g, 0, none⟩) (m + 1) cap) (partsL ((codes s).take (k + 1))) ∧ Below w.heap.size w ((W2.setCell ⟨g, m, none⟩ (.string (strOfNums lp ++ strOfNums [ch]))).drew)) := Lib.hid (by
              have h1 := own_set hown2 m (by rw [hml]; omega) (.string (strOfNums lp ++ strOfNums [ch]))
              have hx : txts (List.map strOfNums ps) ≠ [] := by intro e; have := congrArg List.length e; rw [txts_length, hml] at this; simp at this
              have h2 := set_last hx (.string (strOfNums lp ++ strOfNums [ch]))
              rw [show (txts (List.map strOfNums ps)).length - 1 = m by simp [txts]; omega] at h2
              rw [h2] at h1
              refine ⟨⟨?_, fun q hq => by simp [Value.ownBlock] at hq; omega⟩, (hB2'.out.setCell (p := ⟨g, m, none⟩) hgB _).drew⟩
              rw [hnew.out, map_dropLast_snoc, str_append']
              have h3 : txts ((List.map strOfNums ps).dropLast ++ [strOfNums lp ++ strOfNums [ch]]) = (txts (List.map strOfNums ps)).dropLast ++ [.string (strOfNums lp ++ strOfNums [ch])] := by simp [txts]
              have h4 : ((List.map strOfNums ps).dropLast ++ [strOfNums lp ++ strOfNums [ch]]).length = (List.map strOfNums ps).length := by simp; omega
              rw [h3, h4, ← hml]
              exact h1)
            have hbig : ¬ 9223372036854775807 < (strOfNums lp).size + (strOfNums [ch]).size := by
              have := hlp.out
              rw [strOfNums_size, strOfNums_size]; simp; omega
            have hm0 := Lib.hid hm
            clear hm hown2 hrow2 hlg hlp hnew hB2' hnz
            have hmi : (m : Int) ≤ 100000 := by have := hm0.out; omega
            simp only [List.length_map, hm0.out]
            clear hml hnl
            have hw1 : IntKind.i64.wrap ((m : Int) + 1 - 1) = (m : Int) := by simp [IntKind.wrap, IntKind.bits, IntKind.signed]; omega
            have hm1 : (m : Int) < (m : Int) + 1 := by omega
            have hw3 : IntKind.i64.wrap ((k : Int) + 1) = (k : Int) + 1 := by simp [IntKind.wrap, IntKind.bits, IntKind.signed]; omega
            have hw2 : IntKind.i64.wrap (m : Int) = (m : Int) := by simp [IntKind.wrap, IntKind.bits, IntKind.signed]; omega
            generalize strOfNums lp = f0 at *
            generalize strOfNums [ch] = g0 at *
            go_wp2
            refine wp_drawn_on (fun _ => True) (by kernel_rfl) (trivial) (fun hHeld => ?_)
            refine wT 0 (v := ?v1) rfl (by kernel_rfl) (fun _ _ _ h => h) ?h1 (by assumption) ?r1
            case h1 => (intro w hSw; (try dsimp only at hSw); go_simp; try with_reducible rfl)
            refine wT 1 (v := ?v2) rfl (by kernel_rfl) (fun _ _ _ h => h) ?h2 (by assumption) ?r2
            case h2 => (intro w hSw; (try dsimp only at hSw); go_simp; try with_reducible rfl)
            refine wT 2 (v := ?v3) rfl (by kernel_rfl) (fun _ _ _ h => h) ?h3 (by assumption) ?r3
            case h3 => (intro w hSw; (try dsimp only at hSw); go_simp; try with_reducible rfl)
            refine wT 3 (v := ?v4) rfl (by kernel_rfl) (fun _ _ _ h => h) ?h4 (by assumption) ?r4
            case h4 => (intro w hSw; (try dsimp only at hSw); go_simp; try with_reducible rfl)
            refine wT 4 (v := ?v5) rfl (by kernel_rfl) (fun _ _ _ h => h) ?h5 (by assumption) ?r5
            case h5 => (intro w hSw; (try dsimp only at hSw); go_simp; try with_reducible rfl)
            refine wT 5 (v := ?v6) rfl (by kernel_rfl) (fun _ _ _ h => h) ?h6 (by assumption) ?r6
            case h6 => (intro w hSw; (try dsimp only at hSw); go_simp; try with_reducible rfl)
            refine wT 6 (v := ?v7) rfl (by kernel_rfl) (fun _ _ _ h => h) ?h7 (by assumption) ?r7
            case h7 => (intro w hSw; (try dsimp only at hSw); go_simp; try with_reducible rfl)
            refine wT 7 (v := ?v8) rfl (by kernel_rfl) (fun _ _ _ h => h) ?h8 (by assumption) ?r8
            case h8 => (intro w hSw; (try dsimp only at hSw); go_simp; try with_reducible rfl)
            refine wT 8 (v := ?v9) rfl (by kernel_rfl) (fun _ _ _ h => h) ?h9 (by assumption) ?r9
            case h9 => (intro w hSw; (try dsimp only at hSw); go_simp; try with_reducible rfl)
            refine wT 10 (v := ?v10) rfl (by kernel_rfl) (fun _ _ _ h => h) ?h10 (by assumption) ?r10
            case h10 => (intro w hSw; (try dsimp only at hSw); go_simp; try with_reducible rfl)
            refine wT 11 (v := ?v11) rfl (by kernel_rfl) (fun _ _ _ h => h) ?h11 (by assumption) ?r11
            case h11 => (intro w hSw; (try dsimp only at hSw); go_simp; try with_reducible rfl)
            refine wT 12 (v := ?v12) rfl (by kernel_rfl) (fun _ _ _ h => h) ?h12 (by assumption) ?r12
            case h12 => (intro w hSw; (try dsimp only at hSw); go_simp; try with_reducible rfl)
            refine wT 13 (v := ?v13) rfl (by kernel_rfl) (fun _ _ _ h => h) ?h13 (by assumption) ?r13
            case h13 => (intro w hSw; (try dsimp only at hSw); go_simp; try with_reducible rfl)
            refine wT 14 (v := ?v14) rfl (by kernel_rfl) (fun _ _ _ h => h) ?h14 (by assumption) ?r14
            case h14 => (intro w hSw; (try dsimp only at hSw); go_simp; try with_reducible rfl)
            try simp only [Act.put, List.setIfInBounds_toArray, List.set_cons_zero, List.set_cons_succ]
            refine wpAnyH_ready (rs := [9]) (by kernel_rfl) (by simp) ?_
            refine AllReadyH.cons (o := ⟨_, _, _, _, _, _⟩) rfl (fun K hK => ?_) AllReadyH.nil
            go_simp
            refine hK.out _ _ hHeld (fun hHeld => ?_)
            clear hK K
            refine wT 15 (v := ?v15) rfl (by kernel_rfl) (fun _ _ _ h => h) ?h15 (by assumption) ?r15
            case h15 => (intro w hSw; (try dsimp only at hSw); go_simp; try with_reducible rfl)
            refine wT 16 (v := ?v16) rfl (by kernel_rfl) (fun _ _ _ h => h) ?h16 (by assumption) ?r16
            case h16 => (intro w hSw; (try dsimp only at hSw); go_simp; try with_reducible rfl)
            try simp only [Act.put, List.setIfInBounds_toArray, List.set_cons_zero, List.set_cons_succ]
            refine wpAnyH_ready (rs := [17]) (by kernel_rfl) (by simp) ?_
            refine AllReadyH.cons (o := ⟨_, _, _, _, _, _⟩) rfl (fun K hK => ?_) AllReadyH.nil
            go_simp
            refine hK.out _ _ (trivial) (fun hHeld => ?_)
            clear hK K
            try simp only [Act.put, List.setIfInBounds_toArray, List.set_cons_zero, List.set_cons_succ]
            refine wpAnyH_done (by kernel_rfl) ?_ _
            go_wp2
            go_roundw
            case rel => exact ⟨k + 1, by omega, by go_num, Lib.hid hfin.out.1, Lib.hid hfin.out.2⟩
            case measure => simp [intOf]; omega
          · have hnew : Hid (partsL ((codes s).take (k + 1)) = partsL ((codes s).take k) ++ [[(codes s).getD k 0]]) := Lib.hid (by
              rw [hsn.out, more1, if_neg h32, if_neg (by rw [hlast.out h0]; exact fun h => hwp h.2)])
            have hwp' : wdB ((codes s).getD (k - 1) 0) = false := by simpa using hwp
            rw [hwp'] at hcallp'
            clear hgp hcallp hlast hsn hwc hwp h32 hpp hc hkL hwp'
            generalize (codes s).getD (k - 1) 0 = cp at *
            generalize (codes s).getD k 0 = ch at *
            generalize partsL ((codes s).take k) = ps at *
            go_wp2_with fail
            refine (hcall.out _).mono ?_
            rintro e W1 ⟨rfl, hB1⟩
            have hB1' := Lib.hid hB1
            clear hB1
            go_wp2_with fail
            refine (hcallp'.out _).mono ?_
            rintro e W2 ⟨rfl, hB2⟩
            have hrowN : Hid (TRow W2 w.heap.size u3 ps) := Lib.hid ⟨own_below (own_below hrow.out.1 hB1'.out) hB2, hrow.out.2⟩
            have hBN := Lib.hid ((hB.out.trans (hB1'.out.mono hB.out.size)).trans (hB2.mono (by have := hB.out.size; have := hB1'.out.size; omega)))
            clear hB2 hB1' hrow hB
            go_wp2_with (at_builtin; refine wpList_append_text _ rfl (.tmp 11) (.tmp 17) 144 rfl 9 i0 (.string ⟨#[]⟩) 16 Tryz.underlying144 hi hz0 hz1 hz2 rfl u3 (ps.map strOfNums) ((own_below hrowN.out.1 ((Below.refl _ _).alloc (Nat.le_refl _) _))) _ (strOfNums [ch]) 1 (by simp [go_sem]) rfl rfl (by have := hpl.out; simp [maxLen]; omega) (by have := hpl.out; simp; omega) ?_; intro v' w1 own1 grow1 blk1; have hpu := Lib.hid (push hrowN.out hBN.out hBN.out.size own1 grow1 blk1); clear own1 grow1 blk1)
            go_roundw
            case rel => exact ⟨k + 1, by omega, by go_num, Lib.hid (by rw [hnew.out]; exact hpu.out.1), Lib.hid hpu.out.2⟩
            case measure => simp [intOf]; omega
        · obtain rfl : k = 0 := by omega
          have hnew : Hid (partsL ((codes s).take (0 + 1)) = partsL ((codes s).take 0) ++ [[(codes s).getD 0 0]]) := Lib.hid (by
            rw [hsn.out, more1, if_neg h32, if_neg (by simp; intro _; decide)])
          clear hgp hcallp hlast hsn hwc h32 hpp hc hkL h0
          generalize (codes s).getD 0 0 = ch at *
          generalize partsL ((codes s).take 0) = ps at *
          simp only [Int.natCast_zero, Int.zero_add] at gi hcut
          go_wp2_with fail
          refine (hcall.out _).mono ?_
          rintro e W1 ⟨rfl, hB1⟩
          have hrowN : Hid (TRow W1 w.heap.size u3 ps) := Lib.hid ⟨own_below hrow.out.1 hB1, hrow.out.2⟩
          have hBN := Lib.hid (hB.out.trans (hB1.mono hB.out.size))
          clear hB1 hrow hB
          go_wp2_with (at_builtin; refine wpList_append_text _ rfl (.tmp 11) (.tmp 17) 144 rfl 9 i0 (.string ⟨#[]⟩) 16 Tryz.underlying144 hi hz0 hz1 hz2 rfl u3 (ps.map strOfNums) ((own_below hrowN.out.1 ((Below.refl _ _).alloc (Nat.le_refl _) _))) _ (strOfNums [ch]) 1 (by simp [go_sem]) rfl rfl (by have := hpl.out; simp [maxLen]; omega) (by have := hpl.out; simp; omega) ?_; intro v' w1 own1 grow1 blk1; have hpu := Lib.hid (push hrowN.out hBN.out hBN.out.size own1 grow1 blk1); clear own1 grow1 blk1)
          go_roundw
          case rel => exact ⟨1, by omega, by go_num, Lib.hid (by rw [hnew.out]; exact hpu.out.1), Lib.hid hpu.out.2⟩
          case measure => simp [intOf]; omega
      · have hwc' : wdB ((codes s).getD k 0) = false := by simpa using hwc
        rw [hwc'] at hcall
        have hnew : Hid (partsL ((codes s).take (k + 1)) = partsL ((codes s).take k) ++ [[(codes s).getD k 0]]) := Lib.hid (by
          rw [hsn.out, more1, if_neg h32, if_neg (fun h => by rw [hwc'] at h; exact absurd h.1 (by decide))])
        clear hgp hcallp hlast hsn hwc h32 hpp hc hkL hwc'
        generalize (codes s).getD k 0 = ch at *
        generalize partsL ((codes s).take k) = ps at *
        go_wp2_with fail
        refine (hcall.out _).mono ?_
        rintro e W1 ⟨rfl, hB1⟩
        have hrowN : Hid (TRow W1 w.heap.size u3 ps) := Lib.hid ⟨own_below hrow.out.1 hB1, hrow.out.2⟩
        have hBN := Lib.hid (hB.out.trans (hB1.mono hB.out.size))
        clear hB1 hrow hB
        go_wp2_with (at_builtin; refine wpList_append_text _ rfl (.tmp 11) (.tmp 17) 144 rfl 9 i0 (.string ⟨#[]⟩) 16 Tryz.underlying144 hi hz0 hz1 hz2 rfl u3 (ps.map strOfNums) ((own_below hrowN.out.1 ((Below.refl _ _).alloc (Nat.le_refl _) _))) _ (strOfNums [ch]) 1 (by simp [go_sem]) rfl rfl (by have := hpl.out; simp [maxLen]; omega) (by have := hpl.out; simp; omega) ?_; intro v' w1 own1 grow1 blk1; have hpu := Lib.hid (push hrowN.out hBN.out hBN.out.size own1 grow1 blk1); clear own1 grow1 blk1)
        go_roundw
        case rel => exact ⟨k + 1, by omega, by go_num, Lib.hid (by rw [hnew.out]; exact hpu.out.1), Lib.hid hpu.out.2⟩
        case measure => simp [intOf]; omega
    · have hfin : Hid (GivesT (partsL (codes s)) w (.returned u3) wr) := Lib.hid (by
        have := hrow.out
        rw [List.take_of_length_le (by have := hL'.out; omega)] at this
        exact ⟨_, rfl, this, hB.out⟩)
      go_wp2
      go_ret
      exact hfin.out
end Go.Proofs.YtpchncpcckfghaaGreat
namespace Go.Proofs.YtpchncpcckfghaaGreat
open Go.RowKit
set_option linter.unusedVariables false
set_option linter.unusedSimpArgs false
theorem GivesT.open {ls : List (List Int)} {w w' : World} {e : Ending} (h : GivesT ls w e w') : ∃ a c, e = .returned (.slice a (ls.map strOfNums).length c) ∧ (ls.map strOfNums).length ≤ c ∧ SeesT w'.heap.size w' a (ls.map strOfNums) ∧ Below w.heap.size w w' := by
  obtain ⟨v, rfl, hr, hb⟩ := h
  obtain ⟨a, c, rfl, -, hs⟩ := sees_ownT hr.1
  refine ⟨a, c, rfl, ?_, hs, hb⟩
  rcases hr.1.2 with ⟨h1, h2⟩ | ⟨g, cap, cur, h1, _, _, h2, _⟩
  · injection h1 with _ h3 h4; omega
  · injection h1 with _ h3 h4; omega
set_option maxRecDepth 100000 in
set_option maxHeartbeats 4000000 in
theorem rnorm_any (s : ByteArray) (hs : s.size ≤ 100000) (w : World) : Calls Tryz.prog 112 #[.string s] w (Gives (.string (strOfNums (normS (codes s)))) w) := by
  have hlen := normS_len (codes s)
  rw [codes_length] at hlen
  have hgood := parts_good _ (Nat.le_refl (codes s).length)
  have hbsAll := parts_bs _ (Nat.le_refl (codes s).length) (codes_bs s)
  have htot : Hid (normL false (partsL (codes s)) = normS (codes s)) := Lib.hid rfl
  have hT : Hid ((normS (codes s)).length ≤ 100000) := Lib.hid (by omega)
  have hTb : Hid (Bs (normS (codes s))) := Lib.hid (norm_bs hbsAll false)
  have hgood' := Lib.hid hgood
  have hbs' := Lib.hid hbsAll
  have hpl' := Lib.hid (fun W => rparts_any s hs W)
  have hnum : Hid ((partsL (codes s)).length ≤ 100000) := Lib.hid (by have := parts_len (codes s); rw [codes_length] at this; omega)
  clear hlen hgood hbsAll hs
  generalize partsL (codes s) = ps at *
  generalize normS (codes s) = T at *
  go_enter Tryz.func112, Tryz.ntmps112
  go_wp2_with fail
  refine (hpl'.out _).mono ?_
  rintro e W1 h1
  obtain ⟨a, c, rfl, -, s1, hB1⟩ := h1.open
  have s1' := Lib.hid s1
  have hB0 := Lib.hid hB1
  clear h1 s1 hB1 hpl'
  go_wp2
  go_loopw [3, 4, 6] (fun tx word i wr => ∃ (k : Nat) (acc : List Int) (last : Bool), k ≤ ps.length ∧ i = .int .i64 k ∧ word = .bool last ∧ tx = .string (strOfNums acc) ∧ Hid (acc ++ normL last (ps.drop k) = T) ∧ Hid (Below W1.heap.size W1 wr)) (fun _ _ i _ => ps.length - (intOf i).toNat)
  case atStart => exact ⟨0, [], false, by omega, rfl, rfl, rfl, Lib.hid (by simpa using htot.out), Lib.hid (Below.refl _ _)⟩
  case round =>
    obtain ⟨k, acc, last, hk, rfl, rfl, rfl, htt, hB⟩ := hrel
    have hkb := hnum.out
    by_cases hlt : k < ps.length
    · rcases s1'.out.below hB.out with h | ⟨b1, o1, rfl, -, g1⟩
      · have := congrArg List.length h; rw [List.length_map] at this; simp only [List.length_nil] at this; omega
      have e1 := g1 k (by simpa using hlt)
      rw [show (ps.map strOfNums).getD k ⟨#[]⟩ = strOfNums (ps.getD k []) by simp [List.getD, hlt]] at e1
      clear g1
      have hgk := hgood'.out (ps.getD k []) (by simp [List.getD, hlt])
      have hbk := hbs'.out (ps.getD k []) (by simp [List.getD, hlt])
      have hst := Lib.hid (norm_step hlt last)
      have hpl : 0 < (ps.getD k []).length := List.length_pos_iff.2 hgk.ne
      have hz : ∀ W, (Instr.index 9 (.string (strOfNums (ps.getD k []))) (.int .i64 0)).run Tryz.prog W = .ok (.int .u8 ((ps.getD k []).headD 0)) W := fun W => by
        have := ix (strOfNums (ps.getD k [])) 0 (by rw [← codes_length, codes_str hbk]; exact hpl) W
        rw [codes_str hbk, head_at hgk.ne] at this
        exact this
      have hc0 := hbk.at hpl
      rw [head_at hgk.ne] at hc0
      have hcall := Lib.hid (fun W => dword_any ((ps.getD k []).headD 0) hc0.1 hc0.2 W)
      rw [show wdB ((ps.getD k []).headD 0) = hw (ps.getD k []) from rfl] at hcall
      have hL : Hid ((acc ++ normL last (ps.drop k)).length ≤ 100000) := Lib.hid (by rw [htt.out]; exact hT.out)
      clear hgk hbk hpl hc0
      generalize (ps.getD k []).headD 0 = c0 at *
      generalize ps.getD k [] = p at *
      generalize hw p = isw at *
      have hcat : ¬ 9223372036854775807 < (strOfNums acc).size + (strOfNums p).size := by
        have := hL.out; rw [hst.out] at this; rw [strOfNums_size, strOfNums_size]; simp at this; omega
      have hcat1 : ¬ 9223372036854775807 < (strOfNums acc).size + 1 := by
        have := hL.out; rw [strOfNums_size]; simp at this; omega
      have hcat2 : ¬ 9223372036854775807 < (strOfNums acc).size + 1 + (strOfNums p).size := by
        have := hL.out; rw [hst.out] at this; rw [strOfNums_size, strOfNums_size]; simp at this; omega
      go_wp2_with fail
      refine (hcall.out _).mono ?_
      rintro e W2 ⟨rfl, hB2⟩
      have e2 : W2.cell? ⟨b1, o1 + k, none⟩ = some (.string (strOfNums p)) := (hB2.cell (p := ⟨b1, o1 + k, none⟩) (World.block_lt_of_cell? _ _ e1)).trans e1
      have hB2' := Lib.hid (hB.out.trans (hB2.mono hB.out.size))
      clear hB2 e1 hB hcall
      by_cases hsep : (last && isw) = true
      · obtain ⟨rfl, rfl⟩ : last = true ∧ isw = true := by cases last <;> cases isw <;> simp_all
        have htt3 : Hid ((acc ++ [32] ++ p) ++ normL true (ps.drop (k + 1)) = T) := Lib.hid (by rw [← htt.out, hst.out]; simp)
        have hacc : Hid (strOfNums (acc ++ [32] ++ p) = strOfNums acc ++ ⟨#[32]⟩ ++ strOfNums p) := Lib.hid (by rw [str_append', str_append']; rfl)
        clear hsep htt hst hL
        generalize hx : strOfNums (acc ++ [32] ++ p) = x3 at *
        have hx' := Lib.hid hx
        clear hx
        go_wp2
        go_roundw
        case rel => exact ⟨k + 1, _, true, by omega, by go_num, rfl, by rw [hx'.out, hacc.out], htt3, hB2'⟩
        case measure => simp [intOf]; omega
      · have htt3 : Hid ((acc ++ p) ++ normL isw (ps.drop (k + 1)) = T) := Lib.hid (by rw [← htt.out, hst.out, if_neg hsep]; simp)
        have hacc : Hid (strOfNums (acc ++ p) = strOfNums acc ++ strOfNums p) := Lib.hid (str_append' _ _)
        have hsp : (last && isw) = false := by simpa using hsep
        clear hsep htt hst hL
        cases last
        · clear hsp
          go_wp2
          go_roundw
          case rel => exact ⟨k + 1, _, isw, by omega, by go_num, rfl, by rw [hacc.out], htt3, hB2'⟩
          case measure => simp [intOf]; omega
        · obtain rfl : isw = false := by simpa using hsp
          clear hsp
          go_wp2
          go_roundw
          case rel => exact ⟨k + 1, _, false, by omega, by go_num, rfl, by rw [hacc.out], htt3, hB2'⟩
          case measure => simp [intOf]; omega
    · have hfin : Hid (acc = T) := Lib.hid (by
        have := htt.out
        rw [List.drop_of_length_le (by omega)] at this
        simpa [normL] using this)
      have hres : Gives (.string (strOfNums T)) w (.returned (.string (strOfNums acc))) wr := ⟨by rw [hfin.out], hB0.out.trans (hB.out.mono hB0.out.size)⟩
      go_wp2
      go_ret
      exact hres
end Go.Proofs.YtpchncpcckfghaaGreat
namespace Go.Proofs.YtpchncpcckfghaaGreat
set_option linter.unusedVariables false
def leb (n : Nat) : List Int := if n < 128 then [(n : Int)] else ((n % 128 + 128 : Nat) : Int) :: leb (n / 128)
termination_by n
decreasing_by omega
theorem leb_small {n : Nat} (h : n < 128) : leb n = [(n : Int)] := by rw [leb]; simp [h]
theorem leb_big {n : Nat} (h : 128 ≤ n) : leb n = ((n % 128 + 128 : Nat) : Int) :: leb (n / 128) := by rw [leb]; simp [show ¬ n < 128 by omega]
def U64 (n : Int) : Prop := 0 ≤ n ∧ n ≤ 18446744073709551615
theorem leb_len (k : Nat) : ∀ n, n < 128 ^ (k + 1) → (leb n).length ≤ k + 1 := by
  induction k with
  | zero => intro n h; rw [leb_small (by simpa using h)]; simp
  | succ k ih =>
    intro n h
    by_cases hn : n < 128
    · rw [leb_small hn]; simp
    · rw [leb_big (by omega)]
      have := ih (n / 128) (by rw [Nat.div_lt_iff_lt_mul (by omega)]; rw [Nat.pow_succ] at h; exact h)
      simp; omega
theorem leb_len64 {n : Nat} (h : n ≤ 18446744073709551615) : (leb n).length ≤ 10 := leb_len 9 n (by omega)
theorem leb_int {m : Int} (h : 128 ≤ m) : leb m.toNat = (m % 128 + 128) :: leb (m / 128).toNat := by
  rw [leb_big (by omega)]
  rw [show m.toNat / 128 = (m / 128).toNat by omega, show ((m.toNat % 128 + 128 : Nat) : Int) = m % 128 + 128 by omega]
theorem leb_int_len {m : Int} (h : 128 ≤ m) : (leb m.toNat).length = (leb (m / 128).toNat).length + 1 := by rw [leb_int h]; simp
theorem leb_int_small {m : Int} (h0 : 0 ≤ m) (h : m < 128) : leb m.toNat = [m] := by rw [leb_small (by omega)]; simp; omega
theorem leb_pos (n : Nat) : 1 ≤ (leb n).length := by
  rw [leb]; split <;> simp
theorem U64.le10 {n : Int} (h : U64 n) : (leb n.toNat).length ≤ 10 := leb_len64 (by unfold U64 at h; omega)
theorem leb_bytes (n : Nat) : Bs (leb n) := by
  induction n using Nat.strongRecOn with
  | _ n ih =>
    by_cases h : n < 128
    · rw [leb_small h]; intro x hx; simp at hx; omega
    · rw [leb_big (by omega)]
      intro x hx
      rcases List.mem_cons.1 hx with rfl | hx
      · omega
      · exact ih (n / 128) (by omega) x hx
end Go.Proofs.YtpchncpcckfghaaGreat
namespace Go.Proofs.YtpchncpcckfghaaGreat
open Go.RowKit
set_option linter.unusedVariables false
set_option maxHeartbeats 400000 in
theorem size_any (n : Int) (w : World) (h0 : 0 ≤ n) (h1 : U64 n) :
    Calls Tryz.prog 96 #[.int .u64 n] w fun e w' => e = .returned (.int .i64 (leb n.toNat).length) ∧ w = w' := by
  have hten := h1.le10
  go_enter Tryz.func96, Tryz.ntmps96
  go_wp2
  go_loop [0, 3] (fun x s => ∃ (m : Int) (k : Nat), 0 ≤ m ∧ m ≤ n ∧ k ≤ 10 ∧ (leb n.toNat).length + 1 = k + (leb m.toNat).length ∧ x = .int .u64 m ∧ s = .int .i64 k) (fun x _ => (intOf x).toNat)
  case atStart => exact ⟨n, 1, h0, by omega, by omega, by omega, rfl, rfl⟩
  case round =>
    obtain ⟨m, k, hm0, hmn, hk, hl, rfl, rfl⟩ := hrel
    have hp := leb_pos m.toNat
    by_cases hm : m < 128
    · have H : k = (leb n.toNat).length := by rw [leb_int_small hm0 hm] at hl; simp at hl; omega
      have H' := Lib.hid H
      clear H
      go_wp2
      go_ret
      exact ⟨by rw [← H'.out]; rfl, rfl⟩
    · have hs := leb_int_len (m := m) (by omega)
      have hp2 := leb_pos (m / 128).toNat
      have hk' : k + 1 ≤ 10 := by omega
      have hl' : (leb n.toNat).length + 1 = k + 1 + (leb (m / 128).toNat).length := by omega
      have hl2 := Lib.hid hl'
      clear hl hs hp hp2 hl'
      go_wp2
      go_round
      case rel => exact ⟨m / 128, k + 1, by omega, by omega, hk', hl2.out, rfl, by go_num⟩
      case measure => simp [intOf]; omega
end Go.Proofs.YtpchncpcckfghaaGreat
namespace Go.Proofs.YtpchncpcckfghaaGreat
open Go.RowKit
set_option linter.unusedVariables false
theorem orB (m : Int) (h : 0 ≤ m) : bits .or .u8 (m % 256) 128 = m % 128 + 128 := by
  have : ∀ x : Fin 256, bits .or .u8 (x.val : Int) 128 = (x.val : Int) % 128 + 128 := by decide +kernel
  have h2 := this ⟨(m % 256).toNat, by omega⟩
  simp only [] at h2
  rw [show (((m % 256).toNat : Nat) : Int) = m % 256 by omega] at h2
  rw [h2]; omega
theorem infoU8 : (Tryz.prog.info? 5).map (fun i => (i.zero, i.size, i.bytes)) = some (some (.int .u8 0), 1, 1) := by kernel_rfl
set_option maxRecDepth 100000 in
set_option maxHeartbeats 1000000 in
theorem put_any (n : Int) (w : World) (h0 : 0 ≤ n) (h1 : U64 n) :
    Calls Tryz.prog 70 #[.int .u64 n] w (Made 5 .u8 w (leb n.toNat)) := by
  obtain ⟨i0, hi, hz0, hz1, hz2⟩ := info_parts infoU8
  have hten := h1.le10
  go_enter Tryz.func70, Tryz.ntmps70
  go_wp2_with (first
    | (go_at_call 96; refine (size_any _ _ h0 h1).mono ?_; rintro e w' ⟨rfl, rfl⟩)
    | (at_make; refine wpList_make_own _ rfl _ _ 82 rfl w.heap.size 5 i0 (.int .u8 0) 1 Tryz.underlying82 hi hz0 hz1 .i64 .i64 _ (leb n.toNat).length rfl rfl rfl (by rw [hz2]; omega) (by unfold maxLen; omega) (Nat.le_refl _) ?_))
  intro w1 hown hgrow
  have hb : Below w.heap.size w w1 := (Below.refl _ _).grown hgrow (Nat.le_refl _) (by simp)
  clear hgrow
  go_wp2
  go_loopw [0, 3] (fun x v wr => ∃ (m : Int) (pre : List Int), 0 ≤ m ∧ m ≤ n ∧ Hid (leb n.toNat = pre ++ leb m.toNat) ∧ x = .int .u64 m ∧ wr.ownsRow w.heap.size 5 1 v pre.length (nums .u8 pre) ∧ Below w.heap.size w wr) (fun x _ _ => (intOf x).toNat)
  case atStart => exact ⟨n, [], h0, by omega, Lib.hid rfl, rfl, hown, hb⟩
  case round =>
    obtain ⟨m, pre, hm0, hmn, hl, rfl, hown, hb⟩ := hrel
    have hpl : pre.length ≤ 10 := by have := hl.out; rw [this] at hten; simp at hten; omega
    by_cases hm : m < 128
    · go_wp2_with (first
        | (at_builtin; refine wpList_append1 _ rfl _ _ 82 rfl w 5 i0 (.int .u8 0) 1 Tryz.underlying82 hi hz0 hz1 hz2 rfl .u8 m _ _ hown hb rfl rfl (by omega) (by omega) ?_; intro v' w' hown' hb'))
      go_ret
      have e : leb n.toNat = pre ++ [m] := by rw [hl.out, leb_int_small hm0 hm]
      exact ⟨_, rfl, by rw [e]; exact hown', hb'⟩
    · have e1 := orB m hm0
      go_wp2_with (first
        | (at_builtin; refine wpList_append1 _ rfl _ _ 82 rfl w 5 i0 (.int .u8 0) 1 Tryz.underlying82 hi hz0 hz1 hz2 rfl .u8 (m % 128 + 128) _ _ hown hb rfl rfl (by omega) (by omega) ?_; intro v' w' hown' hb'))
      go_roundw
      case rel => exact ⟨m / 128, pre ++ [m % 128 + 128], by omega, by omega, Lib.hid (by rw [hl.out, leb_int (by omega)]; simp), rfl, hown', hb'⟩
      case measure => simp [intOf]; omega
end Go.Proofs.YtpchncpcckfghaaGreat
namespace Go.Proofs.YtpchncpcckfghaaGreat
open Go.RowKit
set_option linter.unusedVariables false
set_option maxRecDepth 100000 in
set_option maxHeartbeats 1000000 in
theorem refput_any (n : Int) (w : World) (h0 : 0 ≤ n) (h1 : U64 n) :
    Calls Tryz.prog 93 #[.int .u64 n] w (Made 5 .u8 w (leb n.toNat)) := by
  obtain ⟨i0, hi, hz0, hz1, hz2⟩ := info_parts infoU8
  have hten := h1.le10
  go_enter Tryz.func93, Tryz.ntmps93
  go_wp2_with fail
  go_loopw [0, 3] (fun x v wr => ∃ (m : Int) (pre : List Int), 0 ≤ m ∧ m ≤ n ∧ Hid (leb n.toNat = pre ++ leb m.toNat) ∧ x = .int .u64 m ∧ wr.ownsRow w.heap.size 5 1 v pre.length (nums .u8 pre) ∧ Below w.heap.size w wr) (fun x _ _ => (intOf x).toNat)
  case atStart => exact ⟨n, [], h0, by omega, Lib.hid rfl, rfl, World.ownsRow_nil _ _ _ _, Below.refl _ _⟩
  case round =>
    obtain ⟨m, pre, hm0, hmn, hl, rfl, hown, hb⟩ := hrel
    have hpl : pre.length ≤ 10 := by have := hl.out; rw [this] at hten; simp at hten; omega
    by_cases hm : m < 128
    · go_wp2_with (first
        | (at_builtin; refine wpList_append1 _ rfl _ _ 82 rfl w 5 i0 (.int .u8 0) 1 Tryz.underlying82 hi hz0 hz1 hz2 rfl .u8 m _ _ hown hb rfl rfl (by omega) (by omega) ?_; intro v' w' hown' hb'))
      go_ret
      have e : leb n.toNat = pre ++ [m] := by rw [hl.out, leb_int_small hm0 hm]
      exact ⟨_, rfl, by rw [e]; exact hown', hb'⟩
    · have e2 : IntKind.u64.wrap (m.tdiv 128) = m / 128 := u64_quo hm0 (by unfold U64 at h1; omega) (by omega)
      go_wp2_with (first
        | (at_builtin; refine wpList_append1 _ rfl _ _ 82 rfl w 5 i0 (.int .u8 0) 1 Tryz.underlying82 hi hz0 hz1 hz2 rfl .u8 (m % 128 + 128) _ _ hown hb rfl rfl (by omega) (by omega) ?_; intro v' w' hown' hb'))
      go_roundw
      case rel => exact ⟨m / 128, pre ++ [m % 128 + 128], by omega, by omega, Lib.hid (by rw [hl.out, leb_int (by omega)]; simp), rfl, hown', hb'⟩
      case measure => simp [intOf]; omega
end Go.Proofs.YtpchncpcckfghaaGreat
namespace Go.Proofs.YtpchncpcckfghaaGreat
set_option linter.unusedVariables false
theorem u64_wrap (n : Int) : IntKind.u64.wrap n = n % 18446744073709551616 := IntKind.wrap_u64 n
end Go.Proofs.YtpchncpcckfghaaGreat
namespace Go.Proofs.YtpchncpcckfghaaGreat
open Go.RowKit
set_option linter.unusedVariables false
theorem Bs.drop {l : List Int} (h : Bs l) (n : Nat) : Bs (l.drop n) := fun x hx => h x (List.mem_of_mem_drop hx)
end Go.Proofs.YtpchncpcckfghaaGreat
namespace Go.Proofs.YtpchncpcckfghaaGreat
open Go.RowKit
set_option linter.unusedVariables false
theorem clone_any (A : Option Addr) (l : List Int) (n c : Nat) (hn : n = l.length) (B : Nat) (w : World) (hl : l.length ≤ 140737488355328) (hs : Sees .u8 B w A l) :
    Calls Tryz.prog 119 #[.slice A n c] w (Made 5 .u8 w l) := by
  obtain ⟨i0, hi, hz0, hz1, hz2⟩ := info_parts infoU8
  subst hn
  cases A with
  | none =>
    have hl0 : l = [] := by
      rcases hs with h | ⟨b, off, h, _⟩
      · exact h
      · cases h
    subst hl0
    have hq := fun W => Lib.run_eql_slice_nil_nil (P := Tryz.prog) W (t := 82) (e := 5) 0 c Tryz.underlying82
    go_enter Tryz.func119, Tryz.ntmps119
    go_wp2
    go_ret
    exact ⟨_, rfl, ⟨rfl, .inl ⟨rfl, rfl⟩⟩, Below.refl _ _⟩
  | some ad =>
    have hq := fun W => Lib.run_eql_slice_some_nil (P := Tryz.prog) W (t := 82) (e := 5) ad l.length c Tryz.underlying82
    have hB : Below w.heap.size w (w.alloc (.cells #[] 5)) := (Below.refl _ _).alloc (Nat.le_refl _) _
    have hs' : Sees .u8 B (w.alloc (.cells #[] 5)) (some ad) l := by
      rcases hs with h | ⟨b, off, h, h2, h3⟩
      · exact .inl h
      · by_cases h0 : l = []
        · exact .inl h0
        · have hlt := World.block_lt_of_cell? w _ (h3 0 (List.length_pos_iff.2 h0))
          exact .inr ⟨b, off, h, h2, fun i hi => (hB.cell (p := ⟨b, off + i, none⟩) hlt).trans (h3 i hi)⟩
    have hl' := Lib.hid hl
    go_enter Tryz.func119, Tryz.ntmps119
    go_wp2_with (at_builtin; refine wpList_append_foot _ rfl (.tmp 5) (.tmp 6) 82 rfl 5 i0 (.int .u8 0) 1 Tryz.underlying82 hi hz0 hz1 hz2 rfl .u8 _ [] (World.ownsRow_made w #[] 0 (Nat.zero_le _) (by decide) (by simp)) B (some ad) l hs' l.length c rfl rfl rfl (by have := hl'.out; simp [maxLen]; omega) (by have := hl'.out; simp; omega) ?_; intro v' w' hown hgrow hblk; simp only [List.nil_append] at hown)
    go_ret
    have hown' : w'.ownsRow w.heap.size 5 1 v' l.length (nums .u8 l) := by
      refine ⟨hown.1, ?_⟩
      rcases hown.2 with h | ⟨g, cap, cur, hv, _, r⟩
      · exact .inl h
      · refine .inr ⟨g, cap, cur, hv, ?_, r⟩
        subst hv
        rcases hblk with h | h <;> simp [Value.ownBlock] at h <;> omega
    exact ⟨v', rfl, hown', hB.grown hgrow hB.size (by intro k hk; simp [Value.ownBlock] at hk; omega)⟩
def Pn (w : World) (g : Nat) (F : List Nat) (l : List Int) : Prop :=
  ∃ v, Holds w g 139 #[v] ∧ w.ownsRow 0 5 1 v l.length (nums .u8 l) ∧ g ∈ F ∧ (∀ b, v.ownBlock = some b → b ∈ F ∧ b ≠ g) ∧ ∀ x ∈ F, x < w.heap.size
def Turns (F F' : List Nat) (w w' : World) : Prop := BelowE F w.heap.size w w' ∧ ∀ x ∈ F', x ∈ F ∨ w.heap.size ≤ x
def Writes (g : Nat) (F : List Nat) (l : List Int) (w : World) (e : Ending) (w' : World) : Prop := e = .returned (.tuple #[]) ∧ ∃ F', Pn w' g F' l ∧ Turns F F' w w'
theorem Turns.trans {F F' F'' : List Nat} {w w' w'' : World} (h : Turns F F' w w') (k : Turns F' F'' w' w'') : Turns F F'' w w'' := by
  refine ⟨h.1.trans ((k.1.mono h.1.size).less ?_), ?_⟩
  · intro x hx hl
    rcases h.2 x hx with h1 | h1
    · exact h1
    · omega
  · intro x hx
    rcases k.2 x hx with h1 | h1
    · exact h.2 x h1
    · right; have := h.1.size; omega
theorem BelowE.toBelow {X : List Nat} {B : Nat} {w w' : World} (h : BelowE X B w w') (hx : ∀ x ∈ X, B ≤ x) : Below B w w' :=
  (h.less (Y := []) (fun x hm hl => absurd (hx x hm) (by omega))).none
theorem Pn.below {w w' : World} {g : Nat} {F : List Nat} {l : List Int} (h : Pn w g F l) (hb : Below w.heap.size w w') : Pn w' g F l := by
  obtain ⟨v, h1, h2, h3, h4, h5⟩ := h
  refine ⟨v, h1.below hb h1.lt, ?_, h3, h4, fun x hx => Nat.lt_of_lt_of_le (h5 x hx) hb.size⟩
  refine ⟨h2.1, ?_⟩
  rcases h2.2 with h | ⟨g', cap, cur, hv, hg, hh, r⟩
  · exact .inl h
  · exact .inr ⟨g', cap, cur, hv, hg, (hb.block g' (Array.getElem?_eq_some_iff.1 hh).1).trans hh, r⟩
theorem Pn.belowE {w w' : World} {X : List Nat} {g : Nat} {F : List Nat} {l : List Int} (h : Pn w g F l) (hb : BelowE X w.heap.size w w') (hx : ∀ x ∈ F, x ∉ X) : Pn w' g F l := by
  obtain ⟨v, h1, h2, h3, h4, h5⟩ := h
  refine ⟨v, h1.belowE hb h1.lt (hx g h3), ?_, h3, h4, fun x hx => Nat.lt_of_lt_of_le (h5 x hx) hb.size⟩
  refine ⟨h2.1, ?_⟩
  rcases h2.2 with h | ⟨g', cap, cur, hv, hg, hh, r⟩
  · exact .inl h
  · exact .inr ⟨g', cap, cur, hv, hg, (hb.block g' (Array.getElem?_eq_some_iff.1 hh).1 (hx g' (h4 g' (by rw [hv]; rfl)).1)).trans hh, r⟩
theorem pput_any (g : Nat) (F : List Nat) (l : List Int) (A : Option Addr) (r : List Int) (n c : Nat) (hn : n = r.length) (B : Nat) (w : World) (h : Pn w g F l) (hs : Sees .u8 B w A r) (hl : l.length + r.length ≤ 140737488355328) :
    Calls Tryz.prog 113 #[.pointer (some ⟨g, 0, none⟩), .slice A n c] w (Writes g F (l ++ r) w) := by
  obtain ⟨i0, hi, hz0, hz1, hz2⟩ := info_parts infoU8
  subst hn
  obtain ⟨v, h1, h2, h3, h4, h5⟩ := h
  have c0 := h1.cell 0
  simp at c0
  have h1' := Lib.hid h1
  have hl' := Lib.hid hl
  clear h1 hl
  go_enter Tryz.func113, Tryz.ntmps113
  go_wp2_with (at_builtin; (refine wpList_append_foot _ rfl (.tmp 10) (.tmp 11) 82 rfl 5 i0 (.int .u8 0) 1 Tryz.underlying82 hi hz0 hz1 hz2 rfl .u8 v l h2 B A r hs r.length c rfl rfl rfl (by have := hl'.out; simp [maxLen]; omega) (by have := hl'.out; omega) ?_; intro v' w' hown hgrow hblk; have lg := h1'.out.lt; have kg : Holds w' g 139 #[v] := (hgrow.block g lg (fun e => (h4 g e.symm).2 rfl)).trans h1'.out; have k0 := kg.cell 0; have kf := kg.free 0; simp at k0; obtain ⟨aa, cc, rfl, -, -⟩ := sees_own hown))
  go_end0
  obtain ⟨v', hv'⟩ : ∃ v', v' = Value.slice aa (l ++ r).length cc := ⟨_, rfl⟩
  have hv2 : Value.slice aa (l.length + r.length) cc = v' := by rw [hv', List.length_append]
  rw [← hv'] at hown hblk
  rw [hv2]
  clear hv' hv2
  refine ⟨rfl, g :: v'.ownBlock.toList, ⟨v', ?_, ?_, by simp, ?_, ?_⟩, ?_, ?_⟩
  · have := kg.set 0 v'
    simpa using this
  · refine ⟨hown.1, ?_⟩
    rcases hown.2 with h | ⟨g', cap, cur, hv, hg, hh, r⟩
    · exact .inl h
    · refine .inr ⟨g', cap, cur, hv, hg, ?_, r⟩
      rw [Below.heap_setCell _ _ _ _ ?_]
      · exact hh
      · show g' ≠ g
        rcases hblk with h5 | h5
        · exact (h4 g' (by rw [← h5, hv]; rfl)).2
        · rw [hv] at h5; simp [Value.ownBlock] at h5; omega
  · intro b hb
    rw [hb]
    refine ⟨by simp, ?_⟩
    rcases hblk with h5 | h5
    · exact (h4 b (by rw [← h5, hb])).2
    · rw [hb] at h5; simp at h5; omega
  · intro x hx
    have hz : (w'.setCell ⟨g, 0, none⟩ v').heap.size = w'.heap.size := by simp [World.setCell]
    rw [hz]
    simp at hx
    rcases hx with rfl | hx
    · exact kg.lt
    · exact (hown.lt x hx).2
  · have hb0 : BelowE F w.heap.size w w' := (BelowE.refl _ _ _).grown hgrow (Nat.le_refl _) (fun k hk _ => (h4 k hk).1)
    exact hb0.setIn (p := ⟨g, 0, none⟩) h3 _
  · intro x hx
    simp at hx
    rcases hx with rfl | hx
    · exact .inl h3
    · rcases hblk with h5 | h5
      · exact .inl (h4 x (by rw [← h5]; exact hx)).1
      · rw [hx] at h5; simp at h5; right; omega
end Go.Proofs.YtpchncpcckfghaaGreat
namespace Go.Proofs.YtpchncpcckfghaaGreat
open Go.RowKit
set_option linter.unusedVariables false
def NewPen (w : World) (e : Ending) (w' : World) : Prop := ∃ g F, e = .returned (.pointer (some ⟨g, 0, none⟩)) ∧ Pn w' g F [] ∧ Below w.heap.size w w' ∧ ∀ x ∈ F, w.heap.size ≤ x
theorem new_any (w : World) : Calls Tryz.prog 97 #[] w (NewPen w) := by
  go_enter Tryz.func97, Tryz.ntmps97
  go_wp2
  go_ret
  exact ⟨w.heap.size, [w.heap.size], rfl, ⟨.slice none 0 0, Holds.new _ _ _, ⟨rfl, .inl ⟨rfl, rfl⟩⟩, by simp, by simp [Value.ownBlock], by simp⟩, (Below.refl _ _).alloc (Nat.le_refl _) _, by simp⟩
theorem Writes.after {g : Nat} {F : List Nat} {l : List Int} {w w1 w' : World} {e : Ending} (hb : Below w.heap.size w w1) (h : Writes g F l w1 e w') : Writes g F l w e w' := by
  obtain ⟨h0, F', h1, h2, h3⟩ := h
  refine ⟨h0, F', h1, (BelowE.of hb).trans (h2.mono hb.size), fun x hx => ?_⟩
  rcases h3 x hx with h | h
  · exact .inl h
  · right; have := hb.size; omega
theorem Pn.ne {w : World} {g : Nat} {F : List Nat} {l : List Int} (h : Pn w g F l) : g < w.heap.size := by
  obtain ⟨v, h1, _⟩ := h; exact h1.lt
theorem pu_any (g : Nat) (F : List Nat) (l : List Int) (n : Int) (w : World) (h : Pn w g F l) (h0 : 0 ≤ n) (hU : U64 n) (hl : l.length ≤ 100000000000000) :
    Calls Tryz.prog 98 #[.pointer (some ⟨g, 0, none⟩), .int .u64 n] w (Writes g F (l ++ leb n.toNat) w) := by
  have hten := hU.le10
  have hput := Lib.hid (fun (A : Option Addr) (c : Nat) (w' : World) (hb : Below w.heap.size w w') (hs : Sees .u8 w'.heap.size w' A (leb n.toNat)) => pput_any g F l A (leb n.toNat) _ c rfl w'.heap.size w' (h.below hb) hs (by omega))
  clear h hl
  go_enter Tryz.func98, Tryz.ntmps98
  go_wp2_with fail
  refine (put_any n _ h0 hU).mono ?_
  intro e w1 h1
  obtain ⟨a1, c1, rfl, hs1, hb1⟩ := h1.open (leb n.toNat).length rfl
  clear h1
  go_wp2_with fail
  refine (hput.out a1 c1 w1 hb1 hs1).mono ?_
  rintro e w2 hw
  have hw' := Lib.hid hw
  obtain ⟨rfl, -⟩ := hw
  go_wp2
  go_end0
  exact Writes.after hb1 hw'.out
theorem ptext_any (g : Nat) (F : List Nat) (l : List Int) (s : ByteArray) (w : World) (h : Pn w g F l) (hs : s.size ≤ 140737488351232) (hl : l.length ≤ 100000000000000) (hls : l.length + s.size ≤ 140737488355000) :
    Calls Tryz.prog 99 #[.pointer (some ⟨g, 0, none⟩), .string s] w (Writes g F (l ++ (leb s.size ++ codes s)) w) := by
  have hU : U64 (s.size : Int) := by unfold U64; omega
  have hten := hU.le10
  have hput := Lib.hid (pu_any g F l (s.size : Int) w h (by omega) hU hl)
  have hlen : (codes s).length = s.size := codes_length s
  have htext := Lib.hid (fun (F' : List Nat) (A : Option Addr) (c : Nat) (w1 w2 : World) (hp : Pn w1 g F' (l ++ leb s.size)) (hb : Below w1.heap.size w1 w2) (hse : Sees .u8 w2.heap.size w2 A (codes s)) => pput_any g F' (l ++ leb s.size) A (codes s) s.size c hlen.symm w2.heap.size w2 (hp.below hb) hse (by simp at hten ⊢; omega))
  have hcv := Lib.hid (fun W : World => run_bytes_sees (P := Tryz.prog) W 9 82 5 s Tryz.underlying9 Tryz.underlying82 Tryz.underlying5)
  have hsz : s.size ≤ 9223372036854775807 := by omega
  clear h hl hten hlen hls hs hU
  go_enter Tryz.func99, Tryz.ntmps99
  go_wp2_with fail
  refine hput.out.mono ?_
  rintro e w1 ⟨rfl, F1, hp1, ht1⟩
  simp only [Int.toNat_natCast] at hp1
  obtain ⟨c, w2, hrun, hc, hse, hb, hz⟩ := hcv.out w1
  have hz' := Lib.hid hz
  clear hz
  go_wp2_with fail
  refine (htext.out F1 _ c w1 w2 hp1 hb hse).mono ?_
  rintro e w3 ⟨rfl, F2, hp2, ht2⟩
  go_wp2
  go_end0
  refine ⟨rfl, F2, by rw [← List.append_assoc]; exact hp2, ht1.trans ⟨(BelowE.of hb).trans (ht2.1.mono hb.size), fun x hx => ?_⟩⟩
  rcases ht2.2 x hx with h | h
  · exact .inl h
  · right; have := hb.size; omega
theorem pbytes_any (g : Nat) (F : List Nat) (l : List Int) (w : World) (h : Pn w g F l) (hl : l.length ≤ 140737488355328) :
    Calls Tryz.prog 101 #[.pointer (some ⟨g, 0, none⟩)] w (Made 5 .u8 w l) := by
  obtain ⟨v, h1, h2, _⟩ := h
  have c0 := h1.cell 0
  simp at c0
  obtain ⟨a, c, rfl, _, hs⟩ := sees_own h2
  have hcl := Lib.hid (clone_any a l l.length c rfl w.heap.size w hl hs)
  clear h1 h2 hs hl
  go_enter Tryz.func101, Tryz.ntmps101
  go_wp2_with fail
  refine hcl.out.mono ?_
  rintro e w1 hm
  have hm' := Lib.hid hm
  obtain ⟨v, rfl, -⟩ := hm
  go_wp2
  go_ret
  exact hm'.out
end Go.Proofs.YtpchncpcckfghaaGreat
namespace Go.Proofs.YtpchncpcckfghaaGreat
open Go.RowKit
set_option linter.unusedVariables false
theorem rnum_any (n : Int) (w : World) (h0 : 0 ≤ n) (h1 : n ≤ 9223372036854775807) :
    Calls Tryz.prog 66 #[.int .i64 n] w (Made 5 .u8 w (leb n.toNat)) := by
  have hput := Lib.hid (refput_any n w h0 (by unfold U64; omega))
  go_enter Tryz.func66, Tryz.ntmps66
  go_wp2_with fail
  refine hput.out.mono ?_
  rintro e w1 h
  have h' := Lib.hid h
  obtain ⟨v, rfl, -, -⟩ := h
  go_wp2
  go_ret
  exact h'.out
theorem rtxt_any (s : ByteArray) (w : World) (hs : s.size ≤ 140737488351232) :
    Calls Tryz.prog 111 #[.string s] w (Made 5 .u8 w (leb s.size ++ codes s)) := by
  obtain ⟨i0, hi, hz0, hz1, hz2⟩ := info_parts infoU8
  have hU : U64 (s.size : Int) := by unfold U64; omega
  have hten := hU.le10
  have hput := Lib.hid (refput_any (s.size : Int) w (by omega) hU)
  have hcv := Lib.hid (fun W : World => run_bytes_sees (P := Tryz.prog) W 9 82 5 s Tryz.underlying9 Tryz.underlying82 Tryz.underlying5)
  have hlen : s.size = (codes s).length := (codes_length s).symm
  have hlen' := Lib.hid hlen
  have hsz : s.size ≤ 9223372036854775807 := by omega
  have hbound : Hid ((leb s.size).length + (codes s).length ≤ 140737488355328) := Lib.hid (by simp at hten; omega)
  clear hten hlen hU
  go_enter Tryz.func111, Tryz.ntmps111
  go_wp2_with fail
  refine hput.out.mono ?_
  simp only [Int.toNat_natCast]
  rintro e w1 ⟨v1, rfl, hown, hb1⟩
  obtain ⟨c, w2, hrun, hc, hse, hb, hz⟩ := hcv.out w1
  have hown2 := own_zero (own_below hown hb)
  have hz' := Lib.hid hz
  clear hz
  go_wp2_with (at_builtin; refine wpList_append_foot _ rfl (.tmp 6) (.tmp 8) 82 rfl 5 i0 (.int .u8 0) 1 Tryz.underlying82 hi hz0 hz1 hz2 rfl .u8 v1 (leb s.size) hown2 _ _ (codes s) hse s.size c hlen'.out rfl rfl (by have := hbound.out; simp [maxLen]; omega) (by have := hbound.out; omega) ?_; intro v' w' hown3 hgrow hblk)
  go_ret
  have hB := hb1.trans (hb.mono hb1.size)
  refine ⟨v', rfl, own_from hown3 fun k hk => ?_, hB.grown hgrow hB.size fun k hk => (hown.lt k hk).1⟩
  rcases hblk with h | h
  · rw [h] at hk; exact (hown.lt k hk).1
  · rw [h] at hk; injection hk with hk; have := hB.size; omega
theorem made_append {P : Program} {w w1 w2 : World} {ops : Array Oper} {rest : List Oper} {o : Oper} {a : Act} {Q : Exit → Act → World → Prop}
    (hg : o.guard = none) (s x : Operand) (t : TypeId) (hop : o.op = Op.call { callee := Callee.builtin Builtin.append, args := #[s, x], argTypes := #[t, t] })
    (e : TypeId) (i : TypeInfo) (ht : P.underlying t = some (.slice e)) (hi : P.info? e = some i) (hz : i.zero = some (.int .u8 0)) (hsize : i.size = 1) (hby : i.bytes = 1)
    (v : Value) (l : List Int) (hown : w1.ownsRow w.heap.size e 1 v l.length (nums .u8 l)) (hb1 : Below w.heap.size w w1) (hb : Below w1.heap.size w1 w2)
    (A : Option Addr) (r : List Int) (m c : Nat) (hm : m = r.length) (hse : Sees .u8 w2.heap.size w2 A r)
    (hsv : a.eval s = v) (hx : a.eval x = .slice A m c) (hn : l.length + r.length ≤ 140737488355328)
    (hK : ∀ v' w', w'.ownsRow w.heap.size e 1 v' (l ++ r).length (nums .u8 (l ++ r)) → Below w.heap.size w w' → wpList P ops Q rest (a.put o.dst v') w') : wpList P ops Q (o :: rest) a w2 := by
  refine wpList_append_foot w2 hg s x t hop e i (.int .u8 0) 1 ht hi hz hsize hby rfl .u8 v l (own_zero (own_below hown hb)) _ A r hse m c hm hsv hx (by simp [maxLen]; omega) (by omega) ?_
  intro v' w' hown3 hgrow hblk
  have hB := hb1.trans (hb.mono hb1.size)
  refine hK v' w' (own_from hown3 fun k hk => ?_) (hB.grown hgrow hB.size fun k hk => (hown.lt k hk).1)
  rcases hblk with h | h
  · rw [h] at hk; exact (hown.lt k hk).1
  · rw [h] at hk; injection hk with hk; have := hB.size; omega
end Go.Proofs.YtpchncpcckfghaaGreat
namespace Go.Proofs.YtpchncpcckfghaaGreat
open Go.RowKit
set_option linter.unusedVariables false
set_option linter.unusedSimpArgs false
def keyL (k : Int) (f : ByteArray) (x : List Int) : List Int := leb (max k 0).toNat ++ ((leb f.size ++ codes f) ++ (leb x.length ++ x))
theorem strOf_size_codes {x : List Int} (h : Bs x) : leb (strOfNums x).size ++ codes (strOfNums x) = leb x.length ++ x := by
  rw [codes_str h, ← codes_length, codes_str h]
theorem Turns.allw {W w w' : World} {F F' : List Nat} (h : Turns F F' w w') (hb : Below W.heap.size W w) (hF : ∀ x ∈ F, W.heap.size ≤ x) : Below W.heap.size W w' ∧ ∀ x ∈ F', W.heap.size ≤ x :=
  ⟨hb.trans ((h.1.mono hb.size).toBelow hF), fun x hx => (h.2 x hx).elim (hF x) (fun h => Nat.le_trans hb.size h)⟩
set_option maxHeartbeats 2000000 in
theorem key_any (k : Int) (hk : (Lit.int .i64 k).wf = true) (f s : ByteArray) (hf : f.size ≤ 100000) (hs : s.size ≤ 100000) (w : World) :
    Calls Tryz.prog 71 #[.int .i64 k, .string f, .string s] w (Made 5 .u8 w (keyL k f (normS (codes s)))) := by
  have hk' := i64_wf hk
  have hn := Lib.hid (fun W => norm_any s hs W)
  have hT : (normS (codes s)).length ≤ 100000 := by have := normS_len (codes s); rw [codes_length] at this; omega
  have hTb : Bs (normS (codes s)) := norm_bs (parts_bs _ (Nat.le_refl _) (codes_bs s)) false
  have hm0 : 0 ≤ max k 0 := by omega
  have hm1 : U64 (max k 0) := by unfold U64; omega
  have h10 := hm1.le10
  have h10f := (show U64 (f.size : Int) by unfold U64; omega).le10
  simp only [Int.toNat_natCast] at h10f
  have hfl := codes_length f
  have hsz : (strOfNums (normS (codes s))).size ≤ 100000 := by rw [strOfNums_size]; exact hT
  have hx := Lib.hid (strOf_size_codes hTb)
  have hwr : IntKind.u64.wrap (max k 0) = max k 0 := wrap_u64_in hm0 hm1.2
  have hmax : Hid (max k 0 = max k 0) := Lib.hid rfl
  unfold keyL
  generalize normS (codes s) = T at *
  generalize strOfNums T = sT at *
  have p1 : ∀ g F W, Pn W g F [] → Calls Tryz.prog 98 #[.pointer (some ⟨g, 0, none⟩), .int .u64 (max k 0)] W (Writes g F (leb (max k 0).toNat) W) := fun g F W h => pu_any g F [] _ W h hm0 hm1 (by simp)
  have p2 : ∀ g F W, Pn W g F (leb (max k 0).toNat) → Calls Tryz.prog 99 #[.pointer (some ⟨g, 0, none⟩), .string f] W (Writes g F (leb (max k 0).toNat ++ (leb f.size ++ codes f)) W) := fun g F W h => ptext_any g F _ f W h (by omega) (by omega) (by omega)
  have p3 : ∀ g F W, Pn W g F (leb (max k 0).toNat ++ (leb f.size ++ codes f)) → Calls Tryz.prog 99 #[.pointer (some ⟨g, 0, none⟩), .string sT] W (Writes g F (leb (max k 0).toNat ++ ((leb f.size ++ codes f) ++ (leb T.length ++ T))) W) := fun g F W h => by
    have := ptext_any g F _ sT W h (by omega) (by simp; omega) (by simp; omega)
    rw [hx.out, List.append_assoc] at this
    exact this
  have p4 : ∀ g F W, Pn W g F (leb (max k 0).toNat ++ ((leb f.size ++ codes f) ++ (leb T.length ++ T))) → Calls Tryz.prog 101 #[.pointer (some ⟨g, 0, none⟩)] W (Made 5 .u8 W (leb (max k 0).toNat ++ ((leb f.size ++ codes f) ++ (leb T.length ++ T)))) := fun g F W h => pbytes_any g F _ W h (by
    have := (show U64 (T.length : Int) by unfold U64; omega).le10
    simp only [Int.toNat_natCast] at this
    simp; omega)
  have p1' := Lib.hid p1
  have p2' := Lib.hid p2
  have p3' := Lib.hid p3
  have p4' := Lib.hid p4
  clear p1 p2 p3 p4 h10 h10f hfl hsz hx hT hTb hf hs hk
  generalize leb (max k 0).toNat ++ ((leb f.size ++ codes f) ++ (leb T.length ++ T)) = L3 at *
  generalize leb (max k 0).toNat ++ (leb f.size ++ codes f) = L2 at *
  generalize leb (max k 0).toNat = L1 at *
  go_enter Tryz.func71, Tryz.ntmps71
  go_wp2_with fail
  refine (new_any w).mono ?_
  rintro e w1 ⟨g, F, rfl, q0, b0, f0⟩
  have q0' := Lib.hid q0
  have b0' := Lib.hid b0
  have f0' := Lib.hid f0
  clear q0 b0 f0
  go_wp2_with fail
  refine (p1'.out g F w1 q0'.out).mono ?_
  rintro e w2 ⟨rfl, F1, q1, t1⟩
  obtain ⟨b1, f1⟩ := t1.allw b0'.out f0'.out
  have q1' := Lib.hid q1
  have b1' := Lib.hid b1
  have f1' := Lib.hid f1
  clear q1 b1 f1 t1 q0' b0' f0' p1'
  go_wp2_with fail
  refine (p2'.out g F1 w2 q1'.out).mono ?_
  rintro e w3 ⟨rfl, F2, q2, t2⟩
  obtain ⟨b2, f2⟩ := t2.allw b1'.out f1'.out
  have q2' := Lib.hid q2
  have b2' := Lib.hid b2
  have f2' := Lib.hid f2
  clear q2 b2 f2 t2 q1' b1' f1' p2'
  go_wp2_with fail
  refine (hn.out w3).mono ?_
  rintro e w4 ⟨rfl, b3⟩
  have q3' := Lib.hid (q2'.out.below b3)
  have b3' := Lib.hid (b2'.out.trans (b3.mono b2'.out.size))
  clear b3 q2' b2' hn
  go_wp2_with fail
  refine (p3'.out g F2 w4 q3'.out).mono ?_
  rintro e w5 ⟨rfl, F3, q4, t4⟩
  obtain ⟨b4, f4⟩ := t4.allw b3'.out f2'.out
  have q4' := Lib.hid q4
  have b4' := Lib.hid b4
  clear q4 b4 f4 t4 q3' b3' f2' p3'
  go_wp2_with fail
  refine (p4'.out g F3 w5 q4'.out).mono ?_
  rintro e w6 h6
  have h6' := Lib.hid h6
  obtain ⟨v, rfl, -, -⟩ := h6
  go_wp2
  go_ret
  obtain ⟨v', e1, o1, bb⟩ := h6'.out
  exact ⟨v', e1, own_from o1 (fun q hq => Nat.le_trans b4'.out.size ((o1.lt q hq).1)), b4'.out.trans (bb.mono b4'.out.size)⟩
set_option maxHeartbeats 2000000 in
theorem rkey_any (k : Int) (hk : (Lit.int .i64 k).wf = true) (f s : ByteArray) (hf : f.size ≤ 100000) (hs : s.size ≤ 100000) (w : World) :
    Calls Tryz.prog 92 #[.int .i64 k, .string f, .string s] w (Made 5 .u8 w (keyL k f (normS (codes s)))) := by
  obtain ⟨i0, hi, hz0, hz1, hz2⟩ := info_parts infoU8
  have hk' := i64_wf hk
  have hn := Lib.hid (fun W => rnorm_any s hs W)
  have hT : (normS (codes s)).length ≤ 100000 := by have := normS_len (codes s); rw [codes_length] at this; omega
  have hTb : Bs (normS (codes s)) := norm_bs (parts_bs _ (Nat.le_refl _) (codes_bs s)) false
  have hsz : (strOfNums (normS (codes s))).size ≤ 100000 := by rw [strOfNums_size]; exact hT
  have hx := strOf_size_codes hTb
  have h10 := (show U64 (max k 0) by unfold U64; omega).le10
  have h10f := (show U64 (f.size : Int) by unfold U64; omega).le10
  have h10t := (show U64 ((normS (codes s)).length : Int) by unfold U64; omega).le10
  simp only [Int.toNat_natCast] at h10f h10t
  have hfl := codes_length f
  have hp1 := Lib.hid (fun W => rnum_any (max k 0) W (by omega) (by omega))
  have hp2 := Lib.hid (fun W => rtxt_any f W (by omega))
  have hp3 : ∀ W, Calls Tryz.prog 111 #[.string (strOfNums (normS (codes s)))] W (Made 5 .u8 W (leb (normS (codes s)).length ++ normS (codes s))) := fun W => by
    have := rtxt_any (strOfNums (normS (codes s))) W (by omega)
    rw [hx] at this; exact this
  have hp3' := Lib.hid hp3
  have e1 : Hid ((leb (max k 0).toNat).length + (leb f.size ++ codes f).length ≤ 140737488355328) := Lib.hid (by simp; omega)
  have e2 : Hid ((leb (max k 0).toNat ++ (leb f.size ++ codes f)).length + (leb (normS (codes s)).length ++ normS (codes s)).length ≤ 140737488355328) := Lib.hid (by simp; omega)
  unfold keyL
  rw [← List.append_assoc]
  clear hp3 h10 h10f h10t hfl hsz hx hT hTb hf hs
  generalize leb (normS (codes s)).length ++ normS (codes s) = L3 at *
  generalize leb f.size ++ codes f = L2 at *
  generalize normS (codes s) = T at *
  generalize strOfNums T = sT at *
  have main : ∀ m : Int, m = max k 0 → Hid (∀ W, Calls Tryz.prog 66 #[.int .i64 m] W (Made 5 .u8 W (leb (max k 0).toNat))) := by rintro m rfl; exact hp1
  generalize leb (max k 0).toNat = L1 at *
  clear hp1
  by_cases hneg : k < 0
  · have hp1 := main 0 (by omega)
    clear main hk hk'
    go_enter Tryz.func92, Tryz.ntmps92
    go_wp2_with fail
    refine (hp1.out w).mono ?_
    rintro e w1 ⟨v1, rfl, o1, b1⟩
    have o1' := Lib.hid o1
    have b1' := Lib.hid b1
    clear o1 b1 hp1
    go_wp2_with fail
    refine (hp2.out w1).mono ?_
    intro e w2 h2
    obtain ⟨a2, c2, rfl, s2, b2⟩ := h2.open _ rfl
    clear hp2 h2
    go_wp2_with (at_builtin; refine made_append (w := w) (w1 := w1) rfl (.tmp 10) (.tmp 12) 82 rfl 5 i0 Tryz.underlying82 hi hz0 hz1 hz2 v1 L1 o1'.out b1'.out b2 a2 L2 L2.length c2 rfl s2 rfl rfl e1.out ?_; intro v3 w3 o3 b3; have o3' := Lib.hid o3; have b3' := Lib.hid b3; clear o3 b3)
    refine (hn.out w3).mono ?_
    rintro e w4 ⟨rfl, b4⟩
    have o4' := Lib.hid (own_below o3'.out b4)
    have b4' := Lib.hid (b3'.out.trans (b4.mono b3'.out.size))
    clear b4 hn b2 s2 o1' b1'
    go_wp2_with fail
    refine (hp3'.out w4).mono ?_
    intro e w5 h5
    obtain ⟨a5, c5, rfl, s5, b5⟩ := h5.open _ rfl
    clear hp3' h5
    go_wp2_with (at_builtin; refine made_append (w := w) (w1 := w4) rfl (.tmp 13) (.tmp 16) 82 rfl 5 i0 Tryz.underlying82 hi hz0 hz1 hz2 v3 (L1 ++ L2) o4'.out b4'.out b5 a5 L3 L3.length c5 rfl s5 rfl rfl e2.out ?_; intro v6 w6 o6 b6; have o6' := Lib.hid o6; have b6' := Lib.hid b6; clear o6 b6)
    go_ret
    exact ⟨_, rfl, o6'.out, b6'.out⟩
  · have hp1 := main k (by omega)
    clear main hk
    go_enter Tryz.func92, Tryz.ntmps92
    go_wp2_with fail
    refine (hp1.out w).mono ?_
    rintro e w1 ⟨v1, rfl, o1, b1⟩
    have o1' := Lib.hid o1
    have b1' := Lib.hid b1
    clear o1 b1 hp1
    go_wp2_with fail
    refine (hp2.out w1).mono ?_
    intro e w2 h2
    obtain ⟨a2, c2, rfl, s2, b2⟩ := h2.open _ rfl
    clear hp2 h2
    go_wp2_with (at_builtin; refine made_append (w := w) (w1 := w1) rfl (.tmp 10) (.tmp 12) 82 rfl 5 i0 Tryz.underlying82 hi hz0 hz1 hz2 v1 L1 o1'.out b1'.out b2 a2 L2 L2.length c2 rfl s2 rfl rfl e1.out ?_; intro v3 w3 o3 b3; have o3' := Lib.hid o3; have b3' := Lib.hid b3; clear o3 b3)
    refine (hn.out w3).mono ?_
    rintro e w4 ⟨rfl, b4⟩
    have o4' := Lib.hid (own_below o3'.out b4)
    have b4' := Lib.hid (b3'.out.trans (b4.mono b3'.out.size))
    clear b4 hn b2 s2 o1' b1'
    go_wp2_with fail
    refine (hp3'.out w4).mono ?_
    intro e w5 h5
    obtain ⟨a5, c5, rfl, s5, b5⟩ := h5.open _ rfl
    clear hp3' h5
    go_wp2_with (at_builtin; refine made_append (w := w) (w1 := w4) rfl (.tmp 13) (.tmp 16) 82 rfl 5 i0 Tryz.underlying82 hi hz0 hz1 hz2 v3 (L1 ++ L2) o4'.out b4'.out b5 a5 L3 L3.length c5 rfl s5 rfl rfl e2.out ?_; intro v6 w6 o6 b6; have o6' := Lib.hid o6; have b6' := Lib.hid b6; clear o6 b6)
    go_ret
    exact ⟨_, rfl, o6'.out, b6'.out⟩
end Go.Proofs.YtpchncpcckfghaaGreat
namespace Go.Proofs.YtpchncpcckfghaaGreat
set_option linter.unusedVariables false
def fstep (s c : Int) : Int := (((s.toNat ^^^ c.toNat) * 1099511628211 % 18446744073709551616 : Nat) : Int)
def fsum (s : Int) (l : List Int) : Int := l.foldl fstep s
def InU (s : Int) : Prop := 0 ≤ s ∧ s ≤ 18446744073709551615
theorem fstep_in (s c : Int) : InU (fstep s c) := by
  unfold InU fstep
  have := Nat.mod_lt ((s.toNat ^^^ c.toNat) * 1099511628211) (show 0 < 18446744073709551616 by decide)
  omega
theorem xor_lt64 {a b : Nat} (ha : a < 18446744073709551616) (hb : b < 18446744073709551616) : a ^^^ b < 18446744073709551616 :=
  Nat.xor_lt_two_pow (n := 64) ha hb
theorem undo_mul (x : Nat) (hx : x < 18446744073709551616) : (x * 1099511628211 % 18446744073709551616) * 14886173955864302971 % 18446744073709551616 = x := by
  rw [Nat.mod_mul_mod, Nat.mul_assoc, show 1099511628211 * 14886173955864302971 = 18446744073709551616 * 887285111055 + 1 from by decide]
  rw [Nat.mul_add, Nat.mul_one, Nat.mul_left_comm, Nat.mul_add_mod]
  exact Nat.mod_eq_of_lt hx
theorem fsum_in {s : Int} (hs : InU s) (l : List Int) : InU (fsum s l) := by
  unfold fsum
  induction l generalizing s with
  | nil => exact hs
  | cons c l ih => exact ih (fstep_in s c)
theorem fsum_append (s : Int) (l r : List Int) : fsum s (l ++ r) = fsum (fsum s l) r := by simp [fsum]
theorem fsum_snoc (s : Int) (l : List Int) (c : Int) : fsum s (l ++ [c]) = fstep (fsum s l) c := by simp [fsum]
theorem fstep_inj {t x y : Int} (ht : InU t) (hx : InU x) (hy : InU y) (h : fstep t x = fstep t y) : x = y := by
  unfold InU at *
  unfold fstep at h
  have h1 : (t.toNat ^^^ x.toNat) * 1099511628211 % 18446744073709551616 = (t.toNat ^^^ y.toNat) * 1099511628211 % 18446744073709551616 := Int.ofNat.inj h
  have h2 := undo_mul (t.toNat ^^^ x.toNat) (xor_lt64 (by omega) (by omega))
  rw [h1, undo_mul (t.toNat ^^^ y.toNat) (xor_lt64 (by omega) (by omega))] at h2
  have h3 := congrArg (fun z => t.toNat ^^^ z) h2
  simp only [← Nat.xor_assoc, Nat.xor_self, Nat.zero_xor] at h3
  omega
end Go.Proofs.YtpchncpcckfghaaGreat
namespace Go.Proofs.YtpchncpcckfghaaGreat
open Go.RowKit
set_option linter.unusedVariables false
theorem fstep_walk {s c : Int} (hs : InU s) (hc : 0 ≤ c ∧ c ≤ 255) : IntKind.u64.wrap (bits .xor .u64 s c * 1099511628211) = fstep s c := by
  unfold InU at hs
  obtain ⟨a, rfl⟩ := Int.eq_ofNat_of_zero_le hs.1
  obtain ⟨b, rfl⟩ := Int.eq_ofNat_of_zero_le hc.1
  rw [bits_xor_u64_nat a b (by omega) (by omega), u64_wrap]
  unfold fstep
  rw [Int.toNat_natCast, Int.toNat_natCast, Int.natCast_emod, Int.natCast_mul]
  rfl
theorem getD_take_snoc {l : List Int} {k : Nat} (hk : k < l.length) : l.take (k + 1) = l.take k ++ [l.getD k 0] := by
  rw [List.take_succ_eq_append_getElem hk]; simp [List.getD, hk]
set_option maxHeartbeats 400000 in
theorem more_any (s : Int) (hs : InU s) (a : Option Addr) (l : List Int) (n cap : Nat) (hn : n = l.length) (B : Nat) (w : World) (hl : l.length ≤ maxLen) (hb : Bs l) (hc : Sees .u8 B w a l) :
    Calls Tryz.prog 68 #[.int .u64 s, .slice a n cap] w fun e w' => e = .returned (.int .u64 (fsum s l)) ∧ w = w' := by
  subst hn
  unfold maxLen at hl
  rcases hc with rfl | ⟨b, off, rfl, hB, hc⟩
  · go_enter Tryz.func68, Tryz.ntmps68
    go_wp2
    refine wp_loop_rounds 1 ?_
    rw [rounds_succ]
    go_wp2
    go_ret
    exact ⟨rfl, rfl⟩
  · go_enter Tryz.func68, Tryz.ntmps68
    go_wp2
    go_loop [0, 9] (fun x y => ∃ (k : Nat) (t : Int), k ≤ l.length ∧ Hid (t = fsum s (l.take k)) ∧ InU t ∧ x = .int .u64 t ∧ y = .int .i64 k) (fun _ y => l.length - (intOf y).toNat)
    case atStart => exact ⟨0, s, by omega, Lib.hid rfl, hs, rfl, rfl⟩
    case round =>
      obtain ⟨k, t, hk, ht, htu, rfl, rfl⟩ := hrel
      by_cases hlt : k < l.length
      · have hcell := hc k hlt
        have hr := hb.at hlt
        have hd := getD_take_snoc hlt
        generalize l.getD k 0 = c at *
        clear hc
        have e1 := fstep_walk htu hr
        have hfin : Hid (fstep t c = fsum s (l.take (k + 1))) := Lib.hid (by rw [hd, fsum_snoc, ← ht.out])
        clear hd
        go_wp2
        go_round
        case rel => exact ⟨k + 1, fstep t c, by omega, hfin, fstep_in _ _, rfl, by go_num⟩
        case measure => simp [intOf]; omega
      · have hfin : Hid (t = fsum s l) := Lib.hid (by rw [ht.out, List.take_of_length_le (by omega)])
        go_wp2
        go_ret
        exact ⟨by rw [← hfin.out]; rfl, rfl⟩
set_option maxHeartbeats 400000 in
theorem refmore_any (s : Int) (hs : InU s) (a : Option Addr) (l : List Int) (n cap : Nat) (hn : n = l.length) (B : Nat) (w : World) (hl : l.length ≤ maxLen) (hb : Bs l) (hc : Sees .u8 B w a l) :
    Calls Tryz.prog 91 #[.int .u64 s, .slice a n cap] w fun e w' => e = .returned (.int .u64 (fsum s l)) ∧ w = w' := by
  subst hn
  unfold maxLen at hl
  rcases hc with rfl | ⟨b, off, rfl, hB, hc⟩
  · go_enter Tryz.func91, Tryz.ntmps91
    go_wp2
    refine wp_loop_rounds 1 ?_
    rw [rounds_succ]
    go_wp2
    go_ret
    exact ⟨rfl, rfl⟩
  · go_enter Tryz.func91, Tryz.ntmps91
    go_wp2
    go_loop [0, 5] (fun x y => ∃ (k : Nat) (t : Int), k ≤ l.length ∧ Hid (t = fsum s (l.take k)) ∧ InU t ∧ x = .int .u64 t ∧ y = .int .i64 k) (fun _ y => l.length - (intOf y).toNat)
    case atStart => exact ⟨0, s, by omega, Lib.hid rfl, hs, rfl, rfl⟩
    case round =>
      obtain ⟨k, t, hk, ht, htu, rfl, rfl⟩ := hrel
      by_cases hlt : k < l.length
      · have hcell := hc k hlt
        have hr := hb.at hlt
        have hd := getD_take_snoc hlt
        generalize l.getD k 0 = c at *
        clear hc
        have e1 := fstep_walk htu hr
        have hfin : Hid (fstep t c = fsum s (l.take (k + 1))) := Lib.hid (by rw [hd, fsum_snoc, ← ht.out])
        clear hd
        go_wp2
        go_round
        case rel => exact ⟨k + 1, fstep t c, by omega, hfin, fstep_in _ _, rfl, by go_num⟩
        case measure => simp [intOf]; omega
      · have hfin : Hid (t = fsum s l) := Lib.hid (by rw [ht.out, List.take_of_length_le (by omega)])
        go_wp2
        go_ret
        exact ⟨by rw [← hfin.out]; rfl, rfl⟩
def fstart : Int := 14695981039346656037
theorem fstart_in : InU fstart := by unfold InU fstart; omega
theorem sum_any (a : Option Addr) (l : List Int) (n cap : Nat) (hn : n = l.length) (B : Nat) (w : World) (hl : l.length ≤ maxLen) (hb : Bs l) (hc : Sees .u8 B w a l) :
    Calls Tryz.prog 69 #[.slice a n cap] w fun e w' => e = .returned (.int .u64 (fsum fstart l)) ∧ w = w' := by
  subst hn
  have hm := Lib.hid (more_any fstart fstart_in a l l.length cap rfl B w hl hb hc)
  go_enter Tryz.func69, Tryz.ntmps69
  go_wp2_with (go_at_call 68; refine hm.out.mono ?_; rintro e w' ⟨rfl, rfl⟩)
  go_ret
  exact ⟨rfl, rfl⟩
theorem refsum_any (a : Option Addr) (l : List Int) (n cap : Nat) (hn : n = l.length) (B : Nat) (w : World) (hl : l.length ≤ maxLen) (hb : Bs l) (hc : Sees .u8 B w a l) :
    Calls Tryz.prog 64 #[.slice a n cap] w fun e w' => e = .returned (.int .u64 (fsum fstart l)) ∧ w = w' := by
  subst hn
  have hm := Lib.hid (refmore_any fstart fstart_in a l l.length cap rfl B w hl hb hc)
  go_enter Tryz.func64, Tryz.ntmps64
  go_wp2_with (go_at_call 91; refine hm.out.mono ?_; rintro e w' ⟨rfl, rfl⟩)
  go_ret
  exact ⟨rfl, rfl⟩
end Go.Proofs.YtpchncpcckfghaaGreat
namespace Go.Proofs.YtpchncpcckfghaaGreat
set_option linter.unusedVariables false
set_option linter.unusedSimpArgs false
def keyA (a : AlD) : List Int := keyL a.kind a.fn (normS (codes a.expr))
def oneK (k : List Int) (r : Nat) : Int := fsum (fsum fstart k) (leb r)
def oneA (a : AlD) (r : Int) : Int := oneK (keyA a) (max r 0).toNat
def rankA (l : List AlD) (i : Nat) : Nat := rankL cmpA keyA l al0 i
def fingA (l : List AlD) : List Int := fingersL cmpA keyA oneK l al0
theorem fing_len (l : List AlD) : (fingA l).length = l.length := by simp [fingA, fingersL]
theorem fing_at (l : List AlD) {i : Nat} (hi : i < l.length) : (fingA l).getD i 0 = oneK (keyA (l.getD i al0)) (rankA l i) := by
  simp [fingA, fingersL, List.getD, hi, rankA]
theorem rank_le (l : List AlD) (i : Nat) : rankA l i ≤ l.length := by
  unfold rankA rankL
  have := List.countP_le_length (p := fun j => aheadB cmpA l al0 j i && decide (keyA (l.getD j al0) = keyA (l.getD i al0))) (l := List.range l.length)
  simpa using this
theorem one_app (k : List Int) (r : Nat) : fsum fstart (k ++ leb r) = oneK k r := by unfold oneK; rw [fsum_append]
theorem normS_bs {L : List Int} (h : Bs L) : Bs (normS L) := norm_bs (parts_bs _ (Nat.le_refl _) h) false
end Go.Proofs.YtpchncpcckfghaaGreat
namespace Go.Proofs.YtpchncpcckfghaaGreat
open Go.RowKit
set_option linter.unusedVariables false
set_option linter.unusedSimpArgs false
def firstN : List Int → Int
  | [] => 0
  | x :: r => thenC x (firstN r)
theorem firstN_skip : ∀ (l : List Int) (k : Nat), (∀ j, j < k → l.getD j 0 = 0) → k ≤ l.length → firstN l = firstN (l.drop k)
  | l, 0, _, _ => rfl
  | [], k + 1, _, h => by simp at h
  | x :: l, k + 1, h, hk => by
    have h0 := h 0 (by omega)
    simp at h0
    subst h0
    show thenC 0 (firstN l) = _
    unfold thenC
    rw [if_pos rfl]
    exact firstN_skip l k (fun j hj => by have := h (j + 1) (by omega); simpa using this) (by simpa using hk)
theorem firstN_at {l : List Int} {k : Nat} (h : ∀ j, j < k → l.getD j 0 = 0) (hk : k < l.length) (h0 : l.getD k 0 ≠ 0) : firstN l = l.getD k 0 := by
  rw [firstN_skip l k h (by omega), List.drop_eq_getElem_cons hk]
  have e : l.getD k 0 = l[k] := by simp [List.getD, hk]
  rw [e] at h0 ⊢
  show thenC l[k] _ = _
  unfold thenC
  rw [if_neg h0]
theorem firstN_none {l : List Int} (h : ∀ j, j < l.length → l.getD j 0 = 0) : firstN l = 0 := by
  rw [firstN_skip l l.length h (Nat.le_refl _), List.drop_length]
  rfl
def keysA (a b : AlD) : List Int := [cmpT a.file b.file, cmpZ a.line b.line, cmpT a.fn b.fn, cmpZ a.kind b.kind, cmpT a.expr b.expr, cmpZ a.sev b.sev]
theorem cmpA_first (a b : AlD) : cmpA a b = firstN (keysA a b) := by
  unfold cmpA keysA firstN firstN firstN firstN firstN firstN firstN
  have : thenC (cmpZ a.sev b.sev) 0 = cmpZ a.sev b.sev := by unfold thenC; split <;> simp_all
  rw [this]
set_option maxRecDepth 100000 in
set_option maxHeartbeats 4000000 in
theorem acmp_any (a b : AlD) (w : World) : Calls Tryz.prog 67 #[.agg #[.int .i64 a.kind, .int .i64 a.sev, .string a.fn, .string a.file, .int .i64 a.line, .string a.expr], .agg #[.int .i64 b.kind, .int .i64 b.sev, .string b.fn, .string b.file, .int .i64 b.line, .string b.expr]] w (Gives (.int .i64 (cmpA a b)) w) := by
  rw [cmpA_first]
  obtain ⟨u0, hu0⟩ : ∃ u0, u0 = (w.alloc (.cells #[.int .i64 a.kind, .int .i64 a.sev, .string a.fn, .string a.file, .int .i64 a.line, .string a.expr] 54)).alloc (.cells #[.int .i64 b.kind, .int .i64 b.sev, .string b.fn, .string b.file, .int .i64 b.line, .string b.expr] 54) := ⟨_, rfl⟩
  have b0 : Hid (Below w.heap.size w u0) := Lib.hid (by rw [hu0]; exact box2_below _ _ _ _ _)
  have Z0 : Hid (Holds u0 w.heap.size 54 #[.int .i64 a.kind, .int .i64 a.sev, .string a.fn, .string a.file, .int .i64 a.line, .string a.expr]) := Lib.hid (by rw [hu0]; exact (Holds.new w _ _).alloc _)
  have Z1 : Hid (Holds u0 (w.heap.size + 1) 54 #[.int .i64 b.kind, .int .i64 b.sev, .string b.fn, .string b.file, .int .i64 b.line, .string b.expr]) := Lib.hid (by rw [hu0]; have q := Holds.new (w.alloc (.cells #[.int .i64 a.kind, .int .i64 a.sev, .string a.fn, .string a.file, .int .i64 a.line, .string a.expr] 54)) 54 #[.int .i64 b.kind, .int .i64 b.sev, .string b.fn, .string b.file, .int .i64 b.line, .string b.expr]; simpa using q)
  have hu0' := Lib.hid hu0
  clear hu0
  have hkl : (keysA a b).length = 6 := rfl
  obtain ⟨kl, hke⟩ : ∃ kl, kl = keysA a b := ⟨_, rfl⟩
  rw [← hke] at hkl ⊢
  have q1 := Lib.hid (fun W => asign_any a.file b.file W)
  have q2 := Lib.hid (fun W => anumber_any a.line b.line W)
  have q3 := Lib.hid (fun W => asign_any a.fn b.fn W)
  have q4 := Lib.hid (fun W => anumber_any a.kind b.kind W)
  have q5 := Lib.hid (fun W => asign_any a.expr b.expr W)
  have q6 := Lib.hid (fun W => anumber_any a.sev b.sev W)
  unfold keysA at hke
  generalize cmpT a.file b.file = k1 at *
  generalize cmpZ a.line b.line = k2 at *
  generalize cmpT a.fn b.fn = k3 at *
  generalize cmpZ a.kind b.kind = k4 at *
  generalize cmpT a.expr b.expr = k5 at *
  generalize cmpZ a.sev b.sev = k6 at *
  obtain ⟨ak, asv, af, afi, al, ax⟩ := a
  obtain ⟨bk, bsv, bf, bfi, bl, bx⟩ := b
  dsimp only at *
  have y0 : ∀ W, Below u0.heap.size u0 W → W.cell? ⟨w.heap.size, 0, none⟩ = some (.int .i64 ak) := fun W hW => (Z0.out.below hW Z0.out.lt).cell 0
  have y1 : ∀ W, Below u0.heap.size u0 W → W.cell? ⟨w.heap.size, 1, none⟩ = some (.int .i64 asv) := fun W hW => (Z0.out.below hW Z0.out.lt).cell 1
  have y2 : ∀ W, Below u0.heap.size u0 W → W.cell? ⟨w.heap.size, 2, none⟩ = some (.string af) := fun W hW => (Z0.out.below hW Z0.out.lt).cell 2
  have y3 : ∀ W, Below u0.heap.size u0 W → W.cell? ⟨w.heap.size, 3, none⟩ = some (.string afi) := fun W hW => (Z0.out.below hW Z0.out.lt).cell 3
  have y4 : ∀ W, Below u0.heap.size u0 W → W.cell? ⟨w.heap.size, 4, none⟩ = some (.int .i64 al) := fun W hW => (Z0.out.below hW Z0.out.lt).cell 4
  have y5 : ∀ W, Below u0.heap.size u0 W → W.cell? ⟨w.heap.size, 5, none⟩ = some (.string ax) := fun W hW => (Z0.out.below hW Z0.out.lt).cell 5
  have z0 : ∀ W, Below u0.heap.size u0 W → W.cell? ⟨w.heap.size + 1, 0, none⟩ = some (.int .i64 bk) := fun W hW => (Z1.out.below hW Z1.out.lt).cell 0
  have z1 : ∀ W, Below u0.heap.size u0 W → W.cell? ⟨w.heap.size + 1, 1, none⟩ = some (.int .i64 bsv) := fun W hW => (Z1.out.below hW Z1.out.lt).cell 1
  have z2 : ∀ W, Below u0.heap.size u0 W → W.cell? ⟨w.heap.size + 1, 2, none⟩ = some (.string bf) := fun W hW => (Z1.out.below hW Z1.out.lt).cell 2
  have z3 : ∀ W, Below u0.heap.size u0 W → W.cell? ⟨w.heap.size + 1, 3, none⟩ = some (.string bfi) := fun W hW => (Z1.out.below hW Z1.out.lt).cell 3
  have z4 : ∀ W, Below u0.heap.size u0 W → W.cell? ⟨w.heap.size + 1, 4, none⟩ = some (.int .i64 bl) := fun W hW => (Z1.out.below hW Z1.out.lt).cell 4
  have z5 : ∀ W, Below u0.heap.size u0 W → W.cell? ⟨w.heap.size + 1, 5, none⟩ = some (.string bx) := fun W hW => (Z1.out.below hW Z1.out.lt).cell 5
  go_enter Tryz.func67, Tryz.ntmps67
  go_wp2
  rw [← hu0'.out]
  clear hu0'
  refine wp_drawn_on (fun W => Below u0.heap.size u0 W) (by kernel_rfl) ((Below.refl _ _).drew) (fun hHeld => ?_)
  refine wT 0 (v := ?v1) rfl (by kernel_rfl) (fun _ _ _ h => h) ?h1 (by assumption) ?r1
  case h1 => (intro w hSw; (try dsimp only at hSw); go_simp; try with_reducible rfl)
  refine wT 1 (v := ?v2) rfl (by kernel_rfl) (fun _ _ _ h => h) ?h2 (by assumption) ?r2
  case h2 => (intro w hSw; (try dsimp only at hSw); go_simp; try with_reducible rfl)
  refine wT 2 (v := ?v3) rfl (by kernel_rfl) (fun _ _ _ h => h) ?h3 (by assumption) ?r3
  case h3 => (intro w hSw; (try dsimp only at hSw); go_simp; try with_reducible rfl)
  refine wT 3 (v := ?v4) rfl (by kernel_rfl) (fun _ _ _ h => h) ?h4 (by assumption) ?r4
  case h4 => (intro w hSw; (try dsimp only at hSw); go_simp; try with_reducible rfl)
  refine wT 5 (v := ?v5) rfl (by kernel_rfl) (fun _ _ _ h => h) ?h5 (by assumption) ?r5
  case h5 => (intro w hSw; (try dsimp only at hSw); go_simp; try with_reducible rfl)
  refine wT 6 (v := ?v6) rfl (by kernel_rfl) (fun _ _ _ h => h) ?h6 (by assumption) ?r6
  case h6 => (intro w hSw; (try dsimp only at hSw); go_simp; try with_reducible rfl)
  refine wT 7 (v := ?v7) rfl (by kernel_rfl) (fun _ _ _ h => h) ?h7 (by assumption) ?r7
  case h7 => (intro w hSw; (try dsimp only at hSw); go_simp; try with_reducible rfl)
  refine wT 8 (v := ?v8) rfl (by kernel_rfl) (fun _ _ _ h => h) ?h8 (by assumption) ?r8
  case h8 => (intro w hSw; (try dsimp only at hSw); go_simp; try with_reducible rfl)
  refine wT 10 (v := ?v9) rfl (by kernel_rfl) (fun _ _ _ h => h) ?h9 (by assumption) ?r9
  case h9 => (intro w hSw; (try dsimp only at hSw); go_simp; try with_reducible rfl)
  refine wT 11 (v := ?v10) rfl (by kernel_rfl) (fun _ _ _ h => h) ?h10 (by assumption) ?r10
  case h10 => (intro w hSw; (try dsimp only at hSw); go_simp; try with_reducible rfl)
  refine wT 12 (v := ?v11) rfl (by kernel_rfl) (fun _ _ _ h => h) ?h11 (by assumption) ?r11
  case h11 => (intro w hSw; (try dsimp only at hSw); go_simp; try with_reducible rfl)
  refine wT 13 (v := ?v12) rfl (by kernel_rfl) (fun _ _ _ h => h) ?h12 (by assumption) ?r12
  case h12 => (intro w hSw; (try dsimp only at hSw); go_simp; try with_reducible rfl)
  refine wT 15 (v := ?v13) rfl (by kernel_rfl) (fun _ _ _ h => h) ?h13 (by assumption) ?r13
  case h13 => (intro w hSw; (try dsimp only at hSw); go_simp; try with_reducible rfl)
  refine wT 16 (v := ?v14) rfl (by kernel_rfl) (fun _ _ _ h => h) ?h14 (by assumption) ?r14
  case h14 => (intro w hSw; (try dsimp only at hSw); go_simp; try with_reducible rfl)
  refine wT 17 (v := ?v15) rfl (by kernel_rfl) (fun _ _ _ h => h) ?h15 (by assumption) ?r15
  case h15 => (intro w hSw; (try dsimp only at hSw); go_simp; try with_reducible rfl)
  refine wT 18 (v := ?v16) rfl (by kernel_rfl) (fun _ _ _ h => h) ?h16 (by assumption) ?r16
  case h16 => (intro w hSw; (try dsimp only at hSw); go_simp; try with_reducible rfl)
  refine wT 20 (v := ?v17) rfl (by kernel_rfl) (fun _ _ _ h => h) ?h17 (by assumption) ?r17
  case h17 => (intro w hSw; (try dsimp only at hSw); go_simp; try with_reducible rfl)
  refine wT 21 (v := ?v18) rfl (by kernel_rfl) (fun _ _ _ h => h) ?h18 (by assumption) ?r18
  case h18 => (intro w hSw; (try dsimp only at hSw); go_simp; try with_reducible rfl)
  refine wT 22 (v := ?v19) rfl (by kernel_rfl) (fun _ _ _ h => h) ?h19 (by assumption) ?r19
  case h19 => (intro w hSw; (try dsimp only at hSw); go_simp; try with_reducible rfl)
  refine wT 23 (v := ?v20) rfl (by kernel_rfl) (fun _ _ _ h => h) ?h20 (by assumption) ?r20
  case h20 => (intro w hSw; (try dsimp only at hSw); go_simp; try with_reducible rfl)
  refine wT 25 (v := ?v21) rfl (by kernel_rfl) (fun _ _ _ h => h) ?h21 (by assumption) ?r21
  case h21 => (intro w hSw; (try dsimp only at hSw); go_simp; try with_reducible rfl)
  refine wT 26 (v := ?v22) rfl (by kernel_rfl) (fun _ _ _ h => h) ?h22 (by assumption) ?r22
  case h22 => (intro w hSw; (try dsimp only at hSw); go_simp; try with_reducible rfl)
  refine wT 27 (v := ?v23) rfl (by kernel_rfl) (fun _ _ _ h => h) ?h23 (by assumption) ?r23
  case h23 => (intro w hSw; (try dsimp only at hSw); go_simp; try with_reducible rfl)
  refine wT 28 (v := ?v24) rfl (by kernel_rfl) (fun _ _ _ h => h) ?h24 (by assumption) ?r24
  case h24 => (intro w hSw; (try dsimp only at hSw); go_simp; try with_reducible rfl)
  try simp only [Act.put, List.setIfInBounds_toArray, List.set_cons_zero, List.set_cons_succ]
  refine wpAnyH_ready (rs := [4]) (by kernel_rfl) (by simp) ?_
  refine AllReadyH.cons (o := ⟨_, _, _, _, _, _⟩) rfl (fun K hK => ?_) AllReadyH.nil
  go_simp
  with_reducible refine (q1.out _).mono ?_
  rintro e x0 ⟨rfl, rfl⟩
  go_simp
  refine hK.out _ _ (hHeld) (fun hHeld => ?_)
  clear hK K
  try simp only [Act.put, List.setIfInBounds_toArray, List.set_cons_zero, List.set_cons_succ]
  refine wpAnyH_ready (rs := [9]) (by kernel_rfl) (by simp) ?_
  refine AllReadyH.cons (o := ⟨_, _, _, _, _, _⟩) rfl (fun K hK => ?_) AllReadyH.nil
  go_simp
  with_reducible refine (q2.out _).mono ?_
  rintro e x1 ⟨rfl, rfl⟩
  go_simp
  refine hK.out _ _ (hHeld) (fun hHeld => ?_)
  clear hK K
  try simp only [Act.put, List.setIfInBounds_toArray, List.set_cons_zero, List.set_cons_succ]
  refine wpAnyH_ready (rs := [14]) (by kernel_rfl) (by simp) ?_
  refine AllReadyH.cons (o := ⟨_, _, _, _, _, _⟩) rfl (fun K hK => ?_) AllReadyH.nil
  go_simp
  with_reducible refine (q3.out _).mono ?_
  rintro e x2 ⟨rfl, rfl⟩
  go_simp
  refine hK.out _ _ (hHeld) (fun hHeld => ?_)
  clear hK K
  try simp only [Act.put, List.setIfInBounds_toArray, List.set_cons_zero, List.set_cons_succ]
  refine wpAnyH_ready (rs := [19]) (by kernel_rfl) (by simp) ?_
  refine AllReadyH.cons (o := ⟨_, _, _, _, _, _⟩) rfl (fun K hK => ?_) AllReadyH.nil
  go_simp
  with_reducible refine (q4.out _).mono ?_
  rintro e x3 ⟨rfl, rfl⟩
  go_simp
  refine hK.out _ _ (hHeld) (fun hHeld => ?_)
  clear hK K
  try simp only [Act.put, List.setIfInBounds_toArray, List.set_cons_zero, List.set_cons_succ]
  refine wpAnyH_ready (rs := [24]) (by kernel_rfl) (by simp) ?_
  refine AllReadyH.cons (o := ⟨_, _, _, _, _, _⟩) rfl (fun K hK => ?_) AllReadyH.nil
  go_simp
  with_reducible refine (q5.out _).mono ?_
  rintro e x4 ⟨rfl, rfl⟩
  go_simp
  refine hK.out _ _ (hHeld) (fun hHeld => ?_)
  clear hK K
  try simp only [Act.put, List.setIfInBounds_toArray, List.set_cons_zero, List.set_cons_succ]
  refine wpAnyH_ready (rs := [29]) (by kernel_rfl) (by simp) ?_
  refine AllReadyH.cons (o := ⟨_, _, _, _, _, _⟩) rfl (fun K hK => ?_) AllReadyH.nil
  go_simp
  with_reducible refine (q6.out _).mono ?_
  rintro e x5 ⟨rfl, rfl⟩
  go_simp
  refine hK.out _ _ (hHeld) (fun hHeld => ?_)
  clear hK K
  try simp only [Act.put, List.setIfInBounds_toArray, List.set_cons_zero, List.set_cons_succ]
  refine wpAnyH_ready (rs := [30]) (by kernel_rfl) (by simp) ?_
  refine AllReadyH.cons (o := ⟨_, _, _, _, _, _⟩) rfl (fun K hK => ?_) AllReadyH.nil
  go_simp
  obtain ⟨v30, hv30⟩ : ∃ v30, v30 = (u0.alloc (.cells #[.int .i64 k1, .int .i64 k2, .int .i64 k3, .int .i64 k4, .int .i64 k5, .int .i64 k6] 3)).drew := ⟨_, rfl⟩
  have hx30 : Below u0.heap.size u0 v30 := (by rw [hv30]; exact (box_below _ _ _).drew)
  have hr : ∀ i, i < kl.length → v30.cell? ⟨u0.heap.size, i, none⟩ = some (.int .i64 (kl.getD i 0)) := (by intro i hi; rw [hv30, hke]; rw [hkl] at hi; have q := (Holds.new u0 3 #[.int .i64 k1, .int .i64 k2, .int .i64 k3, .int .i64 k4, .int .i64 k5, .int .i64 k6]).drew.cell i; rw [q]; rcases (show i = 0 ∨ i = 1 ∨ i = 2 ∨ i = 3 ∨ i = 4 ∨ i = 5 by omega) with rfl | rfl | rfl | rfl | rfl | rfl <;> rfl)
  rw [← hv30]
  have hlt : u0.heap.size < v30.heap.size := (by rw [hv30]; simp)
  clear hv30
  refine hK.out _ _ (hx30) (fun hHeld => ?_)
  clear hK K
  refine wT 31 (v := ?v25) rfl (by kernel_rfl) (fun _ _ _ h => h) ?h25 (by assumption) ?r25
  case h25 => (intro w hSw; (try dsimp only at hSw); go_simp; try with_reducible rfl)
  try simp only [Act.put, List.setIfInBounds_toArray, List.set_cons_zero, List.set_cons_succ]
  refine wpAnyH_done (by kernel_rfl) ?_ _
  have hx := Lib.hid hHeld
  have hr' := Lib.hid hr
  have hk6 : kl.length ≤ 6 := by omega
  clear hHeld hr y0 y1 y2 y3 y4 y5 z0 z1 z2 z3 z4 z5 q1 q2 q3 q4 q5 q6 hke Z0 Z1
  have hsz := b0.out.size
  go_wp2
  go_loop [6] (fun x => ∃ i : Nat, i ≤ 6 ∧ x = .int .i64 i ∧ Hid (∀ j, j < i → kl.getD j 0 = 0)) (fun x => 6 - (intOf x).toNat)
  case atStart => exact ⟨0, by omega, rfl, Lib.hid (fun j hj => by omega)⟩
  case round =>
    obtain ⟨i, hi, rfl, hz⟩ := hrel
    by_cases hlt6 : i < 6
    · have hii : (i : Int) < 6 := by omega
      have hc := hr'.out i (by omega)
      have hat := Lib.hid (fun h0 => firstN_at hz.out (show i < kl.length by omega) h0)
      have hnext : Hid (kl.getD i 0 = 0 → ∀ j, j < i + 1 → kl.getD j 0 = 0) := Lib.hid (fun h j hj => by
        by_cases e : j = i
        · rw [e]; exact h
        · exact hz.out j (by omega))
      generalize kl.getD i 0 = v at hc hat hnext
      by_cases h0 : v = 0
      · have hn := Lib.hid (hnext.out h0)
        subst h0
        clear hat
        go_wp2
        go_round
        case rel => exact ⟨i + 1, by omega, by go_num, hn⟩
        case measure => simp [intOf]; omega
      · have h0' : (v == 0) = false := by rw [beq_eq_false_iff_ne]; exact h0
        have hv := Lib.hid (hat.out h0)
        clear hat hnext
        go_wp2
        go_ret
        exact ⟨by rw [hv.out]; rfl, b0.out.trans (hx.out.mono b0.out.size)⟩
    · have hii : ¬ (i : Int) < 6 := by omega
      have hv := Lib.hid (firstN_none (l := kl) (fun j hj => hz.out j (by omega)))
      go_wp2
      go_ret
      exact ⟨by rw [hv.out]; rfl, b0.out.trans (hx.out.mono b0.out.size)⟩
end Go.Proofs.YtpchncpcckfghaaGreat
namespace Go.Proofs.YtpchncpcckfghaaGreat
open Go.RowKit
set_option linter.unusedVariables false
set_option linter.unusedSimpArgs false
theorem snan_any (x : ByteArray) (w : World) : Calls Tryz.prog 143 #[.string x] w fun e w' => e = .returned (.bool false) ∧ w = w' := by
  have n1 : (x.toList == x.toList) = true := by simp
  go_enter Tryz.func143, Tryz.ntmps143
  go_wp2
  go_ret
  exact ⟨rfl, rfl⟩
theorem inan_any (x : Int) (w : World) : Calls Tryz.prog 105 #[.int .i64 x] w fun e w' => e = .returned (.bool false) ∧ w = w' := by
  go_enter Tryz.func105, Tryz.ntmps105
  go_wp2
  go_ret
  exact ⟨rfl, rfl⟩
theorem scompare_any (a b : ByteArray) (w : World) : Calls Tryz.prog 130 #[.string a, .string b] w fun e w' => e = .returned (.int .i64 (cmpT a b)) ∧ w = w' := by
  have l1 := less_is a b
  have q := Lib.hid (fun x W => snan_any x W)
  unfold cmpT
  cases h1 : lt8 (byt a) (byt b) with
  | true =>
    rw [h1] at l1
    rw [if_pos rfl]
    go_enter Tryz.func130, Tryz.ntmps130
    go_wp2_with fail
    with_reducible refine (q.out _ _).mono ?_
    rintro e w1 ⟨rfl, rfl⟩
    go_wp2_with fail
    with_reducible refine (q.out _ _).mono ?_
    rintro e w2 ⟨rfl, rfl⟩
    go_wp2
    go_ret
    exact ⟨rfl, rfl⟩
  | false =>
    rw [h1] at l1
    rw [if_neg (by simp)]
    cases h2 : lt8 (byt b) (byt a) with
    | true =>
      rw [if_pos rfl]
      have n1 : (a.toList == b.toList) = false := by
        rw [beq_eq_false_iff_ne]
        intro e
        rw [ByteArray.toList_eq, ByteArray.toList_eq] at e
        have e' : byt a = byt b := e
        rw [e', lt8_irrefl] at h2
        cases h2
      clear h1 h2
      go_enter Tryz.func130, Tryz.ntmps130
      go_wp2_with fail
      with_reducible refine (q.out _ _).mono ?_
      rintro e w1 ⟨rfl, rfl⟩
      go_wp2_with fail
      with_reducible refine (q.out _ _).mono ?_
      rintro e w2 ⟨rfl, rfl⟩
      go_wp2
      go_ret
      exact ⟨rfl, rfl⟩
    | false =>
      rw [if_neg (by simp)]
      have e := byt_inj (lt8_tri h1 h2)
      subst e
      have n1 : (a.toList == a.toList) = true := by simp
      clear h1 h2
      go_enter Tryz.func130, Tryz.ntmps130
      go_wp2_with fail
      with_reducible refine (q.out _ _).mono ?_
      rintro e w1 ⟨rfl, rfl⟩
      go_wp2_with fail
      with_reducible refine (q.out _ _).mono ?_
      rintro e w2 ⟨rfl, rfl⟩
      go_wp2
      go_ret
      exact ⟨rfl, rfl⟩
theorem icompare_any (a b : Int) (w : World) : Calls Tryz.prog 78 #[.int .i64 a, .int .i64 b] w fun e w' => e = .returned (.int .i64 (cmpZ a b)) ∧ w = w' := by
  have q := Lib.hid (fun x W => inan_any x W)
  unfold cmpZ
  by_cases h1 : a < b
  · rw [if_pos h1]
    go_enter Tryz.func78, Tryz.ntmps78
    go_wp2_with fail
    with_reducible refine (q.out _ _).mono ?_
    rintro e w1 ⟨rfl, rfl⟩
    go_wp2_with fail
    with_reducible refine (q.out _ _).mono ?_
    rintro e w2 ⟨rfl, rfl⟩
    go_wp2
    go_ret
    exact ⟨rfl, rfl⟩
  · rw [if_neg h1]
    by_cases h2 : b < a
    · rw [if_pos h2]
      go_enter Tryz.func78, Tryz.ntmps78
      go_wp2_with fail
      with_reducible refine (q.out _ _).mono ?_
      rintro e w1 ⟨rfl, rfl⟩
      go_wp2_with fail
      with_reducible refine (q.out _ _).mono ?_
      rintro e w2 ⟨rfl, rfl⟩
      go_wp2
      go_ret
      exact ⟨rfl, rfl⟩
    · rw [if_neg h2]
      go_enter Tryz.func78, Tryz.ntmps78
      go_wp2_with fail
      with_reducible refine (q.out _ _).mono ?_
      rintro e w1 ⟨rfl, rfl⟩
      go_wp2_with fail
      with_reducible refine (q.out _ _).mono ?_
      rintro e w2 ⟨rfl, rfl⟩
      go_wp2
      go_ret
      exact ⟨rfl, rfl⟩
end Go.Proofs.YtpchncpcckfghaaGreat
namespace Go.Proofs.YtpchncpcckfghaaGreat
open Go.RowKit Go.Sort
set_option linter.unusedVariables false
def Grows (w w' : World) : Prop := ∃ (q : Nat) (os : Array Obj), w' = grow (w.drewN q) os
theorem Grows.refl (w : World) : Grows w w := ⟨0, #[], by rw [grow_empty]; rfl⟩
theorem Grows.drewN {w w' : World} (h : Grows w w') (n : Nat) : Grows w (w'.drewN n) := by
  obtain ⟨q, os, rfl⟩ := h
  refine ⟨q + n, os, ?_⟩
  show World.drewN (grow _ _) n = _
  unfold grow World.drewN
  simp [Nat.add_assoc]
theorem Grows.drew {w w' : World} (h : Grows w w') : Grows w w'.drew := h.drewN 1
theorem Grows.trans {a b c : World} (h : Grows a b) (k : Grows b c) : Grows a c := by
  obtain ⟨q, os, rfl⟩ := k
  obtain ⟨q', os', hw⟩ := h.drewN q
  rw [hw]
  exact ⟨q', os' ++ os, grow_grow _ _ _⟩
theorem Grows.alloc {a w : World} (h : Grows a w) (o : Obj) : Grows a (w.alloc o) := h.trans ⟨0, #[o], by rw [alloc_eq_grow]; rfl⟩
theorem Grows.below {w w' : World} (h : Grows w w') : Below w.heap.size w w' := by
  obtain ⟨q, os, rfl⟩ := h
  refine ⟨rfl, rfl, rfl, ?_, fun k hk => ?_⟩
  · rw [size_grow]; exact Nat.le_add_right _ _
  · exact heap_grow_old (w.drewN q) os hk
theorem Grows.size {w w' : World} (h : Grows w w') : w.heap.size ≤ w'.heap.size := h.below.size
def GivesG (v : Value) (w : World) (e : Ending) (w' : World) : Prop := e = .returned v ∧ Grows w w'
end Go.Proofs.YtpchncpcckfghaaGreat
namespace Go.Proofs.YtpchncpcckfghaaGreat
open Go.RowKit
set_option linter.unusedVariables false
set_option linter.unusedSimpArgs false
theorem acm0_any (a b : AlD) (w : World) : Calls Tryz.prog 129 #[.agg #[.int .i64 a.kind, .int .i64 a.sev, .string a.fn, .string a.file, .int .i64 a.line, .string a.expr], .agg #[.int .i64 b.kind, .int .i64 b.sev, .string b.fn, .string b.file, .int .i64 b.line, .string b.expr]] w (GivesG (.int .i64 (cmpT a.file b.file)) w) := by
  have b0 : Hid (Grows w ((w.alloc (.cells #[.int .i64 a.kind, .int .i64 a.sev, .string a.fn, .string a.file, .int .i64 a.line, .string a.expr] 54)).alloc (.cells #[.int .i64 b.kind, .int .i64 b.sev, .string b.fn, .string b.file, .int .i64 b.line, .string b.expr] 54))) := Lib.hid (((Grows.refl w).alloc _).alloc _)
  have q := Lib.hid (fun W => scompare_any a.file b.file W)
  go_enter Tryz.func129, Tryz.ntmps129
  go_wp2_with fail
  with_reducible refine (q.out _).mono ?_
  rintro e w1 ⟨rfl, rfl⟩
  go_wp2
  go_ret
  exact ⟨rfl, b0.out⟩
theorem acm1_any (a b : AlD) (w : World) : Calls Tryz.prog 131 #[.agg #[.int .i64 a.kind, .int .i64 a.sev, .string a.fn, .string a.file, .int .i64 a.line, .string a.expr], .agg #[.int .i64 b.kind, .int .i64 b.sev, .string b.fn, .string b.file, .int .i64 b.line, .string b.expr]] w (GivesG (.int .i64 (cmpZ a.line b.line)) w) := by
  have b0 : Hid (Grows w ((w.alloc (.cells #[.int .i64 a.kind, .int .i64 a.sev, .string a.fn, .string a.file, .int .i64 a.line, .string a.expr] 54)).alloc (.cells #[.int .i64 b.kind, .int .i64 b.sev, .string b.fn, .string b.file, .int .i64 b.line, .string b.expr] 54))) := Lib.hid (((Grows.refl w).alloc _).alloc _)
  have q := Lib.hid (fun W => icompare_any a.line b.line W)
  go_enter Tryz.func131, Tryz.ntmps131
  go_wp2_with fail
  with_reducible refine (q.out _).mono ?_
  rintro e w1 ⟨rfl, rfl⟩
  go_wp2
  go_ret
  exact ⟨rfl, b0.out⟩
theorem acm2_any (a b : AlD) (w : World) : Calls Tryz.prog 132 #[.agg #[.int .i64 a.kind, .int .i64 a.sev, .string a.fn, .string a.file, .int .i64 a.line, .string a.expr], .agg #[.int .i64 b.kind, .int .i64 b.sev, .string b.fn, .string b.file, .int .i64 b.line, .string b.expr]] w (GivesG (.int .i64 (cmpT a.fn b.fn)) w) := by
  have b0 : Hid (Grows w ((w.alloc (.cells #[.int .i64 a.kind, .int .i64 a.sev, .string a.fn, .string a.file, .int .i64 a.line, .string a.expr] 54)).alloc (.cells #[.int .i64 b.kind, .int .i64 b.sev, .string b.fn, .string b.file, .int .i64 b.line, .string b.expr] 54))) := Lib.hid (((Grows.refl w).alloc _).alloc _)
  have q := Lib.hid (fun W => scompare_any a.fn b.fn W)
  go_enter Tryz.func132, Tryz.ntmps132
  go_wp2_with fail
  with_reducible refine (q.out _).mono ?_
  rintro e w1 ⟨rfl, rfl⟩
  go_wp2
  go_ret
  exact ⟨rfl, b0.out⟩
theorem acm3_any (a b : AlD) (w : World) : Calls Tryz.prog 133 #[.agg #[.int .i64 a.kind, .int .i64 a.sev, .string a.fn, .string a.file, .int .i64 a.line, .string a.expr], .agg #[.int .i64 b.kind, .int .i64 b.sev, .string b.fn, .string b.file, .int .i64 b.line, .string b.expr]] w (GivesG (.int .i64 (cmpZ a.kind b.kind)) w) := by
  have b0 : Hid (Grows w ((w.alloc (.cells #[.int .i64 a.kind, .int .i64 a.sev, .string a.fn, .string a.file, .int .i64 a.line, .string a.expr] 54)).alloc (.cells #[.int .i64 b.kind, .int .i64 b.sev, .string b.fn, .string b.file, .int .i64 b.line, .string b.expr] 54))) := Lib.hid (((Grows.refl w).alloc _).alloc _)
  have q := Lib.hid (fun W => icompare_any a.kind b.kind W)
  go_enter Tryz.func133, Tryz.ntmps133
  go_wp2_with fail
  with_reducible refine (q.out _).mono ?_
  rintro e w1 ⟨rfl, rfl⟩
  go_wp2
  go_ret
  exact ⟨rfl, b0.out⟩
theorem acm4_any (a b : AlD) (w : World) : Calls Tryz.prog 134 #[.agg #[.int .i64 a.kind, .int .i64 a.sev, .string a.fn, .string a.file, .int .i64 a.line, .string a.expr], .agg #[.int .i64 b.kind, .int .i64 b.sev, .string b.fn, .string b.file, .int .i64 b.line, .string b.expr]] w (GivesG (.int .i64 (cmpT a.expr b.expr)) w) := by
  have b0 : Hid (Grows w ((w.alloc (.cells #[.int .i64 a.kind, .int .i64 a.sev, .string a.fn, .string a.file, .int .i64 a.line, .string a.expr] 54)).alloc (.cells #[.int .i64 b.kind, .int .i64 b.sev, .string b.fn, .string b.file, .int .i64 b.line, .string b.expr] 54))) := Lib.hid (((Grows.refl w).alloc _).alloc _)
  have q := Lib.hid (fun W => scompare_any a.expr b.expr W)
  go_enter Tryz.func134, Tryz.ntmps134
  go_wp2_with fail
  with_reducible refine (q.out _).mono ?_
  rintro e w1 ⟨rfl, rfl⟩
  go_wp2
  go_ret
  exact ⟨rfl, b0.out⟩
theorem acm5_any (a b : AlD) (w : World) : Calls Tryz.prog 135 #[.agg #[.int .i64 a.kind, .int .i64 a.sev, .string a.fn, .string a.file, .int .i64 a.line, .string a.expr], .agg #[.int .i64 b.kind, .int .i64 b.sev, .string b.fn, .string b.file, .int .i64 b.line, .string b.expr]] w (GivesG (.int .i64 (cmpZ a.sev b.sev)) w) := by
  have b0 : Hid (Grows w ((w.alloc (.cells #[.int .i64 a.kind, .int .i64 a.sev, .string a.fn, .string a.file, .int .i64 a.line, .string a.expr] 54)).alloc (.cells #[.int .i64 b.kind, .int .i64 b.sev, .string b.fn, .string b.file, .int .i64 b.line, .string b.expr] 54))) := Lib.hid (((Grows.refl w).alloc _).alloc _)
  have q := Lib.hid (fun W => icompare_any a.sev b.sev W)
  go_enter Tryz.func135, Tryz.ntmps135
  go_wp2_with fail
  with_reducible refine (q.out _).mono ?_
  rintro e w1 ⟨rfl, rfl⟩
  go_wp2
  go_ret
  exact ⟨rfl, b0.out⟩
def cmpFs : List Nat := [129, 131, 132, 133, 134, 135]
theorem acm_any (a b : AlD) (i : Nat) (hi : i < 6) (w : World) : Calls Tryz.prog (cmpFs.getD i 0) #[.agg #[.int .i64 a.kind, .int .i64 a.sev, .string a.fn, .string a.file, .int .i64 a.line, .string a.expr], .agg #[.int .i64 b.kind, .int .i64 b.sev, .string b.fn, .string b.file, .int .i64 b.line, .string b.expr]] w (GivesG (.int .i64 ((keysA a b).getD i 0)) w) := by
  rcases (show i = 0 ∨ i = 1 ∨ i = 2 ∨ i = 3 ∨ i = 4 ∨ i = 5 by omega) with rfl | rfl | rfl | rfl | rfl | rfl
  · exact acm0_any a b w
  · exact acm1_any a b w
  · exact acm2_any a b w
  · exact acm3_any a b w
  · exact acm4_any a b w
  · exact acm5_any a b w
theorem acmpd_any (w : World) : Calls Tryz.prog 104 #[] w fun e w' => e = .returned (.slice (some ⟨w.heap.size, 0, none⟩) 6 6) ∧ w' = w.alloc (.cells #[.func (.func 129) #[] #[], .func (.func 131) #[] #[], .func (.func 132) #[] #[], .func (.func 133) #[] #[], .func (.func 134) #[] #[], .func (.func 135) #[] #[]] 97) := by
  go_enter Tryz.func104, Tryz.ntmps104
  go_wp2
  go_ret
  exact ⟨rfl, rfl⟩
set_option maxRecDepth 100000 in
set_option maxHeartbeats 4000000 in
theorem acmpg_any (a b : AlD) (w : World) : Calls Tryz.prog 77 #[.agg #[.int .i64 a.kind, .int .i64 a.sev, .string a.fn, .string a.file, .int .i64 a.line, .string a.expr], .agg #[.int .i64 b.kind, .int .i64 b.sev, .string b.fn, .string b.file, .int .i64 b.line, .string b.expr]] w (GivesG (.int .i64 (cmpA a b)) w) := by
  rw [cmpA_first]
  obtain ⟨u0, hu0⟩ : ∃ u0, u0 = (w.alloc (.cells #[.int .i64 a.kind, .int .i64 a.sev, .string a.fn, .string a.file, .int .i64 a.line, .string a.expr] 54)).alloc (.cells #[.int .i64 b.kind, .int .i64 b.sev, .string b.fn, .string b.file, .int .i64 b.line, .string b.expr] 54) := ⟨_, rfl⟩
  have b0 : Hid (Grows w u0) := Lib.hid (by rw [hu0]; exact ((Grows.refl w).alloc _).alloc _)
  have Z0 : Hid (Holds u0 w.heap.size 54 #[.int .i64 a.kind, .int .i64 a.sev, .string a.fn, .string a.file, .int .i64 a.line, .string a.expr]) := Lib.hid (by rw [hu0]; exact (Holds.new w _ _).alloc _)
  have Z1 : Hid (Holds u0 (w.heap.size + 1) 54 #[.int .i64 b.kind, .int .i64 b.sev, .string b.fn, .string b.file, .int .i64 b.line, .string b.expr]) := Lib.hid (by rw [hu0]; have q := Holds.new (w.alloc (.cells #[.int .i64 a.kind, .int .i64 a.sev, .string a.fn, .string a.file, .int .i64 a.line, .string a.expr] 54)) 54 #[.int .i64 b.kind, .int .i64 b.sev, .string b.fn, .string b.file, .int .i64 b.line, .string b.expr]; simpa using q)
  have hu0' := Lib.hid hu0
  clear hu0
  have qd := Lib.hid (fun W => acmpd_any W)
  have qc := Lib.hid (fun i hi W => acm_any a b i hi W)
  obtain ⟨kl, hke⟩ : ∃ kl, kl = keysA a b := ⟨_, rfl⟩
  have hkl : kl.length = 6 := by rw [hke]; rfl
  rw [← hke] at qc ⊢
  clear hke
  obtain ⟨ak, asv, af, afi, al, ax⟩ := a
  obtain ⟨bk, bsv, bf, bfi, bl, bx⟩ := b
  dsimp only at Z0 Z1 hu0' qc ⊢
  go_enter Tryz.func77, Tryz.ntmps77
  go_wp2_with fail
  rw [← hu0'.out]
  clear hu0'
  with_reducible refine (qd.out _).mono ?_
  rintro e v1 ⟨rfl, hv1⟩
  have c1 : ∀ i, i < 6 → v1.cell? ⟨u0.heap.size, i, none⟩ = some (.func (.func (cmpFs.getD i 0)) #[] #[]) := by
    intro i hi
    rw [hv1]
    have q := (Holds.new u0 97 #[.func (.func 129) #[] #[], .func (.func 131) #[] #[], .func (.func 132) #[] #[], .func (.func 133) #[] #[], .func (.func 134) #[] #[], .func (.func 135) #[] #[]]).cell i
    rw [q]
    rcases (show i = 0 ∨ i = 1 ∨ i = 2 ∨ i = 3 ∨ i = 4 ∨ i = 5 by omega) with rfl | rfl | rfl | rfl | rfl | rfl <;> rfl
  have b1 : Below u0.heap.size u0 v1 := by rw [hv1]; exact box_below _ _ _
  have b1g : Grows u0 v1 := by rw [hv1]; exact (Grows.refl u0).alloc _
  have g1 : u0.heap.size < v1.heap.size := by rw [hv1]; simp
  have C1 := Lib.hid c1
  have G1 := Lib.hid g1
  replace Z0 := Lib.hid (Z0.out.below b1 Z0.out.lt)
  replace Z1 := Lib.hid (Z1.out.below b1 Z1.out.lt)
  replace b0 := Lib.hid (b0.out.trans b1g)
  clear hv1 b1 b1g c1 g1 qd
  generalize u0.heap.size = g at *
  go_wp2
  go_loopw [10] (fun x wr => ∃ i : Nat, i ≤ 6 ∧ x = .int .i64 i ∧ Hid (∀ j, j < i → kl.getD j 0 = 0) ∧ Hid (Grows v1 wr)) (fun x _ => 6 - (intOf x).toNat)
  case atStart => exact ⟨0, by omega, rfl, Lib.hid (fun j hj => by omega), Lib.hid (Grows.refl _)⟩
  case round =>
    obtain ⟨i, hi, rfl, hz, hB⟩ := hrel
    by_cases hlt6 : i < 6
    · have hii : (i : Int) < 6 := by omega
      have hc := (hB.out.below.cell (p := ⟨g, i, none⟩) G1.out).trans (C1.out i hlt6)
      have hat := Lib.hid (fun h0 => firstN_at hz.out (show i < kl.length by omega) h0)
      have hnext : Hid (kl.getD i 0 = 0 → ∀ j, j < i + 1 → kl.getD j 0 = 0) := Lib.hid (fun h j hj => by
        by_cases e : j = i
        · rw [e]; exact h
        · exact hz.out j (by omega))
      have qi := Lib.hid (fun W => qc.out i hlt6 W)
      generalize kl.getD i 0 = v at qi hat hnext
      have hfs : cmpFs.getD i 0 = 129 ∨ cmpFs.getD i 0 = 131 ∨ cmpFs.getD i 0 = 132 ∨ cmpFs.getD i 0 = 133 ∨ cmpFs.getD i 0 = 134 ∨ cmpFs.getD i 0 = 135 := by
        rcases (show i = 0 ∨ i = 1 ∨ i = 2 ∨ i = 3 ∨ i = 4 ∨ i = 5 by omega) with rfl | rfl | rfl | rfl | rfl | rfl <;> simp [cmpFs]
      generalize cmpFs.getD i 0 = fi at hc qi hfs
      have x0 := (Z0.out.below hB.out.below Z0.out.lt).cell 0
      have x1 := (Z0.out.below hB.out.below Z0.out.lt).cell 1
      have x2 := (Z0.out.below hB.out.below Z0.out.lt).cell 2
      have x3 := (Z0.out.below hB.out.below Z0.out.lt).cell 3
      have x4 := (Z0.out.below hB.out.below Z0.out.lt).cell 4
      have x5 := (Z0.out.below hB.out.below Z0.out.lt).cell 5
      have y0 := (Z1.out.below hB.out.below Z1.out.lt).cell 0
      have y1 := (Z1.out.below hB.out.below Z1.out.lt).cell 1
      have y2 := (Z1.out.below hB.out.below Z1.out.lt).cell 2
      have y3 := (Z1.out.below hB.out.below Z1.out.lt).cell 3
      have y4 := (Z1.out.below hB.out.below Z1.out.lt).cell 4
      have y5 := (Z1.out.below hB.out.below Z1.out.lt).cell 5
      simp at x0 x1 x2 x3 x4 x5 y0 y1 y2 y3 y4 y5
      rcases hfs with rfl | rfl | rfl | rfl | rfl | rfl
      all_goals
        go_wp2_with fail
        with_reducible refine (qi.out _).mono ?_
        rintro e v2 ⟨rfl, b2⟩
        replace hB := Lib.hid (hB.out.trans b2)
        clear b2 x0 x1 x2 x3 x4 x5 y0 y1 y2 y3 y4 y5 hc qi
        by_cases h0 : v = 0
        · have hn := Lib.hid (hnext.out h0)
          subst h0
          clear hat
          go_wp2
          go_roundw
          case rel => exact ⟨i + 1, by omega, by go_num, hn, hB⟩
          case measure => simp [intOf]; omega
        · have h0' : (v == 0) = false := by rw [beq_eq_false_iff_ne]; exact h0
          have hv := Lib.hid (hat.out h0)
          clear hat hnext
          go_wp2
          go_ret
          exact ⟨by rw [hv.out]; rfl, b0.out.trans hB.out⟩
    · have hii : ¬ (i : Int) < 6 := by omega
      have hv := Lib.hid (firstN_none (l := kl) (fun j hj => hz.out j (by omega)))
      go_wp2
      go_ret
      exact ⟨by rw [hv.out]; rfl, b0.out.trans hB.out⟩
end Go.Proofs.YtpchncpcckfghaaGreat
