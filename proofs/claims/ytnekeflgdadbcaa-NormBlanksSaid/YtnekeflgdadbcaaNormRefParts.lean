/- The document's Parts. -/
import Derived.Test.YtnekeflgdadbcaaNormNorm
import Derived.Test.YtnekeflgdadbcaaDrawn
namespace Go.Proofs.Ytnekeflgdadbcaa
open Go.RowKit
set_option linter.unusedVariables false
set_option linter.unusedSimpArgs false

theorem good_len : ∀ (ps : List (List Int)) (last : Bool), (∀ p ∈ ps, Good p) → ps.length ≤ (normL last ps).length ∧ ∀ p ∈ ps, p.length ≤ (normL last ps).length := by
  intro ps
  induction ps with
  | nil => intro _ _; simp
  | cons p r ih =>
    intro last hg
    have h1 := ih (hw p) (fun x hx => hg x (by simp [hx]))
    have h2 : 0 < p.length := List.length_pos_iff.2 (hg p (by simp)).ne
    simp only [normL, List.length_append, List.length_cons]
    refine ⟨by omega, fun q hq => ?_⟩
    rcases List.mem_cons.1 hq with rfl | hq
    · omega
    · have := h1.2 q hq; omega
theorem parts_len (L : List Int) : (partsL L).length ≤ L.length := Nat.le_trans (good_len _ false (parts_good _ (Nat.le_refl _))).1 (normS_len L)
theorem part_len (L : List Int) : ∀ p ∈ partsL L, p.length ≤ L.length := fun p hp => Nat.le_trans ((good_len _ false (parts_good _ (Nat.le_refl _))).2 p hp) (normS_len L)
theorem map_dropLast_snoc (ls : List (List Int)) (x : List Int) : (ls.dropLast ++ [x]).map strOfNums = (ls.map strOfNums).dropLast ++ [strOfNums x] := by simp

theorem str_append' (a b : List Int) : strOfNums (a ++ b) = strOfNums a ++ strOfNums b := by
  apply ByteArray.ext
  apply Array.toList_inj.1
  simp [ByteArray.data_append, strOfNums_data]
set_option maxRecDepth 100000 in
set_option maxHeartbeats 4000000 in
theorem rparts_any (s : ByteArray) (hs : s.size ≤ 100000) (w : World) : Calls Try.prog 10 #[.string s] w (GivesT (partsL (codes s)) w) := by
  obtain ⟨i0, hi, hz0, hz1, hz2⟩ := info_parts infoStr
  have hL' := Lib.hid (codes_length s)
  have hbs' := Lib.hid (codes_bs s)
  have hsi : (s.size : Int) ≤ 100000 := by omega
  have hs' := Lib.hid hs
  clear hs
  go_enter Try.func10, Try.ntmps10
  go_wp2
  go_loopw [3, 4] (fun v i wr => ∃ k : Nat, k ≤ s.size ∧ i = .int .i64 k ∧ Hid (TRow wr w.heap.size v (partsL ((codes s).take k))) ∧ Hid (Below w.heap.size w wr)) (fun _ i _ => s.size - (intOf i).toNat)
  case atStart => exact ⟨0, by omega, rfl, Lib.hid (by simp [partsL_nil]; exact ⟨⟨rfl, .inl ⟨rfl, rfl⟩⟩, by simp [Value.ownBlock]⟩), Lib.hid (Below.refl _ _)⟩
  case round =>
    obtain ⟨k, hk, rfl, hrow, hB⟩ := hrel
    by_cases hlt : k < s.size
    · have gi := ix s k hlt
      have hkL : k < (codes s).length := by have := hL'.out; omega
      have hc := hbs'.out.at hkL
      have hcall := Lib.hid (fun W => dword_any ((codes s).getD k 0) hc.1 hc.2 W)
      have hsn : Hid (partsL ((codes s).take (k + 1)) = more1 (partsL ((codes s).take k)) (((codes s).take k).getLast?.getD 32) ((codes s).getD k 0)) := Lib.hid (by
        rw [← partsL_snoc _ _ _ (Nat.le_refl _), List.take_succ_eq_append_getElem hkL]
        simp [List.getD, hkL])
      have hpl : Hid ((partsL ((codes s).take k)).length ≤ 100000) := Lib.hid (by have := parts_len ((codes s).take k); simp at this; have := hs'.out; omega)
      have hpp : Hid (∀ p ∈ partsL ((codes s).take k), p.length ≤ 100000) := Lib.hid (fun p hp => by have := part_len ((codes s).take k) p hp; simp at this; have := hs'.out; omega)
      have hcut := cut_lh s k (k + 1) (by omega) (by omega)
      rw [show ((k + 1 : Nat) : Int) = (k : Int) + 1 by omega] at hcut
      have hone : ((codes s).take (k + 1)).drop k = [(codes s).getD k 0] := by
        rw [List.take_succ_eq_append_getElem hkL, List.drop_append_of_le_length (by simp; omega), List.drop_of_length_le (by simp; omega)]
        simp [List.getD, hkL]
      rw [hone] at hcut
      clear hone
      by_cases h32 : (codes s).getD k 0 = 32
      · have hsn' : Hid (partsL ((codes s).take (k + 1)) = partsL ((codes s).take k)) := Lib.hid (by rw [hsn.out, more1, if_pos h32])
        have he : ((codes s).getD k 0 == 32) = true := by simpa using h32
        clear hsn hcall hcut hpl hpp hc hkL
        rw [h32] at gi
        clear h32 he
        go_wp2
        go_roundw
        case rel => exact ⟨k + 1, by omega, by go_num, Lib.hid (by rw [hsn'.out]; exact hrow.out), hB⟩
        case measure => simp [intOf]; omega
      have hb32 : ((codes s).getD k 0 == 32) = false := by simpa using h32
      have hlast : Hid (0 < k → ((codes s).take k).getLast?.getD 32 = (codes s).getD (k - 1) 0) := Lib.hid (fun h0 => by
        have hk1 : k - 1 < (codes s).length := by omega
        have h1 : (codes s).take k = (codes s).take (k - 1) ++ [(codes s)[k - 1]] := by
          rw [← List.take_succ_eq_append_getElem hk1]; congr 1; omega
        rw [h1, List.getLast?_concat]; simp [List.getD, hk1])
      have hgp : Hid (0 < k → ∀ W, (Instr.index 9 (.string s) (.int .i64 ((k : Int) - 1))).run Try.prog W = .ok (.int .u8 ((codes s).getD (k - 1) 0)) W) := Lib.hid (fun h0 W => by
        have := ix s (k - 1) (by omega) W
        rw [show ((k - 1 : Nat) : Int) = (k : Int) - 1 by omega] at this
        exact this)
      have hcallp : Hid (0 < k → ∀ W, Calls Try.prog 20 #[.int .u8 ((codes s).getD (k - 1) 0)] W fun e w' => e = .returned (.bool (wdB ((codes s).getD (k - 1) 0))) ∧ Below W.heap.size W w') := Lib.hid (fun h0 W => by
        have hcp := hbs'.out.at (i := k - 1) (by omega)
        exact dword_any _ hcp.1 hcp.2 W)
      by_cases hwc : wdB ((codes s).getD k 0) = true
      · rw [hwc] at hcall
        by_cases h0 : 0 < k
        · have hgp' := hgp.out h0
          have hcallp' := Lib.hid (hcallp.out h0)
          have h0i : (0 : Int) < (k : Int) := by omega
          by_cases hwp : wdB ((codes s).getD (k - 1) 0) = true
          · have hne0 : partsL ((codes s).take k) ≠ [] := last_ne (by rw [hlast.out h0]; exact hwp)
            have hnew : Hid (partsL ((codes s).take (k + 1)) = (partsL ((codes s).take k)).dropLast ++ [(partsL ((codes s).take k)).getLast?.getD [] ++ [(codes s).getD k 0]]) := Lib.hid (by
              rw [hsn.out, more1, if_neg h32, if_pos ⟨hwc, by rw [hlast.out h0]; exact hwp⟩])
            rw [hwp] at hcallp'
            have hlp : Hid (((partsL ((codes s).take k)).getLast?.getD []).length ≤ 100000) := Lib.hid (by
              rw [List.getLast?_eq_some_getLast hne0]; exact hpp.out _ (List.getLast_mem hne0))
            have hlg : Hid ((partsL ((codes s).take k)).getD ((partsL ((codes s).take k)).length - 1) [] = (partsL ((codes s).take k)).getLast?.getD []) := Lib.hid (by
              rw [List.getLast?_eq_getElem?]; simp [List.getD])
            have hnz : 0 < (partsL ((codes s).take k)).length := List.length_pos_iff.2 hne0
            have hnl := hpl.out
            clear hgp hcallp hlast hsn hwc hwp h32 hpp hc hkL hpl
            generalize (codes s).getD (k - 1) 0 = cp at *
            generalize (codes s).getD k 0 = ch at *
            generalize partsL ((codes s).take k) = ps at *
            generalize ps.getLast?.getD [] = lp at *
            rcases hrow.out.1.2 with ⟨rfl, h0'⟩ | ⟨g, cap, cur, rfl, _, hgg, _, _, _, _⟩
            · simp at h0'; exact absurd h0' hne0
            clear hgg hne0
            go_wp2_with fail
            refine (hcall.out _).mono ?_
            rintro e W1 ⟨rfl, hB1⟩
            have hB1' := Lib.hid hB1
            clear hB1
            go_wp2_with fail
            refine (hcallp'.out _).mono ?_
            rintro e W2 ⟨rfl, hB2⟩
            have hrow2 := Lib.hid (own_below (own_below hrow.out.1 hB1'.out) hB2)
            have hB2' := Lib.hid ((hB.out.trans (hB1'.out.mono hB.out.size)).trans (hB2.mono (by have := hB.out.size; have := hB1'.out.size; omega)))
            have hown2 := hrow2.out
            have hgB := hrow.out.2 g rfl
            clear hB2 hrow hB hB1' hcall hcallp'
            obtain ⟨m, hm⟩ : ∃ m, ps.length = m + 1 := ⟨ps.length - 1, by omega⟩
            have hml : (List.map strOfNums ps).length = m + 1 := by simpa using hm
            have hcm : W2.cell? ⟨g, m, none⟩ = some (.string (strOfNums lp)) := by
              have := hown2.cells (g := g) rfl m (.string (strOfNums lp)) (by
                have hl := hlg.out
                rw [hm] at hl
                simp at hl
                simp [txts]
                exact ⟨lp, by rw [← hl]; simp [List.getD, hm], rfl⟩)
              have h2 : (⟨g, 0, none⟩ : Addr).add m = ⟨g, m, none⟩ := by unfold Addr.add; split <;> simp_all
              rw [h2] at this; exact this
            have hfz : W2.frozen? ⟨g, m, none⟩ = false := own_free hown2 m
            have hfin : Hid (TRow ((W2.setCell ⟨g, m, none⟩ (.string (strOfNums lp ++ strOfNums [ch]))).drew) w.heap.size (.slice (some ⟨g, 0, none⟩) (m + 1) cap) (partsL ((codes s).take (k + 1))) ∧ Below w.heap.size w ((W2.setCell ⟨g, m, none⟩ (.string (strOfNums lp ++ strOfNums [ch]))).drew)) := Lib.hid (by
              have h1 := own_set hown2 m (by rw [hml]; omega) (.string (strOfNums lp ++ strOfNums [ch]))
              have hx : txts (List.map strOfNums ps) ≠ [] := by intro e; have := congrArg List.length e; rw [txts_length, hml] at this; simp at this
              have h2 := set_last hx (.string (strOfNums lp ++ strOfNums [ch]))
              rw [show (txts (List.map strOfNums ps)).length - 1 = m by simp [txts]; omega] at h2
              rw [h2] at h1
              refine ⟨⟨?_, fun q hq => by simp [Value.ownBlock] at hq; omega⟩, (hB2'.out.setCell (p := ⟨g, m, none⟩) hgB _).drew⟩
              rw [hnew.out, map_dropLast_snoc, str_append']
              have h3 : txts ((List.map strOfNums ps).dropLast ++ [strOfNums lp ++ strOfNums [ch]]) = (txts (List.map strOfNums ps)).dropLast ++ [.string (strOfNums lp ++ strOfNums [ch])] := by simp [txts]
              have h4 : ((List.map strOfNums ps).dropLast ++ [strOfNums lp ++ strOfNums [ch]]).length = (List.map strOfNums ps).length := by simp; omega
              rw [h3, h4, ← hml]
              exact h1)
            have hbig : ¬ 9223372036854775807 < (strOfNums lp).size + (strOfNums [ch]).size := by
              have := hlp.out
              rw [strOfNums_size, strOfNums_size]; simp; omega
            have hm0 := Lib.hid hm
            clear hm hown2 hrow2 hlg hlp hnew hB2' hnz
            have hmi : (m : Int) ≤ 100000 := by have := hm0.out; omega
            simp only [List.length_map, hm0.out]
            clear hml hnl
            have hw1 : IntKind.i64.wrap ((m : Int) + 1 - 1) = (m : Int) := by simp [IntKind.wrap, IntKind.bits, IntKind.signed]; omega
            have hm1 : (m : Int) < (m : Int) + 1 := by omega
            have hw3 : IntKind.i64.wrap ((k : Int) + 1) = (k : Int) + 1 := by simp [IntKind.wrap, IntKind.bits, IntKind.signed]; omega
            have hw2 : IntKind.i64.wrap (m : Int) = (m : Int) := by simp [IntKind.wrap, IntKind.bits, IntKind.signed]; omega
            generalize strOfNums lp = f0 at *
            generalize strOfNums [ch] = g0 at *
            go_wp2
            refine wp_drawn_on (fun _ => True) (by kernel_rfl) (trivial) (fun hHeld => ?_)
            refine wpAnyH_take (i := 0) (oi := { dst := some 40, op := Go.Op.move (Go.Operand.tmp 3), type := 25, pos := "ref.go:19", after := #[], guard := none }) (v := ?v1) rfl (by kernel_rfl) (by kernel_rfl) (by kernel_rfl) (fun _ _ _ h => h) (Or.inl ⟨by kernel_rfl, ?h1⟩) (by assumption) ?r1
            case h1 => (intro w hSw; (try dsimp only at hSw); go_simp; try with_reducible rfl)
            try simp only [Act.put, List.setIfInBounds_toArray, List.set_cons_zero, List.set_cons_succ]
            refine wpAnyH_take (i := 1) (oi := { dst := some 41, op := Go.Op.move (Go.Operand.tmp 3), type := 25, pos := "ref.go:19", after := #[], guard := none }) (v := ?v2) rfl (by kernel_rfl) (by kernel_rfl) (by kernel_rfl) (fun _ _ _ h => h) (Or.inl ⟨by kernel_rfl, ?h2⟩) (by assumption) ?r2
            case h2 => (intro w hSw; (try dsimp only at hSw); go_simp; try with_reducible rfl)
            try simp only [Act.put, List.setIfInBounds_toArray, List.set_cons_zero, List.set_cons_succ]
            refine wpAnyH_take (i := 2) (oi := { dst := some 42, op := Go.Op.call { callee := Go.Callee.builtin Go.Builtin.len, args := #[Go.Operand.tmp 41], argTypes := #[25] }, type := 3, pos := "ref.go:19", after := #[{ on := 1, ground := Go.Ground.data }], guard := none }) (v := ?v3) rfl (by kernel_rfl) (by kernel_rfl) (by kernel_rfl) (fun _ _ _ h => h) (Or.inl ⟨by kernel_rfl, ?h3⟩) (by assumption) ?r3
            case h3 => (intro w hSw; (try dsimp only at hSw); go_simp; try with_reducible rfl)
            try simp only [Act.put, List.setIfInBounds_toArray, List.set_cons_zero, List.set_cons_succ]
            refine wpAnyH_take (i := 3) (oi := { dst := some 43, op := Go.Op.binOp Go.BinOp.sub 3 (Go.Operand.tmp 42) (Go.Operand.const (Go.Value.int Go.IntKind.i64 1)) 3, type := 3, pos := "ref.go:19", after := #[{ on := 2, ground := Go.Ground.data }], guard := none }) (v := ?v4) rfl (by kernel_rfl) (by kernel_rfl) (by kernel_rfl) (fun _ _ _ h => h) (Or.inl ⟨by kernel_rfl, ?h4⟩) (by assumption) ?r4
            case h4 => (intro w hSw; (try dsimp only at hSw); go_simp; try with_reducible rfl)
            try simp only [Act.put, List.setIfInBounds_toArray, List.set_cons_zero, List.set_cons_succ]
            refine wpAnyH_take (i := 4) (oi := { dst := some 44, op := Go.Op.move (Go.Operand.tmp 3), type := 25, pos := "ref.go:19", after := #[], guard := none }) (v := ?v5) rfl (by kernel_rfl) (by kernel_rfl) (by kernel_rfl) (fun _ _ _ h => h) (Or.inl ⟨by kernel_rfl, ?h5⟩) (by assumption) ?r5
            case h5 => (intro w hSw; (try dsimp only at hSw); go_simp; try with_reducible rfl)
            try simp only [Act.put, List.setIfInBounds_toArray, List.set_cons_zero, List.set_cons_succ]
            refine wpAnyH_take (i := 5) (oi := { dst := some 45, op := Go.Op.move (Go.Operand.tmp 3), type := 25, pos := "ref.go:19", after := #[], guard := none }) (v := ?v6) rfl (by kernel_rfl) (by kernel_rfl) (by kernel_rfl) (fun _ _ _ h => h) (Or.inl ⟨by kernel_rfl, ?h6⟩) (by assumption) ?r6
            case h6 => (intro w hSw; (try dsimp only at hSw); go_simp; try with_reducible rfl)
            try simp only [Act.put, List.setIfInBounds_toArray, List.set_cons_zero, List.set_cons_succ]
            refine wpAnyH_take (i := 6) (oi := { dst := some 46, op := Go.Op.call { callee := Go.Callee.builtin Go.Builtin.len, args := #[Go.Operand.tmp 45], argTypes := #[25] }, type := 3, pos := "ref.go:19", after := #[{ on := 5, ground := Go.Ground.data }], guard := none }) (v := ?v7) rfl (by kernel_rfl) (by kernel_rfl) (by kernel_rfl) (fun _ _ _ h => h) (Or.inl ⟨by kernel_rfl, ?h7⟩) (by assumption) ?r7
            case h7 => (intro w hSw; (try dsimp only at hSw); go_simp; try with_reducible rfl)
            try simp only [Act.put, List.setIfInBounds_toArray, List.set_cons_zero, List.set_cons_succ]
            refine wpAnyH_take (i := 7) (oi := { dst := some 47, op := Go.Op.binOp Go.BinOp.sub 3 (Go.Operand.tmp 46) (Go.Operand.const (Go.Value.int Go.IntKind.i64 1)) 3, type := 3, pos := "ref.go:19", after := #[{ on := 6, ground := Go.Ground.data }], guard := none }) (v := ?v8) rfl (by kernel_rfl) (by kernel_rfl) (by kernel_rfl) (fun _ _ _ h => h) (Or.inl ⟨by kernel_rfl, ?h8⟩) (by assumption) ?r8
            case h8 => (intro w hSw; (try dsimp only at hSw); go_simp; try with_reducible rfl)
            try simp only [Act.put, List.setIfInBounds_toArray, List.set_cons_zero, List.set_cons_succ]
            refine wpAnyH_take (i := 8) (oi := { dst := some 48, op := Go.Op.indexAddr 25 (Go.Operand.tmp 44) (Go.Operand.tmp 47), type := 0, pos := "ref.go:19", after := #[{ on := 4, ground := Go.Ground.data }, { on := 7, ground := Go.Ground.data }], guard := none }) (v := ?v9) rfl (by kernel_rfl) (by kernel_rfl) (by kernel_rfl) (fun _ _ _ h => h) (Or.inl ⟨by kernel_rfl, ?h9⟩) (by assumption) ?r9
            case h9 => (intro w hSw; (try dsimp only at hSw); go_simp; try with_reducible rfl)
            try simp only [Act.put, List.setIfInBounds_toArray, List.set_cons_zero, List.set_cons_succ]
            refine wpAnyH_take (i := 10) (oi := { dst := some 50, op := Go.Op.move (Go.Operand.tmp 0), type := 9, pos := "ref.go:19", after := #[], guard := none }) (v := ?v10) rfl (by kernel_rfl) (by kernel_rfl) (by kernel_rfl) (fun _ _ _ h => h) (Or.inl ⟨by kernel_rfl, ?h10⟩) (by assumption) ?r10
            case h10 => (intro w hSw; (try dsimp only at hSw); go_simp; try with_reducible rfl)
            try simp only [Act.put, List.setIfInBounds_toArray, List.set_cons_zero, List.set_cons_succ]
            refine wpAnyH_take (i := 11) (oi := { dst := some 51, op := Go.Op.move (Go.Operand.tmp 4), type := 3, pos := "ref.go:19", after := #[], guard := none }) (v := ?v11) rfl (by kernel_rfl) (by kernel_rfl) (by kernel_rfl) (fun _ _ _ h => h) (Or.inl ⟨by kernel_rfl, ?h11⟩) (by assumption) ?r11
            case h11 => (intro w hSw; (try dsimp only at hSw); go_simp; try with_reducible rfl)
            try simp only [Act.put, List.setIfInBounds_toArray, List.set_cons_zero, List.set_cons_succ]
            refine wpAnyH_take (i := 12) (oi := { dst := some 52, op := Go.Op.move (Go.Operand.tmp 4), type := 3, pos := "ref.go:19", after := #[], guard := none }) (v := ?v12) rfl (by kernel_rfl) (by kernel_rfl) (by kernel_rfl) (fun _ _ _ h => h) (Or.inl ⟨by kernel_rfl, ?h12⟩) (by assumption) ?r12
            case h12 => (intro w hSw; (try dsimp only at hSw); go_simp; try with_reducible rfl)
            try simp only [Act.put, List.setIfInBounds_toArray, List.set_cons_zero, List.set_cons_succ]
            refine wpAnyH_take (i := 13) (oi := { dst := some 53, op := Go.Op.binOp Go.BinOp.add 3 (Go.Operand.tmp 52) (Go.Operand.const (Go.Value.int Go.IntKind.i64 1)) 3, type := 3, pos := "ref.go:19", after := #[{ on := 12, ground := Go.Ground.data }], guard := none }) (v := ?v13) rfl (by kernel_rfl) (by kernel_rfl) (by kernel_rfl) (fun _ _ _ h => h) (Or.inl ⟨by kernel_rfl, ?h13⟩) (by assumption) ?r13
            case h13 => (intro w hSw; (try dsimp only at hSw); go_simp; try with_reducible rfl)
            try simp only [Act.put, List.setIfInBounds_toArray, List.set_cons_zero, List.set_cons_succ]
            refine wpAnyH_take (i := 14) (oi := { dst := some 54, op := Go.Op.slice 9 (Go.Operand.tmp 50) (some (Go.Operand.tmp 51)) (some (Go.Operand.tmp 53)) none, type := 9, pos := "ref.go:19", after := #[{ on := 10, ground := Go.Ground.data }, { on := 11, ground := Go.Ground.data }, { on := 13, ground := Go.Ground.data }], guard := none }) (v := ?v14) rfl (by kernel_rfl) (by kernel_rfl) (by kernel_rfl) (fun _ _ _ h => h) (Or.inl ⟨by kernel_rfl, ?h14⟩) (by assumption) ?r14
            case h14 => (intro w hSw; (try dsimp only at hSw); go_simp; try with_reducible rfl)
            try simp only [Act.put, List.setIfInBounds_toArray, List.set_cons_zero, List.set_cons_succ]
            refine wpAnyH_ready (rs := [9]) (by kernel_rfl) (by simp) ?_
            refine AllReadyH.cons (o := { dst := some 49, op := Go.Op.load 9 (Go.Operand.tmp 48), type := 9, pos := "ref.go:19", after := #[{ on := 8, ground := Go.Ground.data }], guard := none }) rfl (fun K hK => ?_) AllReadyH.nil
            go_simp
            refine hK.out _ _ hHeld (fun hHeld => ?_)
            clear hK K
            try simp only [Act.put, List.setIfInBounds_toArray, List.set_cons_zero, List.set_cons_succ]
            refine wpAnyH_take (i := 15) (oi := { dst := some 55, op := Go.Op.binOp Go.BinOp.add 9 (Go.Operand.tmp 49) (Go.Operand.tmp 54) 9, type := 9, pos := "ref.go:19", after := #[{ on := 9, ground := Go.Ground.data }, { on := 14, ground := Go.Ground.data }], guard := none }) (v := ?v15) rfl (by kernel_rfl) (by kernel_rfl) (by kernel_rfl) (fun _ _ _ h => h) (Or.inl ⟨by kernel_rfl, ?h15⟩) (by assumption) ?r15
            case h15 => (intro w hSw; (try dsimp only at hSw); go_simp; try with_reducible rfl)
            try simp only [Act.put, List.setIfInBounds_toArray, List.set_cons_zero, List.set_cons_succ]
            refine wpAnyH_take (i := 16) (oi := { dst := some 56, op := Go.Op.indexAddr 25 (Go.Operand.tmp 40) (Go.Operand.tmp 43), type := 0, pos := "ref.go:19", after := #[{ on := 0, ground := Go.Ground.data }, { on := 3, ground := Go.Ground.data }, { on := 0, ground := Go.Ground.phase }, { on := 1, ground := Go.Ground.phase }, { on := 2, ground := Go.Ground.phase }, { on := 3, ground := Go.Ground.phase }, { on := 4, ground := Go.Ground.phase }, { on := 5, ground := Go.Ground.phase }, { on := 6, ground := Go.Ground.phase }, { on := 7, ground := Go.Ground.phase }, { on := 8, ground := Go.Ground.phase }, { on := 9, ground := Go.Ground.phase }, { on := 10, ground := Go.Ground.phase }, { on := 11, ground := Go.Ground.phase }, { on := 12, ground := Go.Ground.phase }, { on := 13, ground := Go.Ground.phase }, { on := 14, ground := Go.Ground.phase }, { on := 15, ground := Go.Ground.phase }], guard := none }) (v := ?v16) rfl (by kernel_rfl) (by kernel_rfl) (by kernel_rfl) (fun _ _ _ h => h) (Or.inl ⟨by kernel_rfl, ?h16⟩) (by assumption) ?r16
            case h16 => (intro w hSw; (try dsimp only at hSw); go_simp; try with_reducible rfl)
            try simp only [Act.put, List.setIfInBounds_toArray, List.set_cons_zero, List.set_cons_succ]
            refine wpAnyH_ready (rs := [17]) (by kernel_rfl) (by simp) ?_
            refine AllReadyH.cons (o := { dst := none, op := Go.Op.store 9 (Go.Operand.tmp 56) (Go.Operand.tmp 55), type := 0, pos := "ref.go:19", after := #[{ on := 16, ground := Go.Ground.data }, { on := 15, ground := Go.Ground.data }, { on := 0, ground := Go.Ground.phase }, { on := 1, ground := Go.Ground.phase }, { on := 2, ground := Go.Ground.phase }, { on := 3, ground := Go.Ground.phase }, { on := 4, ground := Go.Ground.phase }, { on := 5, ground := Go.Ground.phase }, { on := 6, ground := Go.Ground.phase }, { on := 7, ground := Go.Ground.phase }, { on := 8, ground := Go.Ground.phase }, { on := 9, ground := Go.Ground.phase }, { on := 10, ground := Go.Ground.phase }, { on := 11, ground := Go.Ground.phase }, { on := 12, ground := Go.Ground.phase }, { on := 13, ground := Go.Ground.phase }, { on := 14, ground := Go.Ground.phase }, { on := 15, ground := Go.Ground.phase }], guard := none }) rfl (fun K hK => ?_) AllReadyH.nil
            go_simp
            refine hK.out _ _ (trivial) (fun hHeld => ?_)
            clear hK K
            try simp only [Act.put, List.setIfInBounds_toArray, List.set_cons_zero, List.set_cons_succ]
            refine wpAnyH_done (by kernel_rfl) ?_ _
            go_wp2
            go_roundw
            case rel => exact ⟨k + 1, by omega, by go_num, Lib.hid hfin.out.1, Lib.hid hfin.out.2⟩
            case measure => simp [intOf]; omega
          · have hnew : Hid (partsL ((codes s).take (k + 1)) = partsL ((codes s).take k) ++ [[(codes s).getD k 0]]) := Lib.hid (by
              rw [hsn.out, more1, if_neg h32, if_neg (by rw [hlast.out h0]; exact fun h => hwp h.2)])
            have hwp' : wdB ((codes s).getD (k - 1) 0) = false := by simpa using hwp
            rw [hwp'] at hcallp'
            clear hgp hcallp hlast hsn hwc hwp h32 hpp hc hkL hwp'
            generalize (codes s).getD (k - 1) 0 = cp at *
            generalize (codes s).getD k 0 = ch at *
            generalize partsL ((codes s).take k) = ps at *
            go_wp2_with fail
            refine (hcall.out _).mono ?_
            rintro e W1 ⟨rfl, hB1⟩
            have hB1' := Lib.hid hB1
            clear hB1
            go_wp2_with fail
            refine (hcallp'.out _).mono ?_
            rintro e W2 ⟨rfl, hB2⟩
            have hrowN : Hid (TRow W2 w.heap.size u3 ps) := Lib.hid ⟨own_below (own_below hrow.out.1 hB1'.out) hB2, hrow.out.2⟩
            have hBN := Lib.hid ((hB.out.trans (hB1'.out.mono hB.out.size)).trans (hB2.mono (by have := hB.out.size; have := hB1'.out.size; omega)))
            clear hB2 hB1' hrow hB
            go_wp2_with (at_builtin; refine wpList_append_text _ rfl (.tmp 11) (.tmp 17) 25 rfl 9 i0 (.string ⟨#[]⟩) 16 Try.underlying25 hi hz0 hz1 hz2 rfl u3 (ps.map strOfNums) ((own_below hrowN.out.1 ((Below.refl _ _).alloc (Nat.le_refl _) _))) _ (strOfNums [ch]) 1 (by simp [go_sem]) rfl rfl (by have := hpl.out; simp [maxLen]; omega) (by have := hpl.out; simp; omega) ?_; intro v' w1 own1 grow1 blk1; have hpu := Lib.hid (push hrowN.out hBN.out hBN.out.size own1 grow1 blk1); clear own1 grow1 blk1)
            go_roundw
            case rel => exact ⟨k + 1, by omega, by go_num, Lib.hid (by rw [hnew.out]; exact hpu.out.1), Lib.hid hpu.out.2⟩
            case measure => simp [intOf]; omega
        · obtain rfl : k = 0 := by omega
          have hnew : Hid (partsL ((codes s).take (0 + 1)) = partsL ((codes s).take 0) ++ [[(codes s).getD 0 0]]) := Lib.hid (by
            rw [hsn.out, more1, if_neg h32, if_neg (by simp; intro _; decide)])
          clear hgp hcallp hlast hsn hwc h32 hpp hc hkL h0
          generalize (codes s).getD 0 0 = ch at *
          generalize partsL ((codes s).take 0) = ps at *
          simp only [Int.natCast_zero, Int.zero_add] at gi hcut
          go_wp2_with fail
          refine (hcall.out _).mono ?_
          rintro e W1 ⟨rfl, hB1⟩
          have hrowN : Hid (TRow W1 w.heap.size u3 ps) := Lib.hid ⟨own_below hrow.out.1 hB1, hrow.out.2⟩
          have hBN := Lib.hid (hB.out.trans (hB1.mono hB.out.size))
          clear hB1 hrow hB
          go_wp2_with (at_builtin; refine wpList_append_text _ rfl (.tmp 11) (.tmp 17) 25 rfl 9 i0 (.string ⟨#[]⟩) 16 Try.underlying25 hi hz0 hz1 hz2 rfl u3 (ps.map strOfNums) ((own_below hrowN.out.1 ((Below.refl _ _).alloc (Nat.le_refl _) _))) _ (strOfNums [ch]) 1 (by simp [go_sem]) rfl rfl (by have := hpl.out; simp [maxLen]; omega) (by have := hpl.out; simp; omega) ?_; intro v' w1 own1 grow1 blk1; have hpu := Lib.hid (push hrowN.out hBN.out hBN.out.size own1 grow1 blk1); clear own1 grow1 blk1)
          go_roundw
          case rel => exact ⟨1, by omega, by go_num, Lib.hid (by rw [hnew.out]; exact hpu.out.1), Lib.hid hpu.out.2⟩
          case measure => simp [intOf]; omega
      · have hwc' : wdB ((codes s).getD k 0) = false := by simpa using hwc
        rw [hwc'] at hcall
        have hnew : Hid (partsL ((codes s).take (k + 1)) = partsL ((codes s).take k) ++ [[(codes s).getD k 0]]) := Lib.hid (by
          rw [hsn.out, more1, if_neg h32, if_neg (fun h => by rw [hwc'] at h; exact absurd h.1 (by decide))])
        clear hgp hcallp hlast hsn hwc h32 hpp hc hkL hwc'
        generalize (codes s).getD k 0 = ch at *
        generalize partsL ((codes s).take k) = ps at *
        go_wp2_with fail
        refine (hcall.out _).mono ?_
        rintro e W1 ⟨rfl, hB1⟩
        have hrowN : Hid (TRow W1 w.heap.size u3 ps) := Lib.hid ⟨own_below hrow.out.1 hB1, hrow.out.2⟩
        have hBN := Lib.hid (hB.out.trans (hB1.mono hB.out.size))
        clear hB1 hrow hB
        go_wp2_with (at_builtin; refine wpList_append_text _ rfl (.tmp 11) (.tmp 17) 25 rfl 9 i0 (.string ⟨#[]⟩) 16 Try.underlying25 hi hz0 hz1 hz2 rfl u3 (ps.map strOfNums) ((own_below hrowN.out.1 ((Below.refl _ _).alloc (Nat.le_refl _) _))) _ (strOfNums [ch]) 1 (by simp [go_sem]) rfl rfl (by have := hpl.out; simp [maxLen]; omega) (by have := hpl.out; simp; omega) ?_; intro v' w1 own1 grow1 blk1; have hpu := Lib.hid (push hrowN.out hBN.out hBN.out.size own1 grow1 blk1); clear own1 grow1 blk1)
        go_roundw
        case rel => exact ⟨k + 1, by omega, by go_num, Lib.hid (by rw [hnew.out]; exact hpu.out.1), Lib.hid hpu.out.2⟩
        case measure => simp [intOf]; omega
    · have hfin : Hid (GivesT (partsL (codes s)) w (.returned u3) wr) := Lib.hid (by
        have := hrow.out
        rw [List.take_of_length_le (by have := hL'.out; omega)] at this
        exact ⟨_, rfl, this, hB.out⟩)
      go_wp2
      go_ret
      exact hfin.out
end Go.Proofs.Ytnekeflgdadbcaa
