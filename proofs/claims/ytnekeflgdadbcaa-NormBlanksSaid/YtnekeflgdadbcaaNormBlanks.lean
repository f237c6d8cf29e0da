/- NormBlanks: the walk of the statement's function. -/
import Derived.Test.YtnekeflgdadbcaaNormTells
namespace Go.Proofs.Ytnekeflgdadbcaa
open Go.RowKit
set_option linter.unusedVariables false
set_option linter.unusedSimpArgs false

/-- Are there words' bytes on both sides of the place? -/
def innerB (L : List Int) (a : Nat) : Bool := wdB ((L.take a).getLast?.getD 32) && wdB ((L.drop a).headD 32)
theorem wd_32 : wdB 32 = false := by decide
theorem wd32 {c : Int} (h : wdB c = true) : c ≠ 32 := by intro e; subst e; exact absurd h (by decide)
theorem two_parts (c d : Int) : (partsL [c, d]).length = if wdB c = true ∧ wdB d = true then 1 else (if c = 32 then 0 else 1) + (if d = 32 then 0 else 1) := by
  by_cases hc : wdB c = true
  · by_cases hd : wdB d = true
    · rw [if_pos ⟨hc, hd⟩, partsL_word hc]; simp [hd, partsL_nil]
    · have hd' : wdB d = false := by simpa using hd
      have hc2 := wd32 hc
      rw [if_neg (by simp [hd']), partsL_word hc]
      by_cases h2 : d = 32
      · subst h2; simp [hd', partsL_blank, partsL_nil, hc2]
      · simp [hd', partsL_other hd' h2, partsL_nil, hc2, h2]
  · have hc' : wdB c = false := by simpa using hc
    rw [if_neg (by simp [hc'])]
    have h1 : (partsL [d]).length = if d = 32 then 0 else 1 := by
      by_cases h2 : d = 32
      · subst h2; simp [partsL_blank, partsL_nil]
      · by_cases hd : wdB d = true
        · rw [partsL_word hd]; simp [partsL_nil, h2]
        · rw [partsL_other (by simpa using hd) h2]; simp [partsL_nil, h2]
    by_cases h2 : c = 32
    · subst h2; rw [partsL_blank, h1]; simp
    · rw [partsL_other hc' h2]; simp [h1, h2]; omega
/-- What the statement asks of the two bytes is that both are words'. -/
theorem inner_two (c d : Int) : (decide ((partsL [c, d]).length = 1) && (decide (c ≠ 32) && decide (d ≠ 32))) = (wdB c && wdB d) := by
  rw [two_parts]
  by_cases hc : wdB c = true
  · by_cases hd : wdB d = true
    · simp [hc, hd, wd32 hc, wd32 hd]
    · have hd' : wdB d = false := by simpa using hd
      by_cases h2 : d = 32 <;> simp [hc, hd', wd32 hc, h2, wd_32]
  · have hc' : wdB c = false := by simpa using hc
    by_cases h2 : c = 32 <;> by_cases h3 : d = 32 <;> simp [hc', h2, h3, wd_32]
theorem str_reps (P : List Int) (k : Nat) : strOfNums (P ++ List.replicate k 32) ++ ⟨#[32]⟩ = strOfNums (P ++ List.replicate (k + 1) 32) := by
  rw [List.replicate_succ', ← List.append_assoc, str_append' (P ++ List.replicate k 32) [32]]; rfl
theorem cut_h (s : ByteArray) (i : Nat) (h : i ≤ s.size) (W : World) : (Instr.slice 9 (.string s) none (some (.int .i64 (i : Int))) none).run Try.prog W = .ok (.string (strOfNums ((codes s).take i))) W := by
  have := run_slice_string_h W 9 s Try.underlying9 .i64 (i : Int) (by omega) (by omega)
  rw [this, cut_codes]
  simp
theorem blanks_same (s : ByteArray) (a n : Nat) : decide (partsL (codes s) = partsL (codes (strOfNums ((codes s).take a ++ List.replicate n 32) ++ strOfNums ((codes s).drop a)))) = !(innerB (codes s) a && decide (0 < n)) := by
  have hb := codes_bs s
  have e : codes (strOfNums ((codes s).take a ++ List.replicate n 32) ++ strOfNums ((codes s).drop a)) = (codes s).take a ++ (List.replicate n 32 ++ (codes s).drop a) := by
    rw [← str_append', codes_str]
    · simp
    · intro x hx
      simp only [List.mem_append] at hx
      rcases hx with (hx | hx) | hx
      · exact hb x (List.mem_of_mem_take hx)
      · have := List.eq_of_mem_replicate hx; omega
      · exact hb x (List.mem_of_mem_drop hx)
  rw [e]
  have hp := parts_blanks ((codes s).take a) ((codes s).drop a) n
  rw [List.take_append_drop] at hp
  unfold innerB
  by_cases h : (wdB (((codes s).take a).getLast?.getD 32) = true ∧ wdB (((codes s).drop a).headD 32) = true) ∧ 0 < n
  · rw [decide_eq_false (fun x => (hp.1 x.symm) h)]
    rw [h.1.1, h.1.2, decide_eq_true h.2]; rfl
  · rw [decide_eq_true (hp.2 h).symm]
    symm
    simp only [Bool.not_eq_true', Bool.and_eq_false_iff, decide_eq_false_iff_not]
    by_cases h1 : wdB (((codes s).take a).getLast?.getD 32) = true
    · by_cases h2 : wdB (((codes s).drop a).headD 32) = true
      · right; intro h3; exact h ⟨⟨h1, h2⟩, h3⟩
      · left; right; simpa using h2
    · left; left; simpa using h1

set_option maxRecDepth 100000 in
set_option maxHeartbeats 8000000 in
theorem blanks_small (w : World) (s : ByteArray) (a n : Nat) (hs : s.size ≤ 1000) (ha : a ≤ s.size) (hn : n ≤ 100) :
    Calls Try.prog 5 #[.string s, .int .i64 (a : Int), .int .i64 (n : Int)] w (Gives (.bool true) w) := by
  have hl := Lib.hid (fun W => lives_any W)
  have hcut1 := cut_h s a ha
  have hcut2 := cut_l s a ha
  have hsz : Hid ((strOfNums ((codes s).take a ++ List.replicate n 32) ++ strOfNums ((codes s).drop a)).size ≤ 100000) := Lib.hid (by
    rw [ByteArray.size_append, strOfNums_size, strOfNums_size]; have := codes_length s; simp; omega)
  have hSame : Hid (∀ b, innerB (codes s) a = b → ∀ W, Calls Try.prog 13 #[.string s, .string (strOfNums ((codes s).take a ++ List.replicate n 32) ++ strOfNums ((codes s).drop a))] W (Gives (.bool (!(b && decide (0 < n)))) W)) := Lib.hid (by
    rintro b rfl W
    rw [← blanks_same]
    exact nsame_any s _ (by omega) hsz.out W)
  have hstep := Lib.hid (fun k => str_reps ((codes s).take a) k)
  have hfit : Hid (∀ k, k ≤ n → (strOfNums ((codes s).take a ++ List.replicate k 32)).size ≤ 2000) := Lib.hid (fun k hk => by rw [strOfNums_size]; have := codes_length s; simp; omega)
  have hfit2 : ¬ 9223372036854775807 < (strOfNums ((codes s).take a ++ List.replicate n 32)).size + (strOfNums ((codes s).drop a)).size := by
    rw [strOfNums_size, strOfNums_size]; have := codes_length s; simp; omega
  have hst0 : Hid (strOfNums ((codes s).take a) = strOfNums ((codes s).take a ++ List.replicate 0 32)) := Lib.hid (by simp)
  have hL := Lib.hid (codes_length s)
  have g1 : (s.size : Int) ≤ 1000 := by omega
  have g2 : (a : Int) ≤ (s.size : Int) := by omega
  have g3 : (n : Int) ≤ 100 := by omega
  have hin1 : Hid (a = 0 → innerB (codes s) a = false) := Lib.hid (by rintro rfl; simp [innerB, wd_32])
  have hin2 : Hid (a = s.size → innerB (codes s) a = false) := Lib.hid (by
    intro e; rw [innerB, List.drop_of_length_le (by have := hL.out; omega)]; simp [wd_32])
  have hin3 : Hid (0 < a → a < s.size → (decide ((partsL [(codes s).getD (a - 1) 0, (codes s).getD a 0]).length = 1) && (decide ((codes s).getD (a - 1) 0 ≠ 32) && decide ((codes s).getD a 0 ≠ 32))) = innerB (codes s) a) := Lib.hid (fun h0 h1 => by
    have hk0 : a - 1 < (codes s).length := by have := hL.out; omega
    have hk1 : a < (codes s).length := by have := hL.out; omega
    rw [inner_two, innerB]
    have e1 : (codes s).take a = (codes s).take (a - 1) ++ [(codes s)[a - 1]] := by
      rw [← List.take_succ_eq_append_getElem hk0]; congr 1; omega
    rw [e1, List.getLast?_concat, List.drop_eq_getElem_cons hk1]
    simp [List.getD, hk0, hk1])
  generalize hT : strOfNums ((codes s).take a ++ List.replicate n 32) ++ strOfNums ((codes s).drop a) = T at *
  generalize hD : strOfNums ((codes s).drop a) = D at *
  have hT' := Lib.hid hT
  have hD' := Lib.hid hD
  clear hT hD
  go_enter Try.func5, Try.ntmps5
  go_wp2
  go_loopw [7, 8] (fun x i wr => ∃ k : Nat, k ≤ n ∧ i = .int .i64 k ∧ x = .string (strOfNums ((codes s).take a ++ List.replicate k 32)) ∧ Hid (Below w.heap.size w wr)) (fun _ i _ => n - (intOf i).toNat)
  case atStart => exact ⟨0, by omega, rfl, by rw [← hst0.out], Lib.hid (Below.refl _ _)⟩
  case round =>
    obtain ⟨k, hk, rfl, rfl, hB⟩ := hrel
    by_cases hlt : k < n
    · have hf1 := hfit.out k hk
      have hs1 := Lib.hid (hstep.out k)
      generalize strOfNums ((codes s).take a ++ List.replicate k 32) = x at *
      have hf2 : ¬ 9223372036854775807 < x.size + 1 := by omega
      go_wp2
      go_roundw
      case rel => exact ⟨k + 1, by omega, by go_num, by rw [hs1.out], hB⟩
      case measure => simp [intOf]; omega
    · obtain rfl : k = n := by omega
      have hTT : Hid (strOfNums ((codes s).take a ++ List.replicate k 32) ++ D = T) := Lib.hid (by rw [hT'.out])
      generalize strOfNums ((codes s).take a ++ List.replicate k 32) = x at *
      rw [← hTT.out] at hSame hsz
      clear hTT hT'
      clear hstep hfit hst0 hlt
      have hcutX := cut_lh s (a - 1) (a + 1) (by omega)
      by_cases h0 : 0 < a
      · by_cases h1 : a < s.size
        · have h3 := hin3.out h0 h1
          have hk0 : a - 1 < (codes s).length := by have := hL.out; omega
          have hk1 : a < (codes s).length := by have := hL.out; omega
          have gi := ix s a h1
          have gj := ix s (a - 1) (by omega)
          rw [show ((a - 1 : Nat) : Int) = (a : Int) - 1 by omega] at gj
          replace hcutX := hcutX (by omega)
          rw [show ((a - 1 : Nat) : Int) = (a : Int) - 1 by omega, show ((a + 1 : Nat) : Int) = (a : Int) + 1 by omega] at hcutX
          have htwo : ((codes s).take (a + 1)).drop (a - 1) = [(codes s).getD (a - 1) 0, (codes s).getD a 0] := by
            rw [List.take_succ_eq_append_getElem hk1, List.drop_append_of_le_length (by simp; omega)]
            have e1 : (codes s).take a = (codes s).take (a - 1) ++ [(codes s)[a - 1]] := by
              rw [← List.take_succ_eq_append_getElem hk0]; congr 1; omega
            rw [e1, List.drop_append_of_le_length (by simp; omega), List.drop_of_length_le (by simp; omega)]
            simp [List.getD, hk0, hk1]
          rw [htwo] at hcutX
          have hbc := (codes_bs s).at hk0
          have hbd := (codes_bs s).at hk1
          have hbs2 : Bs [(codes s).getD (a - 1) 0, (codes s).getD a 0] := by
            intro y hy
            simp only [List.mem_cons, List.not_mem_nil, or_false] at hy
            rcases hy with rfl | rfl
            · exact hbc
            · exact hbd
          have hRP := Lib.hid (fun W => rparts_any (strOfNums [(codes s).getD (a - 1) 0, (codes s).getD a 0]) (by rw [strOfNums_size]; simp) W)
          rw [codes_str hbs2] at hRP
          clear hbs2 hbc hbd htwo hk0 hk1
          have hin := h3.symm
          clear h3 hin1 hin2 hin3
          generalize strOfNums [(codes s).getD (a - 1) 0, (codes s).getD a 0] = two at *
          generalize partsL [(codes s).getD (a - 1) 0, (codes s).getD a 0] = ps at *
          generalize (codes s).getD (a - 1) 0 = c at *
          generalize (codes s).getD a 0 = d at *
          have h0i : (0 : Int) < (a : Int) := by omega
          have h1i : (a : Int) < (s.size : Int) := by omega
          have hin' := Lib.hid hin
          clear hin
          go_wp2_with fail
          refine (hRP.out _).mono ?_
          rintro e w4 q4
          obtain ⟨a4, c4, rfl, -, -, b4⟩ := q4.open
          have B4 := Lib.hid (hB.out.trans (b4.mono hB.out.size))
          clear q4 b4 hRP hB
          by_cases hlen : ps.length = 1
          · by_cases hc : c = 32
            · have hin : innerB (codes s) a = false := by rw [hin'.out]; simp [hc]
              have hcb : (c == 32) = true := by simpa using hc
              have hS := Lib.hid (hSame.out false hin)
              simp only [Bool.false_and, Bool.not_false] at hS
              clear hSame hin
              go_wp2_with fail
              refine (hl.out _).mono ?_
              rintro e w5 ⟨rfl, b5⟩
              have B5 := Lib.hid (B4.out.trans (b5.mono B4.out.size))
              clear b5 B4 hl
              go_wp2_with fail
              refine (hS.out _).mono ?_
              rintro e w6 ⟨rfl, b6⟩
              have B6 := Lib.hid (B5.out.trans (b6.mono B5.out.size))
              clear b6 B5 hS
              go_wp2
              go_ret
              exact ⟨rfl, B6.out⟩
            · by_cases hd : d = 32
              · have hin : innerB (codes s) a = false := by rw [hin'.out]; simp [hd]
                have hcb : (c == 32) = false := by simpa using hc
                have hdb : (d == 32) = true := by simpa using hd
                have hS := Lib.hid (hSame.out false hin)
                simp only [Bool.false_and, Bool.not_false] at hS
                clear hSame hin
                go_wp2_with fail
                refine (hl.out _).mono ?_
                rintro e w5 ⟨rfl, b5⟩
                have B5 := Lib.hid (B4.out.trans (b5.mono B4.out.size))
                clear b5 B4 hl
                go_wp2_with fail
                refine (hS.out _).mono ?_
                rintro e w6 ⟨rfl, b6⟩
                have B6 := Lib.hid (B5.out.trans (b6.mono B5.out.size))
                clear b6 B5 hS
                go_wp2
                go_ret
                exact ⟨rfl, B6.out⟩
              · have hin : innerB (codes s) a = true := by rw [hin'.out]; simp [hc, hd, hlen]
                have hcb : (c == 32) = false := by simpa using hc
                have hdb : (d == 32) = false := by simpa using hd
                have hcn : (c != 32) = true := by simpa using hc
                have hdn : (d != 32) = true := by simpa using hd
                by_cases n0 : 0 < k
                · have hS := Lib.hid (hSame.out true hin)
                  simp only [n0, decide_true, Bool.and_self, Bool.not_true] at hS
                  have n1 : (0 : Int) < (k : Int) := by omega
                  clear hSame hin
                  go_wp2_with fail
                  refine (hl.out _).mono ?_
                  rintro e w5 ⟨rfl, b5⟩
                  have B5 := Lib.hid (B4.out.trans (b5.mono B4.out.size))
                  clear b5 B4 hl
                  go_wp2_with fail
                  refine (hS.out _).mono ?_
                  rintro e w6 ⟨rfl, b6⟩
                  have B6 := Lib.hid (B5.out.trans (b6.mono B5.out.size))
                  clear b6 B5 hS
                  go_wp2
                  go_ret
                  exact ⟨rfl, B6.out⟩
                · have hS := Lib.hid (hSame.out true hin)
                  simp only [n0, decide_false, Bool.and_false, Bool.not_false] at hS
                  have n1 : ¬ (0 : Int) < (k : Int) := by omega
                  clear hSame hin
                  go_wp2_with fail
                  refine (hl.out _).mono ?_
                  rintro e w5 ⟨rfl, b5⟩
                  have B5 := Lib.hid (B4.out.trans (b5.mono B4.out.size))
                  clear b5 B4 hl
                  go_wp2_with fail
                  refine (hS.out _).mono ?_
                  rintro e w6 ⟨rfl, b6⟩
                  have B6 := Lib.hid (B5.out.trans (b6.mono B5.out.size))
                  clear b6 B5 hS
                  go_wp2
                  go_ret
                  exact ⟨rfl, B6.out⟩
          · have hin : innerB (codes s) a = false := by rw [hin'.out]; simp [hlen]
            have hS := Lib.hid (hSame.out false hin)
            simp only [Bool.false_and, Bool.not_false] at hS
            clear hSame hin
            go_wp2_with fail
            refine (hl.out _).mono ?_
            rintro e w5 ⟨rfl, b5⟩
            have B5 := Lib.hid (B4.out.trans (b5.mono B4.out.size))
            clear b5 B4 hl
            go_wp2_with fail
            refine (hS.out _).mono ?_
            rintro e w6 ⟨rfl, b6⟩
            have B6 := Lib.hid (B5.out.trans (b6.mono B5.out.size))
            clear b6 B5 hS
            go_wp2
            go_ret
            exact ⟨rfl, B6.out⟩
        · have hin := hin2.out (by omega)
          have h0i : (0 : Int) < (a : Int) := by omega
          have h1i : ¬ (a : Int) < (s.size : Int) := by omega
          have B4 := hB
          clear hin1 hin2 hin3 hcutX
          have hS := Lib.hid (hSame.out false hin)
          simp only [Bool.false_and, Bool.not_false] at hS
          clear hSame hin
          go_wp2_with fail
          refine (hl.out _).mono ?_
          rintro e w5 ⟨rfl, b5⟩
          have B5 := Lib.hid (B4.out.trans (b5.mono B4.out.size))
          clear b5 B4 hl
          go_wp2_with fail
          refine (hS.out _).mono ?_
          rintro e w6 ⟨rfl, b6⟩
          have B6 := Lib.hid (B5.out.trans (b6.mono B5.out.size))
          clear b6 B5 hS
          go_wp2
          go_ret
          exact ⟨rfl, B6.out⟩
      · have hin := hin1.out (by omega)
        have h0i : ¬ (0 : Int) < (a : Int) := by omega
        have B4 := hB
        clear hin1 hin2 hin3 hcutX
        have hS := Lib.hid (hSame.out false hin)
        simp only [Bool.false_and, Bool.not_false] at hS
        clear hSame hin
        go_wp2_with fail
        refine (hl.out _).mono ?_
        rintro e w5 ⟨rfl, b5⟩
        have B5 := Lib.hid (B4.out.trans (b5.mono B4.out.size))
        clear b5 B4 hl
        go_wp2_with fail
        refine (hS.out _).mono ?_
        rintro e w6 ⟨rfl, b6⟩
        have B6 := Lib.hid (B5.out.trans (b6.mono B5.out.size))
        clear b6 B5 hS
        go_wp2
        go_ret
        exact ⟨rfl, B6.out⟩

set_option maxRecDepth 100000 in
set_option maxHeartbeats 4000000 in
theorem normBlanks_walk (w : World) (s : ByteArray) (hs : s.size ≤ maxLen) (hs2 : s.size ≤ 140737488351232) (a : Int) (ha : (Lit.int .i64 a).wf = true) (n : Int) (hn : (Lit.int .i64 n).wf = true) :
    Calls Try.prog 5 #[.string s, .int .i64 a, .int .i64 n] w (Gives (.bool true) w) := by
  have ra := i64_wf ha
  have rn := i64_wf hn
  by_cases hsm : (s.size ≤ 1000 ∧ 0 ≤ a ∧ a ≤ s.size) ∧ (0 ≤ n ∧ n ≤ 100)
  · obtain ⟨⟨h1, h2, h3⟩, h4, h5⟩ := hsm
    have := blanks_small w s a.toNat n.toNat h1 (by omega) (by omega)
    rwa [Int.toNat_of_nonneg h2, Int.toNat_of_nonneg h4] at this
  have hl := Lib.hid (fun W => lives_any W)
  clear hs ha hn
  have q1 : (s.size : Int) ≤ 140737488351232 := by omega
  have gg : ¬ (((s.size : Int) ≤ 1000 ∧ 0 ≤ a ∧ a ≤ s.size) ∧ (0 ≤ n ∧ n ≤ 100)) := by omega
  clear hsm hs2
  by_cases a1 : (s.size : Int) ≤ 1000
  · by_cases a2 : a < 0
    · clear gg
      go_enter Try.func5, Try.ntmps5
      go_wp2_with fail
      refine (hl.out w).mono ?_
      rintro e w1 ⟨rfl, b1⟩
      go_wp2_with fail
      go_ret
      exact ⟨rfl, b1⟩
    · have a2' : 0 ≤ a := by omega
      by_cases a3 : a ≤ (s.size : Int)
      · by_cases a4 : n < 0
        · clear gg
          go_enter Try.func5, Try.ntmps5
          go_wp2_with fail
          refine (hl.out w).mono ?_
          rintro e w1 ⟨rfl, b1⟩
          go_wp2_with fail
          go_ret
          exact ⟨rfl, b1⟩
        · have a4' : 0 ≤ n := by omega
          have a5 : ¬ n ≤ 100 := by omega
          clear gg
          go_enter Try.func5, Try.ntmps5
          go_wp2_with fail
          refine (hl.out w).mono ?_
          rintro e w1 ⟨rfl, b1⟩
          go_wp2_with fail
          go_ret
          exact ⟨rfl, b1⟩
      · clear gg
        go_enter Try.func5, Try.ntmps5
        go_wp2_with fail
        refine (hl.out w).mono ?_
        rintro e w1 ⟨rfl, b1⟩
        go_wp2_with fail
        go_ret
        exact ⟨rfl, b1⟩
  · clear gg
    go_enter Try.func5, Try.ntmps5
    go_wp2_with fail
    refine (hl.out w).mono ?_
    rintro e w1 ⟨rfl, b1⟩
    go_wp2_with fail
    go_ret
    exact ⟨rfl, b1⟩
end Go.Proofs.Ytnekeflgdadbcaa
