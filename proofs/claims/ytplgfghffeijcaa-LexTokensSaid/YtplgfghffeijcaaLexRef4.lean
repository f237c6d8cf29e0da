/- The document's tokens of a text: the walk. -/
import Derived.Test.YtplgfghffeijcaaLexRef3
namespace Go.Proofs.Ytplgfghffeijcaa
open Go.RowKit
set_option linter.unusedVariables false
set_option linter.unusedSimpArgs false

theorem lit2_below {w w1 : World} (h : Below w.heap.size w w1) (o o' : Obj) : Below w.heap.size w ((w1.alloc o).alloc o') := by
  have h1 := h.trans ((lit_below w1 o).mono h.size)
  exact h1.trans ((lit_below (w1.alloc o) o').mono h1.size)
/-- What the loop stands at. -/
structure LpW (w wr : World) (b : List Int) (v : Value) (p g : Nat) (line : Int) (L : List Tk) : Prop where
  l : LpR b p L line g
  o : wr.ownsRow w.heap.size 36 4 v L.length (tcells L)
  b : Below w.heap.size w wr
set_option maxRecDepth 100000 in
set_option maxHeartbeats 4000000 in
theorem rtokens_any (s : ByteArray) (hs : s.size ≤ 1048576) (w : World) : Calls Try.prog 10 #[.string s] w (TokE (tokO (codes s)) w) := by
  obtain ⟨i0, z0, hi, hz, h4, h40, hz4⟩ := infoTokZ
  have hcl : Hid ((codes s).length = s.size) := Lib.hid (codes_length s)
  have hst0 := lpR_start (b := codes s) (by rw [hcl.out]; exact hs)
  have hpl : ¬ (1048576 : Int) < (s.size : Int) := by omega
  have hqt := Lib.hid (fun p hp W => token_any s hs p hp W)
  have S0 := Lib.hid (show LpW w w (codes s) (.slice none 0 0) 0 0 1 [] from ⟨hst0, own_nil _ _ _ _, Below.refl _ _⟩)
  clear hst0
  go_enter Try.func10, Try.ntmps10
  go_wp2
  go_loopw [6, 7, 8, 9] (fun v ln g p wr => ∃ (P G : Nat) (LN : Int) (L : List Tk), P ≤ s.size ∧ G ≤ P ∧ 1 ≤ LN ∧ LN ≤ P + 1 ∧ p = .int .i64 (P : Int) ∧ g = .int .i64 (G : Int) ∧ ln = .int .i64 LN ∧ Hid (LpW w wr (codes s) v P G LN L)) (fun _ _ _ p _ => s.size - (intOf p).toNat)
  case atStart => exact ⟨0, 0, 1, [], by omega, by omega, by omega, by omega, rfl, rfl, rfl, S0⟩
  case round =>
    clear S0
    obtain ⟨p, g, line, L, hp, hg, hl1, hl2, rfl, rfl, rfl, hh⟩ := hrel
    by_cases hlt : p < s.size
    · have hpi : (p : Int) < (s.size : Int) := by omega
      have hpi2 : (p : Int) ≤ 1048576 := by omega
      have hgi : (g : Int) ≤ (p : Int) := by omega
      have hq := Lib.hid (hqt.out p hlt)
      have hbad := Lib.hid (fun k T j ht => lpR_bad (k := k) (T := T) (j := j) hh.out.l (by rw [hcl.out]; exact hlt) ht)
      have hnext := Lib.hid (fun k T j ht => lpR_next (k := k) (T := T) (j := j) hh.out.l (by rw [hcl.out]; exact hlt) ht)
      clear hqt
      obtain ⟨⟨k, T, j, ok⟩, hr⟩ : ∃ r, tokenO (codes s) p = r := ⟨_, rfl⟩
      rw [hr] at hq
      cases ok with
      | false =>
        obtain ⟨g1, g2, g3⟩ := hbad.out k T j hr
        rw [hcl.out] at g2
        have hji : (p : Int) ≤ (j : Int) := by omega
        have hjs : (j : Int) ≤ 1048576 := by omega
        have hfin := Lib.hid (show ∀ w' : World, Below w.heap.size w w' → TokE (tokO (codes s)) w (.returned (.tuple #[.slice none 0 0, .int .i64 line, .int .i64 ((j : Int) - g + 1), .int .i64 230])) w' from fun w' hb => by rw [g3]; exact tokE_none _ _ _ hb)
        clear hbad hnext hr g1 g2 g3
        go_wp2_with fail
        refine (hq.out _).mono ?_
        rintro e w1 ⟨rfl, b1⟩
        have B1 := Lib.hid (hh.out.b.trans ((b1.mono hh.out.b.size).trans ((lit_below w1 (.cells #[.int .i64 k, .int .i64 0, .int .i64 0, .string (strOfNums T)] 36)).mono (Nat.le_trans hh.out.b.size b1.size))))
        clear b1
        go_wp2
        exact bodyPost_ret (v := .tuple #[.slice none 0 0, .int .i64 line, .int .i64 ((j : Int) - g + 1), .int .i64 230]) (by simp [results, Try.results10, go_sem]) rfl (hfin.out _ B1.out)
      | true =>
        obtain ⟨g1, g2, nA, nB, nC, nD, nE⟩ := hnext.out k T j hr
        rw [hcl.out] at g2 nA nB nC nD nE
        have hLl : Hid (L.length ≤ 4000000) := Lib.hid (by have := hh.out.l.2.2.2.2.1; omega)
        have hji : (p : Int) < (j : Int) := by omega
        have hjs : (j : Int) ≤ 1048576 := by omega
        clear hbad hnext hr
        by_cases hjl : j < s.size
        · have hjk : (j : Int) < (s.size : Int) := by omega
          have hce := codes_at s j hjl
          have hcb : (s[j]'hjl).toNat < 256 := (s[j]'hjl).toNat_lt
          rw [hce] at nB nC nD nE
          by_cases c1 : ((s[j]'hjl).toNat : Int) = 32
          · have e1 : (((s[j]'hjl).toNat : Int) == 32) = true := by simpa using c1
            by_cases c2 : j + 1 = s.size
            · have e2 : ((j : Int) + 1 == (s.size : Int)) = true := by simp; omega
              have hfin := Lib.hid (show ∀ w' : World, Below w.heap.size w w' → TokE (tokO (codes s)) w (.returned (.tuple #[.slice none 0 0, .int .i64 line, .int .i64 ((j : Int) + 1 - g + 1), .int .i64 230])) w' from fun w' hb => by rw [nB hjl c1 c2]; exact tokE_none _ _ _ hb)
              clear nA nB nC nD nE c1 c2 g1 g2 hce
              go_wp2_with fail
              refine (hq.out _).mono ?_
              rintro e w1 ⟨rfl, b1⟩
              have B1 := Lib.hid (hh.out.b.trans (b1.mono hh.out.b.size))
              have O1 := Lib.hid (own_below hh.out.o b1)
              clear b1 hq
              have b6 := lit2_below B1.out (.cells #[.int .i64 k, .int .i64 line, .int .i64 ((p : Int) - g + 1), .string (strOfNums T)] 36) (.cells #[.int .i64 k, .int .i64 line, .int .i64 ((p : Int) - g + 1), .string (strOfNums T)] 36)
              have o6 := (O1.out.alloc (.cells #[.int .i64 k, .int .i64 line, .int .i64 ((p : Int) - g + 1), .string (strOfNums T)] 36)).alloc (.cells #[.int .i64 k, .int .i64 line, .int .i64 ((p : Int) - g + 1), .string (strOfNums T)] 36)
              have s6 := seesC_lit (w1.alloc (.cells #[.int .i64 k, .int .i64 line, .int .i64 ((p : Int) - g + 1), .string (strOfNums T)] 36)) 36 #[.int .i64 k, .int .i64 line, .int .i64 ((p : Int) - g + 1), .string (strOfNums T)]
              rw [show (w1.alloc (.cells #[.int .i64 k, .int .i64 line, .int .i64 ((p : Int) - g + 1), .string (strOfNums T)] 36)).heap.size = w1.heap.size + 1 by simp] at s6
              have B6 := Lib.hid b6
              have O6 := Lib.hid o6
              have S6 := Lib.hid s6
              clear b6 o6 s6 O1 B1
              go_wp2_with (at_builtin; go_loud (refine wpList_append_cellsB _ rfl (.tmp 41) (.tmp 43) 23 rfl w 36 i0 z0 4 40 Try.underlying23 hi hz h4 h40 hz4 (by omega) _ L.length _ O6.out B6.out _ _ 1 1 [.int .i64 k, .int .i64 line, .int .i64 ((p : Int) - g + 1), .string (strOfNums T)] rfl S6.out (by intro u hu; simp at hu; rcases hu with rfl | rfl | rfl | rfl <;> rfl) rfl rfl (by unfold maxLen; have := hLl.out; omega) (by have := hLl.out; omega) ?_; intro v7 w7 o7 b7; have O7 := Lib.hid o7; have B7 := Lib.hid b7; clear o7 b7))
              exact bodyPost_ret (v := .tuple #[.slice none 0 0, .int .i64 line, .int .i64 ((j : Int) + 1 - g + 1), .int .i64 230]) (by simp [results, Try.results10, go_sem]) rfl (hfin.out _ B7.out)
            · have e2 : ((j : Int) + 1 == (s.size : Int)) = false := by simp; omega
              have hL2 := Lib.hid (nC hjl c1 (by omega))
              have hj2 : j + 1 ≤ s.size := by omega
              have hgj : g ≤ j + 1 := by omega
              have hlj : line ≤ ((j + 1 : Nat) : Int) + 1 := by omega
              clear nA nB nC nD nE c1 c2 g1 g2 hce
              go_wp2_with fail
              refine (hq.out _).mono ?_
              rintro e w1 ⟨rfl, b1⟩
              have B1 := Lib.hid (hh.out.b.trans (b1.mono hh.out.b.size))
              have O1 := Lib.hid (own_below hh.out.o b1)
              clear b1 hq
              have b6 := lit2_below B1.out (.cells #[.int .i64 k, .int .i64 line, .int .i64 ((p : Int) - g + 1), .string (strOfNums T)] 36) (.cells #[.int .i64 k, .int .i64 line, .int .i64 ((p : Int) - g + 1), .string (strOfNums T)] 36)
              have o6 := (O1.out.alloc (.cells #[.int .i64 k, .int .i64 line, .int .i64 ((p : Int) - g + 1), .string (strOfNums T)] 36)).alloc (.cells #[.int .i64 k, .int .i64 line, .int .i64 ((p : Int) - g + 1), .string (strOfNums T)] 36)
              have s6 := seesC_lit (w1.alloc (.cells #[.int .i64 k, .int .i64 line, .int .i64 ((p : Int) - g + 1), .string (strOfNums T)] 36)) 36 #[.int .i64 k, .int .i64 line, .int .i64 ((p : Int) - g + 1), .string (strOfNums T)]
              rw [show (w1.alloc (.cells #[.int .i64 k, .int .i64 line, .int .i64 ((p : Int) - g + 1), .string (strOfNums T)] 36)).heap.size = w1.heap.size + 1 by simp] at s6
              have B6 := Lib.hid b6
              have O6 := Lib.hid o6
              have S6 := Lib.hid s6
              clear b6 o6 s6 O1 B1
              go_wp2_with (at_builtin; go_loud (refine wpList_append_cellsB _ rfl (.tmp 41) (.tmp 43) 23 rfl w 36 i0 z0 4 40 Try.underlying23 hi hz h4 h40 hz4 (by omega) _ L.length _ O6.out B6.out _ _ 1 1 [.int .i64 k, .int .i64 line, .int .i64 ((p : Int) - g + 1), .string (strOfNums T)] rfl S6.out (by intro u hu; simp at hu; rcases hu with rfl | rfl | rfl | rfl <;> rfl) rfl rfl (by unfold maxLen; have := hLl.out; omega) (by have := hLl.out; omega) ?_; intro v7 w7 o7 b7; have O7 := Lib.hid o7; have B7 := Lib.hid b7; clear o7 b7))
              have S2 := Lib.hid (show LpW w w7 (codes s) v7 (j + 1) g line (L ++ [⟨k, line, (p : Int) - g + 1, strOfNums T⟩]) from ⟨hL2.out, by have := O7.out; rw [tcells_snoc, List.length_append]; exact this, B7.out⟩)
              go_roundw
              case rel => exact ⟨j + 1, g, line, _, hj2, hgj, hl1, hlj, by go_num, by first | trivial | rfl, by first | trivial | rfl, S2⟩
              case measure => simp [intOf]; omega
          · have e1 : (((s[j]'hjl).toNat : Int) == 32) = false := by simpa using c1
            by_cases c2 : ((s[j]'hjl).toNat : Int) = 10
            · have e2 : (((s[j]'hjl).toNat : Int) == 10) = true := by simpa using c2
              have hL2 := Lib.hid (nD hjl c2)
              have hj2 : j + 1 ≤ s.size := by omega
              have hlj : line + 1 ≤ ((j + 1 : Nat) : Int) + 1 := by omega
              have hl3 : line ≤ 1048577 := by omega
              clear nA nB nC nD nE c1 c2 g1 g2 hce
              go_wp2_with fail
              refine (hq.out _).mono ?_
              rintro e w1 ⟨rfl, b1⟩
              have B1 := Lib.hid (hh.out.b.trans (b1.mono hh.out.b.size))
              have O1 := Lib.hid (own_below hh.out.o b1)
              clear b1 hq
              have b6 := lit2_below B1.out (.cells #[.int .i64 k, .int .i64 line, .int .i64 ((p : Int) - g + 1), .string (strOfNums T)] 36) (.cells #[.int .i64 k, .int .i64 line, .int .i64 ((p : Int) - g + 1), .string (strOfNums T)] 36)
              have o6 := (O1.out.alloc (.cells #[.int .i64 k, .int .i64 line, .int .i64 ((p : Int) - g + 1), .string (strOfNums T)] 36)).alloc (.cells #[.int .i64 k, .int .i64 line, .int .i64 ((p : Int) - g + 1), .string (strOfNums T)] 36)
              have s6 := seesC_lit (w1.alloc (.cells #[.int .i64 k, .int .i64 line, .int .i64 ((p : Int) - g + 1), .string (strOfNums T)] 36)) 36 #[.int .i64 k, .int .i64 line, .int .i64 ((p : Int) - g + 1), .string (strOfNums T)]
              rw [show (w1.alloc (.cells #[.int .i64 k, .int .i64 line, .int .i64 ((p : Int) - g + 1), .string (strOfNums T)] 36)).heap.size = w1.heap.size + 1 by simp] at s6
              have B6 := Lib.hid b6
              have O6 := Lib.hid o6
              have S6 := Lib.hid s6
              clear b6 o6 s6 O1 B1
              go_wp2_with (at_builtin; first | (refine wpList_append_cellsB _ rfl (.tmp 41) (.tmp 43) 23 rfl w 36 i0 z0 4 40 Try.underlying23 hi hz h4 h40 hz4 (by omega) _ L.length _ O6.out B6.out _ _ 1 1 [.int .i64 k, .int .i64 line, .int .i64 ((p : Int) - g + 1), .string (strOfNums T)] rfl S6.out (by intro u hu; simp at hu; rcases hu with rfl | rfl | rfl | rfl <;> rfl) rfl rfl (by unfold maxLen; have := hLl.out; omega) (by have := hLl.out; omega) ?_; intro v7 w7 o7 b7; have O7 := Lib.hid o7; have B7 := Lib.hid b7; clear o7 b7; have b8 := B7.out.trans ((lit_below w7 (.cells #[.int .i64 3, .int .i64 line, .int .i64 ((j : Int) - g + 1), .string ⟨#[]⟩] 36)).mono B7.out.size); have o8 := O7.out.alloc (.cells #[.int .i64 3, .int .i64 line, .int .i64 ((j : Int) - g + 1), .string ⟨#[]⟩] 36); have s8 := seesC_lit w7 36 #[.int .i64 3, .int .i64 line, .int .i64 ((j : Int) - g + 1), .string ⟨#[]⟩]; have B8 := Lib.hid b8; have O8 := Lib.hid o8; have S8 := Lib.hid s8; clear b8 o8 s8) | (refine wpList_append_cellsB _ rfl (.tmp 84) (.tmp 91) 23 rfl w 36 i0 z0 4 40 Try.underlying23 hi hz h4 h40 hz4 (by omega) _ (L.length + 1) _ O8.out B8.out _ _ 1 1 [.int .i64 3, .int .i64 line, .int .i64 ((j : Int) - g + 1), .string ⟨#[]⟩] rfl S8.out (by intro u hu; simp at hu; rcases hu with rfl | rfl | rfl | rfl <;> rfl) rfl rfl (by unfold maxLen; have := hLl.out; omega) (by have := hLl.out; omega) ?_; intro v9 w9 o9 b9; have O9 := Lib.hid o9; have B9 := Lib.hid b9; clear o9 b9))
              have S2 := Lib.hid (show LpW w w9 (codes s) v9 (j + 1) (j + 1) (line + 1) (L ++ [⟨k, line, (p : Int) - g + 1, strOfNums T⟩] ++ [⟨3, line, (j : Int) - g + 1, ⟨#[]⟩⟩]) from ⟨hL2.out, by have := O9.out; rw [tcells_snoc, tcells_snoc, List.length_append, List.length_append]; exact this, B9.out⟩)
              go_roundw
              case rel => exact ⟨j + 1, j + 1, line + 1, _, hj2, Nat.le_refl _, by omega, hlj, by go_num, by go_num, by first | trivial | rfl, S2⟩
              case measure => simp [intOf]; omega
            · have e2 : (((s[j]'hjl).toNat : Int) == 10) = false := by simpa using c2
              have hfin := Lib.hid (show ∀ w' : World, Below w.heap.size w w' → TokE (tokO (codes s)) w (.returned (.tuple #[.slice none 0 0, .int .i64 line, .int .i64 ((j : Int) - g + 1), .int .i64 230])) w' from fun w' hb => by rw [nE hjl c1 c2]; exact tokE_none _ _ _ hb)
              clear nA nB nC nD nE c1 c2 g1 g2 hce
              go_wp2_with fail
              refine (hq.out _).mono ?_
              rintro e w1 ⟨rfl, b1⟩
              have B1 := Lib.hid (hh.out.b.trans (b1.mono hh.out.b.size))
              have O1 := Lib.hid (own_below hh.out.o b1)
              clear b1 hq
              have b6 := lit2_below B1.out (.cells #[.int .i64 k, .int .i64 line, .int .i64 ((p : Int) - g + 1), .string (strOfNums T)] 36) (.cells #[.int .i64 k, .int .i64 line, .int .i64 ((p : Int) - g + 1), .string (strOfNums T)] 36)
              have o6 := (O1.out.alloc (.cells #[.int .i64 k, .int .i64 line, .int .i64 ((p : Int) - g + 1), .string (strOfNums T)] 36)).alloc (.cells #[.int .i64 k, .int .i64 line, .int .i64 ((p : Int) - g + 1), .string (strOfNums T)] 36)
              have s6 := seesC_lit (w1.alloc (.cells #[.int .i64 k, .int .i64 line, .int .i64 ((p : Int) - g + 1), .string (strOfNums T)] 36)) 36 #[.int .i64 k, .int .i64 line, .int .i64 ((p : Int) - g + 1), .string (strOfNums T)]
              rw [show (w1.alloc (.cells #[.int .i64 k, .int .i64 line, .int .i64 ((p : Int) - g + 1), .string (strOfNums T)] 36)).heap.size = w1.heap.size + 1 by simp] at s6
              have B6 := Lib.hid b6
              have O6 := Lib.hid o6
              have S6 := Lib.hid s6
              clear b6 o6 s6 O1 B1
              go_wp2_with (at_builtin; go_loud (refine wpList_append_cellsB _ rfl (.tmp 41) (.tmp 43) 23 rfl w 36 i0 z0 4 40 Try.underlying23 hi hz h4 h40 hz4 (by omega) _ L.length _ O6.out B6.out _ _ 1 1 [.int .i64 k, .int .i64 line, .int .i64 ((p : Int) - g + 1), .string (strOfNums T)] rfl S6.out (by intro u hu; simp at hu; rcases hu with rfl | rfl | rfl | rfl <;> rfl) rfl rfl (by unfold maxLen; have := hLl.out; omega) (by have := hLl.out; omega) ?_; intro v7 w7 o7 b7; have O7 := Lib.hid o7; have B7 := Lib.hid b7; clear o7 b7))
              exact bodyPost_ret (v := .tuple #[.slice none 0 0, .int .i64 line, .int .i64 ((j : Int) - g + 1), .int .i64 230]) (by simp [results, Try.results10, go_sem]) rfl (hfin.out _ B7.out)
        · have hje : j = s.size := by omega
          have hjk : ¬ (j : Int) < (s.size : Int) := by omega
          have hfin := Lib.hid (show ∀ w' : World, Below w.heap.size w w' → TokE (tokO (codes s)) w (.returned (.tuple #[.slice none 0 0, .int .i64 line, .int .i64 ((j : Int) - g + 1), .int .i64 230])) w' from fun w' hb => by rw [nA hje]; exact tokE_none _ _ _ hb)
          clear nA nB nC nD nE g1 g2 hjl hje
          go_wp2_with fail
          refine (hq.out _).mono ?_
          rintro e w1 ⟨rfl, b1⟩
          have B1 := Lib.hid (hh.out.b.trans (b1.mono hh.out.b.size))
          have O1 := Lib.hid (own_below hh.out.o b1)
          clear b1 hq
          have b6 := lit2_below B1.out (.cells #[.int .i64 k, .int .i64 line, .int .i64 ((p : Int) - g + 1), .string (strOfNums T)] 36) (.cells #[.int .i64 k, .int .i64 line, .int .i64 ((p : Int) - g + 1), .string (strOfNums T)] 36)
          have o6 := (O1.out.alloc (.cells #[.int .i64 k, .int .i64 line, .int .i64 ((p : Int) - g + 1), .string (strOfNums T)] 36)).alloc (.cells #[.int .i64 k, .int .i64 line, .int .i64 ((p : Int) - g + 1), .string (strOfNums T)] 36)
          have s6 := seesC_lit (w1.alloc (.cells #[.int .i64 k, .int .i64 line, .int .i64 ((p : Int) - g + 1), .string (strOfNums T)] 36)) 36 #[.int .i64 k, .int .i64 line, .int .i64 ((p : Int) - g + 1), .string (strOfNums T)]
          rw [show (w1.alloc (.cells #[.int .i64 k, .int .i64 line, .int .i64 ((p : Int) - g + 1), .string (strOfNums T)] 36)).heap.size = w1.heap.size + 1 by simp] at s6
          have B6 := Lib.hid b6
          have O6 := Lib.hid o6
          have S6 := Lib.hid s6
          clear b6 o6 s6 O1 B1
          go_wp2_with (at_builtin; go_loud (refine wpList_append_cellsB _ rfl (.tmp 41) (.tmp 43) 23 rfl w 36 i0 z0 4 40 Try.underlying23 hi hz h4 h40 hz4 (by omega) _ L.length _ O6.out B6.out _ _ 1 1 [.int .i64 k, .int .i64 line, .int .i64 ((p : Int) - g + 1), .string (strOfNums T)] rfl S6.out (by intro u hu; simp at hu; rcases hu with rfl | rfl | rfl | rfl <;> rfl) rfl rfl (by unfold maxLen; have := hLl.out; omega) (by have := hLl.out; omega) ?_; intro v7 w7 o7 b7; have O7 := Lib.hid o7; have B7 := Lib.hid b7; clear o7 b7))
          exact bodyPost_ret (v := .tuple #[.slice none 0 0, .int .i64 line, .int .i64 ((j : Int) - g + 1), .int .i64 230]) (by simp [results, Try.results10, go_sem]) rfl (hfin.out _ B7.out)
    · have hke : p = (codes s).length := by rw [hcl.out]; omega
      have hli : ¬ (p : Int) < (s.size : Int) := by omega
      have hL := hh.out.l
      rw [hke] at hL
      have hR := lpR_end hL
      obtain ⟨a, c, rfl, hc, hm, hsee⟩ := seesC_own hh.out.o
      have hfin : TokE (tokO (codes s)) w (.returned (.tuple #[.slice a L.length c, .int .i64 (line - 1), .int .i64 0, .int .i64 0])) wr := by
        rw [hR]; exact ⟨a, L.length, c, rfl, rfl, hc, hm, hsee, hh.out.b⟩
      have hfin' := Lib.hid hfin
      have hl3 : line ≤ 1048577 := by omega
      clear hL hR hfin hke hc hm hsee hlt hh
      go_wp2
      exact bodyPost_ret (v := .tuple #[.slice a L.length c, .int .i64 (line - 1), .int .i64 0, .int .i64 0]) (by simp [results, Try.results10, go_sem]) rfl hfin'.out
end Go.Proofs.Ytplgfghffeijcaa
