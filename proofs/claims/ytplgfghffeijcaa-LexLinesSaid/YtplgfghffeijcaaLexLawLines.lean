/- LexLines: the walk of the statement's function. -/
import Derived.Test.YtplgfghffeijcaaLexLinesMath
import Derived.Test.YtplgfghffeijcaaLexLawQuotes
namespace Go.Proofs.Ytplgfghffeijcaa
open Go.RowKit
set_option linter.unusedVariables false
set_option linter.unusedSimpArgs false

set_option maxRecDepth 100000 in
set_option maxHeartbeats 4000000 in
theorem lines_g1 (w : World) (a b : ByteArray) (g : 2000 < a.size) : Calls Try.prog 6 #[.string a, .string b] w (Gives (.bool true) w) := by
  have qlv := Lib.hid (fun W => xlives_any W)
  have gi : (2000 : Int) < (a.size : Int) := by omega
  clear g
  go_enter Try.func6, Try.ntmps6
  go_wp2_with fail
  refine (qlv.out _).mono ?_
  rintro e w1 ⟨rfl, b1⟩
  have B1 := Lib.hid b1
  clear b1
  go_wp2
  go_ret
  exact ⟨rfl, B1.out⟩
set_option maxRecDepth 100000 in
set_option maxHeartbeats 4000000 in
theorem lines_g2 (w : World) (a b : ByteArray) (g0 : ¬ 2000 < a.size) (g : 2000 < b.size) : Calls Try.prog 6 #[.string a, .string b] w (Gives (.bool true) w) := by
  have qlv := Lib.hid (fun W => xlives_any W)
  have g0i : ¬ (2000 : Int) < (a.size : Int) := by omega
  have gi : (2000 : Int) < (b.size : Int) := by omega
  clear g
  go_enter Try.func6, Try.ntmps6
  go_wp2_with fail
  refine (qlv.out _).mono ?_
  rintro e w1 ⟨rfl, b1⟩
  have B1 := Lib.hid b1
  clear b1
  go_wp2
  go_ret
  exact ⟨rfl, B1.out⟩
theorem ba_app_size (a b : ByteArray) : (a ++ b).size = a.size + b.size := by simp
set_option maxRecDepth 100000 in
set_option maxHeartbeats 4000000 in
theorem lines_bad (w : World) (a b : ByteArray) (g0 : ¬ 2000 < a.size) (g1 : ¬ 2000 < b.size) (he : (tokO (codes a)).2.2.2 ≠ 0) : Calls Try.prog 6 #[.string a, .string b] w (Gives (.bool true) w) := by
  have gai : ¬ (2000 : Int) < (a.size : Int) := by omega
  have gbi : ¬ (2000 : Int) < (b.size : Int) := by omega
  have hca := codes_length a
  have hcb := codes_length b
  have hab := ba_app_size a b
  have hov : ¬ 9223372036854775807 < a.size + b.size := by omega
  have q1 := Lib.hid (fun W => tokens_any a (by omega) W)
  have q2 := Lib.hid (fun W => tokens_any b (by omega) W)
  have q3 := Lib.hid (fun W => tokens_any (a ++ b) (by omega) W)
  have qlv := Lib.hid (fun W => xlives_any W)
  have BA := tok_bound (b := codes a) (by omega)
  have BB := tok_bound (b := codes b) (by omega)
  have BC := tok_bound (b := codes (a ++ b)) (by rw [codes_length]; omega)
  rw [codes_length] at BA BB BC
  have HA := fun h => tok_app (a := codes a) (b := codes b) (by omega) (by omega) h
  rw [← codes_app] at HA
  clear hca hcb
  generalize tokO (codes a) = ra at *
  generalize tokO (codes b) = rb at *
  generalize tokO (codes (a ++ b)) = rc at *
  obtain ⟨La, na, xa, ea⟩ := ra
  obtain ⟨Lb, nb, xb, eb⟩ := rb
  obtain ⟨Lc, nc, xc, ec⟩ := rc
  simp only at BA BB BC HA he
  have hea : (ea != 0) = true := by simpa using he
  clear he HA BA BB BC hab g0 g1
  go_enter Try.func6, Try.ntmps6
  go_wp2_with fail
  with_reducible refine (q1.out _).mono ?_
  rintro e w1 ⟨a1, n1, c1, rfl, hn1, hc1, hm1, hs1, b1⟩
  have T1 := Lib.hid (show TL w1 a1 n1 c1 La from ⟨hn1, hc1, hm1, hs1⟩)
  have B1 := Lib.hid b1
  clear hn1 hc1 hm1 hs1 b1 q1
  go_wp2_with fail
  with_reducible refine (q2.out _).mono ?_
  rintro e w2 ⟨a2, n2, c2, rfl, hn2, hc2, hm2, hs2, b2⟩
  have T1 := Lib.hid (T1.out.below b2)
  have T2 := Lib.hid (show TL w2 a2 n2 c2 Lb from ⟨hn2, hc2, hm2, hs2⟩)
  have B2 := Lib.hid (B1.out.trans (b2.mono B1.out.size))
  clear hn2 hc2 hm2 hs2 b2 q2
  go_wp2_with fail
  with_reducible refine (q3.out _).mono ?_
  rintro e w3 ⟨a3, n3, c3, rfl, hn3, hc3, hm3, hs3, b3⟩
  have T1 := Lib.hid (T1.out.below b3)
  have T2 := Lib.hid (T2.out.below b3)
  have T3 := Lib.hid (show TL w3 a3 n3 c3 Lc from ⟨hn3, hc3, hm3, hs3⟩)
  have B3 := Lib.hid (B2.out.trans (b3.mono B2.out.size))
  clear hn3 hc3 hm3 hs3 b3 q3
  go_wp2_with fail
  with_reducible refine (qlv.out _).mono ?_
  rintro e w4 ⟨rfl, b4⟩
  have B4 := Lib.hid (B3.out.trans (b4.mono B3.out.size))
  clear b4
  go_wp2_with fail
  with_reducible refine (qlv.out _).mono ?_
  rintro e w5 ⟨rfl, b5⟩
  have B5 := Lib.hid (B4.out.trans (b5.mono B4.out.size))
  clear b5
  go_wp2
  go_ret
  exact ⟨rfl, B5.out⟩
set_option maxRecDepth 100000 in
set_option maxHeartbeats 4000000 in
theorem lines_half (w : World) (a b : ByteArray) (g0 : ¬ 2000 < a.size) (g1 : ¬ 2000 < b.size) (he : (tokO (codes a)).2.2.2 = 0) (hf : (tokO (codes b)).2.2.2 ≠ 0) : Calls Try.prog 6 #[.string a, .string b] w (Gives (.bool true) w) := by
  have gai : ¬ (2000 : Int) < (a.size : Int) := by omega
  have gbi : ¬ (2000 : Int) < (b.size : Int) := by omega
  have hca := codes_length a
  have hcb := codes_length b
  have hab := ba_app_size a b
  have hov : ¬ 9223372036854775807 < a.size + b.size := by omega
  have q1 := Lib.hid (fun W => tokens_any a (by omega) W)
  have q2 := Lib.hid (fun W => tokens_any b (by omega) W)
  have q3 := Lib.hid (fun W => tokens_any (a ++ b) (by omega) W)
  have qlv := Lib.hid (fun W => xlives_any W)
  have BA := tok_bound (b := codes a) (by omega)
  have BB := tok_bound (b := codes b) (by omega)
  have BC := tok_bound (b := codes (a ++ b)) (by rw [codes_length]; omega)
  rw [codes_length] at BA BB BC
  have HA := fun h => tok_app (a := codes a) (b := codes b) (by omega) (by omega) h
  rw [← codes_app] at HA
  clear hca hcb
  generalize tokO (codes a) = ra at *
  generalize tokO (codes b) = rb at *
  generalize tokO (codes (a ++ b)) = rc at *
  obtain ⟨La, na, xa, ea⟩ := ra
  obtain ⟨Lb, nb, xb, eb⟩ := rb
  obtain ⟨Lc, nc, xc, ec⟩ := rc
  simp only at BA BB BC HA he hf
  obtain ⟨rfl, hR⟩ := (HA he).2 hf
  injection hR with r1 hR
  injection hR with r2 hR
  injection hR with r3 r4
  subst r2 r3 r4
  have hna := BA.2.2
  have hnb := BB.2.2
  clear hf HA BA BB BC hab r1
  have hna2 : na ≤ 2001 := by omega
  have hnb2 : nb ≤ 2001 := by omega
  clear g0 g1
  subst he
  go_enter Try.func6, Try.ntmps6
  go_wp2_with fail
  with_reducible refine (q1.out _).mono ?_
  rintro e w1 ⟨a1, n1, c1, rfl, hn1, hc1, hm1, hs1, b1⟩
  have T1 := Lib.hid (show TL w1 a1 n1 c1 La from ⟨hn1, hc1, hm1, hs1⟩)
  have B1 := Lib.hid b1
  clear hn1 hc1 hm1 hs1 b1 q1
  go_wp2_with fail
  with_reducible refine (q2.out _).mono ?_
  rintro e w2 ⟨a2, n2, c2, rfl, hn2, hc2, hm2, hs2, b2⟩
  have T1 := Lib.hid (T1.out.below b2)
  have T2 := Lib.hid (show TL w2 a2 n2 c2 Lb from ⟨hn2, hc2, hm2, hs2⟩)
  have B2 := Lib.hid (B1.out.trans (b2.mono B1.out.size))
  clear hn2 hc2 hm2 hs2 b2 q2
  go_wp2_with fail
  with_reducible refine (q3.out _).mono ?_
  rintro e w3 ⟨a3, n3, c3, rfl, hn3, hc3, hm3, hs3, b3⟩
  have T1 := Lib.hid (T1.out.below b3)
  have T2 := Lib.hid (T2.out.below b3)
  have T3 := Lib.hid (show TL w3 a3 n3 c3 Lc from ⟨hn3, hc3, hm3, hs3⟩)
  have B3 := Lib.hid (B2.out.trans (b3.mono B2.out.size))
  clear hn3 hc3 hm3 hs3 b3 q3
  go_wp2_with fail
  with_reducible refine (qlv.out _).mono ?_
  rintro e w4 ⟨rfl, b4⟩
  have B4 := Lib.hid (B3.out.trans (b4.mono B3.out.size))
  clear b4
  go_wp2
  go_ret
  exact ⟨rfl, B4.out⟩
set_option maxRecDepth 100000 in
set_option maxHeartbeats 4000000 in
theorem lines_all (w : World) (a b : ByteArray) (g0 : ¬ 2000 < a.size) (g1 : ¬ 2000 < b.size) (he : (tokO (codes a)).2.2.2 = 0) (hf : (tokO (codes b)).2.2.2 = 0) : Calls Try.prog 6 #[.string a, .string b] w (Gives (.bool true) w) := by
  obtain ⟨i0, z0, hi, hz, h4, h40, hz4⟩ := infoTokZ
  have gai : ¬ (2000 : Int) < (a.size : Int) := by omega
  have gbi : ¬ (2000 : Int) < (b.size : Int) := by omega
  have hca := codes_length a
  have hcb := codes_length b
  have hab := ba_app_size a b
  have hov : ¬ 9223372036854775807 < a.size + b.size := by omega
  have q1 := Lib.hid (fun W => tokens_any a (by omega) W)
  have q2 := Lib.hid (fun W => tokens_any b (by omega) W)
  have q3 := Lib.hid (fun W => tokens_any (a ++ b) (by omega) W)
  have qlv := Lib.hid (fun W => xlives_any W)
  have BA := tok_bound (b := codes a) (by omega)
  have BB := tok_bound (b := codes b) (by omega)
  have BC := tok_bound (b := codes (a ++ b)) (by rw [codes_length]; omega)
  rw [codes_length] at BA BB BC
  have HA := fun h => tok_app (a := codes a) (b := codes b) (by omega) (by omega) h
  rw [← codes_app] at HA
  clear hca hcb
  generalize tokO (codes a) = ra at *
  generalize tokO (codes b) = rb at *
  generalize tokO (codes (a ++ b)) = rc at *
  obtain ⟨La, na, xa, ea⟩ := ra
  obtain ⟨Lb, nb, xb, eb⟩ := rb
  obtain ⟨Lc, nc, xc, ec⟩ := rc
  simp only at BA BB BC HA he hf
  have hR := (HA he).1 hf
  injection hR with r1 hR
  injection hR with r2 hR
  injection hR with r3 r4
  subst r1 r2 r3 r4
  have hna := BA.2.2
  have hnb := BB.2.2
  have hLa := BA.1
  have hLb := BB.1
  have hln := Lib.hid BB.2.1
  clear HA BA BB BC hab
  have hna2 : na ≤ 2001 := by omega
  have hnb2 : nb ≤ 2001 := by omega
  have hla : La.length ≤ 4000 := by omega
  have hlb : Lb.length ≤ 4000 := by omega
  have hln : Hid (∀ t ∈ Lb, 0 ≤ t.ln ∧ t.ln ≤ 2001) := Lib.hid (fun t ht => by have := hln.out t ht; omega)
  clear g0 g1 hLa hLb
  subst he hf
  go_enter Try.func6, Try.ntmps6
  go_wp2_with fail
  with_reducible refine (q1.out _).mono ?_
  rintro e w1 ⟨a1, n1, c1, rfl, hn1, hc1, hm1, hs1, b1⟩
  have T1 := Lib.hid (show TL w1 a1 n1 c1 La from ⟨hn1, hc1, hm1, hs1⟩)
  have B1 := Lib.hid b1
  clear hn1 hc1 hm1 hs1 b1 q1
  go_wp2_with fail
  with_reducible refine (q2.out _).mono ?_
  rintro e w2 ⟨a2, n2, c2, rfl, hn2, hc2, hm2, hs2, b2⟩
  have T1 := Lib.hid (T1.out.below b2)
  have T2 := Lib.hid (show TL w2 a2 n2 c2 Lb from ⟨hn2, hc2, hm2, hs2⟩)
  have B2 := Lib.hid (B1.out.trans (b2.mono B1.out.size))
  clear hn2 hc2 hm2 hs2 b2 q2
  go_wp2_with fail
  with_reducible refine (q3.out _).mono ?_
  rintro e w3 ⟨a3, n3, c3, rfl, hn3, hc3, hm3, hs3, b3⟩
  have T1 := Lib.hid (T1.out.below b3)
  have T2 := Lib.hid (T2.out.below b3)
  have T3 := Lib.hid (show TL w3 a3 n3 c3 (La ++ shL na Lb) from ⟨hn3, hc3, hm3, hs3⟩)
  have B3 := Lib.hid (B2.out.trans (b3.mono B2.out.size))
  clear hn3 hc3 hm3 hs3 b3 q3
  go_wp2_with fail
  with_reducible refine (qlv.out _).mono ?_
  rintro e w4 ⟨rfl, b4⟩
  have T1 := Lib.hid (T1.out.below b4)
  have T2 := Lib.hid (T2.out.below b4)
  have T3 := Lib.hid (T3.out.below b4)
  have B4 := Lib.hid (B3.out.trans (b4.mono B3.out.size))
  clear b4
  have hn1 := T1.out.len
  have hn2 := T2.out.len
  have hn1' : n1 ≤ 4000 := by omega
  have hn2' : n2 ≤ 4000 := by omega
  have hl1 : (tcells La).length = n1 * 4 := by unfold tcells; rw [flat_len (k := 4) (fun _ => rfl), hn1]
  clear hn1 hla hlb
  have hn2' := Lib.hid hn2'
  have hn2e := Lib.hid hn2
  clear hn2
  go_wp2_with (at_builtin; go_loud (refine wpList_append_cellsB _ rfl (.tmp 76) (.tmp 77) 23 rfl w4 36 i0 z0 4 40 Try.underlying23 hi hz h4 h40 hz4 (by omega) _ 0 [] (own_cells w4 36 4 0 #[] rfl (by decide)) (lit_below w4 _) _ a1 n1 c1 (tcells La) hl1 (T1.out.below (lit_below w4 _)).sees (fun u hu => tcells_one hu) rfl rfl (by unfold maxLen; omega) (by omega) ?_; intro v5 w5 o5 b5; have O5 := Lib.hid o5; have B5 := Lib.hid b5; clear o5 b5))
  go_loopw [17, 18] (fun v x wr => ∃ k : Nat, k ≤ n2 ∧ x = .int .i64 k ∧ Hid (wr.ownsRow w4.heap.size 36 4 v (n1 + k) (tcells (La ++ shL na (Lb.take k)))) ∧ Hid (Below w4.heap.size w4 wr)) (fun _ x _ => n2 - (intOf x).toNat)
  case atStart => exact ⟨0, by omega, rfl, Lib.hid (by have := O5.out; simpa [shL] using this), B5⟩
  case round =>
    obtain ⟨k, hk, rfl, hown, hb⟩ := hrel
    by_cases hlt : k < n2
    · have hki : (k : Int) < (n2 : Int) := by omega
      have hkl : k < Lb.length := by rw [← hn2e.out]; exact hlt
      obtain ⟨bb, off, hA, -, x0, x1, x2, x3⟩ := (T2.out.below hb.out).at_ (k := k) hkl
      subst hA
      have hnx : Hid (tcells (La ++ shL na (Lb.take (k + 1))) = tcells (La ++ shL na (Lb.take k)) ++ [.int .i64 (Lb.getD k tk0).k, .int .i64 ((Lb.getD k tk0).ln + na), .int .i64 (Lb.getD k tk0).cl, .string (Lb.getD k tk0).tx]) := Lib.hid (by rw [shL_take hkl, ← List.append_assoc, tcells_app]; rfl)
      have hbd := hln.out (Lb.getD k tk0) (by simp [List.getD, hkl])
      generalize (Lb.getD k tk0).k = tk at *
      generalize (Lb.getD k tk0).ln = tl at *
      generalize (Lb.getD k tk0).cl = tc at *
      generalize (Lb.getD k tk0).tx = tx at *
      have hb1 := hbd.1
      have hb2 := hbd.2
      clear hbd
      have b6 : Below w4.heap.size w4 ((wr.alloc (.cells #[.int .i64 tk, .int .i64 (tl + na), .int .i64 tc, .string tx] 36)).alloc (.cells #[.int .i64 tk, .int .i64 (tl + na), .int .i64 tc, .string tx] 36)) := (hb.out.trans ((lit_below wr _).mono hb.out.size)).trans ((lit_below (wr.alloc (.cells #[.int .i64 tk, .int .i64 (tl + na), .int .i64 tc, .string tx] 36)) _).mono ((hb.out.trans ((lit_below wr _).mono hb.out.size)).size))
      have o6 := (hown.out.alloc (.cells #[.int .i64 tk, .int .i64 (tl + na), .int .i64 tc, .string tx] 36)).alloc (.cells #[.int .i64 tk, .int .i64 (tl + na), .int .i64 tc, .string tx] 36)
      have s6 := seesC_lit (wr.alloc (.cells #[.int .i64 tk, .int .i64 (tl + na), .int .i64 tc, .string tx] 36)) 36 #[.int .i64 tk, .int .i64 (tl + na), .int .i64 tc, .string tx]
      rw [show (wr.alloc (.cells #[.int .i64 tk, .int .i64 (tl + na), .int .i64 tc, .string tx] 36)).heap.size = wr.heap.size + 1 by simp] at s6
      have B6 := Lib.hid b6
      have O6 := Lib.hid o6
      have S6 := Lib.hid s6
      clear b6 o6 s6 hown hb
      go_wp2_with (at_builtin; go_loud (refine wpList_append_cellsB _ rfl (.tmp 94) (.tmp 96) 23 rfl w4 36 i0 z0 4 40 Try.underlying23 hi hz h4 h40 hz4 (by omega) _ (n1 + k) _ O6.out B6.out _ _ 1 1 [.int .i64 tk, .int .i64 (tl + na), .int .i64 tc, .string tx] rfl S6.out (by intro u hu; simp at hu; rcases hu with rfl | rfl | rfl | rfl <;> rfl) rfl rfl (by unfold maxLen; omega) (by omega) ?_; intro v7 w7 o7 b7; have O7 := Lib.hid o7; have B7 := Lib.hid b7; clear o7 b7))
      go_roundw
      case rel => exact ⟨k + 1, by omega, by go_num, Lib.hid (by have := O7.out; rw [← hnx.out] at this; exact this), B7⟩
      case measure => simp [intOf]; omega
    · have hke : k = n2 := by omega
      have htk : Lb.take k = Lb := List.take_of_length_le (by have := hn2e.out; omega)
      rw [htk] at hown
      obtain ⟨a6, c6, rfl, hc6, hm6, hs6⟩ := seesC_own hown.out
      subst hke
      have T6 := Lib.hid (show TL wr a6 (n1 + k) c6 (La ++ shL na Lb) from ⟨by rw [T1.out.len, hn2e.out, List.length_append, shL_len], hc6, hm6, hs6⟩)
      have T7 := Lib.hid (T3.out.below hb.out)
      have hn3 : n3 = n1 + k := by rw [T3.out.len, T1.out.len, hn2e.out, List.length_append, shL_len]
      have q := rsame_any true a3 a6 n3 (n1 + k) c3 c6 (La ++ shL na Lb) (La ++ shL na Lb) (by have := hn2'.out; omega) wr T7.out T6.out
      rw [sameB_self] at q
      have q := Lib.hid q
      clear hown hc6 hm6 hs6 htk hn3
      go_wp2_with fail
      with_reducible refine q.out.mono ?_
      rintro e w9 ⟨rfl, b9⟩
      have B9 := Lib.hid (B4.out.trans ((hb.out.trans (b9.mono hb.out.size)).mono B4.out.size))
      clear b9
      go_wp2
      go_ret
      exact ⟨rfl, B9.out⟩
theorem lexLines_walk (w : World) (a : ByteArray) (wa : a.size ≤ 9223372036854775807) (ha : a.size ≤ 140737488351232) (b : ByteArray) (wb : b.size ≤ 9223372036854775807) (hb : b.size ≤ 140737488351232) : Calls Try.prog 6 #[.string a, .string b] w (Gives (.bool true) w) := by
  by_cases g0 : 2000 < a.size
  · exact lines_g1 w a b g0
  by_cases g1 : 2000 < b.size
  · exact lines_g2 w a b g0 g1
  by_cases he : (tokO (codes a)).2.2.2 = 0
  · by_cases hf : (tokO (codes b)).2.2.2 = 0
    · exact lines_all w a b g0 g1 he hf
    · exact lines_half w a b g0 g1 he hf
  · exact lines_bad w a b g0 g1 he
end Go.Proofs.Ytplgfghffeijcaa
