/- LexQuotes: the walk of the statement's function. -/
import Derived.Test.YtplgfghffeijcaaLexMath
namespace Go.Proofs.Ytplgfghffeijcaa
open Go.RowKit
set_option linter.unusedVariables false
set_option linter.unusedSimpArgs false

theorem TL.first {w : World} {a : Option Addr} {n c : Nat} {t : Tk} {r : List Tk} (h : TL w a n c (t :: r)) : ∃ b off, a = some ⟨b, off, none⟩ ∧ b < w.heap.size ∧ w.cell? ⟨b, off, none⟩ = some (.int .i64 t.k) ∧ w.cell? ⟨b, off + 3, none⟩ = some (.string t.tx) := by
  obtain ⟨b, off, h1, h2, h3, -, -, h6⟩ := h.at_ (k := 0) (by simp)
  exact ⟨b, off, h1, h2, by simpa using h3, by simpa using h6⟩
set_option maxRecDepth 100000 in
set_option maxHeartbeats 4000000 in
theorem lexQuotes_walk (w : World) (s : ByteArray) (hw : s.size ≤ 9223372036854775807) (hq : s.size ≤ 140737488351232) : Calls Try.prog 5 #[.string s] w (Gives (.bool true) w) := by
  have qlv := Lib.hid (fun W => xlives_any W)
  by_cases hl : 1000 < s.size
  · have hli : (1000 : Int) < (s.size : Int) := by omega
    clear hl
    go_enter Try.func5, Try.ntmps5
    go_wp2_with fail
    refine (qlv.out _).mono ?_
    rintro e w1 ⟨rfl, b1⟩
    have B1 := Lib.hid b1
    clear b1
    go_wp2
    go_ret
    exact ⟨rfl, B1.out⟩
  have hli : ¬ (1000 : Int) < (s.size : Int) := by omega
  have hcl := codes_length s
  have q1 := Lib.hid (fun W => quote_any s (by omega) W)
  have q2 := Lib.hid (fun W => rquote_any s (by omega) W)
  have q3 := Lib.hid (fun W => isWord_any s W)
  have q4 := Lib.hid (fun W => rWord_any s (by omega) W)
  have hbs : Bs (quoteL (codes s) ++ [10]) := bs_app (bs_quote (codes_bs s)) (bs_lit (by decide))
  have hfl := flat_qb_len (codes s)
  have hql : (quoteL (codes s)).length ≤ 2002 := by unfold quoteL; simp only [List.length_append, List.length_cons, List.length_nil]; omega
  have q5 := fun W => tokens_any (strOfNums (quoteL (codes s) ++ [10])) (by rw [str_size, List.length_append]; simp; omega) W
  rw [codes_str hbs, tok_quote (codes s) (by omega), str_append, show strOfNums [10] = ⟨#[10]⟩ from rfl] at q5
  have q5 := Lib.hid q5
  have hfs : (strOfNums ((codes s).filter prB)).size ≤ s.size := by
    rw [str_size, ← hcl]
    exact List.length_filter_le _ _
  have hss := str_size (quoteL (codes s))
  clear hcl hbs hfl
  generalize quoteL (codes s) = Q at *
  generalize strOfNums ((codes s).filter prB) = T at *
  generalize wordL (codes s) = u at *
  have hov : ¬ 9223372036854775807 < Q.length + 1 := by omega
  have hti : (T.size : Int) ≤ (s.size : Int) := by omega
  clear hfs hl
  go_enter Try.func5, Try.ntmps5
  go_wp2_with fail
  with_reducible refine (q1.out _).mono ?_
  rintro e w1 ⟨rfl, b1⟩
  have B1 := Lib.hid b1
  clear b1
  go_wp2_with fail
  with_reducible refine (q5.out _).mono ?_
  rintro e w2 ⟨a2, n2, c2, rfl, hn2, hc2, hm2, hs2, b2⟩
  obtain rfl : n2 = 2 := hn2
  have T2 := Lib.hid (show TL w2 a2 2 c2 [⟨2, 1, 1, T⟩, ⟨3, 1, 1 + Q.length, ⟨#[]⟩⟩] from ⟨rfl, hc2, hm2, hs2⟩)
  have B2 := Lib.hid (B1.out.trans (b2.mono B1.out.size))
  clear hc2 hm2 hs2 b2 B1 q5
  go_wp2_with fail
  with_reducible refine (qlv.out _).mono ?_
  rintro e w3 ⟨rfl, b3⟩
  have T3 := Lib.hid (T2.out.below b3)
  have B3 := Lib.hid (B2.out.trans (b3.mono B2.out.size))
  clear b3 T2 B2 qlv
  go_wp2_with fail
  with_reducible refine (q1.out _).mono ?_
  rintro e w4 ⟨rfl, b4⟩
  have T4 := Lib.hid (T3.out.below b4)
  have B4 := Lib.hid (B3.out.trans (b4.mono B3.out.size))
  clear b4 T3 B3 q1
  go_wp2_with fail
  with_reducible refine (q2.out _).mono ?_
  rintro e w5 ⟨rfl, rfl⟩
  clear q2
  go_wp2_with fail
  with_reducible refine (q3.out _).mono ?_
  rintro e w5 ⟨rfl, b5⟩
  have T5 := T4.out.below b5
  have B5 := Lib.hid (B4.out.trans (b5.mono B4.out.size))
  obtain ⟨bb, off, rfl, -, k0, k3⟩ := T5.first
  clear b5 T4 B4 q3 T5
  go_wp2_with fail
  with_reducible refine (q4.out _).mono ?_
  rintro e w6 ⟨rfl, rfl⟩
  clear q4
  go_wp2
  go_ret
  exact ⟨rfl, B5.out⟩
end Go.Proofs.Ytplgfghffeijcaa
