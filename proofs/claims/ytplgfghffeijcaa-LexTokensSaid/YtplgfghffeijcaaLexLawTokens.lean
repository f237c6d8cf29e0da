/- LexTokens: the walk of the statement's function. -/
import Derived.Test.YtplgfghffeijcaaLexRef4
import Derived.Test.YtplgfghffeijcaaLexLinesMath
import Derived.Test.YtplgfghffeijcaaLexLives
namespace Go.Proofs.Ytplgfghffeijcaa
open Go.RowKit
set_option linter.unusedVariables false
set_option linter.unusedSimpArgs false

/-- The tokens' texts are no longer than the text. -/
theorem run_tx : ∀ (b : List Int) (m : Md) (s : Sg) (n : Nat) (m' : Md) (s' : Sg), (∀ t ∈ s.L, t.tx.size ≤ n) → s.T.length ≤ n → runS m s b = .inr (m', s') → (∀ t ∈ s'.L, t.tx.size ≤ n + b.length) ∧ s'.T.length ≤ n + b.length
  | [], m, s, n, m', s', h1, h2, hr => by
    simp only [runS] at hr
    injection hr with hr; injection hr with e1 e2; subst e1 e2
    exact ⟨h1, h2⟩
  | c :: r, m, s, n, m', s', h1, h2, hr => by
    simp only [runS] at hr
    cases hq : stepS m s c with
    | inl e => rw [hq] at hr; cases hr
    | inr p =>
      obtain ⟨m1, s1⟩ := p
      rw [hq] at hr
      have k : (∀ t ∈ s1.L, t.tx.size ≤ n + 1) ∧ s1.T.length ≤ n + 1 := by
        have hd : ∀ u : Sg, (∀ t ∈ u.L, t.tx.size ≤ n + 1) → u.T.length ≤ n + 1 → (∀ t ∈ u.done.L, t.tx.size ≤ n + 1) ∧ u.done.T.length ≤ n + 1 := fun u a b => ⟨fun t ht => by
          simp only [Sg.done, List.mem_append, List.mem_singleton] at ht
          rcases ht with ht | rfl
          · exact a t ht
          · simp only [strOfNums_size]; exact b, b⟩
        have h1' : ∀ t ∈ s.L, t.tx.size ≤ n + 1 := fun t ht => by have := h1 t ht; omega
        have hst : ∀ (u : Sg) (k : Int), (∀ t ∈ u.L, t.tx.size ≤ n + 1) → (∀ t ∈ (u.start k).L, t.tx.size ≤ n + 1) ∧ (u.start k).T.length ≤ n + 1 := fun u k a => ⟨a, by simp [Sg.start]⟩
        have ht : (∀ t ∈ (takeS m { s with op := true } c).2.L, t.tx.size ≤ n + 1) ∧ (takeS m { s with op := true } c).2.T.length ≤ n + 1 := by
          have hs0 : s.T.length ≤ n + 1 := by omega
          cases m <;> simp only [takeS, begS, wrdS, quoS, escS, behS] <;> (repeat' split) <;> first
            | exact ⟨h1', hs0⟩
            | exact ⟨h1', by simp [Sg.push]; omega⟩
            | exact hst _ _ h1'
            | exact ⟨h1', by simp [Sg.start, Sg.push]⟩
            | exact hd _ h1' hs0
            | exact hd _ h1' (by simp [Sg.start])
            | exact hd _ (hd _ h1' hs0).1 (by simp [Sg.start])
        unfold stepS at hq
        split at hq
        · cases hq
        · rename_i mm u hu
          rw [hu] at ht
          injection hq with hq; injection hq with e1 e2; subst e1 e2
          unfold Sg.next
          split <;> exact ht
      have := run_tx r m1 s1 (n + 1) m' s' k.1 k.2 hr
      rw [List.length_cons, show n + (r.length + 1) = n + 1 + r.length by omega]
      exact this
theorem tok_tx {b : List Int} (hb : b.length ≤ 1048576) : TxB (tokO b).1 b.length := by
  intro t ht
  unfold tokO at ht
  rw [if_neg (by omega)] at ht
  cases hr : runS .beg sg0 b with
  | inl e => rw [hr] at ht; obtain ⟨x, y⟩ := e; simp [endS] at ht
  | inr p =>
    obtain ⟨m, s⟩ := p
    rw [hr] at ht
    simp only [endS] at ht
    have k := run_tx b .beg sg0 0 m s (by simp [sg0]) (by simp [sg0]) hr
    split at ht
    · simp at ht
    · have := k.1 t ht; omega
theorem tok_err {b : List Int} (hb : b.length ≤ 1048576) : (tokO b).2.2.2 = 0 ∨ (tokO b).2.2.2 = 230 := by
  unfold tokO
  rw [if_neg (by omega)]
  cases hr : runS .beg sg0 b with
  | inl e => obtain ⟨x, y⟩ := e; right; rfl
  | inr p =>
    obtain ⟨m, s⟩ := p
    simp only [endS]
    split
    · right; rfl
    · left; rfl
set_option maxRecDepth 100000 in
set_option maxHeartbeats 4000000 in
theorem lexTokens_walk (w : World) (s : ByteArray) (hw : s.size ≤ 9223372036854775807) (hq : s.size ≤ 140737488351232) : Calls Try.prog 3 #[.string s] w (Gives (.bool true) w) := by
  have qlv := Lib.hid (fun W => xlives_any W)
  by_cases hl : 3000 < s.size
  · have hli : (3000 : Int) < (s.size : Int) := by omega
    clear hl
    go_enter Try.func3, Try.ntmps3
    go_wp2_with fail
    refine (qlv.out _).mono ?_
    rintro e w1 ⟨rfl, b1⟩
    have B1 := Lib.hid b1
    clear b1
    go_wp2
    go_ret
    exact ⟨rfl, B1.out⟩
  have hli : ¬ (3000 : Int) < (s.size : Int) := by omega
  have hcl := codes_length s
  have q1 := Lib.hid (fun W => tokens_any s (by omega) W)
  have q2 := Lib.hid (fun W => rtokens_any s (by omega) W)
  have hB := tok_bound (b := codes s) (by omega)
  have hE := tok_err (b := codes s) (by omega)
  have hT := tok_tx (b := codes s) (by omega)
  have hS := fun L n x h => show_tok (b := codes s) (L := L) (n := n) (x := x) h
  have hLn : (tokO (codes s)).1.length ≤ 6000 := by omega
  rw [hcl] at hT
  clear hB hcl
  generalize hr : tokO (codes s) = r at *
  obtain ⟨L, n, m, x⟩ := r
  simp only at hE hT hLn
  have hov : (L.length : Int) ≤ 6000 := by omega
  obtain ⟨N, hN⟩ : ∃ N, L.length = N := ⟨_, rfl⟩
  have q4 := Lib.hid (fun a1 a2 c1 c2 W (h1 : TL W a1 N c1 L) (h2 : TL W a2 N c2 L) => rsame_any true a1 a2 N N c1 c2 L L (by omega) W h1 h2)
  rw [sameB_self] at q4
  rcases hE with rfl | rfl
  · have hSh := hS L n m rfl
    have q3 : Hid (∀ a c W, TL W a N c L → Calls Try.prog 12 #[.slice a N c] W fun e w' => e = .returned (.tuple #[.string s, .int .i64 0]) ∧ Below W.heap.size W w') := Lib.hid (fun a c W h => by
      have := show_any a N c L (fun t ht => by have := hT t ht; omega) (by omega) W h
      unfold ShowE at this
      rw [hSh] at this
      simp only [str_codes] at this
      exact this)
    clear hSh hS hT hLn hl hov hr
    go_enter Try.func3, Try.ntmps3
    go_wp2_with fail
    with_reducible refine (q1.out _).mono ?_
    rintro e w1 ⟨a1, n1, c1, rfl, hn1, hc1, hm1, hs1, b1⟩
    obtain rfl : n1 = N := hn1.trans hN
    have T1 := Lib.hid (show TL w1 a1 n1 c1 L from ⟨hn1, hc1, hm1, hs1⟩)
    have B1 := Lib.hid b1
    clear hn1 hc1 hm1 hs1 b1 q1
    go_wp2_with fail
    with_reducible refine (q2.out _).mono ?_
    rintro e w2 ⟨a2, n2, c2, rfl, hn2, hc2, hm2, hs2, b2⟩
    obtain rfl : n2 = n1 := hn2.trans hN
    have T1 := Lib.hid (T1.out.below b2)
    have T2 := Lib.hid (show TL w2 a2 n2 c2 L from ⟨hn2, hc2, hm2, hs2⟩)
    have B2 := Lib.hid (B1.out.trans (b2.mono B1.out.size))
    clear hn2 hc2 hm2 hs2 b2 q2
    go_wp2_with fail
    with_reducible refine (qlv.out _).mono ?_
    rintro e w3 ⟨rfl, b3⟩
    have T1 := Lib.hid (T1.out.below b3)
    have T2 := Lib.hid (T2.out.below b3)
    have B3 := Lib.hid (B2.out.trans (b3.mono B2.out.size))
    clear b3
    have Q4 := Lib.hid (q4.out a1 a2 c1 c2 w3 T1.out T2.out)
    clear q4
    go_wp2_with fail
    with_reducible refine Q4.out.mono ?_
    rintro e w4 ⟨rfl, b4⟩
    have T1 := Lib.hid (T1.out.below b4)
    have B4 := Lib.hid (B3.out.trans (b4.mono B3.out.size))
    have Q3 := Lib.hid (q3.out a1 c1 w4 T1.out)
    clear b4 q3 Q4
    go_wp2_with fail
    with_reducible refine Q3.out.mono ?_
    rintro e w5 ⟨rfl, b5⟩
    have B5 := Lib.hid (B4.out.trans (b5.mono B4.out.size))
    clear b5 Q3
    go_wp2
    go_ret
    exact ⟨rfl, B5.out⟩
  · have q3 : Hid (∀ a c W, TL W a N c L → Calls Try.prog 12 #[.slice a N c] W fun e w' => e = .returned (.tuple #[.string (strOfNums (showO L).1), .int .i64 (showO L).2]) ∧ Below W.heap.size W w') := Lib.hid (fun a c W h => show_any a N c L (fun t ht => by have := hT t ht; omega) (by omega) W h)
    generalize (showO L).2 = y at *
    generalize strOfNums (showO L).1 = z at *
    clear hS hT hLn hl hov hr
    go_enter Try.func3, Try.ntmps3
    go_wp2_with fail
    with_reducible refine (q1.out _).mono ?_
    rintro e w1 ⟨a1, n1, c1, rfl, hn1, hc1, hm1, hs1, b1⟩
    obtain rfl : n1 = N := hn1.trans hN
    have T1 := Lib.hid (show TL w1 a1 n1 c1 L from ⟨hn1, hc1, hm1, hs1⟩)
    have B1 := Lib.hid b1
    clear hn1 hc1 hm1 hs1 b1 q1
    go_wp2_with fail
    with_reducible refine (q2.out _).mono ?_
    rintro e w2 ⟨a2, n2, c2, rfl, hn2, hc2, hm2, hs2, b2⟩
    obtain rfl : n2 = n1 := hn2.trans hN
    have T1 := Lib.hid (T1.out.below b2)
    have T2 := Lib.hid (show TL w2 a2 n2 c2 L from ⟨hn2, hc2, hm2, hs2⟩)
    have B2 := Lib.hid (B1.out.trans (b2.mono B1.out.size))
    clear hn2 hc2 hm2 hs2 b2 q2
    go_wp2_with fail
    with_reducible refine (qlv.out _).mono ?_
    rintro e w3 ⟨rfl, b3⟩
    have T1 := Lib.hid (T1.out.below b3)
    have T2 := Lib.hid (T2.out.below b3)
    have B3 := Lib.hid (B2.out.trans (b3.mono B2.out.size))
    clear b3
    have Q4 := Lib.hid (q4.out a1 a2 c1 c2 w3 T1.out T2.out)
    clear q4
    go_wp2_with fail
    with_reducible refine Q4.out.mono ?_
    rintro e w4 ⟨rfl, b4⟩
    have T1 := Lib.hid (T1.out.below b4)
    have B4 := Lib.hid (B3.out.trans (b4.mono B3.out.size))
    have Q3 := Lib.hid (q3.out a1 c1 w4 T1.out)
    clear b4 q3 Q4
    go_wp2_with fail
    with_reducible refine Q3.out.mono ?_
    rintro e w5 ⟨rfl, b5⟩
    have B5 := Lib.hid (B4.out.trans (b5.mono B4.out.size))
    clear b5 Q3
    go_wp2
    go_ret
    exact ⟨rfl, B5.out⟩
end Go.Proofs.Ytplgfghffeijcaa
