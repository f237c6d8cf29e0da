/- LexShows: the walk of the statement's function. -/
import Derived.Test.YtplgfghffeijcaaLexShowRef2
import Derived.Test.YtplgfghffeijcaaLexSameKeys
import Derived.Test.YtplgfghffeijcaaLexLives
import Derived.Test.YtplgfghffeijcaaSized
namespace Go.Proofs.Ytplgfghffeijcaa
open Go.RowKit Go.ChangeShapes Go.WideShapes Go.Deep
set_option linter.unusedVariables false
set_option linter.unusedSimpArgs false

/-- Tokens that were handed over. -/
def TokSl (w : World) (a : Option Addr) (n c : Nat) : Prop := ∃ l, TL w a n c l ∧ TxB l 140737488351232 ∧ n ≤ 140737488351232
theorem tok_bytes : Try.prog.bytesOf 36 = 40 := by kernel_rfl
theorem tok_row {H : Type} {enc : TypeId × Value → H} {w : World} {fuel : Nat} {r : Option Addr} {len cap : Nat} {x : DataW H × List MemPlace}
    (h : DataW.trod enc Try.prog w 0 (fun _ => true) true fuel 23 [.slice r len cap] = some x) (hR : Reach Try.prog 23 x.1) : TokSl w r len cap := by
  obtain ⟨h1, h2, h3⟩ := struct_row_sized Try.underlying23 Try.underlying36 (by kernel_rfl) (by kernel_rfl) (by decide) h hR
  rcases h3 with rfl | ⟨hbl, b, off, rfl, hlt, h3⟩
  · exact ⟨[], ⟨rfl, h1, h2, .inl rfl⟩, fun t ht => by simp at ht, by omega⟩
  · rw [tok_bytes] at hbl
    have key : ∀ i, ∃ t : Tk, i < len → w.cell? ⟨b, off + i * 4, none⟩ = some (.int .i64 t.k) ∧ w.cell? ⟨b, off + (i * 4 + 1), none⟩ = some (.int .i64 t.ln) ∧ w.cell? ⟨b, off + (i * 4 + 2), none⟩ = some (.int .i64 t.cl) ∧ w.cell? ⟨b, off + (i * 4 + 3), none⟩ = some (.string t.tx) ∧ t.tx.size ≤ 140737488351232 := by
      intro i
      by_cases hi : i < len
      · obtain ⟨v0, y0, n0, c0, t0, -⟩ := h3 i hi 0 _ rfl
        obtain ⟨v1, y1, n1, c1, t1, -⟩ := h3 i hi 1 _ rfl
        obtain ⟨v2, y2, n2, c2, t2, -⟩ := h3 i hi 2 _ rfl
        obtain ⟨v3, y3, n3, c3, t3, r3⟩ := h3 i hi 3 _ rfl
        obtain ⟨k, e0, _, _⟩ := DataW.trod_int Try.underlying3 t0
        obtain ⟨m, e1, _, _⟩ := DataW.trod_int Try.underlying3 t1
        obtain ⟨q, e2, _, _⟩ := DataW.trod_int Try.underlying3 t2
        obtain ⟨z, e3, ez, wz⟩ := DataW.trod_string Try.underlying9 t3
        rw [ez] at r3
        have r4 := reach_string r3
        simp at e0 e1 e2 e3
        subst e0 e1 e2 e3
        exact ⟨⟨k, m, q, z⟩, fun _ => ⟨c0, c1, c2, c3, r4⟩⟩
      · exact ⟨tk0, fun h => absurd h hi⟩
    let T : Nat → Tk := fun i => Classical.choose (key i)
    have hT : ∀ i, i < len → w.cell? ⟨b, off + i * 4, none⟩ = some (.int .i64 (T i).k) ∧ w.cell? ⟨b, off + (i * 4 + 1), none⟩ = some (.int .i64 (T i).ln) ∧ w.cell? ⟨b, off + (i * 4 + 2), none⟩ = some (.int .i64 (T i).cl) ∧ w.cell? ⟨b, off + (i * 4 + 3), none⟩ = some (.string (T i).tx) ∧ (T i).tx.size ≤ 140737488351232 := fun i hi => Classical.choose_spec (key i) hi
    have hlen : ((List.range len).map T).length = len := by simp
    refine ⟨(List.range len).map T, ⟨hlen.symm, h1, h2, .inr ⟨b, off, rfl, hlt, fun i u hu => ?_⟩⟩, fun t ht => ?_, by omega⟩
    · have hil : i < len * 4 := by
        have := (List.getElem?_eq_some_iff.1 hu).1
        rw [tcells_len, hlen] at this
        exact this
      have hq : i / 4 < len := by omega
      have hm : i % 4 < 4 := Nat.mod_lt _ (by omega)
      have hg : ((List.range len).map T).getD (i / 4) tk0 = T (i / 4) := by simp [List.getD, hq]
      have hc := tcells_at (l := (List.range len).map T) (i := i / 4) (by rw [hlen]; exact hq) (i % 4) hm
      rw [show i / 4 * 4 + i % 4 = i by omega, hu, hg] at hc
      obtain ⟨k0, k1, k2, k3, -⟩ := hT (i / 4) hq
      have hcase : i % 4 = 0 ∨ i % 4 = 1 ∨ i % 4 = 2 ∨ i % 4 = 3 := by omega
      rcases hcase with e | e | e | e <;> rw [e] at hc <;> simp [tcell] at hc <;> subst hc
      · rw [show off + i = off + (i / 4 * 4) by omega]; exact k0
      · rw [show off + i = off + (i / 4 * 4 + 1) by omega]; exact k1
      · rw [show off + i = off + (i / 4 * 4 + 2) by omega]; exact k2
      · rw [show off + i = off + (i / 4 * 4 + 3) by omega]; exact k3
    · obtain ⟨i, hi, rfl⟩ := List.mem_map.1 ht
      exact (hT i (by simpa using hi)).2.2.2.2
theorem showF_len (l : List Tk) : ∀ f, (showF f l).length ≤ 2 * sumT l + 3 * l.length := by
  induction l with
  | nil => intro f; simp [showF]
  | cons t r ih =>
    intro f
    rw [showF_cons, List.length_append]
    unfold sumT
    have h1 := ih (decide (t.k = 3))
    have h2 := written_len t (Nat.le_refl t.tx.size)
    have h3 : (pieceL f t).length ≤ (writtenL t).length + 1 := by
      unfold pieceL
      rw [List.length_append]
      split <;> simp only [List.length_cons, List.length_nil] <;> omega
    simp only [List.length_cons]
    omega
theorem bs_show (l : List Tk) : ∀ f, Bs (showF f l) := by
  induction l with
  | nil => intro f x hx; simp [showF] at hx
  | cons t r ih =>
    intro f
    rw [showF_cons]
    refine bs_app ?_ (ih _)
    unfold pieceL
    refine bs_app ?_ (bs_written t)
    split
    · exact bs_lit (by decide)
    · exact bs_lit (by decide)
set_option maxRecDepth 100000 in
set_option maxHeartbeats 4000000 in
theorem lexShows_walk (w : World) (a : Option Addr) (n c : Nat) (h : TokSl w a n c) : Calls Try.prog 4 #[.slice a n c] w (Gives (.bool true) w) := by
  obtain ⟨l, hT, hx, hn⟩ := h
  have qlv := Lib.hid (fun W => xlives_any W)
  have qlg := Lib.hid (rlarge_any a n c l hx (by omega) w hT)
  have T0 := Lib.hid hT
  have hlen := hT.len
  clear hT
  cases hL : largeL l
  · have hs : sumT l ≤ 5000 ∧ l.length ≤ 500 := by
      unfold largeL at hL
      simp at hL
      omega
    have hx5 : TxB l 5000 := fun t ht => Nat.le_trans (tx_le t ht) hs.1
    have hsl := showF_len l true
    have hn5 : n ≤ 500 := by omega
    have q1 := Lib.hid (fun W h => show_any a n c l (fun t ht => by have := hx5 t ht; omega) (by omega) W h)
    have q2 := Lib.hid (fun W h => rshow_any a n c l hx5 hn5 W h)
    rw [hL] at qlg
    have hb := bs_show l true
    have hss := strOfNums_size (showF true l)
    cases hA : areF true l
    · have e1 : showO l = ([], 1) := by unfold showO; rw [if_pos hA]
      have e2 : (rshowO l).2 = false := by
        unfold rshowO
        rw [areF_is] at hA
        cases h1 : areT true l
        · rfl
        · rw [h1, Bool.true_and] at hA; rw [if_pos rfl]; exact hA
      have hem : (strOfNums []).toList.isEmpty = true := by rw [str_empty]; rfl
      rw [e1] at q1
      rw [e2] at q2
      generalize strOfNums (rshowO l).1 = z at *
      clear hs hx hx5 hsl hL hA e1 e2 hb hss hlen
      go_enter Try.func4, Try.ntmps4
      go_wp2_with fail
      refine qlg.out.mono ?_
      rintro e w1 ⟨rfl, rfl⟩
      go_wp2_with fail
      refine (q1.out _ T0.out).mono ?_
      rintro e w1 ⟨rfl, b1⟩
      have B1 := Lib.hid b1
      have T1 := Lib.hid (T0.out.below b1)
      clear b1 q1 T0
      go_wp2_with fail
      refine (q2.out _ T1.out).mono ?_
      rintro e w2 ⟨rfl, b2⟩
      have B2 := Lib.hid (B1.out.trans (b2.mono B1.out.size))
      clear b2 q2
      go_wp2_with fail
      refine (qlv.out _).mono ?_
      rintro e w3 ⟨rfl, b3⟩
      have B3 := Lib.hid (B2.out.trans (b3.mono B2.out.size))
      clear b3 qlv
      go_wp2
      go_ret
      exact ⟨rfl, B3.out⟩
    · have e1 : showO l = (showF true l, 0) := by unfold showO; rw [if_neg (by rw [hA]; simp), if_neg (by omega)]
      have e2 : rshowO l = (showF true l, true) := by
        unfold rshowO
        rw [areF_is, Bool.and_eq_true] at hA
        rw [hA.1, hA.2]
        rfl
      obtain ⟨L', n', e3, e4⟩ := tok_show hA (by omega)
      have q3 := Lib.hid (fun W => tokens_any (strOfNums (showF true l)) (by omega) W)
      rw [codes_str hb, e3] at q3
      have hn' : L'.length = l.length := by
        unfold sameB at e4
        rw [Bool.and_eq_true, decide_eq_true_eq] at e4
        exact e4.1
      have q4 := Lib.hid (fun a1 c1 W (h1 : TL W a1 n c1 L') (h2 : TL W a n c l) => rsame_any false a1 a n n c1 c L' l (by omega) W h1 h2)
      rw [e4] at q4
      rw [e1] at q1
      rw [e2] at q2
      have hn2 := Lib.hid (hn'.trans hlen.symm)
      clear hs hx hx5 hsl hL hA e1 e2 e3 e4 hb hss hn' hlen
      generalize showF true l = z at *
      go_enter Try.func4, Try.ntmps4
      go_wp2_with fail
      refine qlg.out.mono ?_
      rintro e w1 ⟨rfl, rfl⟩
      go_wp2_with fail
      refine (q1.out _ T0.out).mono ?_
      rintro e w1 ⟨rfl, b1⟩
      have B1 := Lib.hid b1
      have T1 := Lib.hid (T0.out.below b1)
      clear b1 q1 T0
      go_wp2_with fail
      refine (q2.out _ T1.out).mono ?_
      rintro e w2 ⟨rfl, b2⟩
      have T2 := Lib.hid (T1.out.below b2)
      have B2 := Lib.hid (B1.out.trans (b2.mono B1.out.size))
      clear b2 q2 T1
      go_wp2_with fail
      refine (qlv.out _).mono ?_
      rintro e w3 ⟨rfl, b3⟩
      have T3 := Lib.hid (T2.out.below b3)
      have B3 := Lib.hid (B2.out.trans (b3.mono B2.out.size))
      clear b3 qlv T2
      go_wp2_with fail
      refine (q3.out _).mono ?_
      rintro e w4 ⟨a4, n4, c4, rfl, hn4, hc4, hm4, hs4, b4⟩
      obtain rfl : n4 = n := hn4.trans hn2.out
      have T4 := Lib.hid (show TL w4 a4 n4 c4 L' from ⟨hn4, hc4, hm4, hs4⟩)
      have T5 := Lib.hid (T3.out.below b4)
      have B4 := Lib.hid (B3.out.trans (b4.mono B3.out.size))
      have Q4 := Lib.hid (q4.out a4 c4 w4 T4.out T5.out)
      clear hn4 hc4 hm4 hs4 b4 q3 q4 T3
      go_wp2_with fail
      refine Q4.out.mono ?_
      rintro e w5 ⟨rfl, b5⟩
      have B5 := Lib.hid (B4.out.trans (b5.mono B4.out.size))
      clear b5 Q4
      go_wp2
      go_ret
      exact ⟨rfl, B5.out⟩
  · rw [hL] at qlg
    clear hlen hL hx
    go_enter Try.func4, Try.ntmps4
    go_wp2_with fail
    refine qlg.out.mono ?_
    rintro e w1 ⟨rfl, rfl⟩
    go_wp2_with fail
    refine (qlv.out _).mono ?_
    rintro e w1 ⟨rfl, b1⟩
    have B1 := Lib.hid b1
    clear b1
    go_wp2
    go_ret
    exact ⟨rfl, B1.out⟩
end Go.Proofs.Ytplgfghffeijcaa
