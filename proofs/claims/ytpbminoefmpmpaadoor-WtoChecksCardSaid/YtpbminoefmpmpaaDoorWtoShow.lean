/- wto: Show. -/
import Derived.Test.YtpbminoefmpmpaaDoorWtoRef2
import Derived.Test.YtpbminoefmpmpaaDoorWtoText
import Derived.Test.YtpbminoefmpmpaaDoorTwoRows
import Derived.Test.YtpbminoefmpmpaaDoorTexts
import Derived.Test.YtpbminoefmpmpaaDoorValShow
namespace Go.Proofs.YtpbminoefmpmpaaDoor
open Go.RowKit
set_option linter.unusedVariables false
set_option linter.unusedSimpArgs false

theorem strB_app (a b : List UInt8) : strB a ++ strB b = strB (a ++ b) := by
  apply ByteArray.ext
  apply Array.toList_inj.1
  simp [strB]
theorem show_dig {p : Int} (h : 0 ≤ p ∧ p ≤ 127) : showV (clip p) = digP p := by
  rw [clip_id (by omega) (by omega), show_mid (by omega) (by omega)]
  unfold digP Lib.itoa
  rw [if_neg (by omega)]
theorem close_le (R : List Nat) (x : Nat) : closeN R x ≤ R.length := (List.takeWhile_prefix _).sublist.length_le
theorem ends_len (S : List Int) : ∀ m, (endsE S m).length ≤ m
  | 0 => Nat.le_refl _
  | m + 1 => by
    have h1 : (endsE S (m + 1)).length ≤ (openE S m (endsE S m)).length := (List.dropWhile_sublist _).length_le
    have h2 := ends_len S m
    unfold openE at h1
    split at h1
    · simp at h1; omega
    · omega
theorem open_len (S : List Int) (m : Nat) : (openE S m (endsE S m)).length ≤ m + 1 := by
  have h2 := ends_len S m
  unfold openE
  split
  · simp; omega
  · omega
/-- The texts of words. -/
def wrds (l : List (List UInt8)) : List Value := txts (l.map strB)
theorem wrds_snoc (l : List (List UInt8)) (x : List UInt8) : l.map strB ++ [strB x] = (l ++ [x]).map strB := by simp
/-- What stands at the head of Show's loop. -/
def ShR (W1 : World) (P S : List Int) (k : Nat) (R : List Nat) (vw ve : Value) (w : World) : Prop := TwoR W1 W1.heap.size 9 3 vw k (wrds (wordsL P S k)) ve R.length (nums .i64 (intsN R.reverse)) w
theorem words_len (P S : List Int) (k : Nat) : (wordsL P S k).length = k := by simp [wordsL]
/-- Behind k of the words that are closed. -/
def WrdJ (P S : List Int) (i : Nat) (word : List UInt8) (R : List Nat) : Prop :=
  ∃ j, word = firstW P S i ++ List.replicate j 41 ∧ j + R.length = (openE S i (endsE S i)).length ∧ j + closeN R (i + 1) = closeN (openE S i (endsE S i)) (i + 1) ∧ restE R (i + 1) = restE (openE S i (endsE S i)) (i + 1)
theorem wrdJ_start (P S : List Int) (i : Nat) : WrdJ P S i (firstW P S i) (openE S i (endsE S i)) := ⟨0, by simp, by omega, by omega, rfl⟩
theorem wrdJ_step {P S : List Int} {i : Nat} {word : List UInt8} {R : List Nat} (h : WrdJ P S i word ((i + 1) :: R)) : WrdJ P S i (word ++ [41]) R := by
  obtain ⟨j, h1, h2, h3, h4⟩ := h
  rw [(close_same R (i + 1)).1] at h3
  rw [(close_same R (i + 1)).2] at h4
  refine ⟨j + 1, by rw [h1, List.replicate_succ', List.append_assoc], by simp at h2; omega, by omega, h4⟩
theorem wrdJ_end {P S : List Int} {i : Nat} {word : List UInt8} {R : List Nat} (h : WrdJ P S i word R) (he : R.head? ≠ some (i + 1)) : word = wordW P S i ∧ R = endsE S (i + 1) := by
  obtain ⟨j, h1, h2, h3, h4⟩ := h
  have hc : closeN R (i + 1) = 0 ∧ restE R (i + 1) = R := by
    cases R with
    | nil => exact ⟨rfl, rfl⟩
    | cons y R =>
      have e : (y == i + 1) = false := by simpa using he
      simp [closeN, restE, e]
  rw [hc.1] at h3
  rw [hc.2] at h4
  refine ⟨?_, h4⟩
  rw [h1]
  unfold wordW
  rw [← h3, Nat.add_zero]
theorem wrdJ_len {P S : List Int} {i : Nat} {word : List UInt8} {R : List Nat} (h : WrdJ P S i word R) (hp : 0 ≤ P.getD i 0 ∧ P.getD i 0 ≤ 127) (hi : i ≤ 128) : word.length ≤ 200 := by
  obtain ⟨j, h1, h2, h3, h4⟩ := h
  have := digP_len hp
  have h5 := close_le (openE S i (endsE S i)) (i + 1)
  have h6 := open_len S i
  rw [h1, List.length_append, List.length_replicate]
  unfold firstW
  split
  · rw [List.length_cons]; omega
  · omega
theorem own_capT {w : World} {base : Nat} {e : TypeId} {a : Option Addr} {n c m : Nat} {xs : List Value} (h : w.ownsRow base e 1 (.slice a n c) m xs) : n ≤ c := by
  rcases h.2 with ⟨h1, h2⟩ | ⟨g, cap, cur, h1, _, _, h2, _⟩
  · injection h1 with e1 e2 e3; omega
  · injection h1 with e1 e2 e3; omega
theorem word_len {P S : List Int} (O : OrdW P S) {i : Nat} (hi : i < S.length) : (wordW P S i).length ≤ 200 := by
  have hp := O.once i (by rw [O.len]; exact hi)
  have := digP_len ⟨hp.1, hp.2.1⟩
  have h5 := close_le (openE S i (endsE S i)) (i + 1)
  have h6 := open_len S i
  have := O.few
  unfold wordW firstW
  rw [List.length_append, List.length_replicate]
  split
  · rw [List.length_cons]; omega
  · omega
theorem lens_le {l : List (List UInt8)} (h : ∀ x ∈ l, x.length ≤ 200) : Lib.lens l ≤ 200 * l.length := by
  unfold Lib.lens
  induction l with
  | nil => simp
  | cons x l ih =>
    have h1 := h x (by simp)
    have h2 := ih (fun y hy => h y (by simp [hy]))
    simp only [List.map_cons, List.sum_cons, List.length_cons] at h2 ⊢
    omega
theorem join_len {P S : List Int} (O : OrdW P S) : (Lib.join (wordsL P S S.length) [32]).length ≤ 140737488355328 := by
  have hl := lens_le (l := wordsL P S S.length) (fun x hx => by
    obtain ⟨i, hi, rfl⟩ := List.mem_map.1 hx
    exact word_len O (by simpa using hi))
  have hw := words_len P S S.length
  have := O.few
  cases hq : wordsL P S S.length with
  | nil => simp [Lib.join_nil]
  | cons x r =>
    rw [hq] at hl hw
    rw [Lib.join_length]
    simp only [List.length_cons, List.length_nil] at hl hw ⊢
    omega
theorem own_len {w : World} {base : Nat} {e : TypeId} {a : Option Addr} {n c m : Nat} {xs : List Value} (h : w.ownsRow base e 1 (.slice a n c) m xs) : n = m := by
  rcases h.2 with ⟨h1, h2⟩ | ⟨g, cap, cur, h1, _⟩
  · injection h1 with e1 e2 e3; omega
  · injection h1
set_option maxRecDepth 100000 in
set_option maxHeartbeats 4000000 in
theorem show_bad (a1 a2 : Option Addr) (n1 c1 n2 c2 : Nat) (P S : List Int) (w : World) (h : WA w a1 n1 c1 P a2 n2 c2 S) (hc : chkW P S ≠ 0) :
    Calls Tryd.prog 20 #[.agg #[.slice a1 n1 c1, .slice a2 n2 c2]] w (Gives (.tuple #[.string ⟨#[]⟩, .int .i64 (chkW P S)]) w) := by
  obtain ⟨W1, hW1⟩ : ∃ W1, W1 = w.alloc (.cells #[.slice a1 n1 c1, .slice a2 n2 c2] 24) := ⟨_, rfl⟩
  have hB1 := Lib.hid (show Below w.heap.size w W1 by rw [hW1]; exact box_below w _ _)
  have hW1' := Lib.hid hW1
  have q1 := Lib.hid (check_any a1 a2 n1 c1 n2 c2 P S W1 (h.below hB1.out))
  have e1 : (chkW P S != 0) = true := by simpa using hc
  have e2 : (chkW P S == 0) = false := by simpa using hc
  clear h hW1 hc
  generalize chkW P S = x at *
  go_enter Tryd.func20, Tryd.ntmps20
  go_wp2_with fail
  rw [← hW1'.out]
  with_reducible refine q1.out.mono ?_
  rintro e w2 ⟨rfl, b2⟩
  have B2 := Lib.hid (hB1.out.trans (b2.mono hB1.out.size))
  clear q1 hW1' b2
  go_wp2
  go_ret2
  exact ⟨rfl, B2.out⟩
set_option maxRecDepth 100000 in
set_option maxHeartbeats 8000000 in
theorem show_ok (a1 a2 : Option Addr) (n1 c1 n2 c2 : Nat) (P S : List Int) (w : World) (ht : Tab w) (h : WA w a1 n1 c1 P a2 n2 c2 S) (O : OrdW P S) :
    Calls Tryd.prog 20 #[.agg #[.slice a1 n1 c1, .slice a2 n2 c2]] w (Gives (.tuple #[.string (strB (Lib.join (wordsL P S S.length) [32])), .int .i64 0]) w) := by
  obtain ⟨W1, hW1⟩ : ∃ W1, W1 = w.alloc (.cells #[.slice a1 n1 c1, .slice a2 n2 c2] 24) := ⟨_, rfl⟩
  obtain ⟨i0, hi, hz0, hz1, hz2⟩ := info_parts infoInt
  obtain ⟨j0, hj, hy0, hy1, hy2⟩ := info_parts infoStr
  have hB1 := Lib.hid (show Below w.heap.size w W1 by rw [hW1]; exact box_below w _ _)
  have Z := Lib.hid (show Holds W1 w.heap.size 24 #[.slice a1 n1 c1, .slice a2 n2 c2] by rw [hW1]; exact Holds.new w _ _)
  have hW1' := Lib.hid hW1
  have L1 := Lib.hid h.p.len
  have L2 := Lib.hid h.s.len
  have hP := Lib.hid (h.p.below hB1.out)
  have hS := Lib.hid (h.s.below hB1.out)
  have q1 := Lib.hid (check_any a1 a2 n1 c1 n2 c2 P S W1 (h.below hB1.out))
  rw [chk_ok.2 O] at q1
  have hO := Lib.hid O
  have hT := Lib.hid ht
  have hn12 : n1 = n2 := by rw [L1.out, L2.out, O.len]
  subst hn12
  have hn : n1 ≤ 128 := by rw [L2.out]; exact O.few
  have hni : (n1 : Int) ≤ 128 := by omega
  clear h hW1 O ht
  go_enter Tryd.func20, Tryd.ntmps20
  go_wp2_with fail
  rw [← hW1'.out]
  with_reducible refine q1.out.mono ?_
  rintro e w2 ⟨rfl, b2⟩
  have R0 : Hid (ShR W1 P S 0 [] (.slice none 0 0) (.slice none 0 0) w2) := Lib.hid ⟨World.ownsRow_nil _ _ _ _, World.ownsRow_nil _ _ _ _, fun x hx => (by cases hx), b2, Nat.le_refl _⟩
  have k1 := (Z.out.below b2 Z.out.lt).cell 0
  clear q1 hW1' b2
  go_wp2
  clear k1
  go_loopw [5, 6, 19] (fun vw ve x wr => ∃ (k : Nat) (aw ae : Option Addr) (nw ne cw ce : Nat), k ≤ n1 ∧ x = .int .i64 k ∧ vw = .slice aw nw cw ∧ ve = .slice ae ne ce ∧ Hid (ShR W1 P S k (endsE S k) (.slice aw nw cw) (.slice ae ne ce) wr)) (fun _ _ x _ => n1 - (intOf x).toNat)
  case atStart => exact ⟨0, none, none, 0, 0, 0, 0, by omega, rfl, rfl, rfl, R0⟩
  case round =>
    clear R0
    obtain ⟨k, aw, ae, nw, ne, cw, ce, hk, rfl, rfl, rfl, R⟩ := hrel
    by_cases hlt : k < n1
    · have hki : (k : Int) < (n1 : Int) := by omega
      have hkP : k < P.length := by rw [← L1.out]; exact hlt
      have hkS : k < S.length := by rw [← L2.out]; exact hlt
      have hp := hO.out.once k (by omega)
      have hs := hO.out.nest k hkS
      obtain ⟨b1, o1, rfl, -, e1⟩ := sees_num (hP.out.below R.out.bel).sees hkP
      obtain ⟨b2, o2, rfl, -, e2⟩ := sees_num (hS.out.below R.out.bel).sees hkS
      have qv := Lib.hid (show_any (P.getD k 0) wr ((hT.out.on hB1.out).on R.out.bel))
      rw [show_dig ⟨hp.1, hp.2.1⟩] at qv
      have hs0 := hs.1
      have hs1 : (k : Int) + S.getD k 0 ≤ (n1 : Int) := by have := hs.2.1; rw [L2.out]; omega
      have hpr := Lib.hid (show 0 ≤ P.getD k 0 ∧ P.getD k 0 ≤ 127 from ⟨hp.1, hp.2.1⟩)
      have hopen : Hid (0 < S.getD k 0 → openE S k (endsE S k) = (k + (S.getD k 0).toNat) :: endsE S k ∧ firstW P S k = 40 :: digP (P.getD k 0)) := Lib.hid (fun h => ⟨if_pos h, if_pos h⟩)
      have hshut : Hid (¬ 0 < S.getD k 0 → openE S k (endsE S k) = endsE S k ∧ firstW P S k = digP (P.getD k 0)) := Lib.hid (fun h => ⟨if_neg h, if_neg h⟩)
      have hdl := digP_len hpr.out
      have hdz : (strB (digP (P.getD k 0))).size ≤ 13 := by rw [strB_size]; exact hdl
      have hJ0 := Lib.hid (wrdJ_start P S k)
      have hel := ends_len S k
      have hen' : Hid (ne = (endsE S k).length) := Lib.hid (by have := own_len R.out.b; simpa using this)
      have hne128 : ne ≤ 128 := by rw [hen'.out]; omega
      clear hp hs hdl
      obtain ⟨s, hs⟩ : ∃ s, s = S.getD k 0 := ⟨_, rfl⟩
      rw [← hs] at e2 hs0 hs1 hopen hshut
      have hs' := Lib.hid hs
      clear hs
      obtain ⟨d, hd⟩ : ∃ d, d = digP (P.getD k 0) := ⟨_, rfl⟩
      rw [← hd] at qv hopen hshut hdz
      have hd' := Lib.hid hd
      clear hd
      generalize hpk : P.getD k 0 = pk at e1 qv
      have hpk' := Lib.hid hpk
      clear hpk
      go_wp2_with fail
      with_reducible refine qv.out.mono ?_
      rintro e wq ⟨rfl, bq⟩
      have R2 := Lib.hid (R.out.made bq)
      have k1 := (Z.out.below R2.out.bel Z.out.lt).cell 1
      have e2 : wq.cell? ⟨b2, o2 + k, none⟩ = some (.int .i64 s) := by
        obtain ⟨b, o, e, -, q⟩ := sees_num (hS.out.below R2.out.bel).sees hkS
        injection e with e; injection e with e3 e4; subst e3 e4; rw [hs'.out]; exact q
      clear qv bq R e1
      by_cases hpos : 0 < s
      · obtain ⟨ho, hf⟩ := hopen.out hpos
        obtain ⟨m, rfl⟩ := Int.eq_ofNat_of_zero_le hs0
        have hcons : (⟨#[40]⟩ : ByteArray) ++ strB d = strB (40 :: d) := strB_cons 40 d
        have hsz : ¬ 9223372036854775807 < (⟨#[40]⟩ : ByteArray).size + (strB d).size := by show ¬ 9223372036854775807 < 1 + _; omega
        have hml : Hid ((intsN (endsE S k).reverse).length = ne) := Lib.hid (by rw [intsN_len, List.length_reverse]; exact hen'.out.symm)
        have hne200 : ne ≤ 200 := by omega
        have JS : Hid (WrdJ P S k (40 :: d) ((k + m) :: endsE S k)) := Lib.hid (by have q := hJ0.out; rw [ho, hf] at q; simpa using q)
        have hl4 : Hid ((intsN (endsE S k).reverse ++ [(k : Int) + (m : Int)]).length = ne + 1) := Lib.hid (by rw [List.length_append, hml.out]; rfl)
        clear hopen hshut ho hf hJ0 hel
        go_wp2_with (at_builtin; refine wpList_append_foot _ rfl (.tmp 33) (.tmp 37) 22 rfl 3 i0 (.int .i64 0) 8 Tryd.underlying22 hi hz0 hz1 hz2 rfl .i64 _ (intsN (endsE S k).reverse) (by have o := own_zero (own_below R2.out.b (box_below wq #[.int .i64 ((k : Int) + (m : Int))] 3)); rw [show (intsN (endsE S k).reverse).length = (endsE S k).length by rw [intsN_len, List.length_reverse]]; exact o) _ _ [(k : Int) + (m : Int)] (sees_new .i64 wq 3 [(k : Int) + (m : Int)] _ rfl) 1 1 rfl rfl rfl (by rw [hml.out]; simp only [List.length_singleton]; unfold maxLen; omega) (by rw [hml.out]; simp only [List.length_singleton]; omega) ?_; intro v' w1 hown' hgrow hblk; have hT3 := (R2.out.made (box_below wq #[.int .i64 ((k : Int) + (m : Int))] 3)).grow2 hgrow hown' hblk; rw [show intsN (endsE S k).reverse ++ [(k : Int) + (m : Int)] = intsN ((k + m) :: endsE S k).reverse by rw [List.reverse_cons, intsN_snoc]; rfl] at hT3; obtain ⟨ae', ce', hv, -, -⟩ := sees_own hown'; rw [hl4.out] at hv; subst hv; have hT4 := Lib.hid hT3; clear hown' hgrow hblk hT3)
        have hl5 : (intsN ((k + m) :: endsE S k).reverse).length = ((k + m) :: endsE S k).length := by rw [intsN_len, List.length_reverse]
        rw [hl5] at hT4
        have TS := hT4
        clear hT4 R2 hl4 hl5 hml k1 e2
        obtain ⟨wq, rfl⟩ : ∃ x : World, x = w1 := ⟨_, rfl⟩
        go_wp2
        go_loop [6, 9] (fun ve wd => ∃ (R : List Nat) (word : List UInt8) (ae : Option Addr) (ne ce : Nat), ve = .slice ae ne ce ∧ wd = .string (strB word) ∧ Hid (TwoR W1 W1.heap.size 9 3 (.slice aw nw cw) k (wrds (wordsL P S k)) (.slice ae ne ce) R.length (nums .i64 (intsN R.reverse)) wq) ∧ Hid (WrdJ P S k word R)) (fun ve _ => lenOf ve)
        case atStart => exact ⟨(k + m) :: endsE S k, 40 :: d, ae', ne + 1, ce', rfl, rfl, TS, JS⟩
        case round =>
          clear TS JS
          obtain ⟨R, word, ae, ne, ce, rfl, rfl, hT, hJ⟩ := hrel
          have hwl : (strB word).size ≤ 200 := by rw [strB_size]; exact wrdJ_len hJ.out hpr.out (by omega)
          cases R with
          | nil =>
            obtain rfl : ne = 0 := by have := hT.out.b.1; simp [nums, intsN] at this; have := own_len hT.out.b; simpa using this
            have hend := wrdJ_end hJ.out (by simp)
            obtain ⟨hw1, hw2⟩ := hend
            have hw1' := Lib.hid hw1
            have hT2 := Lib.hid (by have q := hT.out; rw [hw2] at q; exact q)
            clear hw1 hw2 hJ hT
            have hcw := Lib.hid (show ((wordsL P S k).map strB).length = k by rw [List.length_map, words_len])
            go_wp2_with (at_builtin; refine wpList_append_text _ rfl (.tmp 62) (.tmp 64) 49 rfl 9 j0 (.string ⟨#[]⟩) 16 Tryd.underlying49 hj hy0 hy1 hy2 rfl _ ((wordsL P S k).map strB) (by rw [hcw.out]; exact own_zero (own_below hT2.out.a (box_below wq #[.string (strB word)] 9))) ⟨wq.heap.size, 0, none⟩ (strB word) 1 (by rw [cell_of_row _ _ _ _ _ _ (heap_alloc_new wq _)]; rfl) rfl rfl (by rw [hcw.out]; unfold maxLen; omega) (by rw [hcw.out]; omega) ?_; intro v' w1 hown' hgrow hblk; have hT3 := (hT2.out.made (box_below wq #[.string (strB word)] 9)).grow1 hgrow hown' hblk; rw [wrds_snoc, hw1'.out, ← words_succ] at hT3; have hT4 := Lib.hid hT3; clear hown' hgrow hblk hT3 hT2)
            have hl4 := hT4.out.a.1
            have hlen4 : ((wordsL P S (k + 1)).map strB).length = k + 1 := by rw [List.length_map, words_len]
            rw [hlen4] at hT4
            obtain ⟨aw', cw', rfl, -, -⟩ := sees_ownT (l := (wordsL P S (k + 1)).map strB) (by have q := hT4.out.a; exact q)
            rw [hlen4] at hT4
            have hlen5 := Lib.hid hlen4
            clear hlen4 hl4
            go_wp2
            go_roundw
            case rel => exact ⟨k + 1, aw', ae, k + 1, 0, cw', ce, by omega, by go_num, by rw [hlen5.out], rfl, hT4⟩
            case measure => simp [intOf]; omega
          | cons y R =>
            have hne : ne = R.length + 1 := by have := own_len hT.out.b; simpa using this
            have hcap := own_cap (l := intsN (y :: R).reverse) (by have q := hT.out.b; rw [show (y :: R).length = ne by rw [hne]; rfl] at q; exact q)
            obtain ⟨a', c', e, -, sv⟩ := sees_own (l := intsN (y :: R).reverse) hT.out.b
            injection e with e1 e2 e3
            subst e1
            obtain ⟨b3, o3, rfl, -, ec⟩ := sees_num sv (i := R.length) (by simp [intsN_len])
            rw [show (intsN (y :: R).reverse).getD R.length 0 = (y : Int) by rw [intsN_at _ _ (by simp)]; simp [List.getD]] at ec
            have hRl : R.length ≤ 200 := by
              obtain ⟨j, h1, h2, h3, h4⟩ := hJ.out
              have := open_len S k
              simp at h2; omega
            have hne' := Lib.hid hne
            clear hne e2 e3 sv
            obtain ⟨l, hl⟩ : ∃ l, l = R.length := ⟨_, rfl⟩
            rw [← hl] at ec hRl
            have hnl : ne = l + 1 := by rw [hl]; exact hne'.out
            have hl' := Lib.hid hl
            clear hl
            have hli : (l : Int) ≤ 200 := by omega
            by_cases hy : y = k + 1
            · have hJ2 := Lib.hid (wrdJ_step (by have q := hJ.out; rw [hy] at q; exact q))
              have hT2 := Lib.hid (by
                have q := hT.out
                rw [show (y :: R).length = ne by rw [hne'.out]; rfl] at q
                have q2 := q.cut2 R.length (by rw [hne'.out]; omega)
                rw [show (intsN (y :: R).reverse).take R.length = intsN R.reverse by rw [List.reverse_cons, intsN_snoc, List.take_left' (by rw [intsN_len, List.length_reverse])]] at q2
                rw [← hl'.out] at q2
                exact q2)
              have hcat : strB word ++ ⟨#[41]⟩ = strB (word ++ [41]) := strB_app word [41]
              have hsz : ¬ 9223372036854775807 < (strB word).size + (⟨#[41]⟩ : ByteArray).size := by show ¬ 9223372036854775807 < _ + 1; omega
              have hyi : (y : Int) = (k : Int) + 1 := by omega
              have hlc : l ≤ ce := by omega
              rw [hyi] at ec
              clear hT hJ hy hyi
              subst hnl
              go_wp2
              go_round
              case rel => exact ⟨R, word ++ [41], some ⟨b3, o3, none⟩, l, ce, rfl, rfl, by rw [← hl'.out]; exact hT2, hJ2⟩
              case measure => simp [lenOf]
            · have hyi : ((y : Int) == (k : Int) + 1) = false := by simp; omega
              have hyk := Lib.hid hy
              subst hnl
              clear hy
              have hend := wrdJ_end hJ.out (by simpa using hyk.out)
              obtain ⟨hw1, hw2⟩ := hend
              have hw1' := Lib.hid hw1
              have hT2 := Lib.hid (by have q := hT.out; rw [hw2] at q; exact q)
              clear hw1 hw2 hJ hT
              have hcw := Lib.hid (show ((wordsL P S k).map strB).length = k by rw [List.length_map, words_len])
              go_wp2_with (at_builtin; refine wpList_append_text _ rfl (.tmp 62) (.tmp 64) 49 rfl 9 j0 (.string ⟨#[]⟩) 16 Tryd.underlying49 hj hy0 hy1 hy2 rfl _ ((wordsL P S k).map strB) (by rw [hcw.out]; exact own_zero (own_below hT2.out.a (box_below wq #[.string (strB word)] 9))) ⟨wq.heap.size, 0, none⟩ (strB word) 1 (by rw [cell_of_row _ _ _ _ _ _ (heap_alloc_new wq _)]; rfl) rfl rfl (by rw [hcw.out]; unfold maxLen; omega) (by rw [hcw.out]; omega) ?_; intro v' w1 hown' hgrow hblk; have hT3 := (hT2.out.made (box_below wq #[.string (strB word)] 9)).grow1 hgrow hown' hblk; rw [wrds_snoc, hw1'.out, ← words_succ] at hT3; have hT4 := Lib.hid hT3; clear hown' hgrow hblk hT3 hT2)
              have hl4 := hT4.out.a.1
              have hlen4 : ((wordsL P S (k + 1)).map strB).length = k + 1 := by rw [List.length_map, words_len]
              rw [hlen4] at hT4
              obtain ⟨aw', cw', rfl, -, -⟩ := sees_ownT (l := (wordsL P S (k + 1)).map strB) (by have q := hT4.out.a; exact q)
              rw [hlen4] at hT4
              have hlen5 := Lib.hid hlen4
              clear hlen4 hl4
              go_wp2
              go_roundw
              case rel => exact ⟨k + 1, aw', some ⟨b3, o3, none⟩, k + 1, l + 1, cw', ce, by omega, by go_num, by rw [hlen5.out], rfl, hT4⟩
              case measure => simp [intOf]; omega
      · obtain ⟨ho, hf⟩ := hshut.out (by omega)
        obtain rfl : s = 0 := by omega
        have JS : Hid (WrdJ P S k d (endsE S k)) := Lib.hid (by have q := hJ0.out; rw [ho, hf] at q; exact q)
        have TS : Hid (TwoR W1 W1.heap.size 9 3 (.slice aw nw cw) k (wrds (wordsL P S k)) (.slice ae ne ce) (endsE S k).length (nums .i64 (intsN (endsE S k).reverse)) wq) := R2
        clear hopen hshut ho hf hJ0 hel R2
        go_wp2
        clear k1 e2
        go_loop [6, 9] (fun ve wd => ∃ (R : List Nat) (word : List UInt8) (ae : Option Addr) (ne ce : Nat), ve = .slice ae ne ce ∧ wd = .string (strB word) ∧ Hid (TwoR W1 W1.heap.size 9 3 (.slice aw nw cw) k (wrds (wordsL P S k)) (.slice ae ne ce) R.length (nums .i64 (intsN R.reverse)) wq) ∧ Hid (WrdJ P S k word R)) (fun ve _ => lenOf ve)
        case atStart => exact ⟨endsE S k, d, ae, ne, ce, rfl, rfl, TS, JS⟩
        case round =>
          clear TS JS
          obtain ⟨R, word, ae, ne, ce, rfl, rfl, hT, hJ⟩ := hrel
          have hwl : (strB word).size ≤ 200 := by rw [strB_size]; exact wrdJ_len hJ.out hpr.out (by omega)
          cases R with
          | nil =>
            obtain rfl : ne = 0 := by have := hT.out.b.1; simp [nums, intsN] at this; have := own_len hT.out.b; simpa using this
            have hend := wrdJ_end hJ.out (by simp)
            obtain ⟨hw1, hw2⟩ := hend
            have hw1' := Lib.hid hw1
            have hT2 := Lib.hid (by have q := hT.out; rw [hw2] at q; exact q)
            clear hw1 hw2 hJ hT
            have hcw := Lib.hid (show ((wordsL P S k).map strB).length = k by rw [List.length_map, words_len])
            go_wp2_with (at_builtin; refine wpList_append_text _ rfl (.tmp 62) (.tmp 64) 49 rfl 9 j0 (.string ⟨#[]⟩) 16 Tryd.underlying49 hj hy0 hy1 hy2 rfl _ ((wordsL P S k).map strB) (by rw [hcw.out]; exact own_zero (own_below hT2.out.a (box_below wq #[.string (strB word)] 9))) ⟨wq.heap.size, 0, none⟩ (strB word) 1 (by rw [cell_of_row _ _ _ _ _ _ (heap_alloc_new wq _)]; rfl) rfl rfl (by rw [hcw.out]; unfold maxLen; omega) (by rw [hcw.out]; omega) ?_; intro v' w1 hown' hgrow hblk; have hT3 := (hT2.out.made (box_below wq #[.string (strB word)] 9)).grow1 hgrow hown' hblk; rw [wrds_snoc, hw1'.out, ← words_succ] at hT3; have hT4 := Lib.hid hT3; clear hown' hgrow hblk hT3 hT2)
            have hl4 := hT4.out.a.1
            have hlen4 : ((wordsL P S (k + 1)).map strB).length = k + 1 := by rw [List.length_map, words_len]
            rw [hlen4] at hT4
            obtain ⟨aw', cw', rfl, -, -⟩ := sees_ownT (l := (wordsL P S (k + 1)).map strB) (by have q := hT4.out.a; exact q)
            rw [hlen4] at hT4
            have hlen5 := Lib.hid hlen4
            clear hlen4 hl4
            go_wp2
            go_roundw
            case rel => exact ⟨k + 1, aw', ae, k + 1, 0, cw', ce, by omega, by go_num, by rw [hlen5.out], rfl, hT4⟩
            case measure => simp [intOf]; omega
          | cons y R =>
            have hne : ne = R.length + 1 := by have := own_len hT.out.b; simpa using this
            have hcap := own_cap (l := intsN (y :: R).reverse) (by have q := hT.out.b; rw [show (y :: R).length = ne by rw [hne]; rfl] at q; exact q)
            obtain ⟨a', c', e, -, sv⟩ := sees_own (l := intsN (y :: R).reverse) hT.out.b
            injection e with e1 e2 e3
            subst e1
            obtain ⟨b3, o3, rfl, -, ec⟩ := sees_num sv (i := R.length) (by simp [intsN_len])
            rw [show (intsN (y :: R).reverse).getD R.length 0 = (y : Int) by rw [intsN_at _ _ (by simp)]; simp [List.getD]] at ec
            have hRl : R.length ≤ 200 := by
              obtain ⟨j, h1, h2, h3, h4⟩ := hJ.out
              have := open_len S k
              simp at h2; omega
            have hne' := Lib.hid hne
            clear hne e2 e3 sv
            obtain ⟨l, hl⟩ : ∃ l, l = R.length := ⟨_, rfl⟩
            rw [← hl] at ec hRl
            have hnl : ne = l + 1 := by rw [hl]; exact hne'.out
            have hl' := Lib.hid hl
            clear hl
            have hli : (l : Int) ≤ 200 := by omega
            by_cases hy : y = k + 1
            · have hJ2 := Lib.hid (wrdJ_step (by have q := hJ.out; rw [hy] at q; exact q))
              have hT2 := Lib.hid (by
                have q := hT.out
                rw [show (y :: R).length = ne by rw [hne'.out]; rfl] at q
                have q2 := q.cut2 R.length (by rw [hne'.out]; omega)
                rw [show (intsN (y :: R).reverse).take R.length = intsN R.reverse by rw [List.reverse_cons, intsN_snoc, List.take_left' (by rw [intsN_len, List.length_reverse])]] at q2
                rw [← hl'.out] at q2
                exact q2)
              have hcat : strB word ++ ⟨#[41]⟩ = strB (word ++ [41]) := strB_app word [41]
              have hsz : ¬ 9223372036854775807 < (strB word).size + (⟨#[41]⟩ : ByteArray).size := by show ¬ 9223372036854775807 < _ + 1; omega
              have hyi : (y : Int) = (k : Int) + 1 := by omega
              have hlc : l ≤ ce := by omega
              rw [hyi] at ec
              clear hT hJ hy hyi
              subst hnl
              go_wp2
              go_round
              case rel => exact ⟨R, word ++ [41], some ⟨b3, o3, none⟩, l, ce, rfl, rfl, by rw [← hl'.out]; exact hT2, hJ2⟩
              case measure => simp [lenOf]
            · have hyi : ((y : Int) == (k : Int) + 1) = false := by simp; omega
              have hyk := Lib.hid hy
              subst hnl
              clear hy
              have hend := wrdJ_end hJ.out (by simpa using hyk.out)
              obtain ⟨hw1, hw2⟩ := hend
              have hw1' := Lib.hid hw1
              have hT2 := Lib.hid (by have q := hT.out; rw [hw2] at q; exact q)
              clear hw1 hw2 hJ hT
              have hcw := Lib.hid (show ((wordsL P S k).map strB).length = k by rw [List.length_map, words_len])
              go_wp2_with (at_builtin; refine wpList_append_text _ rfl (.tmp 62) (.tmp 64) 49 rfl 9 j0 (.string ⟨#[]⟩) 16 Tryd.underlying49 hj hy0 hy1 hy2 rfl _ ((wordsL P S k).map strB) (by rw [hcw.out]; exact own_zero (own_below hT2.out.a (box_below wq #[.string (strB word)] 9))) ⟨wq.heap.size, 0, none⟩ (strB word) 1 (by rw [cell_of_row _ _ _ _ _ _ (heap_alloc_new wq _)]; rfl) rfl rfl (by rw [hcw.out]; unfold maxLen; omega) (by rw [hcw.out]; omega) ?_; intro v' w1 hown' hgrow hblk; have hT3 := (hT2.out.made (box_below wq #[.string (strB word)] 9)).grow1 hgrow hown' hblk; rw [wrds_snoc, hw1'.out, ← words_succ] at hT3; have hT4 := Lib.hid hT3; clear hown' hgrow hblk hT3 hT2)
              have hl4 := hT4.out.a.1
              have hlen4 : ((wordsL P S (k + 1)).map strB).length = k + 1 := by rw [List.length_map, words_len]
              rw [hlen4] at hT4
              obtain ⟨aw', cw', rfl, -, -⟩ := sees_ownT (l := (wordsL P S (k + 1)).map strB) (by have q := hT4.out.a; exact q)
              rw [hlen4] at hT4
              have hlen5 := Lib.hid hlen4
              clear hlen4 hl4
              go_wp2
              go_roundw
              case rel => exact ⟨k + 1, aw', some ⟨b3, o3, none⟩, k + 1, l + 1, cw', ce, by omega, by go_num, by rw [hlen5.out], rfl, hT4⟩
              case measure => simp [intOf]; omega
    · obtain rfl : k = n1 := by omega
      have hfin : Hid (k = S.length) := L2
      have hjl := Lib.hid (join_len hO.out)
      have hR2 := Lib.hid (by have q := R.out; rw [hfin.out] at q; exact q)
      obtain ⟨a', c', e, hcn, sv⟩ := sees_ownT (l := (wordsL P S S.length).map strB) hR2.out.a
      rw [List.length_map, words_len] at e hcn
      injection e with e1 e2 e3
      subst e1
      have hcap := own_capT hR2.out.a
      have hq : Hid (Calls Tryd.prog 33 #[.slice aw nw cw, .string ⟨#[32]⟩] wr (Gives (.string (strB (Lib.join (wordsL P S S.length) [32]))) wr)) := Lib.hid (by
        have hmap : ((wordsL P S S.length).map strB).map (fun x => x.data.toList) = wordsL P S S.length := by
          rw [List.map_map]
          conv => rhs; rw [← List.map_id (wordsL P S S.length)]
          apply List.map_congr_left
          intro x _
          simp [strB]
        rcases sv with h0 | ⟨bk, off, rfl, hb, hc⟩
        · have hz : S.length = 0 := by
            have h1 : ((wordsL P S S.length).map strB).length = 0 := by rw [h0]; rfl
            rw [List.length_map, words_len] at h1; exact h1
          rw [e2, hz]
          exact (Tryd.strings_Join_none aw cw ⟨#[32]⟩ wr).mono (fun e w' h => ⟨h.1, by rw [h.2]; exact Below.refl _ _⟩)
        · have q := Tryd.strings_Join bk off cw ((wordsL P S S.length).map strB) ⟨#[32]⟩ wr (fun j x hx => by
            have hj : j < ((wordsL P S S.length).map strB).length := (List.getElem?_eq_some_iff.1 hx).1
            rw [hc j hj]
            simp only [List.getD, hx, Option.getD_some]) hb (by rw [List.length_map, words_len, ← hfin.out]; omega) (by rw [List.length_map, words_len, ← e2]; exact hcap) (by rw [hmap]; exact hjl.out)
          rw [hmap, List.length_map, words_len] at q
          rw [e2]
          exact q.mono (fun e w' h => ⟨h.1, h.2⟩))
      have B2 := Lib.hid (hB1.out.trans (R.out.bel.mono hB1.out.size))
      clear hR2 hcn e2 e3 sv hcap R hjl hfin
      generalize Lib.join (wordsL P S S.length) [32] = J at *
      go_wp2_with fail
      with_reducible refine hq.out.mono ?_
      rintro e w3 ⟨rfl, b3⟩
      have B3 := Lib.hid (B2.out.trans (b3.mono B2.out.size))
      clear hq b3
      go_wp2
      go_ret2
      exact ⟨rfl, B3.out⟩
end Go.Proofs.YtpbminoefmpmpaaDoor
