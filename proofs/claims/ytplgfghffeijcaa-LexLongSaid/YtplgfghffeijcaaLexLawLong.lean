/- LexLong: the walk of the statement's function. -/
import Derived.Test.YtplgfghffeijcaaLexSameKeys
import Derived.Test.YtplgfghffeijcaaLexLives
import Derived.Test.YtplgfghffeijcaaTexts
namespace Go.Proofs.Ytplgfghffeijcaa
open Go.RowKit
set_option linter.unusedVariables false
set_option linter.unusedSimpArgs false

def xs (k : Nat) : List Int := List.replicate k 120
theorem xs_len (k : Nat) : (xs k).length = k := by simp [xs]
theorem xs_word {k : Nat} (h : 0 < k) : wordL (xs k) = true := by
  unfold wordL
  have h1 : (xs k).all wdB = true := by
    rw [List.all_eq_true]
    intro x hx
    obtain rfl := List.eq_of_mem_replicate hx
    decide
  rw [h1, Bool.and_true]
  cases k with
  | zero => omega
  | succ k => rfl
theorem xs_bs (k : Nat) : Bs (xs k) := fun x hx => by obtain rfl := List.eq_of_mem_replicate hx; omega
theorem long_bs (k : Nat) : Bs (xs k ++ [10]) := bs_app (xs_bs k) (bs_lit (by decide))
def lgL (k : Nat) : List Tk := [⟨1, 1, 1, strOfNums (xs k)⟩, ⟨3, 1, 1 + (k : Int), ⟨#[]⟩⟩]
def lgM (k : Nat) : List Tk := [⟨1, 0, 0, strOfNums (xs k)⟩, ⟨3, 0, 0, ⟨#[]⟩⟩]
theorem tok_long {k : Nat} (h : 0 < k) : tokO (xs k ++ [10]) = if 1048576 < k + 1 then ([], 0, 0, 3) else (lgL k, 1, 0, 0) := by
  unfold tokO
  rw [List.length_append, xs_len]
  simp only [List.length_cons, List.length_nil]
  by_cases hl : 1048576 < k + 1
  · rw [if_pos (by omega), if_pos hl]
  · rw [if_neg (by omega), if_neg hl, runS_app, run_word (xs_word h)]
    simp only [runS, step_wrd_nl, endS]
    simp [sg0, Sg.done, lgL, xs_len]
theorem show_long {k : Nat} (h : 0 < k) : showO (lgM k) = if 1048576 < k + 1 then ([], 3) else (xs k ++ [10], 0) := by
  have hc := codes_str (xs_bs k)
  have ha : areF true (lgM k) = true := by
    unfold lgM areF areF areF rightB
    simp only [hc, xs_word h]
    rfl
  have hs : showF true (lgM k) = xs k ++ [10] := by
    unfold lgM showF showF showF pieceL writtenL
    simp [hc]
  unfold showO
  rw [ha, hs, List.length_append, xs_len]
  simp only [List.length_cons, List.length_nil, Bool.true_eq_false, if_false]
theorem own_at {w : World} {base g : Nat} {e : TypeId} {n m c : Nat} {l : List Int} (h : w.ownsRow base e 1 (.slice (some ⟨g, 0, none⟩) m c) n (nums .u8 l)) {k : Nat} (hk : k < l.length) : w.cell? ⟨g, k, none⟩ = some (.int .u8 (l.getD k 0)) := by
  have := h.cells (g := g) rfl k (.int .u8 (l.getD k 0)) (by simp [nums, List.getD, hk])
  rw [add_at, Nat.zero_add] at this
  exact this
theorem set_next (k r : Nat) : (nums .u8 (xs k ++ List.replicate (r + 1) 0)).set k (.int .u8 120) = nums .u8 (xs (k + 1) ++ List.replicate r 0) := by
  unfold nums
  rw [List.map_append, List.map_append, List.set_append]
  have : ¬ k < (List.map (Value.int IntKind.u8) (xs k)).length := by rw [List.length_map, xs_len]; omega
  rw [if_neg this, List.length_map, xs_len, Nat.sub_self]
  have e1 : List.replicate (r + 1) (0 : Int) = 0 :: List.replicate r 0 := List.replicate_succ
  have e2 : xs (k + 1) = xs k ++ [120] := List.replicate_succ'
  rw [e1, e2]
  simp
theorem set_end (k : Nat) : (nums .u8 (xs (k + 1))).set k (.int .u8 10) = nums .u8 (xs k ++ [10]) := by
  unfold nums xs
  rw [List.replicate_succ', List.map_append, List.map_append, List.set_append]
  simp
set_option maxRecDepth 100000 in
set_option maxHeartbeats 4000000 in
theorem long_out (w : World) (n : Int) (hn : n < 1048566 ∨ 1048586 < n) : Calls Try.prog 7 #[.int .i64 n] w (Gives (.bool true) w) := by
  have qlv := Lib.hid (fun W => xlives_any W)
  rcases hn with hn | hn
  · have d1 : decide (n < 1048566) = true := decide_eq_true hn
    go_enter Try.func7, Try.ntmps7
    go_wp2_with fail
    refine (qlv.out _).mono ?_
    rintro e w1 ⟨rfl, b1⟩
    have B1 := Lib.hid b1
    clear b1
    go_wp2
    go_ret
    exact ⟨rfl, B1.out⟩
  · have d1 : decide (n < 1048566) = false := decide_eq_false (by omega)
    have d2 : decide ((1048586 : Int) < n) = true := decide_eq_true hn
    have hn0 : ¬ n < 1048566 := by omega
    go_enter Try.func7, Try.ntmps7
    go_wp2_with fail
    refine (qlv.out _).mono ?_
    rintro e w1 ⟨rfl, b1⟩
    have B1 := Lib.hid b1
    clear b1
    go_wp2
    go_ret
    exact ⟨rfl, B1.out⟩
set_option maxRecDepth 100000 in
set_option maxHeartbeats 4000000 in
theorem long_in (w : World) (N K : Nat) (hNK : Hid (N = K + 1)) (h0 : 1048566 ≤ N) (h1 : N ≤ 1048586) : Calls Try.prog 7 #[.int .i64 (N : Int)] w (Gives (.bool true) w) := by
  have qlv := Lib.hid (fun W => xlives_any W)
  obtain ⟨i0, hi, hz0, hz1, hz2⟩ := info_parts infoU8
  have d1 : ¬ ((N : Int) < 1048566) := by omega
  have d2 : ¬ ((1048586 : Int) < (N : Int)) := by omega
  have hN' : Hid (i0.bytes * N ≤ 281474976710656) := Lib.hid (by rw [hz2]; omega)
  have hN2' : Hid (N ≤ maxLen) := Lib.hid (by unfold maxLen; omega)
  have hss := strOfNums_size (xs K ++ [10])
  have q1 := Lib.hid (fun W => tokens_any (strOfNums (xs K ++ [10])) (by rw [hss, List.length_append, xs_len]; have := hNK.out; simp; omega) W)
  rw [codes_str (long_bs K), tok_long (by have := hNK.out; omega), ← hNK.out] at q1
  have q2 := Lib.hid (fun W a c h => show_any a 2 c (lgM K) (fun t ht => by
    have := hNK.out
    unfold lgM at ht
    simp only [List.mem_cons, List.mem_nil_iff, or_false] at ht
    rcases ht with rfl | rfl
    · simp only [strOfNums_size, xs_len]; omega
    · decide) (by omega) W h)
  rw [show_long (by have := hNK.out; omega), ← hNK.out] at q2
  clear hss
  go_enter Try.func7, Try.ntmps7
  go_wp2_with (at_make; refine wpList_make_full w rfl _ _ 38 rfl w.heap.size 5 i0 (.int .u8 0) 1 Try.underlying38 hi hz0 hz1 .i64 .i64 _ _ N rfl rfl rfl rfl hN'.out hN2'.out (Nat.le_refl _) ?_; intro w3 hown hgrow)
  rw [made_zero] at hown
  have hb : Below w.heap.size w w3 := (Below.refl _ _).grown hgrow (Nat.le_refl _) (by simp)
  have O3 : Hid (w3.ownsRow w.heap.size 5 1 (.slice (some ⟨w.heap.size, 0, none⟩) N N) N (nums .u8 (xs 0 ++ List.replicate (N - 0) 0))) := Lib.hid (by simpa [xs] using hown)
  have B3 := Lib.hid hb
  clear hown hb hgrow
  go_wp2
  go_loopw [4] (fun x wr => ∃ k : Nat, k ≤ N ∧ x = .int .i64 k ∧ Hid (wr.ownsRow w.heap.size 5 1 (.slice (some ⟨w.heap.size, 0, none⟩) N N) N (nums .u8 (xs k ++ List.replicate (N - k) 0))) ∧ Hid (Below w.heap.size w wr)) (fun x _ => N - (intOf x).toNat)
  case atStart => exact ⟨0, by omega, rfl, O3, B3⟩
  case round =>
    clear O3 B3
    obtain ⟨k, hk, rfl, ho, hb⟩ := hrel
    by_cases hlt : k < N
    · have hki : (k : Int) < (N : Int) := by omega
      have hc : wr.cell? ⟨w.heap.size, k, none⟩ = some (.int .u8 0) := by
        have := own_at ho.out (k := k) (by rw [List.length_append, xs_len, List.length_replicate]; omega)
        rw [this]
        simp [List.getD, List.getElem?_append, xs_len, show 0 < N - k by omega]
      have hf := own_free ho.out k
      have hnx : Hid ((wr.setCell ⟨w.heap.size, k, none⟩ (.int .u8 120)).ownsRow w.heap.size 5 1 (.slice (some ⟨w.heap.size, 0, none⟩) N N) N (nums .u8 (xs (k + 1) ++ List.replicate (N - (k + 1)) 0))) := Lib.hid (by
        have := own_set ho.out k hlt (.int .u8 120)
        rw [show N - k = (N - (k + 1)) + 1 by omega, set_next] at this
        exact this)
      have hbx : Hid (Below w.heap.size w (wr.setCell ⟨w.heap.size, k, none⟩ (.int .u8 120))) := Lib.hid (hb.out.setCell (p := ⟨w.heap.size, k, none⟩) (Nat.le_refl _) _)
      clear ho hb
      go_wp2
      go_roundw
      case rel => exact ⟨k + 1, by omega, by go_num, hnx, hbx⟩
      case measure => simp [intOf]; omega
    · have hke : k = N := by omega
      have hki : ¬ (k : Int) < (N : Int) := by omega
      have hKN : K < N := by have := hNK.out; omega
      have e1 : xs k ++ List.replicate (N - k) 0 = xs (K + 1) := by rw [hke, Nat.sub_self, ← hNK.out]; simp
      have ho2 := ho.out
      rw [e1] at ho2
      have hc : wr.cell? ⟨w.heap.size, K, none⟩ = some (.int .u8 120) := by
        have := own_at ho2 (k := K) (by rw [xs_len]; omega)
        rw [this]
        simp [List.getD, xs]
      have hf := own_free ho2 K
      have o4 := own_set ho2 K hKN (.int .u8 10)
      rw [set_end] at o4
      have b4 := hb.out.setCell (p := ⟨w.heap.size, K, none⟩) (Nat.le_refl _) (.int .u8 10)
      obtain ⟨a5, c5, e5, -, hs5⟩ := sees_own o4
      have hlK : (xs K ++ [10]).length = N := by rw [List.length_append, xs_len, hNK.out]; rfl
      rw [hlK] at e5
      injection e5 with e5 _ e6
      subst e5 e6
      have hNi : (N : Int) - 1 = (K : Int) := by have := hNK.out; omega
      have B4 := Lib.hid b4
      have S4 := Lib.hid hs5
      have hcv := conv_sees (P := Try.prog) 38 9 5 Try.underlying38 Try.underlying5 Try.underlying9 hs5 N N hlK.symm
      have hlK' := Lib.hid hlK
      have htk : Hid ((xs K ++ [10]).take K = xs K) := Lib.hid (by rw [List.take_append_of_le_length (by rw [xs_len]; omega), List.take_of_length_le (by rw [xs_len]; omega)])
      have hlt' : Hid (((xs K ++ [10]).take K).length = K) := Lib.hid (by rw [htk.out, xs_len])
      have hKNi : (K : Int) ≤ (N : Int) := by omega
      have hem : (strOfNums []).toList.isEmpty = true := by rw [str_empty]; rfl
      clear ho ho2 e1 o4 b4 hs5 hlK hke hlt hb
      by_cases hbig : 1048576 < N
      · rw [if_pos hbig] at q1 q2
        have hbi : (1048576 : Int) < (N : Int) := by omega
        clear hbig
        go_wp2_with fail
        refine (q1.out _).mono ?_
        rintro e w5 ⟨a1, n1, c1, rfl, hn1, hc1, hm1, hs1, b5⟩
        have B5 := Lib.hid (B4.out.trans (b5.mono B4.out.size))
        have S5 := Lib.hid ((S4.out.below b5).mono b5.size)
        have hcv5 := conv_sees (P := Try.prog) 38 9 5 Try.underlying38 Try.underlying5 Try.underlying9 (S5.out.take K) K N hlt'.out.symm
        rw [htk.out] at hcv5
        have hn1' := Lib.hid hn1
        obtain rfl : n1 = 0 := hn1
        clear hn1'
        clear hcv hc hf hc1 hm1 hs1 b5 S4 q1 B4
        go_wp2_with fail
        refine (q2.out _ _ 2 (tl_lit w5 (lgM K) _ rfl 2 rfl (by decide))).mono ?_
        rintro e w6 ⟨rfl, b6⟩
        have B6 := Lib.hid ((B5.out.trans ((lit_below w5 _).mono B5.out.size)).trans (b6.mono (Nat.le_trans B5.out.size (lit_below w5 _).size)))
        have S6 := Lib.hid (((S5.out.below (lit_below w5 _)).mono (lit_below w5 _).size |>.below b6).mono b6.size)
        clear b6 hcv5 S5 B5 q2
        go_wp2_with fail
        refine (qlv.out _).mono ?_
        rintro e w7 ⟨rfl, b7⟩
        have B7 := Lib.hid (B6.out.trans (b7.mono B6.out.size))
        go_wp2
        go_ret
        exact ⟨rfl, B7.out⟩
      · rw [if_neg hbig] at q1 q2
        have hbi : ¬ (1048576 : Int) < (N : Int) := by omega
        clear hbig
        go_wp2_with fail
        refine (q1.out _).mono ?_
        rintro e w5 ⟨a1, n1, c1, rfl, hn1, hc1, hm1, hs1, b5⟩
        have B5 := Lib.hid (B4.out.trans (b5.mono B4.out.size))
        have S5 := Lib.hid ((S4.out.below b5).mono b5.size)
        have hcv5 := conv_sees (P := Try.prog) 38 9 5 Try.underlying38 Try.underlying5 Try.underlying9 (S5.out.take K) K N hlt'.out.symm
        rw [htk.out] at hcv5
        obtain rfl : n1 = 2 := hn1
        clear hcv hc hf hc1 hm1 hs1 b5 S4 q1 B4
        go_wp2_with fail
        refine (q2.out _ _ 2 (tl_lit w5 (lgM K) _ rfl 2 rfl (by decide))).mono ?_
        rintro e w6 ⟨rfl, b6⟩
        have B6 := Lib.hid ((B5.out.trans ((lit_below w5 _).mono B5.out.size)).trans (b6.mono (Nat.le_trans B5.out.size (lit_below w5 _).size)))
        have S6 := Lib.hid (((S5.out.below (lit_below w5 _)).mono (lit_below w5 _).size |>.below b6).mono b6.size)
        clear b6 hcv5 S5 B5 q2
        go_wp2_with fail
        refine (qlv.out _).mono ?_
        rintro e w7 ⟨rfl, b7⟩
        have B7 := Lib.hid (B6.out.trans (b7.mono B6.out.size))
        have S7 := (S6.out.below b7).mono b7.size
        have hcv7 := conv_sees (P := Try.prog) 38 9 5 Try.underlying38 Try.underlying5 Try.underlying9 S7 N N hlK'.out.symm
        clear S7
        go_wp2
        go_ret
        exact ⟨rfl, B7.out⟩
theorem lexLong_walk (w : World) (n : Int) (hn : (Lit.int .i64 n).wf = true) : Calls Try.prog 7 #[.int .i64 n] w (Gives (.bool true) w) := by
  by_cases h : n < 1048566 ∨ 1048586 < n
  · exact long_out w n h
  · have := long_in w n.toNat (n.toNat - 1) (Lib.hid (by omega)) (by omega) (by omega)
    rwa [show ((n.toNat : Nat) : Int) = n by omega] at this
end Go.Proofs.Ytplgfghffeijcaa
