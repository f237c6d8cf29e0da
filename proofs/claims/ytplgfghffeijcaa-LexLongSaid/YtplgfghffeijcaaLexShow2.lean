/- Show, the program's. -/
import Derived.Test.YtplgfghffeijcaaLexShow
import Derived.Test.YtplgfghffeijcaaBld
import Derived.Test.YtplgfghffeijcaaByteRows
namespace Go.Proofs.Ytplgfghffeijcaa
open Go.RowKit
set_option linter.unusedVariables false
set_option linter.unusedSimpArgs false

theorem blen_any (B b : Nat) (l : List Int) (w : World) (h : Bld B b l w) : Calls Try.prog 23 #[.pointer (some ⟨b, 0, none⟩)] w fun e w' => e = .returned (.int .i64 l.length) ∧ w = w' := by
  have hv : ∃ a c, w.cell? ⟨b, 1, none⟩ = some (.slice a l.length c) := by
    have key : ∀ v, w.ownsRowF B 5 1 v l.length (nums .u8 l) → ∃ a c, v = .slice a l.length c := by
      intro v hv
      rcases hv.2 with ⟨h1, h2⟩ | ⟨g, cap, cur, fz, h1, _⟩
      · exact ⟨none, 0, by rw [h1, h2]⟩
      · exact ⟨_, _, h1⟩
    have hl : (nums .u8 l).length = l.length := by simp [nums]
    rcases h with ⟨hB, v, hb, hown, hne⟩ | ⟨hB, v, hb, hown, hne⟩
    · rw [hl] at hown
      obtain ⟨a, c, rfl⟩ := key v hown
      exact ⟨a, c, by rw [Lib.cell_of_heap hb]; rfl⟩
    · rw [hl] at hown
      obtain ⟨a, c, rfl⟩ := key v hown
      exact ⟨a, c, by rw [Lib.cell_of_heap hb]; rfl⟩
  obtain ⟨a, c, k1⟩ := hv
  clear h
  go_enter Try.func23, Try.ntmps23
  go_wp2
  go_ret
  exact ⟨rfl, rfl⟩
theorem bs_app {a b : List Int} (ha : Bs a) (hb : Bs b) : Bs (a ++ b) := fun x hx => (List.mem_append.1 hx).elim (ha x) (hb x)
theorem bs_quote {l : List Int} (h : Bs l) : Bs (quoteL l) := by
  unfold quoteL
  refine bs_app (bs_app (bs_lit (by decide)) ?_) (bs_lit (by decide))
  intro x hx
  rw [List.mem_flatMap] at hx
  obtain ⟨c, hc, hx⟩ := hx
  unfold qb at hx
  rcases List.mem_append.1 hx with hx | hx
  · split at hx
    · simp at hx; omega
    · simp at hx
  · split at hx
    · simp at hx; subst hx; exact h _ hc
    · simp at hx
theorem bs_written (t : Tk) : Bs (writtenL t) := by
  unfold writtenL
  split
  · exact bs_quote (codes_bs _)
  · split
    · exact bs_lit (by decide)
    · exact codes_bs _
theorem written_len (t : Tk) {n : Nat} (h : t.tx.size ≤ n) : (writtenL t).length ≤ 2 * n + 2 := by
  unfold writtenL
  split
  · have := flat_qb_len (codes t.tx)
    rw [codes_length] at this
    unfold quoteL
    simp only [List.length_append, List.length_cons, List.length_nil]
    omega
  · split
    · simp
    · rw [codes_length]; omega
theorem str_size (l : List Int) : (strOfNums l).size = l.length := by
  have h := congrArg List.length (strOfNums_data l)
  rw [Array.length_toList, List.length_map] at h
  exact h
theorem hold_kept {w w' : World} {g b : Nat} {cs : Array Value} (h : Holds w g 36 cs) (hg : g < w.heap.size) (hne : g ≠ b) (hk : Lib.OthersKept 5 (some b) w w') : Holds w' g 36 cs :=
  hk g _ h (fun e => hne (Option.some.inj e)) (fun c fz hh => by injection hh with _ h2 _; exact absurd h2 (by decide))
def ShowE (r : List Int × Int) (w : World) (e : Ending) (w' : World) : Prop := e = .returned (.tuple #[.string (strOfNums r.1), .int .i64 r.2]) ∧ Below w.heap.size w w'
set_option maxRecDepth 100000 in
set_option maxHeartbeats 4000000 in
theorem show_any (a : Option Addr) (n c : Nat) (l : List Tk) (hx : TxB l 4000000) (hn : n ≤ 9223372036854775806) (w : World) (h : TL w a n c l) : Calls Try.prog 12 #[.slice a n c] w (ShowE (showO l) w) := by
  have hat := Lib.hid (areTokens_any a n c l (fun t ht => Nat.le_trans (hx t ht) (by omega)) hn w h)
  have hlen := Lib.hid h.len
  have hT := Lib.hid h
  have hxx := Lib.hid hx
  clear h hx
  cases hA : areF true l
  · have hR : Hid (showO l = ([], 1)) := Lib.hid (by unfold showO; rw [if_pos hA])
    rw [hA] at hat
    clear hA
    go_enter Try.func12, Try.ntmps12
    go_wp2_with fail
    refine hat.out.mono ?_
    rintro e w1 ⟨rfl, b1⟩
    have B1 := Lib.hid b1
    clear b1 hat
    go_wp2
    go_ret2
    exact ⟨by rw [hR.out]; rfl, B1.out⟩
  rw [hA] at hat
  have hlong : Hid (1048576 < (showF true l).length → showO l = ([], 3)) := Lib.hid (fun h => by unfold showO; rw [if_neg (by rw [hA]; simp), if_pos h])
  have hok : Hid ((showF true l).length ≤ 1048576 → showO l = (showF true l, 0)) := Lib.hid (fun h => by unfold showO; rw [if_neg (by rw [hA]; simp), if_neg (by omega)])
  clear hA
  generalize showO l = R at *
  go_enter Try.func12, Try.ntmps12
  go_wp2_with fail
  refine hat.out.mono ?_
  rintro e w1 ⟨rfl, b1⟩
  have hb0 := Lib.hid (bld_new w1 w.heap.size b1.size)
  have B0 := Lib.hid (b1.trans ((lit_below w1 (.cells #[.pointer none, .slice none 0 0] 50)).mono b1.size))
  have hgb := Lib.hid b1.size
  clear b1 hat
  go_wp2
  go_loopw [5, 14] (fun f x wr => ∃ (k : Nat) (fi : Bool) (acc : List Int), k ≤ n ∧ x = .int .i64 k ∧ f = .bool fi ∧ Hid (showF true l = acc ++ showF fi (l.drop k)) ∧ Hid (acc.length ≤ 1048576) ∧ Hid (Bs acc) ∧ Hid (Bld w.heap.size w1.heap.size acc wr) ∧ Hid (Below w.heap.size w wr)) (fun _ x _ => n - (intOf x).toNat)
  case atStart => exact ⟨0, true, [], by omega, rfl, rfl, Lib.hid rfl, Lib.hid (by simp), Lib.hid (by intro x hx; simp at hx), hb0, B0⟩
  case round =>
    clear hb0 B0
    obtain ⟨k, fi, acc, hk, rfl, rfl, hF, hl, hbs, hbld, hB⟩ := hrel
    by_cases hlt : k < n
    · have hki : (k : Int) < (n : Int) := by omega
      have hkn : k < l.length := by rw [← hlen.out]; exact hlt
      obtain ⟨b, off, rfl, hb, i0, i1, i2, i3⟩ := (hT.out.below hB.out).at_ hkn
      have hsz := hxx.out.at_ hkn
      have hwl := written_len (l.getD k tk0) hsz
      have hwb := bs_written (l.getD k tk0)
      have hst : Hid (showF true l = acc ++ (pieceL fi (l.getD k tk0) ++ showF (decide ((l.getD k tk0).k = 3)) (l.drop (k + 1)))) := Lib.hid (by rw [hF.out, drop_cons hkn]; rfl)
      have hpc : pieceL fi (l.getD k tk0) = (if fi = false ∧ (l.getD k tk0).k ≠ 3 then [32] else []) ++ writtenL (l.getD k tk0) := rfl
      have hwr := Lib.hid (fun W => written_any (l.getD k tk0).k (l.getD k tk0).ln (l.getD k tk0).cl (l.getD k tk0).tx (fun _ => hsz) W)
      have hww : writtenL (l.getD k tk0) = writtenL ⟨(l.getD k tk0).k, (l.getD k tk0).ln, (l.getD k tk0).cl, (l.getD k tk0).tx⟩ := rfl
      rw [← hww] at hwr
      have hbx := lit_below wr (.cells #[.int .i64 (l.getD k tk0).k, .int .i64 (l.getD k tk0).ln, .int .i64 (l.getD k tk0).cl, .string (l.getD k tk0).tx] 36)
      have hbl2 := Lib.hid (hbld.out.below hbx)
      have hbs2 := Lib.hid hbs.out
      have hgn : Hid (wr.heap.size ≠ w1.heap.size) := Lib.hid (by have := hbld.out.lt; omega)
      have hB2 := Lib.hid (hB.out.trans (hbx.mono hB.out.size))
      have hz2 := Lib.hid (Holds.new wr 36 #[.int .i64 (l.getD k tk0).k, .int .i64 (l.getD k tk0).ln, .int .i64 (l.getD k tk0).cl, .string (l.getD k tk0).tx])
      clear hF hsz hww hkn hbx hB hb hbld
      generalize pieceL fi (l.getD k tk0) = P at *
      generalize (l.getD k tk0).ln = ln at *
      generalize (l.getD k tk0).cl = cl at *
      generalize (l.getD k tk0).tx = tx at *
      generalize writtenL (l.getD k tk0) = wl at *
      generalize (l.getD k tk0).k = kk at *
      have hlong2 : Hid (1048576 < acc.length + P.length → R = ([], 3)) := Lib.hid (fun h => hlong.out (by rw [hst.out]; simp; omega))
      have hpl : P.length ≤ 8000100 := by rw [hpc]; split <;> simp <;> omega
      have hpb : Bs P := by rw [hpc]; refine bs_app ?_ hwb; split <;> exact bs_lit (by decide)
      have hpB := Lib.hid hpb
      have hpL := Lib.hid hpl
      have hsP := str_size P
      have hsW := str_size wl
      have hwL := Lib.hid hwl
      have hki2 : (k : Int) ≤ 9223372036854775805 := by omega
      have hal : (acc.length : Int) ≤ 1048576 := by have := hl.out; omega
      clear hlong hwl hwb hpl hpb hbs
      cases fi
      · by_cases h3 : kk = 3
        · have e3 : (kk == 3) = true := by simpa using h3
          have e3' : (kk != 3) = false := by simpa using h3
          have hP : P = wl := by rw [hpc]; simp [h3]
          have hst2 : Hid (showF true l = (acc ++ P) ++ showF true (l.drop (k + 1))) := Lib.hid (by rw [hst.out, decide_eq_true h3, List.append_assoc])
          have hPi : (P.length : Int) ≤ 8000100 := by have := hpL.out; omega
          subst hP
          clear h3 hpc hst
          go_wp2_with fail
          refine (hwr.out _).mono ?_
          rintro e w3 ⟨rfl, b3⟩
          have hbl3 := Lib.hid (hbl2.out.below b3)
          have hB3 := Lib.hid (hB2.out.trans (b3.mono hB2.out.size))
          have hz3 := hz2.out.below b3 hz2.out.lt
          have z0 := hz3.cell 0
          have hln := Lib.hid (blen_any w.heap.size w1.heap.size acc w3 hbl3.out)
          clear b3 hbl2 hB2 hz2 hwr
          go_wp2_with fail
          refine hln.out.mono ?_
          rintro e w4 ⟨rfl, rfl⟩
          clear hln
          by_cases hbig : 1048576 < acc.length + P.length
          · have hbi : (1048576 : Int) < (acc.length : Int) + (P.length : Int) := by omega
            have hRR := Lib.hid (hlong2.out hbig)
            clear hbig hlong2
            go_wp2
            go_ret2
            exact ⟨by rw [hRR.out]; rfl, hB3.out⟩
          · have hbi : ¬ (1048576 : Int) < (acc.length : Int) + (P.length : Int) := by omega
            have hws := Lib.hid (wstr_any w.heap.size w1.heap.size acc (strOfNums P) w3 hbl3.out (by rw [hsP]; have := hl.out; have := hpL.out; omega) hB3.out.size)
            have hal2 : Hid ((acc ++ P).length ≤ 1048576) := Lib.hid (by rw [List.length_append]; omega)
            have hbs3 : Hid (Bs (acc ++ P)) := Lib.hid (bs_app hbs2.out hpB.out)
            rw [codes_str hpB.out] at hws
            clear hbig hlong2 hbl3
            go_wp2_with fail
            refine hws.out.mono ?_
            rintro e w5 ⟨rfl, h5, b5, k5⟩
            have hbl5 := Lib.hid h5
            have hB5 := Lib.hid (hB3.out.trans b5)
            have hz5 := hold_kept hz3 hz3.lt hgn.out k5
            have z5 := hz5.cell 0
            clear h5 b5 k5 hws hz3 z0 hz5
            go_wp2
            go_roundw
            case rel => exact ⟨k + 1, true, _, by omega, by go_num, rfl, hst2, hal2, hbs3, hbl5, hB5⟩
            case measure => simp [intOf]; omega
        · have e3 : (kk == 3) = false := by simpa using h3
          have e3' : (kk != 3) = true := by simpa using h3
          have hP : P = [32] ++ wl := by rw [hpc]; simp [h3]
          have hst2 : Hid (showF true l = (acc ++ P) ++ showF false (l.drop (k + 1))) := Lib.hid (by rw [hst.out, decide_eq_false h3, List.append_assoc])
          have hcc : (⟨#[32]⟩ : ByteArray) ++ strOfNums wl = strOfNums P := by rw [hP, str_append]; rfl
          have hwi : (wl.length : Int) ≤ 8000002 := by have := hwL.out; omega
          have hPi : (P.length : Int) ≤ 8000100 := by have := hpL.out; omega
          have hnov : ¬ 9223372036854775807 < 1 + wl.length := by have := hwL.out; omega
          clear h3 hpc hst hP
          go_wp2_with fail
          refine (hwr.out _).mono ?_
          rintro e w3 ⟨rfl, b3⟩
          have hbl3 := Lib.hid (hbl2.out.below b3)
          have hB3 := Lib.hid (hB2.out.trans (b3.mono hB2.out.size))
          have hz3 := hz2.out.below b3 hz2.out.lt
          have z0 := hz3.cell 0
          have hln := Lib.hid (blen_any w.heap.size w1.heap.size acc w3 hbl3.out)
          clear b3 hbl2 hB2 hz2 hwr
          go_wp2_with fail
          refine hln.out.mono ?_
          rintro e w4 ⟨rfl, rfl⟩
          clear hln
          by_cases hbig : 1048576 < acc.length + P.length
          · have hbi : (1048576 : Int) < (acc.length : Int) + (P.length : Int) := by omega
            have hRR := Lib.hid (hlong2.out hbig)
            clear hbig hlong2
            go_wp2
            go_ret2
            exact ⟨by rw [hRR.out]; rfl, hB3.out⟩
          · have hbi : ¬ (1048576 : Int) < (acc.length : Int) + (P.length : Int) := by omega
            have hws := Lib.hid (wstr_any w.heap.size w1.heap.size acc (strOfNums P) w3 hbl3.out (by rw [hsP]; have := hl.out; have := hpL.out; omega) hB3.out.size)
            have hal2 : Hid ((acc ++ P).length ≤ 1048576) := Lib.hid (by rw [List.length_append]; omega)
            have hbs3 : Hid (Bs (acc ++ P)) := Lib.hid (bs_app hbs2.out hpB.out)
            rw [codes_str hpB.out] at hws
            clear hbig hlong2 hbl3
            go_wp2_with fail
            refine hws.out.mono ?_
            rintro e w5 ⟨rfl, h5, b5, k5⟩
            have hbl5 := Lib.hid h5
            have hB5 := Lib.hid (hB3.out.trans b5)
            have hz5 := hold_kept hz3 hz3.lt hgn.out k5
            have z5 := hz5.cell 0
            clear h5 b5 k5 hws hz3 z0 hz5
            go_wp2
            go_roundw
            case rel => exact ⟨k + 1, false, _, by omega, by go_num, rfl, hst2, hal2, hbs3, hbl5, hB5⟩
            case measure => simp [intOf]; omega
      · by_cases h3 : kk = 3
        · have e3 : (kk == 3) = true := by simpa using h3
          have e3' : (kk != 3) = false := by simpa using h3
          have hP : P = wl := by rw [hpc]; simp [h3]
          have hst2 : Hid (showF true l = (acc ++ P) ++ showF true (l.drop (k + 1))) := Lib.hid (by rw [hst.out, decide_eq_true h3, List.append_assoc])
          have hPi : (P.length : Int) ≤ 8000100 := by have := hpL.out; omega
          subst hP
          clear h3 hpc hst
          go_wp2_with fail
          refine (hwr.out _).mono ?_
          rintro e w3 ⟨rfl, b3⟩
          have hbl3 := Lib.hid (hbl2.out.below b3)
          have hB3 := Lib.hid (hB2.out.trans (b3.mono hB2.out.size))
          have hz3 := hz2.out.below b3 hz2.out.lt
          have z0 := hz3.cell 0
          have hln := Lib.hid (blen_any w.heap.size w1.heap.size acc w3 hbl3.out)
          clear b3 hbl2 hB2 hz2 hwr
          go_wp2_with fail
          refine hln.out.mono ?_
          rintro e w4 ⟨rfl, rfl⟩
          clear hln
          by_cases hbig : 1048576 < acc.length + P.length
          · have hbi : (1048576 : Int) < (acc.length : Int) + (P.length : Int) := by omega
            have hRR := Lib.hid (hlong2.out hbig)
            clear hbig hlong2
            go_wp2
            go_ret2
            exact ⟨by rw [hRR.out]; rfl, hB3.out⟩
          · have hbi : ¬ (1048576 : Int) < (acc.length : Int) + (P.length : Int) := by omega
            have hws := Lib.hid (wstr_any w.heap.size w1.heap.size acc (strOfNums P) w3 hbl3.out (by rw [hsP]; have := hl.out; have := hpL.out; omega) hB3.out.size)
            have hal2 : Hid ((acc ++ P).length ≤ 1048576) := Lib.hid (by rw [List.length_append]; omega)
            have hbs3 : Hid (Bs (acc ++ P)) := Lib.hid (bs_app hbs2.out hpB.out)
            rw [codes_str hpB.out] at hws
            clear hbig hlong2 hbl3
            go_wp2_with fail
            refine hws.out.mono ?_
            rintro e w5 ⟨rfl, h5, b5, k5⟩
            have hbl5 := Lib.hid h5
            have hB5 := Lib.hid (hB3.out.trans b5)
            have hz5 := hold_kept hz3 hz3.lt hgn.out k5
            have z5 := hz5.cell 0
            clear h5 b5 k5 hws hz3 z0 hz5
            go_wp2
            go_roundw
            case rel => exact ⟨k + 1, true, _, by omega, by go_num, rfl, hst2, hal2, hbs3, hbl5, hB5⟩
            case measure => simp [intOf]; omega
        · have e3 : (kk == 3) = false := by simpa using h3
          have e3' : (kk != 3) = true := by simpa using h3
          have hP : P = wl := by rw [hpc]; simp [h3]
          have hst2 : Hid (showF true l = (acc ++ P) ++ showF false (l.drop (k + 1))) := Lib.hid (by rw [hst.out, decide_eq_false h3, List.append_assoc])
          have hPi : (P.length : Int) ≤ 8000100 := by have := hpL.out; omega
          subst hP
          clear h3 hpc hst
          go_wp2_with fail
          refine (hwr.out _).mono ?_
          rintro e w3 ⟨rfl, b3⟩
          have hbl3 := Lib.hid (hbl2.out.below b3)
          have hB3 := Lib.hid (hB2.out.trans (b3.mono hB2.out.size))
          have hz3 := hz2.out.below b3 hz2.out.lt
          have z0 := hz3.cell 0
          have hln := Lib.hid (blen_any w.heap.size w1.heap.size acc w3 hbl3.out)
          clear b3 hbl2 hB2 hz2 hwr
          go_wp2_with fail
          refine hln.out.mono ?_
          rintro e w4 ⟨rfl, rfl⟩
          clear hln
          by_cases hbig : 1048576 < acc.length + P.length
          · have hbi : (1048576 : Int) < (acc.length : Int) + (P.length : Int) := by omega
            have hRR := Lib.hid (hlong2.out hbig)
            clear hbig hlong2
            go_wp2
            go_ret2
            exact ⟨by rw [hRR.out]; rfl, hB3.out⟩
          · have hbi : ¬ (1048576 : Int) < (acc.length : Int) + (P.length : Int) := by omega
            have hws := Lib.hid (wstr_any w.heap.size w1.heap.size acc (strOfNums P) w3 hbl3.out (by rw [hsP]; have := hl.out; have := hpL.out; omega) hB3.out.size)
            have hal2 : Hid ((acc ++ P).length ≤ 1048576) := Lib.hid (by rw [List.length_append]; omega)
            have hbs3 : Hid (Bs (acc ++ P)) := Lib.hid (bs_app hbs2.out hpB.out)
            rw [codes_str hpB.out] at hws
            clear hbig hlong2 hbl3
            go_wp2_with fail
            refine hws.out.mono ?_
            rintro e w5 ⟨rfl, h5, b5, k5⟩
            have hbl5 := Lib.hid h5
            have hB5 := Lib.hid (hB3.out.trans b5)
            have hz5 := hold_kept hz3 hz3.lt hgn.out k5
            have z5 := hz5.cell 0
            clear h5 b5 k5 hws hz3 z0 hz5
            go_wp2
            go_roundw
            case rel => exact ⟨k + 1, false, _, by omega, by go_num, rfl, hst2, hal2, hbs3, hbl5, hB5⟩
            case measure => simp [intOf]; omega
    · have hke : k = n := by omega
      have hfin : showF true l = acc := by rw [hF.out, hke, List.drop_of_length_le (by rw [hlen.out]; omega)]; simp [showF]
      have hRR := Lib.hid (hok.out (by rw [hfin]; exact hl.out))
      have hfin' := Lib.hid hfin
      have hki : ¬ (k : Int) < (n : Int) := by omega
      have hq := Lib.hid (bstr_any w.heap.size w1.heap.size acc wr hbld.out hbs.out hB.out.size)
      clear hke hlt hF hfin hlong hok hbld
      go_wp2_with fail
      refine hq.out.mono ?_
      rintro e w5 ⟨rfl, h5, b5, k5⟩
      have hB5 := Lib.hid (hB.out.trans b5)
      clear h5 b5 k5 hq
      go_wp2
      go_ret2
      exact ⟨by rw [hRR.out, hfin'.out]; rfl, hB5.out⟩
end Go.Proofs.Ytplgfghffeijcaa
