/- norm.Norm: the norm of a text. -/
import Derived.Test.YtnekeflgdadbcaaNormEqual
import Derived.Test.YtnekeflgdadbcaaNormSpec
import Derived.Test.YtnekeflgdadbcaaBld
namespace Go.Proofs.Ytnekeflgdadbcaa
open Go.RowKit
set_option linter.unusedVariables false
set_option linter.unusedSimpArgs false

/-- Rows of texts lie in no row of bytes: a builder's writing leaves them. -/
theorem row_kept {w w' : World} {base b : Nat} {v : Value} {n : Nat} {xs : List Value} (h : w.ownsRow base 9 1 v n xs) (hb : v.ownBlock ≠ some b) (hk : Lib.OthersKept 5 (some b) w w') : w'.ownsRow base 9 1 v n xs := by
  refine ⟨h.1, ?_⟩
  rcases h.2 with h | ⟨g, cap, cur, hv, hg, hh, r⟩
  · exact .inl h
  · exact .inr ⟨g, cap, cur, hv, hg, hk g _ hh (by rw [hv] at hb; exact hb) (by intro c fz e; simp at e), r⟩
theorem head_at {p : List Int} (h : p ≠ []) : p.getD 0 0 = p.headD 0 := by cases p <;> simp at h ⊢
theorem norm_step {ps : List (List Int)} {k : Nat} (hk : k < ps.length) (last : Bool) : normL last (ps.drop k) = (if last && hw (ps.getD k []) then [32] else []) ++ ((ps.getD k []) ++ normL (hw (ps.getD k [])) (ps.drop (k + 1))) := by
  rw [List.drop_eq_getElem_cons hk]
  simp [normL, List.getD, hk]

set_option maxHeartbeats 2000000 in
set_option maxRecDepth 100000 in
theorem norm_any (s : ByteArray) (hs : s.size ≤ 100000) (w : World) : Calls Try.prog 8 #[.string s] w (Gives (.string (strOfNums (normS (codes s)))) w) := by
  have hlen := normS_len (codes s)
  rw [codes_length] at hlen
  have hpl : ∀ W, Calls Try.prog 11 #[.string s] W (GivesT (partsL (codes s)) W) := fun W => parts_any s hs W
  have hgood := parts_good _ (Nat.le_refl (codes s).length)
  have hbsAll := parts_bs _ (Nat.le_refl (codes s).length) (codes_bs s)
  have htot : Hid (normL false (partsL (codes s)) = normS (codes s)) := Lib.hid rfl
  have hT : Hid ((normS (codes s)).length ≤ 100000) := Lib.hid (by omega)
  have hTb : Hid (Bs (normS (codes s))) := Lib.hid (norm_bs hbsAll false)
  have hgood' := Lib.hid hgood
  have hbs' := Lib.hid hbsAll
  have hpl' := Lib.hid hpl
  have hnum : Hid ((partsL (codes s)).length ≤ 100000) := Lib.hid (by
    have h : ∀ (ps : List (List Int)) (last : Bool), (∀ p ∈ ps, Good p) → ps.length ≤ (normL last ps).length := by
      intro ps
      induction ps with
      | nil => intro _ _; simp
      | cons p r ih =>
        intro last hg
        have h1 := ih (hw p) (fun x hx => hg x (by simp [hx]))
        have h2 : 0 < p.length := List.length_pos_iff.2 (hg p (by simp)).ne
        simp only [normL, List.length_append, List.length_cons]; omega
    have := h _ false hgood
    unfold normS at hlen; omega)
  clear hlen hpl hgood hbsAll hs
  generalize partsL (codes s) = ps at *
  generalize normS (codes s) = T at *
  go_enter Try.func8, Try.ntmps8
  go_wp2_with fail
  refine (hpl'.out _).mono ?_
  rintro e W1 ⟨v, rfl, hrow, hB1⟩
  obtain ⟨a, c, rfl, -, -⟩ := sees_ownT hrow.1
  have hne : Hid ((Value.slice a (ps.map strOfNums).length c).ownBlock ≠ some w.heap.size) := Lib.hid (by
    intro e
    have := hrow.2 _ e
    simp at this; omega)
  have hown0 := hrow.1
  have hbld0 : Hid (Bld w.heap.size w.heap.size [] W1) := Lib.hid ((bld_new w w.heap.size (Nat.le_refl _)).below hB1)
  have hB0 : Hid (Below w.heap.size w W1) := Lib.hid (((Below.refl _ _).alloc (Nat.le_refl _) _).trans (hB1.mono (by simp)))
  have hown0' := Lib.hid hown0
  clear hrow hown0 hB1
  go_wp2
  go_loopw [4, 11] (fun word i wr => ∃ (k : Nat) (acc : List Int) (last : Bool), k ≤ ps.length ∧ i = .int .i64 k ∧ word = .bool last ∧ Hid (acc ++ normL last (ps.drop k) = T) ∧ Hid (Bld w.heap.size w.heap.size acc wr) ∧ Hid (wr.ownsRow 0 9 1 (.slice a (ps.map strOfNums).length c) (ps.map strOfNums).length (txts (ps.map strOfNums))) ∧ Hid (Below w.heap.size w wr)) (fun _ i _ => ps.length - (intOf i).toNat)
  case atStart => exact ⟨0, [], false, by omega, rfl, rfl, Lib.hid (by simpa using htot.out), hbld0, hown0', hB0⟩
  case round =>
    obtain ⟨k, acc, last, hk, rfl, rfl, htt, hbld, hown, hB⟩ := hrel
    have hkb := hnum.out
    by_cases hlt : k < ps.length
    · have hlt' : 0 < (ps.map strOfNums).length := by simp; omega
      obtain ⟨a', c', hv, -, hs⟩ := sees_ownT hown.out
      have ea : a = a' := by injection hv
      subst ea
      clear hv
      rcases hs with h | ⟨b1, o1, rfl, -, g1⟩
      · rw [h] at hlt'; simp at hlt'
      have e1 := g1 k (by simpa using hlt)
      rw [show (ps.map strOfNums).getD k ⟨#[]⟩ = strOfNums (ps.getD k []) by simp [List.getD, hlt]] at e1
      clear g1
      have hgk := hgood'.out (ps.getD k []) (by simp [List.getD, hlt])
      have hbk := hbs'.out (ps.getD k []) (by simp [List.getD, hlt])
      have hst := Lib.hid (norm_step hlt last)
      have hpl : 0 < (ps.getD k []).length := List.length_pos_iff.2 hgk.ne
      have hz : ∀ W, (Instr.index 9 (.string (strOfNums (ps.getD k []))) (.int .i64 0)).run Try.prog W = .ok (.int .u8 ((ps.getD k []).headD 0)) W := fun W => by
        have := ix (strOfNums (ps.getD k [])) 0 (by rw [← codes_length, codes_str hbk]; exact hpl) W
        rw [codes_str hbk, head_at hgk.ne] at this
        exact this
      have hc0 := hbk.at hpl
      rw [head_at hgk.ne] at hc0
      have hcall := Lib.hid (fun W => wordByte_any ((ps.getD k []).headD 0) hc0.1 hc0.2 W)
      rw [show wdB ((ps.getD k []).headD 0) = hw (ps.getD k []) from rfl] at hcall
      have hsz : Hid ((strOfNums (ps.getD k [])).size = (ps.getD k []).length) := Lib.hid (by rw [← codes_length, codes_str hbk])
      have hcd : Hid (codes (strOfNums (ps.getD k [])) = ps.getD k []) := Lib.hid (codes_str hbk)
      clear hgk hbk hpl hc0
      generalize (ps.getD k []).headD 0 = c0 at *
      generalize ps.getD k [] = p at *
      generalize hw p = isw at *
      have hL : Hid ((acc ++ normL last (ps.drop k)).length ≤ 100000) := Lib.hid (by rw [htt.out]; exact hT.out)
      go_wp2_with fail
      refine (hcall.out _).mono ?_
      rintro e w' ⟨rfl, rfl⟩
      by_cases hsep : (last && isw) = true
      · obtain ⟨rfl, rfl⟩ : last = true ∧ isw = true := by cases last <;> cases isw <;> simp_all
        have hwb := Lib.hid (wbyte_any w.heap.size w.heap.size acc 32 wr hbld.out (by have := hL.out; simp at this; omega) hB.out.size)
        clear hsep
        go_wp2_with fail
        refine hwb.out.mono ?_
        rintro e W2 ⟨rfl, hbld2, hB2, hk2⟩
        have hws := Lib.hid (wstr_any w.heap.size w.heap.size (acc ++ [32]) (strOfNums p) W2 hbld2 (by have := hL.out; rw [hst.out] at this; rw [hsz.out]; simp at this ⊢; omega) (by have := hB.out.size; have := hB2.size; omega))
        clear hbld2 hwb
        go_wp2_with fail
        refine hws.out.mono ?_
        rintro e W3 ⟨rfl, hbld3, hB3, hk3⟩
        rw [hcd.out] at hbld3
        have hbld3' := Lib.hid hbld3
        have hown3 := Lib.hid (row_kept (row_kept hown.out hne.out hk2) hne.out hk3)
        have hB3' := Lib.hid ((hB.out.trans hB2).trans hB3)
        have htt3 : Hid ((acc ++ [32] ++ p) ++ normL true (ps.drop (k + 1)) = T) := Lib.hid (by rw [← htt.out, hst.out]; simp)
        clear hbld3 hws hB2 hk2 hB3 hk3 hbld hown hB htt hst hL
        go_wp2
        go_roundw
        case rel => exact ⟨k + 1, _, true, by omega, by go_num, rfl, htt3, hbld3', hown3, hB3'⟩
        case measure => simp [intOf]; omega
      · have hws := Lib.hid (wstr_any w.heap.size w.heap.size acc (strOfNums p) wr hbld.out (by have := hL.out; rw [hst.out] at this; rw [hsz.out]; simp at this ⊢; omega) hB.out.size)
        have htt3 : Hid ((acc ++ p) ++ normL isw (ps.drop (k + 1)) = T) := Lib.hid (by rw [← htt.out, hst.out, if_neg hsep]; simp)
        have hsp : (last && isw) = false := by simpa using hsep
        clear hsep
        cases last
        · go_wp2_with fail
          refine hws.out.mono ?_
          rintro e W3 ⟨rfl, hbld3, hB3, hk3⟩
          rw [hcd.out] at hbld3
          have hbld3' := Lib.hid hbld3
          have hown3 := Lib.hid (row_kept hown.out hne.out hk3)
          have hB3' := Lib.hid (hB.out.trans hB3)
          clear hbld3 hws hB3 hk3 hbld hown hB htt hst hL
          go_wp2
          go_roundw
          case rel => exact ⟨k + 1, _, isw, by omega, by go_num, rfl, htt3, hbld3', hown3, hB3'⟩
          case measure => simp [intOf]; omega
        · obtain rfl : isw = false := by simpa using hsp
          go_wp2_with fail
          refine hws.out.mono ?_
          rintro e W3 ⟨rfl, hbld3, hB3, hk3⟩
          rw [hcd.out] at hbld3
          have hbld3' := Lib.hid hbld3
          have hown3 := Lib.hid (row_kept hown.out hne.out hk3)
          have hB3' := Lib.hid (hB.out.trans hB3)
          clear hbld3 hws hB3 hk3 hbld hown hB htt hst hL
          go_wp2
          go_roundw
          case rel => exact ⟨k + 1, _, false, by omega, by go_num, rfl, htt3, hbld3', hown3, hB3'⟩
          case measure => simp [intOf]; omega
    · have hfin : Hid (acc = T) := Lib.hid (by
        have := htt.out
        rw [List.drop_of_length_le (by omega)] at this
        simpa [normL] using this)
      have hstr := Lib.hid (bstr_any w.heap.size w.heap.size acc wr hbld.out (by rw [hfin.out]; exact hTb.out) hB.out.size)
      clear hbld
      go_wp2_with fail
      refine hstr.out.mono ?_
      rintro e W3 ⟨rfl, -, hB3, -⟩
      have hres : Gives (.string (strOfNums T)) w (.returned (.string (strOfNums acc))) W3 := ⟨by rw [hfin.out], hB.out.trans hB3⟩
      clear hstr hB3
      go_wp2
      go_ret
      exact hres
end Go.Proofs.Ytnekeflgdadbcaa
