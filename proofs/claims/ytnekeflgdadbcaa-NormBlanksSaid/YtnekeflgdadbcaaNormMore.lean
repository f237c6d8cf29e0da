/- norm.Same; the document's Norm. -/
import Derived.Test.YtnekeflgdadbcaaNormRefParts
namespace Go.Proofs.Ytnekeflgdadbcaa
open Go.RowKit
set_option linter.unusedVariables false
set_option linter.unusedSimpArgs false

/-- What was handed back as a row of texts, opened. -/
theorem GivesT.open {ls : List (List Int)} {w w' : World} {e : Ending} (h : GivesT ls w e w') : ∃ a c, e = .returned (.slice a (ls.map strOfNums).length c) ∧ (ls.map strOfNums).length ≤ c ∧ SeesT w'.heap.size w' a (ls.map strOfNums) ∧ Below w.heap.size w w' := by
  obtain ⟨v, rfl, hr, hb⟩ := h
  obtain ⟨a, c, rfl, -, hs⟩ := sees_ownT hr.1
  refine ⟨a, c, rfl, ?_, hs, hb⟩
  rcases hr.1.2 with ⟨h1, h2⟩ | ⟨g, cap, cur, h1, _, _, h2, _⟩
  · injection h1 with _ h3 h4; omega
  · injection h1 with _ h3 h4; omega
theorem map_str_inj {a b : List (List Int)} (ha : ∀ l ∈ a, Bs l) (hb : ∀ l ∈ b, Bs l) : decide (a.map strOfNums = b.map strOfNums) = decide (a = b) := by
  have : (a.map strOfNums = b.map strOfNums) ↔ a = b := ⟨inj_row ha hb, fun h => by rw [h]⟩
  simp only [this]

theorem nsame_any (s t : ByteArray) (hs : s.size ≤ 100000) (ht : t.size ≤ 100000) (w : World) : Calls Try.prog 13 #[.string s, .string t] w (Gives (.bool (decide (partsL (codes s) = partsL (codes t)))) w) := by
  have hp := Lib.hid (fun W => parts_any s hs W)
  have hq := Lib.hid (fun W => parts_any t ht W)
  have hbp : Hid (∀ l ∈ partsL (codes s), Bs l) := Lib.hid (parts_bs _ (Nat.le_refl _) (codes_bs s))
  have hbq : Hid (∀ l ∈ partsL (codes t), Bs l) := Lib.hid (parts_bs _ (Nat.le_refl _) (codes_bs t))
  have hlp : Hid ((partsL (codes s)).length ≤ 100000) := Lib.hid (by have := parts_len (codes s); rw [codes_length] at this; omega)
  have hlq : Hid ((partsL (codes t)).length ≤ 100000) := Lib.hid (by have := parts_len (codes t); rw [codes_length] at this; omega)
  clear hs ht
  generalize partsL (codes s) = p at *
  generalize partsL (codes t) = q at *
  go_enter Try.func13, Try.ntmps13
  go_wp2_with fail
  refine (hp.out _).mono ?_
  rintro e W1 h1
  obtain ⟨a1, c1, rfl, -, s1, B1⟩ := h1.open
  have s1' := Lib.hid s1
  have B1' := Lib.hid B1
  clear h1 s1 B1 hp
  go_wp2_with fail
  refine (hq.out _).mono ?_
  rintro e W2 h2
  obtain ⟨a2, c2, rfl, -, s2, B2⟩ := h2.open
  have heq := Lib.hid (equal_any a1 c1 _ a2 c2 _ W2 (by simpa using hlp.out) (by simpa using hlq.out) ((s1'.out.below B2).mono B2.size) s2)
  rw [map_str_inj hbp.out hbq.out] at heq
  have hBB := Lib.hid (B1'.out.trans (B2.mono B1'.out.size))
  clear h2 s2 B2 hq s1' B1' hbp hbq hlp hlq
  simp only [List.length_map] at heq
  go_wp2_with fail
  refine heq.out.mono ?_
  rintro e W3 ⟨rfl, B3⟩
  have hres : Gives (.bool (decide (p = q))) w (.returned (.bool (decide (p = q)))) W3 := ⟨rfl, hBB.out.trans (B3.mono hBB.out.size)⟩
  clear heq hBB B3
  go_wp2
  go_ret
  exact hres

set_option maxRecDepth 100000 in
set_option maxHeartbeats 4000000 in
theorem rnorm_any (s : ByteArray) (hs : s.size ≤ 100000) (w : World) : Calls Try.prog 12 #[.string s] w (Gives (.string (strOfNums (normS (codes s)))) w) := by
  have hlen := normS_len (codes s)
  rw [codes_length] at hlen
  have hgood := parts_good _ (Nat.le_refl (codes s).length)
  have hbsAll := parts_bs _ (Nat.le_refl (codes s).length) (codes_bs s)
  have htot : Hid (normL false (partsL (codes s)) = normS (codes s)) := Lib.hid rfl
  have hT : Hid ((normS (codes s)).length ≤ 100000) := Lib.hid (by omega)
  have hTb : Hid (Bs (normS (codes s))) := Lib.hid (norm_bs hbsAll false)
  have hgood' := Lib.hid hgood
  have hbs' := Lib.hid hbsAll
  have hpl' := Lib.hid (fun W => rparts_any s hs W)
  have hnum : Hid ((partsL (codes s)).length ≤ 100000) := Lib.hid (by have := parts_len (codes s); rw [codes_length] at this; omega)
  clear hlen hgood hbsAll hs
  generalize partsL (codes s) = ps at *
  generalize normS (codes s) = T at *
  go_enter Try.func12, Try.ntmps12
  go_wp2_with fail
  refine (hpl'.out _).mono ?_
  rintro e W1 h1
  obtain ⟨a, c, rfl, -, s1, hB1⟩ := h1.open
  have s1' := Lib.hid s1
  have hB0 := Lib.hid hB1
  clear h1 s1 hB1 hpl'
  go_wp2
  go_loopw [3, 4, 6] (fun tx word i wr => ∃ (k : Nat) (acc : List Int) (last : Bool), k ≤ ps.length ∧ i = .int .i64 k ∧ word = .bool last ∧ tx = .string (strOfNums acc) ∧ Hid (acc ++ normL last (ps.drop k) = T) ∧ Hid (Below W1.heap.size W1 wr)) (fun _ _ i _ => ps.length - (intOf i).toNat)
  case atStart => exact ⟨0, [], false, by omega, rfl, rfl, rfl, Lib.hid (by simpa using htot.out), Lib.hid (Below.refl _ _)⟩
  case round =>
    obtain ⟨k, acc, last, hk, rfl, rfl, rfl, htt, hB⟩ := hrel
    have hkb := hnum.out
    by_cases hlt : k < ps.length
    · rcases s1'.out.below hB.out with h | ⟨b1, o1, rfl, -, g1⟩
      · have := congrArg List.length h; rw [List.length_map] at this; simp only [List.length_nil] at this; omega
      have e1 := g1 k (by simpa using hlt)
      rw [show (ps.map strOfNums).getD k ⟨#[]⟩ = strOfNums (ps.getD k []) by simp [List.getD, hlt]] at e1
      clear g1
      have hgk := hgood'.out (ps.getD k []) (by simp [List.getD, hlt])
      have hbk := hbs'.out (ps.getD k []) (by simp [List.getD, hlt])
      have hst := Lib.hid (norm_step hlt last)
      have hpl : 0 < (ps.getD k []).length := List.length_pos_iff.2 hgk.ne
      have hz : ∀ W, (Instr.index 9 (.string (strOfNums (ps.getD k []))) (.int .i64 0)).run Try.prog W = .ok (.int .u8 ((ps.getD k []).headD 0)) W := fun W => by
        have := ix (strOfNums (ps.getD k [])) 0 (by rw [← codes_length, codes_str hbk]; exact hpl) W
        rw [codes_str hbk, head_at hgk.ne] at this
        exact this
      have hc0 := hbk.at hpl
      rw [head_at hgk.ne] at hc0
      have hcall := Lib.hid (fun W => dword_any ((ps.getD k []).headD 0) hc0.1 hc0.2 W)
      rw [show wdB ((ps.getD k []).headD 0) = hw (ps.getD k []) from rfl] at hcall
      have hL : Hid ((acc ++ normL last (ps.drop k)).length ≤ 100000) := Lib.hid (by rw [htt.out]; exact hT.out)
      clear hgk hbk hpl hc0
      generalize (ps.getD k []).headD 0 = c0 at *
      generalize ps.getD k [] = p at *
      generalize hw p = isw at *
      have hcat : ¬ 9223372036854775807 < (strOfNums acc).size + (strOfNums p).size := by
        have := hL.out; rw [hst.out] at this; rw [strOfNums_size, strOfNums_size]; simp at this; omega
      have hcat1 : ¬ 9223372036854775807 < (strOfNums acc).size + 1 := by
        have := hL.out; rw [strOfNums_size]; simp at this; omega
      have hcat2 : ¬ 9223372036854775807 < (strOfNums acc).size + 1 + (strOfNums p).size := by
        have := hL.out; rw [hst.out] at this; rw [strOfNums_size, strOfNums_size]; simp at this; omega
      go_wp2_with fail
      refine (hcall.out _).mono ?_
      rintro e W2 ⟨rfl, hB2⟩
      have e2 : W2.cell? ⟨b1, o1 + k, none⟩ = some (.string (strOfNums p)) := (hB2.cell (p := ⟨b1, o1 + k, none⟩) (World.block_lt_of_cell? _ _ e1)).trans e1
      have hB2' := Lib.hid (hB.out.trans (hB2.mono hB.out.size))
      clear hB2 e1 hB hcall
      by_cases hsep : (last && isw) = true
      · obtain ⟨rfl, rfl⟩ : last = true ∧ isw = true := by cases last <;> cases isw <;> simp_all
        have htt3 : Hid ((acc ++ [32] ++ p) ++ normL true (ps.drop (k + 1)) = T) := Lib.hid (by rw [← htt.out, hst.out]; simp)
        have hacc : Hid (strOfNums (acc ++ [32] ++ p) = strOfNums acc ++ ⟨#[32]⟩ ++ strOfNums p) := Lib.hid (by rw [str_append', str_append']; rfl)
        clear hsep htt hst hL
        generalize hx : strOfNums (acc ++ [32] ++ p) = x3 at *
        have hx' := Lib.hid hx
        clear hx
        go_wp2
        go_roundw
        case rel => exact ⟨k + 1, _, true, by omega, by go_num, rfl, by rw [hx'.out, hacc.out], htt3, hB2'⟩
        case measure => simp [intOf]; omega
      · have htt3 : Hid ((acc ++ p) ++ normL isw (ps.drop (k + 1)) = T) := Lib.hid (by rw [← htt.out, hst.out, if_neg hsep]; simp)
        have hacc : Hid (strOfNums (acc ++ p) = strOfNums acc ++ strOfNums p) := Lib.hid (str_append' _ _)
        have hsp : (last && isw) = false := by simpa using hsep
        clear hsep htt hst hL
        cases last
        · clear hsp
          go_wp2
          go_roundw
          case rel => exact ⟨k + 1, _, isw, by omega, by go_num, rfl, by rw [hacc.out], htt3, hB2'⟩
          case measure => simp [intOf]; omega
        · obtain rfl : isw = false := by simpa using hsp
          clear hsp
          go_wp2
          go_roundw
          case rel => exact ⟨k + 1, _, false, by omega, by go_num, rfl, by rw [hacc.out], htt3, hB2'⟩
          case measure => simp [intOf]; omega
    · have hfin : Hid (acc = T) := Lib.hid (by
        have := htt.out
        rw [List.drop_of_length_le (by omega)] at this
        simpa [normL] using this)
      have hres : Gives (.string (strOfNums T)) w (.returned (.string (strOfNums acc))) wr := ⟨by rw [hfin.out], hB0.out.trans (hB.out.mono hB0.out.size)⟩
      go_wp2
      go_ret
      exact hres
end Go.Proofs.Ytnekeflgdadbcaa
