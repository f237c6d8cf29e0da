/- What is put as a table is got. Plain lists. -/
import Derived.Test.YtkfgfbdlbiahkaaStrsBytes
import Derived.Test.YtkfgfbdlbiahkaaCurRound
namespace Go.Proofs.Ytkfgfbdlbiahkaa
open Go.RowKit
set_option linter.unusedVariables false
set_option linter.unusedSimpArgs false

theorem byt_take (a : ByteArray) (n : Nat) : byt (a.extract 0 n) = (byt a).take n := by
  unfold byt
  rw [ByteArray.data_extract, Array.toList_extract, List.extract_eq_take_drop]
  simp
theorem byt_tail (s : ByteArray) (k : Nat) : byt (tailT s k) = (byt s).drop k := by
  unfold tailT byt
  rw [ByteArray.data_extract, Array.toList_extract, List.extract_eq_take_drop]
  rw [List.take_of_length_le (by simp)]
theorem byt_append (a b : ByteArray) : byt (a ++ b) = byt a ++ byt b := by
  unfold byt
  rw [ByteArray.data_append, Array.toList_append]
theorem alike_take : ∀ a b : B8, a.take (alikeL a b) = b.take (alikeL a b)
  | [], b => by simp [alikeL]
  | x :: r, [] => by simp [alikeL]
  | x :: r, y :: s => by
    unfold alikeL
    split
    · rename_i h
      rw [List.take_succ_cons, List.take_succ_cons, alike_take r s, h]
    · simp
theorem join_tail (a s : ByteArray) : joinT a (alikeL (byt a) (byt s)) (tailT s (alikeL (byt a) (byt s))) = s := by
  apply byt_inj
  unfold joinT
  rw [byt_append, byt_take, byt_tail, alike_take, List.take_append_drop]
theorem rd_text2 {L rest : List Int} {p : Nat} {s : ByteArray} {M : Nat} (hb : s.size ≤ M) (hM : M ≤ 1048576) (h : L.drop p = txtL s ++ rest) : textO (M : Int) L p 0 = (s, p + (txtL s).length, 0) := by
  have hl := codes_length s
  have h2 : L.drop p = leb (codes s).length ++ (codes s ++ rest) := by rw [h, hl, txtL, List.append_assoc]
  rw [rd_text (b := codes s) (by omega) hM h2, str_codes, txtL, hl]
  simp [hl, Nat.add_assoc]
theorem one_get {last s : ByteArray} {rest bs : List Int} {p : Nat} (hs : s.size ≤ 256) (h : bs.drop p = oneT last s ++ rest) :
    tN bs p = (((alikeL (byt last) (byt s) : Nat) : Int), p + (leb (alikeL (byt last) (byt s))).length, 0) ∧ tX bs p = (tailT s (alikeL (byt last) (byt s)), p + (oneT last s).length, 0) := by
  have ha := alike_sz last s
  have h1 : tN bs p = (((alikeL (byt last) (byt s) : Nat) : Int), p + (leb (alikeL (byt last) (byt s))).length, 0) := by
    have hu := rd_u (n := alikeL (byt last) (byt s)) (rest := txtL (tailT s (alikeL (byt last) (byt s))) ++ rest) (by omega) (by rw [h, oneT, List.append_assoc])
    unfold tN countO
    rw [hu, if_neg]
    rintro ⟨-, -, h1 | h1⟩ <;> omega
  refine ⟨h1, ?_⟩
  unfold tX
  rw [h1]
  have hts := tail_size s (alikeL (byt last) (byt s))
  have := rd_text2 (L := bs) (p := p + (leb (alikeL (byt last) (byt s))).length) (s := tailT s (alikeL (byt last) (byt s))) (M := 256) (rest := rest) (by omega) (by omega) (by
    rw [← List.drop_drop, h, oneT, List.append_assoc, List.drop_left])
  rw [show ((256 : Nat) : Int) = 256 by rfl] at this
  simp only [this, oneT, List.length_append, Nat.add_assoc]
theorem one_join {last s : ByteArray} {rest bs : List Int} {p : Nat} (hs : s.size ≤ 256) (h : bs.drop p = oneT last s ++ rest) : tS last bs p = s := by
  obtain ⟨h1, h2⟩ := one_get hs h
  unfold tS
  rw [h1, h2]
  exact join_tail last s
theorem one_fine {last s : ByteArray} {rest bs : List Int} {p : Nat} {first : Bool} (hs : s.size ≤ 256) (h : bs.drop p = oneT last s ++ rest) (hf : first = true ∨ lt8 (byt last) (byt s) = true) : tE first last bs p = 0 := by
  obtain ⟨h1, h2⟩ := one_get hs h
  have h3 := one_join hs h
  have ha := alike_sz last s
  unfold tE
  rw [h3, h1, h2]
  rw [if_neg (by simp), if_neg (by simp; omega), if_neg, if_neg (by omega)]
  rintro (h4 | h4)
  · rcases hf with rfl | hf
    · simp at h4
    · rw [hf] at h4; simp at h4
  · simp at h4
theorem go_read {l : List ByteArray} (hsz : ∀ s ∈ l, s.size ≤ 256) (hasc : ascB l = true) {bs : List Int} : ∀ (suf acc : List ByteArray) (p : Nat), acc ++ suf = l → p ≤ bs.length → bs.drop p = bodyT (lastT acc) suf → goT bs suf.length acc p = (l, bs.length, 0)
  | [], acc, p, hl, hp, h => by
    have : bs.length ≤ p := by have := congrArg List.length h; simp [bodyT] at this; omega
    rw [List.append_nil] at hl
    rw [List.length_nil, goT, hl]
    congr 2
    omega
  | s :: suf, acc, p, hl, hp, h => by
    have hs : s.size ≤ 256 := hsz s (by rw [← hl]; simp)
    rw [bodyT] at h
    have hlt : decide (acc.length = 0) = true ∨ lt8 (byt (lastT acc)) (byt s) = true := by
      rcases List.eq_nil_or_concat acc with rfl | ⟨a, x, rfl⟩
      · exact .inl rfl
      · right
        unfold ascB at hasc
        rw [List.all_eq_true] at hasc
        have h1 := hasc a.length (by rw [← hl]; simp)
        have e1 : l.getD a.length e0 = x := by rw [← hl]; simp [List.getD]
        have e2 : l.getD (a.length + 1) e0 = s := by rw [← hl]; simp [List.getD]
        rw [e1, e2] at h1
        simpa [lastT] using h1
    have h1 := one_fine hs h hlt
    have h2 := (one_get hs h).2
    have h3 := one_join hs h
    have hle : p + (oneT (lastT acc) s).length ≤ bs.length := by
      have := congrArg List.length h
      have h5 := (one_len (last := lastT acc) (s := s) (by omega)).2
      simp at this
      omega
    rw [List.length_cons, goT, if_pos h1, h3, h2]
    refine go_read hsz hasc suf (acc ++ [s]) _ (by rw [← hl]; simp) hle ?_
    rw [← List.drop_drop, h, List.drop_left]
    simp [lastT]
theorem get_putT {l : List ByteArray} (h : checkT l = 0) : getT (putT l) = (l, (putT l).length, 0) := by
  obtain ⟨h1, h2, h3⟩ := check_small h
  have hu := rd_u (L := putT l) (p := 0) (n := l.length) (rest := bodyT e0 l) (by omega) (by simp [putT])
  have hc : countO 4096 (putT l) 0 0 = ((l.length : Int), (leb l.length).length, 0) := by
    unfold countO
    rw [hu, if_neg]
    · simp
    · rintro ⟨-, -, h1 | h1⟩ <;> omega
  unfold getT
  rw [hc, if_neg (by simp)]
  have hg := go_read h2 h3 (bs := putT l) l [] (leb l.length).length (by simp) (by simp [putT]) (by simp [putT, lastT])
  simp only [Int.toNat_natCast]
  rw [hg]
  simp [endT]
end Go.Proofs.Ytkfgfbdlbiahkaa
