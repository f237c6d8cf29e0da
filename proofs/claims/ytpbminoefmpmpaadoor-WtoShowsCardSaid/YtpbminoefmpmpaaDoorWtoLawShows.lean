/- WtoShows: its walk. -/
import Derived.Test.YtpbminoefmpmpaaDoorWtoLives
import Derived.Test.YtpbminoefmpmpaaDoorWtoEmpty
namespace Go.Proofs.YtpbminoefmpmpaaDoor
open Go.RowKit
set_option linter.unusedVariables false
set_option linter.unusedSimpArgs false

theorem seg_len {P S : List Int} (hv : ∀ i, i < P.length → 0 ≤ P.getD i 0 ∧ P.getD i 0 ≤ 127) {d a b : Nat} {t : List UInt8} (h : Seg P S d a b t) : t.length ≤ 16 * (b - a) := by
  induction h with
  | nil => simp
  | leaf d a b t h1 h2 h3 ih =>
    have := digP_len (hv a h1)
    have := h3.le
    simp only [List.length_cons, List.length_append]; omega
  | comp d a b m t1 t2 h1 h2 h3 h4 h5 h6 i1 i2 =>
    have := digP_len (hv a h1)
    have := h5.le
    have := h6.le
    simp only [List.length_cons, List.length_append]; omega
/-- The text of an order is parsed as it was. -/
theorem parse_text {P S : List Int} (O : OrdW P S) (h0 : 0 < P.length) (w : World) : Calls Tryd.prog 21 #[.string (strB (Lib.join (wordsL P S S.length) [32]))] w (ParE P S (strB (Lib.join (wordsL P S S.length) [32])) w) := by
  obtain ⟨t, ht⟩ := seg_all O
  rw [text_words ht]
  have hv : ∀ i, i < P.length → 0 ≤ P.getD i 0 ∧ P.getD i 0 ≤ 127 := fun i hi => ⟨(O.once i hi).1, (O.once i hi).2.1⟩
  have hlen := seg_len hv ht
  have hfew := O.few
  obtain ⟨x, hx, hxa, hon⟩ := ord_at O h0
  have hS0 : 0 < S.length := by rw [← O.len]; exact h0
  have hby : ∀ l : List UInt8, (strB l).data.toList = l := fun l => by simp [strB]
  clear hlen
  have hlen := seg_len hv ht
  generalize hb : S.length = b at ht
  cases ht with
  | nil => omega
  | leaf _ _ _ t2 g1 g2 g3 =>
    subst hb
    rw [hxa] at hlen ⊢
    simp only [List.drop_succ_cons, List.drop_zero]
    have hsz : (strB (digP (x : Int) ++ t2)).size = (digP (x : Int)).length + t2.length := by rw [strB_size, List.length_append]
    have hd0 : 0 < (digP (x : Int)).length := List.length_pos_iff.2 (digP_ne _)
    have hl : (digP (x : Int)).length + t2.length ≤ 4096 := by simp at hlen; omega
    refine parse_ok _ P S (by rw [hsz]; exact hl) (by rw [hsz]; omega) O.len (0 + (digP (x : Int)).length) (0 + 1) ([] ++ [0]) (fun w0 B r W h => ?_) (fun w0 B r W aP aS cP cS h => ?_) w
    · exact entry_leaf w0 B r _ 0 0 P [] none none 0 0 W h 0 x hx t2 (by rw [hby]; rfl) (by have q := seg_noDig (l := []) g3 (.inl rfl); rwa [List.append_nil] at q) (by rw [hsz]; omega) (Nat.zero_le _) h0 hxa hon (by omega)
    · have q := more_ok w0 B r _ P S O (by rw [hsz]; omega) t2.length t2 [] (Nat.le_refl _) (.inl rfl) 0 (0 + 1) S.length (0 + (digP (x : Int)).length) ([] ++ [0]) aP aS cP cS W g3 (Nat.le_refl _) (by rw [hby, Nat.zero_add, List.drop_left, List.append_nil]) (by rw [hsz]; omega) h
      rw [show 0 + (digP (x : Int)).length + t2.length = (strB (digP (x : Int) ++ t2)).size by rw [hsz]; omega, show [] ++ [0] ++ segS S (0 + 1) S.length = S by
        have e := segS_cons (S := S) (a := 0) hS0 (Nat.le_refl _)
        rw [g2] at e
        rw [List.nil_append]
        show (0 : Int) :: segS S (0 + 1) S.length = S
        rw [← e]; unfold segS; rw [List.take_length, List.drop_zero], ← O.len] at q
      exact q
  | comp _ _ _ m t1 t2 g1 g2 g3 g4 g5 g6 =>
    subst hb
    rw [hxa] at hlen ⊢
    simp only [List.drop_succ_cons, List.drop_zero]
    have hm1 := g6.le
    have hsz : (strB (40 :: (digP (x : Int) ++ t1 ++ 41 :: t2))).size = 1 + (digP (x : Int)).length + t1.length + 1 + t2.length := by rw [strB_size]; simp; omega
    have hl : 1 + (digP (x : Int)).length + t1.length + 1 + t2.length ≤ 4096 := by simp at hlen; omega
    have hc : (strB (40 :: (digP (x : Int) ++ t1 ++ 41 :: t2))).data.toList.drop 0 = 40 :: (digP (x : Int) ++ (t1 ++ 41 :: t2)) := by rw [hby, List.drop_zero, List.append_assoc]
    refine parse_ok _ P S (by rw [hsz]; exact hl) (by rw [hsz]; omega) O.len (0 + 1 + (digP (x : Int)).length + t1.length + 1) (0 + m) ([] ++ segS S 0 (0 + m)) (fun w0 B r W h => ?_) (fun w0 B r W aP aS cP cS h => ?_) w
    · have hc1 : (strB (40 :: (digP (x : Int) ++ t1 ++ 41 :: t2))).data.toList.drop (0 + 1 + (digP (x : Int)).length) = t1 ++ 41 :: t2 := by
        have := drop_all (s := strB (40 :: (digP (x : Int) ++ t1 ++ 41 :: t2))) (p := 0 + 1) (D := digP (x : Int)) (l := t1 ++ 41 :: t2) (by obtain ⟨_, _, z⟩ := byte_in hc; exact z)
        exact this
      exact entry_comp w0 B r _ 0 0 m P S [] none none 0 0 W h 0 x (by decide) hx t1 t2 hc (seg_noDig g5 (.inr rfl)) (by rw [hsz]; omega) (Nat.zero_le _) h0 hxa hon (by rw [O.len]; exact hfew) O.len g2 g3 (by omega) (fun W aP aS cP cS h => more_ok w0 B r _ P S O (by rw [hsz]; omega) t1.length t1 (41 :: t2) (Nat.le_refl _) (.inr rfl) (0 + 1) (0 + 1) (0 + m) _ ([] ++ [0]) aP aS cP cS W g5 (by omega) hc1 (by rw [hsz]; omega) h)
    · have hc2 : (strB (40 :: (digP (x : Int) ++ t1 ++ 41 :: t2))).data.toList.drop (0 + 1 + (digP (x : Int)).length + t1.length + 1) = t2 ++ [] := by
        have h1 := drop_all (s := strB (40 :: (digP (x : Int) ++ t1 ++ 41 :: t2))) (p := 0 + 1) (D := digP (x : Int)) (l := t1 ++ 41 :: t2) (by obtain ⟨_, _, z⟩ := byte_in hc; exact z)
        obtain ⟨_, _, z⟩ := byte_in (drop_all h1)
        rw [List.append_nil]; exact z
      have q := more_ok w0 B r _ P S O (by rw [hsz]; omega) t2.length t2 [] (Nat.le_refl _) (.inl rfl) 0 (0 + m) S.length _ ([] ++ segS S 0 (0 + m)) aP aS cP cS W g6 (Nat.le_refl _) hc2 (by rw [hsz]; omega) h
      rw [show 0 + 1 + (digP (x : Int)).length + t1.length + 1 + t2.length = (strB (40 :: (digP (x : Int) ++ t1 ++ 41 :: t2))).size by (first | (rw [hsz]; done) | (rw [hsz]; omega)), show [] ++ segS S 0 (0 + m) ++ segS S (0 + m) S.length = S by
        rw [List.nil_append, segS_app (Nat.zero_le _) hm1 (Nat.le_refl _)]; unfold segS; rw [List.take_length, List.drop_zero], ← O.len] at q
      exact q
end Go.Proofs.YtpbminoefmpmpaaDoor
