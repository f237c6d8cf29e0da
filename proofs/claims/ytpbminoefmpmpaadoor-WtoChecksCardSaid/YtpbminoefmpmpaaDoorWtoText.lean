/- The text of an order, as plain functions. -/
import Derived.Test.YtpbminoefmpmpaaDoorWtoSpec
import Derived.Test.YtpbminoefmpmpaaDoorValMath
import Derived.Lib.Join
namespace Go.Proofs.YtpbminoefmpmpaaDoor
set_option linter.unusedVariables false
set_option linter.unusedSimpArgs false

/-- A point's digits. -/
def digP (p : Int) : List UInt8 := Lib.decDigits p.toNat
theorem digP_ne (p : Int) : digP p ≠ [] := (show_val p.toNat).2.1.1
theorem digP_dig (p : Int) : ∀ c ∈ digP p, isDig c := (show_val p.toNat).2.1.2.1
theorem digP_head (p : Int) : (digP p).head? = some 48 → digP p = [48] := (show_val p.toNat).2.1.2.2
theorem digP_len {p : Int} (h : 0 ≤ p ∧ p ≤ 127) : (digP p).length ≤ 13 := canon_len (l := digP p) (show_val p.toNat).2.1 (by show val10 (Lib.decDigits p.toNat) < _; rw [(show_val p.toNat).1]; omega)
/-- The texts, a space ahead of each, of the entries from a to b, which lie so many components deep. -/
inductive Seg (P S : List Int) : Nat → Nat → Nat → List UInt8 → Prop
  | nil (d a : Nat) : Seg P S d a a []
  | leaf (d a b : Nat) (t : List UInt8) : a < P.length → S.getD a 0 = 0 → Seg P S d (a + 1) b t → Seg P S d a b (32 :: (digP (P.getD a 0) ++ t))
  | comp (d a b m : Nat) (t1 t2 : List UInt8) : a < P.length → S.getD a 0 = (m : Int) → 0 < m → d < 64 → Seg P S (d + 1) (a + 1) (a + m) t1 → Seg P S d (a + m) b t2 → Seg P S d a b (32 :: 40 :: (digP (P.getD a 0) ++ t1 ++ 41 :: t2))
theorem Seg.le {P S : List Int} {d a b : Nat} {t : List UInt8} (h : Seg P S d a b t) : a ≤ b := by
  induction h with
  | nil => omega
  | leaf => omega
  | comp => omega
theorem Seg.head {P S : List Int} {d a b : Nat} {t : List UInt8} (h : Seg P S d a b t) : (t = [] ∧ a = b) ∨ (∃ u, t = 32 :: u ∧ u ≠ [] ∧ a < b) := by
  cases h with
  | nil => exact .inl ⟨rfl, rfl⟩
  | leaf _ _ _ t h1 h2 h3 =>
    have := h3.le
    exact .inr ⟨_, rfl, by simp [digP_ne], by omega⟩
  | comp _ _ _ m t1 t2 h1 h2 h3 h4 h5 h6 =>
    have := h6.le
    exact .inr ⟨_, rfl, by simp, by omega⟩
theorem Seg.same {P S : List Int} {d a : Nat} {t : List UInt8} (h : Seg P S d a a t) : t = [] := by
  rcases h.head with h | ⟨_, _, _, h⟩
  · exact h.1
  · omega
theorem Seg.top {P S : List Int} {d a b : Nat} {t : List UInt8} (h : Seg P S d a b t) : a = b ∨ b ≤ P.length := by
  induction h with
  | nil => exact .inl rfl
  | leaf d a b t h1 h2 h3 ih => right; omega
  | comp d a b m t1 t2 h1 h2 h3 h4 h5 h6 i1 i2 => right; omega

/-- How many reach as far as b. -/
def reach (S : List Int) (a b : Nat) : Nat := (List.range a).countP fun (k : Nat) => decide ((b : Int) ≤ (k : Int) + S.getD k 0)
theorem reach_far {S : List Int} {a b c : Nat} (h : c ≤ b) : reach S a b ≤ reach S a c := by
  unfold reach
  exact List.countP_mono_left (fun x _ hx => by simp only [decide_eq_true_eq] at hx ⊢; omega)
theorem reach_more {S : List Int} {a c b : Nat} (h : a ≤ c) : reach S a b ≤ reach S c b := by
  unfold reach
  obtain ⟨e, rfl⟩ : ∃ e, c = a + e := ⟨c - a, by omega⟩
  rw [List.range_add, List.countP_append]
  omega
theorem reach_in {S : List Int} {a m : Nat} (h : S.getD a 0 = (m : Int)) : reach S (a + 1) (a + m) = reach S a (a + m) + 1 := by
  unfold reach
  rw [List.range_succ, List.countP_append]
  congr 1
  rw [List.countP_cons_of_pos (by simp only [decide_eq_true_eq]; omega)]
  rfl
theorem hds_reach {S : List Int} {a b m : Nat} (hb : a < b) (h : S.getD a 0 = (m : Int)) (hm : 0 < m) : reach S a b + 1 ≤ (hds S a).length := by
  rw [hds_eq, if_pos (by omega), List.length_append]
  have : reach S a b ≤ (stk S a).length := by
    unfold reach stk
    rw [← List.countP_eq_length_filter]
    exact List.countP_mono_left (fun x _ hx => by simp only [decide_eq_true_eq] at hx ⊢; omega)
  simp; omega
theorem seg_make {P S : List Int} (O : OrdW P S) : ∀ (f d a b : Nat), b - a ≤ f → a ≤ b → b ≤ S.length → (∀ k : Nat, a ≤ k → k < b → (k : Int) + S.getD k 0 ≤ b) → d ≤ reach S a b → ∃ t, Seg P S d a b t
  | f, d, a, b, hf, hab, hb, hin, hd => by
    by_cases e : a = b
    · subst e; exact ⟨[], .nil d a⟩
    cases f with
    | zero => omega
    | succ f =>
      have haP : a < P.length := by rw [O.len]; omega
      have ok := O.nest a (by omega)
      obtain ⟨m, hm⟩ := Int.eq_ofNat_of_zero_le ok.1
      by_cases h0 : m = 0
      · subst h0
        obtain ⟨t, ht⟩ := seg_make O f d (a + 1) b (by omega) (by omega) hb (fun k h1 h2 => hin k (by omega) h2) (Nat.le_trans hd (reach_more (by omega)))
        exact ⟨_, .leaf d a b t haP (by simpa using hm) ht⟩
      · have hmb : a + m ≤ b := by have := hin a (Nat.le_refl _) (by omega); omega
        have hdl : d < 64 := by
          have h1 := hds_reach (S := S) (a := a) (b := b) (by omega) hm (by omega)
          have h2 := most_at (S := S) (m := S.length) (i := a) (by omega)
          have := O.deep
          omega
        obtain ⟨t1, ht1⟩ := seg_make O f (d + 1) (a + 1) (a + m) (by omega) (by omega) (by omega) (fun k h1 h2 => by
          have := (O.nest k (by omega)).2.2 a (by omega) (by omega)
          omega) (by rw [reach_in hm]; have := reach_far (S := S) (a := a) hmb; omega)
        obtain ⟨t2, ht2⟩ := seg_make O f d (a + m) b (by omega) hmb hb (fun k h1 h2 => hin k (by omega) h2) (Nat.le_trans hd (reach_more (by omega)))
        exact ⟨_, .comp d a b m t1 t2 haP hm (by omega) hdl ht1 ht2⟩
theorem seg_all {P S : List Int} (O : OrdW P S) : ∃ t, Seg P S 0 0 S.length t :=
  seg_make O S.length 0 0 S.length (by omega) (by omega) (Nat.le_refl _) (fun k _ hk => by have := (O.nest k hk).2.1; omega) (Nat.zero_le _)

/-- The words of the first entries, and where the components end that are open behind them, the innermost first. -/
def closeN (R : List Nat) (x : Nat) : Nat := (R.takeWhile fun y => y == x).length
def restE (R : List Nat) (x : Nat) : List Nat := R.dropWhile fun y => y == x
def openE (S : List Int) (m : Nat) (R : List Nat) : List Nat := if 0 < S.getD m 0 then (m + (S.getD m 0).toNat) :: R else R
def firstW (P S : List Int) (m : Nat) : List UInt8 := if 0 < S.getD m 0 then 40 :: digP (P.getD m 0) else digP (P.getD m 0)
def endsE (S : List Int) : Nat → List Nat
  | 0 => []
  | m + 1 => restE (openE S m (endsE S m)) (m + 1)
def wordW (P S : List Int) (m : Nat) : List UInt8 := firstW P S m ++ List.replicate (closeN (openE S m (endsE S m)) (m + 1)) 41
def wordsL (P S : List Int) (m : Nat) : List (List UInt8) := (List.range m).map (wordW P S)
theorem words_succ (P S : List Int) (m : Nat) : wordsL P S (m + 1) = wordsL P S m ++ [wordW P S m] := by simp [wordsL, List.range_succ]
theorem close_far {R : List Nat} {x : Nat} (h : ∀ y ∈ R, x < y) : closeN R x = 0 ∧ restE R x = R := by
  cases R with
  | nil => exact ⟨rfl, rfl⟩
  | cons y R =>
    have := h y (by simp)
    have e : (y == x) = false := by simp; omega
    simp [closeN, restE, e]
theorem close_same (R : List Nat) (x : Nat) : closeN (x :: R) x = closeN R x + 1 ∧ restE (x :: R) x = restE R x := by simp [closeN, restE]
theorem rest_mem {R : List Nat} {x y : Nat} (h : y ∈ restE R x) : y ∈ R := (List.dropWhile_sublist _).subset h
/-- The text of the entries from a to b, as the words tell it. -/
def flatT (P S : List Int) (a b : Nat) : List UInt8 := ((List.range (b - a)).map fun j => 32 :: wordW P S (a + j)).flatten
theorem flat_nil (P S : List Int) (a : Nat) : flatT P S a a = [] := by simp [flatT]
theorem flat_cons (P S : List Int) {a b : Nat} (h : a < b) : flatT P S a b = 32 :: wordW P S a ++ flatT P S (a + 1) b := by
  unfold flatT
  obtain ⟨e, rfl⟩ : ∃ e, b = a + 1 + e := ⟨b - a - 1, by omega⟩
  rw [show a + 1 + e - a = e + 1 by omega, show a + 1 + e - (a + 1) = e by omega, List.range_succ_eq_map, List.map_cons, List.flatten_cons, List.map_map]
  simp only [Nat.add_zero]
  congr 2
  apply List.map_congr_left
  intro j _
  simp only [Function.comp]
  rw [show a + (j + 1) = a + 1 + j by omega]
theorem flat_app (P S : List Int) {a c b : Nat} (h1 : a ≤ c) (h2 : c ≤ b) : flatT P S a b = flatT P S a c ++ flatT P S c b := by
  unfold flatT
  obtain ⟨e, rfl⟩ : ∃ e, c = a + e := ⟨c - a, by omega⟩
  obtain ⟨g, rfl⟩ : ∃ g, b = a + e + g := ⟨b - (a + e), by omega⟩
  rw [show a + e + g - a = e + g by omega, show a + e - a = e by omega, show a + e + g - (a + e) = g by omega, List.range_add, List.map_append, List.flatten_append, List.map_map]
  congr 2
  apply List.map_congr_left
  intro j _
  simp only [Function.comp]
  rw [Nat.add_assoc]
/-- The words say the text, and what is closed behind it. -/
theorem seg_words {P S : List Int} {d a b : Nat} {t : List UInt8} (h : Seg P S d a b t) : ∀ R, endsE S a = R → (∀ y ∈ R, b ≤ y) → a < b → flatT P S a b = t ++ List.replicate (closeN R b) 41 ∧ endsE S b = restE R b := by
  induction h with
  | nil d a => intro R _ _ h; omega
  | leaf d a b t h1 h2 h3 ih =>
    intro R hR hy hab
    have hf : firstW P S a = digP (P.getD a 0) := by unfold firstW; rw [if_neg (by omega)]
    have ho : openE S a (endsE S a) = R := by unfold openE; rw [if_neg (by omega), hR]
    have hw : wordW P S a = digP (P.getD a 0) ++ List.replicate (closeN R (a + 1)) 41 := by unfold wordW; rw [hf, ho]
    have he : endsE S (a + 1) = restE R (a + 1) := by show restE (openE S a (endsE S a)) (a + 1) = _; rw [ho]
    rw [flat_cons P S hab, hw]
    by_cases e : a + 1 = b
    · subst e
      rw [h3.same, flat_nil]
      exact ⟨by simp, he⟩
    · have hlt : a + 1 < b := by have := h3.le; omega
      obtain ⟨c1, c2⟩ := close_far (R := R) (x := a + 1) (fun y hyy => by have := hy y hyy; omega)
      rw [c2] at he
      obtain ⟨i1, i2⟩ := ih R he hy hlt
      rw [c1, i1]
      exact ⟨by simp, i2⟩
  | comp d a b m t1 t2 h1 h2 h3 h4 h5 h6 ih1 ih2 =>
    intro R hR hy hab
    have hf : firstW P S a = 40 :: digP (P.getD a 0) := by unfold firstW; rw [if_pos (by omega)]
    have ho : openE S a (endsE S a) = (a + m) :: R := by unfold openE; rw [if_pos (by omega), hR, h2]; simp
    have hw : wordW P S a = 40 :: digP (P.getD a 0) ++ List.replicate (closeN ((a + m) :: R) (a + 1)) 41 := by unfold wordW; rw [hf, ho]
    have he : endsE S (a + 1) = restE ((a + m) :: R) (a + 1) := by show restE (openE S a (endsE S a)) (a + 1) = _; rw [ho]
    have hmb := h6.le
    -- the component's own entries
    have inner : flatT P S a (a + m) = 32 :: 40 :: (digP (P.getD a 0) ++ t1) ++ List.replicate (closeN R (a + m) + 1) 41 ∧ endsE S (a + m) = restE R (a + m) := by
      by_cases e : m = 1
      · subst e
        rw [flat_cons P S (by omega), hw, flat_nil, h5.same, (close_same R (a + 1)).1, he, (close_same R (a + 1)).2]
        exact ⟨by simp, rfl⟩
      · have hne : (a + m == a + 1) = false := by simp; omega
        have c1 : closeN ((a + m) :: R) (a + 1) = 0 := by simp [closeN, hne]
        have c2 : restE ((a + m) :: R) (a + 1) = (a + m) :: R := by simp [restE, hne]
        rw [c2] at he
        obtain ⟨i1, i2⟩ := ih1 _ he (fun y hyy => by
          rcases List.mem_cons.1 hyy with e | e
          · omega
          · have := hy y e; omega) (by omega)
        rw [(close_same R (a + m)).1] at i1
        rw [(close_same R (a + m)).2] at i2
        rw [flat_cons P S (show a < a + m by omega), hw, c1, i1]
        exact ⟨by simp, i2⟩
    by_cases e : a + m = b
    · subst e
      rw [h6.same, inner.1]
      refine ⟨?_, inner.2⟩
      rw [List.replicate_succ]
      simp
    · have hlt : a + m < b := by omega
      obtain ⟨c1, c2⟩ := close_far (R := R) (x := a + m) (fun y hyy => by have := hy y hyy; omega)
      rw [c2] at inner
      obtain ⟨i1, i2⟩ := ih2 R inner.2 hy hlt
      rw [flat_app P S (show a ≤ a + m by omega) hmb, inner.1, i1, c1]
      exact ⟨by simp, i2⟩
theorem join_flat (P S : List Int) (n : Nat) : Lib.join (wordsL P S n) [32] = (flatT P S 0 n).drop 1 := by
  cases n with
  | zero => rfl
  | succ n =>
    rw [flat_cons P S (by omega)]
    unfold wordsL
    rw [List.range_succ_eq_map, List.map_cons, Lib.join_cons]
    simp only [List.cons_append, List.drop_succ_cons, List.drop_zero]
    congr 1
    unfold Lib.joinTail flatT
    rw [show n + 1 - (0 + 1) = n by omega, List.map_map, List.map_map]
    congr 1
    apply List.map_congr_left
    intro j _
    simp only [Function.comp, List.cons_append, List.nil_append]
    rw [show 0 + 1 + j = j + 1 by omega]
/-- An order's text. -/
theorem text_words {P S : List Int} {t : List UInt8} (h : Seg P S 0 0 S.length t) : Lib.join (wordsL P S S.length) [32] = t.drop 1 := by
  rw [join_flat]
  by_cases e : S.length = 0
  · rw [e] at h ⊢
    rw [h.same, flat_nil]
  · have q := (seg_words h [] rfl (by simp) (by omega)).1
    rw [q]
    simp [closeN]
end Go.Proofs.YtpbminoefmpmpaaDoor
