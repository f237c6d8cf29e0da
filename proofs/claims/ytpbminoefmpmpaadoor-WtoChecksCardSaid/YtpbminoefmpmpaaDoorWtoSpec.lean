/- Orders of points, as plain functions: which entries' components are open, how they nest, what is wrong with an order. -/
import Derived.Lib.Hide
namespace Go.Proofs.YtpbminoefmpmpaaDoor
set_option linter.unusedVariables false
set_option linter.unusedSimpArgs false

/-- Places, as the program's numbers. -/
def intsN (h : List Nat) : List Int := h.map fun (k : Nat) => (k : Int)
theorem intsN_len (h : List Nat) : (intsN h).length = h.length := by simp [intsN]
theorem intsN_snoc (h : List Nat) (k : Nat) : intsN (h ++ [k]) = intsN h ++ [(k : Int)] := by simp [intsN]
theorem intsN_at (h : List Nat) (i : Nat) (hi : i < h.length) : (intsN h).getD i 0 = ((h.getD i 0 : Nat) : Int) := by simp [intsN, List.getD, hi]
/-- The places of the heads whose components go on behind the place i: of those ahead of i; i's own too. -/
def stk (S : List Int) (i : Nat) : List Nat := (List.range i).filter fun k => decide ((i : Int) - k < S.getD k 0)
def hds (S : List Int) (i : Nat) : List Nat := (List.range (i + 1)).filter fun k => decide ((i : Int) - k < S.getD k 0)
/-- Those that reach as far as i. -/
def lvl (S : List Int) (i : Nat) : List Nat := (List.range i).filter fun k => decide ((i : Int) - 1 - k < S.getD k 0)
theorem lvl_zero (S : List Int) : lvl S 0 = [] := rfl
theorem lvl_succ (S : List Int) (i : Nat) : lvl S (i + 1) = hds S i := by
  unfold lvl hds
  congr 1
  funext k
  rw [show ((i + 1 : Nat) : Int) - 1 = (i : Int) by omega]
theorem hds_eq (S : List Int) (i : Nat) : hds S i = stk S i ++ (if 0 < S.getD i 0 then [i] else []) := by
  unfold hds stk
  rw [List.range_succ, List.filter_append]
  congr 1
  by_cases h : 0 < S.getD i 0
  · rw [if_pos h, List.filter_cons_of_pos (by simpa using h)]; rfl
  · rw [if_neg h, List.filter_cons_of_neg (by simpa using h)]; rfl
theorem mem_stk {S : List Int} {i k : Nat} : k ∈ stk S i ↔ k < i ∧ (i : Int) - k < S.getD k 0 := by simp [stk]
theorem mem_hds {S : List Int} {i k : Nat} : k ∈ hds S i ↔ k < i + 1 ∧ (i : Int) - k < S.getD k 0 := by simp [hds]
theorem mem_lvl {S : List Int} {i k : Nat} : k ∈ lvl S i ↔ k < i ∧ (i : Int) - 1 - k < S.getD k 0 := by simp [lvl]

/-- An entry's component lies where it must. -/
def okA (S : List Int) (i : Nat) : Prop := 0 ≤ S.getD i 0 ∧ S.getD i 0 ≤ (S.length : Int) - i ∧ ∀ k, k < i → (i : Int) - k < S.getD k 0 → S.getD i 0 ≤ S.getD k 0 - ((i : Int) - k)
def preA (S : List Int) (i : Nat) : Prop := ∀ j, j < i → okA S j
instance (S : List Int) (i : Nat) : Decidable (okA S i) := by unfold okA; infer_instance
instance (S : List Int) (i : Nat) : Decidable (preA S i) := by unfold preA; infer_instance
theorem pre_succ {S : List Int} {i : Nat} : preA S (i + 1) ↔ preA S i ∧ okA S i := by
  unfold preA
  constructor
  · exact fun h => ⟨fun j hj => h j (by omega), h i (by omega)⟩
  · rintro ⟨h, h2⟩ j hj
    by_cases e : j = i
    · subst e; exact h2
    · exact h j (by omega)
theorem pre_down {S : List Int} {i j : Nat} (h : preA S i) (hj : j ≤ i) : preA S j := fun k hk => h k (by omega)
def nestB (S : List Int) : Bool := decide (preA S S.length)

/-- Where the component of the last one ends; without any, where all ends. -/
def endL (S : List Int) (h : List Nat) : Int := match h.getLast? with | none => (S.length : Int) | some k => (k : Int) + S.getD k 0
theorem endL_nil (S : List Int) : endL S [] = S.length := rfl
theorem endL_snoc (S : List Int) (h : List Nat) (k : Nat) : endL S (h ++ [k]) = (k : Int) + S.getD k 0 := by simp [endL]

def Desc (S : List Int) (h : List Nat) : Prop := h.Pairwise fun (a b : Nat) => (b : Int) + S.getD b 0 ≤ (a : Int) + S.getD a 0
/-- What the heads are while those are taken away whose components end at i. -/
structure Pops (S : List Int) (i : Nat) (h : List Nat) : Prop where
  rest : (h.filter fun k => decide ((i : Int) - k < S.getD k 0)) = stk S i
  desc : Desc S h
  each : ∀ k ∈ h, k < i ∧ (i : Int) ≤ (k : Int) + S.getD k 0 ∧ okA S k
theorem pops_start {S : List Int} {i : Nat} (hp : preA S i) : Pops S i (lvl S i) := by
  refine ⟨?_, ?_, ?_⟩
  · unfold lvl stk
    rw [List.filter_filter]
    apply List.filter_congr
    intro k _
    rw [← Bool.decide_and]
    apply decide_eq_decide.2
    omega
  · unfold Desc lvl
    refine List.Pairwise.imp_of_mem (R := fun a b => a < b) ?_ (List.Pairwise.filter _ List.pairwise_lt_range)
    intro a b ha hb hab
    have ha := (mem_lvl (S := S) (i := i)).1 ha
    have hb := (mem_lvl (S := S) (i := i)).1 hb
    have h3 := (hp b hb.1).2.2 a hab (by omega)
    omega
  · intro k hk
    rw [mem_lvl] at hk
    exact ⟨hk.1, by omega, hp k hk.1⟩
theorem pops_step {S : List Int} {i : Nat} {h : List Nat} {k : Nat} (hp : Pops S i (h ++ [k])) (he : (k : Int) + S.getD k 0 = i) : Pops S i h := by
  refine ⟨?_, (List.pairwise_append.1 hp.desc).1, fun x hx => hp.each x (by simp [hx])⟩
  rw [← hp.rest, List.filter_append, List.filter_cons_of_neg (by simp only [decide_eq_true_eq]; omega)]
  simp
theorem pops_end {S : List Int} {i : Nat} {h : List Nat} (hp : Pops S i h) (he : h = [] ∨ endL S h ≠ i) : h = stk S i := by
  rcases he with rfl | he
  · rw [← hp.rest]; rfl
  · rw [← hp.rest]
    refine (List.filter_eq_self.2 ?_).symm
    intro x hx
    rcases List.eq_nil_or_concat h with rfl | ⟨h', k, rfl⟩
    · cases hx
    · rw [List.concat_eq_append] at he hp hx
      rw [endL_snoc] at he
      have hk := hp.each k (by simp)
      rcases List.mem_append.1 hx with hx | hx
      · have hd := (List.pairwise_append.1 hp.desc).2.2 x hx k (by simp)
        exact decide_eq_true (by omega)
      · obtain rfl := List.mem_singleton.1 hx
        exact decide_eq_true (by omega)
/-- Where the heads are those of the entry i, its component may end as far as that of the last one. -/
theorem ok_iff {S : List Int} {i : Nat} (hp : preA S i) (hi : i < S.length) : okA S i ↔ 0 ≤ S.getD i 0 ∧ S.getD i 0 ≤ endL S (stk S i) - i := by
  have hP := pops_start hp
  have hd : Desc S (stk S i) := by rw [← hP.rest]; exact List.Pairwise.filter _ hP.desc
  rcases List.eq_nil_or_concat (stk S i) with h | ⟨h', k, h⟩
  · rw [h, endL_nil]
    constructor
    · exact fun ⟨a, b, _⟩ => ⟨a, b⟩
    · refine fun ⟨a, b⟩ => ⟨a, b, fun k hk hlt => ?_⟩
      have : k ∈ stk S i := mem_stk.2 ⟨hk, hlt⟩
      rw [h] at this; cases this
  · rw [List.concat_eq_append] at h
    rw [h, endL_snoc]
    have hk : k ∈ stk S i := by rw [h]; simp
    obtain ⟨hk1, hk2⟩ := mem_stk.1 hk
    have ok := hp k hk1
    constructor
    · refine fun ⟨a, b, c⟩ => ⟨a, ?_⟩
      have := c k hk1 hk2
      omega
    · refine fun ⟨a, b⟩ => ⟨a, by have := ok.2.1; omega, fun j hj hlt => ?_⟩
      have hm : j ∈ stk S i := mem_stk.2 ⟨hj, hlt⟩
      rw [h] at hm hd
      simp at hm
      rcases hm with hm | rfl
      · have := (List.pairwise_append.1 hd).2.2 j hm k (by simp)
        omega
      · omega
theorem endL_le {S : List Int} {i : Nat} (hp : preA S i) (hi : i < S.length) : (i : Int) < endL S (stk S i) ∧ endL S (stk S i) ≤ S.length := by
  rcases List.eq_nil_or_concat (stk S i) with h | ⟨h', k, h⟩
  · rw [h, endL_nil]; omega
  · rw [List.concat_eq_append] at h
    rw [h, endL_snoc]
    have hk : k ∈ stk S i := by rw [h]; simp
    obtain ⟨hk1, hk2⟩ := mem_stk.1 hk
    have ok := (hp k hk1).2.1
    omega

/-- The most heads that one of the first m entries has. -/
def mostL (S : List Int) : Nat → Nat
  | 0 => 0
  | m + 1 => max (mostL S m) (hds S m).length
theorem hds_le (S : List Int) (i : Nat) : (hds S i).length ≤ i + 1 := by
  unfold hds
  exact Nat.le_trans (List.length_filter_le _ _) (by simp)
theorem most_le (S : List Int) : ∀ m, mostL S m ≤ m
  | 0 => Nat.le_refl _
  | m + 1 => by have := most_le S m; have := hds_le S m; unfold mostL; omega
theorem most_at {S : List Int} : ∀ {m i : Nat}, i < m → (hds S i).length ≤ mostL S m
  | m + 1, i, h => by
    unfold mostL
    by_cases e : i = m
    · subst e; omega
    · have := most_at (S := S) (show i < m by omega); omega
theorem most_gt {S : List Int} {b : Nat} : ∀ {m : Nat}, b < mostL S m ↔ ∃ i, i < m ∧ b < (hds S i).length
  | 0 => by simp [mostL]
  | m + 1 => by
    unfold mostL
    constructor
    · intro h
      by_cases h2 : b < mostL S m
      · obtain ⟨i, hi, hb⟩ := most_gt.1 h2
        exact ⟨i, by omega, hb⟩
      · exact ⟨m, by omega, by omega⟩
    · rintro ⟨i, hi, hb⟩
      by_cases e : i = m
      · subst e; omega
      · have := (most_gt (S := S) (b := b) (m := m)).2 ⟨i, by omega, hb⟩
        omega
/-- Points, each there once. -/
def onceP (P : List Int) (m : Nat) : Prop := ∀ i, i < m → 0 ≤ P.getD i 0 ∧ P.getD i 0 ≤ 127 ∧ ∀ k, k < i → P.getD k 0 ≠ P.getD i 0
instance (P : List Int) (m : Nat) : Decidable (onceP P m) := by unfold onceP; infer_instance
theorem once_succ {P : List Int} {i : Nat} : onceP P (i + 1) ↔ onceP P i ∧ (0 ≤ P.getD i 0 ∧ P.getD i 0 ≤ 127 ∧ ∀ k, k < i → P.getD k 0 ≠ P.getD i 0) := by
  unfold onceP
  constructor
  · exact fun h => ⟨fun j hj => h j (by omega), h i (by omega)⟩
  · rintro ⟨h, h2⟩ j hj
    by_cases e : j = i
    · subst e; exact h2
    · exact h j (by omega)
/-- What is wrong with an order. -/
def chkW (P S : List Int) : Int :=
  if 128 < P.length ∨ 128 < S.length then 3
  else if ¬ (P.length = S.length ∧ nestB S = true ∧ onceP P P.length) then 100
  else if 64 < mostL S S.length then 3 else 0
structure OrdW (P S : List Int) : Prop where
  len : P.length = S.length
  few : S.length ≤ 128
  nest : preA S S.length
  once : onceP P P.length
  deep : mostL S S.length ≤ 64
theorem chk_ok {P S : List Int} : chkW P S = 0 ↔ OrdW P S := by
  unfold chkW
  constructor
  · intro h
    split at h
    · cases h
    · split at h
      · cases h
      · split at h
        · cases h
        · next h1 h2 h3 =>
          have h2 := Classical.not_not.1 h2
          exact ⟨h2.1, by omega, by simpa [nestB] using h2.2.1, h2.2.2, by omega⟩
  · intro h
    rw [if_neg (by have := h.len; have := h.few; omega), if_neg (by simp only [Classical.not_not]; exact ⟨h.len, by simpa [nestB] using h.nest, h.once⟩), if_neg (by have := h.deep; omega)]
/-- Where a point is. -/
def posW (P : List Int) (p : Int) : Nat := P.findIdx fun x => x == p
def placeN (P S : List Int) (p : Int) : Nat := if chkW P S = 0 ∧ p ∈ P then posW P p else 0
def placeB (P S : List Int) (p : Int) : Bool := decide (chkW P S = 0 ∧ p ∈ P)
/-- The points that head a point's components. -/
def headsW (P S : List Int) (p : Int) : List Int := if chkW P S = 0 ∧ p ∈ P then (hds S (posW P p)).map fun k => P.getD k 0 else []
def depthW (P S : List Int) : Nat := if chkW P S = 0 then mostL S S.length else 0
end Go.Proofs.YtpbminoefmpmpaaDoor
