/- Zones: shortest ways, both ways of reckoning them. Plain lists. -/
import Derived.Test.YtacbkddkjlnklaaKit
namespace Go.Proofs.Ytacbkddkjlnklaa
set_option linter.unusedVariables false
set_option linter.unusedSimpArgs false

/-- The number at i, j of a matrix of n variables. -/
def mat (n : Nat) (l : List Int) (i j : Nat) : Int := l.getD (i * (n + 1) + j) 0
def matL (n : Nat) (F : Nat → Nat → Int) : List Int := (List.range ((n + 1) * (n + 1))).map fun t => F (t / (n + 1)) (t % (n + 1))
theorem matL_len (n : Nat) (F : Nat → Nat → Int) : (matL n F).length = (n + 1) * (n + 1) := by simp [matL]
theorem place_lt {n i j : Nat} (hi : i ≤ n) (hj : j ≤ n) : i * (n + 1) + j < (n + 1) * (n + 1) := by
  have h1 : i * (n + 1) ≤ n * (n + 1) := Nat.mul_le_mul_right _ hi
  have h2 : (n + 1) * (n + 1) = n * (n + 1) + (n + 1) := by rw [Nat.add_mul, Nat.one_mul]
  omega
theorem place_div {n i j : Nat} (hj : j ≤ n) : (i * (n + 1) + j) / (n + 1) = i := by
  rw [Nat.mul_comm, Nat.mul_add_div (by omega), Nat.div_eq_of_lt (by omega)]; omega
theorem place_mod {n i j : Nat} (hj : j ≤ n) : (i * (n + 1) + j) % (n + 1) = j := by
  rw [Nat.mul_comm, Nat.mul_add_mod, Nat.mod_eq_of_lt (by omega)]
theorem mat_matL {n : Nat} (F : Nat → Nat → Int) {i j : Nat} (hi : i ≤ n) (hj : j ≤ n) : mat n (matL n F) i j = F i j := by
  unfold mat matL
  have h := place_lt hi hj
  simp [List.getD, h, place_div hj, place_mod hj]
theorem place_of {n t : Nat} (h : t < (n + 1) * (n + 1)) : t / (n + 1) ≤ n ∧ t % (n + 1) ≤ n ∧ t / (n + 1) * (n + 1) + t % (n + 1) = t := by
  have h1 := Nat.div_lt_of_lt_mul h
  have h2 := Nat.mod_lt t (show 0 < n + 1 by omega)
  have h3 := Nat.div_add_mod t (n + 1)
  rw [Nat.mul_comm] at h3
  omega
/-- Two matrices with the same numbers are one. -/
theorem mat_ext {n : Nat} {l r : List Int} (hl : l.length = (n + 1) * (n + 1)) (hr : r.length = (n + 1) * (n + 1)) (h : ∀ i j, i ≤ n → j ≤ n → mat n l i j = mat n r i j) : l = r := by
  apply List.ext_getElem (by omega)
  intro t h1 h2
  obtain ⟨q1, q2, q3⟩ := place_of (n := n) (t := t) (by omega)
  have := h _ _ q1 q2
  unfold mat at this
  rw [q3] at this
  simpa [List.getD, h1, h2] using this

def widestF (i j : Nat) : Int := if i = j then 0 else if i = 0 ∨ j = 0 then 1099511627776 else 2199023255552
def clipF (n : Nat) (M : List Int) (i j : Nat) : Int := max (-2199023255553) (min (mat n M i j) (widestF i j))
def clipL (n : Nat) (M : List Int) : List Int := matL n (clipF n M)

structure Closed (n : Nat) (D : Nat → Nat → Int) : Prop where
  zero : ∀ i, i ≤ n → D i i = 0
  tri : ∀ i j k, i ≤ n → j ≤ n → k ≤ n → D i j ≤ D i k + D k j
/-- No number of D is above the one of E. -/
def Leq (n : Nat) (D E : Nat → Nat → Int) : Prop := ∀ i j, i ≤ n → j ≤ n → D i j ≤ E i j

/-- One phase, place by place. -/
def thr (n k : Nat) (d : List Int) : Nat → List Int
  | 0 => d
  | t + 1 => (thr n k d t).set t (min ((thr n k d t).getD t 0) (mat n (thr n k d t) (t / (n + 1)) k + mat n (thr n k d t) k (t % (n + 1))))
def thrAll (n k : Nat) (d : List Int) : List Int := thr n k d ((n + 1) * (n + 1))
def belowL (n : Nat) (d : List Int) : Bool := (List.range (n + 1)).any fun i => decide (d.getD (i * (n + 2)) 0 < 0)
def fwRun (n : Nat) : Nat → Nat → List Int → List Int
  | 0, _, d => d
  | f + 1, k, d => if belowL n (thrAll n k d) = true then [] else fwRun n f (k + 1) (thrAll n k d)
def closedL (n : Nat) (M : List Int) : List Int := fwRun n (n + 1) 0 (clipL n M)

theorem thr_len (n k : Nat) (d : List Int) (t : Nat) : (thr n k d t).length = d.length := by
  induction t with
  | zero => rfl
  | succ t ih => simp [thr, ih]
theorem diag_at (n : Nat) (d : List Int) (i : Nat) : d.getD (i * (n + 2)) 0 = mat n d i i := by
  unfold mat
  rw [show i * (n + 2) = i * (n + 1) + i by rw [show n + 2 = (n + 1) + 1 by omega, Nat.mul_add]; omega]
theorem belowL_iff (n : Nat) (d : List Int) : belowL n d = true ↔ ∃ i, i ≤ n ∧ mat n d i i < 0 := by
  unfold belowL
  rw [List.any_eq_true]
  constructor
  · rintro ⟨i, hi, h⟩
    rw [List.mem_range] at hi
    rw [decide_eq_true_eq, diag_at] at h
    exact ⟨i, by omega, h⟩
  · rintro ⟨i, hi, h⟩
    exact ⟨i, List.mem_range.2 (by omega), by rw [decide_eq_true_eq, diag_at]; exact h⟩
theorem belowL_not {n : Nat} {d : List Int} (h : belowL n d = false) {i : Nat} (hi : i ≤ n) : 0 ≤ mat n d i i := by
  by_cases q : 0 ≤ mat n d i i
  · exact q
  · have := (belowL_iff n d).2 ⟨i, hi, by omega⟩
    rw [h] at this; simp at this
theorem getD_set (l : List Int) (t p : Nat) (x : Int) (ht : t < l.length) : (l.set t x).getD p 0 = if p = t then x else l.getD p 0 := by
  by_cases h : p = t
  · subst h; simp [List.getD, ht]
  · rw [if_neg h]; simp [List.getD, List.getElem?_set, show ¬ t = p from fun e => h e.symm]
theorem mat_set {n : Nat} {l : List Int} (hl : l.length = (n + 1) * (n + 1)) {t : Nat} (ht : t < (n + 1) * (n + 1)) (x : Int) {i j : Nat} (hi : i ≤ n) (hj : j ≤ n) : mat n (l.set t x) i j = if i = t / (n + 1) ∧ j = t % (n + 1) then x else mat n l i j := by
  unfold mat
  rw [getD_set _ _ _ _ (by omega)]
  by_cases h : i * (n + 1) + j = t
  · subst h
    rw [if_pos rfl, if_pos ⟨(place_div hj).symm, (place_mod hj).symm⟩]
  · rw [if_neg h, if_neg]
    rintro ⟨rfl, rfl⟩
    exact h (place_of ht).2.2
/-- A phase only lowers. -/
theorem thr_leq {n k : Nat} {d : List Int} (hl : d.length = (n + 1) * (n + 1)) : ∀ t, t ≤ (n + 1) * (n + 1) → Leq n (mat n (thr n k d t)) (mat n d) := by
  intro t
  induction t with
  | zero => intro _ i j _ _; exact Int.le_refl _
  | succ t ih =>
    intro ht i j hi hj
    have h := ih (by omega) i j hi hj
    simp only [thr]
    rw [mat_set (by rw [thr_len]; exact hl) (by omega) _ hi hj]
    split
    · rename_i q
      obtain ⟨rfl, rfl⟩ := q
      refine Int.le_trans (Int.min_le_left _ _) ?_
      have : (thr n k d t).getD t 0 = mat n (thr n k d t) (t / (n + 1)) (t % (n + 1)) := by unfold mat; rw [(place_of (n := n) (t := t) (by omega)).2.2]
      rw [this]; exact h
    · exact h
/-- What is below, and closed, stays below. -/
theorem thr_keeps {n k : Nat} (hk : k ≤ n) {d : List Int} (hl : d.length = (n + 1) * (n + 1)) {D : Nat → Nat → Int} (hD : Closed n D) (h : Leq n D (mat n d)) : ∀ t, t ≤ (n + 1) * (n + 1) → Leq n D (mat n (thr n k d t)) := by
  intro t
  induction t with
  | zero => intro _; exact h
  | succ t ih =>
    intro ht i j hi hj
    have h1 := ih (by omega)
    simp only [thr]
    rw [mat_set (by rw [thr_len]; exact hl) (by omega) _ hi hj]
    split
    · rename_i q
      obtain ⟨rfl, rfl⟩ := q
      have : (thr n k d t).getD t 0 = mat n (thr n k d t) (t / (n + 1)) (t % (n + 1)) := by unfold mat; rw [(place_of (n := n) (t := t) (by omega)).2.2]
      rw [this]
      have a1 := h1 _ _ hi hj
      have a2 := h1 _ _ hi hk
      have a3 := h1 _ _ hk hj
      have a4 := hD.tri _ _ k hi hj hk
      omega
    · exact h1 i j hi hj
/-- A phase with 0 at k, k: as if all were lowered at once. -/
theorem thr_at {n k : Nat} (hk : k ≤ n) {d : List Int} (hl : d.length = (n + 1) * (n + 1)) (h0 : mat n d k k = 0) : ∀ t, t ≤ (n + 1) * (n + 1) → ∀ i j, i ≤ n → j ≤ n →
    mat n (thr n k d t) i j = if i * (n + 1) + j < t then min (mat n d i j) (mat n d i k + mat n d k j) else mat n d i j := by
  intro t
  induction t with
  | zero => intro _ i j _ _; rw [if_neg (by omega)]; rfl
  | succ t ih =>
    intro ht i j hi hj
    have h1 := ih (by omega)
    have hik : ∀ i, i ≤ n → mat n (thr n k d t) i k = mat n d i k := by
      intro i hi
      rw [h1 i k hi hk]
      split
      · rw [h0]; omega
      · rfl
    have hkj : ∀ j, j ≤ n → mat n (thr n k d t) k j = mat n d k j := by
      intro j hj
      rw [h1 k j hk hj]
      split
      · rw [h0]; omega
      · rfl
    obtain ⟨q1, q2, q3⟩ := place_of (n := n) (t := t) (by omega)
    simp only [thr]
    rw [mat_set (by rw [thr_len]; exact hl) (by omega) _ hi hj]
    by_cases q : i = t / (n + 1) ∧ j = t % (n + 1)
    · rw [if_pos q]
      obtain ⟨rfl, rfl⟩ := q
      have : (thr n k d t).getD t 0 = mat n (thr n k d t) (t / (n + 1)) (t % (n + 1)) := by unfold mat; rw [q3]
      rw [this, hik _ hi, hkj _ hj, h1 _ _ hi hj, if_neg (by omega), if_pos (by omega)]
    · rw [if_neg q, h1 i j hi hj]
      have hne : i * (n + 1) + j ≠ t := by
        intro e; subst e
        exact q ⟨(place_div hj).symm, (place_mod hj).symm⟩
      by_cases h : i * (n + 1) + j < t
      · rw [if_pos h, if_pos (by omega)]
      · rw [if_neg h, if_neg (by omega)]
theorem thrAll_at {n k : Nat} (hk : k ≤ n) {d : List Int} (hl : d.length = (n + 1) * (n + 1)) (h0 : mat n d k k = 0) {i j : Nat} (hi : i ≤ n) (hj : j ≤ n) : mat n (thrAll n k d) i j = min (mat n d i j) (mat n d i k + mat n d k j) := by
  unfold thrAll
  rw [thr_at hk hl h0 _ (Nat.le_refl _) i j hi hj, if_pos (place_lt hi hj)]
/-- Behind the phases up to k nothing is above two steps over what is below k. -/
theorem fw_closed {n : Nat} : ∀ (f k : Nat) (d : List Int), k + f = n + 1 → d.length = (n + 1) * (n + 1) → (∀ i, i ≤ n → mat n d i i ≤ 0) → (k = 0 ∨ ∀ i, i ≤ n → mat n d i i = 0) →
    (∀ i j m, i ≤ n → j ≤ n → m < k → mat n d i j ≤ mat n d i m + mat n d m j) → fwRun n f k d ≠ [] → (fwRun n f k d).length = (n + 1) * (n + 1) ∧ Closed n (mat n (fwRun n f k d)) ∧ Leq n (mat n (fwRun n f k d)) (mat n d) := by
  intro f
  induction f with
  | zero =>
    intro k d hk hl hd h0 ht hne
    simp only [fwRun] at hne ⊢
    refine ⟨hl, ⟨?_, fun i j m hi hj hm => ht i j m hi hj (by omega)⟩, fun i j _ _ => Int.le_refl _⟩
    rcases h0 with h | h
    · omega
    · exact h
  | succ f ih =>
    intro k d hk hl hd h0 ht hne
    simp only [fwRun] at hne ⊢
    by_cases hb : belowL n (thrAll n k d) = true
    · rw [if_pos hb] at hne; exact absurd rfl hne
    rw [if_neg hb] at hne ⊢
    rw [Bool.not_eq_true] at hb
    have hkn : k ≤ n := by omega
    have hle : Leq n (mat n (thrAll n k d)) (mat n d) := thr_leq hl _ (Nat.le_refl _)
    have hz : ∀ i, i ≤ n → mat n d i i = 0 := fun i hi => by
      have a := belowL_not hb hi
      have b := hle i i hi hi
      have c := hd i hi
      omega
    have hat := fun i j (hi : i ≤ n) (hj : j ≤ n) => thrAll_at hkn hl (hz k hkn) hi hj
    have hl2 : (thrAll n k d).length = (n + 1) * (n + 1) := by unfold thrAll; rw [thr_len]; exact hl
    have hz2 : ∀ i, i ≤ n → mat n (thrAll n k d) i i = 0 := fun i hi => by
      have a := belowL_not hb hi
      have b := hle i i hi hi
      have c := hd i hi
      omega
    obtain ⟨r1, r2, r3⟩ := ih (k + 1) (thrAll n k d) (by omega) hl2 (fun i hi => by rw [hz2 i hi]; omega) (.inr hz2) (by
      intro i j m hi hj hm
      have hmn : m ≤ n := by omega
      rw [hat i j hi hj, hat i m hi hmn, hat m j hmn hj]
      by_cases e : m = k
      · subst e
        have := hz m hmn
        omega
      · have t1 := ht i j m hi hj (by omega)
        have t2 := ht k j m hkn hj (by omega)
        have t3 := ht i k m hi hkn (by omega)
        have t4 := ht k k m hkn hkn (by omega)
        have t5 := hz k hkn
        omega) hne
    exact ⟨r1, r2, fun i j hi hj => Int.le_trans (r3 i j hi hj) (hle i j hi hj)⟩
theorem fw_max {n : Nat} {D : Nat → Nat → Int} (hD : Closed n D) : ∀ (f k : Nat) (d : List Int), k + f = n + 1 → d.length = (n + 1) * (n + 1) → Leq n D (mat n d) → (fwRun n f k d).length = (n + 1) * (n + 1) ∧ Leq n D (mat n (fwRun n f k d)) := by
  intro f
  induction f with
  | zero => intro k d hk hl h; exact ⟨hl, h⟩
  | succ f ih =>
    intro k d hk hl h
    have h2 : Leq n D (mat n (thrAll n k d)) := thr_keeps (by omega) hl hD h _ (Nat.le_refl _)
    have hb : ¬ belowL n (thrAll n k d) = true := by
      intro hb
      obtain ⟨i, hi, hlt⟩ := (belowL_iff _ _).1 hb
      have a := h2 i i hi hi
      rw [hD.zero i hi] at a
      omega
    simp only [fwRun]
    rw [if_neg hb]
    exact ih (k + 1) _ (by omega) (by unfold thrAll; rw [thr_len]; exact hl) h2

/- The document's way: ways of twice as many steps. -/
def sqF (n : Nat) (c : Nat → Nat → Int) (i j : Nat) : Int := (List.range (n + 1)).foldl (fun x k => if c i k + c k j < x then c i k + c k j else x) (c i j)
def twL (n : Nat) (m : List Int) : List Int := matL n (sqF n (mat n m))
def sq (n : Nat) (m : List Int) : Nat → List Int
  | 0 => m
  | t + 1 => twL n (sq n m t)
def refCloseL (n : Nat) (M : List Int) : List Int := if belowL n (sq n (clipL n M) 4) = true then [] else sq n (clipL n M) 4
theorem foldl_min (g : Nat → Int) : ∀ (l : List Nat) (x : Int), l.foldl (fun x k => if g k < x then g k else x) x ≤ x ∧ (∀ k ∈ l, l.foldl (fun x k => if g k < x then g k else x) x ≤ g k) ∧
    (l.foldl (fun x k => if g k < x then g k else x) x = x ∨ ∃ k ∈ l, l.foldl (fun x k => if g k < x then g k else x) x = g k) := by
  intro l
  induction l with
  | nil => intro x; simp
  | cons y l ih =>
    intro x
    obtain ⟨h1, h2, h3⟩ := ih (if g y < x then g y else x)
    have hy : (if g y < x then g y else x) ≤ x ∧ (if g y < x then g y else x) ≤ g y ∧ ((if g y < x then g y else x) = x ∨ (if g y < x then g y else x) = g y) := by
      split <;> simp <;> omega
    simp only [List.foldl_cons]
    refine ⟨by omega, ?_, ?_⟩
    · intro k hk
      rcases List.mem_cons.1 hk with rfl | hk
      · omega
      · exact h2 k hk
    · rcases h3 with h | ⟨k, hk, h⟩
      · rcases hy.2.2 with e | e
        · left; rw [h, e]
        · right; exact ⟨y, by simp, by rw [h, e]⟩
      · right; exact ⟨k, by simp [hk], h⟩
theorem sqF_le (n : Nat) (c : Nat → Nat → Int) (i j : Nat) : sqF n c i j ≤ c i j := (foldl_min (fun k => c i k + c k j) _ _).1
theorem sqF_two (n : Nat) (c : Nat → Nat → Int) (i j k : Nat) (hk : k ≤ n) : sqF n c i j ≤ c i k + c k j := (foldl_min (fun k => c i k + c k j) _ _).2.1 k (List.mem_range.2 (by omega))
theorem sqF_is (n : Nat) (c : Nat → Nat → Int) (i j : Nat) : sqF n c i j = c i j ∨ ∃ k, k ≤ n ∧ sqF n c i j = c i k + c k j := by
  rcases (foldl_min (fun k => c i k + c k j) (List.range (n + 1)) (c i j)).2.2 with h | ⟨k, hk, h⟩
  · exact .inl h
  · exact .inr ⟨k, by rw [List.mem_range] at hk; omega, h⟩
theorem sq_len {n : Nat} {m : List Int} (hl : m.length = (n + 1) * (n + 1)) (t : Nat) : (sq n m t).length = (n + 1) * (n + 1) := by
  cases t with
  | zero => exact hl
  | succ t => exact matL_len _ _
theorem sq_at {n : Nat} {m : List Int} (t : Nat) {i j : Nat} (hi : i ≤ n) (hj : j ≤ n) : mat n (sq n m (t + 1)) i j = sqF n (mat n (sq n m t)) i j := mat_matL _ hi hj
/-- What the steps of a way sum to. -/
def wt (M : Nat → Nat → Int) : Nat → List Nat → Nat → Int
  | i, [], j => M i j
  | i, v :: l, j => M i v + wt M v l j
theorem wt_app (M : Nat → Nat → Int) : ∀ (a : List Nat) (i v : Nat) (b : List Nat) (j : Nat), wt M i (a ++ v :: b) j = wt M i a v + wt M v b j := by
  intro a
  induction a with
  | nil => intro i v b j; rfl
  | cons x a ih => intro i v b j; simp only [List.cons_append, wt]; rw [ih]; omega
theorem sq_wt_le {n : Nat} {m : List Int} : ∀ (t : Nat) (l : List Nat) (i j : Nat), l.length + 1 ≤ 2 ^ t → (∀ x ∈ l, x ≤ n) → i ≤ n → j ≤ n → mat n (sq n m t) i j ≤ wt (mat n m) i l j := by
  intro t
  induction t with
  | zero =>
    intro l i j hl hx hi hj
    have : l = [] := by simpa using hl
    subst this
    exact Int.le_refl _
  | succ t ih =>
    intro l i j hl hx hi hj
    rw [sq_at t hi hj]
    by_cases h : l.length + 1 ≤ 2 ^ t
    · exact Int.le_trans (sqF_le _ _ _ _) (ih l i j h hx hi hj)
    · have hp : 0 < 2 ^ t := Nat.two_pow_pos t
      rw [Nat.pow_succ] at hl
      have hlt : 2 ^ t - 1 < l.length := by omega
      have hs : l = l.take (2 ^ t - 1) ++ l[2 ^ t - 1] :: l.drop (2 ^ t) := by
        conv => lhs; rw [← List.take_append_drop (2 ^ t - 1) l]
        rw [List.drop_eq_getElem_cons hlt, show 2 ^ t - 1 + 1 = 2 ^ t by omega]
      have hv : l[2 ^ t - 1] ≤ n := hx _ (List.getElem_mem hlt)
      rw [hs, wt_app]
      have a1 := ih (l.take (2 ^ t - 1)) i (l[2 ^ t - 1]) (by rw [List.length_take]; omega) (fun x hx' => hx x (List.mem_of_mem_take hx')) hi hv
      have a2 := ih (l.drop (2 ^ t)) (l[2 ^ t - 1]) j (by rw [List.length_drop]; omega) (fun x hx' => hx x (List.mem_of_mem_drop hx')) hv hj
      have a3 := sqF_two n (mat n (sq n m t)) i j _ hv
      omega
theorem sq_wt {n : Nat} {m : List Int} : ∀ (t : Nat) (i j : Nat), i ≤ n → j ≤ n → ∃ l : List Nat, (∀ x ∈ l, x ≤ n) ∧ mat n (sq n m t) i j = wt (mat n m) i l j := by
  intro t
  induction t with
  | zero => intro i j hi hj; exact ⟨[], by simp, rfl⟩
  | succ t ih =>
    intro i j hi hj
    rw [sq_at t hi hj]
    rcases sqF_is n (mat n (sq n m t)) i j with h | ⟨k, hk, h⟩
    · obtain ⟨l, h1, h2⟩ := ih i j hi hj
      exact ⟨l, h1, by rw [h, h2]⟩
    · obtain ⟨l1, h1, h2⟩ := ih i k hi hk
      obtain ⟨l2, h3, h4⟩ := ih k j hk hj
      refine ⟨l1 ++ k :: l2, ?_, by rw [h, h2, h4, wt_app]⟩
      intro x hx
      rcases List.mem_append.1 hx with hx | hx
      · exact h1 x hx
      · rcases List.mem_cons.1 hx with rfl | hx
        · exact hk
        · exact h3 x hx
theorem nodup_le : ∀ (n : Nat) (l : List Nat), (∀ x ∈ l, x < n) → l.Nodup → l.length ≤ n := by
  intro n
  induction n with
  | zero =>
    intro l h _
    cases l with
    | nil => simp
    | cons x l => exact absurd (h x (by simp)) (by omega)
  | succ n ih =>
    intro l h hd
    by_cases hn : n ∈ l
    · have := ih (l.erase n) (by
        intro x hx
        rw [hd.mem_erase_iff] at hx
        have := h x hx.2
        omega) (hd.erase n)
      rw [List.length_erase_of_mem hn] at this
      omega
    · have := ih l (by
        intro x hx
        have h1 := h x hx
        have h2 : x ≠ n := fun e => hn (e ▸ hx)
        omega) hd
      omega
theorem dup_split : ∀ l : List Nat, ¬ l.Nodup → ∃ a v b c, l = a ++ v :: (b ++ v :: c) := by
  intro l
  induction l with
  | nil => intro h; exact absurd List.nodup_nil h
  | cons x l ih =>
    intro h
    by_cases hx : x ∈ l
    · obtain ⟨s, t, rfl⟩ := List.append_of_mem hx
      exact ⟨[], x, s, t, rfl⟩
    · have : ¬ l.Nodup := fun hd => h (List.nodup_cons.2 ⟨hx, hd⟩)
      obtain ⟨a, v, b, c, rfl⟩ := ih this
      exact ⟨x :: a, v, b, c, rfl⟩
/-- With nothing below itself, no way at all is below what sixteen steps come to. -/
theorem sq_all {n : Nat} (hn : n ≤ 8) {m : List Int} (hz : ∀ i, i ≤ n → 0 ≤ mat n (sq n m 4) i i) : ∀ (s : Nat) (l : List Nat), l.length = s → ∀ i j, (∀ x ∈ l, x ≤ n) → i ≤ n → j ≤ n → mat n (sq n m 4) i j ≤ wt (mat n m) i l j := by
  intro s
  induction s using Nat.strongRecOn with
  | _ s ih =>
    intro l hs i j hx hi hj
    by_cases h : l.length + 1 ≤ 2 ^ 4
    · exact sq_wt_le 4 l i j h hx hi hj
    · have hlen : 10 ≤ l.length := by simp at h; omega
      have hdup : ¬ (l.take 10).Nodup := by
        intro hd
        have := nodup_le (n + 1) (l.take 10) (fun x hx' => by have := hx x (List.mem_of_mem_take hx'); omega) hd
        rw [List.length_take] at this
        omega
      obtain ⟨a, v, b, c, he⟩ := dup_split _ hdup
      have hl : l = a ++ v :: (b ++ v :: (c ++ l.drop 10)) := by
        conv => lhs; rw [← List.take_append_drop 10 l, he]
        simp
      have hT : (l.take 10).length = 10 := by rw [List.length_take]; omega
      have hbl : b.length + 1 ≤ 2 ^ 4 := by
        rw [he] at hT
        simp at hT ⊢
        omega
      have hmem : ∀ x, x ∈ a ∨ x = v ∨ x ∈ b ∨ x ∈ c ++ l.drop 10 → x ≤ n := by
        intro x hx'
        apply hx
        rw [hl]
        simp only [List.mem_append, List.mem_cons] at hx' ⊢
        rcases hx' with h | h | h | h
        · simp [h]
        · simp [h]
        · simp [h]
        · rcases h with h | h <;> simp [h]
      have hv : v ≤ n := hmem v (by simp)
      have q1 := sq_wt_le (m := m) 4 b v v hbl (fun x hx' => hmem x (by simp [hx'])) hv hv
      have q2 := hz v hv
      have q3 := ih (a ++ v :: (c ++ l.drop 10)).length (by
        rw [← hs]
        conv => rhs; rw [hl]
        simp
        omega) (a ++ v :: (c ++ l.drop 10)) rfl i j (by
        intro x hx'
        apply hmem
        simp only [List.mem_append, List.mem_cons] at hx' ⊢
        rcases hx' with h | h | h <;> simp [h]) hi hj
      rw [hl]
      rw [wt_app] at q3 ⊢
      rw [wt_app]
      omega
theorem sq_closed {n : Nat} (hn : n ≤ 8) {m : List Int} (hd : ∀ i, i ≤ n → mat n m i i ≤ 0) (hz : ∀ i, i ≤ n → 0 ≤ mat n (sq n m 4) i i) : Closed n (mat n (sq n m 4)) := by
  constructor
  · intro i hi
    have h1 := hz i hi
    have h2 := sq_wt_le (m := m) 4 [] i i (by decide) (by simp) hi hi
    have h3 := hd i hi
    simp only [wt] at h2
    omega
  · intro i j k hi hj hk
    obtain ⟨l1, h1, h2⟩ := sq_wt (m := m) 4 i k hi hk
    obtain ⟨l2, h3, h4⟩ := sq_wt (m := m) 4 k j hk hj
    rw [h2, h4, ← wt_app]
    refine sq_all hn hz _ _ rfl i j ?_ hi hj
    intro x hx
    rcases List.mem_append.1 hx with hx | hx
    · exact h1 x hx
    · rcases List.mem_cons.1 hx with rfl | hx
      · exact hk
      · exact h3 x hx
theorem sq_max {n : Nat} {m : List Int} {D : Nat → Nat → Int} (hD : Closed n D) (h : Leq n D (mat n m)) : ∀ t, Leq n D (mat n (sq n m t)) := by
  intro t
  induction t with
  | zero => exact h
  | succ t ih =>
    intro i j hi hj
    rw [sq_at t hi hj]
    rcases sqF_is n (mat n (sq n m t)) i j with q | ⟨k, hk, q⟩
    · rw [q]; exact ih i j hi hj
    · rw [q]
      have a1 := ih i k hi hk
      have a2 := ih k j hk hj
      have a3 := hD.tri i j k hi hj hk
      omega
theorem clip_diag {n : Nat} {M : List Int} {i : Nat} (hi : i ≤ n) : mat n (clipL n M) i i ≤ 0 := by
  unfold clipL
  rw [mat_matL _ hi hi]
  unfold clipF widestF
  rw [if_pos rfl]
  omega
theorem clip_len (n : Nat) (M : List Int) : (clipL n M).length = (n + 1) * (n + 1) := matL_len _ _
theorem size_pos (n : Nat) : 0 < (n + 1) * (n + 1) := Nat.mul_pos (by omega) (by omega)
/-- What is closed in a matrix's own bounds, and where there is nothing. -/
theorem closedL_is {n : Nat} {M : List Int} (h : closedL n M ≠ []) : (closedL n M).length = (n + 1) * (n + 1) ∧ Closed n (mat n (closedL n M)) ∧ Leq n (mat n (closedL n M)) (mat n (clipL n M)) :=
  fw_closed (n + 1) 0 _ (by omega) (clip_len _ _) (fun i hi => clip_diag hi) (.inl rfl) (by intro i j m _ _ h; omega) h
theorem closedL_max {n : Nat} {M : List Int} {D : Nat → Nat → Int} (hD : Closed n D) (h : Leq n D (mat n (clipL n M))) : (closedL n M).length = (n + 1) * (n + 1) ∧ Leq n D (mat n (closedL n M)) :=
  fw_max hD (n + 1) 0 _ (by omega) (clip_len _ _) h
theorem closedL_ne {n : Nat} {M : List Int} (h : (closedL n M).length = (n + 1) * (n + 1)) : closedL n M ≠ [] := by
  intro e; rw [e] at h; have := size_pos n; simp at h
/-- Both ways of reckoning come to the same. -/
theorem close_both {n : Nat} (hn : n ≤ 8) (M : List Int) : closedL n M = refCloseL n M := by
  unfold refCloseL
  by_cases hb : belowL n (sq n (clipL n M) 4) = true
  · rw [if_pos hb]
    by_cases hc : closedL n M = []
    · exact hc
    · obtain ⟨h1, h2, h3⟩ := closedL_is hc
      obtain ⟨i, hi, hlt⟩ := (belowL_iff _ _).1 hb
      have := sq_max h2 h3 4 i i hi hi
      rw [h2.zero i hi] at this
      omega
  · rw [if_neg hb]
    rw [Bool.not_eq_true] at hb
    have hcl := sq_closed (m := clipL n M) hn (fun i hi => clip_diag hi) (fun i hi => belowL_not hb hi)
    have hle : Leq n (mat n (sq n (clipL n M) 4)) (mat n (clipL n M)) := by
      intro i j hi hj
      exact sq_wt_le 4 [] i j (by decide) (by simp) hi hj
    obtain ⟨h1, h2⟩ := closedL_max hcl hle
    obtain ⟨h3, h4, h5⟩ := closedL_is (closedL_ne h1)
    refine mat_ext h1 (sq_len (clip_len _ _) 4) (fun i j hi hj => ?_)
    have a := h2 i j hi hj
    have b := sq_max h4 h5 4 i j hi hj
    omega
end Go.Proofs.Ytacbkddkjlnklaa
