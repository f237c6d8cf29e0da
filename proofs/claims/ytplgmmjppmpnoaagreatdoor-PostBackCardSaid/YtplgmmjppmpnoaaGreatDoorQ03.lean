import Derived.Test.YtplgmmjppmpnoaaGreatDoorRows
import Derived.IntWalk
import Derived.Deep.QuietTactic
import Derived.BigQuiet
import Derived.Maps.AppendAt
import Derived.Lib.ConvBytes
import Derived.Test.YtplgmmjppmpnoaaGreatDoorQ01
/- Zones: shortest ways, both ways of reckoning them. Plain lists. -/
namespace Go.Proofs.YtplgmmjppmpnoaaGreatDoor
set_option linter.unusedVariables false
set_option linter.unusedSimpArgs false

/-- The number at i, j of a matrix of n variables. -/
def mat (n : Nat) (l : List Int) (i j : Nat) : Int := l.getD (i * (n + 1) + j) 0
def matL (n : Nat) (F : Nat → Nat → Int) : List Int := (List.range ((n + 1) * (n + 1))).map fun t => F (t / (n + 1)) (t % (n + 1))
theorem matL_len (n : Nat) (F : Nat → Nat → Int) : (matL n F).length = (n + 1) * (n + 1) := by simp [matL]
theorem place_lt {n i j : Nat} (hi : i ≤ n) (hj : j ≤ n) : i * (n + 1) + j < (n + 1) * (n + 1) := by
  have h1 : i * (n + 1) ≤ n * (n + 1) := Nat.mul_le_mul_right _ hi
  have h2 : (n + 1) * (n + 1) = n * (n + 1) + (n + 1) := by rw [Nat.add_mul, Nat.one_mul]
  omega
theorem place_div {n i j : Nat} (hj : j ≤ n) : (i * (n + 1) + j) / (n + 1) = i := by
  rw [Nat.mul_comm, Nat.mul_add_div (by omega), Nat.div_eq_of_lt (by omega)]; omega
theorem place_mod {n i j : Nat} (hj : j ≤ n) : (i * (n + 1) + j) % (n + 1) = j := by
  rw [Nat.mul_comm, Nat.mul_add_mod, Nat.mod_eq_of_lt (by omega)]
theorem mat_matL {n : Nat} (F : Nat → Nat → Int) {i j : Nat} (hi : i ≤ n) (hj : j ≤ n) : mat n (matL n F) i j = F i j := by
  unfold mat matL
  have h := place_lt hi hj
  simp [List.getD, h, place_div hj, place_mod hj]
theorem place_of {n t : Nat} (h : t < (n + 1) * (n + 1)) : t / (n + 1) ≤ n ∧ t % (n + 1) ≤ n ∧ t / (n + 1) * (n + 1) + t % (n + 1) = t := by
  have h1 := Nat.div_lt_of_lt_mul h
  have h2 := Nat.mod_lt t (show 0 < n + 1 by omega)
  have h3 := Nat.div_add_mod t (n + 1)
  rw [Nat.mul_comm] at h3
  omega
/-- Two matrices with the same numbers are one. -/
theorem mat_ext {n : Nat} {l r : List Int} (hl : l.length = (n + 1) * (n + 1)) (hr : r.length = (n + 1) * (n + 1)) (h : ∀ i j, i ≤ n → j ≤ n → mat n l i j = mat n r i j) : l = r := by
  apply List.ext_getElem (by omega)
  intro t h1 h2
  obtain ⟨q1, q2, q3⟩ := place_of (n := n) (t := t) (by omega)
  have := h _ _ q1 q2
  unfold mat at this
  rw [q3] at this
  simpa [List.getD, h1, h2] using this

def widestF (i j : Nat) : Int := if i = j then 0 else if i = 0 ∨ j = 0 then 1099511627776 else 2199023255552
def clipF (n : Nat) (M : List Int) (i j : Nat) : Int := max (-2199023255553) (min (mat n M i j) (widestF i j))
def clipL (n : Nat) (M : List Int) : List Int := matL n (clipF n M)

structure Closed (n : Nat) (D : Nat → Nat → Int) : Prop where
  zero : ∀ i, i ≤ n → D i i = 0
  tri : ∀ i j k, i ≤ n → j ≤ n → k ≤ n → D i j ≤ D i k + D k j
/-- No number of D is above the one of E. -/
def Leq (n : Nat) (D E : Nat → Nat → Int) : Prop := ∀ i j, i ≤ n → j ≤ n → D i j ≤ E i j

/-- One phase, place by place. -/
def thr (n k : Nat) (d : List Int) : Nat → List Int
  | 0 => d
  | t + 1 => (thr n k d t).set t (min ((thr n k d t).getD t 0) (mat n (thr n k d t) (t / (n + 1)) k + mat n (thr n k d t) k (t % (n + 1))))
def thrAll (n k : Nat) (d : List Int) : List Int := thr n k d ((n + 1) * (n + 1))
def belowL (n : Nat) (d : List Int) : Bool := (List.range (n + 1)).any fun i => decide (d.getD (i * (n + 2)) 0 < 0)
def fwRun (n : Nat) : Nat → Nat → List Int → List Int
  | 0, _, d => d
  | f + 1, k, d => if belowL n (thrAll n k d) = true then [] else fwRun n f (k + 1) (thrAll n k d)
def closedL (n : Nat) (M : List Int) : List Int := fwRun n (n + 1) 0 (clipL n M)

theorem thr_len (n k : Nat) (d : List Int) (t : Nat) : (thr n k d t).length = d.length := by
  induction t with
  | zero => rfl
  | succ t ih => simp [thr, ih]
theorem diag_at (n : Nat) (d : List Int) (i : Nat) : d.getD (i * (n + 2)) 0 = mat n d i i := by
  unfold mat
  rw [show i * (n + 2) = i * (n + 1) + i by rw [show n + 2 = (n + 1) + 1 by omega, Nat.mul_add]; omega]
theorem belowL_iff (n : Nat) (d : List Int) : belowL n d = true ↔ ∃ i, i ≤ n ∧ mat n d i i < 0 := by
  unfold belowL
  rw [List.any_eq_true]
  constructor
  · rintro ⟨i, hi, h⟩
    rw [List.mem_range] at hi
    rw [decide_eq_true_eq, diag_at] at h
    exact ⟨i, by omega, h⟩
  · rintro ⟨i, hi, h⟩
    exact ⟨i, List.mem_range.2 (by omega), by rw [decide_eq_true_eq, diag_at]; exact h⟩
theorem belowL_not {n : Nat} {d : List Int} (h : belowL n d = false) {i : Nat} (hi : i ≤ n) : 0 ≤ mat n d i i := by
  by_cases q : 0 ≤ mat n d i i
  · exact q
  · have := (belowL_iff n d).2 ⟨i, hi, by omega⟩
    rw [h] at this; simp at this
theorem getD_set (l : List Int) (t p : Nat) (x : Int) (ht : t < l.length) : (l.set t x).getD p 0 = if p = t then x else l.getD p 0 := by
  by_cases h : p = t
  · subst h; simp [List.getD, ht]
  · rw [if_neg h]; simp [List.getD, List.getElem?_set, show ¬ t = p from fun e => h e.symm]
theorem mat_set {n : Nat} {l : List Int} (hl : l.length = (n + 1) * (n + 1)) {t : Nat} (ht : t < (n + 1) * (n + 1)) (x : Int) {i j : Nat} (hi : i ≤ n) (hj : j ≤ n) : mat n (l.set t x) i j = if i = t / (n + 1) ∧ j = t % (n + 1) then x else mat n l i j := by
  unfold mat
  rw [getD_set _ _ _ _ (by omega)]
  by_cases h : i * (n + 1) + j = t
  · subst h
    rw [if_pos rfl, if_pos ⟨(place_div hj).symm, (place_mod hj).symm⟩]
  · rw [if_neg h, if_neg]
    rintro ⟨rfl, rfl⟩
    exact h (place_of ht).2.2
/-- A phase only lowers. -/
theorem thr_leq {n k : Nat} {d : List Int} (hl : d.length = (n + 1) * (n + 1)) : ∀ t, t ≤ (n + 1) * (n + 1) → Leq n (mat n (thr n k d t)) (mat n d) := by
  intro t
  induction t with
  | zero => intro _ i j _ _; exact Int.le_refl _
  | succ t ih =>
    intro ht i j hi hj
    have h := ih (by omega) i j hi hj
    simp only [thr]
    rw [mat_set (by rw [thr_len]; exact hl) (by omega) _ hi hj]
    split
    · rename_i q
      obtain ⟨rfl, rfl⟩ := q
      refine Int.le_trans (Int.min_le_left _ _) ?_
      have : (thr n k d t).getD t 0 = mat n (thr n k d t) (t / (n + 1)) (t % (n + 1)) := by unfold mat; rw [(place_of (n := n) (t := t) (by omega)).2.2]
      rw [this]; exact h
    · exact h
/-- What is below, and closed, stays below. -/
theorem thr_keeps {n k : Nat} (hk : k ≤ n) {d : List Int} (hl : d.length = (n + 1) * (n + 1)) {D : Nat → Nat → Int} (hD : Closed n D) (h : Leq n D (mat n d)) : ∀ t, t ≤ (n + 1) * (n + 1) → Leq n D (mat n (thr n k d t)) := by
  intro t
  induction t with
  | zero => intro _; exact h
  | succ t ih =>
    intro ht i j hi hj
    have h1 := ih (by omega)
    simp only [thr]
    rw [mat_set (by rw [thr_len]; exact hl) (by omega) _ hi hj]
    split
    · rename_i q
      obtain ⟨rfl, rfl⟩ := q
      have : (thr n k d t).getD t 0 = mat n (thr n k d t) (t / (n + 1)) (t % (n + 1)) := by unfold mat; rw [(place_of (n := n) (t := t) (by omega)).2.2]
      rw [this]
      have a1 := h1 _ _ hi hj
      have a2 := h1 _ _ hi hk
      have a3 := h1 _ _ hk hj
      have a4 := hD.tri _ _ k hi hj hk
      omega
    · exact h1 i j hi hj
/-- A phase with 0 at k, k: as if all were lowered at once. -/
theorem thr_at {n k : Nat} (hk : k ≤ n) {d : List Int} (hl : d.length = (n + 1) * (n + 1)) (h0 : mat n d k k = 0) : ∀ t, t ≤ (n + 1) * (n + 1) → ∀ i j, i ≤ n → j ≤ n →
    mat n (thr n k d t) i j = if i * (n + 1) + j < t then min (mat n d i j) (mat n d i k + mat n d k j) else mat n d i j := by
  intro t
  induction t with
  | zero => intro _ i j _ _; rw [if_neg (by omega)]; rfl
  | succ t ih =>
    intro ht i j hi hj
    have h1 := ih (by omega)
    have hik : ∀ i, i ≤ n → mat n (thr n k d t) i k = mat n d i k := by
      intro i hi
      rw [h1 i k hi hk]
      split
      · rw [h0]; omega
      · rfl
    have hkj : ∀ j, j ≤ n → mat n (thr n k d t) k j = mat n d k j := by
      intro j hj
      rw [h1 k j hk hj]
      split
      · rw [h0]; omega
      · rfl
    obtain ⟨q1, q2, q3⟩ := place_of (n := n) (t := t) (by omega)
    simp only [thr]
    rw [mat_set (by rw [thr_len]; exact hl) (by omega) _ hi hj]
    by_cases q : i = t / (n + 1) ∧ j = t % (n + 1)
    · rw [if_pos q]
      obtain ⟨rfl, rfl⟩ := q
      have : (thr n k d t).getD t 0 = mat n (thr n k d t) (t / (n + 1)) (t % (n + 1)) := by unfold mat; rw [q3]
      rw [this, hik _ hi, hkj _ hj, h1 _ _ hi hj, if_neg (by omega), if_pos (by omega)]
    · rw [if_neg q, h1 i j hi hj]
      have hne : i * (n + 1) + j ≠ t := by
        intro e; subst e
        exact q ⟨(place_div hj).symm, (place_mod hj).symm⟩
      by_cases h : i * (n + 1) + j < t
      · rw [if_pos h, if_pos (by omega)]
      · rw [if_neg h, if_neg (by omega)]
theorem thrAll_at {n k : Nat} (hk : k ≤ n) {d : List Int} (hl : d.length = (n + 1) * (n + 1)) (h0 : mat n d k k = 0) {i j : Nat} (hi : i ≤ n) (hj : j ≤ n) : mat n (thrAll n k d) i j = min (mat n d i j) (mat n d i k + mat n d k j) := by
  unfold thrAll
  rw [thr_at hk hl h0 _ (Nat.le_refl _) i j hi hj, if_pos (place_lt hi hj)]
/-- Behind the phases up to k nothing is above two steps over what is below k. -/
theorem fw_closed {n : Nat} : ∀ (f k : Nat) (d : List Int), k + f = n + 1 → d.length = (n + 1) * (n + 1) → (∀ i, i ≤ n → mat n d i i ≤ 0) → (k = 0 ∨ ∀ i, i ≤ n → mat n d i i = 0) →
    (∀ i j m, i ≤ n → j ≤ n → m < k → mat n d i j ≤ mat n d i m + mat n d m j) → fwRun n f k d ≠ [] → (fwRun n f k d).length = (n + 1) * (n + 1) ∧ Closed n (mat n (fwRun n f k d)) ∧ Leq n (mat n (fwRun n f k d)) (mat n d) := by
  intro f
  induction f with
  | zero =>
    intro k d hk hl hd h0 ht hne
    simp only [fwRun] at hne ⊢
    refine ⟨hl, ⟨?_, fun i j m hi hj hm => ht i j m hi hj (by omega)⟩, fun i j _ _ => Int.le_refl _⟩
    rcases h0 with h | h
    · omega
    · exact h
  | succ f ih =>
    intro k d hk hl hd h0 ht hne
    simp only [fwRun] at hne ⊢
    by_cases hb : belowL n (thrAll n k d) = true
    · rw [if_pos hb] at hne; exact absurd rfl hne
    rw [if_neg hb] at hne ⊢
    rw [Bool.not_eq_true] at hb
    have hkn : k ≤ n := by omega
    have hle : Leq n (mat n (thrAll n k d)) (mat n d) := thr_leq hl _ (Nat.le_refl _)
    have hz : ∀ i, i ≤ n → mat n d i i = 0 := fun i hi => by
      have a := belowL_not hb hi
      have b := hle i i hi hi
      have c := hd i hi
      omega
    have hat := fun i j (hi : i ≤ n) (hj : j ≤ n) => thrAll_at hkn hl (hz k hkn) hi hj
    have hl2 : (thrAll n k d).length = (n + 1) * (n + 1) := by unfold thrAll; rw [thr_len]; exact hl
    have hz2 : ∀ i, i ≤ n → mat n (thrAll n k d) i i = 0 := fun i hi => by
      have a := belowL_not hb hi
      have b := hle i i hi hi
      have c := hd i hi
      omega
    obtain ⟨r1, r2, r3⟩ := ih (k + 1) (thrAll n k d) (by omega) hl2 (fun i hi => by rw [hz2 i hi]; omega) (.inr hz2) (by
      intro i j m hi hj hm
      have hmn : m ≤ n := by omega
      rw [hat i j hi hj, hat i m hi hmn, hat m j hmn hj]
      by_cases e : m = k
      · subst e
        have := hz m hmn
        omega
      · have t1 := ht i j m hi hj (by omega)
        have t2 := ht k j m hkn hj (by omega)
        have t3 := ht i k m hi hkn (by omega)
        have t4 := ht k k m hkn hkn (by omega)
        have t5 := hz k hkn
        omega) hne
    exact ⟨r1, r2, fun i j hi hj => Int.le_trans (r3 i j hi hj) (hle i j hi hj)⟩
theorem fw_max {n : Nat} {D : Nat → Nat → Int} (hD : Closed n D) : ∀ (f k : Nat) (d : List Int), k + f = n + 1 → d.length = (n + 1) * (n + 1) → Leq n D (mat n d) → (fwRun n f k d).length = (n + 1) * (n + 1) ∧ Leq n D (mat n (fwRun n f k d)) := by
  intro f
  induction f with
  | zero => intro k d hk hl h; exact ⟨hl, h⟩
  | succ f ih =>
    intro k d hk hl h
    have h2 : Leq n D (mat n (thrAll n k d)) := thr_keeps (by omega) hl hD h _ (Nat.le_refl _)
    have hb : ¬ belowL n (thrAll n k d) = true := by
      intro hb
      obtain ⟨i, hi, hlt⟩ := (belowL_iff _ _).1 hb
      have a := h2 i i hi hi
      rw [hD.zero i hi] at a
      omega
    simp only [fwRun]
    rw [if_neg hb]
    exact ih (k + 1) _ (by omega) (by unfold thrAll; rw [thr_len]; exact hl) h2

/- The document's way: ways of twice as many steps. -/
def sqF (n : Nat) (c : Nat → Nat → Int) (i j : Nat) : Int := (List.range (n + 1)).foldl (fun x k => if c i k + c k j < x then c i k + c k j else x) (c i j)
def twL (n : Nat) (m : List Int) : List Int := matL n (sqF n (mat n m))
def sq (n : Nat) (m : List Int) : Nat → List Int
  | 0 => m
  | t + 1 => twL n (sq n m t)
def refCloseL (n : Nat) (M : List Int) : List Int := if belowL n (sq n (clipL n M) 4) = true then [] else sq n (clipL n M) 4
theorem foldl_min (g : Nat → Int) : ∀ (l : List Nat) (x : Int), l.foldl (fun x k => if g k < x then g k else x) x ≤ x ∧ (∀ k ∈ l, l.foldl (fun x k => if g k < x then g k else x) x ≤ g k) ∧
    (l.foldl (fun x k => if g k < x then g k else x) x = x ∨ ∃ k ∈ l, l.foldl (fun x k => if g k < x then g k else x) x = g k) := by
  intro l
  induction l with
  | nil => intro x; simp
  | cons y l ih =>
    intro x
    obtain ⟨h1, h2, h3⟩ := ih (if g y < x then g y else x)
    have hy : (if g y < x then g y else x) ≤ x ∧ (if g y < x then g y else x) ≤ g y ∧ ((if g y < x then g y else x) = x ∨ (if g y < x then g y else x) = g y) := by
      split <;> simp <;> omega
    simp only [List.foldl_cons]
    refine ⟨by omega, ?_, ?_⟩
    · intro k hk
      rcases List.mem_cons.1 hk with rfl | hk
      · omega
      · exact h2 k hk
    · rcases h3 with h | ⟨k, hk, h⟩
      · rcases hy.2.2 with e | e
        · left; rw [h, e]
        · right; exact ⟨y, by simp, by rw [h, e]⟩
      · right; exact ⟨k, by simp [hk], h⟩
theorem sqF_le (n : Nat) (c : Nat → Nat → Int) (i j : Nat) : sqF n c i j ≤ c i j := (foldl_min (fun k => c i k + c k j) _ _).1
theorem sqF_two (n : Nat) (c : Nat → Nat → Int) (i j k : Nat) (hk : k ≤ n) : sqF n c i j ≤ c i k + c k j := (foldl_min (fun k => c i k + c k j) _ _).2.1 k (List.mem_range.2 (by omega))
theorem sqF_is (n : Nat) (c : Nat → Nat → Int) (i j : Nat) : sqF n c i j = c i j ∨ ∃ k, k ≤ n ∧ sqF n c i j = c i k + c k j := by
  rcases (foldl_min (fun k => c i k + c k j) (List.range (n + 1)) (c i j)).2.2 with h | ⟨k, hk, h⟩
  · exact .inl h
  · exact .inr ⟨k, by rw [List.mem_range] at hk; omega, h⟩
theorem sq_len {n : Nat} {m : List Int} (hl : m.length = (n + 1) * (n + 1)) (t : Nat) : (sq n m t).length = (n + 1) * (n + 1) := by
  cases t with
  | zero => exact hl
  | succ t => exact matL_len _ _
theorem sq_at {n : Nat} {m : List Int} (t : Nat) {i j : Nat} (hi : i ≤ n) (hj : j ≤ n) : mat n (sq n m (t + 1)) i j = sqF n (mat n (sq n m t)) i j := mat_matL _ hi hj
/-- What the steps of a way sum to. -/
def wt (M : Nat → Nat → Int) : Nat → List Nat → Nat → Int
  | i, [], j => M i j
  | i, v :: l, j => M i v + wt M v l j
theorem wt_app (M : Nat → Nat → Int) : ∀ (a : List Nat) (i v : Nat) (b : List Nat) (j : Nat), wt M i (a ++ v :: b) j = wt M i a v + wt M v b j := by
  intro a
  induction a with
  | nil => intro i v b j; rfl
  | cons x a ih => intro i v b j; simp only [List.cons_append, wt]; rw [ih]; omega
theorem sq_wt_le {n : Nat} {m : List Int} : ∀ (t : Nat) (l : List Nat) (i j : Nat), l.length + 1 ≤ 2 ^ t → (∀ x ∈ l, x ≤ n) → i ≤ n → j ≤ n → mat n (sq n m t) i j ≤ wt (mat n m) i l j := by
  intro t
  induction t with
  | zero =>
    intro l i j hl hx hi hj
    have : l = [] := by simpa using hl
    subst this
    exact Int.le_refl _
  | succ t ih =>
    intro l i j hl hx hi hj
    rw [sq_at t hi hj]
    by_cases h : l.length + 1 ≤ 2 ^ t
    · exact Int.le_trans (sqF_le _ _ _ _) (ih l i j h hx hi hj)
    · have hp : 0 < 2 ^ t := Nat.two_pow_pos t
      rw [Nat.pow_succ] at hl
      have hlt : 2 ^ t - 1 < l.length := by omega
      have hs : l = l.take (2 ^ t - 1) ++ l[2 ^ t - 1] :: l.drop (2 ^ t) := by
        conv => lhs; rw [← List.take_append_drop (2 ^ t - 1) l]
        rw [List.drop_eq_getElem_cons hlt, show 2 ^ t - 1 + 1 = 2 ^ t by omega]
      have hv : l[2 ^ t - 1] ≤ n := hx _ (List.getElem_mem hlt)
      rw [hs, wt_app]
      have a1 := ih (l.take (2 ^ t - 1)) i (l[2 ^ t - 1]) (by rw [List.length_take]; omega) (fun x hx' => hx x (List.mem_of_mem_take hx')) hi hv
      have a2 := ih (l.drop (2 ^ t)) (l[2 ^ t - 1]) j (by rw [List.length_drop]; omega) (fun x hx' => hx x (List.mem_of_mem_drop hx')) hv hj
      have a3 := sqF_two n (mat n (sq n m t)) i j _ hv
      omega
theorem sq_wt {n : Nat} {m : List Int} : ∀ (t : Nat) (i j : Nat), i ≤ n → j ≤ n → ∃ l : List Nat, (∀ x ∈ l, x ≤ n) ∧ mat n (sq n m t) i j = wt (mat n m) i l j := by
  intro t
  induction t with
  | zero => intro i j hi hj; exact ⟨[], by simp, rfl⟩
  | succ t ih =>
    intro i j hi hj
    rw [sq_at t hi hj]
    rcases sqF_is n (mat n (sq n m t)) i j with h | ⟨k, hk, h⟩
    · obtain ⟨l, h1, h2⟩ := ih i j hi hj
      exact ⟨l, h1, by rw [h, h2]⟩
    · obtain ⟨l1, h1, h2⟩ := ih i k hi hk
      obtain ⟨l2, h3, h4⟩ := ih k j hk hj
      refine ⟨l1 ++ k :: l2, ?_, by rw [h, h2, h4, wt_app]⟩
      intro x hx
      rcases List.mem_append.1 hx with hx | hx
      · exact h1 x hx
      · rcases List.mem_cons.1 hx with rfl | hx
        · exact hk
        · exact h3 x hx
theorem nodup_le : ∀ (n : Nat) (l : List Nat), (∀ x ∈ l, x < n) → l.Nodup → l.length ≤ n := by
  intro n
  induction n with
  | zero =>
    intro l h _
    cases l with
    | nil => simp
    | cons x l => exact absurd (h x (by simp)) (by omega)
  | succ n ih =>
    intro l h hd
    by_cases hn : n ∈ l
    · have := ih (l.erase n) (by
        intro x hx
        rw [hd.mem_erase_iff] at hx
        have := h x hx.2
        omega) (hd.erase n)
      rw [List.length_erase_of_mem hn] at this
      omega
    · have := ih l (by
        intro x hx
        have h1 := h x hx
        have h2 : x ≠ n := fun e => hn (e ▸ hx)
        omega) hd
      omega
theorem dup_split : ∀ l : List Nat, ¬ l.Nodup → ∃ a v b c, l = a ++ v :: (b ++ v :: c) := by
  intro l
  induction l with
  | nil => intro h; exact absurd List.nodup_nil h
  | cons x l ih =>
    intro h
    by_cases hx : x ∈ l
    · obtain ⟨s, t, rfl⟩ := List.append_of_mem hx
      exact ⟨[], x, s, t, rfl⟩
    · have : ¬ l.Nodup := fun hd => h (List.nodup_cons.2 ⟨hx, hd⟩)
      obtain ⟨a, v, b, c, rfl⟩ := ih this
      exact ⟨x :: a, v, b, c, rfl⟩
/-- With nothing below itself, no way at all is below what sixteen steps come to. -/
theorem sq_all {n : Nat} (hn : n ≤ 8) {m : List Int} (hz : ∀ i, i ≤ n → 0 ≤ mat n (sq n m 4) i i) : ∀ (s : Nat) (l : List Nat), l.length = s → ∀ i j, (∀ x ∈ l, x ≤ n) → i ≤ n → j ≤ n → mat n (sq n m 4) i j ≤ wt (mat n m) i l j := by
  intro s
  induction s using Nat.strongRecOn with
  | _ s ih =>
    intro l hs i j hx hi hj
    by_cases h : l.length + 1 ≤ 2 ^ 4
    · exact sq_wt_le 4 l i j h hx hi hj
    · have hlen : 10 ≤ l.length := by simp at h; omega
      have hdup : ¬ (l.take 10).Nodup := by
        intro hd
        have := nodup_le (n + 1) (l.take 10) (fun x hx' => by have := hx x (List.mem_of_mem_take hx'); omega) hd
        rw [List.length_take] at this
        omega
      obtain ⟨a, v, b, c, he⟩ := dup_split _ hdup
      have hl : l = a ++ v :: (b ++ v :: (c ++ l.drop 10)) := by
        conv => lhs; rw [← List.take_append_drop 10 l, he]
        simp
      have hT : (l.take 10).length = 10 := by rw [List.length_take]; omega
      have hbl : b.length + 1 ≤ 2 ^ 4 := by
        rw [he] at hT
        simp at hT ⊢
        omega
      have hmem : ∀ x, x ∈ a ∨ x = v ∨ x ∈ b ∨ x ∈ c ++ l.drop 10 → x ≤ n := by
        intro x hx'
        apply hx
        rw [hl]
        simp only [List.mem_append, List.mem_cons] at hx' ⊢
        rcases hx' with h | h | h | h
        · simp [h]
        · simp [h]
        · simp [h]
        · rcases h with h | h <;> simp [h]
      have hv : v ≤ n := hmem v (by simp)
      have q1 := sq_wt_le (m := m) 4 b v v hbl (fun x hx' => hmem x (by simp [hx'])) hv hv
      have q2 := hz v hv
      have q3 := ih (a ++ v :: (c ++ l.drop 10)).length (by
        rw [← hs]
        conv => rhs; rw [hl]
        simp
        omega) (a ++ v :: (c ++ l.drop 10)) rfl i j (by
        intro x hx'
        apply hmem
        simp only [List.mem_append, List.mem_cons] at hx' ⊢
        rcases hx' with h | h | h <;> simp [h]) hi hj
      rw [hl]
      rw [wt_app] at q3 ⊢
      rw [wt_app]
      omega
theorem sq_closed {n : Nat} (hn : n ≤ 8) {m : List Int} (hd : ∀ i, i ≤ n → mat n m i i ≤ 0) (hz : ∀ i, i ≤ n → 0 ≤ mat n (sq n m 4) i i) : Closed n (mat n (sq n m 4)) := by
  constructor
  · intro i hi
    have h1 := hz i hi
    have h2 := sq_wt_le (m := m) 4 [] i i (by decide) (by simp) hi hi
    have h3 := hd i hi
    simp only [wt] at h2
    omega
  · intro i j k hi hj hk
    obtain ⟨l1, h1, h2⟩ := sq_wt (m := m) 4 i k hi hk
    obtain ⟨l2, h3, h4⟩ := sq_wt (m := m) 4 k j hk hj
    rw [h2, h4, ← wt_app]
    refine sq_all hn hz _ _ rfl i j ?_ hi hj
    intro x hx
    rcases List.mem_append.1 hx with hx | hx
    · exact h1 x hx
    · rcases List.mem_cons.1 hx with rfl | hx
      · exact hk
      · exact h3 x hx
theorem sq_max {n : Nat} {m : List Int} {D : Nat → Nat → Int} (hD : Closed n D) (h : Leq n D (mat n m)) : ∀ t, Leq n D (mat n (sq n m t)) := by
  intro t
  induction t with
  | zero => exact h
  | succ t ih =>
    intro i j hi hj
    rw [sq_at t hi hj]
    rcases sqF_is n (mat n (sq n m t)) i j with q | ⟨k, hk, q⟩
    · rw [q]; exact ih i j hi hj
    · rw [q]
      have a1 := ih i k hi hk
      have a2 := ih k j hk hj
      have a3 := hD.tri i j k hi hj hk
      omega
theorem clip_diag {n : Nat} {M : List Int} {i : Nat} (hi : i ≤ n) : mat n (clipL n M) i i ≤ 0 := by
  unfold clipL
  rw [mat_matL _ hi hi]
  unfold clipF widestF
  rw [if_pos rfl]
  omega
theorem clip_len (n : Nat) (M : List Int) : (clipL n M).length = (n + 1) * (n + 1) := matL_len _ _
theorem size_pos (n : Nat) : 0 < (n + 1) * (n + 1) := Nat.mul_pos (by omega) (by omega)
/-- What is closed in a matrix's own bounds, and where there is nothing. -/
theorem closedL_is {n : Nat} {M : List Int} (h : closedL n M ≠ []) : (closedL n M).length = (n + 1) * (n + 1) ∧ Closed n (mat n (closedL n M)) ∧ Leq n (mat n (closedL n M)) (mat n (clipL n M)) :=
  fw_closed (n + 1) 0 _ (by omega) (clip_len _ _) (fun i hi => clip_diag hi) (.inl rfl) (by intro i j m _ _ h; omega) h
theorem closedL_max {n : Nat} {M : List Int} {D : Nat → Nat → Int} (hD : Closed n D) (h : Leq n D (mat n (clipL n M))) : (closedL n M).length = (n + 1) * (n + 1) ∧ Leq n D (mat n (closedL n M)) :=
  fw_max hD (n + 1) 0 _ (by omega) (clip_len _ _) h
theorem closedL_ne {n : Nat} {M : List Int} (h : (closedL n M).length = (n + 1) * (n + 1)) : closedL n M ≠ [] := by
  intro e; rw [e] at h; have := size_pos n; simp at h
/-- Both ways of reckoning come to the same. -/
theorem close_both {n : Nat} (hn : n ≤ 8) (M : List Int) : closedL n M = refCloseL n M := by
  unfold refCloseL
  by_cases hb : belowL n (sq n (clipL n M) 4) = true
  · rw [if_pos hb]
    by_cases hc : closedL n M = []
    · exact hc
    · obtain ⟨h1, h2, h3⟩ := closedL_is hc
      obtain ⟨i, hi, hlt⟩ := (belowL_iff _ _).1 hb
      have := sq_max h2 h3 4 i i hi hi
      rw [h2.zero i hi] at this
      omega
  · rw [if_neg hb]
    rw [Bool.not_eq_true] at hb
    have hcl := sq_closed (m := clipL n M) hn (fun i hi => clip_diag hi) (fun i hi => belowL_not hb hi)
    have hle : Leq n (mat n (sq n (clipL n M) 4)) (mat n (clipL n M)) := by
      intro i j hi hj
      exact sq_wt_le 4 [] i j (by decide) (by simp) hi hj
    obtain ⟨h1, h2⟩ := closedL_max hcl hle
    obtain ⟨h3, h4, h5⟩ := closedL_is (closedL_ne h1)
    refine mat_ext h1 (sq_len (clip_len _ _) 4) (fun i j hi hj => ?_)
    have a := h2 i j hi hj
    have b := sq_max h4 h5 4 i j hi hj
    omega
end Go.Proofs.YtplgmmjppmpnoaaGreatDoor
/- Zones: how low the numbers of a phase become. -/
namespace Go.Proofs.YtplgmmjppmpnoaaGreatDoor
set_option linter.unusedVariables false
set_option linter.unusedSimpArgs false

def lowF (k : Nat) (L : Int) (i j : Nat) : Int := if i = k ∧ j = k then 2 * L else if i = k ∨ j = k then 3 * L else 6 * L
theorem lowF_le (k : Nat) {L : Int} (hL : 0 ≤ L) (i j : Nat) : L ≤ lowF k L i j ∧ lowF k L i j ≤ 6 * L := by
  unfold lowF
  split
  · omega
  · split <;> omega
theorem thr_low {n k : Nat} (hk : k ≤ n) {d : List Int} (hl : d.length = (n + 1) * (n + 1)) {L : Int} (hL : 0 ≤ L) (h : ∀ i j, i ≤ n → j ≤ n → -L ≤ mat n d i j) : ∀ t, t ≤ (n + 1) * (n + 1) → ∀ i j, i ≤ n → j ≤ n →
    -(lowF k L i j) ≤ mat n (thr n k d t) i j ∧ (t ≤ i * (n + 1) + j → mat n (thr n k d t) i j = mat n d i j) := by
  intro t
  induction t with
  | zero =>
    intro _ i j hi hj
    have := h i j hi hj
    have := lowF_le k hL i j
    simp only [thr]
    exact ⟨by omega, fun _ => trivial⟩
  | succ t ih =>
    intro ht i j hi hj
    have h1 := ih (by omega)
    obtain ⟨q1, q2, q3⟩ := place_of (n := n) (t := t) (by omega)
    simp only [thr]
    rw [mat_set (by rw [thr_len]; exact hl) (by omega) _ hi hj]
    by_cases q : i = t / (n + 1) ∧ j = t % (n + 1)
    · rw [if_pos q]
      obtain ⟨rfl, rfl⟩ := q
      generalize hi' : t / (n + 1) = i at *
      generalize hj' : t % (n + 1) = j at *
      refine ⟨?_, by intro; omega⟩
      have e : (thr n k d t).getD t 0 = mat n (thr n k d t) i j := by unfold mat; rw [q3]
      rw [e, (h1 i j hi hj).2 (by omega)]
      have a1 := h i j hi hj
      have a2 := h1 i k hi hk
      have a3 := h1 k j hk hj
      have a4 := h i k hi hk
      have a5 := h k j hk hj
      by_cases hik : i = k
      · subst hik
        by_cases hjk : j = i
        · subst hjk
          rw [(h1 j j hi hj).2 (by omega)]
          unfold lowF
          rw [if_pos ⟨rfl, rfl⟩]
          omega
        · rw [(h1 i j hi hj).2 (by omega)]
          have a6 := a2.1
          unfold lowF at a6 ⊢
          rw [if_pos ⟨rfl, rfl⟩] at a6
          rw [if_neg (by rintro ⟨-, e⟩; exact hjk e), if_pos (.inl rfl)]
          omega
      · by_cases hjk : j = k
        · subst hjk
          rw [(h1 i j hi hj).2 (by omega)]
          have a6 := a3.1
          unfold lowF at a6 ⊢
          rw [if_pos ⟨rfl, rfl⟩] at a6
          rw [if_neg (by rintro ⟨e, -⟩; exact hik e), if_pos (.inr rfl)]
          omega
        · have a6 := a3.1
          have a7 := a2.1
          unfold lowF at a6 a7 ⊢
          rw [if_neg (by rintro ⟨-, e⟩; exact hjk e), if_pos (.inl rfl)] at a6
          rw [if_neg (by rintro ⟨e, -⟩; exact hik e), if_pos (.inr rfl)] at a7
          rw [if_neg (by rintro ⟨e, -⟩; exact hik e), if_neg (by rintro (e | e); exact hik e; exact hjk e)]
          omega
    · rw [if_neg q]
      refine ⟨(h1 i j hi hj).1, fun hle => (h1 i j hi hj).2 (by omega)⟩
/-- What the phases up to k have made of a matrix. -/
structure FwI (n : Nat) (M : List Int) (k : Nat) (d : List Int) : Prop where
  len : d.length = (n + 1) * (n + 1)
  run : fwRun n (n + 1 - k) k d = closedL n M
  diag : ∀ i, i ≤ n → mat n d i i ≤ 0
  zero : k = 0 ∨ ∀ i, i ≤ n → mat n d i i = 0
  low : ∀ i j, i ≤ n → j ≤ n → -(if k = 0 then 2199023255553 else 13194139533318 * 2 ^ k) ≤ mat n d i j
  high : ∀ i j, i ≤ n → j ≤ n → mat n d i j ≤ 2199023255552
theorem widestF_le (i j : Nat) : 0 ≤ widestF i j ∧ widestF i j ≤ 2199023255552 := by
  unfold widestF
  split
  · omega
  · split <;> omega
theorem clipF_in (n : Nat) (M : List Int) (i j : Nat) : -2199023255553 ≤ clipF n M i j ∧ clipF n M i j ≤ 2199023255552 := by
  have := widestF_le i j
  unfold clipF
  omega
theorem FwI.start (n : Nat) (M : List Int) : FwI n M 0 (clipL n M) := by
  refine ⟨clip_len _ _, rfl, fun i hi => clip_diag hi, .inl rfl, fun i j hi hj => ?_, fun i j hi hj => ?_⟩
  · unfold clipL
    rw [mat_matL _ hi hj, if_pos rfl]
    have := clipF_in n M i j
    omega
  · unfold clipL
    rw [mat_matL _ hi hj]
    exact (clipF_in n M i j).2
theorem FwI.bounds {n k : Nat} {M d : List Int} (h : FwI n M k d) (hn : n ≤ 8) (hk : k ≤ n) : ∀ t, t ≤ (n + 1) * (n + 1) → ∀ p, -2305843009213693952 ≤ (thr n k d t).getD p 0 ∧ (thr n k d t).getD p 0 ≤ 2305843009213693951 := by
  intro t ht p
  by_cases hp : p < (n + 1) * (n + 1)
  · obtain ⟨q1, q2, q3⟩ := place_of hp
    have e : (thr n k d t).getD p 0 = mat n (thr n k d t) (p / (n + 1)) (p % (n + 1)) := by unfold mat; rw [q3]
    rw [e]
    have hp2 : (2 : Int) ^ k ≤ 256 := by
      have : ∀ k : Nat, k ≤ 8 → (2 : Int) ^ k ≤ 256 := by decide
      exact this k (by omega)
    have hp3 : (0 : Int) ≤ 2 ^ k := Int.le_of_lt (Int.pow_pos (by decide))
    have hL : (0 : Int) ≤ (if k = 0 then 2199023255553 else 13194139533318 * 2 ^ k) := by split <;> omega
    have h1 := (thr_low hk h.len hL h.low t ht _ _ q1 q2).1
    have h2 := (lowF_le k hL (p / (n + 1)) (p % (n + 1))).2
    have h3 := thr_leq h.len t ht _ _ q1 q2 (k := k)
    have h4 := h.high _ _ q1 q2
    refine ⟨?_, by omega⟩
    split at h1 <;> rename_i hk0
    · rw [if_pos hk0] at h2; omega
    · rw [if_neg hk0] at h2; omega
  · have e : (thr n k d t).getD p 0 = 0 := by
      simp only [List.getD]
      rw [List.getElem?_eq_none (by rw [thr_len, h.len]; omega)]
      rfl
    rw [e]; omega
theorem FwI.out {n k : Nat} {M d : List Int} (h : FwI n M k d) (hk : k ≤ n) (hb : belowL n (thrAll n k d) = true) : closedL n M = [] := by
  rw [← h.run, show n + 1 - k = (n - k) + 1 by omega]
  simp only [fwRun]
  rw [if_pos hb]
theorem FwI.next {n k : Nat} {M d : List Int} (h : FwI n M k d) (hk : k ≤ n) (hb : belowL n (thrAll n k d) = false) : FwI n M (k + 1) (thrAll n k d) := by
  have hle : Leq n (mat n (thrAll n k d)) (mat n d) := thr_leq h.len _ (Nat.le_refl _)
  have hz : ∀ i, i ≤ n → mat n (thrAll n k d) i i = 0 := fun i hi => by
    have a := belowL_not hb hi
    have b := hle i i hi hi
    have c := h.diag i hi
    omega
  refine ⟨by unfold thrAll; rw [thr_len]; exact h.len, ?_, fun i hi => by rw [hz i hi]; omega, .inr hz, ?_, fun i j hi hj => Int.le_trans (hle i j hi hj) (h.high i j hi hj)⟩
  · rw [← h.run, show n + 1 - k = (n + 1 - (k + 1)) + 1 by omega]
    conv => rhs; simp only [fwRun]
    rw [if_neg (by rw [hb]; decide)]
  · intro i j hi hj
    rw [if_neg (by omega)]
    by_cases hk0 : k = 0
    · subst hk0
      have hL : (0 : Int) ≤ 2199023255553 := by decide
      have h1 := (thr_low hk h.len hL (fun i j hi hj => by have := h.low i j hi hj; rw [if_pos rfl] at this; exact this) _ (Nat.le_refl _) i j hi hj).1
      have h2 := (lowF_le 0 hL i j).2
      unfold thrAll
      simp only [Nat.zero_add, Int.pow_one] at *
      omega
    · rcases h.zero with h0 | h0
      · exact absurd h0 hk0
      rw [thrAll_at hk h.len (h0 k hk) hi hj]
      have a1 := h.low i j hi hj
      have a2 := h.low i k hi hk
      have a3 := h.low k j hk hj
      rw [if_neg hk0] at a1 a2 a3
      have hp3 : (0 : Int) ≤ 2 ^ k := Int.le_of_lt (Int.pow_pos (by decide))
      rw [Int.pow_succ]
      omega
theorem FwI.end_ {n : Nat} {M d : List Int} (h : FwI n M (n + 1) d) : d = closedL n M := by
  rw [← h.run, Nat.sub_self]; rfl

/- The document's way: how low it becomes. -/
theorem sq_in {n : Nat} {m : List Int} (hlo : ∀ i j, i ≤ n → j ≤ n → -2199023255553 ≤ mat n m i j) (hhi : ∀ i j, i ≤ n → j ≤ n → mat n m i j ≤ 2199023255552) : ∀ t i j, i ≤ n → j ≤ n → -(2199023255553 * 2 ^ t) ≤ mat n (sq n m t) i j ∧ mat n (sq n m t) i j ≤ 2199023255552 := by
  intro t
  induction t with
  | zero => intro i j hi hj; have := hlo i j hi hj; have := hhi i j hi hj; simp only [sq, Int.pow_zero]; omega
  | succ t ih =>
    intro i j hi hj
    rw [sq_at t hi hj]
    have h0 := sqF_le n (mat n (sq n m t)) i j
    have h1 := ih i j hi hj
    have hp3 : (0 : Int) ≤ 2 ^ t := Int.le_of_lt (Int.pow_pos (by decide))
    refine ⟨?_, by omega⟩
    rw [Int.pow_succ]
    rcases sqF_is n (mat n (sq n m t)) i j with q | ⟨k, hk, q⟩
    · omega
    · have a1 := ih i k hi hk
      have a2 := ih k j hk hj
      omega
theorem sq_bound {n : Nat} {M : List Int} {t : Nat} (ht : t ≤ 4) (p : Nat) : -100000000000000 ≤ (sq n (clipL n M) t).getD p 0 ∧ (sq n (clipL n M) t).getD p 0 ≤ 100000000000000 := by
  have hlo : ∀ i j, i ≤ n → j ≤ n → -2199023255553 ≤ mat n (clipL n M) i j := fun i j hi hj => by unfold clipL; rw [mat_matL _ hi hj]; exact (clipF_in n M i j).1
  have hhi : ∀ i j, i ≤ n → j ≤ n → mat n (clipL n M) i j ≤ 2199023255552 := fun i j hi hj => by unfold clipL; rw [mat_matL _ hi hj]; exact (clipF_in n M i j).2
  by_cases hp : p < (n + 1) * (n + 1)
  · obtain ⟨q1, q2, q3⟩ := place_of hp
    have e : (sq n (clipL n M) t).getD p 0 = mat n (sq n (clipL n M) t) (p / (n + 1)) (p % (n + 1)) := by unfold mat; rw [q3]
    rw [e]
    have h1 := sq_in hlo hhi t _ _ q1 q2
    have hp2 : (2 : Int) ^ t ≤ 16 := by
      have : ∀ k : Nat, k ≤ 4 → (2 : Int) ^ k ≤ 16 := by decide
      exact this t ht
    omega
  · have e : (sq n (clipL n M) t).getD p 0 = 0 := by
      simp only [List.getD]
      rw [List.getElem?_eq_none (by rw [sq_len (clip_len _ _)]; omega)]
      rfl
    rw [e]; omega
end Go.Proofs.YtplgmmjppmpnoaaGreatDoor
/- Zones: the small functions. -/
namespace Go.Proofs.YtplgmmjppmpnoaaGreatDoor
open Go.RowKit
set_option linter.unusedVariables false
set_option linter.unusedSimpArgs false

/-- What only reads. -/
def Tells (v : Value) (w : World) (e : Ending) (w' : World) : Prop := e = .returned v ∧ w = w'
def mayB (n : Int) : Bool := decide (0 ≤ n) && decide (n ≤ 8)
theorem may_any (n : Int) (w : World) : Calls Tryz.prog 61 #[.int .i64 n] w (Tells (.bool (mayB n)) w) := by
  unfold mayB
  by_cases h0 : 0 ≤ n
  · have d0 : decide (0 ≤ n) = true := decide_eq_true h0
    rw [d0, Bool.true_and]
    go_enter Tryz.func61, Tryz.ntmps61
    go_wp2
    go_ret
    exact ⟨rfl, rfl⟩
  · have d0 : decide (0 ≤ n) = false := decide_eq_false h0
    rw [d0, Bool.false_and]
    go_enter Tryz.func61, Tryz.ntmps61
    go_wp2
    go_ret
    exact ⟨rfl, rfl⟩
theorem vars_any (n : Int) (w : World) : Calls Tryz.prog 41 #[.int .i64 n] w (Tells (.bool (mayB n)) w) := by
  unfold mayB
  by_cases h0 : 0 ≤ n
  · have d0 : decide (0 ≤ n) = true := decide_eq_true h0
    rw [d0, Bool.true_and]
    go_enter Tryz.func41, Tryz.ntmps41
    go_wp2
    go_ret
    exact ⟨rfl, rfl⟩
  · have d0 : decide (0 ≤ n) = false := decide_eq_false h0
    rw [d0, Bool.false_and]
    go_enter Tryz.func41, Tryz.ntmps41
    go_wp2
    go_ret
    exact ⟨rfl, rfl⟩
/-- As many numbers as a matrix of n variables has. -/
def sz (n : Nat) : Nat := (n + 1) * (n + 1)
theorem sz_le {n : Nat} (hn : n ≤ 8) : sz n ≤ 81 := by
  unfold sz
  exact Nat.le_trans (Nat.mul_le_mul (show n + 1 ≤ 9 by omega) (show n + 1 ≤ 9 by omega)) (by decide)
theorem sz_int (n : Nat) : ((n : Int) + 1) * ((n : Int) + 1) = (sz n : Nat) := by unfold sz; rw [Int.natCast_mul]; rfl
theorem size_any (n : Nat) (hn : n ≤ 8) (w : World) : Calls Tryz.prog 45 #[.int .i64 n] w (Tells (.int .i64 (sz n)) w) := by
  have h1 := sz_int n
  have h2 := sz_le hn
  generalize sz n = s at *
  have hni : (n : Int) ≤ 8 := by omega
  have hsi : (s : Int) ≤ 81 := by omega
  go_enter Tryz.func45, Tryz.ntmps45
  go_wp2
  go_ret
  exact ⟨rfl, rfl⟩
theorem widest_any (i j : Nat) (hi : i ≤ 100) (hj : j ≤ 100) (w : World) : Calls Tryz.prog 73 #[.int .i64 i, .int .i64 j] w (Tells (.int .i64 (widestF i j)) w) := by
  unfold widestF
  by_cases h : i = j
  · subst h
    rw [if_pos rfl]
    go_enter Tryz.func73, Tryz.ntmps73
    go_wp2
    go_ret
    exact ⟨rfl, rfl⟩
  rw [if_neg h]
  have hn : ((i : Int) == (j : Int)) = false := by simp; omega
  have hn2 : ¬ (i : Int) = (j : Int) := by omega
  by_cases h0 : i = 0
  · subst h0
    rw [if_pos (.inl rfl)]
    have hj1 : ¬ (0 : Int) = (j : Int) := by simpa using hn2
    go_enter Tryz.func73, Tryz.ntmps73
    go_wp2
    go_ret
    exact ⟨rfl, rfl⟩
  have hi1 : ((i : Int) == 0) = false := by simp; omega
  have hi2 : ¬ (i : Int) = 0 := by omega
  by_cases h1 : j = 0
  · subst h1
    rw [if_pos (.inr rfl)]
    go_enter Tryz.func73, Tryz.ntmps73
    go_wp2
    go_ret
    exact ⟨rfl, rfl⟩
  have hj1 : ((j : Int) == 0) = false := by simp; omega
  have hj2 : ¬ (j : Int) = 0 := by omega
  rw [if_neg (by omega)]
  go_enter Tryz.func73, Tryz.ntmps73
  go_wp2
  go_ret
  exact ⟨rfl, rfl⟩
theorem far_any (i j : Nat) (hi : i ≤ 100) (hj : j ≤ 100) (w : World) : Calls Tryz.prog 71 #[.int .i64 i, .int .i64 j] w (Tells (.int .i64 (widestF i j)) w) := by
  unfold widestF
  by_cases h : i = j
  · subst h
    rw [if_pos rfl]
    go_enter Tryz.func71, Tryz.ntmps71
    go_wp2
    go_ret
    exact ⟨rfl, rfl⟩
  rw [if_neg h]
  have hn : ((i : Int) == (j : Int)) = false := by simp; omega
  have hn2 : ¬ (i : Int) = (j : Int) := by omega
  by_cases h0 : i = 0
  · subst h0
    rw [if_pos (.inl rfl)]
    have hj1 : ¬ (0 : Int) = (j : Int) := by simpa using hn2
    go_enter Tryz.func71, Tryz.ntmps71
    go_wp2
    go_ret
    exact ⟨rfl, rfl⟩
  have hi1 : ((i : Int) == 0) = false := by simp; omega
  have hi2 : ¬ (i : Int) = 0 := by omega
  by_cases h1 : j = 0
  · subst h1
    rw [if_pos (.inr rfl)]
    go_enter Tryz.func71, Tryz.ntmps71
    go_wp2
    go_ret
    exact ⟨rfl, rfl⟩
  have hj1 : ((j : Int) == 0) = false := by simp; omega
  have hj2 : ¬ (j : Int) = 0 := by omega
  rw [if_neg (by omega)]
  go_enter Tryz.func71, Tryz.ntmps71
  go_wp2
  go_ret
  exact ⟨rfl, rfl⟩
theorem sum_any (a b : Int) (h1 : -4611686018427387904 ≤ a) (h2 : a ≤ 4611686018427387903) (h3 : -4611686018427387904 ≤ b) (h4 : b ≤ 4611686018427387903) (w : World) : Calls Tryz.prog 75 #[.int .i64 a, .int .i64 b] w (Tells (.int .i64 (a + b)) w) := by
  go_enter Tryz.func75, Tryz.ntmps75
  go_wp2
  go_ret
  exact ⟨rfl, rfl⟩
def farB (x : Int) : Bool := decide (1099511627776 < x) || decide (x < -1099511627776)
theorem farB_any (x : Int) (w : World) : Calls Tryz.prog 22 #[.int .i64 x] w (Tells (.bool (farB x)) w) := by
  unfold farB
  by_cases h0 : 1099511627776 < x
  · have d0 : decide (1099511627776 < x) = true := decide_eq_true h0
    rw [d0, Bool.true_or]
    go_enter Tryz.func22, Tryz.ntmps22
    go_wp2
    go_ret
    exact ⟨rfl, rfl⟩
  · have d0 : decide (1099511627776 < x) = false := decide_eq_false h0
    rw [d0, Bool.false_or]
    go_enter Tryz.func22, Tryz.ntmps22
    go_wp2
    go_ret
    exact ⟨rfl, rfl⟩
/-- The value of x_i. -/
def valF (v : List Int) (i : Nat) : Int := if i = 0 then 0 else v.getD (i - 1) 0
theorem sees_at' {B : Nat} {w : World} {a : Option Addr} {l : List Int} (h : Sees .i64 B w a l) {i : Nat} (hi : i < l.length) : ∃ b off, a = some ⟨b, off, none⟩ ∧ b < B ∧ w.cell? ⟨b, off + i, none⟩ = some (.int .i64 (l.getD i 0)) := by
  rcases h with h | ⟨b, off, ha, hB, hc⟩
  · rw [h] at hi; simp at hi
  · exact ⟨b, off, ha, hB, hc i hi⟩
theorem value_any (a : Option Addr) (v : List Int) (n c : Nat) (hn : n = v.length) (hl : n ≤ 1000) (i : Nat) (hi : i ≤ n) (B : Nat) (w : World) (h : Sees .i64 B w a v) : Calls Tryz.prog 27 #[.slice a n c, .int .i64 i] w (Tells (.int .i64 (valF v i)) w) := by
  unfold valF
  by_cases h0 : i = 0
  · subst h0
    rw [if_pos rfl]
    go_enter Tryz.func27, Tryz.ntmps27
    go_wp2
    go_ret
    exact ⟨rfl, rfl⟩
  · rw [if_neg h0]
    obtain ⟨k, rfl⟩ : ∃ k, i = k + 1 := ⟨i - 1, by omega⟩
    rw [Nat.add_sub_cancel]
    obtain ⟨b, off, rfl, -, hc⟩ := sees_at' h (i := k) (by omega)
    have hkn : k < n := by omega
    have hki : (k : Int) ≤ 1000 := by omega
    clear h hn
    generalize v.getD k 0 = x at *
    go_enter Tryz.func27, Tryz.ntmps27
    go_wp2
    go_ret
    exact ⟨rfl, rfl⟩
def inB (n : Nat) (i : Int) : Bool := decide (0 ≤ i) && decide (i ≤ (n : Int))
theorem in_any (g n : Nat) (i : Int) (w : World) (hg : w.cell? ⟨g, 0, none⟩ = some (.int .i64 n)) : Calls Tryz.prog 36 #[.int .i64 i, .pointer (some ⟨g, 0, none⟩)] w (Tells (.bool (inB n i)) w) := by
  unfold inB
  by_cases h0 : 0 ≤ i
  · have d0 : decide (0 ≤ i) = true := decide_eq_true h0
    rw [d0, Bool.true_and]
    go_enter Tryz.func36, Tryz.ntmps36
    go_wp2
    go_ret
    exact ⟨rfl, rfl⟩
  · have d0 : decide (0 ≤ i) = false := decide_eq_false h0
    rw [d0, Bool.false_and]
    go_enter Tryz.func36, Tryz.ntmps36
    go_wp2
    go_ret
    exact ⟨rfl, rfl⟩
theorem ite_min (x y : Int) : (if y < x then y else x) = min x y := by split <;> omega
theorem ite_max (x y : Int) : (if x < y then y else x) = max x y := by split <;> omega
theorem wrap_small {x : Int} (h0 : -9223372036854775808 ≤ x) (h1 : x ≤ 9223372036854775807) : IntKind.i64.wrap x = x := by rw [IntKind.wrap_i64]; omega
/-- A place of a matrix, as it is reckoned. -/
theorem place_wraps {n i j : Nat} (hn : n ≤ 8) (hi : i ≤ n) (hj : j ≤ n) : ∃ p q : Nat, IntKind.i64.wrap ((n : Int) + 1) = (n : Int) + 1 ∧ IntKind.i64.wrap ((i : Int) * ((n : Int) + 1)) = (p : Int) ∧ IntKind.i64.wrap ((p : Int) + (j : Int)) = (q : Int) ∧ q = i * (n + 1) + j ∧ q < sz n ∧ q ≤ 80 ∧ (i : Int) * ((n : Int) + 1) = (p : Int) ∧ (p : Int) + (j : Int) = (q : Int) := by
  have hlt := place_lt hi hj
  have h2 := sz_le hn
  unfold sz at *
  have hpi : (i : Int) * ((n : Int) + 1) = ((i * (n + 1) : Nat) : Int) := by rw [Int.natCast_mul]; rfl
  generalize i * (n + 1) = p at *
  refine ⟨p, p + j, wrap_small (by omega) (by omega), ?_, wrap_small (by omega) (by omega), rfl, hlt, by omega, hpi, rfl⟩
  rw [hpi]
  exact wrap_small (by omega) (by omega)
/-- A number of a matrix, clipped. -/
theorem clip_any (gm gn : Nat) (a : Option Addr) (M : List Int) (len c n : Nat) (hn : n ≤ 8) (hM : len = M.length) (hl : len = sz n) (i j : Nat) (hi : i ≤ n) (hj : j ≤ n) (B : Nat) (w : World) (h : Sees .i64 B w a M)
    (hgm : w.cell? ⟨gm, 0, none⟩ = some (.slice a len c)) (hgn : w.cell? ⟨gn, 0, none⟩ = some (.int .i64 n)) :
    Calls Tryz.prog 72 #[.int .i64 i, .int .i64 j, .pointer (some ⟨gm, 0, none⟩), .pointer (some ⟨gn, 0, none⟩)] w fun e w' => e = .returned (.int .i64 (clipF n M i j)) ∧ ∃ m, w' = w.drewN m := by
  have hw := Lib.hid (fun m => widest_any i j (by omega) (by omega) (w.drewN m))
  obtain ⟨p, q, w1, w2, w3, hq, hqs, -, -, -⟩ := place_wraps hn hi hj
  unfold clipF mat
  rw [← hq]
  have hqn : q < len := by omega
  obtain ⟨b, off, rfl, -, hc⟩ := sees_at' h (i := q) (by omega)
  have hin : (q : Int) < (len : Int) := by omega
  clear h hM hl hqs hq hi hj
  generalize M.getD q 0 = x at *
  generalize widestF i j = y at *
  go_enter Tryz.func72, Tryz.ntmps72
  go_wp2
  go_quiet ((go_at_call 73; exact quiet_mine (hw.out _)))
  simp only [ite_min, ite_max]
  go_wp2
  go_ret
  exact ⟨rfl, nq, rfl⟩
end Go.Proofs.YtplgmmjppmpnoaaGreatDoor
/- A text as its numbers. -/
namespace Go.Proofs.YtplgmmjppmpnoaaGreatDoor
open Go.RowKit
set_option linter.unusedVariables false
/-- The bytes of a text, as numbers. -/
def codes (s : ByteArray) : List Int := s.data.toList.map fun b => (b.toNat : Int)
theorem codes_length (s : ByteArray) : (codes s).length = s.size := by
  unfold codes; rw [List.length_map, Array.length_toList]; rfl
theorem codes_bs (s : ByteArray) : Bs (codes s) := by
  intro x hx
  obtain ⟨b, _, rfl⟩ := List.mem_map.1 hx
  have := b.toNat_lt
  omega
theorem codes_at (s : ByteArray) (k : Nat) (h : k < s.size) : (codes s).getD k 0 = ((s[k]'h).toNat : Int) := by
  have h2 : k < s.data.toList.length := by rw [Array.length_toList]; exact h
  simp only [codes, List.getD, List.getElem?_map, List.getElem?_eq_getElem h2, Option.map_some, Option.getD_some]
  rfl
theorem codes_str {l : List Int} (h : Bs l) : codes (strOfNums l) = l := by
  unfold codes
  rw [strOfNums_data, List.map_map]
  conv => rhs; rw [← List.map_id l]
  apply List.map_congr_left
  intro x hx
  have := h x hx
  simp only [Function.comp, UInt8.toNat_ofNat', id]
  omega
theorem str_codes (s : ByteArray) : strOfNums (codes s) = s := by
  apply ByteArray.ext
  apply Array.toList_inj.1
  rw [strOfNums_data]
  unfold codes
  rw [List.map_map]
  conv => rhs; rw [← List.map_id s.data.toList]
  apply List.map_congr_left
  intro b _
  simp
end Go.Proofs.YtplgmmjppmpnoaaGreatDoor
/- An append to a row that is owned, with what it changes: its own block alone; a text's bytes. -/
namespace Go.Proofs.YtplgmmjppmpnoaaGreatDoor
open Go.RowKit
set_option linter.unusedVariables false

/-- Below block B all but what was written by an append. -/
theorem BelowE.grown {X : List Nat} {B : Nat} {a w w' : World} {row : Option Nat} (h : BelowE X B a w) (hg : w.grownBy w' row) (hB : B ≤ w.heap.size) (hr : ∀ k, row = some k → k < B → k ∈ X) : BelowE X B a w' :=
  h.trans ⟨hg.os, hg.tape, hg.output, hg.size, fun k hk hx => hg.block k (by omega) (fun e => hx (hr k e.symm hk))⟩

theorem run_append_foot {P : Program} (w : World) (t ty e : TypeId) (i : TypeInfo) (z : Value) (bytes : Nat) (ht : P.underlying t = some (.slice e)) (hi : P.info? e = some i) (hz : i.zero = some z)
    (hsize : i.size = 1) (hby : i.bytes = bytes) (hzs : z.cells.size = 1) (k : IntKind)
    (v : Value) (l : List Int) (hown : w.ownsRow 0 e 1 v l.length (nums k l))
    (B : Nat) (A : Option Addr) (r : List Int) (hs : Sees k B w A r) (m c : Nat) (hm : m = r.length)
    (hn : l.length + r.length ≤ maxLen) (hby2 : (l.length + r.length) * bytes ≤ 140737488355328) :
    ∃ v' w', (Builtin.append_ #[t, t] ty #[v, .slice A m c]).run P w = .ok v' w' ∧ w'.ownsRow 0 e 1 v' (l ++ r).length (nums k (l ++ r)) ∧ w.grownBy w' v.ownBlock ∧ (v'.ownBlock = v.ownBlock ∨ v'.ownBlock = some w.heap.size) := by
  subst hm
  have hlen : (nums k r).length = r.length * 1 := by simp [nums]
  have hall : ∀ u ∈ nums k r, u.oneCell' = true := by
    intro u hu
    obtain ⟨x, _, rfl⟩ := List.mem_map.1 hu
    rfl
  have e1 : nums k (l ++ r) = nums k l ++ nums k r := by simp [nums]
  have go : ∀ ad : Addr, A = some ad → (∀ j u, (nums k r)[j]? = some u → w.cell? (ad.add j) = some u) →
      ∃ v' w', (Builtin.append_ #[t, t] ty #[v, .slice A r.length c]).run P w = .ok v' w' ∧ w'.ownsRow 0 e 1 v' (l ++ r).length (nums k (l ++ r)) ∧ w.grownBy w' v.ownBlock ∧ (v'.ownBlock = v.ownBlock ∨ v'.ownBlock = some w.heap.size) := by
    intro ad hA hc
    subst hA
    obtain ⟨v', w', hrun, h2, h3, _, h5⟩ := run_append_own_at (P := P) w 0 t ty e i z 1 bytes ht hi hz hsize hby hzs (by omega) v l.length (nums k l) hown ad r.length c (nums k r) hlen hc hall hn hby2 (Nat.zero_le _)
    refine ⟨v', w', hrun, ?_, h3, h5⟩
    rw [List.length_append, e1]; exact h2
  rcases hs with rfl | ⟨b, off, rfl, _, hc⟩
  · cases A with
    | none => exact ⟨v, w, run_append_none w _ t ty e i 1 ht hi v _ _ hown c, by simpa using hown, World.grownBy.refl w _, .inl rfl⟩
    | some ad => exact go ad rfl (by simp [nums])
  · refine go _ rfl fun j u hj => ?_
    have hjr : j < r.length := by
      have := (List.getElem?_eq_some_iff.1 hj).1
      simpa [nums] using this
    have h2 : (⟨b, off, none⟩ : Addr).add j = ⟨b, off + j, none⟩ := by unfold Addr.add; split <;> simp_all
    rw [h2, hc j hjr]
    simp [nums, hjr] at hj
    simp [List.getD, hjr, hj]

/-- The same at one operation (in a region that draws its order: the goal is 'Oper.wp ..'). -/
theorem wp_append_foot {P : Program} (w : World) {o : Oper} {a : Act} {K : Act → World → Prop} {Q : Exit → Act → World → Prop}
    (s x : Operand) (t : TypeId) (hop : o.op = Op.call { callee := Callee.builtin Builtin.append, args := #[s, x], argTypes := #[t, t] })
    (e : TypeId) (i : TypeInfo) (z : Value) (bytes : Nat) (ht : P.underlying t = some (.slice e)) (hi : P.info? e = some i) (hz : i.zero = some z)
    (hsize : i.size = 1) (hby : i.bytes = bytes) (hzs : z.cells.size = 1) (k : IntKind)
    (v : Value) (l : List Int) (hown : w.ownsRow 0 e 1 v l.length (nums k l))
    (B : Nat) (A : Option Addr) (r : List Int) (hs : Sees k B w A r) (m c : Nat) (hm : m = r.length)
    (hsv : a.eval s = v) (hx : a.eval x = .slice A m c) (hn : l.length + r.length ≤ maxLen) (hby2 : (l.length + r.length) * bytes ≤ 140737488355328)
    (hK : ∀ v' w', w'.ownsRow 0 e 1 v' (l ++ r).length (nums k (l ++ r)) → w.grownBy w' v.ownBlock → (v'.ownBlock = v.ownBlock ∨ v'.ownBlock = some w.heap.size) → K (a.put o.dst v') w') :
    o.wp P a w K Q := by
  obtain ⟨v', w', hrun, h1, h2, h3⟩ := run_append_foot (P := P) w t o.type e i z bytes ht hi hz hsize hby hzs k v l hown B A r hs m c hm hn hby2
  unfold Oper.wp
  simp [execOp, hop, resolve, invoke, builtin, hsv, hx, hrun, Result.andThen]
  exact hK v' w' h1 h2 h3

theorem wpList_append_foot {P : Program} (w : World) {ops : Array Oper} {rest : List Oper} {o : Oper} {a : Act} {Q : Exit → Act → World → Prop}
    (hg : o.guard = none) (s x : Operand) (t : TypeId) (hop : o.op = Op.call { callee := Callee.builtin Builtin.append, args := #[s, x], argTypes := #[t, t] })
    (e : TypeId) (i : TypeInfo) (z : Value) (bytes : Nat) (ht : P.underlying t = some (.slice e)) (hi : P.info? e = some i) (hz : i.zero = some z)
    (hsize : i.size = 1) (hby : i.bytes = bytes) (hzs : z.cells.size = 1) (k : IntKind)
    (v : Value) (l : List Int) (hown : w.ownsRow 0 e 1 v l.length (nums k l))
    (B : Nat) (A : Option Addr) (r : List Int) (hs : Sees k B w A r) (m c : Nat) (hm : m = r.length)
    (hsv : a.eval s = v) (hx : a.eval x = .slice A m c) (hn : l.length + r.length ≤ maxLen) (hby2 : (l.length + r.length) * bytes ≤ 140737488355328)
    (hK : ∀ v' w', w'.ownsRow 0 e 1 v' (l ++ r).length (nums k (l ++ r)) → w.grownBy w' v.ownBlock → (v'.ownBlock = v.ownBlock ∨ v'.ownBlock = some w.heap.size) → wpList P ops Q rest (a.put o.dst v') w') :
    wpList P ops Q (o :: rest) a w := by
  obtain ⟨v', w', hrun, h1, h2, h3⟩ := run_append_foot (P := P) w t o.type e i z bytes ht hi hz hsize hby hzs k v l hown B A r hs m c hm hn hby2
  refine wpList_plain hg fun K hK' => ?_
  unfold Oper.wp
  simp [execOp, hop, resolve, invoke, builtin, hsv, hx, hrun, Result.andThen]
  exact hK' _ _ (hK v' w' h1 h2 h3)

theorem own_from {w : World} {base B : Nat} {e : TypeId} {size n : Nat} {v : Value} {xs : List Value} (h : w.ownsRow base e size v n xs) (hB : ∀ k, v.ownBlock = some k → B ≤ k) : w.ownsRow B e size v n xs := by
  refine ⟨h.1, ?_⟩
  rcases h.2 with h | ⟨g, cap, cur, hv, hg, r⟩
  · exact .inl h
  · exact .inr ⟨g, cap, cur, hv, hB g (by rw [hv]; rfl), r⟩
theorem own_zero {w : World} {base : Nat} {e : TypeId} {size n : Nat} {v : Value} {xs : List Value} (h : w.ownsRow base e size v n xs) : w.ownsRow 0 e size v n xs := own_from h fun _ _ => Nat.zero_le _
theorem own_belowE {w w' : World} {X : List Nat} {base : Nat} {e : TypeId} {size n : Nat} {v : Value} {xs : List Value} (h : w.ownsRow base e size v n xs) (hb : BelowE X w.heap.size w w') (hx : ∀ k, v.ownBlock = some k → k ∉ X) : w'.ownsRow base e size v n xs := by
  refine ⟨h.1, ?_⟩
  rcases h.2 with h | ⟨g, cap, cur, hv, hg, hh, r⟩
  · exact .inl h
  · exact .inr ⟨g, cap, cur, hv, hg, (hb.block g (Array.getElem?_eq_some_iff.1 hh).1 (hx g (by rw [hv]; rfl))).trans hh, r⟩
theorem own_below {w w' : World} {base : Nat} {e : TypeId} {size n : Nat} {v : Value} {xs : List Value} (h : w.ownsRow base e size v n xs) (hb : Below w.heap.size w w') : w'.ownsRow base e size v n xs :=
  own_belowE h (.of hb) (X := []) (by simp)

/-- A slice literal is a row of the call's own. -/
theorem own_lit (w : World) (e : TypeId) (k : IntKind) (l : List Int) (cs : Array Value) (h : cs = (nums k l).toArray) (hl : l.length ≤ maxLen) (n : Nat) (hn : n = l.length) :
    (w.alloc (.cells cs e)).ownsRow w.heap.size e 1 (.slice (some ⟨w.heap.size, 0, none⟩) n n) l.length (nums k l) := by
  subst hn h
  exact ⟨by simp [nums], .inr ⟨w.heap.size, l.length, _, rfl, Nat.le_refl _, heap_alloc_new w _, Nat.le_refl _, hl, by simp [nums], by rw [List.take_of_length_le (by simp [nums])]⟩⟩

/-- []byte(s): a new row, that reads as s's bytes. -/
theorem run_bytes_sees {P : Program} (w : World) (src dst e : TypeId) (s : ByteArray) (hs : P.underlying src = some .string) (hd : P.underlying dst = some (.slice e)) (he : P.underlying e = some (.int .u8)) :
    ∃ c w', (convert src dst (.string s)).run P w = .ok (.slice (some ⟨w.heap.size, 0, none⟩) s.size c) w' ∧ s.size ≤ c ∧ Sees .u8 w'.heap.size w' (some ⟨w.heap.size, 0, none⟩) (codes s) ∧ Below w.heap.size w w' ∧ w'.heap.size = w.heap.size + 1 := by
  refine ⟨_, _, Lib.run_convert_string_bytes w src dst e s hs hd he, grownCap_ge _ _ _ _, ?_, ?_, Lib.bytesWorld_size w e s⟩
  · refine .inr ⟨w.heap.size, 0, rfl, by rw [Lib.bytesWorld_size]; omega, fun j hj => ?_⟩
    rw [codes_length] at hj
    rw [Nat.zero_add, Lib.bytesWorld_cell w e s j hj, codes_at s j hj]
    simp [List.getD, hj]
    rfl
  · exact ⟨rfl, rfl, rfl, by rw [Lib.bytesWorld_size]; omega, fun k hk => Lib.bytesWorld_at_old w e s k hk⟩
end Go.Proofs.YtplgmmjppmpnoaaGreatDoor
/- Zones: each. (Written by gen-dbm-each.py.) -/
namespace Go.Proofs.YtplgmmjppmpnoaaGreatDoor
open Go.RowKit
set_option linter.unusedVariables false
set_option linter.unusedSimpArgs false

def ReadsV (v : Value) (w : World) (e : Ending) (w' : World) : Prop := e = .returned v ∧ ∃ m, w' = w.drewN m
theorem infoInt : (Tryz.prog.info? 3).map (fun i => (i.zero, i.size, i.bytes)) = some (some (.int .i64 0), 1, 8) := by kernel_rfl
theorem own_drewN {w : World} {base : Nat} {e : TypeId} {size n : Nat} {v : Value} {xs : List Value} (h : w.ownsRow base e size v n xs) (m : Nat) : (w.drewN m).ownsRow base e size v n xs := h
theorem matL_step {n : Nat} (F : Nat → Nat → Int) {i j : Nat} (hi : i ≤ n) (hj : j ≤ n) : (matL n F).take (i * (n + 1) + j) ++ [F i j] = (matL n F).take (i * (n + 1) + (j + 1)) := by
  have h := place_lt hi hj
  have hl : i * (n + 1) + j < (matL n F).length := by rw [matL_len]; exact h
  have e : (matL n F)[i * (n + 1) + j] = F i j := by simp [matL, place_div hj, place_mod hj]
  rw [← Nat.add_assoc, ← List.take_append_getElem hl, e]

set_option maxRecDepth 100000 in
set_option maxHeartbeats 1000000 in
theorem each_widest (n : Nat) (hn : n ≤ 8) (F : Nat → Nat → Int) (w : World) (hf : ∀ i j, i ≤ n → j ≤ n → ∀ W, Below w.heap.size w W → Calls Tryz.prog 73 #[.int .i64 (i : Nat), .int .i64 (j : Nat)] W (ReadsV (.int .i64 (F i j)) W)) :
    Calls Tryz.prog 25 #[.int .i64 n, .func (.func 73) #[] #[]] w (Made 3 .i64 w (matL n F)) := by
  obtain ⟨i0, hi, hz0, hz1, hz2⟩ := info_parts infoInt
  have hsize := Lib.hid (fun W => size_any n hn W)
  have hs81 := sz_le hn
  have hf' := Lib.hid hf
  have hlen : (matL n F).length = sz n := matL_len n F
  have hsn : sz n = (n + 1) * (n + 1) := rfl
  have hstep := Lib.hid (fun i j (h1 : i ≤ n) (h2 : j ≤ n) => matL_step F h1 h2)
  obtain ⟨w5, hmk, own5, gr5⟩ := run_make_own (P := Tryz.prog) w w.heap.size 22 3 i0 (.int .i64 0) 1 Tryz.underlying22 hi hz0 hz1 .i64 .i64 (sz n) (by rw [hz2]; omega) (by unfold maxLen; omega) (Nat.le_refl _)
  have b5 : Below w.heap.size w w5 := (Below.refl _ _).grown gr5 (Nat.le_refl _) (by intro k hk; simp at hk)
  have own5' := Lib.hid own5
  have b5' := Lib.hid b5
  have hlen' := Lib.hid hlen
  have hsn' := Lib.hid hsn
  have hni : (n : Int) ≤ 8 := by omega
  have hsi : ((sz n : Nat) : Int) ≤ 81 := by omega
  clear hf own5 b5 gr5 hlen hsn
  generalize matL n F = R at *
  generalize sz n = s at *
  go_enter Tryz.func25, Tryz.ntmps25
  go_wp2_with fail
  refine (hsize.out _).mono ?_
  rintro e w' ⟨rfl, rfl⟩
  clear hsize
  go_wp2
  go_loopw [5, 13] (fun v x wr => ∃ (i : Nat) (pre : List Int), i ≤ n + 1 ∧ x = .int .i64 i ∧ Hid (pre = R.take (i * (n + 1))) ∧ Hid (wr.ownsRow w.heap.size 3 1 v pre.length (nums .i64 pre)) ∧ Hid (Below w.heap.size w wr)) (fun _ x _ => n + 1 - (intOf x).toNat)
  case atStart => exact ⟨0, [], by omega, rfl, Lib.hid (by simp), own5', b5'⟩
  case round =>
    obtain ⟨i, pre, hin, rfl, hpre, hown, hb⟩ := hrel
    by_cases hlt : i < n + 1
    · have hii : (i : Int) < (n : Int) + 1 := by omega
      go_wp2
      go_loopw [5, 18] (fun v x wr => ∃ (j : Nat) (pre : List Int), j ≤ n + 1 ∧ x = .int .i64 j ∧ Hid (pre = R.take (i * (n + 1) + j)) ∧ Hid (wr.ownsRow w.heap.size 3 1 v pre.length (nums .i64 pre)) ∧ Hid (Below w.heap.size w wr)) (fun _ x _ => n + 1 - (intOf x).toNat)
      case atStart => exact ⟨0, pre, by omega, rfl, hpre, hown, hb⟩
      case round =>
        clear hpre hown hb
        obtain ⟨j, pre, hjn, rfl, hpre, hown, hb⟩ := hrel
        by_cases hjt : j < n + 1
        · have hji : (j : Int) < (n : Int) + 1 := by omega
          have hcall := Lib.hid (hf'.out i j (by omega) (by omega) _ hb.out)
          have hpl : pre.length ≤ 81 := by
            rw [hpre.out, List.length_take, hlen'.out]; omega
          have hnext : Hid (pre ++ [F i j] = R.take (i * (n + 1) + (j + 1))) := Lib.hid (by rw [hpre.out]; exact hstep.out i j (by omega) (by omega))
          clear hpre
          generalize F i j = y at *
          go_wp2_with fail
          refine hcall.out.mono ?_
          rintro e w6 ⟨rfl, m, rfl⟩
          clear hcall
          go_wp2_with (at_builtin; refine wpList_append1 _ rfl _ _ 22 rfl w 3 i0 (.int .i64 0) 8 Tryz.underlying22 hi hz0 hz1 hz2 rfl .i64 y _ _ (own_drewN hown.out m) (Below.drewN hb.out m) rfl rfl (by omega) (by omega) ?_; intro v' w' hown2 hb2; have hown2' := Lib.hid hown2; have hb2' := Lib.hid hb2; clear hown2 hb2)
          go_roundw
          case rel => exact ⟨j + 1, pre ++ [y], by omega, by go_num, hnext, hown2', hb2'⟩
          case measure => simp [intOf]; omega
        · have hje : j = n + 1 := by omega
          have hnext : Hid (pre = R.take ((i + 1) * (n + 1))) := Lib.hid (by rw [hpre.out, hje, Nat.add_mul, Nat.one_mul])
          clear hpre
          go_wp2
          go_roundw
          case rel => exact ⟨i + 1, pre, by omega, by go_num, hnext, hown, hb⟩
          case measure => simp [intOf]; omega
    · have hie : i = n + 1 := by omega
      have hfin : Hid (pre = R) := Lib.hid (by rw [hpre.out, hie, ← hsn'.out, ← hlen'.out, List.take_length])
      clear hpre
      go_wp2
      go_ret
      rw [← hfin.out]
      exact ⟨_, rfl, hown.out, hb.out⟩

set_option maxRecDepth 100000 in
set_option maxHeartbeats 1000000 in
theorem each_clip (n : Nat) (hn : n ≤ 8) (gm gn : Nat) (F : Nat → Nat → Int) (w : World) (hf : ∀ i j, i ≤ n → j ≤ n → ∀ W, Below w.heap.size w W → Calls Tryz.prog 72 #[.int .i64 (i : Nat), .int .i64 (j : Nat), .pointer (some ⟨gm, 0, none⟩), .pointer (some ⟨gn, 0, none⟩)] W (ReadsV (.int .i64 (F i j)) W)) :
    Calls Tryz.prog 25 #[.int .i64 n, .func (.func 72) #[] #[.pointer (some ⟨gm, 0, none⟩), .pointer (some ⟨gn, 0, none⟩)]] w (Made 3 .i64 w (matL n F)) := by
  obtain ⟨i0, hi, hz0, hz1, hz2⟩ := info_parts infoInt
  have hsize := Lib.hid (fun W => size_any n hn W)
  have hs81 := sz_le hn
  have hf' := Lib.hid hf
  have hlen : (matL n F).length = sz n := matL_len n F
  have hsn : sz n = (n + 1) * (n + 1) := rfl
  have hstep := Lib.hid (fun i j (h1 : i ≤ n) (h2 : j ≤ n) => matL_step F h1 h2)
  obtain ⟨w5, hmk, own5, gr5⟩ := run_make_own (P := Tryz.prog) w w.heap.size 22 3 i0 (.int .i64 0) 1 Tryz.underlying22 hi hz0 hz1 .i64 .i64 (sz n) (by rw [hz2]; omega) (by unfold maxLen; omega) (Nat.le_refl _)
  have b5 : Below w.heap.size w w5 := (Below.refl _ _).grown gr5 (Nat.le_refl _) (by intro k hk; simp at hk)
  have own5' := Lib.hid own5
  have b5' := Lib.hid b5
  have hlen' := Lib.hid hlen
  have hsn' := Lib.hid hsn
  have hni : (n : Int) ≤ 8 := by omega
  have hsi : ((sz n : Nat) : Int) ≤ 81 := by omega
  clear hf own5 b5 gr5 hlen hsn
  generalize matL n F = R at *
  generalize sz n = s at *
  go_enter Tryz.func25, Tryz.ntmps25
  go_wp2_with fail
  refine (hsize.out _).mono ?_
  rintro e w' ⟨rfl, rfl⟩
  clear hsize
  go_wp2
  go_loopw [5, 13] (fun v x wr => ∃ (i : Nat) (pre : List Int), i ≤ n + 1 ∧ x = .int .i64 i ∧ Hid (pre = R.take (i * (n + 1))) ∧ Hid (wr.ownsRow w.heap.size 3 1 v pre.length (nums .i64 pre)) ∧ Hid (Below w.heap.size w wr)) (fun _ x _ => n + 1 - (intOf x).toNat)
  case atStart => exact ⟨0, [], by omega, rfl, Lib.hid (by simp), own5', b5'⟩
  case round =>
    obtain ⟨i, pre, hin, rfl, hpre, hown, hb⟩ := hrel
    by_cases hlt : i < n + 1
    · have hii : (i : Int) < (n : Int) + 1 := by omega
      go_wp2
      go_loopw [5, 18] (fun v x wr => ∃ (j : Nat) (pre : List Int), j ≤ n + 1 ∧ x = .int .i64 j ∧ Hid (pre = R.take (i * (n + 1) + j)) ∧ Hid (wr.ownsRow w.heap.size 3 1 v pre.length (nums .i64 pre)) ∧ Hid (Below w.heap.size w wr)) (fun _ x _ => n + 1 - (intOf x).toNat)
      case atStart => exact ⟨0, pre, by omega, rfl, hpre, hown, hb⟩
      case round =>
        clear hpre hown hb
        obtain ⟨j, pre, hjn, rfl, hpre, hown, hb⟩ := hrel
        by_cases hjt : j < n + 1
        · have hji : (j : Int) < (n : Int) + 1 := by omega
          have hcall := Lib.hid (hf'.out i j (by omega) (by omega) _ hb.out)
          have hpl : pre.length ≤ 81 := by
            rw [hpre.out, List.length_take, hlen'.out]; omega
          have hnext : Hid (pre ++ [F i j] = R.take (i * (n + 1) + (j + 1))) := Lib.hid (by rw [hpre.out]; exact hstep.out i j (by omega) (by omega))
          clear hpre
          generalize F i j = y at *
          go_wp2_with fail
          refine hcall.out.mono ?_
          rintro e w6 ⟨rfl, m, rfl⟩
          clear hcall
          go_wp2_with (at_builtin; refine wpList_append1 _ rfl _ _ 22 rfl w 3 i0 (.int .i64 0) 8 Tryz.underlying22 hi hz0 hz1 hz2 rfl .i64 y _ _ (own_drewN hown.out m) (Below.drewN hb.out m) rfl rfl (by omega) (by omega) ?_; intro v' w' hown2 hb2; have hown2' := Lib.hid hown2; have hb2' := Lib.hid hb2; clear hown2 hb2)
          go_roundw
          case rel => exact ⟨j + 1, pre ++ [y], by omega, by go_num, hnext, hown2', hb2'⟩
          case measure => simp [intOf]; omega
        · have hje : j = n + 1 := by omega
          have hnext : Hid (pre = R.take ((i + 1) * (n + 1))) := Lib.hid (by rw [hpre.out, hje, Nat.add_mul, Nat.one_mul])
          clear hpre
          go_wp2
          go_roundw
          case rel => exact ⟨i + 1, pre, by omega, by go_num, hnext, hown, hb⟩
          case measure => simp [intOf]; omega
    · have hie : i = n + 1 := by omega
      have hfin : Hid (pre = R) := Lib.hid (by rw [hpre.out, hie, ← hsn'.out, ← hlen'.out, List.take_length])
      clear hpre
      go_wp2
      go_ret
      rw [← hfin.out]
      exact ⟨_, rfl, hown.out, hb.out⟩

set_option maxRecDepth 100000 in
set_option maxHeartbeats 1000000 in
theorem each_diff (n : Nat) (hn : n ≤ 8) (gv : Nat) (F : Nat → Nat → Int) (w : World) (hf : ∀ i j, i ≤ n → j ≤ n → ∀ W, Below w.heap.size w W → Calls Tryz.prog 26 #[.int .i64 (i : Nat), .int .i64 (j : Nat), .pointer (some ⟨gv, 0, none⟩)] W (ReadsV (.int .i64 (F i j)) W)) :
    Calls Tryz.prog 25 #[.int .i64 n, .func (.func 26) #[] #[.pointer (some ⟨gv, 0, none⟩)]] w (Made 3 .i64 w (matL n F)) := by
  obtain ⟨i0, hi, hz0, hz1, hz2⟩ := info_parts infoInt
  have hsize := Lib.hid (fun W => size_any n hn W)
  have hs81 := sz_le hn
  have hf' := Lib.hid hf
  have hlen : (matL n F).length = sz n := matL_len n F
  have hsn : sz n = (n + 1) * (n + 1) := rfl
  have hstep := Lib.hid (fun i j (h1 : i ≤ n) (h2 : j ≤ n) => matL_step F h1 h2)
  obtain ⟨w5, hmk, own5, gr5⟩ := run_make_own (P := Tryz.prog) w w.heap.size 22 3 i0 (.int .i64 0) 1 Tryz.underlying22 hi hz0 hz1 .i64 .i64 (sz n) (by rw [hz2]; omega) (by unfold maxLen; omega) (Nat.le_refl _)
  have b5 : Below w.heap.size w w5 := (Below.refl _ _).grown gr5 (Nat.le_refl _) (by intro k hk; simp at hk)
  have own5' := Lib.hid own5
  have b5' := Lib.hid b5
  have hlen' := Lib.hid hlen
  have hsn' := Lib.hid hsn
  have hni : (n : Int) ≤ 8 := by omega
  have hsi : ((sz n : Nat) : Int) ≤ 81 := by omega
  clear hf own5 b5 gr5 hlen hsn
  generalize matL n F = R at *
  generalize sz n = s at *
  go_enter Tryz.func25, Tryz.ntmps25
  go_wp2_with fail
  refine (hsize.out _).mono ?_
  rintro e w' ⟨rfl, rfl⟩
  clear hsize
  go_wp2
  go_loopw [5, 13] (fun v x wr => ∃ (i : Nat) (pre : List Int), i ≤ n + 1 ∧ x = .int .i64 i ∧ Hid (pre = R.take (i * (n + 1))) ∧ Hid (wr.ownsRow w.heap.size 3 1 v pre.length (nums .i64 pre)) ∧ Hid (Below w.heap.size w wr)) (fun _ x _ => n + 1 - (intOf x).toNat)
  case atStart => exact ⟨0, [], by omega, rfl, Lib.hid (by simp), own5', b5'⟩
  case round =>
    obtain ⟨i, pre, hin, rfl, hpre, hown, hb⟩ := hrel
    by_cases hlt : i < n + 1
    · have hii : (i : Int) < (n : Int) + 1 := by omega
      go_wp2
      go_loopw [5, 18] (fun v x wr => ∃ (j : Nat) (pre : List Int), j ≤ n + 1 ∧ x = .int .i64 j ∧ Hid (pre = R.take (i * (n + 1) + j)) ∧ Hid (wr.ownsRow w.heap.size 3 1 v pre.length (nums .i64 pre)) ∧ Hid (Below w.heap.size w wr)) (fun _ x _ => n + 1 - (intOf x).toNat)
      case atStart => exact ⟨0, pre, by omega, rfl, hpre, hown, hb⟩
      case round =>
        clear hpre hown hb
        obtain ⟨j, pre, hjn, rfl, hpre, hown, hb⟩ := hrel
        by_cases hjt : j < n + 1
        · have hji : (j : Int) < (n : Int) + 1 := by omega
          have hcall := Lib.hid (hf'.out i j (by omega) (by omega) _ hb.out)
          have hpl : pre.length ≤ 81 := by
            rw [hpre.out, List.length_take, hlen'.out]; omega
          have hnext : Hid (pre ++ [F i j] = R.take (i * (n + 1) + (j + 1))) := Lib.hid (by rw [hpre.out]; exact hstep.out i j (by omega) (by omega))
          clear hpre
          generalize F i j = y at *
          go_wp2_with fail
          refine hcall.out.mono ?_
          rintro e w6 ⟨rfl, m, rfl⟩
          clear hcall
          go_wp2_with (at_builtin; refine wpList_append1 _ rfl _ _ 22 rfl w 3 i0 (.int .i64 0) 8 Tryz.underlying22 hi hz0 hz1 hz2 rfl .i64 y _ _ (own_drewN hown.out m) (Below.drewN hb.out m) rfl rfl (by omega) (by omega) ?_; intro v' w' hown2 hb2; have hown2' := Lib.hid hown2; have hb2' := Lib.hid hb2; clear hown2 hb2)
          go_roundw
          case rel => exact ⟨j + 1, pre ++ [y], by omega, by go_num, hnext, hown2', hb2'⟩
          case measure => simp [intOf]; omega
        · have hje : j = n + 1 := by omega
          have hnext : Hid (pre = R.take ((i + 1) * (n + 1))) := Lib.hid (by rw [hpre.out, hje, Nat.add_mul, Nat.one_mul])
          clear hpre
          go_wp2
          go_roundw
          case rel => exact ⟨i + 1, pre, by omega, by go_num, hnext, hown, hb⟩
          case measure => simp [intOf]; omega
    · have hie : i = n + 1 := by omega
      have hfin : Hid (pre = R) := Lib.hid (by rw [hpre.out, hie, ← hsn'.out, ← hlen'.out, List.take_length])
      clear hpre
      go_wp2
      go_ret
      rw [← hfin.out]
      exact ⟨_, rfl, hown.out, hb.out⟩
end Go.Proofs.YtplgmmjppmpnoaaGreatDoor
