/-
  Words and walks under the law's proof.
-/
import Derived.WalkKit
import Derived.LoopTactic
import Derived.Outline
import Derived.Lib.Hide
import Derived.Laws.BytesArg
import Derived.Laws.AppendOwnNone
import Derived.Deep.Draws
import Derived.Deep.QuietTactic
import Derived.BigQuiet
import Derived.WalkSmall
import Derived.Maps.AppendAt
import Derived.Lib.ConvBytes
import Derived.Deep.RegionHeld3
import Derived.Deep.DrawnRows
import Derived.Test.YtimgocfkogebmaaGreatDoorRows
import Derived.IntWalk
namespace Go.Proofs.YtimgocfkogebmaaGreatDoor
open Go.RowKit
set_option linter.unusedVariables false
def nums (k : IntKind) (l : List Int) : List Value := l.map (Value.int k)
theorem nums_snoc (k : IntKind) (l : List Int) (x : Int) : nums k (l ++ [x]) = nums k l ++ [.int k x] := by simp [nums]
def Sees (k : IntKind) (B : Nat) (w : World) (a : Option Addr) (l : List Int) : Prop :=
  l = [] ∨ ∃ b off, a = some ⟨b, off, none⟩ ∧ b < B ∧ ∀ i, i < l.length → w.cell? ⟨b, off + i, none⟩ = some (.int k (l.getD i 0))
theorem Sees.below {k B w w' a l} (h : Sees k B w a l) (hb : Below B w w') : Sees k B w' a l := by
  rcases h with h | ⟨b, off, rfl, hB, hc⟩
  · exact .inl h
  · exact .inr ⟨b, off, rfl, hB, fun i hi => (hb.cell (p := ⟨b, off + i, none⟩) hB).trans (hc i hi)⟩
theorem Sees.mono {k B B' w a l} (h : Sees k B w a l) (hb : B ≤ B') : Sees k B' w a l := by
  rcases h with h | ⟨b, off, rfl, hB, hc⟩
  · exact .inl h
  · exact .inr ⟨b, off, rfl, by omega, hc⟩
theorem Sees.nil {k B w a} : Sees k B w a [] := .inl rfl
theorem sees_own {k : IntKind} {w : World} {base : Nat} {e : TypeId} {v : Value} {n : Nat} {l : List Int} (h : w.ownsRow base e 1 v n (nums k l)) :
    ∃ a cap, v = .slice a l.length cap ∧ n = l.length ∧ Sees k w.heap.size w a l := by
  have hn : n = l.length := by have := h.1; simp [nums] at this; omega
  rcases h.2 with ⟨rfl, h0⟩ | ⟨g, cap, cur, rfl, _, hg, _⟩
  · subst hn
    exact ⟨none, 0, by rw [h0], rfl, .inl (List.eq_nil_of_length_eq_zero h0)⟩
  · subst hn
    refine ⟨_, cap, rfl, rfl, .inr ⟨g, 0, rfl, (Array.getElem?_eq_some_iff.1 hg).1, fun i hi => ?_⟩⟩
    have := h.cells (g := g) rfl i (.int k (l.getD i 0)) (by simp [nums, List.getD, hi])
    have h2 : (⟨g, 0, none⟩ : Addr).add i = ⟨g, 0 + i, none⟩ := by unfold Addr.add; split <;> simp_all
    rw [h2] at this
    exact this
def Made (e0 : TypeId) (k : IntKind) (w : World) (l : List Int) (e : Ending) (w' : World) : Prop :=
  ∃ v, e = .returned v ∧ w'.ownsRow w.heap.size e0 1 v l.length (nums k l) ∧ Below w.heap.size w w'
def Gives (v : Value) (w : World) (e : Ending) (w' : World) : Prop := e = .returned v ∧ Below w.heap.size w w'
theorem wpList_append1 {P : Program} (w : World) {ops : Array Oper} {rest : List Oper} {o : Oper} {a : Act} {Q : Exit → Act → World → Prop}
    (hg : o.guard = none) (s x : Operand) (t : TypeId) (hop : o.op = Op.call { callee := Callee.builtin Builtin.append, args := #[s, x], argTypes := #[t, t] })
    (w0 : World) (e : TypeId) (i : TypeInfo) (z : Value) (bytes : Nat) (ht : P.underlying t = some (.slice e)) (hi : P.info? e = some i) (hz : i.zero = some z)
    (hsize : i.size = 1) (hby : i.bytes = bytes) (hzs : z.cells.size = 1) (k : IntKind) (y : Int)
    (v : Value) (l : List Int) (hown : w.ownsRow w0.heap.size e 1 v l.length (nums k l)) (hb : Below w0.heap.size w0 w)
    (hs : a.eval s = v) (hx : a.eval x = .slice (some ⟨w.heap.size, 0, none⟩) 1 1)
    (hn : l.length < 17592186044416) (h8 : bytes ≤ 8)
    (hK : ∀ v' w', w'.ownsRow w0.heap.size e 1 v' (l ++ [y]).length (nums k (l ++ [y])) → Below w0.heap.size w0 w' → wpList P ops Q rest (a.put o.dst v') w') :
    wpList P ops Q (o :: rest) a (w.alloc (.cells #[.int k y] e)) := by
  have hm : (l.length + 1) * bytes ≤ 140737488355328 := Nat.le_trans (Nat.mul_le_mul (by omega : l.length + 1 ≤ 17592186044416) h8) (by omega)
  refine wpList_append_own _ hg s x t hop w0.heap.size e i z 1 bytes ht hi hz hsize hby hzs (by omega) v l.length (nums k l) hs (hown.alloc _) ⟨w.heap.size, 0, none⟩ 1 1 [.int k y] hx rfl ?_ ?_ (by unfold maxLen; omega) hm ?_ ?_
  · intro j u hj
    match j, hj with
    | 0, hj => simp at hj; subst hj; simp [Addr.add]
  · intro u hu; simp at hu; subst hu; rfl
  · have := hb.size; simp; omega
  · intro v' w' hown' hgrow _
    refine hK v' w' (by rw [nums_snoc, List.length_append]; exact hown') ?_
    refine (hb.alloc hb.size _).grown hgrow (by have := hb.size; simp; omega) fun q hq => ?_
    exact (hown.lt q hq).1
def Bs (l : List Int) : Prop := ∀ x ∈ l, 0 ≤ x ∧ x ≤ 255
theorem Bs.at {l : List Int} (h : Bs l) {i : Nat} (hi : i < l.length) : 0 ≤ l.getD i 0 ∧ l.getD i 0 ≤ 255 := by
  simp only [List.getD, List.getElem?_eq_getElem hi, Option.getD_some]
  exact h _ (List.getElem_mem _)
theorem ret_bool {a b : Bool} (h : a = b) : Ending.returned (.bool a) = Ending.returned (.bool b) := by rw [h]
theorem ret_int {k : IntKind} {a b : Int} (h : a = b) : Ending.returned (.int k a) = Ending.returned (.int k b) := by rw [h]
theorem Made.open {e0 : TypeId} {k : IntKind} {w w' : World} {l : List Int} {e : Ending} (h : Made e0 k w l e w') (n : Nat) (hn : l.length = n) :
    ∃ a cap, e = .returned (.slice a n cap) ∧ Sees k w'.heap.size w' a l ∧ Below w.heap.size w w' := by
  subst hn
  obtain ⟨v, rfl, hown, hb⟩ := h
  obtain ⟨a, cap, rfl, _, hs⟩ := sees_own hown
  exact ⟨a, cap, rfl, hs, hb⟩
theorem Sees.take {k : IntKind} {B : Nat} {w : World} {a : Option Addr} {l : List Int} (h : Sees k B w a l) (n : Nat) : Sees k B w a (l.take n) := by
  rcases h with rfl | ⟨b, off, rfl, hB, hc⟩
  · left; simp
  · refine .inr ⟨b, off, rfl, hB, fun i hi => ?_⟩
    have h1 : i < l.length := by simp at hi; omega
    have h2 : i < n := by simp at hi; omega
    rw [hc i h1]
    simp [List.getD, h2]
theorem Bs.take {l : List Int} (h : Bs l) (n : Nat) : Bs (l.take n) := fun x hx => h x (List.mem_of_mem_take hx)
theorem own_cap {k : IntKind} {w : World} {base : Nat} {e : TypeId} {n : Nat} {l : List Int} {a : Option Addr} {m c : Nat} (h : w.ownsRow base e 1 (.slice a m c) n (nums k l)) : m ≤ c := by
  rcases h.2 with ⟨h1, _⟩ | ⟨g, cap, cur, h1, _, _, h2, _⟩
  · injection h1 with _ h2 h3; omega
  · injection h1 with _ h3 h4; omega
theorem Made.openc {e0 : TypeId} {k : IntKind} {w w' : World} {l : List Int} {e : Ending} (h : Made e0 k w l e w') (n : Nat) (hn : l.length = n) :
    ∃ a cap, e = .returned (.slice a n cap) ∧ Sees k w'.heap.size w' a l ∧ Below w.heap.size w w' ∧ n ≤ cap := by
  subst hn
  obtain ⟨v, rfl, hown, hb⟩ := h
  obtain ⟨a, cap, rfl, _, hs⟩ := sees_own hown
  exact ⟨a, cap, rfl, hs, hb, own_cap hown⟩
end Go.Proofs.YtimgocfkogebmaaGreatDoor
namespace Go.Proofs.YtimgocfkogebmaaGreatDoor
set_option linter.unusedVariables false
set_option linter.unusedSimpArgs false
def mat (n : Nat) (l : List Int) (i j : Nat) : Int := l.getD (i * (n + 1) + j) 0
def matL (n : Nat) (F : Nat → Nat → Int) : List Int := (List.range ((n + 1) * (n + 1))).map fun t => F (t / (n + 1)) (t % (n + 1))
theorem matL_len (n : Nat) (F : Nat → Nat → Int) : (matL n F).length = (n + 1) * (n + 1) := by simp [matL]
theorem place_lt {n i j : Nat} (hi : i ≤ n) (hj : j ≤ n) : i * (n + 1) + j < (n + 1) * (n + 1) := by
  have h1 : i * (n + 1) ≤ n * (n + 1) := Nat.mul_le_mul_right _ hi
  have h2 : (n + 1) * (n + 1) = n * (n + 1) + (n + 1) := by rw [Nat.add_mul, Nat.one_mul]
  omega
theorem place_div {n i j : Nat} (hj : j ≤ n) : (i * (n + 1) + j) / (n + 1) = i := by
  rw [Nat.mul_comm, Nat.mul_add_div (by omega), Nat.div_eq_of_lt (by omega)]; omega
theorem place_mod {n i j : Nat} (hj : j ≤ n) : (i * (n + 1) + j) % (n + 1) = j := by
  rw [Nat.mul_comm, Nat.mul_add_mod, Nat.mod_eq_of_lt (by omega)]
theorem mat_matL {n : Nat} (F : Nat → Nat → Int) {i j : Nat} (hi : i ≤ n) (hj : j ≤ n) : mat n (matL n F) i j = F i j := by
  unfold mat matL
  have h := place_lt hi hj
  simp [List.getD, h, place_div hj, place_mod hj]
theorem place_of {n t : Nat} (h : t < (n + 1) * (n + 1)) : t / (n + 1) ≤ n ∧ t % (n + 1) ≤ n ∧ t / (n + 1) * (n + 1) + t % (n + 1) = t := by
  have h1 := Nat.div_lt_of_lt_mul h
  have h2 := Nat.mod_lt t (show 0 < n + 1 by omega)
  have h3 := Nat.div_add_mod t (n + 1)
  rw [Nat.mul_comm] at h3
  omega
theorem mat_ext {n : Nat} {l r : List Int} (hl : l.length = (n + 1) * (n + 1)) (hr : r.length = (n + 1) * (n + 1)) (h : ∀ i j, i ≤ n → j ≤ n → mat n l i j = mat n r i j) : l = r := by
  apply List.ext_getElem (by omega)
  intro t h1 h2
  obtain ⟨q1, q2, q3⟩ := place_of (n := n) (t := t) (by omega)
  have := h _ _ q1 q2
  unfold mat at this
  rw [q3] at this
  simpa [List.getD, h1, h2] using this
def widestF (i j : Nat) : Int := if i = j then 0 else if i = 0 ∨ j = 0 then 1099511627776 else 2199023255552
def clipF (n : Nat) (M : List Int) (i j : Nat) : Int := max (-2199023255553) (min (mat n M i j) (widestF i j))
def clipL (n : Nat) (M : List Int) : List Int := matL n (clipF n M)
structure Closed (n : Nat) (D : Nat → Nat → Int) : Prop where
  zero : ∀ i, i ≤ n → D i i = 0
  tri : ∀ i j k, i ≤ n → j ≤ n → k ≤ n → D i j ≤ D i k + D k j
def Leq (n : Nat) (D E : Nat → Nat → Int) : Prop := ∀ i j, i ≤ n → j ≤ n → D i j ≤ E i j
def thr (n k : Nat) (d : List Int) : Nat → List Int
  | 0 => d
  | t + 1 => (thr n k d t).set t (min ((thr n k d t).getD t 0) (mat n (thr n k d t) (t / (n + 1)) k + mat n (thr n k d t) k (t % (n + 1))))
def thrAll (n k : Nat) (d : List Int) : List Int := thr n k d ((n + 1) * (n + 1))
def belowL (n : Nat) (d : List Int) : Bool := (List.range (n + 1)).any fun i => decide (d.getD (i * (n + 2)) 0 < 0)
def fwRun (n : Nat) : Nat → Nat → List Int → List Int
  | 0, _, d => d
  | f + 1, k, d => if belowL n (thrAll n k d) = true then [] else fwRun n f (k + 1) (thrAll n k d)
def closedL (n : Nat) (M : List Int) : List Int := fwRun n (n + 1) 0 (clipL n M)
theorem thr_len (n k : Nat) (d : List Int) (t : Nat) : (thr n k d t).length = d.length := by
  induction t with
  | zero => rfl
  | succ t ih => simp [thr, ih]
theorem diag_at (n : Nat) (d : List Int) (i : Nat) : d.getD (i * (n + 2)) 0 = mat n d i i := by
  unfold mat
  rw [show i * (n + 2) = i * (n + 1) + i by rw [show n + 2 = (n + 1) + 1 by omega, Nat.mul_add]; omega]
theorem belowL_iff (n : Nat) (d : List Int) : belowL n d = true ↔ ∃ i, i ≤ n ∧ mat n d i i < 0 := by
  unfold belowL
  rw [List.any_eq_true]
  constructor
  · rintro ⟨i, hi, h⟩
    rw [List.mem_range] at hi
    rw [decide_eq_true_eq, diag_at] at h
    exact ⟨i, by omega, h⟩
  · rintro ⟨i, hi, h⟩
    exact ⟨i, List.mem_range.2 (by omega), by rw [decide_eq_true_eq, diag_at]; exact h⟩
theorem belowL_not {n : Nat} {d : List Int} (h : belowL n d = false) {i : Nat} (hi : i ≤ n) : 0 ≤ mat n d i i := by
  by_cases q : 0 ≤ mat n d i i
  · exact q
  · have := (belowL_iff n d).2 ⟨i, hi, by omega⟩
    rw [h] at this; simp at this
theorem getD_set (l : List Int) (t p : Nat) (x : Int) (ht : t < l.length) : (l.set t x).getD p 0 = if p = t then x else l.getD p 0 := by
  by_cases h : p = t
  · subst h; simp [List.getD, ht]
  · rw [if_neg h]; simp [List.getD, List.getElem?_set, show ¬ t = p from fun e => h e.symm]
theorem mat_set {n : Nat} {l : List Int} (hl : l.length = (n + 1) * (n + 1)) {t : Nat} (ht : t < (n + 1) * (n + 1)) (x : Int) {i j : Nat} (hi : i ≤ n) (hj : j ≤ n) : mat n (l.set t x) i j = if i = t / (n + 1) ∧ j = t % (n + 1) then x else mat n l i j := by
  unfold mat
  rw [getD_set _ _ _ _ (by omega)]
  by_cases h : i * (n + 1) + j = t
  · subst h
    rw [if_pos rfl, if_pos ⟨(place_div hj).symm, (place_mod hj).symm⟩]
  · rw [if_neg h, if_neg]
    rintro ⟨rfl, rfl⟩
    exact h (place_of ht).2.2
theorem thr_leq {n k : Nat} {d : List Int} (hl : d.length = (n + 1) * (n + 1)) : ∀ t, t ≤ (n + 1) * (n + 1) → Leq n (mat n (thr n k d t)) (mat n d) := by
  intro t
  induction t with
  | zero => intro _ i j _ _; exact Int.le_refl _
  | succ t ih =>
    intro ht i j hi hj
    have h := ih (by omega) i j hi hj
    simp only [thr]
    rw [mat_set (by rw [thr_len]; exact hl) (by omega) _ hi hj]
    split
    · rename_i q
      obtain ⟨rfl, rfl⟩ := q
      refine Int.le_trans (Int.min_le_left _ _) ?_
      have : (thr n k d t).getD t 0 = mat n (thr n k d t) (t / (n + 1)) (t % (n + 1)) := by unfold mat; rw [(place_of (n := n) (t := t) (by omega)).2.2]
      rw [this]; exact h
    · exact h
theorem thr_keeps {n k : Nat} (hk : k ≤ n) {d : List Int} (hl : d.length = (n + 1) * (n + 1)) {D : Nat → Nat → Int} (hD : Closed n D) (h : Leq n D (mat n d)) : ∀ t, t ≤ (n + 1) * (n + 1) → Leq n D (mat n (thr n k d t)) := by
  intro t
  induction t with
  | zero => intro _; exact h
  | succ t ih =>
    intro ht i j hi hj
    have h1 := ih (by omega)
    simp only [thr]
    rw [mat_set (by rw [thr_len]; exact hl) (by omega) _ hi hj]
    split
    · rename_i q
      obtain ⟨rfl, rfl⟩ := q
      have : (thr n k d t).getD t 0 = mat n (thr n k d t) (t / (n + 1)) (t % (n + 1)) := by unfold mat; rw [(place_of (n := n) (t := t) (by omega)).2.2]
      rw [this]
      have a1 := h1 _ _ hi hj
      have a2 := h1 _ _ hi hk
      have a3 := h1 _ _ hk hj
      have a4 := hD.tri _ _ k hi hj hk
      omega
    · exact h1 i j hi hj
theorem thr_at {n k : Nat} (hk : k ≤ n) {d : List Int} (hl : d.length = (n + 1) * (n + 1)) (h0 : mat n d k k = 0) : ∀ t, t ≤ (n + 1) * (n + 1) → ∀ i j, i ≤ n → j ≤ n →
    mat n (thr n k d t) i j = if i * (n + 1) + j < t then min (mat n d i j) (mat n d i k + mat n d k j) else mat n d i j := by
  intro t
  induction t with
  | zero => intro _ i j _ _; rw [if_neg (by omega)]; rfl
  | succ t ih =>
    intro ht i j hi hj
    have h1 := ih (by omega)
    have hik : ∀ i, i ≤ n → mat n (thr n k d t) i k = mat n d i k := by
      intro i hi
      rw [h1 i k hi hk]
      split
      · rw [h0]; omega
      · rfl
    have hkj : ∀ j, j ≤ n → mat n (thr n k d t) k j = mat n d k j := by
      intro j hj
      rw [h1 k j hk hj]
      split
      · rw [h0]; omega
      · rfl
    obtain ⟨q1, q2, q3⟩ := place_of (n := n) (t := t) (by omega)
    simp only [thr]
    rw [mat_set (by rw [thr_len]; exact hl) (by omega) _ hi hj]
    by_cases q : i = t / (n + 1) ∧ j = t % (n + 1)
    · rw [if_pos q]
      obtain ⟨rfl, rfl⟩ := q
      have : (thr n k d t).getD t 0 = mat n (thr n k d t) (t / (n + 1)) (t % (n + 1)) := by unfold mat; rw [q3]
      rw [this, hik _ hi, hkj _ hj, h1 _ _ hi hj, if_neg (by omega), if_pos (by omega)]
    · rw [if_neg q, h1 i j hi hj]
      have hne : i * (n + 1) + j ≠ t := by
        intro e; subst e
        exact q ⟨(place_div hj).symm, (place_mod hj).symm⟩
      by_cases h : i * (n + 1) + j < t
      · rw [if_pos h, if_pos (by omega)]
      · rw [if_neg h, if_neg (by omega)]
theorem thrAll_at {n k : Nat} (hk : k ≤ n) {d : List Int} (hl : d.length = (n + 1) * (n + 1)) (h0 : mat n d k k = 0) {i j : Nat} (hi : i ≤ n) (hj : j ≤ n) : mat n (thrAll n k d) i j = min (mat n d i j) (mat n d i k + mat n d k j) := by
  unfold thrAll
  rw [thr_at hk hl h0 _ (Nat.le_refl _) i j hi hj, if_pos (place_lt hi hj)]
theorem fw_closed {n : Nat} : ∀ (f k : Nat) (d : List Int), k + f = n + 1 → d.length = (n + 1) * (n + 1) → (∀ i, i ≤ n → mat n d i i ≤ 0) → (k = 0 ∨ ∀ i, i ≤ n → mat n d i i = 0) →
    (∀ i j m, i ≤ n → j ≤ n → m < k → mat n d i j ≤ mat n d i m + mat n d m j) → fwRun n f k d ≠ [] → (fwRun n f k d).length = (n + 1) * (n + 1) ∧ Closed n (mat n (fwRun n f k d)) ∧ Leq n (mat n (fwRun n f k d)) (mat n d) := by
  intro f
  induction f with
  | zero =>
    intro k d hk hl hd h0 ht hne
    simp only [fwRun] at hne ⊢
    refine ⟨hl, ⟨?_, fun i j m hi hj hm => ht i j m hi hj (by omega)⟩, fun i j _ _ => Int.le_refl _⟩
    rcases h0 with h | h
    · omega
    · exact h
  | succ f ih =>
    intro k d hk hl hd h0 ht hne
    simp only [fwRun] at hne ⊢
    by_cases hb : belowL n (thrAll n k d) = true
    · rw [if_pos hb] at hne; exact absurd rfl hne
    rw [if_neg hb] at hne ⊢
    rw [Bool.not_eq_true] at hb
    have hkn : k ≤ n := by omega
    have hle : Leq n (mat n (thrAll n k d)) (mat n d) := thr_leq hl _ (Nat.le_refl _)
    have hz : ∀ i, i ≤ n → mat n d i i = 0 := fun i hi => by
      have a := belowL_not hb hi
      have b := hle i i hi hi
      have c := hd i hi
      omega
    have hat := fun i j (hi : i ≤ n) (hj : j ≤ n) => thrAll_at hkn hl (hz k hkn) hi hj
    have hl2 : (thrAll n k d).length = (n + 1) * (n + 1) := by unfold thrAll; rw [thr_len]; exact hl
    have hz2 : ∀ i, i ≤ n → mat n (thrAll n k d) i i = 0 := fun i hi => by
      have a := belowL_not hb hi
      have b := hle i i hi hi
      have c := hd i hi
      omega
    obtain ⟨r1, r2, r3⟩ := ih (k + 1) (thrAll n k d) (by omega) hl2 (fun i hi => by rw [hz2 i hi]; omega) (.inr hz2) (by
      intro i j m hi hj hm
      have hmn : m ≤ n := by omega
      rw [hat i j hi hj, hat i m hi hmn, hat m j hmn hj]
      by_cases e : m = k
      · subst e
        have := hz m hmn
        omega
      · have t1 := ht i j m hi hj (by omega)
        have t2 := ht k j m hkn hj (by omega)
        have t3 := ht i k m hi hkn (by omega)
        have t4 := ht k k m hkn hkn (by omega)
        have t5 := hz k hkn
        omega) hne
    exact ⟨r1, r2, fun i j hi hj => Int.le_trans (r3 i j hi hj) (hle i j hi hj)⟩
theorem fw_max {n : Nat} {D : Nat → Nat → Int} (hD : Closed n D) : ∀ (f k : Nat) (d : List Int), k + f = n + 1 → d.length = (n + 1) * (n + 1) → Leq n D (mat n d) → (fwRun n f k d).length = (n + 1) * (n + 1) ∧ Leq n D (mat n (fwRun n f k d)) := by
  intro f
  induction f with
  | zero => intro k d hk hl h; exact ⟨hl, h⟩
  | succ f ih =>
    intro k d hk hl h
    have h2 : Leq n D (mat n (thrAll n k d)) := thr_keeps (by omega) hl hD h _ (Nat.le_refl _)
    have hb : ¬ belowL n (thrAll n k d) = true := by
      intro hb
      obtain ⟨i, hi, hlt⟩ := (belowL_iff _ _).1 hb
      have a := h2 i i hi hi
      rw [hD.zero i hi] at a
      omega
    simp only [fwRun]
    rw [if_neg hb]
    exact ih (k + 1) _ (by omega) (by unfold thrAll; rw [thr_len]; exact hl) h2
/- The document's way: ways of twice as many steps. -/
def sqF (n : Nat) (c : Nat → Nat → Int) (i j : Nat) : Int := (List.range (n + 1)).foldl (fun x k => if c i k + c k j < x then c i k + c k j else x) (c i j)
def twL (n : Nat) (m : List Int) : List Int := matL n (sqF n (mat n m))
def sq (n : Nat) (m : List Int) : Nat → List Int
  | 0 => m
  | t + 1 => twL n (sq n m t)
def refCloseL (n : Nat) (M : List Int) : List Int := if belowL n (sq n (clipL n M) 4) = true then [] else sq n (clipL n M) 4
theorem foldl_min (g : Nat → Int) : ∀ (l : List Nat) (x : Int), l.foldl (fun x k => if g k < x then g k else x) x ≤ x ∧ (∀ k ∈ l, l.foldl (fun x k => if g k < x then g k else x) x ≤ g k) ∧
    (l.foldl (fun x k => if g k < x then g k else x) x = x ∨ ∃ k ∈ l, l.foldl (fun x k => if g k < x then g k else x) x = g k) := by
  intro l
  induction l with
  | nil => intro x; simp
  | cons y l ih =>
    intro x
    obtain ⟨h1, h2, h3⟩ := ih (if g y < x then g y else x)
    have hy : (if g y < x then g y else x) ≤ x ∧ (if g y < x then g y else x) ≤ g y ∧ ((if g y < x then g y else x) = x ∨ (if g y < x then g y else x) = g y) := by
      split <;> simp <;> omega
    simp only [List.foldl_cons]
    refine ⟨by omega, ?_, ?_⟩
    · intro k hk
      rcases List.mem_cons.1 hk with rfl | hk
      · omega
      · exact h2 k hk
    · rcases h3 with h | ⟨k, hk, h⟩
      · rcases hy.2.2 with e | e
        · left; rw [h, e]
        · right; exact ⟨y, by simp, by rw [h, e]⟩
      · right; exact ⟨k, by simp [hk], h⟩
theorem sqF_le (n : Nat) (c : Nat → Nat → Int) (i j : Nat) : sqF n c i j ≤ c i j := (foldl_min (fun k => c i k + c k j) _ _).1
theorem sqF_two (n : Nat) (c : Nat → Nat → Int) (i j k : Nat) (hk : k ≤ n) : sqF n c i j ≤ c i k + c k j := (foldl_min (fun k => c i k + c k j) _ _).2.1 k (List.mem_range.2 (by omega))
theorem sqF_is (n : Nat) (c : Nat → Nat → Int) (i j : Nat) : sqF n c i j = c i j ∨ ∃ k, k ≤ n ∧ sqF n c i j = c i k + c k j := by
  rcases (foldl_min (fun k => c i k + c k j) (List.range (n + 1)) (c i j)).2.2 with h | ⟨k, hk, h⟩
  · exact .inl h
  · exact .inr ⟨k, by rw [List.mem_range] at hk; omega, h⟩
theorem sq_len {n : Nat} {m : List Int} (hl : m.length = (n + 1) * (n + 1)) (t : Nat) : (sq n m t).length = (n + 1) * (n + 1) := by
  cases t with
  | zero => exact hl
  | succ t => exact matL_len _ _
theorem sq_at {n : Nat} {m : List Int} (t : Nat) {i j : Nat} (hi : i ≤ n) (hj : j ≤ n) : mat n (sq n m (t + 1)) i j = sqF n (mat n (sq n m t)) i j := mat_matL _ hi hj
def wt (M : Nat → Nat → Int) : Nat → List Nat → Nat → Int
  | i, [], j => M i j
  | i, v :: l, j => M i v + wt M v l j
theorem wt_app (M : Nat → Nat → Int) : ∀ (a : List Nat) (i v : Nat) (b : List Nat) (j : Nat), wt M i (a ++ v :: b) j = wt M i a v + wt M v b j := by
  intro a
  induction a with
  | nil => intro i v b j; rfl
  | cons x a ih => intro i v b j; simp only [List.cons_append, wt]; rw [ih]; omega
theorem sq_wt_le {n : Nat} {m : List Int} : ∀ (t : Nat) (l : List Nat) (i j : Nat), l.length + 1 ≤ 2 ^ t → (∀ x ∈ l, x ≤ n) → i ≤ n → j ≤ n → mat n (sq n m t) i j ≤ wt (mat n m) i l j := by
  intro t
  induction t with
  | zero =>
    intro l i j hl hx hi hj
    have : l = [] := by simpa using hl
    subst this
    exact Int.le_refl _
  | succ t ih =>
    intro l i j hl hx hi hj
    rw [sq_at t hi hj]
    by_cases h : l.length + 1 ≤ 2 ^ t
    · exact Int.le_trans (sqF_le _ _ _ _) (ih l i j h hx hi hj)
    · have hp : 0 < 2 ^ t := Nat.two_pow_pos t
      rw [Nat.pow_succ] at hl
      have hlt : 2 ^ t - 1 < l.length := by omega
      have hs : l = l.take (2 ^ t - 1) ++ l[2 ^ t - 1] :: l.drop (2 ^ t) := by
        conv => lhs; rw [← List.take_append_drop (2 ^ t - 1) l]
        rw [List.drop_eq_getElem_cons hlt, show 2 ^ t - 1 + 1 = 2 ^ t by omega]
      have hv : l[2 ^ t - 1] ≤ n := hx _ (List.getElem_mem hlt)
      rw [hs, wt_app]
      have a1 := ih (l.take (2 ^ t - 1)) i (l[2 ^ t - 1]) (by rw [List.length_take]; omega) (fun x hx' => hx x (List.mem_of_mem_take hx')) hi hv
      have a2 := ih (l.drop (2 ^ t)) (l[2 ^ t - 1]) j (by rw [List.length_drop]; omega) (fun x hx' => hx x (List.mem_of_mem_drop hx')) hv hj
      have a3 := sqF_two n (mat n (sq n m t)) i j _ hv
      omega
theorem sq_wt {n : Nat} {m : List Int} : ∀ (t : Nat) (i j : Nat), i ≤ n → j ≤ n → ∃ l : List Nat, (∀ x ∈ l, x ≤ n) ∧ mat n (sq n m t) i j = wt (mat n m) i l j := by
  intro t
  induction t with
  | zero => intro i j hi hj; exact ⟨[], by simp, rfl⟩
  | succ t ih =>
    intro i j hi hj
    rw [sq_at t hi hj]
    rcases sqF_is n (mat n (sq n m t)) i j with h | ⟨k, hk, h⟩
    · obtain ⟨l, h1, h2⟩ := ih i j hi hj
      exact ⟨l, h1, by rw [h, h2]⟩
    · obtain ⟨l1, h1, h2⟩ := ih i k hi hk
      obtain ⟨l2, h3, h4⟩ := ih k j hk hj
      refine ⟨l1 ++ k :: l2, ?_, by rw [h, h2, h4, wt_app]⟩
      intro x hx
      rcases List.mem_append.1 hx with hx | hx
      · exact h1 x hx
      · rcases List.mem_cons.1 hx with rfl | hx
        · exact hk
        · exact h3 x hx
theorem nodup_le : ∀ (n : Nat) (l : List Nat), (∀ x ∈ l, x < n) → l.Nodup → l.length ≤ n := by
  intro n
  induction n with
  | zero =>
    intro l h _
    cases l with
    | nil => simp
    | cons x l => exact absurd (h x (by simp)) (by omega)
  | succ n ih =>
    intro l h hd
    by_cases hn : n ∈ l
    · have := ih (l.erase n) (by
        intro x hx
        rw [hd.mem_erase_iff] at hx
        have := h x hx.2
        omega) (hd.erase n)
      rw [List.length_erase_of_mem hn] at this
      omega
    · have := ih l (by
        intro x hx
        have h1 := h x hx
        have h2 : x ≠ n := fun e => hn (e ▸ hx)
        omega) hd
      omega
theorem dup_split : ∀ l : List Nat, ¬ l.Nodup → ∃ a v b c, l = a ++ v :: (b ++ v :: c) := by
  intro l
  induction l with
  | nil => intro h; exact absurd List.nodup_nil h
  | cons x l ih =>
    intro h
    by_cases hx : x ∈ l
    · obtain ⟨s, t, rfl⟩ := List.append_of_mem hx
      exact ⟨[], x, s, t, rfl⟩
    · have : ¬ l.Nodup := fun hd => h (List.nodup_cons.2 ⟨hx, hd⟩)
      obtain ⟨a, v, b, c, rfl⟩ := ih this
      exact ⟨x :: a, v, b, c, rfl⟩
theorem sq_all {n : Nat} (hn : n ≤ 8) {m : List Int} (hz : ∀ i, i ≤ n → 0 ≤ mat n (sq n m 4) i i) : ∀ (s : Nat) (l : List Nat), l.length = s → ∀ i j, (∀ x ∈ l, x ≤ n) → i ≤ n → j ≤ n → mat n (sq n m 4) i j ≤ wt (mat n m) i l j := by
  intro s
  induction s using Nat.strongRecOn with
  | _ s ih =>
    intro l hs i j hx hi hj
    by_cases h : l.length + 1 ≤ 2 ^ 4
    · exact sq_wt_le 4 l i j h hx hi hj
    · have hlen : 10 ≤ l.length := by simp at h; omega
      have hdup : ¬ (l.take 10).Nodup := by
        intro hd
        have := nodup_le (n + 1) (l.take 10) (fun x hx' => by have := hx x (List.mem_of_mem_take hx'); omega) hd
        rw [List.length_take] at this
        omega
      obtain ⟨a, v, b, c, he⟩ := dup_split _ hdup
      have hl : l = a ++ v :: (b ++ v :: (c ++ l.drop 10)) := by
        conv => lhs; rw [← List.take_append_drop 10 l, he]
        simp
      have hT : (l.take 10).length = 10 := by rw [List.length_take]; omega
      have hbl : b.length + 1 ≤ 2 ^ 4 := by
        rw [he] at hT
        simp at hT ⊢
        omega
      have hmem : ∀ x, x ∈ a ∨ x = v ∨ x ∈ b ∨ x ∈ c ++ l.drop 10 → x ≤ n := by
        intro x hx'
        apply hx
        rw [hl]
        simp only [List.mem_append, List.mem_cons] at hx' ⊢
        rcases hx' with h | h | h | h
        · simp [h]
        · simp [h]
        · simp [h]
        · rcases h with h | h <;> simp [h]
      have hv : v ≤ n := hmem v (by simp)
      have q1 := sq_wt_le (m := m) 4 b v v hbl (fun x hx' => hmem x (by simp [hx'])) hv hv
      have q2 := hz v hv
      have q3 := ih (a ++ v :: (c ++ l.drop 10)).length (by
        rw [← hs]
        conv => rhs; rw [hl]
        simp
        omega) (a ++ v :: (c ++ l.drop 10)) rfl i j (by
        intro x hx'
        apply hmem
        simp only [List.mem_append, List.mem_cons] at hx' ⊢
        rcases hx' with h | h | h <;> simp [h]) hi hj
      rw [hl]
      rw [wt_app] at q3 ⊢
      rw [wt_app]
      omega
theorem sq_closed {n : Nat} (hn : n ≤ 8) {m : List Int} (hd : ∀ i, i ≤ n → mat n m i i ≤ 0) (hz : ∀ i, i ≤ n → 0 ≤ mat n (sq n m 4) i i) : Closed n (mat n (sq n m 4)) := by
  constructor
  · intro i hi
    have h1 := hz i hi
    have h2 := sq_wt_le (m := m) 4 [] i i (by decide) (by simp) hi hi
    have h3 := hd i hi
    simp only [wt] at h2
    omega
  · intro i j k hi hj hk
    obtain ⟨l1, h1, h2⟩ := sq_wt (m := m) 4 i k hi hk
    obtain ⟨l2, h3, h4⟩ := sq_wt (m := m) 4 k j hk hj
    rw [h2, h4, ← wt_app]
    refine sq_all hn hz _ _ rfl i j ?_ hi hj
    intro x hx
    rcases List.mem_append.1 hx with hx | hx
    · exact h1 x hx
    · rcases List.mem_cons.1 hx with rfl | hx
      · exact hk
      · exact h3 x hx
theorem sq_max {n : Nat} {m : List Int} {D : Nat → Nat → Int} (hD : Closed n D) (h : Leq n D (mat n m)) : ∀ t, Leq n D (mat n (sq n m t)) := by
  intro t
  induction t with
  | zero => exact h
  | succ t ih =>
    intro i j hi hj
    rw [sq_at t hi hj]
    rcases sqF_is n (mat n (sq n m t)) i j with q | ⟨k, hk, q⟩
    · rw [q]; exact ih i j hi hj
    · rw [q]
      have a1 := ih i k hi hk
      have a2 := ih k j hk hj
      have a3 := hD.tri i j k hi hj hk
      omega
theorem clip_diag {n : Nat} {M : List Int} {i : Nat} (hi : i ≤ n) : mat n (clipL n M) i i ≤ 0 := by
  unfold clipL
  rw [mat_matL _ hi hi]
  unfold clipF widestF
  rw [if_pos rfl]
  omega
theorem clip_len (n : Nat) (M : List Int) : (clipL n M).length = (n + 1) * (n + 1) := matL_len _ _
theorem size_pos (n : Nat) : 0 < (n + 1) * (n + 1) := Nat.mul_pos (by omega) (by omega)
theorem closedL_is {n : Nat} {M : List Int} (h : closedL n M ≠ []) : (closedL n M).length = (n + 1) * (n + 1) ∧ Closed n (mat n (closedL n M)) ∧ Leq n (mat n (closedL n M)) (mat n (clipL n M)) :=
  fw_closed (n + 1) 0 _ (by omega) (clip_len _ _) (fun i hi => clip_diag hi) (.inl rfl) (by intro i j m _ _ h; omega) h
theorem closedL_max {n : Nat} {M : List Int} {D : Nat → Nat → Int} (hD : Closed n D) (h : Leq n D (mat n (clipL n M))) : (closedL n M).length = (n + 1) * (n + 1) ∧ Leq n D (mat n (closedL n M)) :=
  fw_max hD (n + 1) 0 _ (by omega) (clip_len _ _) h
theorem closedL_ne {n : Nat} {M : List Int} (h : (closedL n M).length = (n + 1) * (n + 1)) : closedL n M ≠ [] := by
  intro e; rw [e] at h; have := size_pos n; simp at h
theorem close_both {n : Nat} (hn : n ≤ 8) (M : List Int) : closedL n M = refCloseL n M := by
  unfold refCloseL
  by_cases hb : belowL n (sq n (clipL n M) 4) = true
  · rw [if_pos hb]
    by_cases hc : closedL n M = []
    · exact hc
    · obtain ⟨h1, h2, h3⟩ := closedL_is hc
      obtain ⟨i, hi, hlt⟩ := (belowL_iff _ _).1 hb
      have := sq_max h2 h3 4 i i hi hi
      rw [h2.zero i hi] at this
      omega
  · rw [if_neg hb]
    rw [Bool.not_eq_true] at hb
    have hcl := sq_closed (m := clipL n M) hn (fun i hi => clip_diag hi) (fun i hi => belowL_not hb hi)
    have hle : Leq n (mat n (sq n (clipL n M) 4)) (mat n (clipL n M)) := by
      intro i j hi hj
      exact sq_wt_le 4 [] i j (by decide) (by simp) hi hj
    obtain ⟨h1, h2⟩ := closedL_max hcl hle
    obtain ⟨h3, h4, h5⟩ := closedL_is (closedL_ne h1)
    refine mat_ext h1 (sq_len (clip_len _ _) 4) (fun i j hi hj => ?_)
    have a := h2 i j hi hj
    have b := sq_max h4 h5 4 i j hi hj
    omega
end Go.Proofs.YtimgocfkogebmaaGreatDoor
namespace Go.Proofs.YtimgocfkogebmaaGreatDoor
open Go.RowKit
set_option linter.unusedVariables false
theorem run_append_none {P : Program} (w : World) (base : Nat) (t ty e : TypeId) (i : TypeInfo) (size : Nat) (ht : P.underlying t = some (.slice e)) (hi : P.info? e = some i)
    (v : Value) (n : Nat) (xs : List Value) (hown : w.ownsRow base e size v n xs) (c : Nat) : (Builtin.append_ #[t, t] ty #[v, .slice none 0 c]).run P w = .ok v w := by
  rcases hown.2 with ⟨rfl, rfl⟩ | ⟨g, cap, cur, rfl, _, _, hnc, _⟩
  · simp [Builtin.append_, run_underlying ht, sizeOf, typeInfo, hi, Builtin.lenOf, Builtin.firstCells]
  · simp [Builtin.append_, run_underlying ht, sizeOf, typeInfo, hi, Builtin.lenOf, Builtin.firstCells, hnc, storeCells]
theorem run_append_sees {P : Program} (w : World) (t ty : TypeId) (w0 : World) (e : TypeId) (i : TypeInfo) (z : Value) (bytes : Nat) (ht : P.underlying t = some (.slice e)) (hi : P.info? e = some i) (hz : i.zero = some z)
    (hsize : i.size = 1) (hby : i.bytes = bytes) (hzs : z.cells.size = 1) (k : IntKind)
    (v : Value) (l : List Int) (hown : w.ownsRow w0.heap.size e 1 v l.length (nums k l)) (hb : Below w0.heap.size w0 w)
    (B : Nat) (A : Option Addr) (r : List Int) (hs : Sees k B w A r) (m c : Nat) (hm : m = r.length)
    (hn : l.length + r.length < 17592186044416) (h8 : bytes ≤ 8) :
    ∃ v' w', (Builtin.append_ #[t, t] ty #[v, .slice A m c]).run P w = .ok v' w' ∧ w'.ownsRow w0.heap.size e 1 v' (l ++ r).length (nums k (l ++ r)) ∧ Below w0.heap.size w0 w' := by
  subst hm
  have hlen : (nums k r).length = r.length * 1 := by simp [nums]
  have hall : ∀ u ∈ nums k r, u.oneCell' = true := by
    intro u hu
    obtain ⟨x, _, rfl⟩ := List.mem_map.1 hu
    rfl
  have hmx : (l.length + r.length) * bytes ≤ 140737488355328 := Nat.le_trans (Nat.mul_le_mul (by omega : l.length + r.length ≤ 17592186044416) h8) (by omega)
  have go : ∀ ad : Addr, A = some ad → (∀ j u, (nums k r)[j]? = some u → w.cell? (ad.add j) = some u) →
      ∃ v' w', (Builtin.append_ #[t, t] ty #[v, .slice A r.length c]).run P w = .ok v' w' ∧ w'.ownsRow w0.heap.size e 1 v' (l ++ r).length (nums k (l ++ r)) ∧ Below w0.heap.size w0 w' := by
    intro ad hA hc
    subst hA
    obtain ⟨v', w', hrun, h2, h3, _⟩ := run_append_own (P := P) w w0.heap.size t ty e i z 1 bytes ht hi hz hsize hby hzs (by omega) v l.length (nums k l) hown ad r.length c (nums k r) hlen hc hall (by unfold maxLen; omega) hmx hb.size
    refine ⟨v', w', hrun, ?_, hb.grown h3 hb.size fun q hq => (hown.lt q hq).1⟩
    rw [List.length_append]
    have e1 : nums k (l ++ r) = nums k l ++ nums k r := by simp [nums]
    rw [e1]; exact h2
  rcases hs with rfl | ⟨b, off, rfl, _, hc⟩
  · cases A with
    | none => exact ⟨v, w, run_append_none w _ t ty e i 1 ht hi v _ _ hown c, by simpa using hown, hb⟩
    | some ad => exact go ad rfl (by simp [nums])
  · refine go _ rfl fun j u hj => ?_
    have hjr : j < r.length := by
      have := (List.getElem?_eq_some_iff.1 hj).1
      simpa [nums] using this
    have h2 : (⟨b, off, none⟩ : Addr).add j = ⟨b, off + j, none⟩ := by unfold Addr.add; split <;> simp_all
    rw [h2, hc j hjr]
    simp [nums, hjr] at hj
    simp [List.getD, hjr, hj]
theorem wpList_append_sees {P : Program} (w : World) {ops : Array Oper} {rest : List Oper} {o : Oper} {a : Act} {Q : Exit → Act → World → Prop}
    (hg : o.guard = none) (s x : Operand) (t : TypeId) (hop : o.op = Op.call { callee := Callee.builtin Builtin.append, args := #[s, x], argTypes := #[t, t] })
    (w0 : World) (e : TypeId) (i : TypeInfo) (z : Value) (bytes : Nat) (ht : P.underlying t = some (.slice e)) (hi : P.info? e = some i) (hz : i.zero = some z)
    (hsize : i.size = 1) (hby : i.bytes = bytes) (hzs : z.cells.size = 1) (k : IntKind)
    (v : Value) (l : List Int) (hown : w.ownsRow w0.heap.size e 1 v l.length (nums k l)) (hb : Below w0.heap.size w0 w)
    (B : Nat) (A : Option Addr) (r : List Int) (hs : Sees k B w A r) (m c : Nat) (hm : m = r.length)
    (hsv : a.eval s = v) (hx : a.eval x = .slice A m c) (hn : l.length + r.length < 17592186044416) (h8 : bytes ≤ 8)
    (hK : ∀ v' w', w'.ownsRow w0.heap.size e 1 v' (l ++ r).length (nums k (l ++ r)) → Below w0.heap.size w0 w' → wpList P ops Q rest (a.put o.dst v') w') :
    wpList P ops Q (o :: rest) a w := by
  obtain ⟨v', w', hrun, h1, h2⟩ := run_append_sees (P := P) w t o.type w0 e i z bytes ht hi hz hsize hby hzs k v l hown hb B A r hs m c hm hn h8
  refine wpList_plain hg fun K hK' => ?_
  unfold Oper.wp
  simp [execOp, hop, resolve, invoke, builtin, hsv, hx, hrun, Result.andThen]
  exact hK' _ _ (hK v' w' h1 h2)
theorem own_empty {w w1 : World} (e : TypeId) (k : IntKind) (hb : Below w.heap.size w w1) : (w1.alloc (.cells #[] e)).ownsRow w.heap.size e 1 (.slice (some ⟨w1.heap.size, 0, none⟩) 0 0) ([] : List Int).length (nums k []) :=
  World.ownsRow_made w1 #[] 0 hb.size (by decide) (by simp)
end Go.Proofs.YtimgocfkogebmaaGreatDoor
namespace Go.Proofs.YtimgocfkogebmaaGreatDoor
open Go.RowKit
set_option linter.unusedVariables false
structure BelowE (X : List Nat) (B : Nat) (w w' : World) : Prop where
  os : w'.os = w.os
  tape : w'.tape = w.tape
  output : w'.output = w.output
  size : w.heap.size ≤ w'.heap.size
  block : ∀ k, k < B → k ∉ X → w'.heap[k]? = w.heap[k]?
theorem BelowE.refl (X : List Nat) (B : Nat) (w : World) : BelowE X B w w := ⟨rfl, rfl, rfl, Nat.le_refl _, fun _ _ _ => rfl⟩
theorem BelowE.of {X : List Nat} {B : Nat} {w w' : World} (h : Below B w w') : BelowE X B w w' := ⟨h.os, h.tape, h.output, h.size, fun k hk _ => h.block k hk⟩
theorem BelowE.none {B : Nat} {w w' : World} (h : BelowE [] B w w') : Below B w w' := ⟨h.os, h.tape, h.output, h.size, fun k hk => h.block k hk (by simp)⟩
theorem BelowE.trans {X : List Nat} {B : Nat} {a b c : World} (h : BelowE X B a b) (k : BelowE X B b c) : BelowE X B a c :=
  ⟨k.os.trans h.os, k.tape.trans h.tape, k.output.trans h.output, Nat.le_trans h.size k.size, fun i hi hx => (k.block i hi hx).trans (h.block i hi hx)⟩
theorem BelowE.mono {X : List Nat} {B B' : Nat} {w w' : World} (h : BelowE X B w w') (hB : B' ≤ B) : BelowE X B' w w' :=
  ⟨h.os, h.tape, h.output, h.size, fun k hk hx => h.block k (Nat.lt_of_lt_of_le hk hB) hx⟩
theorem BelowE.less {X Y : List Nat} {B : Nat} {w w' : World} (h : BelowE X B w w') (hX : ∀ x ∈ X, x < B → x ∈ Y) : BelowE Y B w w' :=
  ⟨h.os, h.tape, h.output, h.size, fun k hk hx => h.block k hk fun hm => hx (hX k hm hk)⟩
theorem BelowE.drew {X : List Nat} {B : Nat} {a w : World} (h : BelowE X B a w) : BelowE X B a w.drew := ⟨h.os, h.tape, h.output, h.size, h.block⟩
theorem BelowE.drewN {X : List Nat} {B : Nat} {a w : World} (h : BelowE X B a w) (n : Nat) : BelowE X B a (w.drewN n) := ⟨h.os, h.tape, h.output, h.size, h.block⟩
theorem BelowE.alloc {X : List Nat} {B : Nat} {a w : World} (h : BelowE X B a w) (hB : B ≤ w.heap.size) (o : Obj) : BelowE X B a (w.alloc o) :=
  h.trans (.of ((Below.refl B w).alloc hB o))
theorem BelowE.setIn {X : List Nat} {B : Nat} {a w : World} (h : BelowE X B a w) {p : Addr} (hp : p.block ∈ X) (u : Value) : BelowE X B a (w.setCell p u) :=
  h.trans ⟨rfl, rfl, rfl, by simp [World.setCell], fun k _ hx => Below.heap_setCell _ _ _ _ (fun e => hx (e ▸ hp))⟩
theorem BelowE.cell {X : List Nat} {B : Nat} {w w' : World} (h : BelowE X B w w') {p : Addr} (hp : p.block < B) (hx : p.block ∉ X) : w'.cell? p = w.cell? p := World.cell?_of_block (w := w) (h.block p.block hp hx)
def Holds (w : World) (g : Nat) (t : TypeId) (cs : Array Value) : Prop := w.heap[g]? = some (.cells cs t (0, 0))
theorem Holds.lt {w : World} {g : Nat} {t : TypeId} {cs : Array Value} (h : Holds w g t cs) : g < w.heap.size := (Array.getElem?_eq_some_iff.1 h).1
theorem Holds.cell {w : World} {g : Nat} {t : TypeId} {cs : Array Value} (h : Holds w g t cs) (i : Nat) : w.cell? ⟨g, i, none⟩ = cs[i]? := cell_of_row w g i cs t (0, 0) h
theorem Holds.free {w : World} {g : Nat} {t : TypeId} {cs : Array Value} (h : Holds w g t cs) (i : Nat) : w.frozen? ⟨g, i, none⟩ = false := by
  unfold Holds at h; simp [World.frozen?, h]
theorem Holds.new (w : World) (t : TypeId) (cs : Array Value) : Holds (w.alloc (.cells cs t)) w.heap.size t cs := heap_alloc_new w _
theorem Holds.drew {w : World} {g : Nat} {t : TypeId} {cs : Array Value} (h : Holds w g t cs) : Holds w.drew g t cs := h
theorem Holds.drewN {w : World} {g : Nat} {t : TypeId} {cs : Array Value} (h : Holds w g t cs) (n : Nat) : Holds (w.drewN n) g t cs := h
theorem Holds.alloc {w : World} {g : Nat} {t : TypeId} {cs : Array Value} (h : Holds w g t cs) (o : Obj) : Holds (w.alloc o) g t cs := (Below.heap_alloc w o g h.lt).trans h
theorem Holds.set {w : World} {g : Nat} {t : TypeId} {cs : Array Value} (h : Holds w g t cs) (i : Nat) (u : Value) : Holds (w.setCell ⟨g, i, none⟩ u) g t (cs.setIfInBounds i u) := by
  unfold Holds at h ⊢; simp [World.setCell, Array.getElem?_modify, h]
theorem Holds.far {w : World} {g : Nat} {t : TypeId} {cs : Array Value} (h : Holds w g t cs) {p : Addr} (hp : g ≠ p.block) (u : Value) : Holds (w.setCell p u) g t cs := (Below.heap_setCell w p u g hp).trans h
theorem Holds.below {w w' : World} {B g : Nat} {t : TypeId} {cs : Array Value} (h : Holds w g t cs) (hb : Below B w w') (hg : g < B) : Holds w' g t cs := (hb.block g hg).trans h
theorem Holds.belowE {w w' : World} {X : List Nat} {B g : Nat} {t : TypeId} {cs : Array Value} (h : Holds w g t cs) (hb : BelowE X B w w') (hg : g < B) (hx : g ∉ X) : Holds w' g t cs := (hb.block g hg hx).trans h
def SeesE (X : List Nat) (k : IntKind) (B : Nat) (w : World) (a : Option Addr) (l : List Int) : Prop :=
  l = [] ∨ ∃ b off, a = some ⟨b, off, none⟩ ∧ b < B ∧ b ∉ X ∧ ∀ i, i < l.length → w.cell? ⟨b, off + i, none⟩ = some (.int k (l.getD i 0))
theorem SeesE.sees {X k B w a l} (h : SeesE X k B w a l) : Sees k B w a l := by
  rcases h with h | ⟨b, off, h1, h2, _, h3⟩
  · exact .inl h
  · exact .inr ⟨b, off, h1, h2, h3⟩
theorem Sees.out {X k B w a l} (h : Sees k B w a l) (hx : ∀ x ∈ X, B ≤ x) : SeesE X k B w a l := by
  rcases h with h | ⟨b, off, h1, h2, h3⟩
  · exact .inl h
  · exact .inr ⟨b, off, h1, h2, fun hm => by have := hx b hm; omega, h3⟩
theorem SeesE.belowE {X k B w w' a l} (h : SeesE X k B w a l) (hb : BelowE X B w w') : SeesE X k B w' a l := by
  rcases h with h | ⟨b, off, rfl, hB, hx, hc⟩
  · exact .inl h
  · exact .inr ⟨b, off, rfl, hB, hx, fun i hi => (hb.cell (p := ⟨b, off + i, none⟩) hB hx).trans (hc i hi)⟩
theorem SeesE.mono {X k B B' w a l} (h : SeesE X k B w a l) (hb : B ≤ B') : SeesE X k B' w a l := by
  rcases h with h | ⟨b, off, rfl, hB, hx⟩
  · exact .inl h
  · exact .inr ⟨b, off, rfl, by omega, hx⟩
theorem Sees.drewN {k B w a l} (h : Sees k B w a l) (n : Nat) : Sees k B (w.drewN n) a l := h
theorem SeesE.drewN {X k B w a l} (h : SeesE X k B w a l) (n : Nat) : SeesE X k B (w.drewN n) a l := h
theorem BelowE.fromDrew {X : List Nat} {B : Nat} {w w' : World} (h : BelowE X B w.drew w') : BelowE X B w w' := ⟨h.os, h.tape, h.output, h.size, h.block⟩
theorem Below.fromDrew {B : Nat} {w w' : World} (h : Below B w.drew w') : Below B w w' := ⟨h.os, h.tape, h.output, h.size, h.block⟩
theorem Below.drewN {B : Nat} {a w : World} (h : Below B a w) (n : Nat) : Below B a (w.drewN n) := ⟨h.os, h.tape, h.output, h.size, h.block⟩
theorem quiet_mine {P : Program} {f : FuncId} {args : Array Value} {w : World} {n : Nat} {v : Value}
    (h : Calls P f args (w.drewN n) fun e w' => e = .returned v ∧ w.drewN n = w') : Calls P f args (w.drewN n) fun e w'' => e = .returned v ∧ ∃ m, w'' = w.drewN m :=
  h.mono fun _ _ ⟨he, hm⟩ => ⟨he, n, hm.symm⟩
theorem SeesE.cut {X : List Nat} {k : IntKind} {B : Nat} {w : World} {a : Option Addr} {l : List Int} (h : SeesE X k B w a l) (lo hi cap : Nat) (hl : hi ≤ l.length) (hlo : lo ≤ hi) (hc : l.length ≤ cap) :
    ∃ a', sliced a lo hi cap 1 = .slice a' (hi - lo) (cap - lo) ∧ SeesE X k B w a' ((l.take hi).drop lo) := by
  unfold sliced
  refine ⟨_, rfl, ?_⟩
  by_cases h0 : lo = hi
  · left; subst h0; exact List.drop_of_length_le (by simp; omega)
  rcases h with rfl | ⟨b, off, rfl, hB, hX, hcell⟩
  · simp at hl; omega
  · right
    have h1 : ¬ (cap = lo) := by omega
    by_cases hz : lo = 0
    · subst hz
      refine ⟨b, off, by simp [Addr.add], hB, hX, fun i hi' => ?_⟩
      simp at hi'
      rw [hcell i (by omega)]
      have : i < hi := by omega
      simp [List.getD, this]
    · refine ⟨b, off + lo, by simp [Addr.add, h1, hz], hB, hX, fun i hi' => ?_⟩
      simp at hi'
      rw [Nat.add_assoc, hcell (lo + i) (by omega)]
      have : lo + i < hi := by omega
      simp [List.getD, this]
theorem Sees.cut {k : IntKind} {B : Nat} {w : World} {a : Option Addr} {l : List Int} (h : Sees k B w a l) (lo hi cap : Nat) (hl : hi ≤ l.length) (hlo : lo ≤ hi) (hc : l.length ≤ cap) :
    ∃ a', sliced a lo hi cap 1 = .slice a' (hi - lo) (cap - lo) ∧ Sees k B w a' ((l.take hi).drop lo) := by
  obtain ⟨a', h1, h2⟩ := (h.out (X := []) (by simp)).cut lo hi cap hl hlo hc
  exact ⟨a', h1, h2.sees⟩
end Go.Proofs.YtimgocfkogebmaaGreatDoor
namespace Go.Proofs.YtimgocfkogebmaaGreatDoor
open Go.RowKit
set_option linter.unusedVariables false
def codes (s : ByteArray) : List Int := s.data.toList.map fun b => (b.toNat : Int)
theorem codes_length (s : ByteArray) : (codes s).length = s.size := by
  unfold codes; rw [List.length_map, Array.length_toList]; rfl
theorem codes_at (s : ByteArray) (k : Nat) (h : k < s.size) : (codes s).getD k 0 = ((s[k]'h).toNat : Int) := by
  have h2 : k < s.data.toList.length := by rw [Array.length_toList]; exact h
  simp only [codes, List.getD, List.getElem?_map, List.getElem?_eq_getElem h2, Option.map_some, Option.getD_some]
  rfl
end Go.Proofs.YtimgocfkogebmaaGreatDoor
namespace Go.Proofs.YtimgocfkogebmaaGreatDoor
open Go.RowKit
set_option linter.unusedVariables false
theorem BelowE.grown {X : List Nat} {B : Nat} {a w w' : World} {row : Option Nat} (h : BelowE X B a w) (hg : w.grownBy w' row) (hB : B ≤ w.heap.size) (hr : ∀ k, row = some k → k < B → k ∈ X) : BelowE X B a w' :=
  h.trans ⟨hg.os, hg.tape, hg.output, hg.size, fun k hk hx => hg.block k (by omega) (fun e => hx (hr k e.symm hk))⟩
theorem own_from {w : World} {base B : Nat} {e : TypeId} {size n : Nat} {v : Value} {xs : List Value} (h : w.ownsRow base e size v n xs) (hB : ∀ k, v.ownBlock = some k → B ≤ k) : w.ownsRow B e size v n xs := by
  refine ⟨h.1, ?_⟩
  rcases h.2 with h | ⟨g, cap, cur, hv, hg, r⟩
  · exact .inl h
  · exact .inr ⟨g, cap, cur, hv, hB g (by rw [hv]; rfl), r⟩
theorem own_belowE {w w' : World} {X : List Nat} {base : Nat} {e : TypeId} {size n : Nat} {v : Value} {xs : List Value} (h : w.ownsRow base e size v n xs) (hb : BelowE X w.heap.size w w') (hx : ∀ k, v.ownBlock = some k → k ∉ X) : w'.ownsRow base e size v n xs := by
  refine ⟨h.1, ?_⟩
  rcases h.2 with h | ⟨g, cap, cur, hv, hg, hh, r⟩
  · exact .inl h
  · exact .inr ⟨g, cap, cur, hv, hg, (hb.block g (Array.getElem?_eq_some_iff.1 hh).1 (hx g (by rw [hv]; rfl))).trans hh, r⟩
theorem own_below {w w' : World} {base : Nat} {e : TypeId} {size n : Nat} {v : Value} {xs : List Value} (h : w.ownsRow base e size v n xs) (hb : Below w.heap.size w w') : w'.ownsRow base e size v n xs :=
  own_belowE h (.of hb) (X := []) (by simp)
end Go.Proofs.YtimgocfkogebmaaGreatDoor
namespace Go.Proofs.YtimgocfkogebmaaGreatDoor
open Go.RowKit
set_option linter.unusedVariables false
theorem box_below (w : World) (v1 : Array Value) (t1 : TypeId) : Below w.heap.size w (w.alloc (.cells v1 t1)) := (Below.refl _ _).alloc (Nat.le_refl _) _
theorem box2_below (w : World) (v1 v2 : Array Value) (t1 t2 : TypeId) : Below w.heap.size w ((w.alloc (.cells v1 t1)).alloc (.cells v2 t2)) := ((Below.refl _ _).alloc (Nat.le_refl _) _).alloc (by simp) _
structure SL (w : World) (a : Option Addr) (m c : Nat) (l : List Int) : Prop where
  len : m = l.length
  cap : m ≤ c
  max : m ≤ 9223372036854775807
  sees : Sees .i64 w.heap.size w a l
theorem SL.below {w w' : World} {a : Option Addr} {m c : Nat} {l : List Int} (h : SL w a m c l) (hb : Below w.heap.size w w') : SL w' a m c l := ⟨h.len, h.cap, h.max, (h.sees.below hb).mono hb.size⟩
theorem SL.drewN {w : World} {a : Option Addr} {m c : Nat} {l : List Int} (h : SL w a m c l) (n : Nat) : SL (w.drewN n) a m c l := ⟨h.len, h.cap, h.max, h.sees⟩
theorem SL.nil (w : World) : SL w none 0 0 [] := ⟨rfl, Nat.le_refl _, by omega, .inl rfl⟩
def Tells (v : Value) (w : World) (e : Ending) (w' : World) : Prop := e = .returned v ∧ w = w'
theorem sees_num {k : IntKind} {B : Nat} {w : World} {a : Option Addr} {l : List Int} (h : Sees k B w a l) {i : Nat} (hi : i < l.length) : ∃ b off, a = some ⟨b, off, none⟩ ∧ b < B ∧ w.cell? ⟨b, off + i, none⟩ = some (.int k (l.getD i 0)) := by
  rcases h with rfl | ⟨b, off, rfl, hB, hc⟩
  · cases hi
  · exact ⟨b, off, rfl, hB, hc i hi⟩
end Go.Proofs.YtimgocfkogebmaaGreatDoor
namespace Go.Proofs.YtimgocfkogebmaaGreatDoor
open Go.RowKit
set_option linter.unusedVariables false
theorem wpAnyH_mono {P : Program} {md : Region.Mode} {ops : Array Oper} {Q : Exit → Act → World → Prop} {S S' : World → Prop} (hS : ∀ w, S' w → S w) :
    ∀ (fuel : Nat) (listed : Array Bool) (a : Act) (w : World), wpAnyH P md ops Q S' fuel listed a w → wpAnyH P md ops Q S fuel listed a w
  | 0, _, _, _, h => h
  | fuel + 1, _, _, _, h => ⟨h.1, fun i hi => wpOp_mono (fun a' w' h' => ⟨hS w' h'.1, wpAnyH_mono hS fuel _ a' w' h'.2⟩) (h.2 i hi)⟩
theorem wpAnyH_now {P : Program} {md : Region.Mode} {ops : Array Oper} {Q : Exit → Act → World → Prop} {w0 w : World} {fuel : Nat} {listed : Array Bool} {a : Act} (hb : Below w0.heap.size w0 w)
    (h : Below w.heap.size w w → wpAnyH P md ops Q (fun w' => Below w.heap.size w w') fuel listed a w) : wpAnyH P md ops Q (fun w' => Below w0.heap.size w0 w') fuel listed a w :=
  wpAnyH_mono (fun w' h' => hb.trans (h'.mono hb.size)) _ _ _ _ (h (Below.refl _ _))
theorem rebase {w0 w1 : World} {C : World → Prop} (h : ∀ W, Below w0.heap.size w0 W → C W) (hb : Below w0.heap.size w0 w1) : ∀ W, Below w1.heap.size w1 W → C W :=
  fun W hW => h W (hb.trans (hW.mono hb.size))
theorem wp_drawn {P : Program} {ops : Array Oper} {Q : Exit → Act → World → Prop} {id : Nat} {a : Act} {w : World} (hm : P.follows .mixedOrders = true)
    (h : Below w.heap.size w w.drew → wpAnyH P .any ops Q (fun w' => Below w.heap.size w w') ops.size (Array.replicate ops.size false) a w.drew) : (Code.region id ops true).wp P Q a w :=
  wp_region_held_drew hm ((Below.refl _ _).drew) h
theorem wp_drawn_on (S : World → Prop) {P : Program} {ops : Array Oper} {Q : Exit → Act → World → Prop} {id : Nat} {a : Act} {w : World} (hm : P.follows .mixedOrders = true) (hS : S w.drew)
    (h : S w.drew → wpAnyH P .any ops Q S ops.size (Array.replicate ops.size false) a w.drew) : (Code.region id ops true).wp P Q a w :=
  wp_region_held_drew hm hS h
theorem wT {P : Program} {md : Region.Mode} {ops : Array Oper} {Q : Exit → Act → World → Prop} {S : World → Prop} (i : Nat) {d op ty pos af gd} {v : Value} {fuel : Nat} {listed : Array Bool} {a : Act} {w : World} (hi : ops[i]? = some (⟨d, op, ty, pos, af, gd⟩ : Oper))
    (hb : (Region.noSelect ops && Region.free md ops listed i && (Region.ready md ops listed).contains i && Region.wanted ⟨d, op, ty, pos, af, gd⟩ (yielded ops a.tmps)) = true)
    (hQ : ∀ c b w, Q (.panic c) (b.put d v) w → Q (.panic c) b w) (hy : ∀ w, S w → (execOp a.eval ⟨d, op, ty, pos, af, gd⟩).run P w = .ok (.value v) w) (hS : S w)
    (h : wpAnyH P md ops Q S fuel (listed.setIfInBounds i true) (a.put d v) w) : wpAnyH P md ops Q S (fuel + 1) listed a w := by
  simp only [Bool.and_eq_true] at hb
  exact wpAnyH_take hi hb.1.1.1 hb.1.1.2 hb.1.2 hQ (.inl ⟨hb.2, hy⟩) hS h
theorem wS {P : Program} {md : Region.Mode} {ops : Array Oper} {Q : Exit → Act → World → Prop} {S : World → Prop} (i : Nat) {d op ty pos af gd} {fuel : Nat} {listed : Array Bool} {a : Act} {w : World} (hi : ops[i]? = some (⟨d, op, ty, pos, af, gd⟩ : Oper))
    (hb : (Region.noSelect ops && Region.free md ops listed i && (Region.ready md ops listed).contains i && !Region.wanted ⟨d, op, ty, pos, af, gd⟩ (yielded ops a.tmps)) = true)
    (hQ : ∀ c b w, Q (.panic c) (b.put d undef) w → Q (.panic c) b w) (hS : S w)
    (h : wpAnyH P md ops Q S fuel (listed.setIfInBounds i true) (a.put d undef) w) : wpAnyH P md ops Q S (fuel + 1) listed a w := by
  simp only [Bool.and_eq_true, Bool.not_eq_true'] at hb
  exact wpAnyH_take hi hb.1.1.1 hb.1.1.2 hb.1.2 hQ (.inr ⟨hb.2, rfl⟩) hS h
end Go.Proofs.YtimgocfkogebmaaGreatDoor
namespace Go.Proofs.YtimgocfkogebmaaGreatDoor
open Go.RowKit
set_option linter.unusedVariables false
set_option linter.unusedSimpArgs false
def mayB (n : Int) : Bool := decide (0 ≤ n) && decide (n ≤ 8)
theorem may_any (n : Int) (w : World) : Calls Tryz.prog 130 #[.int .i64 n] w (Tells (.bool (mayB n)) w) := by
  unfold mayB
  by_cases h0 : 0 ≤ n
  · have d0 : decide (0 ≤ n) = true := decide_eq_true h0
    rw [d0, Bool.true_and]
    go_enter Tryz.func130, Tryz.ntmps130
    go_wp2
    go_ret
    exact ⟨rfl, rfl⟩
  · have d0 : decide (0 ≤ n) = false := decide_eq_false h0
    rw [d0, Bool.false_and]
    go_enter Tryz.func130, Tryz.ntmps130
    go_wp2
    go_ret
    exact ⟨rfl, rfl⟩
theorem vars_any (n : Int) (w : World) : Calls Tryz.prog 140 #[.int .i64 n] w (Tells (.bool (mayB n)) w) := by
  unfold mayB
  by_cases h0 : 0 ≤ n
  · have d0 : decide (0 ≤ n) = true := decide_eq_true h0
    rw [d0, Bool.true_and]
    go_enter Tryz.func140, Tryz.ntmps140
    go_wp2
    go_ret
    exact ⟨rfl, rfl⟩
  · have d0 : decide (0 ≤ n) = false := decide_eq_false h0
    rw [d0, Bool.false_and]
    go_enter Tryz.func140, Tryz.ntmps140
    go_wp2
    go_ret
    exact ⟨rfl, rfl⟩
def sz (n : Nat) : Nat := (n + 1) * (n + 1)
theorem sz_le {n : Nat} (hn : n ≤ 8) : sz n ≤ 81 := by
  unfold sz
  exact Nat.le_trans (Nat.mul_le_mul (show n + 1 ≤ 9 by omega) (show n + 1 ≤ 9 by omega)) (by decide)
theorem sz_int (n : Nat) : ((n : Int) + 1) * ((n : Int) + 1) = (sz n : Nat) := by unfold sz; rw [Int.natCast_mul]; rfl
theorem zsize_any (n : Nat) (hn : n ≤ 8) (w : World) : Calls Tryz.prog 102 #[.int .i64 n] w (Tells (.int .i64 (sz n)) w) := by
  have h1 := sz_int n
  have h2 := sz_le hn
  generalize sz n = s at *
  have hni : (n : Int) ≤ 8 := by omega
  have hsi : (s : Int) ≤ 81 := by omega
  go_enter Tryz.func102, Tryz.ntmps102
  go_wp2
  go_ret
  exact ⟨rfl, rfl⟩
theorem widest_any (i j : Nat) (hi : i ≤ 100) (hj : j ≤ 100) (w : World) : Calls Tryz.prog 169 #[.int .i64 i, .int .i64 j] w (Tells (.int .i64 (widestF i j)) w) := by
  unfold widestF
  by_cases h : i = j
  · subst h
    rw [if_pos rfl]
    go_enter Tryz.func169, Tryz.ntmps169
    go_wp2
    go_ret
    exact ⟨rfl, rfl⟩
  rw [if_neg h]
  have hn : ((i : Int) == (j : Int)) = false := by simp; omega
  have hn2 : ¬ (i : Int) = (j : Int) := by omega
  by_cases h0 : i = 0
  · subst h0
    rw [if_pos (.inl rfl)]
    have hj1 : ¬ (0 : Int) = (j : Int) := by simpa using hn2
    go_enter Tryz.func169, Tryz.ntmps169
    go_wp2
    go_ret
    exact ⟨rfl, rfl⟩
  have hi1 : ((i : Int) == 0) = false := by simp; omega
  have hi2 : ¬ (i : Int) = 0 := by omega
  by_cases h1 : j = 0
  · subst h1
    rw [if_pos (.inr rfl)]
    go_enter Tryz.func169, Tryz.ntmps169
    go_wp2
    go_ret
    exact ⟨rfl, rfl⟩
  have hj1 : ((j : Int) == 0) = false := by simp; omega
  have hj2 : ¬ (j : Int) = 0 := by omega
  rw [if_neg (by omega)]
  go_enter Tryz.func169, Tryz.ntmps169
  go_wp2
  go_ret
  exact ⟨rfl, rfl⟩
theorem far_any (i j : Nat) (hi : i ≤ 100) (hj : j ≤ 100) (w : World) : Calls Tryz.prog 196 #[.int .i64 i, .int .i64 j] w (Tells (.int .i64 (widestF i j)) w) := by
  unfold widestF
  by_cases h : i = j
  · subst h
    rw [if_pos rfl]
    go_enter Tryz.func196, Tryz.ntmps196
    go_wp2
    go_ret
    exact ⟨rfl, rfl⟩
  rw [if_neg h]
  have hn : ((i : Int) == (j : Int)) = false := by simp; omega
  have hn2 : ¬ (i : Int) = (j : Int) := by omega
  by_cases h0 : i = 0
  · subst h0
    rw [if_pos (.inl rfl)]
    have hj1 : ¬ (0 : Int) = (j : Int) := by simpa using hn2
    go_enter Tryz.func196, Tryz.ntmps196
    go_wp2
    go_ret
    exact ⟨rfl, rfl⟩
  have hi1 : ((i : Int) == 0) = false := by simp; omega
  have hi2 : ¬ (i : Int) = 0 := by omega
  by_cases h1 : j = 0
  · subst h1
    rw [if_pos (.inr rfl)]
    go_enter Tryz.func196, Tryz.ntmps196
    go_wp2
    go_ret
    exact ⟨rfl, rfl⟩
  have hj1 : ((j : Int) == 0) = false := by simp; omega
  have hj2 : ¬ (j : Int) = 0 := by omega
  rw [if_neg (by omega)]
  go_enter Tryz.func196, Tryz.ntmps196
  go_wp2
  go_ret
  exact ⟨rfl, rfl⟩
theorem zsum_any (a b : Int) (h1 : -4611686018427387904 ≤ a) (h2 : a ≤ 4611686018427387903) (h3 : -4611686018427387904 ≤ b) (h4 : b ≤ 4611686018427387903) (w : World) : Calls Tryz.prog 171 #[.int .i64 a, .int .i64 b] w (Tells (.int .i64 (a + b)) w) := by
  go_enter Tryz.func171, Tryz.ntmps171
  go_wp2
  go_ret
  exact ⟨rfl, rfl⟩
def farB (x : Int) : Bool := decide (1099511627776 < x) || decide (x < -1099511627776)
def valF (v : List Int) (i : Nat) : Int := if i = 0 then 0 else v.getD (i - 1) 0
theorem sees_at' {B : Nat} {w : World} {a : Option Addr} {l : List Int} (h : Sees .i64 B w a l) {i : Nat} (hi : i < l.length) : ∃ b off, a = some ⟨b, off, none⟩ ∧ b < B ∧ w.cell? ⟨b, off + i, none⟩ = some (.int .i64 (l.getD i 0)) := by
  rcases h with h | ⟨b, off, ha, hB, hc⟩
  · rw [h] at hi; simp at hi
  · exact ⟨b, off, ha, hB, hc i hi⟩
theorem ite_min (x y : Int) : (if y < x then y else x) = min x y := by split <;> omega
theorem ite_max (x y : Int) : (if x < y then y else x) = max x y := by split <;> omega
theorem wrap_small {x : Int} (h0 : -9223372036854775808 ≤ x) (h1 : x ≤ 9223372036854775807) : IntKind.i64.wrap x = x := by rw [IntKind.wrap_i64]; omega
theorem place_wraps {n i j : Nat} (hn : n ≤ 8) (hi : i ≤ n) (hj : j ≤ n) : ∃ p q : Nat, IntKind.i64.wrap ((n : Int) + 1) = (n : Int) + 1 ∧ IntKind.i64.wrap ((i : Int) * ((n : Int) + 1)) = (p : Int) ∧ IntKind.i64.wrap ((p : Int) + (j : Int)) = (q : Int) ∧ q = i * (n + 1) + j ∧ q < sz n ∧ q ≤ 80 ∧ (i : Int) * ((n : Int) + 1) = (p : Int) ∧ (p : Int) + (j : Int) = (q : Int) := by
  have hlt := place_lt hi hj
  have h2 := sz_le hn
  unfold sz at *
  have hpi : (i : Int) * ((n : Int) + 1) = ((i * (n + 1) : Nat) : Int) := by rw [Int.natCast_mul]; rfl
  generalize i * (n + 1) = p at *
  refine ⟨p, p + j, wrap_small (by omega) (by omega), ?_, wrap_small (by omega) (by omega), rfl, hlt, by omega, hpi, rfl⟩
  rw [hpi]
  exact wrap_small (by omega) (by omega)
theorem zclip_any (gm gn : Nat) (a : Option Addr) (M : List Int) (len c n : Nat) (hn : n ≤ 8) (hM : len = M.length) (hl : len = sz n) (i j : Nat) (hi : i ≤ n) (hj : j ≤ n) (B : Nat) (w : World) (h : Sees .i64 B w a M)
    (hgm : w.cell? ⟨gm, 0, none⟩ = some (.slice a len c)) (hgn : w.cell? ⟨gn, 0, none⟩ = some (.int .i64 n)) :
    Calls Tryz.prog 168 #[.int .i64 i, .int .i64 j, .pointer (some ⟨gm, 0, none⟩), .pointer (some ⟨gn, 0, none⟩)] w fun e w' => e = .returned (.int .i64 (clipF n M i j)) ∧ ∃ m, w' = w.drewN m := by
  have hw := Lib.hid (fun m => widest_any i j (by omega) (by omega) (w.drewN m))
  obtain ⟨p, q, w1, w2, w3, hq, hqs, -, -, -⟩ := place_wraps hn hi hj
  unfold clipF mat
  rw [← hq]
  have hqn : q < len := by omega
  obtain ⟨b, off, rfl, -, hc⟩ := sees_at' h (i := q) (by omega)
  have hin : (q : Int) < (len : Int) := by omega
  clear h hM hl hqs hq hi hj
  generalize M.getD q 0 = x at *
  generalize widestF i j = y at *
  go_enter Tryz.func168, Tryz.ntmps168
  go_wp2
  go_quiet ((go_at_call 169; exact quiet_mine (hw.out _)))
  first | simp only [ite_min, ite_max] | skip
  go_wp2
  go_ret
  exact ⟨rfl, nq, rfl⟩
end Go.Proofs.YtimgocfkogebmaaGreatDoor
namespace Go.Proofs.YtimgocfkogebmaaGreatDoor
open Go.RowKit
set_option linter.unusedVariables false
set_option linter.unusedSimpArgs false
def ReadsV (v : Value) (w : World) (e : Ending) (w' : World) : Prop := e = .returned v ∧ ∃ m, w' = w.drewN m
theorem zinfoInt : (Tryz.prog.info? 3).map (fun i => (i.zero, i.size, i.bytes)) = some (some (.int .i64 0), 1, 8) := by kernel_rfl
theorem own_drewN {w : World} {base : Nat} {e : TypeId} {size n : Nat} {v : Value} {xs : List Value} (h : w.ownsRow base e size v n xs) (m : Nat) : (w.drewN m).ownsRow base e size v n xs := h
theorem matL_step {n : Nat} (F : Nat → Nat → Int) {i j : Nat} (hi : i ≤ n) (hj : j ≤ n) : (matL n F).take (i * (n + 1) + j) ++ [F i j] = (matL n F).take (i * (n + 1) + (j + 1)) := by
  have h := place_lt hi hj
  have hl : i * (n + 1) + j < (matL n F).length := by rw [matL_len]; exact h
  have e : (matL n F)[i * (n + 1) + j] = F i j := by simp [matL, place_div hj, place_mod hj]
  rw [← Nat.add_assoc, ← List.take_append_getElem hl, e]
set_option maxRecDepth 100000 in
set_option maxHeartbeats 1000000 in
theorem each_clip (n : Nat) (hn : n ≤ 8) (gm gn : Nat) (F : Nat → Nat → Int) (w : World) (hf : ∀ i j, i ≤ n → j ≤ n → ∀ W, Below w.heap.size w W → Calls Tryz.prog 168 #[.int .i64 (i : Nat), .int .i64 (j : Nat), .pointer (some ⟨gm, 0, none⟩), .pointer (some ⟨gn, 0, none⟩)] W (ReadsV (.int .i64 (F i j)) W)) :
    Calls Tryz.prog 58 #[.int .i64 n, .func (.func 168) #[] #[.pointer (some ⟨gm, 0, none⟩), .pointer (some ⟨gn, 0, none⟩)]] w (Made 3 .i64 w (matL n F)) := by
  obtain ⟨i0, hi, hz0, hz1, hz2⟩ := info_parts zinfoInt
  have hsize := Lib.hid (fun W => zsize_any n hn W)
  have hs81 := sz_le hn
  have hf' := Lib.hid hf
  have hlen : (matL n F).length = sz n := matL_len n F
  have hsn : sz n = (n + 1) * (n + 1) := rfl
  have hstep := Lib.hid (fun i j (h1 : i ≤ n) (h2 : j ≤ n) => matL_step F h1 h2)
  obtain ⟨w5, hmk, own5, gr5⟩ := run_make_own (P := Tryz.prog) w w.heap.size 49 3 i0 (.int .i64 0) 1 Tryz.underlying49 hi hz0 hz1 .i64 .i64 (sz n) (by rw [hz2]; omega) (by unfold maxLen; omega) (Nat.le_refl _)
  have b5 : Below w.heap.size w w5 := (Below.refl _ _).grown gr5 (Nat.le_refl _) (by intro k hk; simp at hk)
  have own5' := Lib.hid own5
  have b5' := Lib.hid b5
  have hlen' := Lib.hid hlen
  have hsn' := Lib.hid hsn
  have hni : (n : Int) ≤ 8 := by omega
  have hsi : ((sz n : Nat) : Int) ≤ 81 := by omega
  clear hf own5 b5 gr5 hlen hsn
  generalize matL n F = R at *
  generalize sz n = s at *
  go_enter Tryz.func58, Tryz.ntmps58
  go_wp2_with fail
  refine (hsize.out _).mono ?_
  rintro e w' ⟨rfl, rfl⟩
  clear hsize
  go_wp2
  go_loopw [5, 13] (fun v x wr => ∃ (i : Nat) (pre : List Int), i ≤ n + 1 ∧ x = .int .i64 i ∧ Hid (pre = R.take (i * (n + 1))) ∧ Hid (wr.ownsRow w.heap.size 3 1 v pre.length (nums .i64 pre)) ∧ Hid (Below w.heap.size w wr)) (fun _ x _ => n + 1 - (intOf x).toNat)
  case atStart => exact ⟨0, [], by omega, rfl, Lib.hid (by simp), own5', b5'⟩
  case round =>
    obtain ⟨i, pre, hin, rfl, hpre, hown, hb⟩ := hrel
    by_cases hlt : i < n + 1
    · have hii : (i : Int) < (n : Int) + 1 := by omega
      go_wp2
      go_loopw [5, 18] (fun v x wr => ∃ (j : Nat) (pre : List Int), j ≤ n + 1 ∧ x = .int .i64 j ∧ Hid (pre = R.take (i * (n + 1) + j)) ∧ Hid (wr.ownsRow w.heap.size 3 1 v pre.length (nums .i64 pre)) ∧ Hid (Below w.heap.size w wr)) (fun _ x _ => n + 1 - (intOf x).toNat)
      case atStart => exact ⟨0, pre, by omega, rfl, hpre, hown, hb⟩
      case round =>
        clear hpre hown hb
        obtain ⟨j, pre, hjn, rfl, hpre, hown, hb⟩ := hrel
        by_cases hjt : j < n + 1
        · have hji : (j : Int) < (n : Int) + 1 := by omega
          have hcall := Lib.hid (hf'.out i j (by omega) (by omega) _ hb.out)
          have hpl : pre.length ≤ 81 := by
            rw [hpre.out, List.length_take, hlen'.out]; omega
          have hnext : Hid (pre ++ [F i j] = R.take (i * (n + 1) + (j + 1))) := Lib.hid (by rw [hpre.out]; exact hstep.out i j (by omega) (by omega))
          clear hpre
          generalize F i j = y at *
          go_wp2_with fail
          refine hcall.out.mono ?_
          rintro e w6 ⟨rfl, m, rfl⟩
          clear hcall
          go_wp2_with (at_builtin; refine wpList_append1 _ rfl _ _ 49 rfl w 3 i0 (.int .i64 0) 8 Tryz.underlying49 hi hz0 hz1 hz2 rfl .i64 y _ _ (own_drewN hown.out m) (Below.drewN hb.out m) rfl rfl (by omega) (by omega) ?_; intro v' w' hown2 hb2; have hown2' := Lib.hid hown2; have hb2' := Lib.hid hb2; clear hown2 hb2)
          go_roundw
          case rel => exact ⟨j + 1, pre ++ [y], by omega, by go_num, hnext, hown2', hb2'⟩
          case measure => simp [intOf]; omega
        · have hje : j = n + 1 := by omega
          have hnext : Hid (pre = R.take ((i + 1) * (n + 1))) := Lib.hid (by rw [hpre.out, hje, Nat.add_mul, Nat.one_mul])
          clear hpre
          go_wp2
          go_roundw
          case rel => exact ⟨i + 1, pre, by omega, by go_num, hnext, hown, hb⟩
          case measure => simp [intOf]; omega
    · have hie : i = n + 1 := by omega
      have hfin : Hid (pre = R) := Lib.hid (by rw [hpre.out, hie, ← hsn'.out, ← hlen'.out, List.take_length])
      clear hpre
      go_wp2
      go_ret
      rw [← hfin.out]
      exact ⟨_, rfl, hown.out, hb.out⟩
end Go.Proofs.YtimgocfkogebmaaGreatDoor
namespace Go.Proofs.YtimgocfkogebmaaGreatDoor
open Go.RowKit
set_option linter.unusedVariables false
set_option linter.unusedSimpArgs false
theorem own_at {w : World} {base : Nat} {e : TypeId} {n m c g : Nat} {l : List Int} (h : w.ownsRow base e 1 (.slice (some ⟨g, 0, none⟩) m c) n (nums .i64 l)) {i : Nat} (hi : i < l.length) : w.cell? ⟨g, i, none⟩ = some (.int .i64 (l.getD i 0)) := by
  have := h.cells (g := g) rfl i (.int .i64 (l.getD i 0)) (by simp [nums, List.getD, hi])
  have e : (⟨g, 0, none⟩ : Addr).add i = ⟨g, i, none⟩ := by unfold Addr.add; split <;> simp_all
  rwa [e] at this
theorem own_put {w : World} {base : Nat} {e : TypeId} {m c g : Nat} {l : List Int} (h : w.ownsRow base e 1 (.slice (some ⟨g, 0, none⟩) m c) m (nums .i64 l)) (i : Nat) (x : Int) : (w.setCell ⟨g, i, none⟩ (.int .i64 x)).ownsRow base e 1 (.slice (some ⟨g, 0, none⟩) m c) m (nums .i64 (l.set i x)) := by
  have := (h.stored i (.int .i64 x)).1
  rwa [show (nums .i64 l).set i (.int .i64 x) = nums .i64 (l.set i x) by simp [nums]] at this
theorem thr_step {n k : Nat} (d : List Int) {i j : Nat} (hi : i ≤ n) (hj : j ≤ n) : thr n k d (i * (n + 1) + (j + 1)) = (thr n k d (i * (n + 1) + j)).set (i * (n + 1) + j) (min ((thr n k d (i * (n + 1) + j)).getD (i * (n + 1) + j) 0) ((thr n k d (i * (n + 1) + j)).getD (i * (n + 1) + k) 0 + (thr n k d (i * (n + 1) + j)).getD (k * (n + 1) + j) 0)) := by
  rw [← Nat.add_assoc]
  simp only [thr]
  rw [place_div hj, place_mod hj]
  rfl
theorem wraps_at {n i j p q : Nat} (hn : n ≤ 8) (hi : i ≤ n) (hj : j ≤ n) (hp : p = i * (n + 1)) (hq : q = p + j) : IntKind.i64.wrap ((i : Int) * ((n : Int) + 1)) = (p : Int) ∧ IntKind.i64.wrap ((p : Int) + (j : Int)) = (q : Int) ∧ q < sz n := by
  obtain ⟨p', q', h1, h2, h3, h4, h5, h6, h7, h8⟩ := place_wraps hn hi hj
  have : p' = p := by
    have : ((i * (n + 1) : Nat) : Int) = (p' : Int) := by rw [← h7, Int.natCast_mul]; rfl
    omega
  subst this
  have : q' = q := by omega
  subst this
  exact ⟨h2, h3, h5⟩
def ThrS (n k g cap base : Nat) (d : List Int) (w : World) (e : Ending) (w' : World) : Prop :=
  e = .returned (.tuple #[]) ∧ w'.ownsRow base 3 1 (.slice (some ⟨g, 0, none⟩) (sz n) cap) (sz n) (nums .i64 (thrAll n k d)) ∧ BelowE [g] w.heap.size w w'
set_option maxRecDepth 100000 in
set_option maxHeartbeats 4000000 in
theorem through_any (n k : Nat) (hn : n ≤ 8) (hk : k ≤ n) (g cap base : Nat) (d : List Int) (hd : d.length = sz n) (w : World)
    (hown : w.ownsRow base 3 1 (.slice (some ⟨g, 0, none⟩) (sz n) cap) (sz n) (nums .i64 d))
    (hbnd : ∀ t, t ≤ sz n → ∀ p, -2305843009213693952 ≤ (thr n k d t).getD p 0 ∧ (thr n k d t).getD p 0 ≤ 2305843009213693951) :
    Calls Tryz.prog 170 #[.slice (some ⟨g, 0, none⟩) (sz n) cap, .int .i64 n, .int .i64 k, .func (.func 171) #[] #[]] w (ThrS n k g cap base d w) := by
  have hs81 := sz_le hn
  have hsn : Hid (sz n = (n + 1) * (n + 1)) := Lib.hid rfl
  have hni : (n : Int) ≤ 8 := by omega
  have hki : (k : Int) ≤ 8 := by omega
  have hw1 : IntKind.i64.wrap ((n : Int) + 1) = (n : Int) + 1 := wrap_small (by omega) (by omega)
  have hd' := Lib.hid hd
  have hbnd' := Lib.hid hbnd
  have hown0 := Lib.hid hown
  obtain ⟨s, hs⟩ : ∃ s, s = sz n := ⟨_, rfl⟩
  have hs' := Lib.hid hs
  clear hown hbnd hd
  rw [← hs] at hown0 hs81 ⊢
  have hsi : (s : Int) ≤ 81 := by omega
  unfold ThrS
  rw [← hs]
  clear hs
  go_enter Tryz.func170, Tryz.ntmps170
  go_wp2
  go_loopw [13] (fun x wr => ∃ i : Nat, i ≤ n + 1 ∧ x = .int .i64 i ∧ Hid (wr.ownsRow base 3 1 (.slice (some ⟨g, 0, none⟩) s cap) s (nums .i64 (thr n k d (i * (n + 1))))) ∧ Hid (BelowE [g] w.heap.size w wr)) (fun x _ => n + 1 - (intOf x).toNat)
  case atStart => exact ⟨0, by omega, rfl, Lib.hid (by simpa [thr] using hown0.out), Lib.hid (BelowE.refl _ _ _)⟩
  case round =>
    obtain ⟨i, hin, rfl, hown, hb⟩ := hrel
    by_cases hlt : i < n + 1
    · have hii : (i : Int) < (n : Int) + 1 := by omega
      go_wp2
      go_loopw [18] (fun x wr => ∃ j : Nat, j ≤ n + 1 ∧ x = .int .i64 j ∧ Hid (wr.ownsRow base 3 1 (.slice (some ⟨g, 0, none⟩) s cap) s (nums .i64 (thr n k d (i * (n + 1) + j)))) ∧ Hid (BelowE [g] w.heap.size w wr)) (fun x _ => n + 1 - (intOf x).toNat)
      case atStart => exact ⟨0, by omega, rfl, hown, hb⟩
      case round =>
        clear hown hb
        obtain ⟨j, hjn, rfl, hown, hb⟩ := hrel
        by_cases hjt : j < n + 1
        · have hji : (j : Int) < (n : Int) + 1 := by omega
          obtain ⟨p, hp⟩ : ∃ p, p = i * (n + 1) := ⟨_, rfl⟩
          obtain ⟨pk, hpk⟩ : ∃ p, p = k * (n + 1) := ⟨_, rfl⟩
          obtain ⟨q, hq⟩ : ∃ q, q = p + j := ⟨_, rfl⟩
          obtain ⟨qi, hqi⟩ : ∃ q, q = p + k := ⟨_, rfl⟩
          obtain ⟨qk, hqk⟩ : ∃ q, q = pk + j := ⟨_, rfl⟩
          obtain ⟨a1, a2, a3⟩ := wraps_at hn (show i ≤ n by omega) (show j ≤ n by omega) hp hq
          obtain ⟨-, b2, b3⟩ := wraps_at hn (show i ≤ n by omega) hk hp hqi
          obtain ⟨c1, c2, c3⟩ := wraps_at hn hk (show j ≤ n by omega) hpk hqk
          have hst : Hid (thr n k d (p + (j + 1)) = (thr n k d q).set q (min ((thr n k d q).getD q 0) ((thr n k d q).getD qi 0 + (thr n k d q).getD qk 0))) := Lib.hid (by
            rw [hq, hqi, hqk, hp, hpk]; exact thr_step d (by omega) (by omega))
          have hown1 := hown.out
          rw [← hp, ← hq] at hown1
          rw [← hs'.out] at a3 b3 c3
          have hb1 := hbnd'.out q (by rw [← hs'.out]; omega)
          have hel : (thr n k d q).length = s := by rw [thr_len, hd'.out, hs'.out]
          have hown2 := Lib.hid hown1
          generalize thr n k d q = E at *
          have m0 := own_at hown1 (i := q) (by omega)
          have m1 := own_at hown1 (i := qi) (by omega)
          have m2 := own_at hown1 (i := qk) (by omega)
          have mf := hown1.frozenAt q
          have r1 := hb1 qi
          have r2 := hb1 qk
          have i1 : (q : Int) < (s : Int) := by omega
          have i2 : (qi : Int) < (s : Int) := by omega
          have i3 : (qk : Int) < (s : Int) := by omega
          have hb' := Lib.hid hb.out
          have hp' := Lib.hid hp
          clear hown hown1 hb1 hel hq hqi hqk hpk hb hp a3 b3 c3
          generalize E.getD q 0 = x0 at *
          generalize E.getD qi 0 = x1 at *
          generalize E.getD qk 0 = x2 at *
          have hsum := Lib.hid (fun W => zsum_any x1 x2 (by omega) (by omega) (by omega) (by omega) W)
          have hnx : Hid ((wr.setCell ⟨g, q, none⟩ (.int .i64 (if x1 + x2 < x0 then x1 + x2 else x0))).drew.ownsRow base 3 1 (.slice (some ⟨g, 0, none⟩) s cap) s (nums .i64 (thr n k d (i * (n + 1) + (j + 1))))) := Lib.hid (by
            rw [ite_min, ← hp'.out, hst.out]
            exact own_put hown2.out q _)
          have hbx : Hid (BelowE [g] w.heap.size w (wr.setCell ⟨g, q, none⟩ (.int .i64 (if x1 + x2 < x0 then x1 + x2 else x0))).drew) := Lib.hid ((hb'.out.setIn (p := ⟨g, q, none⟩) (by simp) _).drew)
          clear r1 r2 hst hown2 hb' hp' hown0 hbnd' hd' hs'
          go_wp2
          refine wp_drawn_on (fun _ => True) (by kernel_rfl) (trivial) (fun hHeld => ?_)
          refine wT 0 (v := ?v1) rfl (by kernel_rfl) (fun _ _ _ h => h) ?h1 (by assumption) ?r1
          case h1 => (intro w hSw; (try dsimp only at hSw); go_simp; try with_reducible rfl)
          refine wT 1 (v := ?v2) rfl (by kernel_rfl) (fun _ _ _ h => h) ?h2 (by assumption) ?r2
          case h2 => (intro w hSw; (try dsimp only at hSw); go_simp; try with_reducible rfl)
          refine wT 2 (v := ?v3) rfl (by kernel_rfl) (fun _ _ _ h => h) ?h3 (by assumption) ?r3
          case h3 => (intro w hSw; (try dsimp only at hSw); go_simp; try with_reducible rfl)
          refine wT 3 (v := ?v4) rfl (by kernel_rfl) (fun _ _ _ h => h) ?h4 (by assumption) ?r4
          case h4 => (intro w hSw; (try dsimp only at hSw); go_simp; try with_reducible rfl)
          refine wT 4 (v := ?v5) rfl (by kernel_rfl) (fun _ _ _ h => h) ?h5 (by assumption) ?r5
          case h5 => (intro w hSw; (try dsimp only at hSw); go_simp; try with_reducible rfl)
          refine wT 6 (v := ?v6) rfl (by kernel_rfl) (fun _ _ _ h => h) ?h6 (by assumption) ?r6
          case h6 => (intro w hSw; (try dsimp only at hSw); go_simp; try with_reducible rfl)
          refine wT 7 (v := ?v7) rfl (by kernel_rfl) (fun _ _ _ h => h) ?h7 (by assumption) ?r7
          case h7 => (intro w hSw; (try dsimp only at hSw); go_simp; try with_reducible rfl)
          refine wT 8 (v := ?v8) rfl (by kernel_rfl) (fun _ _ _ h => h) ?h8 (by assumption) ?r8
          case h8 => (intro w hSw; (try dsimp only at hSw); go_simp; try with_reducible rfl)
          refine wT 9 (v := ?v9) rfl (by kernel_rfl) (fun _ _ _ h => h) ?h9 (by assumption) ?r9
          case h9 => (intro w hSw; (try dsimp only at hSw); go_simp; try with_reducible rfl)
          refine wT 10 (v := ?v10) rfl (by kernel_rfl) (fun _ _ _ h => h) ?h10 (by assumption) ?r10
          case h10 => (intro w hSw; (try dsimp only at hSw); go_simp; try with_reducible rfl)
          refine wT 11 (v := ?v11) rfl (by kernel_rfl) (fun _ _ _ h => h) ?h11 (by assumption) ?r11
          case h11 => (intro w hSw; (try dsimp only at hSw); go_simp; try with_reducible rfl)
          refine wT 12 (v := ?v12) rfl (by kernel_rfl) (fun _ _ _ h => h) ?h12 (by assumption) ?r12
          case h12 => (intro w hSw; (try dsimp only at hSw); go_simp; try with_reducible rfl)
          refine wT 13 (v := ?v13) rfl (by kernel_rfl) (fun _ _ _ h => h) ?h13 (by assumption) ?r13
          case h13 => (intro w hSw; (try dsimp only at hSw); go_simp; try with_reducible rfl)
          refine wT 14 (v := ?v14) rfl (by kernel_rfl) (fun _ _ _ h => h) ?h14 (by assumption) ?r14
          case h14 => (intro w hSw; (try dsimp only at hSw); go_simp; try with_reducible rfl)
          refine wT 16 (v := ?v15) rfl (by kernel_rfl) (fun _ _ _ h => h) ?h15 (by assumption) ?r15
          case h15 => (intro w hSw; (try dsimp only at hSw); go_simp; try with_reducible rfl)
          refine wT 17 (v := ?v16) rfl (by kernel_rfl) (fun _ _ _ h => h) ?h16 (by assumption) ?r16
          case h16 => (intro w hSw; (try dsimp only at hSw); go_simp; try with_reducible rfl)
          refine wT 18 (v := ?v17) rfl (by kernel_rfl) (fun _ _ _ h => h) ?h17 (by assumption) ?r17
          case h17 => (intro w hSw; (try dsimp only at hSw); go_simp; try with_reducible rfl)
          refine wT 19 (v := ?v18) rfl (by kernel_rfl) (fun _ _ _ h => h) ?h18 (by assumption) ?r18
          case h18 => (intro w hSw; (try dsimp only at hSw); go_simp; try with_reducible rfl)
          refine wT 20 (v := ?v19) rfl (by kernel_rfl) (fun _ _ _ h => h) ?h19 (by assumption) ?r19
          case h19 => (intro w hSw; (try dsimp only at hSw); go_simp; try with_reducible rfl)
          refine wT 21 (v := ?v20) rfl (by kernel_rfl) (fun _ _ _ h => h) ?h20 (by assumption) ?r20
          case h20 => (intro w hSw; (try dsimp only at hSw); go_simp; try with_reducible rfl)
          refine wT 22 (v := ?v21) rfl (by kernel_rfl) (fun _ _ _ h => h) ?h21 (by assumption) ?r21
          case h21 => (intro w hSw; (try dsimp only at hSw); go_simp; try with_reducible rfl)
          refine wT 23 (v := ?v22) rfl (by kernel_rfl) (fun _ _ _ h => h) ?h22 (by assumption) ?r22
          case h22 => (intro w hSw; (try dsimp only at hSw); go_simp; try with_reducible rfl)
          try simp only [Act.put, List.setIfInBounds_toArray, List.set_cons_zero, List.set_cons_succ]
          refine wpAnyH_ready (rs := [5, 15, 24]) (by kernel_rfl) (by simp) ?_
          refine AllReadyH.cons (o := ⟨_, _, _, _, _, _⟩) rfl (fun K hK => ?_) (AllReadyH.cons (o := ⟨_, _, _, _, _, _⟩) rfl (fun K hK => ?_) (AllReadyH.cons (o := ⟨_, _, _, _, _, _⟩) rfl (fun K hK => ?_) AllReadyH.nil))
          · go_simp
            refine hK.out _ _ hHeld (fun hHeld => ?_)
            clear hK K
            try simp only [Act.put, List.setIfInBounds_toArray, List.set_cons_zero, List.set_cons_succ]
            refine wpAnyH_ready (rs := [15, 24]) (by kernel_rfl) (by simp) ?_
            refine AllReadyH.cons (o := ⟨_, _, _, _, _, _⟩) rfl (fun K hK => ?_) (AllReadyH.cons (o := ⟨_, _, _, _, _, _⟩) rfl (fun K hK => ?_) AllReadyH.nil)
            · go_simp
              refine hK.out _ _ hHeld (fun hHeld => ?_)
              clear hK K
              try simp only [Act.put, List.setIfInBounds_toArray, List.set_cons_zero, List.set_cons_succ]
              refine wpAnyH_ready (rs := [24]) (by kernel_rfl) (by simp) ?_
              refine AllReadyH.cons (o := ⟨_, _, _, _, _, _⟩) rfl (fun K hK => ?_) AllReadyH.nil
              go_simp
              refine hK.out _ _ hHeld (fun hHeld => ?_)
              clear hK K
              try simp only [Act.put, List.setIfInBounds_toArray, List.set_cons_zero, List.set_cons_succ]
              refine wpAnyH_ready (rs := [25]) (by kernel_rfl) (by simp) ?_
              refine AllReadyH.cons (o := ⟨_, _, _, _, _, _⟩) rfl (fun K hK => ?_) AllReadyH.nil
              go_simp
              refine (hsum.out _).mono ?_
              rintro e w5 ⟨rfl, rfl⟩
              go_simp
              refine hK.out _ _ (trivial) (fun hHeld => ?_)
              clear hK K
              refine wT 26 (v := ?v23) rfl (by kernel_rfl) (fun _ _ _ h => h) ?h23 (by assumption) ?r23
              case h23 => (intro w hSw; (try dsimp only at hSw); go_simp; try with_reducible rfl)
              refine wT 27 (v := ?v24) rfl (by kernel_rfl) (fun _ _ _ h => h) ?h24 (by assumption) ?r24
              case h24 => (intro w hSw; (try dsimp only at hSw); go_simp; try with_reducible rfl)
              try simp only [Act.put, List.setIfInBounds_toArray, List.set_cons_zero, List.set_cons_succ]
              refine wpAnyH_ready (rs := [28]) (by kernel_rfl) (by simp) ?_
              refine AllReadyH.cons (o := ⟨_, _, _, _, _, _⟩) rfl (fun K hK => ?_) AllReadyH.nil
              go_simp
              refine hK.out _ _ (trivial) (fun hHeld => ?_)
              clear hK K
              try simp only [Act.put, List.setIfInBounds_toArray, List.set_cons_zero, List.set_cons_succ]
              refine wpAnyH_done (by kernel_rfl) ?_ _
              go_wp2
              go_roundw
              case rel => exact ⟨j + 1, by omega, by go_num, hnx, hbx⟩
              case measure => simp [intOf]; omega
            · go_simp
              refine hK.out _ _ hHeld (fun hHeld => ?_)
              clear hK K
              try simp only [Act.put, List.setIfInBounds_toArray, List.set_cons_zero, List.set_cons_succ]
              refine wpAnyH_ready (rs := [15]) (by kernel_rfl) (by simp) ?_
              refine AllReadyH.cons (o := ⟨_, _, _, _, _, _⟩) rfl (fun K hK => ?_) AllReadyH.nil
              go_simp
              refine hK.out _ _ hHeld (fun hHeld => ?_)
              clear hK K
              try simp only [Act.put, List.setIfInBounds_toArray, List.set_cons_zero, List.set_cons_succ]
              refine wpAnyH_ready (rs := [25]) (by kernel_rfl) (by simp) ?_
              refine AllReadyH.cons (o := ⟨_, _, _, _, _, _⟩) rfl (fun K hK => ?_) AllReadyH.nil
              go_simp
              refine (hsum.out _).mono ?_
              rintro e w5 ⟨rfl, rfl⟩
              go_simp
              refine hK.out _ _ (trivial) (fun hHeld => ?_)
              clear hK K
              refine wT 26 (v := ?v25) rfl (by kernel_rfl) (fun _ _ _ h => h) ?h25 (by assumption) ?r25
              case h25 => (intro w hSw; (try dsimp only at hSw); go_simp; try with_reducible rfl)
              refine wT 27 (v := ?v26) rfl (by kernel_rfl) (fun _ _ _ h => h) ?h26 (by assumption) ?r26
              case h26 => (intro w hSw; (try dsimp only at hSw); go_simp; try with_reducible rfl)
              try simp only [Act.put, List.setIfInBounds_toArray, List.set_cons_zero, List.set_cons_succ]
              refine wpAnyH_ready (rs := [28]) (by kernel_rfl) (by simp) ?_
              refine AllReadyH.cons (o := ⟨_, _, _, _, _, _⟩) rfl (fun K hK => ?_) AllReadyH.nil
              go_simp
              refine hK.out _ _ (trivial) (fun hHeld => ?_)
              clear hK K
              try simp only [Act.put, List.setIfInBounds_toArray, List.set_cons_zero, List.set_cons_succ]
              refine wpAnyH_done (by kernel_rfl) ?_ _
              go_wp2
              go_roundw
              case rel => exact ⟨j + 1, by omega, by go_num, hnx, hbx⟩
              case measure => simp [intOf]; omega
          · go_simp
            refine hK.out _ _ hHeld (fun hHeld => ?_)
            clear hK K
            try simp only [Act.put, List.setIfInBounds_toArray, List.set_cons_zero, List.set_cons_succ]
            refine wpAnyH_ready (rs := [5, 24]) (by kernel_rfl) (by simp) ?_
            refine AllReadyH.cons (o := ⟨_, _, _, _, _, _⟩) rfl (fun K hK => ?_) (AllReadyH.cons (o := ⟨_, _, _, _, _, _⟩) rfl (fun K hK => ?_) AllReadyH.nil)
            · go_simp
              refine hK.out _ _ hHeld (fun hHeld => ?_)
              clear hK K
              try simp only [Act.put, List.setIfInBounds_toArray, List.set_cons_zero, List.set_cons_succ]
              refine wpAnyH_ready (rs := [24]) (by kernel_rfl) (by simp) ?_
              refine AllReadyH.cons (o := ⟨_, _, _, _, _, _⟩) rfl (fun K hK => ?_) AllReadyH.nil
              go_simp
              refine hK.out _ _ hHeld (fun hHeld => ?_)
              clear hK K
              try simp only [Act.put, List.setIfInBounds_toArray, List.set_cons_zero, List.set_cons_succ]
              refine wpAnyH_ready (rs := [25]) (by kernel_rfl) (by simp) ?_
              refine AllReadyH.cons (o := ⟨_, _, _, _, _, _⟩) rfl (fun K hK => ?_) AllReadyH.nil
              go_simp
              refine (hsum.out _).mono ?_
              rintro e w5 ⟨rfl, rfl⟩
              go_simp
              refine hK.out _ _ (trivial) (fun hHeld => ?_)
              clear hK K
              refine wT 26 (v := ?v27) rfl (by kernel_rfl) (fun _ _ _ h => h) ?h27 (by assumption) ?r27
              case h27 => (intro w hSw; (try dsimp only at hSw); go_simp; try with_reducible rfl)
              refine wT 27 (v := ?v28) rfl (by kernel_rfl) (fun _ _ _ h => h) ?h28 (by assumption) ?r28
              case h28 => (intro w hSw; (try dsimp only at hSw); go_simp; try with_reducible rfl)
              try simp only [Act.put, List.setIfInBounds_toArray, List.set_cons_zero, List.set_cons_succ]
              refine wpAnyH_ready (rs := [28]) (by kernel_rfl) (by simp) ?_
              refine AllReadyH.cons (o := ⟨_, _, _, _, _, _⟩) rfl (fun K hK => ?_) AllReadyH.nil
              go_simp
              refine hK.out _ _ (trivial) (fun hHeld => ?_)
              clear hK K
              try simp only [Act.put, List.setIfInBounds_toArray, List.set_cons_zero, List.set_cons_succ]
              refine wpAnyH_done (by kernel_rfl) ?_ _
              go_wp2
              go_roundw
              case rel => exact ⟨j + 1, by omega, by go_num, hnx, hbx⟩
              case measure => simp [intOf]; omega
            · go_simp
              refine hK.out _ _ hHeld (fun hHeld => ?_)
              clear hK K
              try simp only [Act.put, List.setIfInBounds_toArray, List.set_cons_zero, List.set_cons_succ]
              refine wpAnyH_ready (rs := [5, 25]) (by kernel_rfl) (by simp) ?_
              refine AllReadyH.cons (o := ⟨_, _, _, _, _, _⟩) rfl (fun K hK => ?_) (AllReadyH.cons (o := ⟨_, _, _, _, _, _⟩) rfl (fun K hK => ?_) AllReadyH.nil)
              · go_simp
                refine hK.out _ _ hHeld (fun hHeld => ?_)
                clear hK K
                try simp only [Act.put, List.setIfInBounds_toArray, List.set_cons_zero, List.set_cons_succ]
                refine wpAnyH_ready (rs := [25]) (by kernel_rfl) (by simp) ?_
                refine AllReadyH.cons (o := ⟨_, _, _, _, _, _⟩) rfl (fun K hK => ?_) AllReadyH.nil
                go_simp
                refine (hsum.out _).mono ?_
                rintro e w5 ⟨rfl, rfl⟩
                go_simp
                refine hK.out _ _ (trivial) (fun hHeld => ?_)
                clear hK K
                refine wT 26 (v := ?v29) rfl (by kernel_rfl) (fun _ _ _ h => h) ?h29 (by assumption) ?r29
                case h29 => (intro w hSw; (try dsimp only at hSw); go_simp; try with_reducible rfl)
                refine wT 27 (v := ?v30) rfl (by kernel_rfl) (fun _ _ _ h => h) ?h30 (by assumption) ?r30
                case h30 => (intro w hSw; (try dsimp only at hSw); go_simp; try with_reducible rfl)
                try simp only [Act.put, List.setIfInBounds_toArray, List.set_cons_zero, List.set_cons_succ]
                refine wpAnyH_ready (rs := [28]) (by kernel_rfl) (by simp) ?_
                refine AllReadyH.cons (o := ⟨_, _, _, _, _, _⟩) rfl (fun K hK => ?_) AllReadyH.nil
                go_simp
                refine hK.out _ _ (trivial) (fun hHeld => ?_)
                clear hK K
                try simp only [Act.put, List.setIfInBounds_toArray, List.set_cons_zero, List.set_cons_succ]
                refine wpAnyH_done (by kernel_rfl) ?_ _
                go_wp2
                go_roundw
                case rel => exact ⟨j + 1, by omega, by go_num, hnx, hbx⟩
                case measure => simp [intOf]; omega
              · go_simp
                refine (hsum.out _).mono ?_
                rintro e w5 ⟨rfl, rfl⟩
                go_simp
                refine hK.out _ _ (trivial) (fun hHeld => ?_)
                clear hK K
                try simp only [Act.put, List.setIfInBounds_toArray, List.set_cons_zero, List.set_cons_succ]
                refine wpAnyH_ready (rs := [5]) (by kernel_rfl) (by simp) ?_
                refine AllReadyH.cons (o := ⟨_, _, _, _, _, _⟩) rfl (fun K hK => ?_) AllReadyH.nil
                go_simp
                refine hK.out _ _ hHeld (fun hHeld => ?_)
                clear hK K
                refine wT 26 (v := ?v31) rfl (by kernel_rfl) (fun _ _ _ h => h) ?h31 (by assumption) ?r31
                case h31 => (intro w hSw; (try dsimp only at hSw); go_simp; try with_reducible rfl)
                refine wT 27 (v := ?v32) rfl (by kernel_rfl) (fun _ _ _ h => h) ?h32 (by assumption) ?r32
                case h32 => (intro w hSw; (try dsimp only at hSw); go_simp; try with_reducible rfl)
                try simp only [Act.put, List.setIfInBounds_toArray, List.set_cons_zero, List.set_cons_succ]
                refine wpAnyH_ready (rs := [28]) (by kernel_rfl) (by simp) ?_
                refine AllReadyH.cons (o := ⟨_, _, _, _, _, _⟩) rfl (fun K hK => ?_) AllReadyH.nil
                go_simp
                refine hK.out _ _ (trivial) (fun hHeld => ?_)
                clear hK K
                try simp only [Act.put, List.setIfInBounds_toArray, List.set_cons_zero, List.set_cons_succ]
                refine wpAnyH_done (by kernel_rfl) ?_ _
                go_wp2
                go_roundw
                case rel => exact ⟨j + 1, by omega, by go_num, hnx, hbx⟩
                case measure => simp [intOf]; omega
          · go_simp
            refine hK.out _ _ hHeld (fun hHeld => ?_)
            clear hK K
            try simp only [Act.put, List.setIfInBounds_toArray, List.set_cons_zero, List.set_cons_succ]
            refine wpAnyH_ready (rs := [5, 15]) (by kernel_rfl) (by simp) ?_
            refine AllReadyH.cons (o := ⟨_, _, _, _, _, _⟩) rfl (fun K hK => ?_) (AllReadyH.cons (o := ⟨_, _, _, _, _, _⟩) rfl (fun K hK => ?_) AllReadyH.nil)
            · go_simp
              refine hK.out _ _ hHeld (fun hHeld => ?_)
              clear hK K
              try simp only [Act.put, List.setIfInBounds_toArray, List.set_cons_zero, List.set_cons_succ]
              refine wpAnyH_ready (rs := [15]) (by kernel_rfl) (by simp) ?_
              refine AllReadyH.cons (o := ⟨_, _, _, _, _, _⟩) rfl (fun K hK => ?_) AllReadyH.nil
              go_simp
              refine hK.out _ _ hHeld (fun hHeld => ?_)
              clear hK K
              try simp only [Act.put, List.setIfInBounds_toArray, List.set_cons_zero, List.set_cons_succ]
              refine wpAnyH_ready (rs := [25]) (by kernel_rfl) (by simp) ?_
              refine AllReadyH.cons (o := ⟨_, _, _, _, _, _⟩) rfl (fun K hK => ?_) AllReadyH.nil
              go_simp
              refine (hsum.out _).mono ?_
              rintro e w5 ⟨rfl, rfl⟩
              go_simp
              refine hK.out _ _ (trivial) (fun hHeld => ?_)
              clear hK K
              refine wT 26 (v := ?v33) rfl (by kernel_rfl) (fun _ _ _ h => h) ?h33 (by assumption) ?r33
              case h33 => (intro w hSw; (try dsimp only at hSw); go_simp; try with_reducible rfl)
              refine wT 27 (v := ?v34) rfl (by kernel_rfl) (fun _ _ _ h => h) ?h34 (by assumption) ?r34
              case h34 => (intro w hSw; (try dsimp only at hSw); go_simp; try with_reducible rfl)
              try simp only [Act.put, List.setIfInBounds_toArray, List.set_cons_zero, List.set_cons_succ]
              refine wpAnyH_ready (rs := [28]) (by kernel_rfl) (by simp) ?_
              refine AllReadyH.cons (o := ⟨_, _, _, _, _, _⟩) rfl (fun K hK => ?_) AllReadyH.nil
              go_simp
              refine hK.out _ _ (trivial) (fun hHeld => ?_)
              clear hK K
              try simp only [Act.put, List.setIfInBounds_toArray, List.set_cons_zero, List.set_cons_succ]
              refine wpAnyH_done (by kernel_rfl) ?_ _
              go_wp2
              go_roundw
              case rel => exact ⟨j + 1, by omega, by go_num, hnx, hbx⟩
              case measure => simp [intOf]; omega
            · go_simp
              refine hK.out _ _ hHeld (fun hHeld => ?_)
              clear hK K
              try simp only [Act.put, List.setIfInBounds_toArray, List.set_cons_zero, List.set_cons_succ]
              refine wpAnyH_ready (rs := [5, 25]) (by kernel_rfl) (by simp) ?_
              refine AllReadyH.cons (o := ⟨_, _, _, _, _, _⟩) rfl (fun K hK => ?_) (AllReadyH.cons (o := ⟨_, _, _, _, _, _⟩) rfl (fun K hK => ?_) AllReadyH.nil)
              · go_simp
                refine hK.out _ _ hHeld (fun hHeld => ?_)
                clear hK K
                try simp only [Act.put, List.setIfInBounds_toArray, List.set_cons_zero, List.set_cons_succ]
                refine wpAnyH_ready (rs := [25]) (by kernel_rfl) (by simp) ?_
                refine AllReadyH.cons (o := ⟨_, _, _, _, _, _⟩) rfl (fun K hK => ?_) AllReadyH.nil
                go_simp
                refine (hsum.out _).mono ?_
                rintro e w5 ⟨rfl, rfl⟩
                go_simp
                refine hK.out _ _ (trivial) (fun hHeld => ?_)
                clear hK K
                refine wT 26 (v := ?v35) rfl (by kernel_rfl) (fun _ _ _ h => h) ?h35 (by assumption) ?r35
                case h35 => (intro w hSw; (try dsimp only at hSw); go_simp; try with_reducible rfl)
                refine wT 27 (v := ?v36) rfl (by kernel_rfl) (fun _ _ _ h => h) ?h36 (by assumption) ?r36
                case h36 => (intro w hSw; (try dsimp only at hSw); go_simp; try with_reducible rfl)
                try simp only [Act.put, List.setIfInBounds_toArray, List.set_cons_zero, List.set_cons_succ]
                refine wpAnyH_ready (rs := [28]) (by kernel_rfl) (by simp) ?_
                refine AllReadyH.cons (o := ⟨_, _, _, _, _, _⟩) rfl (fun K hK => ?_) AllReadyH.nil
                go_simp
                refine hK.out _ _ (trivial) (fun hHeld => ?_)
                clear hK K
                try simp only [Act.put, List.setIfInBounds_toArray, List.set_cons_zero, List.set_cons_succ]
                refine wpAnyH_done (by kernel_rfl) ?_ _
                go_wp2
                go_roundw
                case rel => exact ⟨j + 1, by omega, by go_num, hnx, hbx⟩
                case measure => simp [intOf]; omega
              · go_simp
                refine (hsum.out _).mono ?_
                rintro e w5 ⟨rfl, rfl⟩
                go_simp
                refine hK.out _ _ (trivial) (fun hHeld => ?_)
                clear hK K
                try simp only [Act.put, List.setIfInBounds_toArray, List.set_cons_zero, List.set_cons_succ]
                refine wpAnyH_ready (rs := [5]) (by kernel_rfl) (by simp) ?_
                refine AllReadyH.cons (o := ⟨_, _, _, _, _, _⟩) rfl (fun K hK => ?_) AllReadyH.nil
                go_simp
                refine hK.out _ _ hHeld (fun hHeld => ?_)
                clear hK K
                refine wT 26 (v := ?v37) rfl (by kernel_rfl) (fun _ _ _ h => h) ?h37 (by assumption) ?r37
                case h37 => (intro w hSw; (try dsimp only at hSw); go_simp; try with_reducible rfl)
                refine wT 27 (v := ?v38) rfl (by kernel_rfl) (fun _ _ _ h => h) ?h38 (by assumption) ?r38
                case h38 => (intro w hSw; (try dsimp only at hSw); go_simp; try with_reducible rfl)
                try simp only [Act.put, List.setIfInBounds_toArray, List.set_cons_zero, List.set_cons_succ]
                refine wpAnyH_ready (rs := [28]) (by kernel_rfl) (by simp) ?_
                refine AllReadyH.cons (o := ⟨_, _, _, _, _, _⟩) rfl (fun K hK => ?_) AllReadyH.nil
                go_simp
                refine hK.out _ _ (trivial) (fun hHeld => ?_)
                clear hK K
                try simp only [Act.put, List.setIfInBounds_toArray, List.set_cons_zero, List.set_cons_succ]
                refine wpAnyH_done (by kernel_rfl) ?_ _
                go_wp2
                go_roundw
                case rel => exact ⟨j + 1, by omega, by go_num, hnx, hbx⟩
                case measure => simp [intOf]; omega
        · have hje : j = n + 1 := by omega
          have hnext : Hid (wr.ownsRow base 3 1 (.slice (some ⟨g, 0, none⟩) s cap) s (nums .i64 (thr n k d ((i + 1) * (n + 1))))) := Lib.hid (by
            have := hown.out
            rw [hje] at this
            rw [Nat.add_mul, Nat.one_mul]; exact this)
          clear hown
          go_wp2
          go_roundw
          case rel => exact ⟨i + 1, by omega, by go_num, hnext, hb⟩
          case measure => simp [intOf]; omega
    · have hie : i = n + 1 := by omega
      have hfin : Hid (wr.ownsRow base 3 1 (.slice (some ⟨g, 0, none⟩) s cap) s (nums .i64 (thrAll n k d))) := Lib.hid (by
        have := hown.out
        rw [hie] at this
        exact this)
      clear hown
      go_wp2
      go_end0
      exact ⟨rfl, hfin.out, hb.out⟩
theorem below_any (n : Nat) (hn : n ≤ 8) (a : Option Addr) (d : List Int) (s c : Nat) (hs : s = d.length) (hsz : s = sz n) (B : Nat) (w : World) (h : Sees .i64 B w a d) :
    Calls Tryz.prog 172 #[.slice a s c, .int .i64 n] w (Tells (.bool (belowL n d)) w) := by
  have hs' := Lib.hid hs
  have hsz' := Lib.hid hsz
  have h' := Lib.hid h
  have hni : (n : Int) ≤ 8 := by omega
  have hw1 : IntKind.i64.wrap ((n : Int) + 2) = (n : Int) + 2 := wrap_small (by omega) (by omega)
  clear hs hsz h
  go_enter Tryz.func172, Tryz.ntmps172
  go_wp2
  go_loop [8] (fun x => ∃ i : Nat, i ≤ n + 1 ∧ x = .int .i64 i ∧ Hid (∀ j, j < i → ¬ d.getD (j * (n + 2)) 0 < 0)) (fun x => n + 1 - (intOf x).toNat)
  case atStart => exact ⟨0, by omega, rfl, Lib.hid (by intro j hj; omega)⟩
  case round =>
    obtain ⟨i, hin, rfl, hno⟩ := hrel
    by_cases hlt : i < n + 1
    · have hii : (i : Int) < (n : Int) + 1 := by omega
      have hpl := place_lt (n := n) (i := i) (j := i) (by omega) (by omega)
      have he : i * (n + 2) = i * (n + 1) + i := by rw [show n + 2 = (n + 1) + 1 by omega, Nat.mul_add]; omega
      have hs81 := sz_le hn
      have hsn : sz n = (n + 1) * (n + 1) := rfl
      have hsz := hsz'.out
      obtain ⟨q, hq⟩ : ∃ q, q = i * (n + 2) := ⟨_, rfl⟩
      have hqs : q < s := by omega
      have hqi : (i : Int) * ((n : Int) + 2) = (q : Int) := by rw [hq, Int.natCast_mul]; rfl
      have hw2 : IntKind.i64.wrap ((i : Int) * ((n : Int) + 2)) = (q : Int) := by rw [hqi]; exact wrap_small (by omega) (by omega)
      obtain ⟨b, off, rfl, -, hc⟩ := sees_at' h'.out (i := q) (by have := hs'.out; omega)
      have hin2 : (q : Int) < (s : Int) := by omega
      have hyes : Hid (d.getD q 0 < 0 → belowL n d = true) := Lib.hid (fun hlt0 => by
        unfold belowL
        rw [List.any_eq_true]
        exact ⟨i, List.mem_range.2 (by omega), by rw [← hq]; exact decide_eq_true hlt0⟩)
      have hnext : Hid (¬ d.getD q 0 < 0 → ∀ j, j < i + 1 → ¬ d.getD (j * (n + 2)) 0 < 0) := Lib.hid (fun hlt0 j hj => by
        by_cases e : j = i
        · subst e; rw [← hq]; exact hlt0
        · exact hno.out j (by omega))
      clear hpl he hs81 hsn hsz hq hqi hno
      generalize d.getD q 0 = x at *
      by_cases hx : x < 0
      · have hr := Lib.hid (hyes.out hx)
        clear hyes hnext
        go_wp2
        go_ret
        exact ⟨by rw [hr.out]; rfl, rfl⟩
      · have hn2 := Lib.hid (hnext.out hx)
        clear hyes hnext
        go_wp2
        go_round
        case rel => exact ⟨i + 1, by omega, by go_num, hn2⟩
        case measure => simp [intOf]; omega
    · have hr : Hid (belowL n d = false) := Lib.hid (by
        unfold belowL
        rw [List.any_eq_false]
        intro j hj
        rw [List.mem_range] at hj
        rw [decide_eq_true_eq]
        exact hno.out j (by omega))
      clear hno
      go_wp2
      go_ret
      exact ⟨by rw [hr.out]; rfl, rfl⟩
theorem zequal_any (a1 a2 : Option Addr) (l1 l2 : List Int) (n1 n2 c1 c2 : Nat) (h1 : n1 = l1.length) (h2 : n2 = l2.length) (hl1 : n1 ≤ 9223372036854775807) (hl2 : n2 ≤ 9223372036854775807) (B : Nat) (w : World) (s1 : Sees .i64 B w a1 l1) (s2 : Sees .i64 B w a2 l2) :
    Calls Tryz.prog 131 #[.slice a1 n1 c1, .slice a2 n2 c2] w (ReadsV (.bool (decide (l1 = l2))) w) := by
  by_cases hn : n1 = n2
  · subst hn
    have hli : (n1 : Int) ≤ 9223372036854775807 := by omega
    have h1' := Lib.hid h1
    have h2' := Lib.hid h2
    have s1' := Lib.hid s1
    have s2' := Lib.hid s2
    clear h1 h2 s1 s2 hl1 hl2
    go_enter Tryz.func131, Tryz.ntmps131
    go_wp2
    go_loopw [13] (fun x wr => ∃ k m : Nat, k ≤ n1 ∧ x = .int .i64 k ∧ Hid (∀ j, j < k → l1.getD j 0 = l2.getD j 0) ∧ wr = w.drewN m) (fun x _ => n1 - (intOf x).toNat)
    case atStart => exact ⟨0, 0, Nat.zero_le _, rfl, Lib.hid (by intro j hj; omega), rfl⟩
    case round =>
      obtain ⟨k, m, hk, rfl, he, rfl⟩ := hrel
      by_cases hlt : k < n1
      · obtain ⟨b1, o1, rfl, -, e1⟩ := sees_at' s1'.out (i := k) (by have := h1'.out; omega)
        obtain ⟨b2, o2, rfl, -, e2⟩ := sees_at' s2'.out (i := k) (by have := h2'.out; omega)
        have hki : (k : Int) < (n1 : Int) := by omega
        have hyes : Hid (l1.getD k 0 = l2.getD k 0 → ∀ j, j < k + 1 → l1.getD j 0 = l2.getD j 0) := Lib.hid (fun hx j hj => by
          by_cases e : j = k
          · subst e; exact hx
          · exact he.out j (by omega))
        have hno : Hid (l1.getD k 0 ≠ l2.getD k 0 → decide (l1 = l2) = false) := Lib.hid (fun hx => decide_eq_false (fun e => hx (by rw [e])))
        clear he
        generalize l1.getD k 0 = x at *
        generalize l2.getD k 0 = y at *
        by_cases hxy : x = y
        · subst hxy
          have hy2 := Lib.hid (hyes.out rfl)
          clear hyes hno
          go_wp2
          go_quiet (fail)
          go_wp2
          go_roundw
          case rel => exact ⟨k + 1, m + nq, by omega, by go_num, hy2, by simp [World.drewN, Nat.add_assoc]⟩
          case measure => simp [intOf]; omega
        · have hr := Lib.hid (hno.out hxy)
          have hxy2 : (x == y) = false := by simpa using hxy
          have hxy3 : (x != y) = true := by simpa using hxy
          clear hyes hno
          go_wp2
          go_quiet (fail)
          go_wp2
          go_ret
          exact ⟨by rw [hr.out]; rfl, m + nq, by simp [World.drewN, Nat.add_assoc]⟩
      · have hr : Hid (decide (l1 = l2) = true) := Lib.hid (decide_eq_true (by
          have q1 := h1'.out
          have q2 := h2'.out
          apply List.ext_getElem (by omega)
          intro j g1 g2
          have := he.out j (by omega)
          simpa [List.getD, g1, g2] using this))
        clear he
        go_wp2
        go_ret
        exact ⟨by rw [hr.out]; rfl, m, rfl⟩
  · have hr : decide (l1 = l2) = false := decide_eq_false (fun e => hn (by rw [h1, h2, e]))
    rw [hr]
    have hi1 : (n1 : Int) ≠ (n2 : Int) := by omega
    have hi2 : ((n1 : Int) != (n2 : Int)) = true := by simpa using hi1
    clear h1 h2 s1 s2 hr hn
    go_enter Tryz.func131, Tryz.ntmps131
    go_wp2
    go_ret
    exact ⟨rfl, 0, rfl⟩
end Go.Proofs.YtimgocfkogebmaaGreatDoor
