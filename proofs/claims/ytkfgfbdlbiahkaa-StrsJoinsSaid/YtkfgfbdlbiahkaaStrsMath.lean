/- Texts, ordered by their bytes: rows that rise; what is put in where it must stand; the two ways to a table. -/
import Derived.Test.YtkfgfbdlbiahkaaKit
import Derived.Sort.Walk0
import Derived.Lib.SlicesCompact
namespace Go.Proofs.Ytkfgfbdlbiahkaa
open Go.RowKit
set_option linter.unusedVariables false
set_option linter.unusedSimpArgs false

/-- The bytes of a text. -/
abbrev B8 := List UInt8
def byt (s : ByteArray) : B8 := s.data.toList
theorem byt_inj {a b : ByteArray} (h : byt a = byt b) : a = b := ByteArray.ext (Array.toList_inj.1 h)
def lt8 (a b : B8) : Bool := Op.bytesLess a b
theorem lt8_is (a b : B8) : lt8 a b = decide (a < b) := bytesLess_eq a b
theorem lt8_irrefl (a : B8) : lt8 a a = false := by
  rw [lt8_is]; exact decide_eq_false (List.lt_irrefl a)
theorem lt8_trans {a b c : B8} (h : lt8 a b = true) (k : lt8 b c = true) : lt8 a c = true := by
  rw [lt8_is, decide_eq_true_eq] at *
  exact List.lt_trans h k
theorem lt8_tri {a b : B8} (h : lt8 a b = false) (k : lt8 b a = false) : a = b := by
  rw [lt8_is, decide_eq_false_iff_not] at *
  exact List.le_antisymm (List.not_lt.1 k) (List.not_lt.1 h)
theorem lt8_asymm {a b : B8} (h : lt8 a b = true) : lt8 b a = false := by
  cases k : lt8 b a
  · rfl
  · have := lt8_trans h k; rw [lt8_irrefl] at this; cases this
def Asc (l : List B8) : Prop := l.Pairwise fun a b => lt8 a b = true
/-- Two rows that rise and have the same texts are the same. -/
theorem asc_ext : ∀ {l m : List B8}, Asc l → Asc m → (∀ x, x ∈ l ↔ x ∈ m) → l = m
  | [], [], _, _, _ => rfl
  | [], y :: m, _, _, h => by have := (h y).2 (by simp); simp at this
  | x :: l, [], _, _, h => by have := (h x).1 (by simp); simp at this
  | x :: l, y :: m, hl, hm, h => by
    unfold Asc at hl hm
    rw [List.pairwise_cons] at hl hm
    have hxy : x = y := by
      have hx := (h x).1 (by simp)
      have hy := (h y).2 (by simp)
      rcases List.mem_cons.1 hx with e | hx
      · exact e
      rcases List.mem_cons.1 hy with e | hy
      · exact e.symm
      have h1 := hm.1 x hx
      have h2 := hl.1 y hy
      rw [lt8_asymm h1] at h2
      cases h2
    subst hxy
    have : l = m := asc_ext hl.2 hm.2 (fun z => by
      constructor
      · intro hz
        have := (h z).1 (List.mem_cons_of_mem _ hz)
        rcases List.mem_cons.1 this with rfl | k
        · have := hl.1 _ hz; rw [lt8_irrefl] at this; cases this
        · exact k
      · intro hz
        have := (h z).2 (List.mem_cons_of_mem _ hz)
        rcases List.mem_cons.1 this with rfl | k
        · have := hm.1 _ hz; rw [lt8_irrefl] at this; cases this
        · exact k)
    rw [this]
/-- A text, put in. -/
def ins : List B8 → B8 → List B8
  | [], s => [s]
  | x :: r, s => if lt8 x s then x :: ins r s else if x = s then x :: r else s :: x :: r
theorem ins_mem (s : B8) : ∀ (l : List B8) (x : B8), x ∈ ins l s ↔ x = s ∨ x ∈ l
  | [], x => by simp [ins]
  | y :: r, x => by
    unfold ins
    split
    · rw [List.mem_cons, ins_mem s r x, List.mem_cons]
      constructor
      · rintro (h | h | h)
        · exact .inr (.inl h)
        · exact .inl h
        · exact .inr (.inr h)
      · rintro (h | h | h)
        · exact .inr (.inl h)
        · exact .inl h
        · exact .inr (.inr h)
    · split
      · rename_i h
        subst h
        simp
      · simp
theorem ins_asc (s : B8) : ∀ {l : List B8}, Asc l → Asc (ins l s)
  | [], _ => by simp [ins, Asc]
  | y :: r, h => by
    unfold Asc at h
    rw [List.pairwise_cons] at h
    unfold ins
    cases h1 : lt8 y s
    · rw [if_neg (by simp)]
      by_cases h2 : y = s
      · rw [if_pos h2]; exact List.pairwise_cons.2 h
      · rw [if_neg h2]
        have h3 : lt8 s y = true := by
          cases h4 : lt8 s y
          · exact absurd (lt8_tri h1 h4) h2
          · rfl
        refine List.pairwise_cons.2 ⟨fun z hz => ?_, List.pairwise_cons.2 h⟩
        rcases List.mem_cons.1 hz with rfl | hz
        · exact h3
        · exact lt8_trans h3 (h.1 z hz)
    · rw [if_pos rfl]
      refine List.pairwise_cons.2 ⟨fun z hz => ?_, ins_asc s h.2⟩
      rcases (ins_mem s r z).1 hz with rfl | hz
      · exact h1
      · exact h.1 z hz
theorem ins_len (s : B8) : ∀ l : List B8, (ins l s).length ≤ l.length + 1
  | [] => by simp [ins]
  | y :: r => by
    unfold ins
    have := ins_len s r
    split
    · simp; omega
    · split <;> simp
/-- The texts, each once, rising. -/
def ofL (l : List B8) : List B8 := l.foldl ins []
theorem of_snoc (l : List B8) (s : B8) : ofL (l ++ [s]) = ins (ofL l) s := by simp [ofL]
theorem ofL_facts : ∀ (l : List B8) (acc : List B8), Asc acc → Asc (l.foldl ins acc) ∧ (∀ x, x ∈ l.foldl ins acc ↔ x ∈ l ∨ x ∈ acc) ∧ (l.foldl ins acc).length ≤ l.length + acc.length
  | [], acc, h => ⟨h, by simp, by simp⟩
  | y :: r, acc, h => by
    obtain ⟨h1, h2, h3⟩ := ofL_facts r (ins acc y) (ins_asc y h)
    refine ⟨h1, fun x => ?_, ?_⟩
    · rw [List.foldl_cons, h2, ins_mem, List.mem_cons]
      constructor
      · rintro (h | h | h)
        · exact .inl (.inr h)
        · exact .inl (.inl h)
        · exact .inr h
      · rintro ((h | h) | h)
        · exact .inr (.inl h)
        · exact .inl h
        · exact .inr (.inr h)
    · rw [List.foldl_cons]
      have := ins_len y acc
      simp only [List.length_cons]
      omega
theorem of_asc (l : List B8) : Asc (ofL l) := (ofL_facts l [] List.Pairwise.nil).1
theorem of_mem {l : List B8} {x : B8} : x ∈ ofL l ↔ x ∈ l := by have := (ofL_facts l [] List.Pairwise.nil).2.1 x; simpa [ofL] using this
theorem of_len (l : List B8) : (ofL l).length ≤ l.length := by have := (ofL_facts l [] List.Pairwise.nil).2.2; simpa [ofL] using this
theorem of_eq {l m : List B8} (h : Asc m) (hm : ∀ x, x ∈ m ↔ x ∈ l) : ofL l = m := asc_ext (of_asc l) h fun x => of_mem.trans (hm x).symm
theorem of_self {l : List B8} (h : Asc l) : ofL l = l := of_eq h fun x => Iff.rfl
theorem of_same {l m : List B8} (h : ∀ x, x ∈ l ↔ x ∈ m) : ofL l = ofL m := of_eq (of_asc m) fun x => of_mem.trans (h x).symm
/-- Sorted, and of runs one each: the same. -/
theorem comp_mem (d : Array B8) (x : B8) : ∀ m, x ∈ Lib.compactUpTo d m ↔ ∃ j, j < m ∧ d[j]! = x
  | 0 => by simp [Lib.compactUpTo]
  | m + 1 => by
    rw [Lib.compactUpTo_succ, List.mem_append, comp_mem d x m]
    constructor
    · rintro (⟨j, hj, e⟩ | h)
      · exact ⟨j, by omega, e⟩
      · split at h
        · exact ⟨m, by omega, (List.mem_singleton.1 h).symm⟩
        · cases h
    · rintro ⟨j, hj, e⟩
      by_cases hm : j = m
      · subst hm
        by_cases hk : Lib.keeps d j = true
        · right; rw [if_pos hk, List.mem_singleton]; exact e.symm
        · left
          have : ¬ (j = 0 ∨ d[j]! ≠ d[j - 1]!) := by simpa [Lib.keeps] using hk
          rw [not_or] at this
          have h2 : d[j]! = d[j - 1]! := Classical.not_not.1 this.2
          exact ⟨j - 1, by omega, by rw [← h2]; exact e⟩
      · exact .inl ⟨j, by omega, e⟩
theorem comp_asc (d : Array B8) (hs : ∀ i j, i ≤ j → j < d.size → lt8 d[j]! d[i]! = false) : ∀ m, m ≤ d.size → Asc (Lib.compactUpTo d m)
  | 0, _ => by simp [Lib.compactUpTo, Asc]
  | m + 1, hm => by
    rw [Lib.compactUpTo_succ]
    have ih := comp_asc d hs m (by omega)
    by_cases hk : Lib.keeps d m = true
    · rw [if_pos hk]
      unfold Asc
      rw [List.pairwise_append]
      refine ⟨ih, by simp, fun x hx y hy => ?_⟩
      rw [List.mem_singleton] at hy
      subst hy
      obtain ⟨j, hj, rfl⟩ := (comp_mem d x m).1 hx
      have h0 : m = 0 ∨ d[m]! ≠ d[m - 1]! := by simpa [Lib.keeps] using hk
      have h1 : d[m]! ≠ d[m - 1]! := h0.resolve_left (by omega)
      cases h2 : lt8 d[j]! d[m]!
      · have e1 : d[j]! = d[m]! := lt8_tri h2 (hs j m (by omega) (by omega))
        have e2 := hs j (m - 1) (by omega) (by omega)
        have e3 := hs (m - 1) m (by omega) (by omega)
        rw [e1] at e2
        exact absurd (lt8_tri e3 e2) h1
      · rfl
    · rw [if_neg hk, List.append_nil]; exact ih
theorem of_sort (l : List B8) : Lib.compact (l.mergeSort fun x y => decide (x ≤ y)) = ofL l := by
  have hp : (l.mergeSort fun x y => decide (x ≤ y)).Pairwise (fun a b => lt8 b a = false) := by
    have := List.pairwise_mergeSort (le := fun (x y : B8) => decide (x ≤ y)) (fun a b c h1 h2 => by simp only [decide_eq_true_eq] at *; exact List.le_trans h1 h2) (fun a b => by simp only [Bool.or_eq_true, decide_eq_true_eq]; exact List.le_total a b) l
    refine this.imp fun {a b} h => ?_
    rw [lt8_is, decide_eq_false_iff_not]
    simp only [decide_eq_true_eq] at h
    exact List.not_lt.2 h
  have hmem : ∀ x, x ∈ (l.mergeSort fun x y => decide (x ≤ y)) ↔ x ∈ l := fun x => List.mem_mergeSort
  generalize (l.mergeSort fun x y => decide (x ≤ y)) = z at *
  have hg : ∀ j, j < z.length → z.toArray[j]! = z.getD j [] := fun j hj => by simp [List.getD, hj]
  unfold Lib.compact
  refine (of_eq (comp_asc z.toArray (fun i j hij hj => ?_) z.length (by simp)) fun x => ?_).symm
  · have hj' : j < z.length := by simpa using hj
    have hi' : i < z.length := by omega
    simp only [List.getElem!_toArray, List.getElem!_eq_getElem?_getD, List.getElem?_eq_getElem hj', List.getElem?_eq_getElem hi', Option.getD_some]
    by_cases e : i = j
    · subst e; exact lt8_irrefl _
    · exact List.pairwise_iff_getElem.1 hp i j hi' hj' (by omega)
  · rw [comp_mem, ← hmem]
    constructor
    · rintro ⟨j, hj, rfl⟩
      simp only [List.getElem!_toArray, List.getElem!_eq_getElem?_getD, List.getElem?_eq_getElem hj, Option.getD_some]
      exact List.getElem_mem _
    · intro hx
      obtain ⟨j, hj, rfl⟩ := List.getElem_of_mem hx
      exact ⟨j, hj, by simp [hj]⟩
end Go.Proofs.Ytkfgfbdlbiahkaa
