import Derived.Lib.Hide
import Derived.Test.YtgeliikfgnkppaaGreatDoorRows
import Derived.IntWalk
import Derived.Deep.QuietTactic
import Derived.BigQuiet
import Derived.Test.YtgeliikfgnkppaaGreatDoorQ01
import Derived.Test.YtgeliikfgnkppaaGreatDoorQ02
import Derived.Test.YtgeliikfgnkppaaGreatDoorQ03
import Derived.Test.YtgeliikfgnkppaaGreatDoorQ04
import Derived.Test.YtgeliikfgnkppaaGreatDoorQ05
/- A slice of things that have k cells each: what it reads as. Over any program. -/
namespace Go.Proofs.YtgeliikfgnkppaaGreatDoor
open Go.RowKit
set_option linter.unusedVariables false

structure RO {α : Type} (f : α → List Value) (w : World) (a : Option Addr) (n c : Nat) (l : List α) : Prop where
  len : n = l.length
  cap : n ≤ c
  max : c ≤ maxLen
  sees : SeesC w.heap.size w a (l.flatMap f)
theorem RO.below {α : Type} {f : α → List Value} {w w' : World} {a : Option Addr} {n c : Nat} {l : List α} (h : RO f w a n c l) (hb : Below w.heap.size w w') : RO f w' a n c l := ⟨h.len, h.cap, h.max, (h.sees.below hb).mono hb.size⟩
theorem RO.drewN {α : Type} {f : α → List Value} {w : World} {a : Option Addr} {n c : Nat} {l : List α} (h : RO f w a n c l) (m : Nat) : RO f (w.drewN m) a n c l := ⟨h.len, h.cap, h.max, h.sees⟩
theorem RO.nil {α : Type} {f : α → List Value} (w : World) : RO f w none 0 0 [] := ⟨rfl, Nat.le_refl _, by simp, .inl rfl⟩
theorem RO.max' {α : Type} {f : α → List Value} {w : World} {a : Option Addr} {n c : Nat} {l : List α} (h : RO f w a n c l) : n ≤ 9223372036854775807 := by
  have h1 := h.cap
  have h2 := h.max
  unfold maxLen at h2
  omega
/-- The cells of one of them. -/
theorem RO.at_ {α : Type} {f : α → List Value} {k : Nat} (hk : ∀ x, (f x).length = k) (h0 : 0 < k) {w : World} {a : Option Addr} {n c : Nat} {l : List α} (h : RO f w a n c l) (d : α) {i : Nat} (hi : i < n) :
    ∃ b off, a = some ⟨b, off, none⟩ ∧ b < w.heap.size ∧ ∀ j, j < k → w.cell? ⟨b, off + (i * k + j), none⟩ = (f (l.getD i d))[j]? := by
  have hl : i < l.length := by rw [← h.len]; exact hi
  rcases h.sees with e | ⟨b, off, rfl, hB, hc⟩
  · have h1 := congrArg List.length e
    rw [flat_len hk] at h1
    have h2 : 0 < l.length * k := Nat.mul_pos (by omega) h0
    simp at h1
    have : l.length * k = 0 := by simp [h1]
    omega
  · refine ⟨b, off, rfl, hB, fun j hj => ?_⟩
    have h1 : (l.flatMap f)[i * k + j]? = (f (l.getD i d))[j]? := by
      rw [flat_at hk l i j hj]
      simp [List.getD, hl]
    have h2 : j < (f (l.getD i d)).length := by rw [hk]; exact hj
    rw [List.getElem?_eq_getElem h2] at h1 ⊢
    exact hc _ _ h1
end Go.Proofs.YtgeliikfgnkppaaGreatDoor
/- Slices of structs whose fields may be structs again, down to one cell each, that came in: every cell with its own reading and its reach. Over any program. -/
namespace Go.Proofs.YtgeliikfgnkppaaGreatDoor
open Go.RowKit Go.ChangeShapes Go.WideShapes Go.Deep
set_option linter.unusedVariables false

/-- The types of a type's cells. -/
def flatT (P : Program) : Nat → TypeId → List TypeId
  | 0, t => [t]
  | n + 1, t => match P.underlying t with
    | some (.struct fs) => fs.toList.flatMap fun f => flatT P n f.type
    | _ => [t]
def flatOK (P : Program) : Nat → TypeId → Bool
  | 0, t => true
  | n + 1, t => match P.underlying t with
    | some (.struct fs) => (List.range fs.size).all fun i => match fs[i]? with
      | some f => flatOK P n f.type && ((f.offset == ((fs.toList.take i).flatMap fun f => flatT P n f.type).length) && (P.cellsOf f.type == (flatT P n f.type).length))
      | none => true
    | _ => true
theorem flat_find {α β : Type} (g : α → List β) : ∀ (L : List α) (j : Nat) (y : β), (L.flatMap g)[j]? = some y → ∃ i x j', L[i]? = some x ∧ (g x)[j']? = some y ∧ j = ((L.take i).flatMap g).length + j'
  | [], j, y, h => by simp at h
  | x :: L, j, y, h => by
    rw [List.flatMap_cons] at h
    rcases Nat.lt_or_ge j (g x).length with hj | hj
    · rw [List.getElem?_append_left hj] at h
      exact ⟨0, x, j, rfl, h, by simp⟩
    · rw [List.getElem?_append_right hj] at h
      obtain ⟨i, x', j', h1, h2, h3⟩ := flat_find g L _ y h
      refine ⟨i + 1, x', j', by simpa using h1, h2, ?_⟩
      rw [List.take_succ_cons, List.flatMap_cons, List.length_append]
      omega
theorem flat_upto {α β : Type} (g : α → List β) (L : List α) {i : Nat} {x : α} (h : L[i]? = some x) : ((L.take i).flatMap g).length + (g x).length ≤ (L.flatMap g).length := by
  have e : L = L.take i ++ x :: L.drop (i + 1) := by
    have hl : i < L.length := (List.getElem?_eq_some_iff.1 h).1
    have hx : L[i] = x := (List.getElem?_eq_some_iff.1 h).2
    rw [← hx, ← List.drop_eq_getElem_cons hl, List.take_append_drop]
  conv => rhs; rw [e]
  rw [List.flatMap_append, List.flatMap_cons, List.length_append, List.length_append]
  omega
theorem flat_read {H : Type} {enc : TypeId × Value → H} {P : Program} {w : World} : ∀ (n : Nat) (t : TypeId) (fuel : Nat) (cs : List Value) (x : DataW H × List MemPlace), flatOK P n t = true → cs.length = (flatT P n t).length →
    DataW.trod enc P w 0 (fun _ => true) true fuel t cs = some x → Reach P t x.1 →
    ∀ (j : Nat) (u : TypeId), (flatT P n t)[j]? = some u → ∃ (v : Value) (y : DataW H × List MemPlace) (m : Nat), cs[j]? = some v ∧ DataW.trod enc P w 0 (fun _ => true) true m u [v] = some y ∧ Reach P u y.1
  | 0, t, fuel, cs, x, _, hl, h, hR, j, u, hu => by
    unfold flatT at hl hu
    match cs, hl with
    | [v], _ =>
      have hj : j = 0 := by have := (List.getElem?_eq_some_iff.1 hu).1; simp at this; omega
      subst hj
      obtain rfl : t = u := by simpa using hu
      exact ⟨v, x, fuel, rfl, h, hR⟩
  | n + 1, t, fuel, cs, x, hok, hl, h, hR, j, u, hu => by
    cases hs : P.underlying t with
    | none =>
      unfold flatT at hl hu
      rw [hs] at hl hu
      match cs, hl with
      | [v], _ =>
        have hj : j = 0 := by have := (List.getElem?_eq_some_iff.1 hu).1; simp at this; omega
        subst hj
        obtain rfl : t = u := by simpa using hu
        exact ⟨v, x, fuel, rfl, h, hR⟩
    | some d =>
      by_cases hd : ∃ fs, d = .struct fs
      · obtain ⟨fs, rfl⟩ := hd
        unfold flatT at hl hu
        unfold flatOK at hok
        rw [hs] at hl hu hok
        simp only at hl hu hok
        obtain ⟨i, f, j', h1, h2, h3⟩ := flat_find _ _ _ _ hu
        have h1' : fs[i]? = some f := by simpa using h1
        have hil : i < fs.size := (Array.getElem?_eq_some_iff.1 h1').1
        have hf := List.all_eq_true.1 hok i (List.mem_range.2 hil)
        rw [h1'] at hf
        simp only [Bool.and_eq_true, beq_iff_eq] at hf
        obtain ⟨hf1, hf2, hf3⟩ := hf
        obtain ⟨ys, m, _, hys, _, hyl, hrd⟩ := DataW.trod_struct hs h
        have hri := hrd i f h1'
        have hup := flat_upto (fun f : Field => flatT P n f.type) fs.toList h1
        have hyi : i < ys.length := by rw [hyl]; exact hil
        rw [List.getElem?_eq_getElem hyi, hf3] at hri
        have hx : x.1 = .agg (ys.map (·.1)) := by rw [hys]
        rw [hx] at hR
        have hRi := weights_agg hs hR h1' (d := ys[i].1) (by simp [List.getElem?_eq_getElem hyi])
        have hlen : ((cs.drop f.offset).take (flatT P n f.type).length).length = (flatT P n f.type).length := by
          rw [List.length_take, List.length_drop, hl, hf2]
          have := hup
          omega
        obtain ⟨v, y, m', g1, g2, g3⟩ := flat_read n f.type m _ ys[i] hf1 hlen hri hRi j' u h2
        refine ⟨v, y, m', ?_, g2, g3⟩
        have hj' : j' < (flatT P n f.type).length := (List.getElem?_eq_some_iff.1 h2).1
        rw [List.getElem?_take, if_pos hj', List.getElem?_drop] at g1
        rw [h3, ← hf2]
        exact g1
      · unfold flatT at hl hu
        rw [hs] at hl hu
        have e1 : (match some d with | some (.struct fs) => fs.toList.flatMap fun f => flatT P n f.type | _ => [t]) = [t] := by
          split
          · rename_i fs he
            injection he with he
            exact absurd ⟨_, he⟩ hd
          · rfl
        rw [e1] at hl hu
        match cs, hl with
        | [v], _ =>
          have hj : j = 0 := by have := (List.getElem?_eq_some_iff.1 hu).1; simp at this; omega
          subst hj
          obtain rfl : t = u := by simpa using hu
          exact ⟨v, x, fuel, rfl, h, hR⟩
theorem flat_row {H : Type} {enc : TypeId × Value → H} {P : Program} {w : World} {fuel : Nat} {t e : TypeId} {r : Option Addr} {len cap : Nat} {x : DataW H × List MemPlace} (n : Nat) (ts : List TypeId)
    (ht : P.underlying t = some (.slice e)) (hok : flatOK P n e = true) (hts : flatT P n e = ts) (hC : P.cellsOf e = ts.length) (h0 : 0 < ts.length)
    (h : DataW.trod enc P w 0 (fun _ => true) true fuel t [.slice r len cap] = some x) (hR : Reach P t x.1) :
    len ≤ cap ∧ cap ≤ maxLen ∧ (len = 0 ∨ len * P.bytesOf e ≤ 140737488351232 ∧ ∃ b off, r = some ⟨b, off, none⟩ ∧ b < w.heap.size ∧
      ∀ i, i < len → ∀ (j : Nat) (u : TypeId), ts[j]? = some u → ∃ (v : Value) (y : DataW H × List MemPlace) (m : Nat), w.cell? ⟨b, off + (i * ts.length + j), none⟩ = some v ∧ DataW.trod enc P w 0 (fun _ => true) true m u [v] = some y ∧ Reach P u y.1) := by
  subst hts
  rcases open_slice ht h with ⟨hcs, _⟩ | ⟨a, l, c, m, k, D, Pl, hcs, hb, hl, hm, hmm, hx, hi⟩
  · simp at hcs
    obtain ⟨rfl, rfl, rfl⟩ := hcs
    exact ⟨Nat.le_refl _, by simp, .inl rfl⟩
  · simp at hcs
    obtain ⟨rfl, rfl, rfl⟩ := hcs
    refine ⟨hl, hm, ?_⟩
    by_cases hz : len = 0
    · exact .inl hz
    right
    rw [hx] at hR
    obtain ⟨hw1, hw2⟩ := weights_slice ht hR
    simp only [List.length_map, List.length_range] at hw1
    have key : ∀ i, i < len → ∀ (j : Nat) (u : TypeId), (flatT P n e)[j]? = some u → ∃ (v : Value) (y : DataW H × List MemPlace) (m : Nat), w.cell? (a.add (i * (flatT P n e).length + j)) = some v ∧ DataW.trod enc P w 0 (fun _ => true) true m u [v] = some y ∧ Reach P u y.1 := by
      intro i hil j u hj
      obtain ⟨cs', hc, ht'⟩ := hi i (by rw [hmm]; simp; omega)
      rw [hC] at hc
      obtain ⟨_, hcl, hat⟩ := World.cells?_some hc
      have hRi := hw2 (D i) (List.mem_map.2 ⟨i, by simpa using hil, rfl⟩)
      obtain ⟨v, y, m', g1, g2, g3⟩ := flat_read n e k cs' (D i, Pl i) hok hcl ht' hRi j u hj
      have hjl : j < (flatT P n e).length := (List.getElem?_eq_some_iff.1 hj).1
      have hcell := hat j hjl
      refine ⟨v, y, m', by rw [← Go.Deep.add_add, hcell, g1], g2, g3⟩
    refine ⟨Nat.le_trans (Nat.mul_le_mul_right _ (Nat.le_add_right _ _)) hw1, ?_⟩
    obtain ⟨b, off, spot⟩ := a
    obtain ⟨v0, _, _, hv0, _⟩ := key 0 (by omega) 0 _ (List.getElem?_eq_getElem h0)
    simp only [Nat.zero_mul, Nat.add_zero] at hv0
    have hspot : spot = none := by
      have : ((⟨b, off, spot⟩ : Addr).add 0).spot = none := World.cell?_spot hv0
      simpa [Addr.add] using this
    subst hspot
    refine ⟨b, off, rfl, ?_, fun i hil j u hj => ?_⟩
    · rw [add_at] at hv0
      exact World.block_lt_of_cell? w _ hv0
    · obtain ⟨v, y, m', h1, h2⟩ := key i hil j u hj
      rw [add_at] at h1
      exact ⟨v, y, m', h1, h2⟩
/-- Out of the cells of each, the list. -/
theorem row_of {α : Type} (f : α → List Value) (k : Nat) (hk : ∀ x, (f x).length = k) (h0 : 0 < k) (good : α → Prop) (d : α) {w : World} {r : Option Addr} {len cap : Nat} (hl : len ≤ cap) (hm : cap ≤ maxLen)
    (h : len = 0 ∨ ∃ b off, r = some ⟨b, off, none⟩ ∧ b < w.heap.size ∧ ∀ i, i < len → ∃ s, good s ∧ ∀ j, j < k → w.cell? ⟨b, off + (i * k + j), none⟩ = (f s)[j]?) :
    ∃ l : List α, RO f w r len cap l ∧ ∀ s ∈ l, good s := by
  rcases h with rfl | ⟨b, off, rfl, hB, h⟩
  · exact ⟨[], ⟨rfl, hl, hm, .inl rfl⟩, by simp⟩
  · have key : ∀ i, ∃ s : α, i < len → good s ∧ ∀ j, j < k → w.cell? ⟨b, off + (i * k + j), none⟩ = (f s)[j]? := by
      intro i
      by_cases hi : i < len
      · obtain ⟨s, hs⟩ := h i hi; exact ⟨s, fun _ => hs⟩
      · exact ⟨d, fun h => absurd h hi⟩
    let T : Nat → α := fun i => Classical.choose (key i)
    have hT : ∀ i, i < len → good (T i) ∧ ∀ j, j < k → w.cell? ⟨b, off + (i * k + j), none⟩ = (f (T i))[j]? := fun i hi => Classical.choose_spec (key i) hi
    refine ⟨(List.range len).map T, ⟨by simp, hl, hm, .inr ⟨b, off, rfl, hB, fun p u hu => ?_⟩⟩, fun s hs => ?_⟩
    · have hp : p < len * k := by
        have := (List.getElem?_eq_some_iff.1 hu).1
        rw [flat_len hk] at this
        simpa using this
      have hd : p / k < len := Nat.div_lt_of_lt_mul (by rw [Nat.mul_comm]; exact hp)
      have hr : p % k < k := Nat.mod_lt _ h0
      have he : p = p / k * k + p % k := by rw [Nat.mul_comm]; exact (Nat.div_add_mod p k).symm
      rw [he, flat_at hk _ _ _ hr] at hu
      have h1 : ((List.range len).map T)[p / k]? = some (T (p / k)) := by simp [hd]
      rw [h1] at hu
      rw [he, (hT _ hd).2 _ hr]
      exact hu
    · obtain ⟨i, hi, rfl⟩ := List.mem_map.1 hs
      exact (hT i (by simpa using hi)).1
end Go.Proofs.YtgeliikfgnkppaaGreatDoor
/- A program in memory: its name, variables, spots, edges; what came in. -/
namespace Go.Proofs.YtgeliikfgnkppaaGreatDoor
open Go.RowKit Go.ChangeShapes Go.WideShapes Go.Deep
set_option linter.unusedVariables false
set_option linter.unusedSimpArgs false

structure SpotD where
  fn : ByteArray
  file : ByteArray
  line : Int
structure EdgeD where
  frm : Int
  dst : Int
  k : Int
  x : Int
  y : Int
  c : Int
  d : Int
deriving DecidableEq
structure PD where
  nm : ByteArray
  vars : List ByteArray
  spots : List SpotD
  edges : List EdgeD
def spot0 : SpotD := ⟨e0, e0, 0⟩
def edge0 : EdgeD := ⟨0, 0, 0, 0, 0, 0, 0⟩
def spotC (s : SpotD) : List Value := [.string s.fn, .string s.file, .int .i64 s.line]
def edgeC (e : EdgeD) : List Value := [.int .i64 e.frm, .int .i64 e.dst, .int .i64 e.k, .int .i64 e.x, .int .i64 e.y, .int .i64 e.c, .int .i64 e.d]
theorem spotC_len (s : SpotD) : (spotC s).length = 3 := rfl
theorem edgeC_len (e : EdgeD) : (edgeC e).length = 7 := rfl
/-- What came in is well-formed, and no text is too long. -/
def spotW (s : SpotD) : Prop := s.fn.size ≤ 140737488351232 ∧ s.file.size ≤ 140737488351232 ∧ (Lit.int .i64 s.line).wf = true
def edgeW (e : EdgeD) : Prop := (Lit.int .i64 e.frm).wf = true ∧ (Lit.int .i64 e.dst).wf = true ∧ (Lit.int .i64 e.k).wf = true ∧ (Lit.int .i64 e.x).wf = true ∧ (Lit.int .i64 e.y).wf = true ∧ (Lit.int .i64 e.c).wf = true ∧ (Lit.int .i64 e.d).wf = true
def SpotsSl (w : World) (a : Option Addr) (n c : Nat) : Prop := ∃ l, RO spotC w a n c l ∧ (∀ s ∈ l, spotW s) ∧ n ≤ 3518437208780
def EdgesSl (w : World) (a : Option Addr) (n c : Nat) : Prop := ∃ l, RO edgeC w a n c l ∧ (∀ s ∈ l, edgeW s) ∧ n ≤ 3518437208780
theorem spot_bytes : Tryz.prog.bytesOf 54 = 40 := by kernel_rfl
theorem edge_bytes : Tryz.prog.bytesOf 52 = 56 := by kernel_rfl
theorem spot_row {H : Type} {enc : TypeId × Value → H} {w : World} {fuel : Nat} {r : Option Addr} {len cap : Nat} {x : DataW H × List MemPlace}
    (h : DataW.trod enc Tryz.prog w 0 (fun _ => true) true fuel 23 [.slice r len cap] = some x) (hR : Reach Tryz.prog 23 x.1) : SpotsSl w r len cap := by
  obtain ⟨h1, h2, h3⟩ := flat_row 2 [9, 9, 3] Tryz.underlying23 (by kernel_rfl) (by kernel_rfl) (by kernel_rfl) (by decide) h hR
  have hn : len ≤ 3518437208780 := by
    rcases h3 with rfl | ⟨hb, _⟩
    · omega
    · rw [spot_bytes] at hb; omega
  obtain ⟨l, g1, g2⟩ := row_of (w := w) (r := r) (len := len) (cap := cap) spotC 3 spotC_len (by decide) spotW spot0 h1 h2 (by
    rcases h3 with rfl | ⟨_, b, off, rfl, hB, hc⟩
    · exact .inl rfl
    · refine .inr ⟨b, off, rfl, hB, fun i hi => ?_⟩
      obtain ⟨v0, y0, m0, c0, t0, r0⟩ := hc i hi 0 _ rfl
      obtain ⟨v1, y1, m1, c1, t1, r1⟩ := hc i hi 1 _ rfl
      obtain ⟨v2, y2, m2, c2, t2, r2⟩ := hc i hi 2 _ rfl
      obtain ⟨z0, e0', ez0, _⟩ := DataW.trod_string Tryz.underlying9 t0
      obtain ⟨z1, e1, ez1, _⟩ := DataW.trod_string Tryz.underlying9 t1
      obtain ⟨z2, e2, _, w2⟩ := DataW.trod_int Tryz.underlying3 t2
      simp at e0' e1 e2
      subst e0' e1 e2
      subst ez0 ez1
      refine ⟨⟨z0, z1, z2⟩, ⟨reach_string r0, reach_string r1, w2⟩, fun j hj => ?_⟩
      match j, hj with
      | 0, _ => exact c0
      | 1, _ => exact c1
      | 2, _ => exact c2)
  exact ⟨l, g1, g2, hn⟩
theorem edge_row {H : Type} {enc : TypeId × Value → H} {w : World} {fuel : Nat} {r : Option Addr} {len cap : Nat} {x : DataW H × List MemPlace}
    (h : DataW.trod enc Tryz.prog w 0 (fun _ => true) true fuel 24 [.slice r len cap] = some x) (hR : Reach Tryz.prog 24 x.1) : EdgesSl w r len cap := by
  obtain ⟨h1, h2, h3⟩ := flat_row 3 [3, 3, 3, 3, 3, 3, 3] Tryz.underlying24 (by kernel_rfl) (by kernel_rfl) (by kernel_rfl) (by decide) h hR
  have hn : len ≤ 3518437208780 := by
    rcases h3 with rfl | ⟨hb, _⟩
    · omega
    · rw [edge_bytes] at hb; omega
  obtain ⟨l, g1, g2⟩ := row_of (w := w) (r := r) (len := len) (cap := cap) edgeC 7 edgeC_len (by decide) edgeW edge0 h1 h2 (by
    rcases h3 with rfl | ⟨_, b, off, rfl, hB, hc⟩
    · exact .inl rfl
    · refine .inr ⟨b, off, rfl, hB, fun i hi => ?_⟩
      obtain ⟨v0, y0, m0, c0, t0, r0⟩ := hc i hi 0 _ rfl
      obtain ⟨v1, y1, m1, c1, t1, r1⟩ := hc i hi 1 _ rfl
      obtain ⟨v2, y2, m2, c2, t2, r2⟩ := hc i hi 2 _ rfl
      obtain ⟨v3, y3, m3, c3, t3, r3⟩ := hc i hi 3 _ rfl
      obtain ⟨v4, y4, m4, c4, t4, r4⟩ := hc i hi 4 _ rfl
      obtain ⟨v5, y5, m5, c5, t5, r5⟩ := hc i hi 5 _ rfl
      obtain ⟨v6, y6, m6, c6, t6, r6⟩ := hc i hi 6 _ rfl
      obtain ⟨z0, e0', _, w0⟩ := DataW.trod_int Tryz.underlying3 t0
      obtain ⟨z1, e1, _, w1⟩ := DataW.trod_int Tryz.underlying3 t1
      obtain ⟨z2, e2, _, w2⟩ := DataW.trod_int Tryz.underlying3 t2
      obtain ⟨z3, e3, _, w3⟩ := DataW.trod_int Tryz.underlying3 t3
      obtain ⟨z4, e4, _, w4⟩ := DataW.trod_int Tryz.underlying3 t4
      obtain ⟨z5, e5, _, w5⟩ := DataW.trod_int Tryz.underlying3 t5
      obtain ⟨z6, e6, _, w6⟩ := DataW.trod_int Tryz.underlying3 t6
      simp at e0' e1 e2 e3 e4 e5 e6
      subst e0' e1 e2 e3 e4 e5 e6
      refine ⟨⟨z0, z1, z2, z3, z4, z5, z6⟩, ⟨w0, w1, w2, w3, w4, w5, w6⟩, fun j hj => ?_⟩
      match j, hj with
      | 0, _ => exact c0
      | 1, _ => exact c1
      | 2, _ => exact c2
      | 3, _ => exact c3
      | 4, _ => exact c4
      | 5, _ => exact c5
      | 6, _ => exact c6)
  exact ⟨l, g1, g2, hn⟩
/-- A program's value: its name and three slices. -/
structure PV where
  nm : ByteArray
  a1 : Option Addr
  n1 : Nat
  c1 : Nat
  a2 : Option Addr
  n2 : Nat
  c2 : Nat
  a3 : Option Addr
  n3 : Nat
  c3 : Nat
abbrev PV.cells (p : PV) : Array Value := #[.string p.nm, .slice p.a1 p.n1 p.c1, .slice p.a2 p.n2 p.c2, .slice p.a3 p.n3 p.c3]
/-- It reads as a program. -/
structure PrA (w : World) (p : PV) (D : PD) : Prop where
  nm : p.nm = D.nm
  vars : TT w p.a1 p.n1 p.c1 D.vars
  spots : RO spotC w p.a2 p.n2 p.c2 D.spots
  edges : RO edgeC w p.a3 p.n3 p.c3 D.edges
theorem PrA.below {w w' : World} {p : PV} {D : PD} (h : PrA w p D) (hb : Below w.heap.size w w') : PrA w' p D := ⟨h.nm, h.vars.below hb, h.spots.below hb, h.edges.below hb⟩
theorem PrA.drewN {w : World} {p : PV} {D : PD} (h : PrA w p D) (n : Nat) : PrA (w.drewN n) p D := h.below (Below.drewN (Below.refl _ _) n)
/-- The texts of a program that a check may look at, and its edges, are not too large for the machine. -/
structure PW (D : PD) : Prop where
  nm : D.nm.size ≤ 140737488351232
  vars : ∀ s ∈ D.vars, s.size ≤ 140737488351232
  spots : ∀ s ∈ D.spots, spotW s
  edges : ∀ e ∈ D.edges, edgeW e
end Go.Proofs.YtgeliikfgnkppaaGreatDoor
/- Spots and edges that a program may have: the program's. (Written by gen-prog-check.py.) -/
namespace Go.Proofs.YtgeliikfgnkppaaGreatDoor
open Go.RowKit
set_option linter.unusedVariables false
set_option linter.unusedSimpArgs false

def spotB (s : SpotD) : Bool := nameB s.fn && (fileB s.file && (decide (1 ≤ s.line) && decide (s.line ≤ 1048576)))
def pointB (n : Nat) (x : Int) : Bool := decide (0 ≤ x) && decide (x < (n : Int))
def edgeB (n m : Nat) (e : EdgeD) : Bool := pointB n e.frm && (pointB n e.dst && rightB e.k e.x e.y e.c e.d (m : Int))
set_option maxRecDepth 100000 in
set_option maxHeartbeats 1000000 in
theorem rightSpot_any (s f : ByteArray) (x : Int) (w : World) : Calls Tryz.prog 29 #[.agg #[.string s, .string f, .int .i64 x]] w (Gives (.bool (spotB ⟨s, f, x⟩)) w) := by
  have hR : Hid (spotB ⟨s, f, x⟩ = (nameB s && (fileB f && (decide (1 ≤ x) && decide (x ≤ 1048576))))) := Lib.hid rfl
  have q1 := Lib.hid (fun W => name_any s W)
  have q2 := Lib.hid (fun W => fileName_any f W)
  generalize spotB ⟨s, f, x⟩ = R at *
  cases e1 : nameB s
  · rw [e1] at q1
    have hF : Hid (R = false) := Lib.hid (by rw [hR.out]; rw [e1]; rfl)
    clear hR
    obtain ⟨W1, hW1⟩ : ∃ W1, W1 = w.alloc (.cells #[.string s, .string f, .int .i64 x] 54) := ⟨_, rfl⟩
    have Z : Hid (Holds W1 (w.heap.size) 54 #[.string s, .string f, .int .i64 x]) := Lib.hid (by rw [hW1]; exact Holds.new w _ _)
    have BL := Lib.hid (show Below w.heap.size w W1 by rw [hW1]; exact box_below _ _ _)
    have hW1' := Lib.hid hW1
    clear hW1
    go_enter Tryz.func29, Tryz.ntmps29
    have k1 := Z.out.cell 0
    have k2 := Z.out.cell 1
    have k3 := Z.out.cell 2
    have q := Lib.hid (q1.out W1)
    go_wp2_with fail
    rw [← hW1'.out]
    with_reducible refine q.out.mono ?_
    rintro e u1 ⟨rfl, b1⟩
    clear k1 k2 k3
    clear hW1'
    clear q
    have k4 : u1.cell? ⟨w.heap.size, 0, none⟩ = some (.string s) := (Z.out.below b1 Z.out.lt).cell 0
    have k5 : u1.cell? ⟨w.heap.size, 1, none⟩ = some (.string f) := (Z.out.below b1 Z.out.lt).cell 1
    have k6 : u1.cell? ⟨w.heap.size, 2, none⟩ = some (.int .i64 x) := (Z.out.below b1 Z.out.lt).cell 2
    replace Z := Lib.hid (Z.out.below b1 Z.out.lt)
    replace BL := Lib.hid (BL.out.trans (b1.mono BL.out.size))
    clear b1
    go_wp2
    go_ret
    exact ⟨ret_bool hF.out.symm, BL.out⟩
  rw [e1] at q1
  cases e2 : fileB f
  · rw [e2] at q2
    have hF : Hid (R = false) := Lib.hid (by rw [hR.out]; rw [e1, e2]; rfl)
    clear hR
    obtain ⟨W1, hW1⟩ : ∃ W1, W1 = w.alloc (.cells #[.string s, .string f, .int .i64 x] 54) := ⟨_, rfl⟩
    have Z : Hid (Holds W1 (w.heap.size) 54 #[.string s, .string f, .int .i64 x]) := Lib.hid (by rw [hW1]; exact Holds.new w _ _)
    have BL := Lib.hid (show Below w.heap.size w W1 by rw [hW1]; exact box_below _ _ _)
    have hW1' := Lib.hid hW1
    clear hW1
    go_enter Tryz.func29, Tryz.ntmps29
    have k1 := Z.out.cell 0
    have k2 := Z.out.cell 1
    have k3 := Z.out.cell 2
    have q := Lib.hid (q1.out W1)
    go_wp2_with fail
    rw [← hW1'.out]
    with_reducible refine q.out.mono ?_
    rintro e u1 ⟨rfl, b1⟩
    clear k1 k2 k3
    clear hW1'
    clear q
    have k4 : u1.cell? ⟨w.heap.size, 0, none⟩ = some (.string s) := (Z.out.below b1 Z.out.lt).cell 0
    have k5 : u1.cell? ⟨w.heap.size, 1, none⟩ = some (.string f) := (Z.out.below b1 Z.out.lt).cell 1
    have k6 : u1.cell? ⟨w.heap.size, 2, none⟩ = some (.int .i64 x) := (Z.out.below b1 Z.out.lt).cell 2
    replace Z := Lib.hid (Z.out.below b1 Z.out.lt)
    replace BL := Lib.hid (BL.out.trans (b1.mono BL.out.size))
    clear b1
    have q := Lib.hid (q2.out u1)
    go_wp2_with fail
    with_reducible refine q.out.mono ?_
    rintro e u2 ⟨rfl, b2⟩
    clear k4 k5 k6
    clear q
    have k7 : u2.cell? ⟨w.heap.size, 0, none⟩ = some (.string s) := (Z.out.below b2 Z.out.lt).cell 0
    have k8 : u2.cell? ⟨w.heap.size, 1, none⟩ = some (.string f) := (Z.out.below b2 Z.out.lt).cell 1
    have k9 : u2.cell? ⟨w.heap.size, 2, none⟩ = some (.int .i64 x) := (Z.out.below b2 Z.out.lt).cell 2
    replace Z := Lib.hid (Z.out.below b2 Z.out.lt)
    replace BL := Lib.hid (BL.out.trans (b2.mono BL.out.size))
    clear b2
    go_wp2
    go_ret
    exact ⟨ret_bool hF.out.symm, BL.out⟩
  rw [e2] at q2
  by_cases h1 : 1 ≤ x
  · have hF : Hid (R = decide (x ≤ 1048576)) := Lib.hid (by rw [hR.out]; rw [e1, e2, decide_eq_true h1]; rfl)
    clear hR
    obtain ⟨W1, hW1⟩ : ∃ W1, W1 = w.alloc (.cells #[.string s, .string f, .int .i64 x] 54) := ⟨_, rfl⟩
    have Z : Hid (Holds W1 (w.heap.size) 54 #[.string s, .string f, .int .i64 x]) := Lib.hid (by rw [hW1]; exact Holds.new w _ _)
    have BL := Lib.hid (show Below w.heap.size w W1 by rw [hW1]; exact box_below _ _ _)
    have hW1' := Lib.hid hW1
    clear hW1
    go_enter Tryz.func29, Tryz.ntmps29
    have k1 := Z.out.cell 0
    have k2 := Z.out.cell 1
    have k3 := Z.out.cell 2
    have q := Lib.hid (q1.out W1)
    go_wp2_with fail
    rw [← hW1'.out]
    with_reducible refine q.out.mono ?_
    rintro e u1 ⟨rfl, b1⟩
    clear k1 k2 k3
    clear hW1'
    clear q
    have k4 : u1.cell? ⟨w.heap.size, 0, none⟩ = some (.string s) := (Z.out.below b1 Z.out.lt).cell 0
    have k5 : u1.cell? ⟨w.heap.size, 1, none⟩ = some (.string f) := (Z.out.below b1 Z.out.lt).cell 1
    have k6 : u1.cell? ⟨w.heap.size, 2, none⟩ = some (.int .i64 x) := (Z.out.below b1 Z.out.lt).cell 2
    replace Z := Lib.hid (Z.out.below b1 Z.out.lt)
    replace BL := Lib.hid (BL.out.trans (b1.mono BL.out.size))
    clear b1
    have q := Lib.hid (q2.out u1)
    go_wp2_with fail
    with_reducible refine q.out.mono ?_
    rintro e u2 ⟨rfl, b2⟩
    clear k4 k5 k6
    clear q
    have k7 : u2.cell? ⟨w.heap.size, 0, none⟩ = some (.string s) := (Z.out.below b2 Z.out.lt).cell 0
    have k8 : u2.cell? ⟨w.heap.size, 1, none⟩ = some (.string f) := (Z.out.below b2 Z.out.lt).cell 1
    have k9 : u2.cell? ⟨w.heap.size, 2, none⟩ = some (.int .i64 x) := (Z.out.below b2 Z.out.lt).cell 2
    replace Z := Lib.hid (Z.out.below b2 Z.out.lt)
    replace BL := Lib.hid (BL.out.trans (b2.mono BL.out.size))
    clear b2
    go_wp2
    go_ret
    exact ⟨ret_bool hF.out.symm, BL.out⟩
  · have hF : Hid (R = false) := Lib.hid (by rw [hR.out]; rw [e1, e2, decide_eq_false h1]; rfl)
    clear hR
    obtain ⟨W1, hW1⟩ : ∃ W1, W1 = w.alloc (.cells #[.string s, .string f, .int .i64 x] 54) := ⟨_, rfl⟩
    have Z : Hid (Holds W1 (w.heap.size) 54 #[.string s, .string f, .int .i64 x]) := Lib.hid (by rw [hW1]; exact Holds.new w _ _)
    have BL := Lib.hid (show Below w.heap.size w W1 by rw [hW1]; exact box_below _ _ _)
    have hW1' := Lib.hid hW1
    clear hW1
    go_enter Tryz.func29, Tryz.ntmps29
    have k1 := Z.out.cell 0
    have k2 := Z.out.cell 1
    have k3 := Z.out.cell 2
    have q := Lib.hid (q1.out W1)
    go_wp2_with fail
    rw [← hW1'.out]
    with_reducible refine q.out.mono ?_
    rintro e u1 ⟨rfl, b1⟩
    clear k1 k2 k3
    clear hW1'
    clear q
    have k4 : u1.cell? ⟨w.heap.size, 0, none⟩ = some (.string s) := (Z.out.below b1 Z.out.lt).cell 0
    have k5 : u1.cell? ⟨w.heap.size, 1, none⟩ = some (.string f) := (Z.out.below b1 Z.out.lt).cell 1
    have k6 : u1.cell? ⟨w.heap.size, 2, none⟩ = some (.int .i64 x) := (Z.out.below b1 Z.out.lt).cell 2
    replace Z := Lib.hid (Z.out.below b1 Z.out.lt)
    replace BL := Lib.hid (BL.out.trans (b1.mono BL.out.size))
    clear b1
    have q := Lib.hid (q2.out u1)
    go_wp2_with fail
    with_reducible refine q.out.mono ?_
    rintro e u2 ⟨rfl, b2⟩
    clear k4 k5 k6
    clear q
    have k7 : u2.cell? ⟨w.heap.size, 0, none⟩ = some (.string s) := (Z.out.below b2 Z.out.lt).cell 0
    have k8 : u2.cell? ⟨w.heap.size, 1, none⟩ = some (.string f) := (Z.out.below b2 Z.out.lt).cell 1
    have k9 : u2.cell? ⟨w.heap.size, 2, none⟩ = some (.int .i64 x) := (Z.out.below b2 Z.out.lt).cell 2
    replace Z := Lib.hid (Z.out.below b2 Z.out.lt)
    replace BL := Lib.hid (BL.out.trans (b2.mono BL.out.size))
    clear b2
    go_wp2
    go_ret
    exact ⟨ret_bool hF.out.symm, BL.out⟩
set_option maxRecDepth 100000 in
set_option maxHeartbeats 1000000 in
theorem badSpot_any (s f : ByteArray) (x : Int) (w : World) : Calls Tryz.prog 28 #[.agg #[.string s, .string f, .int .i64 x]] w (Gives (.bool (!spotB ⟨s, f, x⟩)) w) := by
  have q1 := Lib.hid (fun W => rightSpot_any s f x W)
  generalize spotB ⟨s, f, x⟩ = R at *
  obtain ⟨W1, hW1⟩ : ∃ W1, W1 = w.alloc (.cells #[.string s, .string f, .int .i64 x] 54) := ⟨_, rfl⟩
  have Z : Hid (Holds W1 (w.heap.size) 54 #[.string s, .string f, .int .i64 x]) := Lib.hid (by rw [hW1]; exact Holds.new w _ _)
  have BL := Lib.hid (show Below w.heap.size w W1 by rw [hW1]; exact box_below _ _ _)
  have hW1' := Lib.hid hW1
  clear hW1
  go_enter Tryz.func28, Tryz.ntmps28
  have k1 := Z.out.cell 0
  have k2 := Z.out.cell 1
  have k3 := Z.out.cell 2
  have q := Lib.hid (q1.out W1)
  go_wp2_with fail
  rw [← hW1'.out]
  with_reducible refine q.out.mono ?_
  rintro e u1 ⟨rfl, b1⟩
  clear k1 k2 k3
  clear hW1'
  clear q
  replace Z := Lib.hid (Z.out.below b1 Z.out.lt)
  replace BL := Lib.hid (BL.out.trans (b1.mono BL.out.size))
  clear b1
  go_wp2
  go_ret
  exact ⟨rfl, BL.out⟩
set_option maxRecDepth 100000 in
theorem isPoint_any (p : PV) (x : Int) (w : World) : Calls Tryz.prog 58 #[.agg #[.string p.nm, .slice p.a1 p.n1 p.c1, .slice p.a2 p.n2 p.c2, .slice p.a3 p.n3 p.c3], .int .i64 x] w (Gives (.bool (pointB p.n2 x)) w) := by
  have hR : Hid (pointB p.n2 x = (decide (0 ≤ x) && decide (x < (p.n2 : Int)))) := Lib.hid rfl
  have hB := Lib.hid (box_below w #[.string p.nm, .slice p.a1 p.n1 p.c1, .slice p.a2 p.n2 p.c2, .slice p.a3 p.n3 p.c3] 26)
  by_cases h : 0 ≤ x
  · have hF : Hid (pointB p.n2 x = decide (x < (p.n2 : Int))) := Lib.hid (by rw [hR.out, decide_eq_true h]; rfl)
    go_enter Tryz.func58, Tryz.ntmps58
    go_wp2
    go_ret
    exact ⟨ret_bool hF.out.symm, hB.out⟩
  · have hF : Hid (pointB p.n2 x = false) := Lib.hid (by rw [hR.out, decide_eq_false h]; rfl)
    go_enter Tryz.func58, Tryz.ntmps58
    go_wp2
    go_ret
    exact ⟨ret_bool hF.out.symm, hB.out⟩
set_option maxRecDepth 100000 in
set_option maxHeartbeats 1000000 in
theorem rightEdge_any (p : PV) (fr ds k x y c d : Int) (w : World) : Calls Tryz.prog 31 #[.agg #[.string p.nm, .slice p.a1 p.n1 p.c1, .slice p.a2 p.n2 p.c2, .slice p.a3 p.n3 p.c3], .agg #[.int .i64 fr, .int .i64 ds, .int .i64 k, .int .i64 x, .int .i64 y, .int .i64 c, .int .i64 d]] w (Gives (.bool (edgeB p.n2 p.n1 ⟨fr, ds, k, x, y, c, d⟩)) w) := by
  have hR : Hid (edgeB p.n2 p.n1 ⟨fr, ds, k, x, y, c, d⟩ = (pointB p.n2 fr && (pointB p.n2 ds && rightB k x y c d (p.n1 : Int)))) := Lib.hid rfl
  have q1 := Lib.hid (fun W => isPoint_any p fr W)
  have q2 := Lib.hid (fun W => isPoint_any p ds W)
  have q3 := Lib.hid (fun W => right_any k x y c d (p.n1 : Int) W)
  generalize edgeB p.n2 p.n1 ⟨fr, ds, k, x, y, c, d⟩ = R at *
  generalize rightB k x y c d (p.n1 : Int) = b3 at *
  generalize pointB p.n2 fr = b1 at *
  generalize pointB p.n2 ds = b2 at *
  cases b1
  · have hF : Hid (R = false) := Lib.hid (by rw [hR.out]; rfl)
    clear hR
    obtain ⟨W1, hW1⟩ : ∃ W1, W1 = (w.alloc (.cells #[.string p.nm, .slice p.a1 p.n1 p.c1, .slice p.a2 p.n2 p.c2, .slice p.a3 p.n3 p.c3] 26)).alloc (.cells #[.int .i64 fr, .int .i64 ds, .int .i64 k, .int .i64 x, .int .i64 y, .int .i64 c, .int .i64 d] 52) := ⟨_, rfl⟩
    have Z : Hid (Holds W1 (w.heap.size) 26 #[.string p.nm, .slice p.a1 p.n1 p.c1, .slice p.a2 p.n2 p.c2, .slice p.a3 p.n3 p.c3]) := Lib.hid (by rw [hW1]; exact (Holds.new w _ _).alloc _)
    have V : Hid (Holds W1 (w.heap.size + 1) 52 #[.int .i64 fr, .int .i64 ds, .int .i64 k, .int .i64 x, .int .i64 y, .int .i64 c, .int .i64 d]) := Lib.hid (by rw [hW1]; have := Holds.new (w.alloc (.cells #[.string p.nm, .slice p.a1 p.n1 p.c1, .slice p.a2 p.n2 p.c2, .slice p.a3 p.n3 p.c3] 26)) 52 #[.int .i64 fr, .int .i64 ds, .int .i64 k, .int .i64 x, .int .i64 y, .int .i64 c, .int .i64 d]; simpa using this)
    have BL := Lib.hid (show Below w.heap.size w W1 by rw [hW1]; exact box2_below _ _ _ _ _)
    have hW1' := Lib.hid hW1
    clear hW1
    go_enter Tryz.func31, Tryz.ntmps31
    have k1 := Z.out.cell 0
    have k2 := Z.out.cell 1
    have k3 := Z.out.cell 2
    have k4 := Z.out.cell 3
    have k5 := V.out.cell 0
    have k6 := V.out.cell 1
    have k7 := V.out.cell 2
    have k8 := V.out.cell 3
    have k9 := V.out.cell 4
    have k10 := V.out.cell 5
    have k11 := V.out.cell 6
    have q := Lib.hid (q1.out W1)
    go_wp2_with fail
    rw [← hW1'.out]
    with_reducible refine q.out.mono ?_
    rintro e u1 ⟨rfl, b1⟩
    clear k1 k2 k3 k4 k5 k6 k7 k8 k9 k10 k11
    clear hW1'
    clear q
    have k12 : u1.cell? ⟨w.heap.size, 0, none⟩ = some (.string p.nm) := (Z.out.below b1 Z.out.lt).cell 0
    have k13 : u1.cell? ⟨w.heap.size, 1, none⟩ = some (.slice p.a1 p.n1 p.c1) := (Z.out.below b1 Z.out.lt).cell 1
    have k14 : u1.cell? ⟨w.heap.size, 2, none⟩ = some (.slice p.a2 p.n2 p.c2) := (Z.out.below b1 Z.out.lt).cell 2
    have k15 : u1.cell? ⟨w.heap.size, 3, none⟩ = some (.slice p.a3 p.n3 p.c3) := (Z.out.below b1 Z.out.lt).cell 3
    have k16 : u1.cell? ⟨w.heap.size + 1, 0, none⟩ = some (.int .i64 fr) := (V.out.below b1 V.out.lt).cell 0
    have k17 : u1.cell? ⟨w.heap.size + 1, 1, none⟩ = some (.int .i64 ds) := (V.out.below b1 V.out.lt).cell 1
    have k18 : u1.cell? ⟨w.heap.size + 1, 2, none⟩ = some (.int .i64 k) := (V.out.below b1 V.out.lt).cell 2
    have k19 : u1.cell? ⟨w.heap.size + 1, 3, none⟩ = some (.int .i64 x) := (V.out.below b1 V.out.lt).cell 3
    have k20 : u1.cell? ⟨w.heap.size + 1, 4, none⟩ = some (.int .i64 y) := (V.out.below b1 V.out.lt).cell 4
    have k21 : u1.cell? ⟨w.heap.size + 1, 5, none⟩ = some (.int .i64 c) := (V.out.below b1 V.out.lt).cell 5
    have k22 : u1.cell? ⟨w.heap.size + 1, 6, none⟩ = some (.int .i64 d) := (V.out.below b1 V.out.lt).cell 6
    replace Z := Lib.hid (Z.out.below b1 Z.out.lt)
    replace V := Lib.hid (V.out.below b1 V.out.lt)
    replace BL := Lib.hid (BL.out.trans (b1.mono BL.out.size))
    clear b1
    go_wp2
    go_ret
    exact ⟨ret_bool hF.out.symm, BL.out⟩
  cases b2
  · have hF : Hid (R = false) := Lib.hid (by rw [hR.out]; rfl)
    clear hR
    obtain ⟨W1, hW1⟩ : ∃ W1, W1 = (w.alloc (.cells #[.string p.nm, .slice p.a1 p.n1 p.c1, .slice p.a2 p.n2 p.c2, .slice p.a3 p.n3 p.c3] 26)).alloc (.cells #[.int .i64 fr, .int .i64 ds, .int .i64 k, .int .i64 x, .int .i64 y, .int .i64 c, .int .i64 d] 52) := ⟨_, rfl⟩
    have Z : Hid (Holds W1 (w.heap.size) 26 #[.string p.nm, .slice p.a1 p.n1 p.c1, .slice p.a2 p.n2 p.c2, .slice p.a3 p.n3 p.c3]) := Lib.hid (by rw [hW1]; exact (Holds.new w _ _).alloc _)
    have V : Hid (Holds W1 (w.heap.size + 1) 52 #[.int .i64 fr, .int .i64 ds, .int .i64 k, .int .i64 x, .int .i64 y, .int .i64 c, .int .i64 d]) := Lib.hid (by rw [hW1]; have := Holds.new (w.alloc (.cells #[.string p.nm, .slice p.a1 p.n1 p.c1, .slice p.a2 p.n2 p.c2, .slice p.a3 p.n3 p.c3] 26)) 52 #[.int .i64 fr, .int .i64 ds, .int .i64 k, .int .i64 x, .int .i64 y, .int .i64 c, .int .i64 d]; simpa using this)
    have BL := Lib.hid (show Below w.heap.size w W1 by rw [hW1]; exact box2_below _ _ _ _ _)
    have hW1' := Lib.hid hW1
    clear hW1
    go_enter Tryz.func31, Tryz.ntmps31
    have k1 := Z.out.cell 0
    have k2 := Z.out.cell 1
    have k3 := Z.out.cell 2
    have k4 := Z.out.cell 3
    have k5 := V.out.cell 0
    have k6 := V.out.cell 1
    have k7 := V.out.cell 2
    have k8 := V.out.cell 3
    have k9 := V.out.cell 4
    have k10 := V.out.cell 5
    have k11 := V.out.cell 6
    have q := Lib.hid (q1.out W1)
    go_wp2_with fail
    rw [← hW1'.out]
    with_reducible refine q.out.mono ?_
    rintro e u1 ⟨rfl, b1⟩
    clear k1 k2 k3 k4 k5 k6 k7 k8 k9 k10 k11
    clear hW1'
    clear q
    have k12 : u1.cell? ⟨w.heap.size, 0, none⟩ = some (.string p.nm) := (Z.out.below b1 Z.out.lt).cell 0
    have k13 : u1.cell? ⟨w.heap.size, 1, none⟩ = some (.slice p.a1 p.n1 p.c1) := (Z.out.below b1 Z.out.lt).cell 1
    have k14 : u1.cell? ⟨w.heap.size, 2, none⟩ = some (.slice p.a2 p.n2 p.c2) := (Z.out.below b1 Z.out.lt).cell 2
    have k15 : u1.cell? ⟨w.heap.size, 3, none⟩ = some (.slice p.a3 p.n3 p.c3) := (Z.out.below b1 Z.out.lt).cell 3
    have k16 : u1.cell? ⟨w.heap.size + 1, 0, none⟩ = some (.int .i64 fr) := (V.out.below b1 V.out.lt).cell 0
    have k17 : u1.cell? ⟨w.heap.size + 1, 1, none⟩ = some (.int .i64 ds) := (V.out.below b1 V.out.lt).cell 1
    have k18 : u1.cell? ⟨w.heap.size + 1, 2, none⟩ = some (.int .i64 k) := (V.out.below b1 V.out.lt).cell 2
    have k19 : u1.cell? ⟨w.heap.size + 1, 3, none⟩ = some (.int .i64 x) := (V.out.below b1 V.out.lt).cell 3
    have k20 : u1.cell? ⟨w.heap.size + 1, 4, none⟩ = some (.int .i64 y) := (V.out.below b1 V.out.lt).cell 4
    have k21 : u1.cell? ⟨w.heap.size + 1, 5, none⟩ = some (.int .i64 c) := (V.out.below b1 V.out.lt).cell 5
    have k22 : u1.cell? ⟨w.heap.size + 1, 6, none⟩ = some (.int .i64 d) := (V.out.below b1 V.out.lt).cell 6
    replace Z := Lib.hid (Z.out.below b1 Z.out.lt)
    replace V := Lib.hid (V.out.below b1 V.out.lt)
    replace BL := Lib.hid (BL.out.trans (b1.mono BL.out.size))
    clear b1
    have q := Lib.hid (q2.out u1)
    go_wp2_with fail
    with_reducible refine q.out.mono ?_
    rintro e u2 ⟨rfl, b2⟩
    clear k12 k13 k14 k15 k16 k17 k18 k19 k20 k21 k22
    clear q
    have k23 : u2.cell? ⟨w.heap.size, 0, none⟩ = some (.string p.nm) := (Z.out.below b2 Z.out.lt).cell 0
    have k24 : u2.cell? ⟨w.heap.size, 1, none⟩ = some (.slice p.a1 p.n1 p.c1) := (Z.out.below b2 Z.out.lt).cell 1
    have k25 : u2.cell? ⟨w.heap.size, 2, none⟩ = some (.slice p.a2 p.n2 p.c2) := (Z.out.below b2 Z.out.lt).cell 2
    have k26 : u2.cell? ⟨w.heap.size, 3, none⟩ = some (.slice p.a3 p.n3 p.c3) := (Z.out.below b2 Z.out.lt).cell 3
    have k27 : u2.cell? ⟨w.heap.size + 1, 0, none⟩ = some (.int .i64 fr) := (V.out.below b2 V.out.lt).cell 0
    have k28 : u2.cell? ⟨w.heap.size + 1, 1, none⟩ = some (.int .i64 ds) := (V.out.below b2 V.out.lt).cell 1
    have k29 : u2.cell? ⟨w.heap.size + 1, 2, none⟩ = some (.int .i64 k) := (V.out.below b2 V.out.lt).cell 2
    have k30 : u2.cell? ⟨w.heap.size + 1, 3, none⟩ = some (.int .i64 x) := (V.out.below b2 V.out.lt).cell 3
    have k31 : u2.cell? ⟨w.heap.size + 1, 4, none⟩ = some (.int .i64 y) := (V.out.below b2 V.out.lt).cell 4
    have k32 : u2.cell? ⟨w.heap.size + 1, 5, none⟩ = some (.int .i64 c) := (V.out.below b2 V.out.lt).cell 5
    have k33 : u2.cell? ⟨w.heap.size + 1, 6, none⟩ = some (.int .i64 d) := (V.out.below b2 V.out.lt).cell 6
    replace Z := Lib.hid (Z.out.below b2 Z.out.lt)
    replace V := Lib.hid (V.out.below b2 V.out.lt)
    replace BL := Lib.hid (BL.out.trans (b2.mono BL.out.size))
    clear b2
    go_wp2
    go_ret
    exact ⟨ret_bool hF.out.symm, BL.out⟩
  have hF : Hid (R = b3) := Lib.hid (by rw [hR.out]; rfl)
  clear hR
  obtain ⟨W1, hW1⟩ : ∃ W1, W1 = (w.alloc (.cells #[.string p.nm, .slice p.a1 p.n1 p.c1, .slice p.a2 p.n2 p.c2, .slice p.a3 p.n3 p.c3] 26)).alloc (.cells #[.int .i64 fr, .int .i64 ds, .int .i64 k, .int .i64 x, .int .i64 y, .int .i64 c, .int .i64 d] 52) := ⟨_, rfl⟩
  have Z : Hid (Holds W1 (w.heap.size) 26 #[.string p.nm, .slice p.a1 p.n1 p.c1, .slice p.a2 p.n2 p.c2, .slice p.a3 p.n3 p.c3]) := Lib.hid (by rw [hW1]; exact (Holds.new w _ _).alloc _)
  have V : Hid (Holds W1 (w.heap.size + 1) 52 #[.int .i64 fr, .int .i64 ds, .int .i64 k, .int .i64 x, .int .i64 y, .int .i64 c, .int .i64 d]) := Lib.hid (by rw [hW1]; have := Holds.new (w.alloc (.cells #[.string p.nm, .slice p.a1 p.n1 p.c1, .slice p.a2 p.n2 p.c2, .slice p.a3 p.n3 p.c3] 26)) 52 #[.int .i64 fr, .int .i64 ds, .int .i64 k, .int .i64 x, .int .i64 y, .int .i64 c, .int .i64 d]; simpa using this)
  have BL := Lib.hid (show Below w.heap.size w W1 by rw [hW1]; exact box2_below _ _ _ _ _)
  have hW1' := Lib.hid hW1
  clear hW1
  go_enter Tryz.func31, Tryz.ntmps31
  have k1 := Z.out.cell 0
  have k2 := Z.out.cell 1
  have k3 := Z.out.cell 2
  have k4 := Z.out.cell 3
  have k5 := V.out.cell 0
  have k6 := V.out.cell 1
  have k7 := V.out.cell 2
  have k8 := V.out.cell 3
  have k9 := V.out.cell 4
  have k10 := V.out.cell 5
  have k11 := V.out.cell 6
  have q := Lib.hid (q1.out W1)
  go_wp2_with fail
  rw [← hW1'.out]
  with_reducible refine q.out.mono ?_
  rintro e u1 ⟨rfl, b1⟩
  clear k1 k2 k3 k4 k5 k6 k7 k8 k9 k10 k11
  clear hW1'
  clear q
  have k12 : u1.cell? ⟨w.heap.size, 0, none⟩ = some (.string p.nm) := (Z.out.below b1 Z.out.lt).cell 0
  have k13 : u1.cell? ⟨w.heap.size, 1, none⟩ = some (.slice p.a1 p.n1 p.c1) := (Z.out.below b1 Z.out.lt).cell 1
  have k14 : u1.cell? ⟨w.heap.size, 2, none⟩ = some (.slice p.a2 p.n2 p.c2) := (Z.out.below b1 Z.out.lt).cell 2
  have k15 : u1.cell? ⟨w.heap.size, 3, none⟩ = some (.slice p.a3 p.n3 p.c3) := (Z.out.below b1 Z.out.lt).cell 3
  have k16 : u1.cell? ⟨w.heap.size + 1, 0, none⟩ = some (.int .i64 fr) := (V.out.below b1 V.out.lt).cell 0
  have k17 : u1.cell? ⟨w.heap.size + 1, 1, none⟩ = some (.int .i64 ds) := (V.out.below b1 V.out.lt).cell 1
  have k18 : u1.cell? ⟨w.heap.size + 1, 2, none⟩ = some (.int .i64 k) := (V.out.below b1 V.out.lt).cell 2
  have k19 : u1.cell? ⟨w.heap.size + 1, 3, none⟩ = some (.int .i64 x) := (V.out.below b1 V.out.lt).cell 3
  have k20 : u1.cell? ⟨w.heap.size + 1, 4, none⟩ = some (.int .i64 y) := (V.out.below b1 V.out.lt).cell 4
  have k21 : u1.cell? ⟨w.heap.size + 1, 5, none⟩ = some (.int .i64 c) := (V.out.below b1 V.out.lt).cell 5
  have k22 : u1.cell? ⟨w.heap.size + 1, 6, none⟩ = some (.int .i64 d) := (V.out.below b1 V.out.lt).cell 6
  replace Z := Lib.hid (Z.out.below b1 Z.out.lt)
  replace V := Lib.hid (V.out.below b1 V.out.lt)
  replace BL := Lib.hid (BL.out.trans (b1.mono BL.out.size))
  clear b1
  have q := Lib.hid (q2.out u1)
  go_wp2_with fail
  with_reducible refine q.out.mono ?_
  rintro e u2 ⟨rfl, b2⟩
  clear k12 k13 k14 k15 k16 k17 k18 k19 k20 k21 k22
  clear q
  have k23 : u2.cell? ⟨w.heap.size, 0, none⟩ = some (.string p.nm) := (Z.out.below b2 Z.out.lt).cell 0
  have k24 : u2.cell? ⟨w.heap.size, 1, none⟩ = some (.slice p.a1 p.n1 p.c1) := (Z.out.below b2 Z.out.lt).cell 1
  have k25 : u2.cell? ⟨w.heap.size, 2, none⟩ = some (.slice p.a2 p.n2 p.c2) := (Z.out.below b2 Z.out.lt).cell 2
  have k26 : u2.cell? ⟨w.heap.size, 3, none⟩ = some (.slice p.a3 p.n3 p.c3) := (Z.out.below b2 Z.out.lt).cell 3
  have k27 : u2.cell? ⟨w.heap.size + 1, 0, none⟩ = some (.int .i64 fr) := (V.out.below b2 V.out.lt).cell 0
  have k28 : u2.cell? ⟨w.heap.size + 1, 1, none⟩ = some (.int .i64 ds) := (V.out.below b2 V.out.lt).cell 1
  have k29 : u2.cell? ⟨w.heap.size + 1, 2, none⟩ = some (.int .i64 k) := (V.out.below b2 V.out.lt).cell 2
  have k30 : u2.cell? ⟨w.heap.size + 1, 3, none⟩ = some (.int .i64 x) := (V.out.below b2 V.out.lt).cell 3
  have k31 : u2.cell? ⟨w.heap.size + 1, 4, none⟩ = some (.int .i64 y) := (V.out.below b2 V.out.lt).cell 4
  have k32 : u2.cell? ⟨w.heap.size + 1, 5, none⟩ = some (.int .i64 c) := (V.out.below b2 V.out.lt).cell 5
  have k33 : u2.cell? ⟨w.heap.size + 1, 6, none⟩ = some (.int .i64 d) := (V.out.below b2 V.out.lt).cell 6
  replace Z := Lib.hid (Z.out.below b2 Z.out.lt)
  replace V := Lib.hid (V.out.below b2 V.out.lt)
  replace BL := Lib.hid (BL.out.trans (b2.mono BL.out.size))
  clear b2
  have q := Lib.hid (q3.out u2)
  go_wp2_with fail
  with_reducible refine q.out.mono ?_
  rintro e u3 ⟨rfl, b3⟩
  clear k23 k24 k25 k26 k27 k28 k29 k30 k31 k32 k33
  clear q
  replace Z := Lib.hid (Z.out.below b3 Z.out.lt)
  replace V := Lib.hid (V.out.below b3 V.out.lt)
  replace BL := Lib.hid (BL.out.trans (b3.mono BL.out.size))
  clear b3
  go_wp2
  go_ret
  exact ⟨ret_bool hF.out.symm, BL.out⟩
set_option maxRecDepth 100000 in
set_option maxHeartbeats 1000000 in
theorem badEdge_any (p : PV) (g : Nat) (fr ds k x y c d : Int) (w : World) (h : Holds w g 26 p.cells) : Calls Tryz.prog 30 #[.agg #[.int .i64 fr, .int .i64 ds, .int .i64 k, .int .i64 x, .int .i64 y, .int .i64 c, .int .i64 d], .pointer (some ⟨g, 0, none⟩)] w (Gives (.bool (!edgeB p.n2 p.n1 ⟨fr, ds, k, x, y, c, d⟩)) w) := by
  have q1 := Lib.hid (fun W => rightEdge_any p fr ds k x y c d W)
  generalize edgeB p.n2 p.n1 ⟨fr, ds, k, x, y, c, d⟩ = R at *
  have hg := h.lt
  obtain ⟨W1, hW1⟩ : ∃ W1, W1 = w.alloc (.cells #[.int .i64 fr, .int .i64 ds, .int .i64 k, .int .i64 x, .int .i64 y, .int .i64 c, .int .i64 d] 52) := ⟨_, rfl⟩
  have V : Hid (Holds W1 (w.heap.size) 52 #[.int .i64 fr, .int .i64 ds, .int .i64 k, .int .i64 x, .int .i64 y, .int .i64 c, .int .i64 d]) := Lib.hid (by rw [hW1]; exact Holds.new w _ _)
  have Z : Hid (Holds W1 (g) 26 #[.string p.nm, .slice p.a1 p.n1 p.c1, .slice p.a2 p.n2 p.c2, .slice p.a3 p.n3 p.c3]) := Lib.hid (by rw [hW1]; exact h.alloc _)
  have BL := Lib.hid (show Below w.heap.size w W1 by rw [hW1]; exact box_below _ _ _)
  have hW1' := Lib.hid hW1
  clear hW1
  have g0 := h.cell 0
  have g1 := h.cell 1
  have g2 := h.cell 2
  have g3 := h.cell 3
  clear h
  go_enter Tryz.func30, Tryz.ntmps30
  have k1 := V.out.cell 0
  have k2 := V.out.cell 1
  have k3 := V.out.cell 2
  have k4 := V.out.cell 3
  have k5 := V.out.cell 4
  have k6 := V.out.cell 5
  have k7 := V.out.cell 6
  have q := Lib.hid (q1.out W1)
  go_wp2_with fail
  rw [← hW1'.out]
  with_reducible refine q.out.mono ?_
  rintro e u1 ⟨rfl, b1⟩
  clear k1 k2 k3 k4 k5 k6 k7
  clear hW1'
  clear q
  replace V := Lib.hid (V.out.below b1 V.out.lt)
  replace Z := Lib.hid (Z.out.below b1 Z.out.lt)
  replace BL := Lib.hid (BL.out.trans (b1.mono BL.out.size))
  clear b1
  go_wp2
  go_ret
  exact ⟨rfl, BL.out⟩
end Go.Proofs.YtgeliikfgnkppaaGreatDoor
/- Which programs may be: the program's Check. (Written by gen-prog-check.py.) -/
namespace Go.Proofs.YtgeliikfgnkppaaGreatDoor
open Go.RowKit
set_option linter.unusedVariables false
set_option linter.unusedSimpArgs false

def progB (D : PD) : Bool := (decide (1 ≤ D.spots.length) && (decide (D.spots.length ≤ 128) && decide (D.edges.length ≤ 256))) && (nameB D.nm && (varsB D.vars && (D.spots.all spotB && D.edges.all (edgeB D.spots.length D.vars.length))))
def chkP (D : PD) : Int := if progB D = true then 0 else 110
theorem spots_at {w : World} {a : Option Addr} {n c : Nat} {l : List SpotD} (h : RO spotC w a n c l) {i : Nat} (hi : i < n) : ∃ b off, a = some ⟨b, off, none⟩ ∧ b < w.heap.size ∧ w.cell? ⟨b, off + i * 3, none⟩ = some (.string (l.getD i spot0).fn) ∧ w.cell? ⟨b, off + i * 3 + 1, none⟩ = some (.string (l.getD i spot0).file) ∧ w.cell? ⟨b, off + i * 3 + 2, none⟩ = some (.int .i64 (l.getD i spot0).line) := by
  obtain ⟨b, off, h1, h2, hc⟩ := h.at_ spotC_len (by decide) spot0 hi
  exact ⟨b, off, h1, h2, hc 0 (by decide), hc 1 (by decide), hc 2 (by decide)⟩
theorem edges_at {w : World} {a : Option Addr} {n c : Nat} {l : List EdgeD} (h : RO edgeC w a n c l) {i : Nat} (hi : i < n) : ∃ b off, a = some ⟨b, off, none⟩ ∧ b < w.heap.size ∧ w.cell? ⟨b, off + i * 7, none⟩ = some (.int .i64 (l.getD i edge0).frm) ∧ w.cell? ⟨b, off + i * 7 + 1, none⟩ = some (.int .i64 (l.getD i edge0).dst) ∧ w.cell? ⟨b, off + i * 7 + 2, none⟩ = some (.int .i64 (l.getD i edge0).k) ∧ w.cell? ⟨b, off + i * 7 + 3, none⟩ = some (.int .i64 (l.getD i edge0).x) ∧ w.cell? ⟨b, off + i * 7 + 4, none⟩ = some (.int .i64 (l.getD i edge0).y) ∧ w.cell? ⟨b, off + i * 7 + 5, none⟩ = some (.int .i64 (l.getD i edge0).c) ∧ w.cell? ⟨b, off + i * 7 + 6, none⟩ = some (.int .i64 (l.getD i edge0).d) := by
  obtain ⟨b, off, h1, h2, hc⟩ := h.at_ edgeC_len (by decide) edge0 hi
  exact ⟨b, off, h1, h2, hc 0 (by decide), hc 1 (by decide), hc 2 (by decide), hc 3 (by decide), hc 4 (by decide), hc 5 (by decide), hc 6 (by decide)⟩
theorem all_no {α : Type} {q : α → Bool} {l : List α} {d : α} {k : Nat} (hk : k < l.length) (h : q (l.getD k d) = false) : l.all q = false := by
  rw [List.all_eq_false]
  exact ⟨l.getD k d, by simp [List.getD, hk], by rw [h]; simp⟩
theorem all_yes {α : Type} {q : α → Bool} {l : List α} (d : α) (h : ∀ t, t < l.length → q (l.getD t d) = true) : l.all q = true := by
  rw [List.all_eq_true]
  intro x hx
  obtain ⟨t, ht, rfl⟩ := List.getElem_of_mem hx
  have := h t ht
  simpa [List.getD, ht] using this
/-- What IndexFunc hands back: is there one? -/
def IdxE (b : Bool) (w : World) (e : Ending) (w' : World) : Prop := ∃ i : Int, decide (0 ≤ i) = b ∧ e = .returned (.int .i64 i) ∧ Below w.heap.size w w'
set_option maxRecDepth 100000 in
set_option maxHeartbeats 2000000 in
theorem spotsIdx_any (a : Option Addr) (n c : Nat) (l : List SpotD) (w : World) (h : RO spotC w a n c l) : Calls Tryz.prog 63 #[.slice a n c, .func (.func 28) #[] #[]] w (IdxE (!l.all spotB) w) := by
  have hn : n = l.length := h.len
  have hmax := h.max'
  have hmi : (n : Int) ≤ 9223372036854775807 := by omega
  have hlen := Lib.hid hn
  have T := Lib.hid h
  have hno := Lib.hid (fun k hk h => all_no (q := spotB) (l := l) (d := spot0) (k := k) hk h)
  have hyes := Lib.hid (fun h => all_yes (q := spotB) (l := l) spot0 h)
  clear h hn hmax
  generalize l.all spotB = R at *
  go_enter Tryz.func63, Tryz.ntmps63
  go_wp2
  go_loopw [8] (fun y wr => ∃ k : Nat, k ≤ n ∧ y = .int .i64 k ∧ Hid (∀ t, t < k → spotB (l.getD t spot0) = true) ∧ Hid (Below w.heap.size w wr)) (fun y _ => n - (intOf y).toNat)
  case atStart => exact ⟨0, Nat.zero_le _, rfl, Lib.hid (fun t ht => by omega), Lib.hid (Below.refl _ _)⟩
  case round =>
    obtain ⟨k, hk, rfl, hal, hB⟩ := hrel
    by_cases hlt : k < n
    · have hki : (k : Int) < (n : Int) := by omega
      obtain ⟨b, off, rfl, hbl, x0, x1, x2⟩ := spots_at (T.out.below hB.out) hlt
      have hno' := Lib.hid (hno.out k (by rw [← hlen.out]; exact hlt))
      have hyes' : Hid (spotB (l.getD k spot0) = true → ∀ t, t < k + 1 → spotB (l.getD t spot0) = true) := Lib.hid (fun h t ht => by
        by_cases e : t = k
        · rw [e]; exact h
        · exact hal.out t (by omega))
      obtain ⟨s, f, x, hs⟩ : ∃ s f x, l.getD k spot0 = (⟨s, f, x⟩ : SpotD) := ⟨_, _, _, rfl⟩
      rw [hs] at x0 x1 x2
      dsimp only at x0 x1 x2
      rw [hs] at hno' hyes'
      have q1 := Lib.hid (badSpot_any s f x wr)
      clear hal hno hs
      cases e1 : spotB (⟨s, f, x⟩ : SpotD)
      · have hf := Lib.hid (hno'.out e1)
        rw [e1] at q1
        clear hno' hyes' hyes e1
        go_wp2_with fail
        refine q1.out.mono ?_
        rintro e w1 ⟨rfl, b1⟩
        have hB2 := Lib.hid (hB.out.trans (b1.mono hB.out.size))
        go_wp2
        go_ret
        exact ⟨k, by rw [hf.out]; simp, rfl, hB2.out⟩
      · have hg := Lib.hid (hyes'.out e1)
        rw [e1] at q1
        clear hno' hyes' e1
        go_wp2_with fail
        refine q1.out.mono ?_
        rintro e w1 ⟨rfl, b1⟩
        have hB2 := Lib.hid (hB.out.trans (b1.mono hB.out.size))
        go_wp2
        go_roundw
        case rel => exact ⟨k + 1, by omega, by go_num, hg, hB2⟩
        case measure => simp [intOf]; omega
    · have hki : ¬ (k : Int) < (n : Int) := by omega
      have hf := Lib.hid (hyes.out (fun t ht => hal.out t (by rw [← hlen.out] at ht; omega)))
      clear hyes hno hal
      go_wp2
      go_ret
      exact ⟨-1, by rw [hf.out]; rfl, rfl, hB.out⟩
set_option maxRecDepth 100000 in
theorem spotsHas_any (a : Option Addr) (n c : Nat) (l : List SpotD) (w : World) (h : RO spotC w a n c l) : Calls Tryz.prog 34 #[.slice a n c, .func (.func 28) #[] #[]] w (Gives (.bool (!l.all spotB)) w) := by
  have q := Lib.hid (spotsIdx_any a n c l w h)
  generalize (!l.all spotB) = R at *
  clear h
  go_enter Tryz.func34, Tryz.ntmps34
  go_wp2_with fail
  refine q.out.mono ?_
  rintro e w1 ⟨i, hi, rfl, hb⟩
  have hi' := Lib.hid hi
  clear hi q
  go_wp2
  go_ret
  exact ⟨ret_bool hi'.out, hb⟩
set_option maxRecDepth 100000 in
set_option maxHeartbeats 2000000 in
theorem edgesIdx_any (p : PV) (g : Nat) (a : Option Addr) (n c : Nat) (l : List EdgeD) (w : World) (h : RO edgeC w a n c l) (hz : Holds w g 26 p.cells) : Calls Tryz.prog 64 #[.slice a n c, .func (.func 30) #[] #[.pointer (some ⟨g, 0, none⟩)]] w (IdxE (!l.all (edgeB p.n2 p.n1)) w) := by
  have hn : n = l.length := h.len
  have hmax := h.max'
  have hmi : (n : Int) ≤ 9223372036854775807 := by omega
  have hlen := Lib.hid hn
  have T := Lib.hid h
  have HZ := Lib.hid hz
  have hno := Lib.hid (fun k hk h => all_no (q := (edgeB p.n2 p.n1)) (l := l) (d := edge0) (k := k) hk h)
  have hyes := Lib.hid (fun h => all_yes (q := (edgeB p.n2 p.n1)) (l := l) edge0 h)
  clear h hn hmax hz
  generalize l.all (edgeB p.n2 p.n1) = R at *
  go_enter Tryz.func64, Tryz.ntmps64
  go_wp2
  go_loopw [8] (fun y wr => ∃ k : Nat, k ≤ n ∧ y = .int .i64 k ∧ Hid (∀ t, t < k → (edgeB p.n2 p.n1) (l.getD t edge0) = true) ∧ Hid (Below w.heap.size w wr)) (fun y _ => n - (intOf y).toNat)
  case atStart => exact ⟨0, Nat.zero_le _, rfl, Lib.hid (fun t ht => by omega), Lib.hid (Below.refl _ _)⟩
  case round =>
    obtain ⟨k, hk, rfl, hal, hB⟩ := hrel
    by_cases hlt : k < n
    · have hki : (k : Int) < (n : Int) := by omega
      obtain ⟨b, off, rfl, hbl, x0, x1, x2, x3, x4, x5, x6⟩ := edges_at (T.out.below hB.out) hlt
      have hno' := Lib.hid (hno.out k (by rw [← hlen.out]; exact hlt))
      have hyes' : Hid ((edgeB p.n2 p.n1) (l.getD k edge0) = true → ∀ t, t < k + 1 → (edgeB p.n2 p.n1) (l.getD t edge0) = true) := Lib.hid (fun h t ht => by
        by_cases e : t = k
        · rw [e]; exact h
        · exact hal.out t (by omega))
      obtain ⟨fr, ds, ek, ex, ey, ec, ed, hs⟩ : ∃ fr ds ek ex ey ec ed, l.getD k edge0 = (⟨fr, ds, ek, ex, ey, ec, ed⟩ : EdgeD) := ⟨_, _, _, _, _, _, _, rfl⟩
      rw [hs] at x0 x1 x2 x3 x4 x5 x6
      dsimp only at x0 x1 x2 x3 x4 x5 x6
      rw [hs] at hno' hyes'
      have q1 := Lib.hid (badEdge_any p g fr ds ek ex ey ec ed wr (HZ.out.below hB.out HZ.out.lt))
      clear hal hno hs
      cases e1 : (edgeB p.n2 p.n1) (⟨fr, ds, ek, ex, ey, ec, ed⟩ : EdgeD)
      · have hf := Lib.hid (hno'.out e1)
        rw [e1] at q1
        clear hno' hyes' hyes e1
        go_wp2_with fail
        refine q1.out.mono ?_
        rintro e w1 ⟨rfl, b1⟩
        have hB2 := Lib.hid (hB.out.trans (b1.mono hB.out.size))
        go_wp2
        go_ret
        exact ⟨k, by rw [hf.out]; simp, rfl, hB2.out⟩
      · have hg := Lib.hid (hyes'.out e1)
        rw [e1] at q1
        clear hno' hyes' e1
        go_wp2_with fail
        refine q1.out.mono ?_
        rintro e w1 ⟨rfl, b1⟩
        have hB2 := Lib.hid (hB.out.trans (b1.mono hB.out.size))
        go_wp2
        go_roundw
        case rel => exact ⟨k + 1, by omega, by go_num, hg, hB2⟩
        case measure => simp [intOf]; omega
    · have hki : ¬ (k : Int) < (n : Int) := by omega
      have hf := Lib.hid (hyes.out (fun t ht => hal.out t (by rw [← hlen.out] at ht; omega)))
      clear hyes hno hal
      go_wp2
      go_ret
      exact ⟨-1, by rw [hf.out]; rfl, rfl, hB.out⟩
set_option maxRecDepth 100000 in
theorem edgesHas_any (p : PV) (g : Nat) (a : Option Addr) (n c : Nat) (l : List EdgeD) (w : World) (h : RO edgeC w a n c l) (hz : Holds w g 26 p.cells) : Calls Tryz.prog 35 #[.slice a n c, .func (.func 30) #[] #[.pointer (some ⟨g, 0, none⟩)]] w (Gives (.bool (!l.all (edgeB p.n2 p.n1))) w) := by
  have q := Lib.hid (edgesIdx_any p g a n c l w h hz)
  generalize (!l.all (edgeB p.n2 p.n1)) = R at *
  clear h hz
  go_enter Tryz.func35, Tryz.ntmps35
  go_wp2_with fail
  refine q.out.mono ?_
  rintro e w1 ⟨i, hi, rfl, hb⟩
  have hi' := Lib.hid hi
  clear hi q
  go_wp2
  go_ret
  exact ⟨ret_bool hi'.out, hb⟩
set_option maxRecDepth 100000 in
set_option maxHeartbeats 4000000 in
theorem pcheck_any (p : PV) (D : PD) (w : World) (h : PrA w p D) : Calls Tryz.prog 9 #[.agg #[.string p.nm, .slice p.a1 p.n1 p.c1, .slice p.a2 p.n2 p.c2, .slice p.a3 p.n3 p.c3]] w (Gives (.int .i64 (chkP D)) w) := by
  have hmf : ∀ (fn : Fn) (first cap : Array Value) (w : World), (Instr.makeFunc fn first cap).run Tryz.prog w = .ok (.func fn first cap) w := fun _ _ _ _ => rfl
  have hR : Hid (progB D = ((decide (1 ≤ p.n2) && (decide (p.n2 ≤ 128) && decide (p.n3 ≤ 256))) && (nameB p.nm && (varsB D.vars && (D.spots.all spotB && D.edges.all (edgeB p.n2 p.n1)))))) := Lib.hid (by unfold progB; rw [h.nm, h.vars.len, h.spots.len, h.edges.len])
  have hC : Hid (chkP D = if progB D = true then 0 else 110) := Lib.hid rfl
  have q1 := Lib.hid (fun W => name_any p.nm W)
  have q2 := Lib.hid (fun W (hW : TT W p.a1 p.n1 p.c1 D.vars) => rightVars_any p.a1 p.n1 p.c1 D.vars W hW)
  have q3 := Lib.hid (fun W (hW : RO spotC W p.a2 p.n2 p.c2 D.spots) => spotsHas_any p.a2 p.n2 p.c2 D.spots W hW)
  have q4 := Lib.hid (fun W (hW : RO edgeC W p.a3 p.n3 p.c3 D.edges) (hz : Holds W w.heap.size 26 p.cells) => edgesHas_any p w.heap.size p.a3 p.n3 p.c3 D.edges W hW hz)
  generalize chkP D = R at *
  generalize progB D = Q at *
  generalize nameB p.nm = bn at *
  generalize varsB D.vars = bv at *
  generalize D.spots.all spotB = bs at *
  generalize D.edges.all (edgeB p.n2 p.n1) = be at *
  by_cases g1 : 1 ≤ p.n2
  rotate_left
  · have i1 : ¬ (1 : Int) ≤ (p.n2 : Int) := by omega
    have hF : Hid (R = 110) := Lib.hid (by rw [hC.out, hR.out, decide_eq_false g1]; rfl)
    clear hR hC
    obtain ⟨W1, hW1⟩ : ∃ W1, W1 = w.alloc (.cells #[.string p.nm, .slice p.a1 p.n1 p.c1, .slice p.a2 p.n2 p.c2, .slice p.a3 p.n3 p.c3] 26) := ⟨_, rfl⟩
    have Z : Hid (Holds W1 (w.heap.size) 26 #[.string p.nm, .slice p.a1 p.n1 p.c1, .slice p.a2 p.n2 p.c2, .slice p.a3 p.n3 p.c3]) := Lib.hid (by rw [hW1]; exact Holds.new w _ _)
    have BL := Lib.hid (show Below w.heap.size w W1 by rw [hW1]; exact box_below _ _ _)
    have V := Lib.hid (h.vars.below BL.out)
    have SP := Lib.hid (h.spots.below BL.out)
    have ED := Lib.hid (h.edges.below BL.out)
    have hW1' := Lib.hid hW1
    clear hW1
    clear h
    go_enter Tryz.func9, Tryz.ntmps9
    have k1 := Z.out.cell 0
    have k2 := Z.out.cell 1
    have k3 := Z.out.cell 2
    have k4 := Z.out.cell 3
    go_wp2
    go_ret
    rw [← hW1'.out]
    exact ⟨ret_int hF.out.symm, BL.out⟩
  have i1 : (1 : Int) ≤ (p.n2 : Int) := by omega
  by_cases g2 : p.n2 ≤ 128
  rotate_left
  · have i2 : ¬ (p.n2 : Int) ≤ 128 := by omega
    have hF : Hid (R = 110) := Lib.hid (by rw [hC.out, hR.out, decide_eq_true g1, decide_eq_false g2]; rfl)
    clear hR hC
    obtain ⟨W1, hW1⟩ : ∃ W1, W1 = w.alloc (.cells #[.string p.nm, .slice p.a1 p.n1 p.c1, .slice p.a2 p.n2 p.c2, .slice p.a3 p.n3 p.c3] 26) := ⟨_, rfl⟩
    have Z : Hid (Holds W1 (w.heap.size) 26 #[.string p.nm, .slice p.a1 p.n1 p.c1, .slice p.a2 p.n2 p.c2, .slice p.a3 p.n3 p.c3]) := Lib.hid (by rw [hW1]; exact Holds.new w _ _)
    have BL := Lib.hid (show Below w.heap.size w W1 by rw [hW1]; exact box_below _ _ _)
    have V := Lib.hid (h.vars.below BL.out)
    have SP := Lib.hid (h.spots.below BL.out)
    have ED := Lib.hid (h.edges.below BL.out)
    have hW1' := Lib.hid hW1
    clear hW1
    clear h
    go_enter Tryz.func9, Tryz.ntmps9
    have k1 := Z.out.cell 0
    have k2 := Z.out.cell 1
    have k3 := Z.out.cell 2
    have k4 := Z.out.cell 3
    go_wp2
    go_ret
    rw [← hW1'.out]
    exact ⟨ret_int hF.out.symm, BL.out⟩
  have i2 : (p.n2 : Int) ≤ 128 := by omega
  by_cases g3 : p.n3 ≤ 256
  rotate_left
  · have i3 : ¬ (p.n3 : Int) ≤ 256 := by omega
    have hF : Hid (R = 110) := Lib.hid (by rw [hC.out, hR.out, decide_eq_true g1, decide_eq_true g2, decide_eq_false g3]; rfl)
    clear hR hC
    obtain ⟨W1, hW1⟩ : ∃ W1, W1 = w.alloc (.cells #[.string p.nm, .slice p.a1 p.n1 p.c1, .slice p.a2 p.n2 p.c2, .slice p.a3 p.n3 p.c3] 26) := ⟨_, rfl⟩
    have Z : Hid (Holds W1 (w.heap.size) 26 #[.string p.nm, .slice p.a1 p.n1 p.c1, .slice p.a2 p.n2 p.c2, .slice p.a3 p.n3 p.c3]) := Lib.hid (by rw [hW1]; exact Holds.new w _ _)
    have BL := Lib.hid (show Below w.heap.size w W1 by rw [hW1]; exact box_below _ _ _)
    have V := Lib.hid (h.vars.below BL.out)
    have SP := Lib.hid (h.spots.below BL.out)
    have ED := Lib.hid (h.edges.below BL.out)
    have hW1' := Lib.hid hW1
    clear hW1
    clear h
    go_enter Tryz.func9, Tryz.ntmps9
    have k1 := Z.out.cell 0
    have k2 := Z.out.cell 1
    have k3 := Z.out.cell 2
    have k4 := Z.out.cell 3
    go_wp2
    go_ret
    rw [← hW1'.out]
    exact ⟨ret_int hF.out.symm, BL.out⟩
  have i3 : (p.n3 : Int) ≤ 256 := by omega
  cases bn
  · have hF : Hid (R = 110) := Lib.hid (by rw [hC.out, hR.out, decide_eq_true g1, decide_eq_true g2, decide_eq_true g3]; rfl)
    clear hR hC
    obtain ⟨W1, hW1⟩ : ∃ W1, W1 = w.alloc (.cells #[.string p.nm, .slice p.a1 p.n1 p.c1, .slice p.a2 p.n2 p.c2, .slice p.a3 p.n3 p.c3] 26) := ⟨_, rfl⟩
    have Z : Hid (Holds W1 (w.heap.size) 26 #[.string p.nm, .slice p.a1 p.n1 p.c1, .slice p.a2 p.n2 p.c2, .slice p.a3 p.n3 p.c3]) := Lib.hid (by rw [hW1]; exact Holds.new w _ _)
    have BL := Lib.hid (show Below w.heap.size w W1 by rw [hW1]; exact box_below _ _ _)
    have V := Lib.hid (h.vars.below BL.out)
    have SP := Lib.hid (h.spots.below BL.out)
    have ED := Lib.hid (h.edges.below BL.out)
    have hW1' := Lib.hid hW1
    clear hW1
    clear h
    go_enter Tryz.func9, Tryz.ntmps9
    have k1 := Z.out.cell 0
    have k2 := Z.out.cell 1
    have k3 := Z.out.cell 2
    have k4 := Z.out.cell 3
    have q := Lib.hid (q1.out W1)
    go_wp2_with fail
    rw [← hW1'.out]
    with_reducible refine q.out.mono ?_
    rintro e u1 ⟨rfl, b1⟩
    clear k1 k2 k3 k4
    clear hW1'
    clear q
    have k5 : u1.cell? ⟨w.heap.size, 0, none⟩ = some (.string p.nm) := (Z.out.below b1 Z.out.lt).cell 0
    have k6 : u1.cell? ⟨w.heap.size, 1, none⟩ = some (.slice p.a1 p.n1 p.c1) := (Z.out.below b1 Z.out.lt).cell 1
    have k7 : u1.cell? ⟨w.heap.size, 2, none⟩ = some (.slice p.a2 p.n2 p.c2) := (Z.out.below b1 Z.out.lt).cell 2
    have k8 : u1.cell? ⟨w.heap.size, 3, none⟩ = some (.slice p.a3 p.n3 p.c3) := (Z.out.below b1 Z.out.lt).cell 3
    replace Z := Lib.hid (Z.out.below b1 Z.out.lt)
    replace BL := Lib.hid (BL.out.trans (b1.mono BL.out.size))
    replace V := Lib.hid (V.out.below b1)
    replace SP := Lib.hid (SP.out.below b1)
    replace ED := Lib.hid (ED.out.below b1)
    clear b1
    go_wp2
    go_ret
    exact ⟨ret_int hF.out.symm, BL.out⟩
  cases bv
  · have hF : Hid (R = 110) := Lib.hid (by rw [hC.out, hR.out, decide_eq_true g1, decide_eq_true g2, decide_eq_true g3]; rfl)
    clear hR hC
    obtain ⟨W1, hW1⟩ : ∃ W1, W1 = w.alloc (.cells #[.string p.nm, .slice p.a1 p.n1 p.c1, .slice p.a2 p.n2 p.c2, .slice p.a3 p.n3 p.c3] 26) := ⟨_, rfl⟩
    have Z : Hid (Holds W1 (w.heap.size) 26 #[.string p.nm, .slice p.a1 p.n1 p.c1, .slice p.a2 p.n2 p.c2, .slice p.a3 p.n3 p.c3]) := Lib.hid (by rw [hW1]; exact Holds.new w _ _)
    have BL := Lib.hid (show Below w.heap.size w W1 by rw [hW1]; exact box_below _ _ _)
    have V := Lib.hid (h.vars.below BL.out)
    have SP := Lib.hid (h.spots.below BL.out)
    have ED := Lib.hid (h.edges.below BL.out)
    have hW1' := Lib.hid hW1
    clear hW1
    clear h
    go_enter Tryz.func9, Tryz.ntmps9
    have k1 := Z.out.cell 0
    have k2 := Z.out.cell 1
    have k3 := Z.out.cell 2
    have k4 := Z.out.cell 3
    have q := Lib.hid (q1.out W1)
    go_wp2_with fail
    rw [← hW1'.out]
    with_reducible refine q.out.mono ?_
    rintro e u1 ⟨rfl, b1⟩
    clear k1 k2 k3 k4
    clear hW1'
    clear q
    have k5 : u1.cell? ⟨w.heap.size, 0, none⟩ = some (.string p.nm) := (Z.out.below b1 Z.out.lt).cell 0
    have k6 : u1.cell? ⟨w.heap.size, 1, none⟩ = some (.slice p.a1 p.n1 p.c1) := (Z.out.below b1 Z.out.lt).cell 1
    have k7 : u1.cell? ⟨w.heap.size, 2, none⟩ = some (.slice p.a2 p.n2 p.c2) := (Z.out.below b1 Z.out.lt).cell 2
    have k8 : u1.cell? ⟨w.heap.size, 3, none⟩ = some (.slice p.a3 p.n3 p.c3) := (Z.out.below b1 Z.out.lt).cell 3
    replace Z := Lib.hid (Z.out.below b1 Z.out.lt)
    replace BL := Lib.hid (BL.out.trans (b1.mono BL.out.size))
    replace V := Lib.hid (V.out.below b1)
    replace SP := Lib.hid (SP.out.below b1)
    replace ED := Lib.hid (ED.out.below b1)
    clear b1
    have q := Lib.hid (q2.out u1 V.out)
    go_wp2_with fail
    with_reducible refine q.out.mono ?_
    rintro e u2 ⟨rfl, b2⟩
    clear k5 k6 k7 k8
    clear q
    have k9 : u2.cell? ⟨w.heap.size, 0, none⟩ = some (.string p.nm) := (Z.out.below b2 Z.out.lt).cell 0
    have k10 : u2.cell? ⟨w.heap.size, 1, none⟩ = some (.slice p.a1 p.n1 p.c1) := (Z.out.below b2 Z.out.lt).cell 1
    have k11 : u2.cell? ⟨w.heap.size, 2, none⟩ = some (.slice p.a2 p.n2 p.c2) := (Z.out.below b2 Z.out.lt).cell 2
    have k12 : u2.cell? ⟨w.heap.size, 3, none⟩ = some (.slice p.a3 p.n3 p.c3) := (Z.out.below b2 Z.out.lt).cell 3
    replace Z := Lib.hid (Z.out.below b2 Z.out.lt)
    replace BL := Lib.hid (BL.out.trans (b2.mono BL.out.size))
    replace V := Lib.hid (V.out.below b2)
    replace SP := Lib.hid (SP.out.below b2)
    replace ED := Lib.hid (ED.out.below b2)
    clear b2
    go_wp2
    go_ret
    exact ⟨ret_int hF.out.symm, BL.out⟩
  cases bs
  · have hF : Hid (R = 110) := Lib.hid (by rw [hC.out, hR.out, decide_eq_true g1, decide_eq_true g2, decide_eq_true g3]; rfl)
    clear hR hC
    obtain ⟨W1, hW1⟩ : ∃ W1, W1 = w.alloc (.cells #[.string p.nm, .slice p.a1 p.n1 p.c1, .slice p.a2 p.n2 p.c2, .slice p.a3 p.n3 p.c3] 26) := ⟨_, rfl⟩
    have Z : Hid (Holds W1 (w.heap.size) 26 #[.string p.nm, .slice p.a1 p.n1 p.c1, .slice p.a2 p.n2 p.c2, .slice p.a3 p.n3 p.c3]) := Lib.hid (by rw [hW1]; exact Holds.new w _ _)
    have BL := Lib.hid (show Below w.heap.size w W1 by rw [hW1]; exact box_below _ _ _)
    have V := Lib.hid (h.vars.below BL.out)
    have SP := Lib.hid (h.spots.below BL.out)
    have ED := Lib.hid (h.edges.below BL.out)
    have hW1' := Lib.hid hW1
    clear hW1
    clear h
    go_enter Tryz.func9, Tryz.ntmps9
    have k1 := Z.out.cell 0
    have k2 := Z.out.cell 1
    have k3 := Z.out.cell 2
    have k4 := Z.out.cell 3
    have q := Lib.hid (q1.out W1)
    go_wp2_with fail
    rw [← hW1'.out]
    with_reducible refine q.out.mono ?_
    rintro e u1 ⟨rfl, b1⟩
    clear k1 k2 k3 k4
    clear hW1'
    clear q
    have k5 : u1.cell? ⟨w.heap.size, 0, none⟩ = some (.string p.nm) := (Z.out.below b1 Z.out.lt).cell 0
    have k6 : u1.cell? ⟨w.heap.size, 1, none⟩ = some (.slice p.a1 p.n1 p.c1) := (Z.out.below b1 Z.out.lt).cell 1
    have k7 : u1.cell? ⟨w.heap.size, 2, none⟩ = some (.slice p.a2 p.n2 p.c2) := (Z.out.below b1 Z.out.lt).cell 2
    have k8 : u1.cell? ⟨w.heap.size, 3, none⟩ = some (.slice p.a3 p.n3 p.c3) := (Z.out.below b1 Z.out.lt).cell 3
    replace Z := Lib.hid (Z.out.below b1 Z.out.lt)
    replace BL := Lib.hid (BL.out.trans (b1.mono BL.out.size))
    replace V := Lib.hid (V.out.below b1)
    replace SP := Lib.hid (SP.out.below b1)
    replace ED := Lib.hid (ED.out.below b1)
    clear b1
    have q := Lib.hid (q2.out u1 V.out)
    go_wp2_with fail
    with_reducible refine q.out.mono ?_
    rintro e u2 ⟨rfl, b2⟩
    clear k5 k6 k7 k8
    clear q
    have k9 : u2.cell? ⟨w.heap.size, 0, none⟩ = some (.string p.nm) := (Z.out.below b2 Z.out.lt).cell 0
    have k10 : u2.cell? ⟨w.heap.size, 1, none⟩ = some (.slice p.a1 p.n1 p.c1) := (Z.out.below b2 Z.out.lt).cell 1
    have k11 : u2.cell? ⟨w.heap.size, 2, none⟩ = some (.slice p.a2 p.n2 p.c2) := (Z.out.below b2 Z.out.lt).cell 2
    have k12 : u2.cell? ⟨w.heap.size, 3, none⟩ = some (.slice p.a3 p.n3 p.c3) := (Z.out.below b2 Z.out.lt).cell 3
    replace Z := Lib.hid (Z.out.below b2 Z.out.lt)
    replace BL := Lib.hid (BL.out.trans (b2.mono BL.out.size))
    replace V := Lib.hid (V.out.below b2)
    replace SP := Lib.hid (SP.out.below b2)
    replace ED := Lib.hid (ED.out.below b2)
    clear b2
    have q := Lib.hid (q3.out u2 SP.out)
    go_wp2_with fail
    with_reducible refine q.out.mono ?_
    rintro e u3 ⟨rfl, b3⟩
    clear k9 k10 k11 k12
    clear q
    have k13 : u3.cell? ⟨w.heap.size, 0, none⟩ = some (.string p.nm) := (Z.out.below b3 Z.out.lt).cell 0
    have k14 : u3.cell? ⟨w.heap.size, 1, none⟩ = some (.slice p.a1 p.n1 p.c1) := (Z.out.below b3 Z.out.lt).cell 1
    have k15 : u3.cell? ⟨w.heap.size, 2, none⟩ = some (.slice p.a2 p.n2 p.c2) := (Z.out.below b3 Z.out.lt).cell 2
    have k16 : u3.cell? ⟨w.heap.size, 3, none⟩ = some (.slice p.a3 p.n3 p.c3) := (Z.out.below b3 Z.out.lt).cell 3
    replace Z := Lib.hid (Z.out.below b3 Z.out.lt)
    replace BL := Lib.hid (BL.out.trans (b3.mono BL.out.size))
    replace V := Lib.hid (V.out.below b3)
    replace SP := Lib.hid (SP.out.below b3)
    replace ED := Lib.hid (ED.out.below b3)
    clear b3
    go_wp2
    go_ret
    exact ⟨ret_int hF.out.symm, BL.out⟩
  cases be
  · have hF : Hid (R = 110) := Lib.hid (by rw [hC.out, hR.out, decide_eq_true g1, decide_eq_true g2, decide_eq_true g3]; rfl)
    clear hR hC
    obtain ⟨W1, hW1⟩ : ∃ W1, W1 = w.alloc (.cells #[.string p.nm, .slice p.a1 p.n1 p.c1, .slice p.a2 p.n2 p.c2, .slice p.a3 p.n3 p.c3] 26) := ⟨_, rfl⟩
    have Z : Hid (Holds W1 (w.heap.size) 26 #[.string p.nm, .slice p.a1 p.n1 p.c1, .slice p.a2 p.n2 p.c2, .slice p.a3 p.n3 p.c3]) := Lib.hid (by rw [hW1]; exact Holds.new w _ _)
    have BL := Lib.hid (show Below w.heap.size w W1 by rw [hW1]; exact box_below _ _ _)
    have V := Lib.hid (h.vars.below BL.out)
    have SP := Lib.hid (h.spots.below BL.out)
    have ED := Lib.hid (h.edges.below BL.out)
    have hW1' := Lib.hid hW1
    clear hW1
    clear h
    go_enter Tryz.func9, Tryz.ntmps9
    have k1 := Z.out.cell 0
    have k2 := Z.out.cell 1
    have k3 := Z.out.cell 2
    have k4 := Z.out.cell 3
    have q := Lib.hid (q1.out W1)
    go_wp2_with fail
    rw [← hW1'.out]
    with_reducible refine q.out.mono ?_
    rintro e u1 ⟨rfl, b1⟩
    clear k1 k2 k3 k4
    clear hW1'
    clear q
    have k5 : u1.cell? ⟨w.heap.size, 0, none⟩ = some (.string p.nm) := (Z.out.below b1 Z.out.lt).cell 0
    have k6 : u1.cell? ⟨w.heap.size, 1, none⟩ = some (.slice p.a1 p.n1 p.c1) := (Z.out.below b1 Z.out.lt).cell 1
    have k7 : u1.cell? ⟨w.heap.size, 2, none⟩ = some (.slice p.a2 p.n2 p.c2) := (Z.out.below b1 Z.out.lt).cell 2
    have k8 : u1.cell? ⟨w.heap.size, 3, none⟩ = some (.slice p.a3 p.n3 p.c3) := (Z.out.below b1 Z.out.lt).cell 3
    replace Z := Lib.hid (Z.out.below b1 Z.out.lt)
    replace BL := Lib.hid (BL.out.trans (b1.mono BL.out.size))
    replace V := Lib.hid (V.out.below b1)
    replace SP := Lib.hid (SP.out.below b1)
    replace ED := Lib.hid (ED.out.below b1)
    clear b1
    have q := Lib.hid (q2.out u1 V.out)
    go_wp2_with fail
    with_reducible refine q.out.mono ?_
    rintro e u2 ⟨rfl, b2⟩
    clear k5 k6 k7 k8
    clear q
    have k9 : u2.cell? ⟨w.heap.size, 0, none⟩ = some (.string p.nm) := (Z.out.below b2 Z.out.lt).cell 0
    have k10 : u2.cell? ⟨w.heap.size, 1, none⟩ = some (.slice p.a1 p.n1 p.c1) := (Z.out.below b2 Z.out.lt).cell 1
    have k11 : u2.cell? ⟨w.heap.size, 2, none⟩ = some (.slice p.a2 p.n2 p.c2) := (Z.out.below b2 Z.out.lt).cell 2
    have k12 : u2.cell? ⟨w.heap.size, 3, none⟩ = some (.slice p.a3 p.n3 p.c3) := (Z.out.below b2 Z.out.lt).cell 3
    replace Z := Lib.hid (Z.out.below b2 Z.out.lt)
    replace BL := Lib.hid (BL.out.trans (b2.mono BL.out.size))
    replace V := Lib.hid (V.out.below b2)
    replace SP := Lib.hid (SP.out.below b2)
    replace ED := Lib.hid (ED.out.below b2)
    clear b2
    have q := Lib.hid (q3.out u2 SP.out)
    go_wp2_with fail
    with_reducible refine q.out.mono ?_
    rintro e u3 ⟨rfl, b3⟩
    clear k9 k10 k11 k12
    clear q
    have k13 : u3.cell? ⟨w.heap.size, 0, none⟩ = some (.string p.nm) := (Z.out.below b3 Z.out.lt).cell 0
    have k14 : u3.cell? ⟨w.heap.size, 1, none⟩ = some (.slice p.a1 p.n1 p.c1) := (Z.out.below b3 Z.out.lt).cell 1
    have k15 : u3.cell? ⟨w.heap.size, 2, none⟩ = some (.slice p.a2 p.n2 p.c2) := (Z.out.below b3 Z.out.lt).cell 2
    have k16 : u3.cell? ⟨w.heap.size, 3, none⟩ = some (.slice p.a3 p.n3 p.c3) := (Z.out.below b3 Z.out.lt).cell 3
    replace Z := Lib.hid (Z.out.below b3 Z.out.lt)
    replace BL := Lib.hid (BL.out.trans (b3.mono BL.out.size))
    replace V := Lib.hid (V.out.below b3)
    replace SP := Lib.hid (SP.out.below b3)
    replace ED := Lib.hid (ED.out.below b3)
    clear b3
    have q := Lib.hid (q4.out u3 ED.out Z.out)
    go_wp2_with fail
    with_reducible refine q.out.mono ?_
    rintro e u4 ⟨rfl, b4⟩
    clear k13 k14 k15 k16
    clear q
    replace Z := Lib.hid (Z.out.below b4 Z.out.lt)
    replace BL := Lib.hid (BL.out.trans (b4.mono BL.out.size))
    replace V := Lib.hid (V.out.below b4)
    replace SP := Lib.hid (SP.out.below b4)
    replace ED := Lib.hid (ED.out.below b4)
    clear b4
    go_wp2
    go_ret
    exact ⟨ret_int hF.out.symm, BL.out⟩
  have hF : Hid (R = 0) := Lib.hid (by rw [hC.out, hR.out, decide_eq_true g1, decide_eq_true g2, decide_eq_true g3]; rfl)
  clear hR hC
  obtain ⟨W1, hW1⟩ : ∃ W1, W1 = w.alloc (.cells #[.string p.nm, .slice p.a1 p.n1 p.c1, .slice p.a2 p.n2 p.c2, .slice p.a3 p.n3 p.c3] 26) := ⟨_, rfl⟩
  have Z : Hid (Holds W1 (w.heap.size) 26 #[.string p.nm, .slice p.a1 p.n1 p.c1, .slice p.a2 p.n2 p.c2, .slice p.a3 p.n3 p.c3]) := Lib.hid (by rw [hW1]; exact Holds.new w _ _)
  have BL := Lib.hid (show Below w.heap.size w W1 by rw [hW1]; exact box_below _ _ _)
  have V := Lib.hid (h.vars.below BL.out)
  have SP := Lib.hid (h.spots.below BL.out)
  have ED := Lib.hid (h.edges.below BL.out)
  have hW1' := Lib.hid hW1
  clear hW1
  clear h
  go_enter Tryz.func9, Tryz.ntmps9
  have k1 := Z.out.cell 0
  have k2 := Z.out.cell 1
  have k3 := Z.out.cell 2
  have k4 := Z.out.cell 3
  have q := Lib.hid (q1.out W1)
  go_wp2_with fail
  rw [← hW1'.out]
  with_reducible refine q.out.mono ?_
  rintro e u1 ⟨rfl, b1⟩
  clear k1 k2 k3 k4
  clear hW1'
  clear q
  have k5 : u1.cell? ⟨w.heap.size, 0, none⟩ = some (.string p.nm) := (Z.out.below b1 Z.out.lt).cell 0
  have k6 : u1.cell? ⟨w.heap.size, 1, none⟩ = some (.slice p.a1 p.n1 p.c1) := (Z.out.below b1 Z.out.lt).cell 1
  have k7 : u1.cell? ⟨w.heap.size, 2, none⟩ = some (.slice p.a2 p.n2 p.c2) := (Z.out.below b1 Z.out.lt).cell 2
  have k8 : u1.cell? ⟨w.heap.size, 3, none⟩ = some (.slice p.a3 p.n3 p.c3) := (Z.out.below b1 Z.out.lt).cell 3
  replace Z := Lib.hid (Z.out.below b1 Z.out.lt)
  replace BL := Lib.hid (BL.out.trans (b1.mono BL.out.size))
  replace V := Lib.hid (V.out.below b1)
  replace SP := Lib.hid (SP.out.below b1)
  replace ED := Lib.hid (ED.out.below b1)
  clear b1
  have q := Lib.hid (q2.out u1 V.out)
  go_wp2_with fail
  with_reducible refine q.out.mono ?_
  rintro e u2 ⟨rfl, b2⟩
  clear k5 k6 k7 k8
  clear q
  have k9 : u2.cell? ⟨w.heap.size, 0, none⟩ = some (.string p.nm) := (Z.out.below b2 Z.out.lt).cell 0
  have k10 : u2.cell? ⟨w.heap.size, 1, none⟩ = some (.slice p.a1 p.n1 p.c1) := (Z.out.below b2 Z.out.lt).cell 1
  have k11 : u2.cell? ⟨w.heap.size, 2, none⟩ = some (.slice p.a2 p.n2 p.c2) := (Z.out.below b2 Z.out.lt).cell 2
  have k12 : u2.cell? ⟨w.heap.size, 3, none⟩ = some (.slice p.a3 p.n3 p.c3) := (Z.out.below b2 Z.out.lt).cell 3
  replace Z := Lib.hid (Z.out.below b2 Z.out.lt)
  replace BL := Lib.hid (BL.out.trans (b2.mono BL.out.size))
  replace V := Lib.hid (V.out.below b2)
  replace SP := Lib.hid (SP.out.below b2)
  replace ED := Lib.hid (ED.out.below b2)
  clear b2
  have q := Lib.hid (q3.out u2 SP.out)
  go_wp2_with fail
  with_reducible refine q.out.mono ?_
  rintro e u3 ⟨rfl, b3⟩
  clear k9 k10 k11 k12
  clear q
  have k13 : u3.cell? ⟨w.heap.size, 0, none⟩ = some (.string p.nm) := (Z.out.below b3 Z.out.lt).cell 0
  have k14 : u3.cell? ⟨w.heap.size, 1, none⟩ = some (.slice p.a1 p.n1 p.c1) := (Z.out.below b3 Z.out.lt).cell 1
  have k15 : u3.cell? ⟨w.heap.size, 2, none⟩ = some (.slice p.a2 p.n2 p.c2) := (Z.out.below b3 Z.out.lt).cell 2
  have k16 : u3.cell? ⟨w.heap.size, 3, none⟩ = some (.slice p.a3 p.n3 p.c3) := (Z.out.below b3 Z.out.lt).cell 3
  replace Z := Lib.hid (Z.out.below b3 Z.out.lt)
  replace BL := Lib.hid (BL.out.trans (b3.mono BL.out.size))
  replace V := Lib.hid (V.out.below b3)
  replace SP := Lib.hid (SP.out.below b3)
  replace ED := Lib.hid (ED.out.below b3)
  clear b3
  have q := Lib.hid (q4.out u3 ED.out Z.out)
  go_wp2_with fail
  with_reducible refine q.out.mono ?_
  rintro e u4 ⟨rfl, b4⟩
  clear k13 k14 k15 k16
  clear q
  replace Z := Lib.hid (Z.out.below b4 Z.out.lt)
  replace BL := Lib.hid (BL.out.trans (b4.mono BL.out.size))
  replace V := Lib.hid (V.out.below b4)
  replace SP := Lib.hid (SP.out.below b4)
  replace ED := Lib.hid (ED.out.below b4)
  clear b4
  go_wp2
  go_ret
  exact ⟨ret_int hF.out.symm, BL.out⟩
end Go.Proofs.YtgeliikfgnkppaaGreatDoor
/- Which programs are too large to be looked at. (Written by gen-prog-large.py.) -/
namespace Go.Proofs.YtgeliikfgnkppaaGreatDoor
open Go.RowKit
set_option linter.unusedVariables false
set_option linter.unusedSimpArgs false

def bigS (s : SpotD) : Bool := decide (100 < s.fn.size) || decide (100 < s.file.size)
def bigP (D : PD) : Bool := (decide (100 < D.nm.size) || (decide (20 < D.vars.length) || (decide (150 < D.spots.length) || decide (300 < D.edges.length)))) || (D.vars.any (fun s => decide (100 < s.size)) || D.spots.any bigS)
theorem any_yes {α : Type} {q : α → Bool} {l : List α} {d : α} {k : Nat} (hk : k < l.length) (h : q (l.getD k d) = true) : l.any q = true := by
  rw [List.any_eq_true]
  exact ⟨l.getD k d, by simp [List.getD, hk], h⟩
theorem any_no {α : Type} {q : α → Bool} {l : List α} (d : α) (h : ∀ t, t < l.length → q (l.getD t d) = false) : l.any q = false := by
  rw [List.any_eq_false]
  intro x hx
  obtain ⟨t, ht, rfl⟩ := List.getElem_of_mem hx
  have := h t ht
  simpa [List.getD, ht] using this
/-- A program that is not too large is well within the machine. -/
theorem small_sizes {D : PD} (h : bigP D = false) : D.nm.size ≤ 100 ∧ D.vars.length ≤ 20 ∧ D.spots.length ≤ 150 ∧ D.edges.length ≤ 300 := by
  unfold bigP at h
  simp only [Bool.or_eq_false_iff, decide_eq_false_iff_not] at h
  obtain ⟨⟨h1, h2, h3, h4⟩, _⟩ := h
  exact ⟨by omega, by omega, by omega, by omega⟩
set_option maxRecDepth 100000 in
set_option maxHeartbeats 8000000 in
theorem plarge_any (p : PV) (D : PD) (hw : PW D) (w : World) (h : PrA w p D) : Calls Tryz.prog 7 #[.agg #[.string p.nm, .slice p.a1 p.n1 p.c1, .slice p.a2 p.n2 p.c2, .slice p.a3 p.n3 p.c3]] w (Gives (.bool (bigP D)) w) := by
  have hR : Hid (bigP D = ((decide (100 < p.nm.size) || (decide (20 < p.n1) || (decide (150 < p.n2) || decide (300 < p.n3)))) || (D.vars.any (fun s => decide (100 < s.size)) || D.spots.any bigS))) := Lib.hid (by unfold bigP; rw [h.nm, h.vars.len, h.spots.len, h.edges.len])
  have hns : p.nm.size ≤ 140737488351232 := by rw [h.nm]; exact hw.nm
  have hvw : Hid (∀ k, k < D.vars.length → (D.vars.getD k e0).size ≤ 140737488351232) := Lib.hid (fun k hk => hw.vars _ (by simp [List.getD, hk]))
  have hsw : Hid (∀ k, k < D.spots.length → spotW (D.spots.getD k spot0)) := Lib.hid (fun k hk => hw.spots _ (by simp [List.getD, hk]))
  obtain ⟨pnm, pa1, pn1, pc1, pa2, pn2, pc2, pa3, pn3, pc3⟩ := p
  have hv := h.vars
  have hs := h.spots
  have he := h.edges
  clear h hw
  dsimp only at hR hv hs he hns ⊢
  obtain ⟨W1, hW1⟩ : ∃ W1, W1 = w.alloc (.cells #[.string pnm, .slice pa1 pn1 pc1, .slice pa2 pn2 pc2, .slice pa3 pn3 pc3] 26) := ⟨_, rfl⟩
  have Z : Hid (Holds W1 w.heap.size 26 #[.string pnm, .slice pa1 pn1 pc1, .slice pa2 pn2 pc2, .slice pa3 pn3 pc3]) := Lib.hid (by rw [hW1]; exact Holds.new w _ _)
  have BL := Lib.hid (show Below w.heap.size w W1 by rw [hW1]; exact box_below _ _ _)
  have V := Lib.hid (hv.below BL.out)
  have S := Lib.hid (hs.below BL.out)
  have lv := Lib.hid hv.len
  have ls := Lib.hid hs.len
  have hm1 : (pn1 : Int) ≤ 9223372036854775807 := by have := hv.cap; have := hv.max; unfold maxLen at this; omega
  have hm2 : (pn2 : Int) ≤ 9223372036854775807 := by have := hs.max'; omega
  have hm3 : (pn3 : Int) ≤ 9223372036854775807 := by have := he.max'; omega
  have hW1' := Lib.hid hW1
  have k0 := Z.out.cell 0
  have k1 := Z.out.cell 1
  have k2 := Z.out.cell 2
  have k3 := Z.out.cell 3
  have yv := Lib.hid (fun k hk h => any_yes (q := fun s : ByteArray => decide (100 < s.size)) (l := D.vars) (d := e0) (k := k) hk h)
  have nv := Lib.hid (fun h => any_no (q := fun s : ByteArray => decide (100 < s.size)) (l := D.vars) e0 h)
  have ys := Lib.hid (fun k hk h => any_yes (q := bigS) (l := D.spots) (d := spot0) (k := k) hk h)
  have ns := Lib.hid (fun h => any_no (q := bigS) (l := D.spots) spot0 h)
  clear hv hs he hW1
  generalize bigP D = R at *
  generalize D.vars.any (fun s => decide (100 < s.size)) = bv at *
  generalize D.spots.any bigS = bs at *
  by_cases g0 : 100 < pnm.size
  · have ig0 : (100 : Int) < (pnm.size : Int) := by omega
    have hf : Hid (R = true) := Lib.hid (by rw [hR.out, decide_eq_true g0]; simp)
    go_enter Tryz.func7, Tryz.ntmps7
    go_wp2
    go_ret
    rw [← hW1'.out]
    exact ⟨ret_bool hf.out.symm, BL.out⟩
  have ig0 : ¬ (100 : Int) < (pnm.size : Int) := by omega
  by_cases g1 : 20 < pn1
  · have ig1 : (20 : Int) < (pn1 : Int) := by omega
    have hf : Hid (R = true) := Lib.hid (by rw [hR.out, decide_eq_true g1]; simp)
    go_enter Tryz.func7, Tryz.ntmps7
    go_wp2
    go_ret
    rw [← hW1'.out]
    exact ⟨ret_bool hf.out.symm, BL.out⟩
  have ig1 : ¬ (20 : Int) < (pn1 : Int) := by omega
  by_cases g2 : 150 < pn2
  · have ig2 : (150 : Int) < (pn2 : Int) := by omega
    have hf : Hid (R = true) := Lib.hid (by rw [hR.out, decide_eq_true g2]; simp)
    go_enter Tryz.func7, Tryz.ntmps7
    go_wp2
    go_ret
    rw [← hW1'.out]
    exact ⟨ret_bool hf.out.symm, BL.out⟩
  have ig2 : ¬ (150 : Int) < (pn2 : Int) := by omega
  by_cases g3 : 300 < pn3
  · have ig3 : (300 : Int) < (pn3 : Int) := by omega
    have hf : Hid (R = true) := Lib.hid (by rw [hR.out, decide_eq_true g3]; simp)
    go_enter Tryz.func7, Tryz.ntmps7
    go_wp2
    go_ret
    rw [← hW1'.out]
    exact ⟨ret_bool hf.out.symm, BL.out⟩
  have ig3 : ¬ (300 : Int) < (pn3 : Int) := by omega
  have hR2 : Hid (R = (bv || bs)) := Lib.hid (by rw [hR.out, decide_eq_false g0, decide_eq_false g1, decide_eq_false g2, decide_eq_false g3]; rfl)
  clear hR
  go_enter Tryz.func7, Tryz.ntmps7
  go_wp2
  rw [← hW1'.out]
  clear hW1'
  go_loop [3] (fun y => ∃ k : Nat, k ≤ pn1 ∧ y = .int .i64 k ∧ Hid (∀ t, t < k → decide (100 < (D.vars.getD t e0).size) = false)) (fun y => pn1 - (intOf y).toNat)
  case atStart => exact ⟨0, Nat.zero_le _, rfl, Lib.hid (fun t ht => by omega)⟩
  case round =>
    obtain ⟨k, hk, rfl, hal⟩ := hrel
    by_cases hlt : k < pn1
    · have hki : (k : Int) < (pn1 : Int) := by omega
      have hkl : k < D.vars.length := by rw [← lv.out]; exact hlt
      obtain ⟨b, off, rfl, -, hc⟩ := V.out.at_ hkl
      have x0 := hc k hkl
      have hz := hvw.out k hkl
      have hy := Lib.hid (yv.out k hkl)
      have hn : Hid (¬ 100 < (D.vars.getD k e0).size → ∀ t, t < k + 1 → decide (100 < (D.vars.getD t e0).size) = false) := Lib.hid (fun h t ht => by
        by_cases e : t = k
        · rw [e]; exact decide_eq_false h
        · exact hal.out t (by omega))
      clear hc hal yv
      generalize D.vars.getD k e0 = s at *
      by_cases hs : 100 < s.size
      · have hsi : (100 : Int) < (s.size : Int) := by omega
        have hf : Hid (R = true) := Lib.hid (by rw [hR2.out, hy.out (decide_eq_true hs)]; rfl)
        clear hy hn
        go_wp2
        go_ret
        exact ⟨ret_bool hf.out.symm, BL.out⟩
      · have hsi : ¬ (100 : Int) < (s.size : Int) := by omega
        have hg := Lib.hid (hn.out hs)
        clear hy hn
        go_wp2
        go_round
        case rel => exact ⟨k + 1, by omega, by go_num, hg⟩
        case measure => simp [intOf]; omega
    · have hki : ¬ (k : Int) < (pn1 : Int) := by omega
      have hb := Lib.hid (nv.out (fun t ht => hal.out t (by rw [← lv.out] at ht; omega)))
      have hR3 : Hid (R = bs) := Lib.hid (by rw [hR2.out, hb.out]; rfl)
      clear hb hR2 yv nv hal
      go_wp2
      clear hki hlt hk
      go_loop [4] (fun y => ∃ k : Nat, k ≤ pn2 ∧ y = .int .i64 k ∧ Hid (∀ t, t < k → bigS (D.spots.getD t spot0) = false)) (fun y => pn2 - (intOf y).toNat)
      case atStart => exact ⟨0, Nat.zero_le _, rfl, Lib.hid (fun t ht => by omega)⟩
      case round =>
        obtain ⟨k, hk, rfl, hal⟩ := hrel
        by_cases hlt : k < pn2
        · have hki : (k : Int) < (pn2 : Int) := by omega
          obtain ⟨b, off, rfl, -, x0, x1, x2⟩ := spots_at S.out hlt
          have hz := hsw.out k (by rw [← ls.out]; exact hlt)
          have hy := Lib.hid (ys.out k (by rw [← ls.out]; exact hlt))
          have hn : Hid (bigS (D.spots.getD k spot0) = false → ∀ t, t < k + 1 → bigS (D.spots.getD t spot0) = false) := Lib.hid (fun h t ht => by
            by_cases e : t = k
            · rw [e]; exact h
            · exact hal.out t (by omega))
          obtain ⟨s, f, x, hd⟩ : ∃ s f x, D.spots.getD k spot0 = (⟨s, f, x⟩ : SpotD) := ⟨_, _, _, rfl⟩
          rw [hd] at x0 x1 hy hn hz
          have hz1 : s.size ≤ 140737488351232 := hz.1
          have hz2 : f.size ≤ 140737488351232 := hz.2.1
          dsimp only at x0 x1
          have hbe : Hid (bigS ⟨s, f, x⟩ = (decide (100 < s.size) || decide (100 < f.size))) := Lib.hid rfl
          clear hd hal ys hz x2
          generalize bigS ⟨s, f, x⟩ = B at *
          by_cases h1 : 100 < s.size
          · have h1i : (100 : Int) < (s.size : Int) := by omega
            have hf : Hid (R = true) := Lib.hid (by rw [hR3.out, hy.out (by rw [hbe.out, decide_eq_true h1]; rfl)])
            clear hy hn hbe
            go_wp2
            go_ret
            exact ⟨ret_bool hf.out.symm, BL.out⟩
          · have h1i : ¬ (100 : Int) < (s.size : Int) := by omega
            by_cases h2 : 100 < f.size
            · have h2i : (100 : Int) < (f.size : Int) := by omega
              have hf : Hid (R = true) := Lib.hid (by rw [hR3.out, hy.out (by rw [hbe.out, decide_eq_false h1, decide_eq_true h2]; rfl)])
              clear hy hn hbe
              go_wp2
              go_ret
              exact ⟨ret_bool hf.out.symm, BL.out⟩
            · have h2i : ¬ (100 : Int) < (f.size : Int) := by omega
              have hg := Lib.hid (hn.out (by rw [hbe.out, decide_eq_false h1, decide_eq_false h2]; rfl))
              clear hy hn hbe
              go_wp2
              go_round
              case rel => exact ⟨k + 1, by omega, by go_num, hg⟩
              case measure => simp [intOf]; omega
        · have hki : ¬ (k : Int) < (pn2 : Int) := by omega
          have hb := Lib.hid (ns.out (fun t ht => hal.out t (by rw [← ls.out] at ht; omega)))
          have hf : Hid (R = false) := Lib.hid (by rw [hR3.out, hb.out])
          clear hb ns ys hR3
          go_wp2
          go_ret
          exact ⟨ret_bool hf.out.symm, BL.out⟩
end Go.Proofs.YtgeliikfgnkppaaGreatDoor
/- Orders of points, as plain functions: which entries' components are open, how they nest, what is wrong with an order. -/
namespace Go.Proofs.YtgeliikfgnkppaaGreatDoor
set_option linter.unusedVariables false
set_option linter.unusedSimpArgs false

/-- Places, as the program's numbers. -/
def intsN (h : List Nat) : List Int := h.map fun (k : Nat) => (k : Int)
theorem intsN_len (h : List Nat) : (intsN h).length = h.length := by simp [intsN]
theorem intsN_snoc (h : List Nat) (k : Nat) : intsN (h ++ [k]) = intsN h ++ [(k : Int)] := by simp [intsN]
theorem intsN_at (h : List Nat) (i : Nat) (hi : i < h.length) : (intsN h).getD i 0 = ((h.getD i 0 : Nat) : Int) := by simp [intsN, List.getD, hi]
/-- The places of the heads whose components go on behind the place i: of those ahead of i; i's own too. -/
def stk (S : List Int) (i : Nat) : List Nat := (List.range i).filter fun k => decide ((i : Int) - k < S.getD k 0)
def hds (S : List Int) (i : Nat) : List Nat := (List.range (i + 1)).filter fun k => decide ((i : Int) - k < S.getD k 0)
/-- Those that reach as far as i. -/
def lvl (S : List Int) (i : Nat) : List Nat := (List.range i).filter fun k => decide ((i : Int) - 1 - k < S.getD k 0)
theorem lvl_zero (S : List Int) : lvl S 0 = [] := rfl
theorem lvl_succ (S : List Int) (i : Nat) : lvl S (i + 1) = hds S i := by
  unfold lvl hds
  congr 1
  funext k
  rw [show ((i + 1 : Nat) : Int) - 1 = (i : Int) by omega]
theorem hds_eq (S : List Int) (i : Nat) : hds S i = stk S i ++ (if 0 < S.getD i 0 then [i] else []) := by
  unfold hds stk
  rw [List.range_succ, List.filter_append]
  congr 1
  by_cases h : 0 < S.getD i 0
  · rw [if_pos h, List.filter_cons_of_pos (by simpa using h)]; rfl
  · rw [if_neg h, List.filter_cons_of_neg (by simpa using h)]; rfl
theorem mem_stk {S : List Int} {i k : Nat} : k ∈ stk S i ↔ k < i ∧ (i : Int) - k < S.getD k 0 := by simp [stk]
theorem mem_hds {S : List Int} {i k : Nat} : k ∈ hds S i ↔ k < i + 1 ∧ (i : Int) - k < S.getD k 0 := by simp [hds]
theorem mem_lvl {S : List Int} {i k : Nat} : k ∈ lvl S i ↔ k < i ∧ (i : Int) - 1 - k < S.getD k 0 := by simp [lvl]

/-- An entry's component lies where it must. -/
def okA (S : List Int) (i : Nat) : Prop := 0 ≤ S.getD i 0 ∧ S.getD i 0 ≤ (S.length : Int) - i ∧ ∀ k, k < i → (i : Int) - k < S.getD k 0 → S.getD i 0 ≤ S.getD k 0 - ((i : Int) - k)
def preA (S : List Int) (i : Nat) : Prop := ∀ j, j < i → okA S j
instance (S : List Int) (i : Nat) : Decidable (okA S i) := by unfold okA; infer_instance
instance (S : List Int) (i : Nat) : Decidable (preA S i) := by unfold preA; infer_instance
theorem pre_succ {S : List Int} {i : Nat} : preA S (i + 1) ↔ preA S i ∧ okA S i := by
  unfold preA
  constructor
  · exact fun h => ⟨fun j hj => h j (by omega), h i (by omega)⟩
  · rintro ⟨h, h2⟩ j hj
    by_cases e : j = i
    · subst e; exact h2
    · exact h j (by omega)
theorem pre_down {S : List Int} {i j : Nat} (h : preA S i) (hj : j ≤ i) : preA S j := fun k hk => h k (by omega)
def nestB (S : List Int) : Bool := decide (preA S S.length)

/-- Where the component of the last one ends; without any, where all ends. -/
def endL (S : List Int) (h : List Nat) : Int := match h.getLast? with | none => (S.length : Int) | some k => (k : Int) + S.getD k 0
theorem endL_nil (S : List Int) : endL S [] = S.length := rfl
theorem endL_snoc (S : List Int) (h : List Nat) (k : Nat) : endL S (h ++ [k]) = (k : Int) + S.getD k 0 := by simp [endL]

def Desc (S : List Int) (h : List Nat) : Prop := h.Pairwise fun (a b : Nat) => (b : Int) + S.getD b 0 ≤ (a : Int) + S.getD a 0
/-- What the heads are while those are taken away whose components end at i. -/
structure Pops (S : List Int) (i : Nat) (h : List Nat) : Prop where
  rest : (h.filter fun k => decide ((i : Int) - k < S.getD k 0)) = stk S i
  desc : Desc S h
  each : ∀ k ∈ h, k < i ∧ (i : Int) ≤ (k : Int) + S.getD k 0 ∧ okA S k
theorem pops_start {S : List Int} {i : Nat} (hp : preA S i) : Pops S i (lvl S i) := by
  refine ⟨?_, ?_, ?_⟩
  · unfold lvl stk
    rw [List.filter_filter]
    apply List.filter_congr
    intro k _
    rw [← Bool.decide_and]
    apply decide_eq_decide.2
    omega
  · unfold Desc lvl
    refine List.Pairwise.imp_of_mem (R := fun a b => a < b) ?_ (List.Pairwise.filter _ List.pairwise_lt_range)
    intro a b ha hb hab
    have ha := (mem_lvl (S := S) (i := i)).1 ha
    have hb := (mem_lvl (S := S) (i := i)).1 hb
    have h3 := (hp b hb.1).2.2 a hab (by omega)
    omega
  · intro k hk
    rw [mem_lvl] at hk
    exact ⟨hk.1, by omega, hp k hk.1⟩
theorem pops_step {S : List Int} {i : Nat} {h : List Nat} {k : Nat} (hp : Pops S i (h ++ [k])) (he : (k : Int) + S.getD k 0 = i) : Pops S i h := by
  refine ⟨?_, (List.pairwise_append.1 hp.desc).1, fun x hx => hp.each x (by simp [hx])⟩
  rw [← hp.rest, List.filter_append, List.filter_cons_of_neg (by simp only [decide_eq_true_eq]; omega)]
  simp
theorem pops_end {S : List Int} {i : Nat} {h : List Nat} (hp : Pops S i h) (he : h = [] ∨ endL S h ≠ i) : h = stk S i := by
  rcases he with rfl | he
  · rw [← hp.rest]; rfl
  · rw [← hp.rest]
    refine (List.filter_eq_self.2 ?_).symm
    intro x hx
    rcases List.eq_nil_or_concat h with rfl | ⟨h', k, rfl⟩
    · cases hx
    · rw [List.concat_eq_append] at he hp hx
      rw [endL_snoc] at he
      have hk := hp.each k (by simp)
      rcases List.mem_append.1 hx with hx | hx
      · have hd := (List.pairwise_append.1 hp.desc).2.2 x hx k (by simp)
        exact decide_eq_true (by omega)
      · obtain rfl := List.mem_singleton.1 hx
        exact decide_eq_true (by omega)
/-- Where the heads are those of the entry i, its component may end as far as that of the last one. -/
theorem ok_iff {S : List Int} {i : Nat} (hp : preA S i) (hi : i < S.length) : okA S i ↔ 0 ≤ S.getD i 0 ∧ S.getD i 0 ≤ endL S (stk S i) - i := by
  have hP := pops_start hp
  have hd : Desc S (stk S i) := by rw [← hP.rest]; exact List.Pairwise.filter _ hP.desc
  rcases List.eq_nil_or_concat (stk S i) with h | ⟨h', k, h⟩
  · rw [h, endL_nil]
    constructor
    · exact fun ⟨a, b, _⟩ => ⟨a, b⟩
    · refine fun ⟨a, b⟩ => ⟨a, b, fun k hk hlt => ?_⟩
      have : k ∈ stk S i := mem_stk.2 ⟨hk, hlt⟩
      rw [h] at this; cases this
  · rw [List.concat_eq_append] at h
    rw [h, endL_snoc]
    have hk : k ∈ stk S i := by rw [h]; simp
    obtain ⟨hk1, hk2⟩ := mem_stk.1 hk
    have ok := hp k hk1
    constructor
    · refine fun ⟨a, b, c⟩ => ⟨a, ?_⟩
      have := c k hk1 hk2
      omega
    · refine fun ⟨a, b⟩ => ⟨a, by have := ok.2.1; omega, fun j hj hlt => ?_⟩
      have hm : j ∈ stk S i := mem_stk.2 ⟨hj, hlt⟩
      rw [h] at hm hd
      simp at hm
      rcases hm with hm | rfl
      · have := (List.pairwise_append.1 hd).2.2 j hm k (by simp)
        omega
      · omega
theorem endL_le {S : List Int} {i : Nat} (hp : preA S i) (hi : i < S.length) : (i : Int) < endL S (stk S i) ∧ endL S (stk S i) ≤ S.length := by
  rcases List.eq_nil_or_concat (stk S i) with h | ⟨h', k, h⟩
  · rw [h, endL_nil]; omega
  · rw [List.concat_eq_append] at h
    rw [h, endL_snoc]
    have hk : k ∈ stk S i := by rw [h]; simp
    obtain ⟨hk1, hk2⟩ := mem_stk.1 hk
    have ok := (hp k hk1).2.1
    omega

/-- The most heads that one of the first m entries has. -/
def mostL (S : List Int) : Nat → Nat
  | 0 => 0
  | m + 1 => max (mostL S m) (hds S m).length
theorem hds_le (S : List Int) (i : Nat) : (hds S i).length ≤ i + 1 := by
  unfold hds
  exact Nat.le_trans (List.length_filter_le _ _) (by simp)
theorem most_le (S : List Int) : ∀ m, mostL S m ≤ m
  | 0 => Nat.le_refl _
  | m + 1 => by have := most_le S m; have := hds_le S m; unfold mostL; omega
theorem most_at {S : List Int} : ∀ {m i : Nat}, i < m → (hds S i).length ≤ mostL S m
  | m + 1, i, h => by
    unfold mostL
    by_cases e : i = m
    · subst e; omega
    · have := most_at (S := S) (show i < m by omega); omega
theorem most_gt {S : List Int} {b : Nat} : ∀ {m : Nat}, b < mostL S m ↔ ∃ i, i < m ∧ b < (hds S i).length
  | 0 => by simp [mostL]
  | m + 1 => by
    unfold mostL
    constructor
    · intro h
      by_cases h2 : b < mostL S m
      · obtain ⟨i, hi, hb⟩ := most_gt.1 h2
        exact ⟨i, by omega, hb⟩
      · exact ⟨m, by omega, by omega⟩
    · rintro ⟨i, hi, hb⟩
      by_cases e : i = m
      · subst e; omega
      · have := (most_gt (S := S) (b := b) (m := m)).2 ⟨i, by omega, hb⟩
        omega
/-- Points, each there once. -/
def onceP (P : List Int) (m : Nat) : Prop := ∀ i, i < m → 0 ≤ P.getD i 0 ∧ P.getD i 0 ≤ 127 ∧ ∀ k, k < i → P.getD k 0 ≠ P.getD i 0
instance (P : List Int) (m : Nat) : Decidable (onceP P m) := by unfold onceP; infer_instance
theorem once_succ {P : List Int} {i : Nat} : onceP P (i + 1) ↔ onceP P i ∧ (0 ≤ P.getD i 0 ∧ P.getD i 0 ≤ 127 ∧ ∀ k, k < i → P.getD k 0 ≠ P.getD i 0) := by
  unfold onceP
  constructor
  · exact fun h => ⟨fun j hj => h j (by omega), h i (by omega)⟩
  · rintro ⟨h, h2⟩ j hj
    by_cases e : j = i
    · subst e; exact h2
    · exact h j (by omega)
/-- What is wrong with an order. -/
def chkW (P S : List Int) : Int :=
  if 128 < P.length ∨ 128 < S.length then 3
  else if ¬ (P.length = S.length ∧ nestB S = true ∧ onceP P P.length) then 100
  else if 64 < mostL S S.length then 3 else 0
structure OrdW (P S : List Int) : Prop where
  len : P.length = S.length
  few : S.length ≤ 128
  nest : preA S S.length
  once : onceP P P.length
  deep : mostL S S.length ≤ 64
theorem chk_ok {P S : List Int} : chkW P S = 0 ↔ OrdW P S := by
  unfold chkW
  constructor
  · intro h
    split at h
    · cases h
    · split at h
      · cases h
      · split at h
        · cases h
        · next h1 h2 h3 =>
          have h2 := Classical.not_not.1 h2
          exact ⟨h2.1, by omega, by simpa [nestB] using h2.2.1, h2.2.2, by omega⟩
  · intro h
    rw [if_neg (by have := h.len; have := h.few; omega), if_neg (by simp only [Classical.not_not]; exact ⟨h.len, by simpa [nestB] using h.nest, h.once⟩), if_neg (by have := h.deep; omega)]
/-- Where a point is. -/
def posW (P : List Int) (p : Int) : Nat := P.findIdx fun x => x == p
def placeN (P S : List Int) (p : Int) : Nat := if chkW P S = 0 ∧ p ∈ P then posW P p else 0
def placeB (P S : List Int) (p : Int) : Bool := decide (chkW P S = 0 ∧ p ∈ P)
/-- The points that head a point's components. -/
def headsW (P S : List Int) (p : Int) : List Int := if chkW P S = 0 ∧ p ∈ P then (hds S (posW P p)).map fun k => P.getD k 0 else []
def depthW (P S : List Int) : Nat := if chkW P S = 0 then mostL S S.length else 0
end Go.Proofs.YtgeliikfgnkppaaGreatDoor
/- wto: the small functions; the document's Large and Same. -/
namespace Go.Proofs.YtgeliikfgnkppaaGreatDoor
open Go.RowKit
set_option linter.unusedVariables false
set_option linter.unusedSimpArgs false

theorem infoInt : (Tryz.prog.info? 3).map (fun i => (i.zero, i.size, i.bytes)) = some (some (.int .i64 0), 1, 8) := by kernel_rfl
/-- An order handed over. -/
structure WA (w : World) (a1 : Option Addr) (n1 c1 : Nat) (P : List Int) (a2 : Option Addr) (n2 c2 : Nat) (S : List Int) : Prop where
  p : SL w a1 n1 c1 P
  s : SL w a2 n2 c2 S
theorem WA.below {w w' : World} {a1 a2 : Option Addr} {n1 c1 n2 c2 : Nat} {P S : List Int} (h : WA w a1 n1 c1 P a2 n2 c2 S) (hb : Below w.heap.size w w') : WA w' a1 n1 c1 P a2 n2 c2 S := ⟨h.p.below hb, h.s.below hb⟩

/-- Two orders, the same. -/
def sameW (P S P2 S2 : List Int) : Bool := decide (P = P2) && decide (S = S2)
set_option maxRecDepth 100000 in
set_option maxHeartbeats 2000000 in
theorem wrsame_any (a1 a2 a3 a4 : Option Addr) (P S P2 S2 : List Int) (n1 n2 n3 n4 c1 c2 c3 c4 : Nat) (w : World) (h1 : WA w a1 n1 c1 P a2 n2 c2 S) (h2 : WA w a3 n3 c3 P2 a4 n4 c4 S2) :
    Calls Tryz.prog 45 #[.agg #[.slice a1 n1 c1, .slice a2 n2 c2], .agg #[.slice a3 n3 c3, .slice a4 n4 c4]] w (Gives (.bool (sameW P S P2 S2)) w) := by
  obtain ⟨W1, hW1⟩ : ∃ W1, W1 = (w.alloc (.cells #[.slice a1 n1 c1, .slice a2 n2 c2] 70)).alloc (.cells #[.slice a3 n3 c3, .slice a4 n4 c4] 70) := ⟨_, rfl⟩
  have hB : Below w.heap.size w W1 := by rw [hW1]; exact box2_below _ _ _ _ _
  have g1 := Lib.hid (h1.below hB)
  have g2 := Lib.hid (h2.below hB)
  have z1 : Holds W1 w.heap.size 70 #[.slice a1 n1 c1, .slice a2 n2 c2] := by rw [hW1]; exact (Holds.new w _ _).alloc _
  have z2 : Holds W1 (w.heap.size + 1) 70 #[.slice a3 n3 c3, .slice a4 n4 c4] := by
    rw [hW1]
    have := Holds.new (w.alloc (.cells #[.slice a1 n1 c1, .slice a2 n2 c2] 70)) 70 #[.slice a3 n3 c3, .slice a4 n4 c4]
    simpa using this
  have k1 := z1.cell 0
  have k2 := z1.cell 1
  have k3 := z2.cell 0
  have k4 := z2.cell 1
  have l1 := Lib.hid h1.p.len
  have l2 := Lib.hid h1.s.len
  have l3 := Lib.hid h2.p.len
  have l4 := Lib.hid h2.s.len
  have b1 : (n1 : Int) ≤ 9223372036854775807 := by have := h1.p.max; omega
  have b2 : (n2 : Int) ≤ 9223372036854775807 := by have := h1.s.max; omega
  have hW1' := Lib.hid hW1
  have hB' := Lib.hid hB
  clear h1 h2 hB z1 z2
  by_cases hn : n1 = n3
  case neg =>
    have hr : sameW P S P2 S2 = false := by unfold sameW; rw [decide_eq_false (fun e => hn (by rw [l1.out, l3.out, e])), Bool.false_and]
    rw [hr]
    have hi2 : ((n1 : Int) != (n3 : Int)) = true := by simp; omega
    clear hr hn hW1 k1 k2 k3 k4
    go_enter Tryz.func45, Tryz.ntmps45
    go_wp2
    go_ret
    rw [← hW1'.out]
    exact ⟨rfl, hB'.out⟩
  subst hn
  by_cases hm : n2 = n4
  case neg =>
    have hr : sameW P S P2 S2 = false := by unfold sameW; rw [decide_eq_false (fun e => hm (by rw [l2.out, l4.out, e]) : ¬ S = S2), Bool.and_false]
    rw [hr]
    have hi2 : ((n2 : Int) != (n4 : Int)) = true := by simp; omega
    clear hr hm hW1 k1 k2 k3 k4
    go_enter Tryz.func45, Tryz.ntmps45
    go_wp2
    go_ret
    rw [← hW1'.out]
    exact ⟨rfl, hB'.out⟩
  subst hm
  go_enter Tryz.func45, Tryz.ntmps45
  go_wp2
  rw [← hW1]
  clear hW1
  go_loopw [5] (fun x wr => ∃ k m : Nat, k ≤ n1 ∧ x = .int .i64 k ∧ Hid (∀ j, j < k → P.getD j 0 = P2.getD j 0) ∧ wr = W1.drewN m) (fun x _ => n1 - (intOf x).toNat)
  case atStart => exact ⟨0, 0, Nat.zero_le _, rfl, Lib.hid (by intro j hj; omega), rfl⟩
  case round =>
    obtain ⟨k, m, hk, rfl, he, rfl⟩ := hrel
    by_cases hlt : k < n1
    · obtain ⟨b1, o1, rfl, -, e1⟩ := sees_num g1.out.p.sees (i := k) (by rw [← l1.out]; exact hlt)
      obtain ⟨b2, o2, rfl, -, e2⟩ := sees_num g2.out.p.sees (i := k) (by rw [← l3.out]; exact hlt)
      have hki : (k : Int) < (n1 : Int) := by omega
      have hyes : Hid (P.getD k 0 = P2.getD k 0 → ∀ j, j < k + 1 → P.getD j 0 = P2.getD j 0) := Lib.hid (fun hx j hj => by
        by_cases e : j = k
        · subst e; exact hx
        · exact he.out j (by omega))
      have hno : Hid (P.getD k 0 ≠ P2.getD k 0 → sameW P S P2 S2 = false) := Lib.hid (fun hx => by unfold sameW; rw [decide_eq_false (fun e => hx (by rw [e])), Bool.false_and])
      clear he
      generalize P.getD k 0 = x at *
      generalize P2.getD k 0 = y at *
      by_cases hxy : x = y
      · subst hxy
        have hy2 := Lib.hid (hyes.out rfl)
        clear hyes hno
        go_wp2
        go_quiet (fail)
        go_wp2
        go_roundw
        case rel => exact ⟨k + 1, m + nq, by omega, by go_num, hy2, by simp [World.drewN, Nat.add_assoc]⟩
        case measure => simp [intOf]; omega
      · have hr := Lib.hid (hno.out hxy)
        have hxy2 : (x == y) = false := by simpa using hxy
        have hxy3 : (x != y) = true := by simpa using hxy
        clear hyes hno
        go_wp2
        go_quiet (fail)
        go_wp2
        go_ret
        exact ⟨by rw [hr.out]; rfl, Below.drewN (Below.drewN hB'.out m) nq⟩
    · have hP : Hid (P = P2) := Lib.hid (by
        have q1 := l1.out
        have q2 := l3.out
        apply List.ext_getElem (by omega)
        intro j g1 g2
        have := he.out j (by omega)
        simpa [List.getD, g1, g2] using this)
      clear he
      go_wp2
      obtain ⟨wo, hwo⟩ : ∃ wo, wo = W1.drewN m := ⟨_, rfl⟩
      rw [← hwo]
      have hwB : Hid (Below w.heap.size w wo) := Lib.hid (by rw [hwo]; exact Below.drewN hB'.out m)
      have k1 : wo.cell? ⟨w.heap.size, 0, none⟩ = some (.slice a1 n1 c1) := by rw [hwo]; exact k1
      have k2 : wo.cell? ⟨w.heap.size, 1, none⟩ = some (.slice a2 n2 c2) := by rw [hwo]; exact k2
      have k3 : wo.cell? ⟨w.heap.size + 1, 0, none⟩ = some (.slice a3 n1 c3) := by rw [hwo]; exact k3
      have k4 : wo.cell? ⟨w.heap.size + 1, 1, none⟩ = some (.slice a4 n2 c4) := by rw [hwo]; exact k4
      have s2 : Hid (Sees .i64 W1.heap.size wo a2 S) := Lib.hid (by rw [hwo]; exact g1.out.s.sees)
      have s4 : Hid (Sees .i64 W1.heap.size wo a4 S2) := Lib.hid (by rw [hwo]; exact g2.out.s.sees)
      clear hwo
      go_loopw [6] (fun x wr => ∃ k m : Nat, k ≤ n2 ∧ x = .int .i64 k ∧ Hid (∀ j, j < k → S.getD j 0 = S2.getD j 0) ∧ wr = wo.drewN m) (fun x _ => n2 - (intOf x).toNat)
      case atStart => exact ⟨0, 0, Nat.zero_le _, rfl, Lib.hid (by intro j hj; omega), rfl⟩
      case round =>
        obtain ⟨k, m, hk, rfl, he, rfl⟩ := hrel
        by_cases hlt : k < n2
        · obtain ⟨b1, o1, rfl, -, e1⟩ := sees_num s2.out (i := k) (by rw [← l2.out]; exact hlt)
          obtain ⟨b2, o2, rfl, -, e2⟩ := sees_num s4.out (i := k) (by rw [← l4.out]; exact hlt)
          have hki : (k : Int) < (n2 : Int) := by omega
          have hyes : Hid (S.getD k 0 = S2.getD k 0 → ∀ j, j < k + 1 → S.getD j 0 = S2.getD j 0) := Lib.hid (fun hx j hj => by
            by_cases e : j = k
            · subst e; exact hx
            · exact he.out j (by omega))
          have hno : Hid (S.getD k 0 ≠ S2.getD k 0 → sameW P S P2 S2 = false) := Lib.hid (fun hx => by unfold sameW; rw [decide_eq_false (fun e => hx (by rw [e]) : ¬ S = S2), Bool.and_false])
          clear he
          generalize S.getD k 0 = x at *
          generalize S2.getD k 0 = y at *
          by_cases hxy : x = y
          · subst hxy
            have hy2 := Lib.hid (hyes.out rfl)
            clear hyes hno
            go_wp2
            go_quiet (fail)
            go_wp2
            go_roundw
            case rel => exact ⟨k + 1, m + nq, by omega, by go_num, hy2, by simp [World.drewN, Nat.add_assoc]⟩
            case measure => simp [intOf]; omega
          · have hr := Lib.hid (hno.out hxy)
            have hxy2 : (x == y) = false := by simpa using hxy
            have hxy3 : (x != y) = true := by simpa using hxy
            clear hyes hno
            go_wp2
            go_quiet (fail)
            go_wp2
            go_ret
            exact ⟨by rw [hr.out]; rfl, Below.drewN (Below.drewN hwB.out m) nq⟩
        · have hS : Hid (sameW P S P2 S2 = true) := Lib.hid (by
            have q1 := l2.out
            have q2 := l4.out
            have : S = S2 := by
              apply List.ext_getElem (by omega)
              intro j g1 g2
              have := he.out j (by omega)
              simpa [List.getD, g1, g2] using this
            unfold sameW
            rw [decide_eq_true hP.out, decide_eq_true this, Bool.true_and])
          clear he
          go_wp2
          go_ret
          exact ⟨by rw [hS.out]; rfl, Below.drewN hwB.out m⟩
end Go.Proofs.YtgeliikfgnkppaaGreatDoor
