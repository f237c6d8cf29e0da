/-
  Words and walks under the law's proof.
-/
import Derived.Test.YtbpaoiajfjkmfaaRows
import Derived.IntWalk
import Derived.Deep.QuietTactic
import Derived.BigQuiet
import Derived.Laws.Cover1
import Derived.Sort.Grow
import Derived.ArgAppend
import Derived.Lib.FrozenHead
import Derived.Test.YtbpaoiajfjkmfaaQO01
import Derived.Test.YtbpaoiajfjkmfaaQO02
namespace Go.Proofs.Ytbpaoiajfjkmfaa
open Go.RowKit Go.ChangeShapes Go.WideShapes Go.Deep
set_option linter.unusedVariables false
def flatT (P : Program) : Nat → TypeId → List TypeId
  | 0, t => [t]
  | n + 1, t => match P.underlying t with
    | some (.struct fs) => fs.toList.flatMap fun f => flatT P n f.type
    | _ => [t]
def flatOK (P : Program) : Nat → TypeId → Bool
  | 0, t => true
  | n + 1, t => match P.underlying t with
    | some (.struct fs) => (List.range fs.size).all fun i => match fs[i]? with
      | some f => flatOK P n f.type && ((f.offset == ((fs.toList.take i).flatMap fun f => flatT P n f.type).length) && (P.cellsOf f.type == (flatT P n f.type).length))
      | none => true
    | _ => true
theorem flat_find {α β : Type} (g : α → List β) : ∀ (L : List α) (j : Nat) (y : β), (L.flatMap g)[j]? = some y → ∃ i x j', L[i]? = some x ∧ (g x)[j']? = some y ∧ j = ((L.take i).flatMap g).length + j'
  | [], j, y, h => by simp at h
  | x :: L, j, y, h => by
    rw [List.flatMap_cons] at h
    rcases Nat.lt_or_ge j (g x).length with hj | hj
    · rw [List.getElem?_append_left hj] at h
      exact ⟨0, x, j, rfl, h, by simp⟩
    · rw [List.getElem?_append_right hj] at h
      obtain ⟨i, x', j', h1, h2, h3⟩ := flat_find g L _ y h
      refine ⟨i + 1, x', j', by simpa using h1, h2, ?_⟩
      rw [List.take_succ_cons, List.flatMap_cons, List.length_append]
      omega
theorem flat_upto {α β : Type} (g : α → List β) (L : List α) {i : Nat} {x : α} (h : L[i]? = some x) : ((L.take i).flatMap g).length + (g x).length ≤ (L.flatMap g).length := by
  have e : L = L.take i ++ x :: L.drop (i + 1) := by
    have hl : i < L.length := (List.getElem?_eq_some_iff.1 h).1
    have hx : L[i] = x := (List.getElem?_eq_some_iff.1 h).2
    rw [← hx, ← List.drop_eq_getElem_cons hl, List.take_append_drop]
  conv => rhs; rw [e]
  rw [List.flatMap_append, List.flatMap_cons, List.length_append, List.length_append]
  omega
theorem flat_read {H : Type} {enc : TypeId × Value → H} {P : Program} {w : World} : ∀ (n : Nat) (t : TypeId) (fuel : Nat) (cs : List Value) (x : DataW H × List MemPlace), flatOK P n t = true → cs.length = (flatT P n t).length →
    DataW.trod enc P w 0 (fun _ => true) true fuel t cs = some x → Reach P t x.1 →
    ∀ (j : Nat) (u : TypeId), (flatT P n t)[j]? = some u → ∃ (v : Value) (y : DataW H × List MemPlace) (m : Nat), cs[j]? = some v ∧ DataW.trod enc P w 0 (fun _ => true) true m u [v] = some y ∧ Reach P u y.1
  | 0, t, fuel, cs, x, _, hl, h, hR, j, u, hu => by
    unfold flatT at hl hu
    match cs, hl with
    | [v], _ =>
      have hj : j = 0 := by have := (List.getElem?_eq_some_iff.1 hu).1; simp at this; omega
      subst hj
      obtain rfl : t = u := by simpa using hu
      exact ⟨v, x, fuel, rfl, h, hR⟩
  | n + 1, t, fuel, cs, x, hok, hl, h, hR, j, u, hu => by
    cases hs : P.underlying t with
    | none =>
      unfold flatT at hl hu
      rw [hs] at hl hu
      match cs, hl with
      | [v], _ =>
        have hj : j = 0 := by have := (List.getElem?_eq_some_iff.1 hu).1; simp at this; omega
        subst hj
        obtain rfl : t = u := by simpa using hu
        exact ⟨v, x, fuel, rfl, h, hR⟩
    | some d =>
      by_cases hd : ∃ fs, d = .struct fs
      · obtain ⟨fs, rfl⟩ := hd
        unfold flatT at hl hu
        unfold flatOK at hok
        rw [hs] at hl hu hok
        simp only at hl hu hok
        obtain ⟨i, f, j', h1, h2, h3⟩ := flat_find _ _ _ _ hu
        have h1' : fs[i]? = some f := by simpa using h1
        have hil : i < fs.size := (Array.getElem?_eq_some_iff.1 h1').1
        have hf := List.all_eq_true.1 hok i (List.mem_range.2 hil)
        rw [h1'] at hf
        simp only [Bool.and_eq_true, beq_iff_eq] at hf
        obtain ⟨hf1, hf2, hf3⟩ := hf
        obtain ⟨ys, m, _, hys, _, hyl, hrd⟩ := DataW.trod_struct hs h
        have hri := hrd i f h1'
        have hup := flat_upto (fun f : Field => flatT P n f.type) fs.toList h1
        have hyi : i < ys.length := by rw [hyl]; exact hil
        rw [List.getElem?_eq_getElem hyi, hf3] at hri
        have hx : x.1 = .agg (ys.map (·.1)) := by rw [hys]
        rw [hx] at hR
        have hRi := weights_agg hs hR h1' (d := ys[i].1) (by simp [List.getElem?_eq_getElem hyi])
        have hlen : ((cs.drop f.offset).take (flatT P n f.type).length).length = (flatT P n f.type).length := by
          rw [List.length_take, List.length_drop, hl, hf2]
          have := hup
          omega
        obtain ⟨v, y, m', g1, g2, g3⟩ := flat_read n f.type m _ ys[i] hf1 hlen hri hRi j' u h2
        refine ⟨v, y, m', ?_, g2, g3⟩
        have hj' : j' < (flatT P n f.type).length := (List.getElem?_eq_some_iff.1 h2).1
        rw [List.getElem?_take, if_pos hj', List.getElem?_drop] at g1
        rw [h3, ← hf2]
        exact g1
      · unfold flatT at hl hu
        rw [hs] at hl hu
        have e1 : (match some d with | some (.struct fs) => fs.toList.flatMap fun f => flatT P n f.type | _ => [t]) = [t] := by
          split
          · rename_i fs he
            injection he with he
            exact absurd ⟨_, he⟩ hd
          · rfl
        rw [e1] at hl hu
        match cs, hl with
        | [v], _ =>
          have hj : j = 0 := by have := (List.getElem?_eq_some_iff.1 hu).1; simp at this; omega
          subst hj
          obtain rfl : t = u := by simpa using hu
          exact ⟨v, x, fuel, rfl, h, hR⟩
theorem flat_row {H : Type} {enc : TypeId × Value → H} {P : Program} {w : World} {fuel : Nat} {t e : TypeId} {r : Option Addr} {len cap : Nat} {x : DataW H × List MemPlace} (n : Nat) (ts : List TypeId)
    (ht : P.underlying t = some (.slice e)) (hok : flatOK P n e = true) (hts : flatT P n e = ts) (hC : P.cellsOf e = ts.length) (h0 : 0 < ts.length)
    (h : DataW.trod enc P w 0 (fun _ => true) true fuel t [.slice r len cap] = some x) (hR : Reach P t x.1) :
    len ≤ cap ∧ cap ≤ maxLen ∧ (len = 0 ∨ len * P.bytesOf e ≤ 140737488351232 ∧ ∃ b off, r = some ⟨b, off, none⟩ ∧ b < w.heap.size ∧
      ∀ i, i < len → ∀ (j : Nat) (u : TypeId), ts[j]? = some u → ∃ (v : Value) (y : DataW H × List MemPlace) (m : Nat), w.cell? ⟨b, off + (i * ts.length + j), none⟩ = some v ∧ DataW.trod enc P w 0 (fun _ => true) true m u [v] = some y ∧ Reach P u y.1) := by
  subst hts
  rcases open_slice ht h with ⟨hcs, _⟩ | ⟨a, l, c, m, k, D, Pl, hcs, hb, hl, hm, hmm, hx, hi⟩
  · simp at hcs
    obtain ⟨rfl, rfl, rfl⟩ := hcs
    exact ⟨Nat.le_refl _, by simp, .inl rfl⟩
  · simp at hcs
    obtain ⟨rfl, rfl, rfl⟩ := hcs
    refine ⟨hl, hm, ?_⟩
    by_cases hz : len = 0
    · exact .inl hz
    right
    rw [hx] at hR
    obtain ⟨hw1, hw2⟩ := weights_slice ht hR
    simp only [List.length_map, List.length_range] at hw1
    have key : ∀ i, i < len → ∀ (j : Nat) (u : TypeId), (flatT P n e)[j]? = some u → ∃ (v : Value) (y : DataW H × List MemPlace) (m : Nat), w.cell? (a.add (i * (flatT P n e).length + j)) = some v ∧ DataW.trod enc P w 0 (fun _ => true) true m u [v] = some y ∧ Reach P u y.1 := by
      intro i hil j u hj
      obtain ⟨cs', hc, ht'⟩ := hi i (by rw [hmm]; simp; omega)
      rw [hC] at hc
      obtain ⟨_, hcl, hat⟩ := World.cells?_some hc
      have hRi := hw2 (D i) (List.mem_map.2 ⟨i, by simpa using hil, rfl⟩)
      obtain ⟨v, y, m', g1, g2, g3⟩ := flat_read n e k cs' (D i, Pl i) hok hcl ht' hRi j u hj
      have hjl : j < (flatT P n e).length := (List.getElem?_eq_some_iff.1 hj).1
      have hcell := hat j hjl
      refine ⟨v, y, m', by rw [← Go.Deep.add_add, hcell, g1], g2, g3⟩
    refine ⟨Nat.le_trans (Nat.mul_le_mul_right _ (Nat.le_add_right _ _)) hw1, ?_⟩
    obtain ⟨b, off, spot⟩ := a
    obtain ⟨v0, _, _, hv0, _⟩ := key 0 (by omega) 0 _ (List.getElem?_eq_getElem h0)
    simp only [Nat.zero_mul, Nat.add_zero] at hv0
    have hspot : spot = none := by
      have : ((⟨b, off, spot⟩ : Addr).add 0).spot = none := World.cell?_spot hv0
      simpa [Addr.add] using this
    subst hspot
    refine ⟨b, off, rfl, ?_, fun i hil j u hj => ?_⟩
    · rw [add_at] at hv0
      exact World.block_lt_of_cell? w _ hv0
    · obtain ⟨v, y, m', h1, h2⟩ := key i hil j u hj
      rw [add_at] at h1
      exact ⟨v, y, m', h1, h2⟩
theorem row_of {α : Type} (f : α → List Value) (k : Nat) (hk : ∀ x, (f x).length = k) (h0 : 0 < k) (good : α → Prop) (d : α) {w : World} {r : Option Addr} {len cap : Nat} (hl : len ≤ cap) (hm : cap ≤ maxLen)
    (h : len = 0 ∨ ∃ b off, r = some ⟨b, off, none⟩ ∧ b < w.heap.size ∧ ∀ i, i < len → ∃ s, good s ∧ ∀ j, j < k → w.cell? ⟨b, off + (i * k + j), none⟩ = (f s)[j]?) :
    ∃ l : List α, RO f w r len cap l ∧ ∀ s ∈ l, good s := by
  rcases h with rfl | ⟨b, off, rfl, hB, h⟩
  · exact ⟨[], ⟨rfl, hl, hm, .inl rfl⟩, by simp⟩
  · have key : ∀ i, ∃ s : α, i < len → good s ∧ ∀ j, j < k → w.cell? ⟨b, off + (i * k + j), none⟩ = (f s)[j]? := by
      intro i
      by_cases hi : i < len
      · obtain ⟨s, hs⟩ := h i hi; exact ⟨s, fun _ => hs⟩
      · exact ⟨d, fun h => absurd h hi⟩
    let T : Nat → α := fun i => Classical.choose (key i)
    have hT : ∀ i, i < len → good (T i) ∧ ∀ j, j < k → w.cell? ⟨b, off + (i * k + j), none⟩ = (f (T i))[j]? := fun i hi => Classical.choose_spec (key i) hi
    refine ⟨(List.range len).map T, ⟨by simp, hl, hm, .inr ⟨b, off, rfl, hB, fun p u hu => ?_⟩⟩, fun s hs => ?_⟩
    · have hp : p < len * k := by
        have := (List.getElem?_eq_some_iff.1 hu).1
        rw [flat_len hk] at this
        simpa using this
      have hd : p / k < len := Nat.div_lt_of_lt_mul (by rw [Nat.mul_comm]; exact hp)
      have hr : p % k < k := Nat.mod_lt _ h0
      have he : p = p / k * k + p % k := by rw [Nat.mul_comm]; exact (Nat.div_add_mod p k).symm
      rw [he, flat_at hk _ _ _ hr] at hu
      have h1 : ((List.range len).map T)[p / k]? = some (T (p / k)) := by simp [hd]
      rw [h1] at hu
      rw [he, (hT _ hd).2 _ hr]
      exact hu
    · obtain ⟨i, hi, rfl⟩ := List.mem_map.1 hs
      exact (hT i (by simpa using hi)).1
end Go.Proofs.Ytbpaoiajfjkmfaa
namespace Go.Proofs.Ytbpaoiajfjkmfaa
open Go.RowKit Go.ChangeShapes Go.WideShapes Go.Deep
set_option linter.unusedVariables false
set_option linter.unusedSimpArgs false
def alC (a : AlD) : List Value := [.int .i64 a.kind, .int .i64 a.sev, .string a.fn, .string a.file, .int .i64 a.line, .string a.expr]
def al0 : AlD := ⟨0, 0, ByteArray.empty, ByteArray.empty, 0, ByteArray.empty⟩
theorem alC_len (a : AlD) : (alC a).length = 6 := rfl
def alW (a : AlD) : Prop := (Lit.int .i64 a.kind).wf = true ∧ (Lit.int .i64 a.sev).wf = true ∧ a.fn.size ≤ 140737488351232 ∧ a.file.size ≤ 140737488351232 ∧ (Lit.int .i64 a.line).wf = true ∧ a.expr.size ≤ 140737488351232
def AlSl (w : World) (a : Option Addr) (n c : Nat) : Prop := ∃ l, RO alC w a n c l ∧ (∀ s ∈ l, alW s) ∧ n ≤ 1954687338211
theorem al_bytes : Try.prog.bytesOf 24 = 72 := by kernel_rfl
theorem al_row {H : Type} {enc : TypeId × Value → H} {w : World} {fuel : Nat} {r : Option Addr} {len cap : Nat} {x : DataW H × List MemPlace}
    (h : DataW.trod enc Try.prog w 0 (fun _ => true) true fuel 22 [.slice r len cap] = some x) (hR : Reach Try.prog 22 x.1) : AlSl w r len cap := by
  obtain ⟨h1, h2, h3⟩ := flat_row 2 [3, 3, 9, 9, 3, 9] Try.underlying22 (by kernel_rfl) (by kernel_rfl) (by kernel_rfl) (by decide) h hR
  have hn : len ≤ 1954687338211 := by
    rcases h3 with rfl | ⟨hb, _⟩
    · omega
    · rw [al_bytes] at hb; omega
  obtain ⟨l, g1, g2⟩ := row_of (w := w) (r := r) (len := len) (cap := cap) alC 6 alC_len (by decide) alW al0 h1 h2 (by
    rcases h3 with rfl | ⟨_, b, off, rfl, hB, hc⟩
    · exact .inl rfl
    · refine .inr ⟨b, off, rfl, hB, fun i hi => ?_⟩
      obtain ⟨v0, y0, m0, c0, t0, r0⟩ := hc i hi 0 _ rfl
      obtain ⟨v1, y1, m1, c1, t1, r1⟩ := hc i hi 1 _ rfl
      obtain ⟨v2, y2, m2, c2, t2, r2⟩ := hc i hi 2 _ rfl
      obtain ⟨v3, y3, m3, c3, t3, r3⟩ := hc i hi 3 _ rfl
      obtain ⟨v4, y4, m4, c4, t4, r4⟩ := hc i hi 4 _ rfl
      obtain ⟨v5, y5, m5, c5, t5, r5⟩ := hc i hi 5 _ rfl
      obtain ⟨z0, e0', _, w0⟩ := DataW.trod_int Try.underlying3 t0
      obtain ⟨z1, e1, _, w1⟩ := DataW.trod_int Try.underlying3 t1
      obtain ⟨z2, e2, ez2, _⟩ := DataW.trod_string Try.underlying9 t2
      obtain ⟨z3, e3, ez3, _⟩ := DataW.trod_string Try.underlying9 t3
      obtain ⟨z4, e4, _, w4⟩ := DataW.trod_int Try.underlying3 t4
      obtain ⟨z5, e5, ez5, _⟩ := DataW.trod_string Try.underlying9 t5
      simp at e0' e1 e2 e3 e4 e5
      subst e0' e1 e2 e3 e4 e5
      subst ez2 ez3 ez5
      refine ⟨⟨z0, z1, z2, z3, z4, z5⟩, ⟨w0, w1, reach_string r2, reach_string r3, w4, reach_string r5⟩, fun j hj => ?_⟩
      match j, hj with
      | 0, _ => exact c0
      | 1, _ => exact c1
      | 2, _ => exact c2
      | 3, _ => exact c3
      | 4, _ => exact c4
      | 5, _ => exact c5)
  exact ⟨l, g1, g2, hn⟩
theorem al_at {w : World} {a : Option Addr} {n c : Nat} {l : List AlD} (h : RO alC w a n c l) {i : Nat} (hi : i < n) :
    ∃ b off, a = some ⟨b, off, none⟩ ∧ b < w.heap.size ∧ w.cell? ⟨b, off + i * 6, none⟩ = some (.int .i64 (l.getD i al0).kind) ∧ w.cell? ⟨b, off + i * 6 + 1, none⟩ = some (.int .i64 (l.getD i al0).sev) ∧ w.cell? ⟨b, off + i * 6 + 2, none⟩ = some (.string (l.getD i al0).fn) ∧ w.cell? ⟨b, off + i * 6 + 3, none⟩ = some (.string (l.getD i al0).file) ∧ w.cell? ⟨b, off + i * 6 + 4, none⟩ = some (.int .i64 (l.getD i al0).line) ∧ w.cell? ⟨b, off + i * 6 + 5, none⟩ = some (.string (l.getD i al0).expr) := by
  obtain ⟨b, off, h1, h2, h3⟩ := h.at_ alC_len (by decide) al0 hi
  exact ⟨b, off, h1, h2, h3 0 (by decide), h3 1 (by decide), h3 2 (by decide), h3 3 (by decide), h3 4 (by decide), h3 5 (by decide)⟩
def bigOne (a : AlD) : Bool := decide (300 < a.fn.size) || (decide (300 < a.file.size) || decide (300 < a.expr.size))
def bigA (l : List AlD) : Bool := decide (100 < l.length) || l.any bigOne
def smallA (a : AlD) : Prop := a.fn.size ≤ 300 ∧ a.file.size ≤ 400 ∧ a.expr.size ≤ 300
theorem small_of {l : List AlD} (h : bigA l = false) : l.length ≤ 100 ∧ ∀ a ∈ l, a.fn.size ≤ 300 ∧ a.file.size ≤ 300 ∧ a.expr.size ≤ 300 := by
  unfold bigA at h
  simp only [Bool.or_eq_false_iff, decide_eq_false_iff_not, List.any_eq_false] at h
  refine ⟨by omega, fun a ha => ?_⟩
  have := h.2 a ha
  unfold bigOne at this
  simp at this
  exact ⟨by omega, by omega, by omega⟩
end Go.Proofs.Ytbpaoiajfjkmfaa
namespace Go.Proofs.Ytbpaoiajfjkmfaa
set_option linter.unusedVariables false
set_option linter.unusedSimpArgs false
def keyA (a : AlD) : List Int := keyL a.kind a.fn (normS (codes a.expr))
def oneK (k : List Int) (r : Nat) : Int := fsum (fsum fstart k) (leb r)
def oneA (a : AlD) (r : Int) : Int := oneK (keyA a) (max r 0).toNat
def rankA (l : List AlD) (i : Nat) : Nat := rankL cmpA keyA l al0 i
def fingA (l : List AlD) : List Int := fingersL cmpA keyA oneK l al0
theorem fing_len (l : List AlD) : (fingA l).length = l.length := by simp [fingA, fingersL]
theorem fing_at (l : List AlD) {i : Nat} (hi : i < l.length) : (fingA l).getD i 0 = oneK (keyA (l.getD i al0)) (rankA l i) := by
  simp [fingA, fingersL, List.getD, hi, rankA]
theorem rank_le (l : List AlD) (i : Nat) : rankA l i ≤ l.length := by
  unfold rankA rankL
  have := List.countP_le_length (p := fun j => aheadB cmpA l al0 j i && decide (keyA (l.getD j al0) = keyA (l.getD i al0))) (l := List.range l.length)
  simpa using this
theorem one_app (k : List Int) (r : Nat) : fsum fstart (k ++ leb r) = oneK k r := by unfold oneK; rw [fsum_append]
theorem normS_bs {L : List Int} (h : Bs L) : Bs (normS L) := norm_bs (parts_bs _ (Nat.le_refl _) h) false
end Go.Proofs.Ytbpaoiajfjkmfaa
namespace Go.Proofs.Ytbpaoiajfjkmfaa
open Go.RowKit
set_option linter.unusedVariables false
set_option linter.unusedSimpArgs false
theorem less_is (x y : ByteArray) : Op.bytesLess x.toList y.toList = lt8 (byt x) (byt y) := by
  unfold lt8 byt
  rw [ByteArray.toList_eq, ByteArray.toList_eq]
theorem anumber_any (a b : Int) (w : World) : Calls Try.prog 31 #[.int .i64 a, .int .i64 b] w fun e w' => e = .returned (.int .i64 (cmpZ a b)) ∧ w = w' := by
  unfold cmpZ
  by_cases h1 : a < b
  · rw [if_pos h1]
    go_enter Try.func31, Try.ntmps31
    go_wp2
    go_ret
    exact ⟨rfl, rfl⟩
  · rw [if_neg h1]
    by_cases h2 : b < a
    · rw [if_pos h2]
      go_enter Try.func31, Try.ntmps31
      go_wp2
      go_ret
      exact ⟨rfl, rfl⟩
    · rw [if_neg h2]
      go_enter Try.func31, Try.ntmps31
      go_wp2
      go_ret
      exact ⟨rfl, rfl⟩
theorem asign_any (a b : ByteArray) (w : World) : Calls Try.prog 30 #[.string a, .string b] w fun e w' => e = .returned (.int .i64 (cmpT a b)) ∧ w = w' := by
  have l1 := less_is a b
  have l2 := less_is b a
  unfold cmpT
  cases h1 : lt8 (byt a) (byt b) with
  | true =>
    rw [h1] at l1
    rw [if_pos rfl]
    go_enter Try.func30, Try.ntmps30
    go_wp2
    go_ret
    exact ⟨rfl, rfl⟩
  | false =>
    rw [h1] at l1
    rw [if_neg (by simp)]
    cases h2 : lt8 (byt b) (byt a) with
    | true =>
      rw [h2] at l2
      rw [if_pos rfl]
      have n1 : (a.toList == b.toList) = false := by
        rw [beq_eq_false_iff_ne]
        intro e
        rw [ByteArray.toList_eq, ByteArray.toList_eq] at e
        have e' : byt a = byt b := e
        rw [e', lt8_irrefl] at h2
        cases h2
      have n2 : (b.toList == a.toList) = false := by rw [beq_eq_false_iff_ne] at n1 ⊢; exact fun e => n1 e.symm
      go_enter Try.func30, Try.ntmps30
      go_wp2
      go_ret
      exact ⟨rfl, rfl⟩
    | false =>
      rw [if_neg (by simp)]
      have e := byt_inj (lt8_tri h1 h2)
      subst e
      rw [h2] at l2
      have n1 : (a.toList == a.toList) = true := by simp
      go_enter Try.func30, Try.ntmps30
      go_wp2
      go_ret
      exact ⟨rfl, rfl⟩
end Go.Proofs.Ytbpaoiajfjkmfaa
namespace Go.Proofs.Ytbpaoiajfjkmfaa
open Go.RowKit
set_option linter.unusedVariables false
theorem box_below (w : World) (v1 : Array Value) (t1 : TypeId) : Below w.heap.size w (w.alloc (.cells v1 t1)) := (Below.refl _ _).alloc (Nat.le_refl _) _
theorem box2_below (w : World) (v1 v2 : Array Value) (t1 t2 : TypeId) : Below w.heap.size w ((w.alloc (.cells v1 t1)).alloc (.cells v2 t2)) := ((Below.refl _ _).alloc (Nat.le_refl _) _).alloc (by simp) _
structure SL (w : World) (a : Option Addr) (m c : Nat) (l : List Int) : Prop where
  len : m = l.length
  cap : m ≤ c
  max : m ≤ 9223372036854775807
  sees : Sees .i64 w.heap.size w a l
theorem SL.below {w w' : World} {a : Option Addr} {m c : Nat} {l : List Int} (h : SL w a m c l) (hb : Below w.heap.size w w') : SL w' a m c l := ⟨h.len, h.cap, h.max, (h.sees.below hb).mono hb.size⟩
theorem SL.drewN {w : World} {a : Option Addr} {m c : Nat} {l : List Int} (h : SL w a m c l) (n : Nat) : SL (w.drewN n) a m c l := ⟨h.len, h.cap, h.max, h.sees⟩
theorem SL.nil (w : World) : SL w none 0 0 [] := ⟨rfl, Nat.le_refl _, by omega, .inl rfl⟩
def Tells (v : Value) (w : World) (e : Ending) (w' : World) : Prop := e = .returned v ∧ w = w'
theorem sees_num {k : IntKind} {B : Nat} {w : World} {a : Option Addr} {l : List Int} (h : Sees k B w a l) {i : Nat} (hi : i < l.length) : ∃ b off, a = some ⟨b, off, none⟩ ∧ b < B ∧ w.cell? ⟨b, off + i, none⟩ = some (.int k (l.getD i 0)) := by
  rcases h with rfl | ⟨b, off, rfl, hB, hc⟩
  · cases hi
  · exact ⟨b, off, rfl, hB, hc i hi⟩
end Go.Proofs.Ytbpaoiajfjkmfaa
namespace Go.Proofs.Ytbpaoiajfjkmfaa
open Go.RowKit
set_option linter.unusedVariables false
set_option linter.unusedSimpArgs false
def firstN : List Int → Int
  | [] => 0
  | x :: r => thenC x (firstN r)
theorem firstN_skip : ∀ (l : List Int) (k : Nat), (∀ j, j < k → l.getD j 0 = 0) → k ≤ l.length → firstN l = firstN (l.drop k)
  | l, 0, _, _ => rfl
  | [], k + 1, _, h => by simp at h
  | x :: l, k + 1, h, hk => by
    have h0 := h 0 (by omega)
    simp at h0
    subst h0
    show thenC 0 (firstN l) = _
    unfold thenC
    rw [if_pos rfl]
    exact firstN_skip l k (fun j hj => by have := h (j + 1) (by omega); simpa using this) (by simpa using hk)
theorem firstN_at {l : List Int} {k : Nat} (h : ∀ j, j < k → l.getD j 0 = 0) (hk : k < l.length) (h0 : l.getD k 0 ≠ 0) : firstN l = l.getD k 0 := by
  rw [firstN_skip l k h (by omega), List.drop_eq_getElem_cons hk]
  have e : l.getD k 0 = l[k] := by simp [List.getD, hk]
  rw [e] at h0 ⊢
  show thenC l[k] _ = _
  unfold thenC
  rw [if_neg h0]
theorem firstN_none {l : List Int} (h : ∀ j, j < l.length → l.getD j 0 = 0) : firstN l = 0 := by
  rw [firstN_skip l l.length h (Nat.le_refl _), List.drop_length]
  rfl
def keysA (a b : AlD) : List Int := [cmpT a.file b.file, cmpZ a.line b.line, cmpT a.fn b.fn, cmpZ a.kind b.kind, cmpT a.expr b.expr, cmpZ a.sev b.sev]
theorem cmpA_first (a b : AlD) : cmpA a b = firstN (keysA a b) := by
  unfold cmpA keysA firstN firstN firstN firstN firstN firstN firstN
  have : thenC (cmpZ a.sev b.sev) 0 = cmpZ a.sev b.sev := by unfold thenC; split <;> simp_all
  rw [this]
set_option maxRecDepth 100000 in
set_option maxHeartbeats 4000000 in
theorem acmp_any (a b : AlD) (w : World) : Calls Try.prog 19 #[.agg #[.int .i64 a.kind, .int .i64 a.sev, .string a.fn, .string a.file, .int .i64 a.line, .string a.expr], .agg #[.int .i64 b.kind, .int .i64 b.sev, .string b.fn, .string b.file, .int .i64 b.line, .string b.expr]] w (Gives (.int .i64 (cmpA a b)) w) := by
  rw [cmpA_first]
  obtain ⟨u0, hu0⟩ : ∃ u0, u0 = (w.alloc (.cells #[.int .i64 a.kind, .int .i64 a.sev, .string a.fn, .string a.file, .int .i64 a.line, .string a.expr] 24)).alloc (.cells #[.int .i64 b.kind, .int .i64 b.sev, .string b.fn, .string b.file, .int .i64 b.line, .string b.expr] 24) := ⟨_, rfl⟩
  have b0 : Hid (Below w.heap.size w u0) := Lib.hid (by rw [hu0]; exact box2_below _ _ _ _ _)
  have Z0 : Hid (Holds u0 w.heap.size 24 #[.int .i64 a.kind, .int .i64 a.sev, .string a.fn, .string a.file, .int .i64 a.line, .string a.expr]) := Lib.hid (by rw [hu0]; exact (Holds.new w _ _).alloc _)
  have Z1 : Hid (Holds u0 (w.heap.size + 1) 24 #[.int .i64 b.kind, .int .i64 b.sev, .string b.fn, .string b.file, .int .i64 b.line, .string b.expr]) := Lib.hid (by rw [hu0]; have q := Holds.new (w.alloc (.cells #[.int .i64 a.kind, .int .i64 a.sev, .string a.fn, .string a.file, .int .i64 a.line, .string a.expr] 24)) 24 #[.int .i64 b.kind, .int .i64 b.sev, .string b.fn, .string b.file, .int .i64 b.line, .string b.expr]; simpa using q)
  have hu0' := Lib.hid hu0
  clear hu0
  have hkl : (keysA a b).length = 6 := rfl
  obtain ⟨kl, hke⟩ : ∃ kl, kl = keysA a b := ⟨_, rfl⟩
  rw [← hke] at hkl ⊢
  have q1 := Lib.hid (fun W => asign_any a.file b.file W)
  have q2 := Lib.hid (fun W => anumber_any a.line b.line W)
  have q3 := Lib.hid (fun W => asign_any a.fn b.fn W)
  have q4 := Lib.hid (fun W => anumber_any a.kind b.kind W)
  have q5 := Lib.hid (fun W => asign_any a.expr b.expr W)
  have q6 := Lib.hid (fun W => anumber_any a.sev b.sev W)
  unfold keysA at hke
  generalize cmpT a.file b.file = k1 at *
  generalize cmpZ a.line b.line = k2 at *
  generalize cmpT a.fn b.fn = k3 at *
  generalize cmpZ a.kind b.kind = k4 at *
  generalize cmpT a.expr b.expr = k5 at *
  generalize cmpZ a.sev b.sev = k6 at *
  obtain ⟨ak, asv, af, afi, al, ax⟩ := a
  obtain ⟨bk, bsv, bf, bfi, bl, bx⟩ := b
  dsimp only at *
  have y0 : ∀ W, Below u0.heap.size u0 W → W.cell? ⟨w.heap.size, 0, none⟩ = some (.int .i64 ak) := fun W hW => (Z0.out.below hW Z0.out.lt).cell 0
  have y1 : ∀ W, Below u0.heap.size u0 W → W.cell? ⟨w.heap.size, 1, none⟩ = some (.int .i64 asv) := fun W hW => (Z0.out.below hW Z0.out.lt).cell 1
  have y2 : ∀ W, Below u0.heap.size u0 W → W.cell? ⟨w.heap.size, 2, none⟩ = some (.string af) := fun W hW => (Z0.out.below hW Z0.out.lt).cell 2
  have y3 : ∀ W, Below u0.heap.size u0 W → W.cell? ⟨w.heap.size, 3, none⟩ = some (.string afi) := fun W hW => (Z0.out.below hW Z0.out.lt).cell 3
  have y4 : ∀ W, Below u0.heap.size u0 W → W.cell? ⟨w.heap.size, 4, none⟩ = some (.int .i64 al) := fun W hW => (Z0.out.below hW Z0.out.lt).cell 4
  have y5 : ∀ W, Below u0.heap.size u0 W → W.cell? ⟨w.heap.size, 5, none⟩ = some (.string ax) := fun W hW => (Z0.out.below hW Z0.out.lt).cell 5
  have z0 : ∀ W, Below u0.heap.size u0 W → W.cell? ⟨w.heap.size + 1, 0, none⟩ = some (.int .i64 bk) := fun W hW => (Z1.out.below hW Z1.out.lt).cell 0
  have z1 : ∀ W, Below u0.heap.size u0 W → W.cell? ⟨w.heap.size + 1, 1, none⟩ = some (.int .i64 bsv) := fun W hW => (Z1.out.below hW Z1.out.lt).cell 1
  have z2 : ∀ W, Below u0.heap.size u0 W → W.cell? ⟨w.heap.size + 1, 2, none⟩ = some (.string bf) := fun W hW => (Z1.out.below hW Z1.out.lt).cell 2
  have z3 : ∀ W, Below u0.heap.size u0 W → W.cell? ⟨w.heap.size + 1, 3, none⟩ = some (.string bfi) := fun W hW => (Z1.out.below hW Z1.out.lt).cell 3
  have z4 : ∀ W, Below u0.heap.size u0 W → W.cell? ⟨w.heap.size + 1, 4, none⟩ = some (.int .i64 bl) := fun W hW => (Z1.out.below hW Z1.out.lt).cell 4
  have z5 : ∀ W, Below u0.heap.size u0 W → W.cell? ⟨w.heap.size + 1, 5, none⟩ = some (.string bx) := fun W hW => (Z1.out.below hW Z1.out.lt).cell 5
  go_enter Try.func19, Try.ntmps19
  go_wp2
  rw [← hu0'.out]
  clear hu0'
  refine wp_drawn_on (fun W => Below u0.heap.size u0 W) (by kernel_rfl) ((Below.refl _ _).drew) (fun hHeld => ?_)
  refine wpAnyH_take (i := 0) (oi := { dst := some 7, op := Go.Op.fieldAddr 24 (Go.Operand.tmp 2) 3, type := 0, pos := "ref.go:54", after := #[], guard := none }) (v := ?v1) rfl (by kernel_rfl) (by kernel_rfl) (by kernel_rfl) (fun _ _ _ h => h) (Or.inl ⟨by kernel_rfl, ?h1⟩) (by assumption) ?r1
  case h1 => (intro w hSw; (try dsimp only at hSw); go_simp; try with_reducible rfl)
  try simp only [Act.put, List.setIfInBounds_toArray, List.set_cons_zero, List.set_cons_succ]
  refine wpAnyH_take (i := 1) (oi := { dst := some 8, op := Go.Op.load 9 (Go.Operand.tmp 7), type := 9, pos := "ref.go:54", after := #[{ on := 0, ground := Go.Ground.data }], guard := none }) (v := ?v2) rfl (by kernel_rfl) (by kernel_rfl) (by kernel_rfl) (fun _ _ _ h => h) (Or.inl ⟨by kernel_rfl, ?h2⟩) (by assumption) ?r2
  case h2 => (intro w hSw; (try dsimp only at hSw); go_simp; try with_reducible rfl)
  try simp only [Act.put, List.setIfInBounds_toArray, List.set_cons_zero, List.set_cons_succ]
  refine wpAnyH_take (i := 2) (oi := { dst := some 9, op := Go.Op.fieldAddr 24 (Go.Operand.tmp 3) 3, type := 0, pos := "ref.go:54", after := #[], guard := none }) (v := ?v3) rfl (by kernel_rfl) (by kernel_rfl) (by kernel_rfl) (fun _ _ _ h => h) (Or.inl ⟨by kernel_rfl, ?h3⟩) (by assumption) ?r3
  case h3 => (intro w hSw; (try dsimp only at hSw); go_simp; try with_reducible rfl)
  try simp only [Act.put, List.setIfInBounds_toArray, List.set_cons_zero, List.set_cons_succ]
  refine wpAnyH_take (i := 3) (oi := { dst := some 10, op := Go.Op.load 9 (Go.Operand.tmp 9), type := 9, pos := "ref.go:54", after := #[{ on := 2, ground := Go.Ground.data }], guard := none }) (v := ?v4) rfl (by kernel_rfl) (by kernel_rfl) (by kernel_rfl) (fun _ _ _ h => h) (Or.inl ⟨by kernel_rfl, ?h4⟩) (by assumption) ?r4
  case h4 => (intro w hSw; (try dsimp only at hSw); go_simp; try with_reducible rfl)
  try simp only [Act.put, List.setIfInBounds_toArray, List.set_cons_zero, List.set_cons_succ]
  refine wpAnyH_take (i := 5) (oi := { dst := some 12, op := Go.Op.fieldAddr 24 (Go.Operand.tmp 2) 4, type := 0, pos := "ref.go:54", after := #[], guard := none }) (v := ?v5) rfl (by kernel_rfl) (by kernel_rfl) (by kernel_rfl) (fun _ _ _ h => h) (Or.inl ⟨by kernel_rfl, ?h5⟩) (by assumption) ?r5
  case h5 => (intro w hSw; (try dsimp only at hSw); go_simp; try with_reducible rfl)
  try simp only [Act.put, List.setIfInBounds_toArray, List.set_cons_zero, List.set_cons_succ]
  refine wpAnyH_take (i := 6) (oi := { dst := some 13, op := Go.Op.load 3 (Go.Operand.tmp 12), type := 3, pos := "ref.go:54", after := #[{ on := 5, ground := Go.Ground.data }], guard := none }) (v := ?v6) rfl (by kernel_rfl) (by kernel_rfl) (by kernel_rfl) (fun _ _ _ h => h) (Or.inl ⟨by kernel_rfl, ?h6⟩) (by assumption) ?r6
  case h6 => (intro w hSw; (try dsimp only at hSw); go_simp; try with_reducible rfl)
  try simp only [Act.put, List.setIfInBounds_toArray, List.set_cons_zero, List.set_cons_succ]
  refine wpAnyH_take (i := 7) (oi := { dst := some 14, op := Go.Op.fieldAddr 24 (Go.Operand.tmp 3) 4, type := 0, pos := "ref.go:54", after := #[], guard := none }) (v := ?v7) rfl (by kernel_rfl) (by kernel_rfl) (by kernel_rfl) (fun _ _ _ h => h) (Or.inl ⟨by kernel_rfl, ?h7⟩) (by assumption) ?r7
  case h7 => (intro w hSw; (try dsimp only at hSw); go_simp; try with_reducible rfl)
  try simp only [Act.put, List.setIfInBounds_toArray, List.set_cons_zero, List.set_cons_succ]
  refine wpAnyH_take (i := 8) (oi := { dst := some 15, op := Go.Op.load 3 (Go.Operand.tmp 14), type := 3, pos := "ref.go:54", after := #[{ on := 7, ground := Go.Ground.data }], guard := none }) (v := ?v8) rfl (by kernel_rfl) (by kernel_rfl) (by kernel_rfl) (fun _ _ _ h => h) (Or.inl ⟨by kernel_rfl, ?h8⟩) (by assumption) ?r8
  case h8 => (intro w hSw; (try dsimp only at hSw); go_simp; try with_reducible rfl)
  try simp only [Act.put, List.setIfInBounds_toArray, List.set_cons_zero, List.set_cons_succ]
  refine wpAnyH_take (i := 10) (oi := { dst := some 17, op := Go.Op.fieldAddr 24 (Go.Operand.tmp 2) 2, type := 0, pos := "ref.go:54", after := #[], guard := none }) (v := ?v9) rfl (by kernel_rfl) (by kernel_rfl) (by kernel_rfl) (fun _ _ _ h => h) (Or.inl ⟨by kernel_rfl, ?h9⟩) (by assumption) ?r9
  case h9 => (intro w hSw; (try dsimp only at hSw); go_simp; try with_reducible rfl)
  try simp only [Act.put, List.setIfInBounds_toArray, List.set_cons_zero, List.set_cons_succ]
  refine wpAnyH_take (i := 11) (oi := { dst := some 18, op := Go.Op.load 9 (Go.Operand.tmp 17), type := 9, pos := "ref.go:54", after := #[{ on := 10, ground := Go.Ground.data }], guard := none }) (v := ?v10) rfl (by kernel_rfl) (by kernel_rfl) (by kernel_rfl) (fun _ _ _ h => h) (Or.inl ⟨by kernel_rfl, ?h10⟩) (by assumption) ?r10
  case h10 => (intro w hSw; (try dsimp only at hSw); go_simp; try with_reducible rfl)
  try simp only [Act.put, List.setIfInBounds_toArray, List.set_cons_zero, List.set_cons_succ]
  refine wpAnyH_take (i := 12) (oi := { dst := some 19, op := Go.Op.fieldAddr 24 (Go.Operand.tmp 3) 2, type := 0, pos := "ref.go:54", after := #[], guard := none }) (v := ?v11) rfl (by kernel_rfl) (by kernel_rfl) (by kernel_rfl) (fun _ _ _ h => h) (Or.inl ⟨by kernel_rfl, ?h11⟩) (by assumption) ?r11
  case h11 => (intro w hSw; (try dsimp only at hSw); go_simp; try with_reducible rfl)
  try simp only [Act.put, List.setIfInBounds_toArray, List.set_cons_zero, List.set_cons_succ]
  refine wpAnyH_take (i := 13) (oi := { dst := some 20, op := Go.Op.load 9 (Go.Operand.tmp 19), type := 9, pos := "ref.go:54", after := #[{ on := 12, ground := Go.Ground.data }], guard := none }) (v := ?v12) rfl (by kernel_rfl) (by kernel_rfl) (by kernel_rfl) (fun _ _ _ h => h) (Or.inl ⟨by kernel_rfl, ?h12⟩) (by assumption) ?r12
  case h12 => (intro w hSw; (try dsimp only at hSw); go_simp; try with_reducible rfl)
  try simp only [Act.put, List.setIfInBounds_toArray, List.set_cons_zero, List.set_cons_succ]
  refine wpAnyH_take (i := 15) (oi := { dst := some 22, op := Go.Op.fieldAddr 24 (Go.Operand.tmp 2) 0, type := 0, pos := "ref.go:54", after := #[], guard := none }) (v := ?v13) rfl (by kernel_rfl) (by kernel_rfl) (by kernel_rfl) (fun _ _ _ h => h) (Or.inl ⟨by kernel_rfl, ?h13⟩) (by assumption) ?r13
  case h13 => (intro w hSw; (try dsimp only at hSw); go_simp; try with_reducible rfl)
  try simp only [Act.put, List.setIfInBounds_toArray, List.set_cons_zero, List.set_cons_succ]
  refine wpAnyH_take (i := 16) (oi := { dst := some 23, op := Go.Op.load 3 (Go.Operand.tmp 22), type := 3, pos := "ref.go:54", after := #[{ on := 15, ground := Go.Ground.data }], guard := none }) (v := ?v14) rfl (by kernel_rfl) (by kernel_rfl) (by kernel_rfl) (fun _ _ _ h => h) (Or.inl ⟨by kernel_rfl, ?h14⟩) (by assumption) ?r14
  case h14 => (intro w hSw; (try dsimp only at hSw); go_simp; try with_reducible rfl)
  try simp only [Act.put, List.setIfInBounds_toArray, List.set_cons_zero, List.set_cons_succ]
  refine wpAnyH_take (i := 17) (oi := { dst := some 24, op := Go.Op.fieldAddr 24 (Go.Operand.tmp 3) 0, type := 0, pos := "ref.go:54", after := #[], guard := none }) (v := ?v15) rfl (by kernel_rfl) (by kernel_rfl) (by kernel_rfl) (fun _ _ _ h => h) (Or.inl ⟨by kernel_rfl, ?h15⟩) (by assumption) ?r15
  case h15 => (intro w hSw; (try dsimp only at hSw); go_simp; try with_reducible rfl)
  try simp only [Act.put, List.setIfInBounds_toArray, List.set_cons_zero, List.set_cons_succ]
  refine wpAnyH_take (i := 18) (oi := { dst := some 25, op := Go.Op.load 3 (Go.Operand.tmp 24), type := 3, pos := "ref.go:54", after := #[{ on := 17, ground := Go.Ground.data }], guard := none }) (v := ?v16) rfl (by kernel_rfl) (by kernel_rfl) (by kernel_rfl) (fun _ _ _ h => h) (Or.inl ⟨by kernel_rfl, ?h16⟩) (by assumption) ?r16
  case h16 => (intro w hSw; (try dsimp only at hSw); go_simp; try with_reducible rfl)
  try simp only [Act.put, List.setIfInBounds_toArray, List.set_cons_zero, List.set_cons_succ]
  refine wpAnyH_take (i := 20) (oi := { dst := some 27, op := Go.Op.fieldAddr 24 (Go.Operand.tmp 2) 5, type := 0, pos := "ref.go:54", after := #[], guard := none }) (v := ?v17) rfl (by kernel_rfl) (by kernel_rfl) (by kernel_rfl) (fun _ _ _ h => h) (Or.inl ⟨by kernel_rfl, ?h17⟩) (by assumption) ?r17
  case h17 => (intro w hSw; (try dsimp only at hSw); go_simp; try with_reducible rfl)
  try simp only [Act.put, List.setIfInBounds_toArray, List.set_cons_zero, List.set_cons_succ]
  refine wpAnyH_take (i := 21) (oi := { dst := some 28, op := Go.Op.load 9 (Go.Operand.tmp 27), type := 9, pos := "ref.go:54", after := #[{ on := 20, ground := Go.Ground.data }], guard := none }) (v := ?v18) rfl (by kernel_rfl) (by kernel_rfl) (by kernel_rfl) (fun _ _ _ h => h) (Or.inl ⟨by kernel_rfl, ?h18⟩) (by assumption) ?r18
  case h18 => (intro w hSw; (try dsimp only at hSw); go_simp; try with_reducible rfl)
  try simp only [Act.put, List.setIfInBounds_toArray, List.set_cons_zero, List.set_cons_succ]
  refine wpAnyH_take (i := 22) (oi := { dst := some 29, op := Go.Op.fieldAddr 24 (Go.Operand.tmp 3) 5, type := 0, pos := "ref.go:54", after := #[], guard := none }) (v := ?v19) rfl (by kernel_rfl) (by kernel_rfl) (by kernel_rfl) (fun _ _ _ h => h) (Or.inl ⟨by kernel_rfl, ?h19⟩) (by assumption) ?r19
  case h19 => (intro w hSw; (try dsimp only at hSw); go_simp; try with_reducible rfl)
  try simp only [Act.put, List.setIfInBounds_toArray, List.set_cons_zero, List.set_cons_succ]
  refine wpAnyH_take (i := 23) (oi := { dst := some 30, op := Go.Op.load 9 (Go.Operand.tmp 29), type := 9, pos := "ref.go:54", after := #[{ on := 22, ground := Go.Ground.data }], guard := none }) (v := ?v20) rfl (by kernel_rfl) (by kernel_rfl) (by kernel_rfl) (fun _ _ _ h => h) (Or.inl ⟨by kernel_rfl, ?h20⟩) (by assumption) ?r20
  case h20 => (intro w hSw; (try dsimp only at hSw); go_simp; try with_reducible rfl)
  try simp only [Act.put, List.setIfInBounds_toArray, List.set_cons_zero, List.set_cons_succ]
  refine wpAnyH_take (i := 25) (oi := { dst := some 32, op := Go.Op.fieldAddr 24 (Go.Operand.tmp 2) 1, type := 0, pos := "ref.go:54", after := #[], guard := none }) (v := ?v21) rfl (by kernel_rfl) (by kernel_rfl) (by kernel_rfl) (fun _ _ _ h => h) (Or.inl ⟨by kernel_rfl, ?h21⟩) (by assumption) ?r21
  case h21 => (intro w hSw; (try dsimp only at hSw); go_simp; try with_reducible rfl)
  try simp only [Act.put, List.setIfInBounds_toArray, List.set_cons_zero, List.set_cons_succ]
  refine wpAnyH_take (i := 26) (oi := { dst := some 33, op := Go.Op.load 3 (Go.Operand.tmp 32), type := 3, pos := "ref.go:54", after := #[{ on := 25, ground := Go.Ground.data }], guard := none }) (v := ?v22) rfl (by kernel_rfl) (by kernel_rfl) (by kernel_rfl) (fun _ _ _ h => h) (Or.inl ⟨by kernel_rfl, ?h22⟩) (by assumption) ?r22
  case h22 => (intro w hSw; (try dsimp only at hSw); go_simp; try with_reducible rfl)
  try simp only [Act.put, List.setIfInBounds_toArray, List.set_cons_zero, List.set_cons_succ]
  refine wpAnyH_take (i := 27) (oi := { dst := some 34, op := Go.Op.fieldAddr 24 (Go.Operand.tmp 3) 1, type := 0, pos := "ref.go:54", after := #[], guard := none }) (v := ?v23) rfl (by kernel_rfl) (by kernel_rfl) (by kernel_rfl) (fun _ _ _ h => h) (Or.inl ⟨by kernel_rfl, ?h23⟩) (by assumption) ?r23
  case h23 => (intro w hSw; (try dsimp only at hSw); go_simp; try with_reducible rfl)
  try simp only [Act.put, List.setIfInBounds_toArray, List.set_cons_zero, List.set_cons_succ]
  refine wpAnyH_take (i := 28) (oi := { dst := some 35, op := Go.Op.load 3 (Go.Operand.tmp 34), type := 3, pos := "ref.go:54", after := #[{ on := 27, ground := Go.Ground.data }], guard := none }) (v := ?v24) rfl (by kernel_rfl) (by kernel_rfl) (by kernel_rfl) (fun _ _ _ h => h) (Or.inl ⟨by kernel_rfl, ?h24⟩) (by assumption) ?r24
  case h24 => (intro w hSw; (try dsimp only at hSw); go_simp; try with_reducible rfl)
  try simp only [Act.put, List.setIfInBounds_toArray, List.set_cons_zero, List.set_cons_succ]
  refine wpAnyH_ready (rs := [4]) (by kernel_rfl) (by simp) ?_
  refine AllReadyH.cons (o := { dst := some 11, op := Go.Op.call { callee := Go.Callee.value (Go.Operand.func 30), args := #[Go.Operand.tmp 8, Go.Operand.tmp 10], argTypes := #[9, 9] }, type := 3, pos := "ref.go:54", after := #[{ on := 1, ground := Go.Ground.data }, { on := 3, ground := Go.Ground.data }], guard := none }) rfl (fun K hK => ?_) AllReadyH.nil
  go_simp
  with_reducible refine (q1.out _).mono ?_
  rintro e x0 ⟨rfl, rfl⟩
  go_simp
  refine hK.out _ _ (hHeld) (fun hHeld => ?_)
  clear hK K
  try simp only [Act.put, List.setIfInBounds_toArray, List.set_cons_zero, List.set_cons_succ]
  refine wpAnyH_ready (rs := [9]) (by kernel_rfl) (by simp) ?_
  refine AllReadyH.cons (o := { dst := some 16, op := Go.Op.call { callee := Go.Callee.value (Go.Operand.func 31), args := #[Go.Operand.tmp 13, Go.Operand.tmp 15], argTypes := #[3, 3] }, type := 3, pos := "ref.go:54", after := #[{ on := 6, ground := Go.Ground.data }, { on := 8, ground := Go.Ground.data }, { on := 4, ground := Go.Ground.chain }], guard := none }) rfl (fun K hK => ?_) AllReadyH.nil
  go_simp
  with_reducible refine (q2.out _).mono ?_
  rintro e x1 ⟨rfl, rfl⟩
  go_simp
  refine hK.out _ _ (hHeld) (fun hHeld => ?_)
  clear hK K
  try simp only [Act.put, List.setIfInBounds_toArray, List.set_cons_zero, List.set_cons_succ]
  refine wpAnyH_ready (rs := [14]) (by kernel_rfl) (by simp) ?_
  refine AllReadyH.cons (o := { dst := some 21, op := Go.Op.call { callee := Go.Callee.value (Go.Operand.func 30), args := #[Go.Operand.tmp 18, Go.Operand.tmp 20], argTypes := #[9, 9] }, type := 3, pos := "ref.go:54", after := #[{ on := 11, ground := Go.Ground.data }, { on := 13, ground := Go.Ground.data }, { on := 9, ground := Go.Ground.chain }], guard := none }) rfl (fun K hK => ?_) AllReadyH.nil
  go_simp
  with_reducible refine (q3.out _).mono ?_
  rintro e x2 ⟨rfl, rfl⟩
  go_simp
  refine hK.out _ _ (hHeld) (fun hHeld => ?_)
  clear hK K
  try simp only [Act.put, List.setIfInBounds_toArray, List.set_cons_zero, List.set_cons_succ]
  refine wpAnyH_ready (rs := [19]) (by kernel_rfl) (by simp) ?_
  refine AllReadyH.cons (o := { dst := some 26, op := Go.Op.call { callee := Go.Callee.value (Go.Operand.func 31), args := #[Go.Operand.tmp 23, Go.Operand.tmp 25], argTypes := #[3, 3] }, type := 3, pos := "ref.go:54", after := #[{ on := 16, ground := Go.Ground.data }, { on := 18, ground := Go.Ground.data }, { on := 14, ground := Go.Ground.chain }], guard := none }) rfl (fun K hK => ?_) AllReadyH.nil
  go_simp
  with_reducible refine (q4.out _).mono ?_
  rintro e x3 ⟨rfl, rfl⟩
  go_simp
  refine hK.out _ _ (hHeld) (fun hHeld => ?_)
  clear hK K
  try simp only [Act.put, List.setIfInBounds_toArray, List.set_cons_zero, List.set_cons_succ]
  refine wpAnyH_ready (rs := [24]) (by kernel_rfl) (by simp) ?_
  refine AllReadyH.cons (o := { dst := some 31, op := Go.Op.call { callee := Go.Callee.value (Go.Operand.func 30), args := #[Go.Operand.tmp 28, Go.Operand.tmp 30], argTypes := #[9, 9] }, type := 3, pos := "ref.go:54", after := #[{ on := 21, ground := Go.Ground.data }, { on := 23, ground := Go.Ground.data }, { on := 19, ground := Go.Ground.chain }], guard := none }) rfl (fun K hK => ?_) AllReadyH.nil
  go_simp
  with_reducible refine (q5.out _).mono ?_
  rintro e x4 ⟨rfl, rfl⟩
  go_simp
  refine hK.out _ _ (hHeld) (fun hHeld => ?_)
  clear hK K
  try simp only [Act.put, List.setIfInBounds_toArray, List.set_cons_zero, List.set_cons_succ]
  refine wpAnyH_ready (rs := [29]) (by kernel_rfl) (by simp) ?_
  refine AllReadyH.cons (o := { dst := some 36, op := Go.Op.call { callee := Go.Callee.value (Go.Operand.func 31), args := #[Go.Operand.tmp 33, Go.Operand.tmp 35], argTypes := #[3, 3] }, type := 3, pos := "ref.go:54", after := #[{ on := 26, ground := Go.Ground.data }, { on := 28, ground := Go.Ground.data }, { on := 24, ground := Go.Ground.chain }], guard := none }) rfl (fun K hK => ?_) AllReadyH.nil
  go_simp
  with_reducible refine (q6.out _).mono ?_
  rintro e x5 ⟨rfl, rfl⟩
  go_simp
  refine hK.out _ _ (hHeld) (fun hHeld => ?_)
  clear hK K
  try simp only [Act.put, List.setIfInBounds_toArray, List.set_cons_zero, List.set_cons_succ]
  refine wpAnyH_ready (rs := [30]) (by kernel_rfl) (by simp) ?_
  refine AllReadyH.cons (o := { dst := some 37, op := Go.Op.buildSlice 27 6 #[(0, Go.Operand.tmp 11), (1, Go.Operand.tmp 16), (2, Go.Operand.tmp 21), (3, Go.Operand.tmp 26), (4, Go.Operand.tmp 31), (5, Go.Operand.tmp 36)], type := 27, pos := "ref.go:54", after := #[{ on := 4, ground := Go.Ground.data }, { on := 9, ground := Go.Ground.data }, { on := 14, ground := Go.Ground.data }, { on := 19, ground := Go.Ground.data }, { on := 24, ground := Go.Ground.data }, { on := 29, ground := Go.Ground.data }], guard := none }) rfl (fun K hK => ?_) AllReadyH.nil
  go_simp
  obtain ⟨v30, hv30⟩ : ∃ v30, v30 = (u0.alloc (.cells #[.int .i64 k1, .int .i64 k2, .int .i64 k3, .int .i64 k4, .int .i64 k5, .int .i64 k6] 3)).drew := ⟨_, rfl⟩
  have hx30 : Below u0.heap.size u0 v30 := (by rw [hv30]; exact (box_below _ _ _).drew)
  have hr : ∀ i, i < kl.length → v30.cell? ⟨u0.heap.size, i, none⟩ = some (.int .i64 (kl.getD i 0)) := (by intro i hi; rw [hv30, hke]; rw [hkl] at hi; have q := (Holds.new u0 3 #[.int .i64 k1, .int .i64 k2, .int .i64 k3, .int .i64 k4, .int .i64 k5, .int .i64 k6]).drew.cell i; rw [q]; rcases (show i = 0 ∨ i = 1 ∨ i = 2 ∨ i = 3 ∨ i = 4 ∨ i = 5 by omega) with rfl | rfl | rfl | rfl | rfl | rfl <;> rfl)
  rw [← hv30]
  have hlt : u0.heap.size < v30.heap.size := (by rw [hv30]; simp)
  clear hv30
  refine hK.out _ _ (hx30) (fun hHeld => ?_)
  clear hK K
  try simp only [Act.put, List.setIfInBounds_toArray, List.set_cons_zero, List.set_cons_succ]
  refine wpAnyH_take (i := 31) (oi := { dst := some 5, op := Go.Op.assign (Go.Operand.tmp 37), type := 27, pos := "ref.go:54", after := #[{ on := 30, ground := Go.Ground.data }, { on := 29, ground := Go.Ground.chain }, { on := 0, ground := Go.Ground.phase }, { on := 1, ground := Go.Ground.phase }, { on := 2, ground := Go.Ground.phase }, { on := 3, ground := Go.Ground.phase }, { on := 4, ground := Go.Ground.phase }, { on := 5, ground := Go.Ground.phase }, { on := 6, ground := Go.Ground.phase }, { on := 7, ground := Go.Ground.phase }, { on := 8, ground := Go.Ground.phase }, { on := 9, ground := Go.Ground.phase }, { on := 10, ground := Go.Ground.phase }, { on := 11, ground := Go.Ground.phase }, { on := 12, ground := Go.Ground.phase }, { on := 13, ground := Go.Ground.phase }, { on := 14, ground := Go.Ground.phase }, { on := 15, ground := Go.Ground.phase }, { on := 16, ground := Go.Ground.phase }, { on := 17, ground := Go.Ground.phase }, { on := 18, ground := Go.Ground.phase }, { on := 19, ground := Go.Ground.phase }, { on := 20, ground := Go.Ground.phase }, { on := 21, ground := Go.Ground.phase }, { on := 22, ground := Go.Ground.phase }, { on := 23, ground := Go.Ground.phase }, { on := 24, ground := Go.Ground.phase }, { on := 25, ground := Go.Ground.phase }, { on := 26, ground := Go.Ground.phase }, { on := 27, ground := Go.Ground.phase }, { on := 28, ground := Go.Ground.phase }, { on := 29, ground := Go.Ground.phase }, { on := 30, ground := Go.Ground.phase }], guard := none }) (v := ?v25) rfl (by kernel_rfl) (by kernel_rfl) (by kernel_rfl) (fun _ _ _ h => h) (Or.inl ⟨by kernel_rfl, ?h25⟩) (by assumption) ?r25
  case h25 => (intro w hSw; (try dsimp only at hSw); go_simp; try with_reducible rfl)
  try simp only [Act.put, List.setIfInBounds_toArray, List.set_cons_zero, List.set_cons_succ]
  refine wpAnyH_done (by kernel_rfl) ?_ _
  have hx := Lib.hid hHeld
  have hr' := Lib.hid hr
  have hk6 : kl.length ≤ 6 := by omega
  clear hHeld hr y0 y1 y2 y3 y4 y5 z0 z1 z2 z3 z4 z5 q1 q2 q3 q4 q5 q6 hke Z0 Z1
  have hsz := b0.out.size
  go_wp2
  go_loop [6] (fun x => ∃ i : Nat, i ≤ 6 ∧ x = .int .i64 i ∧ Hid (∀ j, j < i → kl.getD j 0 = 0)) (fun x => 6 - (intOf x).toNat)
  case atStart => exact ⟨0, by omega, rfl, Lib.hid (fun j hj => by omega)⟩
  case round =>
    obtain ⟨i, hi, rfl, hz⟩ := hrel
    by_cases hlt6 : i < 6
    · have hii : (i : Int) < 6 := by omega
      have hc := hr'.out i (by omega)
      have hat := Lib.hid (fun h0 => firstN_at hz.out (show i < kl.length by omega) h0)
      have hnext : Hid (kl.getD i 0 = 0 → ∀ j, j < i + 1 → kl.getD j 0 = 0) := Lib.hid (fun h j hj => by
        by_cases e : j = i
        · rw [e]; exact h
        · exact hz.out j (by omega))
      generalize kl.getD i 0 = v at hc hat hnext
      by_cases h0 : v = 0
      · have hn := Lib.hid (hnext.out h0)
        subst h0
        clear hat
        go_wp2
        go_round
        case rel => exact ⟨i + 1, by omega, by go_num, hn⟩
        case measure => simp [intOf]; omega
      · have h0' : (v == 0) = false := by rw [beq_eq_false_iff_ne]; exact h0
        have hv := Lib.hid (hat.out h0)
        clear hat hnext
        go_wp2
        go_ret
        exact ⟨by rw [hv.out]; rfl, b0.out.trans (hx.out.mono b0.out.size)⟩
    · have hii : ¬ (i : Int) < 6 := by omega
      have hv := Lib.hid (firstN_none (l := kl) (fun j hj => hz.out j (by omega)))
      go_wp2
      go_ret
      exact ⟨by rw [hv.out]; rfl, b0.out.trans (hx.out.mono b0.out.size)⟩
end Go.Proofs.Ytbpaoiajfjkmfaa
namespace Go.Proofs.Ytbpaoiajfjkmfaa
open Go.RowKit
set_option linter.unusedVariables false
set_option linter.unusedSimpArgs false
theorem snan_any (x : ByteArray) (w : World) : Calls Try.prog 88 #[.string x] w fun e w' => e = .returned (.bool false) ∧ w = w' := by
  have n1 : (x.toList == x.toList) = true := by simp
  go_enter Try.func88, Try.ntmps88
  go_wp2
  go_ret
  exact ⟨rfl, rfl⟩
theorem inan_any (x : Int) (w : World) : Calls Try.prog 55 #[.int .i64 x] w fun e w' => e = .returned (.bool false) ∧ w = w' := by
  go_enter Try.func55, Try.ntmps55
  go_wp2
  go_ret
  exact ⟨rfl, rfl⟩
theorem scompare_any (a b : ByteArray) (w : World) : Calls Try.prog 76 #[.string a, .string b] w fun e w' => e = .returned (.int .i64 (cmpT a b)) ∧ w = w' := by
  have l1 := less_is a b
  have q := Lib.hid (fun x W => snan_any x W)
  unfold cmpT
  cases h1 : lt8 (byt a) (byt b) with
  | true =>
    rw [h1] at l1
    rw [if_pos rfl]
    go_enter Try.func76, Try.ntmps76
    go_wp2_with fail
    with_reducible refine (q.out _ _).mono ?_
    rintro e w1 ⟨rfl, rfl⟩
    go_wp2_with fail
    with_reducible refine (q.out _ _).mono ?_
    rintro e w2 ⟨rfl, rfl⟩
    go_wp2
    go_ret
    exact ⟨rfl, rfl⟩
  | false =>
    rw [h1] at l1
    rw [if_neg (by simp)]
    cases h2 : lt8 (byt b) (byt a) with
    | true =>
      rw [if_pos rfl]
      have n1 : (a.toList == b.toList) = false := by
        rw [beq_eq_false_iff_ne]
        intro e
        rw [ByteArray.toList_eq, ByteArray.toList_eq] at e
        have e' : byt a = byt b := e
        rw [e', lt8_irrefl] at h2
        cases h2
      clear h1 h2
      go_enter Try.func76, Try.ntmps76
      go_wp2_with fail
      with_reducible refine (q.out _ _).mono ?_
      rintro e w1 ⟨rfl, rfl⟩
      go_wp2_with fail
      with_reducible refine (q.out _ _).mono ?_
      rintro e w2 ⟨rfl, rfl⟩
      go_wp2
      go_ret
      exact ⟨rfl, rfl⟩
    | false =>
      rw [if_neg (by simp)]
      have e := byt_inj (lt8_tri h1 h2)
      subst e
      have n1 : (a.toList == a.toList) = true := by simp
      clear h1 h2
      go_enter Try.func76, Try.ntmps76
      go_wp2_with fail
      with_reducible refine (q.out _ _).mono ?_
      rintro e w1 ⟨rfl, rfl⟩
      go_wp2_with fail
      with_reducible refine (q.out _ _).mono ?_
      rintro e w2 ⟨rfl, rfl⟩
      go_wp2
      go_ret
      exact ⟨rfl, rfl⟩
theorem icompare_any (a b : Int) (w : World) : Calls Try.prog 43 #[.int .i64 a, .int .i64 b] w fun e w' => e = .returned (.int .i64 (cmpZ a b)) ∧ w = w' := by
  have q := Lib.hid (fun x W => inan_any x W)
  unfold cmpZ
  by_cases h1 : a < b
  · rw [if_pos h1]
    go_enter Try.func43, Try.ntmps43
    go_wp2_with fail
    with_reducible refine (q.out _ _).mono ?_
    rintro e w1 ⟨rfl, rfl⟩
    go_wp2_with fail
    with_reducible refine (q.out _ _).mono ?_
    rintro e w2 ⟨rfl, rfl⟩
    go_wp2
    go_ret
    exact ⟨rfl, rfl⟩
  · rw [if_neg h1]
    by_cases h2 : b < a
    · rw [if_pos h2]
      go_enter Try.func43, Try.ntmps43
      go_wp2_with fail
      with_reducible refine (q.out _ _).mono ?_
      rintro e w1 ⟨rfl, rfl⟩
      go_wp2_with fail
      with_reducible refine (q.out _ _).mono ?_
      rintro e w2 ⟨rfl, rfl⟩
      go_wp2
      go_ret
      exact ⟨rfl, rfl⟩
    · rw [if_neg h2]
      go_enter Try.func43, Try.ntmps43
      go_wp2_with fail
      with_reducible refine (q.out _ _).mono ?_
      rintro e w1 ⟨rfl, rfl⟩
      go_wp2_with fail
      with_reducible refine (q.out _ _).mono ?_
      rintro e w2 ⟨rfl, rfl⟩
      go_wp2
      go_ret
      exact ⟨rfl, rfl⟩
end Go.Proofs.Ytbpaoiajfjkmfaa
namespace Go.Proofs.Ytbpaoiajfjkmfaa
open Go.RowKit Go.Sort
set_option linter.unusedVariables false
def Grows (w w' : World) : Prop := ∃ (q : Nat) (os : Array Obj), w' = grow (w.drewN q) os
theorem Grows.refl (w : World) : Grows w w := ⟨0, #[], by rw [grow_empty]; rfl⟩
theorem Grows.drewN {w w' : World} (h : Grows w w') (n : Nat) : Grows w (w'.drewN n) := by
  obtain ⟨q, os, rfl⟩ := h
  refine ⟨q + n, os, ?_⟩
  show World.drewN (grow _ _) n = _
  unfold grow World.drewN
  simp [Nat.add_assoc]
theorem Grows.drew {w w' : World} (h : Grows w w') : Grows w w'.drew := h.drewN 1
theorem Grows.trans {a b c : World} (h : Grows a b) (k : Grows b c) : Grows a c := by
  obtain ⟨q, os, rfl⟩ := k
  obtain ⟨q', os', hw⟩ := h.drewN q
  rw [hw]
  exact ⟨q', os' ++ os, grow_grow _ _ _⟩
theorem Grows.alloc {a w : World} (h : Grows a w) (o : Obj) : Grows a (w.alloc o) := h.trans ⟨0, #[o], by rw [alloc_eq_grow]; rfl⟩
theorem Grows.below {w w' : World} (h : Grows w w') : Below w.heap.size w w' := by
  obtain ⟨q, os, rfl⟩ := h
  refine ⟨rfl, rfl, rfl, ?_, fun k hk => ?_⟩
  · rw [size_grow]; exact Nat.le_add_right _ _
  · exact heap_grow_old (w.drewN q) os hk
theorem Grows.size {w w' : World} (h : Grows w w') : w.heap.size ≤ w'.heap.size := h.below.size
def GivesG (v : Value) (w : World) (e : Ending) (w' : World) : Prop := e = .returned v ∧ Grows w w'
end Go.Proofs.Ytbpaoiajfjkmfaa
namespace Go.Proofs.Ytbpaoiajfjkmfaa
open Go.RowKit
set_option linter.unusedVariables false
set_option linter.unusedSimpArgs false
theorem acm0_any (a b : AlD) (w : World) : Calls Try.prog 75 #[.agg #[.int .i64 a.kind, .int .i64 a.sev, .string a.fn, .string a.file, .int .i64 a.line, .string a.expr], .agg #[.int .i64 b.kind, .int .i64 b.sev, .string b.fn, .string b.file, .int .i64 b.line, .string b.expr]] w (GivesG (.int .i64 (cmpT a.file b.file)) w) := by
  have b0 : Hid (Grows w ((w.alloc (.cells #[.int .i64 a.kind, .int .i64 a.sev, .string a.fn, .string a.file, .int .i64 a.line, .string a.expr] 24)).alloc (.cells #[.int .i64 b.kind, .int .i64 b.sev, .string b.fn, .string b.file, .int .i64 b.line, .string b.expr] 24))) := Lib.hid (((Grows.refl w).alloc _).alloc _)
  have q := Lib.hid (fun W => scompare_any a.file b.file W)
  go_enter Try.func75, Try.ntmps75
  go_wp2_with fail
  with_reducible refine (q.out _).mono ?_
  rintro e w1 ⟨rfl, rfl⟩
  go_wp2
  go_ret
  exact ⟨rfl, b0.out⟩
theorem acm1_any (a b : AlD) (w : World) : Calls Try.prog 77 #[.agg #[.int .i64 a.kind, .int .i64 a.sev, .string a.fn, .string a.file, .int .i64 a.line, .string a.expr], .agg #[.int .i64 b.kind, .int .i64 b.sev, .string b.fn, .string b.file, .int .i64 b.line, .string b.expr]] w (GivesG (.int .i64 (cmpZ a.line b.line)) w) := by
  have b0 : Hid (Grows w ((w.alloc (.cells #[.int .i64 a.kind, .int .i64 a.sev, .string a.fn, .string a.file, .int .i64 a.line, .string a.expr] 24)).alloc (.cells #[.int .i64 b.kind, .int .i64 b.sev, .string b.fn, .string b.file, .int .i64 b.line, .string b.expr] 24))) := Lib.hid (((Grows.refl w).alloc _).alloc _)
  have q := Lib.hid (fun W => icompare_any a.line b.line W)
  go_enter Try.func77, Try.ntmps77
  go_wp2_with fail
  with_reducible refine (q.out _).mono ?_
  rintro e w1 ⟨rfl, rfl⟩
  go_wp2
  go_ret
  exact ⟨rfl, b0.out⟩
theorem acm2_any (a b : AlD) (w : World) : Calls Try.prog 78 #[.agg #[.int .i64 a.kind, .int .i64 a.sev, .string a.fn, .string a.file, .int .i64 a.line, .string a.expr], .agg #[.int .i64 b.kind, .int .i64 b.sev, .string b.fn, .string b.file, .int .i64 b.line, .string b.expr]] w (GivesG (.int .i64 (cmpT a.fn b.fn)) w) := by
  have b0 : Hid (Grows w ((w.alloc (.cells #[.int .i64 a.kind, .int .i64 a.sev, .string a.fn, .string a.file, .int .i64 a.line, .string a.expr] 24)).alloc (.cells #[.int .i64 b.kind, .int .i64 b.sev, .string b.fn, .string b.file, .int .i64 b.line, .string b.expr] 24))) := Lib.hid (((Grows.refl w).alloc _).alloc _)
  have q := Lib.hid (fun W => scompare_any a.fn b.fn W)
  go_enter Try.func78, Try.ntmps78
  go_wp2_with fail
  with_reducible refine (q.out _).mono ?_
  rintro e w1 ⟨rfl, rfl⟩
  go_wp2
  go_ret
  exact ⟨rfl, b0.out⟩
theorem acm3_any (a b : AlD) (w : World) : Calls Try.prog 79 #[.agg #[.int .i64 a.kind, .int .i64 a.sev, .string a.fn, .string a.file, .int .i64 a.line, .string a.expr], .agg #[.int .i64 b.kind, .int .i64 b.sev, .string b.fn, .string b.file, .int .i64 b.line, .string b.expr]] w (GivesG (.int .i64 (cmpZ a.kind b.kind)) w) := by
  have b0 : Hid (Grows w ((w.alloc (.cells #[.int .i64 a.kind, .int .i64 a.sev, .string a.fn, .string a.file, .int .i64 a.line, .string a.expr] 24)).alloc (.cells #[.int .i64 b.kind, .int .i64 b.sev, .string b.fn, .string b.file, .int .i64 b.line, .string b.expr] 24))) := Lib.hid (((Grows.refl w).alloc _).alloc _)
  have q := Lib.hid (fun W => icompare_any a.kind b.kind W)
  go_enter Try.func79, Try.ntmps79
  go_wp2_with fail
  with_reducible refine (q.out _).mono ?_
  rintro e w1 ⟨rfl, rfl⟩
  go_wp2
  go_ret
  exact ⟨rfl, b0.out⟩
theorem acm4_any (a b : AlD) (w : World) : Calls Try.prog 80 #[.agg #[.int .i64 a.kind, .int .i64 a.sev, .string a.fn, .string a.file, .int .i64 a.line, .string a.expr], .agg #[.int .i64 b.kind, .int .i64 b.sev, .string b.fn, .string b.file, .int .i64 b.line, .string b.expr]] w (GivesG (.int .i64 (cmpT a.expr b.expr)) w) := by
  have b0 : Hid (Grows w ((w.alloc (.cells #[.int .i64 a.kind, .int .i64 a.sev, .string a.fn, .string a.file, .int .i64 a.line, .string a.expr] 24)).alloc (.cells #[.int .i64 b.kind, .int .i64 b.sev, .string b.fn, .string b.file, .int .i64 b.line, .string b.expr] 24))) := Lib.hid (((Grows.refl w).alloc _).alloc _)
  have q := Lib.hid (fun W => scompare_any a.expr b.expr W)
  go_enter Try.func80, Try.ntmps80
  go_wp2_with fail
  with_reducible refine (q.out _).mono ?_
  rintro e w1 ⟨rfl, rfl⟩
  go_wp2
  go_ret
  exact ⟨rfl, b0.out⟩
theorem acm5_any (a b : AlD) (w : World) : Calls Try.prog 81 #[.agg #[.int .i64 a.kind, .int .i64 a.sev, .string a.fn, .string a.file, .int .i64 a.line, .string a.expr], .agg #[.int .i64 b.kind, .int .i64 b.sev, .string b.fn, .string b.file, .int .i64 b.line, .string b.expr]] w (GivesG (.int .i64 (cmpZ a.sev b.sev)) w) := by
  have b0 : Hid (Grows w ((w.alloc (.cells #[.int .i64 a.kind, .int .i64 a.sev, .string a.fn, .string a.file, .int .i64 a.line, .string a.expr] 24)).alloc (.cells #[.int .i64 b.kind, .int .i64 b.sev, .string b.fn, .string b.file, .int .i64 b.line, .string b.expr] 24))) := Lib.hid (((Grows.refl w).alloc _).alloc _)
  have q := Lib.hid (fun W => icompare_any a.sev b.sev W)
  go_enter Try.func81, Try.ntmps81
  go_wp2_with fail
  with_reducible refine (q.out _).mono ?_
  rintro e w1 ⟨rfl, rfl⟩
  go_wp2
  go_ret
  exact ⟨rfl, b0.out⟩
def cmpFs : List Nat := [75, 77, 78, 79, 80, 81]
theorem acm_any (a b : AlD) (i : Nat) (hi : i < 6) (w : World) : Calls Try.prog (cmpFs.getD i 0) #[.agg #[.int .i64 a.kind, .int .i64 a.sev, .string a.fn, .string a.file, .int .i64 a.line, .string a.expr], .agg #[.int .i64 b.kind, .int .i64 b.sev, .string b.fn, .string b.file, .int .i64 b.line, .string b.expr]] w (GivesG (.int .i64 ((keysA a b).getD i 0)) w) := by
  rcases (show i = 0 ∨ i = 1 ∨ i = 2 ∨ i = 3 ∨ i = 4 ∨ i = 5 by omega) with rfl | rfl | rfl | rfl | rfl | rfl
  · exact acm0_any a b w
  · exact acm1_any a b w
  · exact acm2_any a b w
  · exact acm3_any a b w
  · exact acm4_any a b w
  · exact acm5_any a b w
theorem acmpd_any (w : World) : Calls Try.prog 54 #[] w fun e w' => e = .returned (.slice (some ⟨w.heap.size, 0, none⟩) 6 6) ∧ w' = w.alloc (.cells #[.func (.func 75) #[] #[], .func (.func 77) #[] #[], .func (.func 78) #[] #[], .func (.func 79) #[] #[], .func (.func 80) #[] #[], .func (.func 81) #[] #[]] 43) := by
  go_enter Try.func54, Try.ntmps54
  go_wp2
  go_ret
  exact ⟨rfl, rfl⟩
set_option maxRecDepth 100000 in
set_option maxHeartbeats 4000000 in
theorem acmpg_any (a b : AlD) (w : World) : Calls Try.prog 42 #[.agg #[.int .i64 a.kind, .int .i64 a.sev, .string a.fn, .string a.file, .int .i64 a.line, .string a.expr], .agg #[.int .i64 b.kind, .int .i64 b.sev, .string b.fn, .string b.file, .int .i64 b.line, .string b.expr]] w (GivesG (.int .i64 (cmpA a b)) w) := by
  rw [cmpA_first]
  obtain ⟨u0, hu0⟩ : ∃ u0, u0 = (w.alloc (.cells #[.int .i64 a.kind, .int .i64 a.sev, .string a.fn, .string a.file, .int .i64 a.line, .string a.expr] 24)).alloc (.cells #[.int .i64 b.kind, .int .i64 b.sev, .string b.fn, .string b.file, .int .i64 b.line, .string b.expr] 24) := ⟨_, rfl⟩
  have b0 : Hid (Grows w u0) := Lib.hid (by rw [hu0]; exact ((Grows.refl w).alloc _).alloc _)
  have Z0 : Hid (Holds u0 w.heap.size 24 #[.int .i64 a.kind, .int .i64 a.sev, .string a.fn, .string a.file, .int .i64 a.line, .string a.expr]) := Lib.hid (by rw [hu0]; exact (Holds.new w _ _).alloc _)
  have Z1 : Hid (Holds u0 (w.heap.size + 1) 24 #[.int .i64 b.kind, .int .i64 b.sev, .string b.fn, .string b.file, .int .i64 b.line, .string b.expr]) := Lib.hid (by rw [hu0]; have q := Holds.new (w.alloc (.cells #[.int .i64 a.kind, .int .i64 a.sev, .string a.fn, .string a.file, .int .i64 a.line, .string a.expr] 24)) 24 #[.int .i64 b.kind, .int .i64 b.sev, .string b.fn, .string b.file, .int .i64 b.line, .string b.expr]; simpa using q)
  have hu0' := Lib.hid hu0
  clear hu0
  have qd := Lib.hid (fun W => acmpd_any W)
  have qc := Lib.hid (fun i hi W => acm_any a b i hi W)
  obtain ⟨kl, hke⟩ : ∃ kl, kl = keysA a b := ⟨_, rfl⟩
  have hkl : kl.length = 6 := by rw [hke]; rfl
  rw [← hke] at qc ⊢
  clear hke
  obtain ⟨ak, asv, af, afi, al, ax⟩ := a
  obtain ⟨bk, bsv, bf, bfi, bl, bx⟩ := b
  dsimp only at Z0 Z1 hu0' qc ⊢
  go_enter Try.func42, Try.ntmps42
  go_wp2_with fail
  rw [← hu0'.out]
  clear hu0'
  with_reducible refine (qd.out _).mono ?_
  rintro e v1 ⟨rfl, hv1⟩
  have c1 : ∀ i, i < 6 → v1.cell? ⟨u0.heap.size, i, none⟩ = some (.func (.func (cmpFs.getD i 0)) #[] #[]) := by
    intro i hi
    rw [hv1]
    have q := (Holds.new u0 43 #[.func (.func 75) #[] #[], .func (.func 77) #[] #[], .func (.func 78) #[] #[], .func (.func 79) #[] #[], .func (.func 80) #[] #[], .func (.func 81) #[] #[]]).cell i
    rw [q]
    rcases (show i = 0 ∨ i = 1 ∨ i = 2 ∨ i = 3 ∨ i = 4 ∨ i = 5 by omega) with rfl | rfl | rfl | rfl | rfl | rfl <;> rfl
  have b1 : Below u0.heap.size u0 v1 := by rw [hv1]; exact box_below _ _ _
  have b1g : Grows u0 v1 := by rw [hv1]; exact (Grows.refl u0).alloc _
  have g1 : u0.heap.size < v1.heap.size := by rw [hv1]; simp
  have C1 := Lib.hid c1
  have G1 := Lib.hid g1
  replace Z0 := Lib.hid (Z0.out.below b1 Z0.out.lt)
  replace Z1 := Lib.hid (Z1.out.below b1 Z1.out.lt)
  replace b0 := Lib.hid (b0.out.trans b1g)
  clear hv1 b1 b1g c1 g1 qd
  generalize u0.heap.size = g at *
  go_wp2
  go_loopw [10] (fun x wr => ∃ i : Nat, i ≤ 6 ∧ x = .int .i64 i ∧ Hid (∀ j, j < i → kl.getD j 0 = 0) ∧ Hid (Grows v1 wr)) (fun x _ => 6 - (intOf x).toNat)
  case atStart => exact ⟨0, by omega, rfl, Lib.hid (fun j hj => by omega), Lib.hid (Grows.refl _)⟩
  case round =>
    obtain ⟨i, hi, rfl, hz, hB⟩ := hrel
    by_cases hlt6 : i < 6
    · have hii : (i : Int) < 6 := by omega
      have hc := (hB.out.below.cell (p := ⟨g, i, none⟩) G1.out).trans (C1.out i hlt6)
      have hat := Lib.hid (fun h0 => firstN_at hz.out (show i < kl.length by omega) h0)
      have hnext : Hid (kl.getD i 0 = 0 → ∀ j, j < i + 1 → kl.getD j 0 = 0) := Lib.hid (fun h j hj => by
        by_cases e : j = i
        · rw [e]; exact h
        · exact hz.out j (by omega))
      have qi := Lib.hid (fun W => qc.out i hlt6 W)
      generalize kl.getD i 0 = v at qi hat hnext
      have hfs : cmpFs.getD i 0 = 75 ∨ cmpFs.getD i 0 = 77 ∨ cmpFs.getD i 0 = 78 ∨ cmpFs.getD i 0 = 79 ∨ cmpFs.getD i 0 = 80 ∨ cmpFs.getD i 0 = 81 := by
        rcases (show i = 0 ∨ i = 1 ∨ i = 2 ∨ i = 3 ∨ i = 4 ∨ i = 5 by omega) with rfl | rfl | rfl | rfl | rfl | rfl <;> simp [cmpFs]
      generalize cmpFs.getD i 0 = fi at hc qi hfs
      have x0 := (Z0.out.below hB.out.below Z0.out.lt).cell 0
      have x1 := (Z0.out.below hB.out.below Z0.out.lt).cell 1
      have x2 := (Z0.out.below hB.out.below Z0.out.lt).cell 2
      have x3 := (Z0.out.below hB.out.below Z0.out.lt).cell 3
      have x4 := (Z0.out.below hB.out.below Z0.out.lt).cell 4
      have x5 := (Z0.out.below hB.out.below Z0.out.lt).cell 5
      have y0 := (Z1.out.below hB.out.below Z1.out.lt).cell 0
      have y1 := (Z1.out.below hB.out.below Z1.out.lt).cell 1
      have y2 := (Z1.out.below hB.out.below Z1.out.lt).cell 2
      have y3 := (Z1.out.below hB.out.below Z1.out.lt).cell 3
      have y4 := (Z1.out.below hB.out.below Z1.out.lt).cell 4
      have y5 := (Z1.out.below hB.out.below Z1.out.lt).cell 5
      simp at x0 x1 x2 x3 x4 x5 y0 y1 y2 y3 y4 y5
      rcases hfs with rfl | rfl | rfl | rfl | rfl | rfl
      all_goals
        go_wp2_with fail
        with_reducible refine (qi.out _).mono ?_
        rintro e v2 ⟨rfl, b2⟩
        replace hB := Lib.hid (hB.out.trans b2)
        clear b2 x0 x1 x2 x3 x4 x5 y0 y1 y2 y3 y4 y5 hc qi
        by_cases h0 : v = 0
        · have hn := Lib.hid (hnext.out h0)
          subst h0
          clear hat
          go_wp2
          go_roundw
          case rel => exact ⟨i + 1, by omega, by go_num, hn, hB⟩
          case measure => simp [intOf]; omega
        · have h0' : (v == 0) = false := by rw [beq_eq_false_iff_ne]; exact h0
          have hv := Lib.hid (hat.out h0)
          clear hat hnext
          go_wp2
          go_ret
          exact ⟨by rw [hv.out]; rfl, b0.out.trans hB.out⟩
    · have hii : ¬ (i : Int) < 6 := by omega
      have hv := Lib.hid (firstN_none (l := kl) (fun j hj => hz.out j (by omega)))
      go_wp2
      go_ret
      exact ⟨by rw [hv.out]; rfl, b0.out.trans hB.out⟩
end Go.Proofs.Ytbpaoiajfjkmfaa
namespace Go.Proofs.Ytbpaoiajfjkmfaa
open Go.RowKit
set_option linter.unusedVariables false
set_option linter.unusedSimpArgs false
theorem aany_yes {α : Type} {q : α → Bool} {l : List α} {d : α} {k : Nat} (hk : k < l.length) (h : q (l.getD k d) = true) : l.any q = true := by
  rw [List.any_eq_true]
  exact ⟨l.getD k d, by simp [List.getD, hk], h⟩
theorem aany_no {α : Type} {q : α → Bool} {l : List α} (d : α) (h : ∀ t, t < l.length → q (l.getD t d) = false) : l.any q = false := by
  rw [List.any_eq_false]
  intro x hx
  obtain ⟨t, ht, rfl⟩ := List.getElem_of_mem hx
  have := h t ht
  simpa [List.getD, ht] using this
set_option maxRecDepth 100000 in
set_option maxHeartbeats 4000000 in
theorem alarge_any (l : List AlD) (a : Option Addr) (n c : Nat) (w : World) (h : RO alC w a n c l) (hW : ∀ s ∈ l, alW s) : Calls Try.prog 7 #[.slice a n c] w fun e w' => e = .returned (.bool (bigA l)) ∧ w = w' := by
  have hlen := h.len
  have hm : (n : Int) ≤ 9223372036854775807 := by have := h.max'; omega
  have hR : Hid (bigA l = (decide (100 < n) || l.any bigOne)) := Lib.hid (by unfold bigA; rw [hlen])
  have hw : Hid (∀ k, k < n → alW (l.getD k al0)) := Lib.hid (fun k hk => hW _ (by rw [hlen] at hk; simp [List.getD, hk]))
  have S := Lib.hid h
  have ys := Lib.hid (fun k (hk : k < n) h => aany_yes (q := bigOne) (l := l) (d := al0) (k := k) (by rw [← hlen]; exact hk) h)
  have ns := Lib.hid (fun (h : ∀ t, t < n → bigOne (l.getD t al0) = false) => aany_no (q := bigOne) (l := l) al0 (by rw [← hlen]; exact h))
  clear h hW hlen
  generalize bigA l = R at *
  generalize l.any bigOne = bs at *
  by_cases g0 : 100 < n
  · have ig0 : (100 : Int) < (n : Int) := by omega
    have hf : Hid (R = true) := Lib.hid (by rw [hR.out, decide_eq_true g0]; simp)
    go_enter Try.func7, Try.ntmps7
    go_wp2
    go_ret
    exact ⟨by rw [hf.out]; try rfl, rfl⟩
  have ig0 : ¬ (100 : Int) < (n : Int) := by omega
  have hR2 : Hid (R = bs) := Lib.hid (by rw [hR.out, decide_eq_false g0]; rfl)
  clear hR
  go_enter Try.func7, Try.ntmps7
  go_wp2
  go_loop [3] (fun y => ∃ k : Nat, k ≤ n ∧ y = .int .i64 k ∧ Hid (∀ t, t < k → bigOne (l.getD t al0) = false)) (fun y => n - (intOf y).toNat)
  case atStart => exact ⟨0, Nat.zero_le _, rfl, Lib.hid (fun t ht => by omega)⟩
  case round =>
    obtain ⟨k, hk, rfl, hal⟩ := hrel
    by_cases hlt : k < n
    · have hki : (k : Int) < (n : Int) := by omega
      obtain ⟨b, off, rfl, -, x0, x1, x2, x3, x4, x5⟩ := al_at S.out hlt
      obtain ⟨-, -, z2, z3, -, z5⟩ := hw.out k hlt
      have hy := Lib.hid (ys.out k hlt)
      have hn : Hid (bigOne (l.getD k al0) = false → ∀ t, t < k + 1 → bigOne (l.getD t al0) = false) := Lib.hid (fun h t ht => by
        by_cases e : t = k
        · rw [e]; exact h
        · exact hal.out t (by omega))
      clear hal ys x0 x1 x4
      have hb : Hid (∀ q, bigOne (l.getD k al0) = q ↔ (decide (300 < (l.getD k al0).fn.size) || (decide (300 < (l.getD k al0).file.size) || decide (300 < (l.getD k al0).expr.size))) = q) := Lib.hid (fun q => by unfold bigOne; exact Iff.rfl)
      generalize bigOne (l.getD k al0) = B at *
      generalize (l.getD k al0).fn = s2 at *
      generalize (l.getD k al0).file = s3 at *
      generalize (l.getD k al0).expr = s5 at *
      by_cases c2 : 300 < s2.size
      · have ic2 : (300 : Int) < (s2.size : Int) := by omega
        have hB : Hid (R = true) := Lib.hid (by rw [hR2.out]; exact hy.out ((hb.out true).2 (by simp [c2])))
        clear hb hn hy
        go_wp2
        go_ret
        exact ⟨by rw [hB.out]; try rfl, rfl⟩
      have ic2 : ¬ (300 : Int) < (s2.size : Int) := by omega
      by_cases c3 : 300 < s3.size
      · have ic3 : (300 : Int) < (s3.size : Int) := by omega
        have hB : Hid (R = true) := Lib.hid (by rw [hR2.out]; exact hy.out ((hb.out true).2 (by simp [c3])))
        clear hb hn hy
        go_wp2
        go_ret
        exact ⟨by rw [hB.out]; try rfl, rfl⟩
      have ic3 : ¬ (300 : Int) < (s3.size : Int) := by omega
      by_cases c5 : 300 < s5.size
      · have ic5 : (300 : Int) < (s5.size : Int) := by omega
        have hB : Hid (R = true) := Lib.hid (by rw [hR2.out]; exact hy.out ((hb.out true).2 (by simp [c5])))
        clear hb hn hy
        go_wp2
        go_ret
        exact ⟨by rw [hB.out]; try rfl, rfl⟩
      have ic5 : ¬ (300 : Int) < (s5.size : Int) := by omega
      have hn' := Lib.hid (hn.out ((hb.out false).2 (by simp [c2, c3, c5])))
      clear hb hn hy
      go_wp2
      go_round
      case rel => exact ⟨k + 1, by omega, by go_num, hn'⟩
      case measure => simp [intOf]; omega
    · obtain rfl : k = n := by omega
      have hki : ¬ (k : Int) < (k : Int) := by omega
      have hB : Hid (R = false) := Lib.hid (by rw [hR2.out]; exact ns.out hal.out)
      clear hal ns ys
      go_wp2
      go_ret
      exact ⟨by rw [hB.out]; try rfl, rfl⟩
end Go.Proofs.Ytbpaoiajfjkmfaa
namespace Go.Proofs.Ytbpaoiajfjkmfaa
open Go.RowKit
set_option linter.unusedVariables false
set_option linter.unusedSimpArgs false
theorem for2_any (x y : Int) (g : Nat) (w : World) (c0 : w.cell? ⟨g, 0, none⟩ = some (.int .i64 x)) (c1 : w.cell? ⟨g, 1, none⟩ = some (.int .i64 y)) :
    Calls Try.prog 41 #[.slice (some ⟨g, 0, none⟩) 2 2] w (Tells (.int .i64 (thenC x y)) w) := by
  by_cases hx : x = 0
  · subst hx
    have e : thenC 0 y = y := rfl
    rw [e]
    by_cases hy : y = 0
    · subst hy
      go_enter Try.func41, Try.ntmps41
      go_wp2
      refine wp_loop_rounds 3 ?_
      rw [rounds_succ]
      go_wp2
      rw [rounds_succ]
      go_wp2
      rw [rounds_succ]
      go_wp2
      go_ret
      exact ⟨rfl, rfl⟩
    · have hy' : (y == 0) = false := by rw [beq_eq_false_iff_ne]; exact hy
      go_enter Try.func41, Try.ntmps41
      go_wp2
      refine wp_loop_rounds 3 ?_
      rw [rounds_succ]
      go_wp2
      rw [rounds_succ]
      go_wp2
      go_ret
      exact ⟨rfl, rfl⟩
  · have e : thenC x y = x := if_neg hx
    have hx' : (x == 0) = false := by rw [beq_eq_false_iff_ne]; exact hx
    rw [e]
    clear e hx
    go_enter Try.func41, Try.ntmps41
    go_wp2
    refine wp_loop_rounds 3 ?_
    rw [rounds_succ]
    go_wp2
    go_ret
    exact ⟨rfl, rfl⟩
set_option maxRecDepth 100000 in
set_option maxHeartbeats 4000000 in
theorem fcl_any (l : List AlD) (a : Option Addr) (n c Bl : Nat) (u0 : World) (h : RO alC u0 a n c l) (hbox : u0.cell? ⟨Bl, 0, none⟩ = some (.slice a n c)) (hBl : Bl < u0.heap.size) (i j : Nat) (hi : i < n) (hj : j < n) :
    Calls Try.prog 40 #[.int .i64 i, .int .i64 j, .pointer (some ⟨Bl, 0, none⟩)] u0 (GivesG (.int .i64 (thenC (cmpA (l.getD i al0) (l.getD j al0)) (cmpZ (i : Int) (j : Int)))) u0) := by
  have q1 := Lib.hid (fun W => acmpg_any (l.getD i al0) (l.getD j al0) W)
  have q2 := Lib.hid (fun W => icompare_any (i : Int) (j : Int) W)
  have q3 := Lib.hid (fun (g : Nat) (W : World) c0 c1 => for2_any (cmpA (l.getD i al0) (l.getD j al0)) (cmpZ (i : Int) (j : Int)) g W c0 c1)
  have yb : ∀ W, Grows u0 W → W.cell? ⟨Bl, 0, none⟩ = some (.slice a n c) := fun W hW => (hW.below.cell (p := ⟨Bl, 0, none⟩) hBl).trans hbox
  have hii : (i : Int) < (n : Int) := by omega
  have hjj : (j : Int) < (n : Int) := by omega
  have hm : (n : Int) ≤ 9223372036854775807 := by have := h.max'; omega
  obtain ⟨b, off, rfl, hB, x0, x1, x2, x3, x4, x5⟩ := al_at h hi
  obtain ⟨b', off', hbb, -, z0, z1, z2, z3, z4, z5⟩ := al_at h hj
  injection hbb with hbb
  injection hbb with hb1 hb2
  subst hb1 hb2
  have hRO := Lib.hid h
  clear h
  have p0 : ∀ W, Grows u0 W → W.cell? ⟨b, off + i * 6, none⟩ = some (.int .i64 (l.getD i al0).kind) := fun W hW => (hW.below.cell (p := ⟨b, off + i * 6, none⟩) hB).trans x0
  have p1 : ∀ W, Grows u0 W → W.cell? ⟨b, off + i * 6 + 1, none⟩ = some (.int .i64 (l.getD i al0).sev) := fun W hW => (hW.below.cell (p := ⟨b, off + i * 6 + 1, none⟩) hB).trans x1
  have p2 : ∀ W, Grows u0 W → W.cell? ⟨b, off + i * 6 + 2, none⟩ = some (.string (l.getD i al0).fn) := fun W hW => (hW.below.cell (p := ⟨b, off + i * 6 + 2, none⟩) hB).trans x2
  have p3 : ∀ W, Grows u0 W → W.cell? ⟨b, off + i * 6 + 3, none⟩ = some (.string (l.getD i al0).file) := fun W hW => (hW.below.cell (p := ⟨b, off + i * 6 + 3, none⟩) hB).trans x3
  have p4 : ∀ W, Grows u0 W → W.cell? ⟨b, off + i * 6 + 4, none⟩ = some (.int .i64 (l.getD i al0).line) := fun W hW => (hW.below.cell (p := ⟨b, off + i * 6 + 4, none⟩) hB).trans x4
  have p5 : ∀ W, Grows u0 W → W.cell? ⟨b, off + i * 6 + 5, none⟩ = some (.string (l.getD i al0).expr) := fun W hW => (hW.below.cell (p := ⟨b, off + i * 6 + 5, none⟩) hB).trans x5
  have r0 : ∀ W, Grows u0 W → W.cell? ⟨b, off + j * 6, none⟩ = some (.int .i64 (l.getD j al0).kind) := fun W hW => (hW.below.cell (p := ⟨b, off + j * 6, none⟩) hB).trans z0
  have r1 : ∀ W, Grows u0 W → W.cell? ⟨b, off + j * 6 + 1, none⟩ = some (.int .i64 (l.getD j al0).sev) := fun W hW => (hW.below.cell (p := ⟨b, off + j * 6 + 1, none⟩) hB).trans z1
  have r2 : ∀ W, Grows u0 W → W.cell? ⟨b, off + j * 6 + 2, none⟩ = some (.string (l.getD j al0).fn) := fun W hW => (hW.below.cell (p := ⟨b, off + j * 6 + 2, none⟩) hB).trans z2
  have r3 : ∀ W, Grows u0 W → W.cell? ⟨b, off + j * 6 + 3, none⟩ = some (.string (l.getD j al0).file) := fun W hW => (hW.below.cell (p := ⟨b, off + j * 6 + 3, none⟩) hB).trans z3
  have r4 : ∀ W, Grows u0 W → W.cell? ⟨b, off + j * 6 + 4, none⟩ = some (.int .i64 (l.getD j al0).line) := fun W hW => (hW.below.cell (p := ⟨b, off + j * 6 + 4, none⟩) hB).trans z4
  have r5 : ∀ W, Grows u0 W → W.cell? ⟨b, off + j * 6 + 5, none⟩ = some (.string (l.getD j al0).expr) := fun W hW => (hW.below.cell (p := ⟨b, off + j * 6 + 5, none⟩) hB).trans z5
  clear x0 x1 x2 x3 x4 x5 z0 z1 z2 z3 z4 z5 hbox
  generalize cmpA (l.getD i al0) (l.getD j al0) = k1 at *
  generalize cmpZ (i : Int) (j : Int) = k2 at *
  generalize thenC k1 k2 = kk at *
  generalize l.getD i al0 = A at *
  generalize l.getD j al0 = B at *
  obtain ⟨ak, asv, af, afi, al, ax⟩ := A
  obtain ⟨bk, bsv, bf, bfi, bl, bx⟩ := B
  dsimp only at *
  go_enter Try.func40, Try.ntmps40
  go_wp2
  refine wp_drawn_on (fun W => Grows u0 W) (by kernel_rfl) ((Grows.refl _).drew) (fun hHeld => ?_)
  refine wpAnyH_take (i := 0) (oi := { dst := some 6, op := Go.Op.load 22 (Go.Operand.tmp 2), type := 22, pos := "finger.go:47", after := #[], guard := none }) (v := ?v1) rfl (by kernel_rfl) (by kernel_rfl) (by kernel_rfl) (fun _ _ _ h => h) (Or.inl ⟨by kernel_rfl, ?h1⟩) (by assumption) ?r1
  case h1 => (intro w hSw; (try dsimp only at hSw); go_simp; try with_reducible rfl)
  try simp only [Act.put, List.setIfInBounds_toArray, List.set_cons_zero, List.set_cons_succ]
  refine wpAnyH_take (i := 1) (oi := { dst := some 7, op := Go.Op.move (Go.Operand.tmp 0), type := 3, pos := "finger.go:47", after := #[], guard := none }) (v := ?v2) rfl (by kernel_rfl) (by kernel_rfl) (by kernel_rfl) (fun _ _ _ h => h) (Or.inl ⟨by kernel_rfl, ?h2⟩) (by assumption) ?r2
  case h2 => (intro w hSw; (try dsimp only at hSw); go_simp; try with_reducible rfl)
  try simp only [Act.put, List.setIfInBounds_toArray, List.set_cons_zero, List.set_cons_succ]
  refine wpAnyH_take (i := 2) (oi := { dst := some 8, op := Go.Op.indexAddr 22 (Go.Operand.tmp 6) (Go.Operand.tmp 7), type := 0, pos := "finger.go:47", after := #[{ on := 0, ground := Go.Ground.data }, { on := 1, ground := Go.Ground.data }], guard := none }) (v := ?v3) rfl (by kernel_rfl) (by kernel_rfl) (by kernel_rfl) (fun _ _ _ h => h) (Or.inl ⟨by kernel_rfl, ?h3⟩) (by assumption) ?r3
  case h3 => (intro w hSw; (try dsimp only at hSw); go_simp; try with_reducible rfl)
  try simp only [Act.put, List.setIfInBounds_toArray, List.set_cons_zero, List.set_cons_succ]
  refine wpAnyH_take (i := 3) (oi := { dst := some 9, op := Go.Op.load 24 (Go.Operand.tmp 8), type := 24, pos := "finger.go:47", after := #[{ on := 2, ground := Go.Ground.data }], guard := none }) (v := ?v4) rfl (by kernel_rfl) (by kernel_rfl) (by kernel_rfl) (fun _ _ _ h => h) (Or.inl ⟨by kernel_rfl, ?h4⟩) (by assumption) ?r4
  case h4 => (intro w hSw; (try dsimp only at hSw); go_simp; try with_reducible rfl)
  try simp only [Act.put, List.setIfInBounds_toArray, List.set_cons_zero, List.set_cons_succ]
  refine wpAnyH_take (i := 4) (oi := { dst := some 10, op := Go.Op.load 22 (Go.Operand.tmp 2), type := 22, pos := "finger.go:47", after := #[], guard := none }) (v := ?v5) rfl (by kernel_rfl) (by kernel_rfl) (by kernel_rfl) (fun _ _ _ h => h) (Or.inl ⟨by kernel_rfl, ?h5⟩) (by assumption) ?r5
  case h5 => (intro w hSw; (try dsimp only at hSw); go_simp; try with_reducible rfl)
  try simp only [Act.put, List.setIfInBounds_toArray, List.set_cons_zero, List.set_cons_succ]
  refine wpAnyH_take (i := 5) (oi := { dst := some 11, op := Go.Op.move (Go.Operand.tmp 1), type := 3, pos := "finger.go:47", after := #[], guard := none }) (v := ?v6) rfl (by kernel_rfl) (by kernel_rfl) (by kernel_rfl) (fun _ _ _ h => h) (Or.inl ⟨by kernel_rfl, ?h6⟩) (by assumption) ?r6
  case h6 => (intro w hSw; (try dsimp only at hSw); go_simp; try with_reducible rfl)
  try simp only [Act.put, List.setIfInBounds_toArray, List.set_cons_zero, List.set_cons_succ]
  refine wpAnyH_take (i := 6) (oi := { dst := some 12, op := Go.Op.indexAddr 22 (Go.Operand.tmp 10) (Go.Operand.tmp 11), type := 0, pos := "finger.go:47", after := #[{ on := 4, ground := Go.Ground.data }, { on := 5, ground := Go.Ground.data }], guard := none }) (v := ?v7) rfl (by kernel_rfl) (by kernel_rfl) (by kernel_rfl) (fun _ _ _ h => h) (Or.inl ⟨by kernel_rfl, ?h7⟩) (by assumption) ?r7
  case h7 => (intro w hSw; (try dsimp only at hSw); go_simp; try with_reducible rfl)
  try simp only [Act.put, List.setIfInBounds_toArray, List.set_cons_zero, List.set_cons_succ]
  refine wpAnyH_take (i := 7) (oi := { dst := some 13, op := Go.Op.load 24 (Go.Operand.tmp 12), type := 24, pos := "finger.go:47", after := #[{ on := 6, ground := Go.Ground.data }], guard := none }) (v := ?v8) rfl (by kernel_rfl) (by kernel_rfl) (by kernel_rfl) (fun _ _ _ h => h) (Or.inl ⟨by kernel_rfl, ?h8⟩) (by assumption) ?r8
  case h8 => (intro w hSw; (try dsimp only at hSw); go_simp; try with_reducible rfl)
  try simp only [Act.put, List.setIfInBounds_toArray, List.set_cons_zero, List.set_cons_succ]
  refine wpAnyH_take (i := 9) (oi := { dst := some 15, op := Go.Op.move (Go.Operand.tmp 0), type := 3, pos := "finger.go:47", after := #[], guard := none }) (v := ?v9) rfl (by kernel_rfl) (by kernel_rfl) (by kernel_rfl) (fun _ _ _ h => h) (Or.inl ⟨by kernel_rfl, ?h9⟩) (by assumption) ?r9
  case h9 => (intro w hSw; (try dsimp only at hSw); go_simp; try with_reducible rfl)
  try simp only [Act.put, List.setIfInBounds_toArray, List.set_cons_zero, List.set_cons_succ]
  refine wpAnyH_take (i := 10) (oi := { dst := some 16, op := Go.Op.move (Go.Operand.tmp 1), type := 3, pos := "finger.go:47", after := #[], guard := none }) (v := ?v10) rfl (by kernel_rfl) (by kernel_rfl) (by kernel_rfl) (fun _ _ _ h => h) (Or.inl ⟨by kernel_rfl, ?h10⟩) (by assumption) ?r10
  case h10 => (intro w hSw; (try dsimp only at hSw); go_simp; try with_reducible rfl)
  try simp only [Act.put, List.setIfInBounds_toArray, List.set_cons_zero, List.set_cons_succ]
  refine wpAnyH_ready (rs := [8]) (by kernel_rfl) (by simp) ?_
  refine AllReadyH.cons (o := { dst := some 14, op := Go.Op.call { callee := Go.Callee.value (Go.Operand.func 42), args := #[Go.Operand.tmp 9, Go.Operand.tmp 13], argTypes := #[24, 24] }, type := 3, pos := "finger.go:47", after := #[{ on := 3, ground := Go.Ground.data }, { on := 7, ground := Go.Ground.data }], guard := none }) rfl (fun K hK => ?_) AllReadyH.nil
  go_simp
  with_reducible refine (q1.out _).mono ?_
  rintro e v1 ⟨rfl, b1⟩
  go_simp
  refine hK.out _ _ (hHeld.trans b1) (fun hHeld => ?_)
  clear hK K
  try simp only [Act.put, List.setIfInBounds_toArray, List.set_cons_zero, List.set_cons_succ]
  refine wpAnyH_ready (rs := [11]) (by kernel_rfl) (by simp) ?_
  refine AllReadyH.cons (o := { dst := some 17, op := Go.Op.call { callee := Go.Callee.value (Go.Operand.func 43), args := #[Go.Operand.tmp 15, Go.Operand.tmp 16], argTypes := #[3, 3] }, type := 3, pos := "finger.go:47", after := #[{ on := 9, ground := Go.Ground.data }, { on := 10, ground := Go.Ground.data }, { on := 8, ground := Go.Ground.chain }], guard := none }) rfl (fun K hK => ?_) AllReadyH.nil
  go_simp
  with_reducible refine (q2.out _).mono ?_
  rintro e w2 ⟨rfl, rfl⟩
  go_simp
  refine hK.out _ _ (hHeld) (fun hHeld => ?_)
  clear hK K
  try simp only [Act.put, List.setIfInBounds_toArray, List.set_cons_zero, List.set_cons_succ]
  refine wpAnyH_ready (rs := [12]) (by kernel_rfl) (by simp) ?_
  refine AllReadyH.cons (o := { dst := some 18, op := Go.Op.buildSlice 27 2 #[(0, Go.Operand.tmp 14), (1, Go.Operand.tmp 17)], type := 27, pos := "finger.go:47", after := #[{ on := 8, ground := Go.Ground.data }, { on := 11, ground := Go.Ground.data }], guard := none }) rfl (fun K hK => ?_) AllReadyH.nil
  go_simp
  obtain ⟨v12, hv12⟩ : ∃ v12, v12 = v1.alloc (.cells #[.int .i64 k1, .int .i64 k2] 3) := ⟨_, rfl⟩
  have hx12 : Grows v1 v12 := (by rw [hv12]; exact (Grows.refl _).alloc _)
  have q4 := Lib.hid (q3.out v1.heap.size v12 (by rw [hv12]; exact (Holds.new v1 3 #[.int .i64 k1, .int .i64 k2]).cell 0) (by rw [hv12]; exact (Holds.new v1 3 #[.int .i64 k1, .int .i64 k2]).cell 1))
  rw [← hv12]
  clear hv12
  refine hK.out _ _ (hHeld.trans hx12) (fun hHeld => ?_)
  clear hK K
  try simp only [Act.put, List.setIfInBounds_toArray, List.set_cons_zero, List.set_cons_succ]
  refine wpAnyH_ready (rs := [13]) (by kernel_rfl) (by simp) ?_
  refine AllReadyH.cons (o := { dst := some 19, op := Go.Op.call { callee := Go.Callee.value (Go.Operand.func 41), args := #[Go.Operand.tmp 18], argTypes := #[27] }, type := 3, pos := "finger.go:47", after := #[{ on := 12, ground := Go.Ground.data }, { on := 11, ground := Go.Ground.chain }], guard := none }) rfl (fun K hK => ?_) AllReadyH.nil
  go_simp
  with_reducible refine q4.out.mono ?_
  rintro e w2 ⟨rfl, rfl⟩
  go_simp
  refine hK.out _ _ (hHeld) (fun hHeld => ?_)
  clear hK K
  try simp only [Act.put, List.setIfInBounds_toArray, List.set_cons_zero, List.set_cons_succ]
  refine wpAnyH_take (i := 14) (oi := { dst := some 5, op := Go.Op.assign (Go.Operand.tmp 19), type := 3, pos := "finger.go:47", after := #[{ on := 13, ground := Go.Ground.data }, { on := 13, ground := Go.Ground.chain }, { on := 0, ground := Go.Ground.phase }, { on := 1, ground := Go.Ground.phase }, { on := 2, ground := Go.Ground.phase }, { on := 3, ground := Go.Ground.phase }, { on := 4, ground := Go.Ground.phase }, { on := 5, ground := Go.Ground.phase }, { on := 6, ground := Go.Ground.phase }, { on := 7, ground := Go.Ground.phase }, { on := 8, ground := Go.Ground.phase }, { on := 9, ground := Go.Ground.phase }, { on := 10, ground := Go.Ground.phase }, { on := 11, ground := Go.Ground.phase }, { on := 12, ground := Go.Ground.phase }, { on := 13, ground := Go.Ground.phase }], guard := none }) (v := ?v11) rfl (by kernel_rfl) (by kernel_rfl) (by kernel_rfl) (fun _ _ _ h => h) (Or.inl ⟨by kernel_rfl, ?h11⟩) (by assumption) ?r11
  case h11 => (intro w hSw; (try dsimp only at hSw); go_simp; try with_reducible rfl)
  try simp only [Act.put, List.setIfInBounds_toArray, List.set_cons_zero, List.set_cons_succ]
  refine wpAnyH_done (by kernel_rfl) ?_ _
  have hG := Lib.hid hHeld
  clear hHeld
  go_wp2
  go_ret
  exact ⟨rfl, hG.out⟩
theorem sort_belowE {α : Type} [Inhabited α] (enc : α → Value) (w : World) (g off m : Nat) (d : Array α) (os : Array Obj) : BelowE [g] w.heap.size w (sortWorld enc w g off m d os) := by
  unfold sortWorld
  refine ⟨rfl, rfl, rfl, ?_, fun k hk hx => ?_⟩
  · rw [Go.Sort.size_grow]
    simp [Go.Sort.putRow, Go.Sort.mapBlock, Go.Sort.ahead]
  · rw [Go.Sort.heap_grow_old]
    · have hne : g ≠ k := fun e => hx (by simp [e])
      simp [Go.Sort.putRow, Go.Sort.mapBlock, Go.Sort.ahead, Array.getElem?_modify, hne]
    · simpa [Go.Sort.putRow, Go.Sort.mapBlock, Go.Sort.ahead] using hk
set_option maxHeartbeats 1000000 in
theorem fsort_any (l : List AlD) (a : Option Addr) (n c g Bl : Nat) (w0 w : World) (h0 : RO alC w0 a n c l) (hb : Below w0.heap.size w0 w) (hg : w0.heap.size ≤ g) (hgl : g < w.heap.size) (hBl : Bl < w.heap.size) (hne : Bl ≠ g)
    (hbox : w.cell? ⟨Bl, 0, none⟩ = some (.slice a n c)) (hrow : ∀ j, j < n → w.cell? ⟨g, j, none⟩ = some (.int .i64 (j : Int)) ∧ w.frozen? ⟨g, j, none⟩ = false) (hn : n < 4611686018427387904) :
    Calls Try.prog 39 #[.slice (some ⟨g, 0, none⟩) n n, .func (.func 40) #[] #[.pointer (some ⟨Bl, 0, none⟩)]] w fun e w' =>
      e = .returned (.tuple #[]) ∧ BelowE [g] w.heap.size w w' ∧ ∀ j, j < n → w'.cell? ⟨g, j, none⟩ = some (.int .i64 ((placesF l al0 n).getD j 0 : Nat)) := by
  by_cases hn0 : n = 0
  · subst hn0
    refine (Try.slices_SortFunc_none (α := Nat) _ 0 _ w).mono ?_
    rintro e w' ⟨rfl, rfl⟩
    exact ⟨rfl, BelowE.refl _ _ _, fun j hj => by omega⟩
  haveI : Inhabited (Fin n) := ⟨⟨0, by omega⟩⟩
  have eg : ∀ args w, (callFunc 40 args).run Try.prog w = .ok (.enter 40 args) w := enters_of Try.func40 (by kernel_rfl) rfl
  have hfs : (List.finRange n).toArray.size = n := by simp
  have hcmp : CmpLays1 Try.prog 40 #[.pointer (some ⟨Bl, 0, none⟩)] (fun i : Fin n => Value.int .i64 (i.val : Int)) (cfF l al0 n) g 0 (List.finRange n).toArray.size w := by
    intro m os dk hs x y
    have hE := sort_belowE (fun i : Fin n => Value.int .i64 (i.val : Int)) w g 0 m dk os
    have hb1 : Below w0.heap.size w0 (sortWorld (fun i : Fin n => Value.int .i64 (i.val : Int)) w g 0 m dk os) := hb.trans ((hE.mono hb.size).toBelow (by intro x hx; simp at hx; omega))
    have hx1 : (sortWorld (fun i : Fin n => Value.int .i64 (i.val : Int)) w g 0 m dk os).cell? ⟨Bl, 0, none⟩ = some (.slice a n c) := (hE.cell (p := ⟨Bl, 0, none⟩) hBl (by simpa using hne)).trans hbox
    have q := fcl_any l a n c Bl _ (h0.below hb1) hx1 (Nat.lt_of_lt_of_le hBl hE.size) x.val y.val x.isLt y.isLt
    exact q.mono fun e w' h => h
  have hH : Go.Sort.Holds (fun i : Fin n => Value.int .i64 (i.val : Int)) w g 0 (List.finRange n).toArray := by
    intro j hj
    rw [hfs] at hj
    have e : (List.finRange n).toArray[j]! = ⟨j, hj⟩ := by
      rw [getElem!_pos _ j (by simpa using hj)]
      simp
    rw [e, Nat.zero_add]
    exact hrow j hj
  have hS := Try.slices_SortFunc_total (fun i : Fin n => Value.int .i64 (i.val : Int)) (fun _ => rfl) (cfF l al0 n) (cmF l al0 n).swo 40 #[.pointer (some ⟨Bl, 0, none⟩)] g 0 n (List.finRange n).toArray w eg hcmp hH hgl (by rw [hfs]; exact hn) (cmF l al0 n).tot
  rw [hfs] at hS
  refine hS.mono ?_
  rintro e w' ⟨rfl, m, os, rfl⟩
  refine ⟨rfl, sort_belowE _ w g 0 m _ os, fun j hj => ?_⟩
  unfold sortWorld
  rw [Go.Sort.cell?_grow _ _ _ (by simpa [Go.Sort.putRow, Go.Sort.mapBlock, Go.Sort.ahead] using hgl)]
  have hH2 := Go.Sort.holds_putRow (fun i : Fin n => Value.int .i64 (i.val : Int)) (Go.Sort.ahead w m) g 0 (List.finRange n).toArray ((List.finRange n).mergeSort fun x y => !(ltOf (cfF l al0 n)) y x).toArray hH (by simp)
  have hj2 : j < ((List.finRange n).mergeSort fun x y => !(ltOf (cfF l al0 n)) y x).length := by simpa using hj
  have q := (hH2 j (by simpa using hj)).1
  rw [Nat.zero_add] at q
  simp only [List.toList_toArray]
  rw [q, getElem!_pos _ j (by simpa using hj)]
  congr 2
  simp [placesF, List.getD, hj]
end Go.Proofs.Ytbpaoiajfjkmfaa
namespace Go.Proofs.Ytbpaoiajfjkmfaa
open Go.RowKit
set_option linter.unusedVariables false
set_option linter.unusedSimpArgs false
theorem keyL_bs (k : Int) (f : ByteArray) {x : List Int} (hx : Bs x) : Bs (keyL k f x) := by
  intro c hc
  simp only [keyL, List.mem_append] at hc
  rcases hc with hc | (hc | hc) | hc | hc
  · exact leb_bytes _ c hc
  · exact leb_bytes _ c hc
  · exact codes_bs f c hc
  · exact leb_bytes _ c hc
  · exact hx c hc
theorem keyL_len (k : Int) (hk : (Lit.int .i64 k).wf = true) (f : ByteArray) (hf : f.size ≤ 1000) {x : List Int} (hx : x.length ≤ 1000) : (keyL k f x).length ≤ 100000 := by
  have := i64_wf hk
  have h1 := leb_len64 (n := (max k 0).toNat) (by omega)
  have h2 := leb_len64 (n := f.size) (by omega)
  have h3 := leb_len64 (n := x.length) (by omega)
  have h4 := codes_length f
  simp only [keyL, List.length_append]; omega
end Go.Proofs.Ytbpaoiajfjkmfaa
namespace Go.Proofs.Ytbpaoiajfjkmfaa
open Go.RowKit
set_option linter.unusedVariables false
theorem run_storeCells_atT (P : Program) (g o : Nat) (t : TypeId) (fz : Nat × Nat) : ∀ (vs : List Value) (i : Nat) (cur : Array Value) (w : World), w.heap[g]? = some (.cells cur t fz) → o + i + vs.length ≤ fz.1 → o + i + vs.length ≤ cur.size → (∀ v ∈ vs, v.oneCell' = true) →
    (storeCells ⟨g, o, none⟩ vs i).run P w = .ok () (w.setRow g (cur.toList.take (o + i) ++ vs ++ cur.toList.drop (o + i + vs.length)).toArray)
  | [], i, cur, w, hg, _, _, _ => by
    simp only [storeCells, List.append_nil, List.length_nil, Nat.add_zero, List.take_append_drop, Array.toArray_toList]
    rw [setRow_self w g cur t fz hg]
    rfl
  | v :: rest, i, cur, w, hg, hfz, hl, h1 => by
    have hi : o + i < cur.size := by simp at hl; omega
    have hadd : (⟨g, o, none⟩ : Addr).add i = ⟨g, o + i, none⟩ := by unfold Addr.add; split <;> simp_all
    have hcell : w.cell? ⟨g, o + i, none⟩ = some cur[o + i] := by simp [World.cell?, hg, hi]
    have hfro : w.frozen? ⟨g, o + i, none⟩ = false := by
      obtain ⟨lo, hi'⟩ := fz
      simp only [World.frozen?, hg, Bool.and_eq_false_iff, decide_eq_false_iff_not]
      left
      simp only [List.length_cons] at hfz
      omega
    have hst : (store ((⟨g, o, none⟩ : Addr).add i) v).run P w = .ok () (w.setRow g (cur.setIfInBounds (o + i) v)) := by
      rw [hadd, run_store P w _ v _ (h1 v (by simp)), hcell]
      simp [hfro, setCell_eq_setRow w g (o + i) cur t fz v hg]
    have ih := run_storeCells_atT P g o t fz rest (i + 1) (cur.setIfInBounds (o + i) v) (w.setRow g (cur.setIfInBounds (o + i) v)) (setRow_heap w g cur _ t _ hg) (by simp at hfz ⊢; omega) (by simp at hl ⊢; omega) (fun x hx => h1 x (by simp [hx]))
    simp only [storeCells, Sem.run_bind, hst, Result.andThen_ok, ih, setRow_setRow]
    congr 3
    have e := list_seg_step cur.toList (o + i) v rest (by simp at hl ⊢; omega)
    simpa [Array.toList_setIfInBounds, Nat.add_assoc] using e
def TailR (base : Nat) (w : World) (e : TypeId) (g n c : Nat) (l : List Int) : Prop :=
  ∃ cur fz, base ≤ g ∧ w.heap[g]? = some (.cells cur e fz) ∧ c ≤ fz.1 ∧ n = l.length ∧ n ≤ c ∧ cur.size = c ∧ cur.toList.take n = nums .u8 l
theorem TailR.below {base : Nat} {w w' : World} {e : TypeId} {g n c : Nat} {l : List Int} (h : TailR base w e g n c l) (hb : Below w.heap.size w w') : TailR base w' e g n c l := by
  obtain ⟨cur, fz, h1, h2, h3⟩ := h
  exact ⟨cur, fz, h1, (hb.block g (Array.getElem?_eq_some_iff.1 h2).1).trans h2, h3⟩
theorem TailR.cells {base : Nat} {w : World} {e : TypeId} {g n c : Nat} {l : List Int} (h : TailR base w e g n c l) : ∀ j u, (nums .u8 l)[j]? = some u → w.cell? ((⟨g, 0, none⟩ : Addr).add j) = some u := by
  intro j u hu
  obtain ⟨cur, fz, _, h2, _, hn, hnc, hcs, htake⟩ := h
  have hadd : (⟨g, 0, none⟩ : Addr).add j = ⟨g, j, none⟩ := by unfold Addr.add; split <;> simp_all
  rw [hadd, cell_of_row w g j cur e fz h2]
  rw [← htake, List.getElem?_take] at hu
  split at hu
  · simpa using hu
  · cases hu
theorem run_bytes_tail {P : Program} (w : World) (src dst e : TypeId) (s : ByteArray) (hs : P.underlying src = some .string) (hd : P.underlying dst = some (.slice e)) (he : P.underlying e = some (.int .u8)) :
    ∃ c w', (convert src dst (.string s)).run P w = .ok (.slice (some ⟨w.heap.size, 0, none⟩) s.size c) w' ∧ TailR w.heap.size w' e w.heap.size s.size c (codes s) ∧ Below w.heap.size w w' ∧ w'.heap.size = w.heap.size + 1 := by
  refine ⟨_, _, Lib.run_convert_string_bytes w src dst e s hs hd he, ⟨_, _, Nat.le_refl _, Lib.bytesWorld_at_new w e s, ?_, (codes_length s).symm, grownCap_ge _ _ _ _, ?_, ?_⟩, ⟨rfl, rfl, rfl, by rw [Lib.bytesWorld_size]; omega, fun k hk => Lib.bytesWorld_at_old w e s k hk⟩, Lib.bytesWorld_size w e s⟩
  · have := grownCap_ge w s.size 0 e
    simp [Lib.bytesCells]
    have e1 : s.data.size = s.size := rfl
    omega
  · have := grownCap_ge w s.size 0 e
    simp [Lib.bytesCells]
    have e1 : s.data.size = s.size := rfl
    omega
  · have e1 : s.data.toList.length = s.size := rfl
    simp only [Lib.bytesCells, Array.toList_append, Array.toList_map]
    rw [List.take_append_of_le_length (by simp <;> omega), List.take_of_length_le (by simp <;> omega)]
    simp [nums, codes]
theorem wpList_append_tail {P : Program} {w0 w : World} {ops : Array Oper} {rest : List Oper} {o : Oper} {a : Act} {Q : Exit → Act → World → Prop}
    (hg : o.guard = none) (s x : Operand) (t : TypeId) (hop : o.op = Op.call { callee := Callee.builtin Builtin.append, args := #[s, x], argTypes := #[t, t] })
    (e : TypeId) (i : TypeInfo) (ht : P.underlying t = some (.slice e)) (hi : P.info? e = some i) (hz : i.zero = some (.int .u8 0)) (hsize : i.size = 1) (hby : i.bytes = 1)
    (g n cap : Nat) (l : List Int) (hown : TailR w0.heap.size w e g n cap l) (hb : Below w0.heap.size w0 w)
    (ad : Addr) (r : List Int) (m c : Nat) (hm : m = r.length) (hse : Sees .u8 w.heap.size w (some ad) r)
    (hsv : a.eval s = .slice (some ⟨g, 0, none⟩) n cap) (hx : a.eval x = .slice (some ad) m c) (hn : l.length + r.length ≤ 140737488355328)
    (hK : ∀ a' c' w', Sees .u8 w'.heap.size w' a' (l ++ r) → Below w0.heap.size w0 w' → wpList P ops Q rest (a.put o.dst (.slice a' (l ++ r).length c')) w') : wpList P ops Q (o :: rest) a w := by
  have hnews : ∀ j u, (nums .u8 r)[j]? = some u → w.cell? (ad.add j) = some u := by
    intro j u hj
    have hjl : j < r.length := by have := (List.getElem?_eq_some_iff.1 hj).1; simpa [nums] using this
    rcases hse with rfl | ⟨b, off, ha, _, hc⟩
    · simp at hjl
    · injection ha with ha
      subst ha
      have h2 : (⟨b, off, none⟩ : Addr).add j = ⟨b, off + j, none⟩ := by unfold Addr.add; split <;> simp_all
      rw [h2, hc j hjl]
      simp [nums, hjl] at hj
      simp [List.getD, hjl, hj]
  have h1c : ∀ u ∈ nums .u8 r, u.oneCell' = true := by
    intro u hu
    obtain ⟨y, _, rfl⟩ := List.mem_map.1 hu
    rfl
  have hlen : (l ++ r).length = n + m := by obtain ⟨_, _, _, _, _, h, _⟩ := hown; rw [List.length_append, h, hm]
  by_cases hroom : n + m ≤ cap
  · obtain ⟨cur, fz, hbg, hgg, hfz, hnl, hnc, hcs, htake⟩ := hown
    have hf := run_firstCells_some (P := P) w i.size m ad m c (nums .u8 r) (by rw [hsize, hm]; simp [nums]) hnews
    have hst := run_storeCells_atT P g n e fz (nums .u8 r) 0 cur w hgg (by simp [nums] <;> omega) (by simp [nums] <;> omega) h1c
    simp only [Nat.add_zero] at hst
    have hr : (Builtin.append_ #[t, t] o.type #[.slice (some ⟨g, 0, none⟩) n cap, .slice (some ad) m c]).run P w = .ok (.slice (some ⟨g, 0, none⟩) (n + m) cap) (w.setRow g (cur.toList.take n ++ nums .u8 r ++ cur.toList.drop (n + (nums .u8 r).length)).toArray) := by
      rw [hsize] at hf
      simp [Builtin.append_, run_underlying ht, sizeOf, typeInfo, hi, hsize, Builtin.lenOf, hroom, Addr.add_lit, hf, hst]
    refine wpList_plain hg fun K hK' => ?_
    unfold Oper.wp
    simp [execOp, hop, resolve, invoke, builtin, hsv, hx, hr, Result.andThen]
    rw [← hlen]
    refine hK' _ _ (hK _ _ _ ?_ ?_)
    · refine .inr ⟨g, 0, rfl, by simpa using (Array.getElem?_eq_some_iff.1 hgg).1, fun j hj => ?_⟩
      rw [cell_of_row _ g _ _ e fz (setRow_heap w g cur _ e fz hgg)]
      simp only [List.getElem?_toArray, Nat.zero_add, htake]
      have e2 : nums .u8 l ++ nums .u8 r = nums .u8 (l ++ r) := by simp [nums]
      rw [← List.append_assoc, e2, List.getElem?_append_left (by simp only [nums, List.length_map]; exact hj)]
      generalize l ++ r = L at hj ⊢
      simp [nums, List.getD, hj]
    · exact hb.trans ⟨rfl, rfl, rfl, by simp, fun k hk => setRow_other w g k _ (by omega)⟩
  · have hcells := hown.cells
    have hnl : n = l.length := by obtain ⟨_, _, _, _, _, h, _⟩ := hown; exact h
    have hlo : (nums .u8 l).length = n * 1 := by simp [nums, hnl]
    refine wpList_append_grows w hg s x t hop e i (.int .u8 0) 1 1 ht hi hz hsize hby rfl (by decide) (some ⟨g, 0, none⟩) n cap (nums .u8 l) hsv (by intro h; cases h) hlo
      (by intro b hb2; injection hb2 with hb2; subst hb2; exact hcells) ad m c (nums .u8 r) hx (by simp [nums, hm]) hnews h1c (by omega) (by unfold maxLen; omega) (by omega) ?_
    intro v' w' hown3 hgrow
    have e1 : nums .u8 l ++ nums .u8 r = nums .u8 (l ++ r) := by simp [nums]
    rw [e1, ← hlen] at hown3
    obtain ⟨a', c', rfl, -, s'⟩ := sees_own hown3
    exact hK _ _ _ s' (hb.grown hgrow hb.size (by intro k hk; simp at hk))
end Go.Proofs.Ytbpaoiajfjkmfaa
