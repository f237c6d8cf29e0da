/- Slices of structs of one-cell fields that came in, with the reach of what they hold: each text among them, and the row itself, takes at most so many bytes. -/
import Derived.Test.YtkfgfbdlbiahkaaStructs
import Derived.SizedLaws
namespace Go.Proofs.Ytkfgfbdlbiahkaa
open Go.RowKit Go.ChangeShapes Go.WideShapes Go.Deep
set_option linter.unusedVariables false

def Reach {H : Type} (P : Program) (t : TypeId) (d : DataW H) : Prop := ∀ n ∈ d.weights P t, n ≤ 140737488351232
theorem reach_each {H : Type} {P : Program} {ts : List TypeId} {ds : List (DataW H)} (h : (DataW.weightsEach P ts ds).all (· ≤ reachBytes) = true) {j : Nat} {t : TypeId} {d : DataW H} (ht : ts[j]? = some t) (hd : ds[j]? = some d) : Reach P t d := by
  intro n hn
  have := List.all_eq_true.1 h n (DataW.weights_mem_each ht hd n hn)
  have h' : n ≤ reachBytes := of_decide_eq_true this
  simpa [reachBytes] using h'
theorem weightsAll_mem {H : Type} {P : Program} {e : TypeId} : ∀ {l : List (DataW H)} {d : DataW H}, d ∈ l → ∀ n ∈ d.weights P e, n ∈ DataW.weightsAll P e l
  | x :: r, d, hd, n, hn => by
    unfold DataW.weightsAll
    rcases List.mem_cons.1 hd with rfl | hd
    · exact List.mem_append_left _ hn
    · exact List.mem_append_right _ (weightsAll_mem hd n hn)
theorem weights_slice {H : Type} {P : Program} {t e : TypeId} {el sp : List (DataW H)} (ht : P.underlying t = some (.slice e)) (h : Reach P t (.slice el sp)) : (el.length + sp.length) * P.bytesOf e ≤ 140737488351232 ∧ ∀ d ∈ el, Reach P e d := by
  unfold Reach at h
  unfold DataW.weights at h
  rw [ht] at h
  refine ⟨h _ (by simp), fun d hd n hn => h n ?_⟩
  exact List.mem_cons_of_mem _ (List.mem_append_left _ (weightsAll_mem hd n hn))
theorem weights_agg {H : Type} {P : Program} {t : TypeId} {fs : Array Field} {ps : List (DataW H)} (ht : P.underlying t = some (.struct fs)) (h : Reach P t (.agg ps)) {j : Nat} {f : Field} {d : DataW H} (hj : fs[j]? = some f) (hd : ps[j]? = some d) : Reach P f.type d := by
  intro n hn
  unfold Reach at h
  unfold DataW.weights at h
  rw [ht] at h
  have h1 : (fs.toList.map (·.type))[j]? = some f.type := by simp [hj]
  exact h n (DataW.weights_mem_each h1 hd n hn)
theorem reach_string {H : Type} {P : Program} {t : TypeId} {s : ByteArray} (h : Reach (H := H) P t (.lit (.string s.data.toList))) : s.size ≤ 140737488351232 := by
  have := h s.data.toList.length (by simp [DataW.weights])
  simpa using this
theorem struct_row_sized {H : Type} {enc : TypeId × Value → H} {P : Program} {w : World} {fuel : Nat} {t e : TypeId} {fs : Array Field} {r : Option Addr} {len cap : Nat} {x : DataW H × List MemPlace}
    (ht : P.underlying t = some (.slice e)) (he : P.underlying e = some (.struct fs)) (hone : oneCellFields P fs = true) (hC : P.cellsOf e = fs.size) (h0 : 0 < fs.size)
    (h : DataW.trod enc P w 0 (fun _ => true) true fuel t [.slice r len cap] = some x) (hR : Reach P t x.1) :
    len ≤ cap ∧ cap ≤ maxLen ∧ (len = 0 ∨ len * P.bytesOf e ≤ 140737488351232 ∧ ∃ b off, r = some ⟨b, off, none⟩ ∧ b < w.heap.size ∧
      ∀ i, i < len → ∀ (j : Nat) (f : Field), fs[j]? = some f → ∃ (v : Value) (y : DataW H × List MemPlace) (n : Nat), w.cell? ⟨b, off + (i * fs.size + j), none⟩ = some v ∧ DataW.trod enc P w 0 (fun _ => true) true n f.type [v] = some y ∧ Reach P f.type y.1) := by
  rcases open_slice ht h with ⟨hcs, _⟩ | ⟨a, l, c, m, n, D, Pl, hcs, hb, hl, hm, hmm, hx, hi⟩
  · simp at hcs
    obtain ⟨rfl, rfl, rfl⟩ := hcs
    exact ⟨Nat.le_refl _, by simp, .inl rfl⟩
  · simp at hcs
    obtain ⟨rfl, rfl, rfl⟩ := hcs
    refine ⟨hl, hm, ?_⟩
    by_cases hz : len = 0
    · exact .inl hz
    right
    rw [hx] at hR
    obtain ⟨hw1, hw2⟩ := weights_slice ht hR
    simp only [List.length_map, List.length_range] at hw1
    have key : ∀ i, i < len → ∀ (j : Nat) (f : Field), fs[j]? = some f → ∃ (v : Value) (y : DataW H × List MemPlace) (n : Nat), w.cell? (a.add (i * fs.size + j)) = some v ∧ DataW.trod enc P w 0 (fun _ => true) true n f.type [v] = some y ∧ Reach P f.type y.1 := by
      intro i hil j f hj
      obtain ⟨cs', hc, ht'⟩ := hi i (by rw [hmm]; simp; omega)
      rw [hC] at hc
      obtain ⟨ys, n', _, hys, hlen, hyl, hf⟩ := DataW.trod_struct he ht'
      obtain ⟨_, hcl, hat⟩ := World.cells?_some hc
      obtain ⟨ho, hk⟩ := hone_of hone j f hj
      have hjl : j < fs.size := (Array.getElem?_eq_some_iff.1 hj).1
      have hcell := hat j hjl
      have hv : cs'[j]? = some (cs'[j]'(by omega)) := List.getElem?_eq_getElem (by omega)
      have h1 := hf j f hj
      rw [ho, hk] at h1
      have h2 : (cs'.drop j).take 1 = [cs'[j]'(by omega)] := by
        rw [List.drop_eq_getElem_cons (by omega)]
        rfl
      rw [h2, List.getElem?_eq_getElem (by omega)] at h1
      have hD : D i = .agg (ys.map (·.1)) := congrArg Prod.fst hys
      have hRi := hw2 (D i) (List.mem_map.2 ⟨i, by simpa using hil, rfl⟩)
      rw [hD] at hRi
      exact ⟨_, _, n', by rw [← Go.Deep.add_add, hcell, hv], h1, weights_agg he hRi hj (by simp [List.getElem?_eq_getElem (show j < ys.length by omega)])⟩
    refine ⟨Nat.le_trans (Nat.mul_le_mul_right _ (Nat.le_add_right _ _)) hw1, ?_⟩
    obtain ⟨b, off, spot⟩ := a
    obtain ⟨v0, _, _, hv0, _⟩ := key 0 (by omega) 0 (fs[0]'h0) (by simp [h0])
    simp only [Nat.zero_mul, Nat.add_zero] at hv0
    have hspot : spot = none := by
      have : ((⟨b, off, spot⟩ : Addr).add 0).spot = none := World.cell?_spot hv0
      simpa [Addr.add] using this
    subst hspot
    have hsh : ∀ i, (⟨b, off, none⟩ : Addr).add i = ⟨b, off + i, none⟩ := fun i => by unfold Addr.add; split <;> simp_all
    refine ⟨b, off, rfl, ?_, fun i hil j f hj => ?_⟩
    · rw [hsh] at hv0
      exact World.block_lt_of_cell? w _ hv0
    · obtain ⟨v, y, n, h1, h2⟩ := key i hil j f hj
      rw [hsh] at h1
      exact ⟨v, y, n, h1, h2⟩
end Go.Proofs.Ytkfgfbdlbiahkaa
