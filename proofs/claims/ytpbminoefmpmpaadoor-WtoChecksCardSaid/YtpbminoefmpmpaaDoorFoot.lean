/- An append to a row that is owned, with what it changes: its own block alone; a text's bytes. -/
import Derived.Test.YtpbminoefmpmpaaDoorMem
import Derived.Test.YtpbminoefmpmpaaDoorStr
import Derived.Maps.AppendAt
import Derived.Lib.ConvBytes
namespace Go.Proofs.YtpbminoefmpmpaaDoor
open Go.RowKit
set_option linter.unusedVariables false

/-- Below block B all but what was written by an append. -/
theorem BelowE.grown {X : List Nat} {B : Nat} {a w w' : World} {row : Option Nat} (h : BelowE X B a w) (hg : w.grownBy w' row) (hB : B ≤ w.heap.size) (hr : ∀ k, row = some k → k < B → k ∈ X) : BelowE X B a w' :=
  h.trans ⟨hg.os, hg.tape, hg.output, hg.size, fun k hk hx => hg.block k (by omega) (fun e => hx (hr k e.symm hk))⟩

theorem run_append_foot {P : Program} (w : World) (t ty e : TypeId) (i : TypeInfo) (z : Value) (bytes : Nat) (ht : P.underlying t = some (.slice e)) (hi : P.info? e = some i) (hz : i.zero = some z)
    (hsize : i.size = 1) (hby : i.bytes = bytes) (hzs : z.cells.size = 1) (k : IntKind)
    (v : Value) (l : List Int) (hown : w.ownsRow 0 e 1 v l.length (nums k l))
    (B : Nat) (A : Option Addr) (r : List Int) (hs : Sees k B w A r) (m c : Nat) (hm : m = r.length)
    (hn : l.length + r.length ≤ maxLen) (hby2 : (l.length + r.length) * bytes ≤ 140737488355328) :
    ∃ v' w', (Builtin.append_ #[t, t] ty #[v, .slice A m c]).run P w = .ok v' w' ∧ w'.ownsRow 0 e 1 v' (l ++ r).length (nums k (l ++ r)) ∧ w.grownBy w' v.ownBlock ∧ (v'.ownBlock = v.ownBlock ∨ v'.ownBlock = some w.heap.size) := by
  subst hm
  have hlen : (nums k r).length = r.length * 1 := by simp [nums]
  have hall : ∀ u ∈ nums k r, u.oneCell' = true := by
    intro u hu
    obtain ⟨x, _, rfl⟩ := List.mem_map.1 hu
    rfl
  have e1 : nums k (l ++ r) = nums k l ++ nums k r := by simp [nums]
  have go : ∀ ad : Addr, A = some ad → (∀ j u, (nums k r)[j]? = some u → w.cell? (ad.add j) = some u) →
      ∃ v' w', (Builtin.append_ #[t, t] ty #[v, .slice A r.length c]).run P w = .ok v' w' ∧ w'.ownsRow 0 e 1 v' (l ++ r).length (nums k (l ++ r)) ∧ w.grownBy w' v.ownBlock ∧ (v'.ownBlock = v.ownBlock ∨ v'.ownBlock = some w.heap.size) := by
    intro ad hA hc
    subst hA
    obtain ⟨v', w', hrun, h2, h3, _, h5⟩ := run_append_own_at (P := P) w 0 t ty e i z 1 bytes ht hi hz hsize hby hzs (by omega) v l.length (nums k l) hown ad r.length c (nums k r) hlen hc hall hn hby2 (Nat.zero_le _)
    refine ⟨v', w', hrun, ?_, h3, h5⟩
    rw [List.length_append, e1]; exact h2
  rcases hs with rfl | ⟨b, off, rfl, _, hc⟩
  · cases A with
    | none => exact ⟨v, w, run_append_none w _ t ty e i 1 ht hi v _ _ hown c, by simpa using hown, World.grownBy.refl w _, .inl rfl⟩
    | some ad => exact go ad rfl (by simp [nums])
  · refine go _ rfl fun j u hj => ?_
    have hjr : j < r.length := by
      have := (List.getElem?_eq_some_iff.1 hj).1
      simpa [nums] using this
    have h2 : (⟨b, off, none⟩ : Addr).add j = ⟨b, off + j, none⟩ := by unfold Addr.add; split <;> simp_all
    rw [h2, hc j hjr]
    simp [nums, hjr] at hj
    simp [List.getD, hjr, hj]

/-- The same at one operation (in a region that draws its order: the goal is 'Oper.wp ..'). -/
theorem wp_append_foot {P : Program} (w : World) {o : Oper} {a : Act} {K : Act → World → Prop} {Q : Exit → Act → World → Prop}
    (s x : Operand) (t : TypeId) (hop : o.op = Op.call { callee := Callee.builtin Builtin.append, args := #[s, x], argTypes := #[t, t] })
    (e : TypeId) (i : TypeInfo) (z : Value) (bytes : Nat) (ht : P.underlying t = some (.slice e)) (hi : P.info? e = some i) (hz : i.zero = some z)
    (hsize : i.size = 1) (hby : i.bytes = bytes) (hzs : z.cells.size = 1) (k : IntKind)
    (v : Value) (l : List Int) (hown : w.ownsRow 0 e 1 v l.length (nums k l))
    (B : Nat) (A : Option Addr) (r : List Int) (hs : Sees k B w A r) (m c : Nat) (hm : m = r.length)
    (hsv : a.eval s = v) (hx : a.eval x = .slice A m c) (hn : l.length + r.length ≤ maxLen) (hby2 : (l.length + r.length) * bytes ≤ 140737488355328)
    (hK : ∀ v' w', w'.ownsRow 0 e 1 v' (l ++ r).length (nums k (l ++ r)) → w.grownBy w' v.ownBlock → (v'.ownBlock = v.ownBlock ∨ v'.ownBlock = some w.heap.size) → K (a.put o.dst v') w') :
    o.wp P a w K Q := by
  obtain ⟨v', w', hrun, h1, h2, h3⟩ := run_append_foot (P := P) w t o.type e i z bytes ht hi hz hsize hby hzs k v l hown B A r hs m c hm hn hby2
  unfold Oper.wp
  simp [execOp, hop, resolve, invoke, builtin, hsv, hx, hrun, Result.andThen]
  exact hK v' w' h1 h2 h3

theorem wpList_append_foot {P : Program} (w : World) {ops : Array Oper} {rest : List Oper} {o : Oper} {a : Act} {Q : Exit → Act → World → Prop}
    (hg : o.guard = none) (s x : Operand) (t : TypeId) (hop : o.op = Op.call { callee := Callee.builtin Builtin.append, args := #[s, x], argTypes := #[t, t] })
    (e : TypeId) (i : TypeInfo) (z : Value) (bytes : Nat) (ht : P.underlying t = some (.slice e)) (hi : P.info? e = some i) (hz : i.zero = some z)
    (hsize : i.size = 1) (hby : i.bytes = bytes) (hzs : z.cells.size = 1) (k : IntKind)
    (v : Value) (l : List Int) (hown : w.ownsRow 0 e 1 v l.length (nums k l))
    (B : Nat) (A : Option Addr) (r : List Int) (hs : Sees k B w A r) (m c : Nat) (hm : m = r.length)
    (hsv : a.eval s = v) (hx : a.eval x = .slice A m c) (hn : l.length + r.length ≤ maxLen) (hby2 : (l.length + r.length) * bytes ≤ 140737488355328)
    (hK : ∀ v' w', w'.ownsRow 0 e 1 v' (l ++ r).length (nums k (l ++ r)) → w.grownBy w' v.ownBlock → (v'.ownBlock = v.ownBlock ∨ v'.ownBlock = some w.heap.size) → wpList P ops Q rest (a.put o.dst v') w') :
    wpList P ops Q (o :: rest) a w := by
  obtain ⟨v', w', hrun, h1, h2, h3⟩ := run_append_foot (P := P) w t o.type e i z bytes ht hi hz hsize hby hzs k v l hown B A r hs m c hm hn hby2
  refine wpList_plain hg fun K hK' => ?_
  unfold Oper.wp
  simp [execOp, hop, resolve, invoke, builtin, hsv, hx, hrun, Result.andThen]
  exact hK' _ _ (hK v' w' h1 h2 h3)

theorem own_from {w : World} {base B : Nat} {e : TypeId} {size n : Nat} {v : Value} {xs : List Value} (h : w.ownsRow base e size v n xs) (hB : ∀ k, v.ownBlock = some k → B ≤ k) : w.ownsRow B e size v n xs := by
  refine ⟨h.1, ?_⟩
  rcases h.2 with h | ⟨g, cap, cur, hv, hg, r⟩
  · exact .inl h
  · exact .inr ⟨g, cap, cur, hv, hB g (by rw [hv]; rfl), r⟩
theorem own_zero {w : World} {base : Nat} {e : TypeId} {size n : Nat} {v : Value} {xs : List Value} (h : w.ownsRow base e size v n xs) : w.ownsRow 0 e size v n xs := own_from h fun _ _ => Nat.zero_le _
theorem own_belowE {w w' : World} {X : List Nat} {base : Nat} {e : TypeId} {size n : Nat} {v : Value} {xs : List Value} (h : w.ownsRow base e size v n xs) (hb : BelowE X w.heap.size w w') (hx : ∀ k, v.ownBlock = some k → k ∉ X) : w'.ownsRow base e size v n xs := by
  refine ⟨h.1, ?_⟩
  rcases h.2 with h | ⟨g, cap, cur, hv, hg, hh, r⟩
  · exact .inl h
  · exact .inr ⟨g, cap, cur, hv, hg, (hb.block g (Array.getElem?_eq_some_iff.1 hh).1 (hx g (by rw [hv]; rfl))).trans hh, r⟩
theorem own_below {w w' : World} {base : Nat} {e : TypeId} {size n : Nat} {v : Value} {xs : List Value} (h : w.ownsRow base e size v n xs) (hb : Below w.heap.size w w') : w'.ownsRow base e size v n xs :=
  own_belowE h (.of hb) (X := []) (by simp)

/-- A slice literal is a row of the call's own. -/
theorem own_lit (w : World) (e : TypeId) (k : IntKind) (l : List Int) (cs : Array Value) (h : cs = (nums k l).toArray) (hl : l.length ≤ maxLen) (n : Nat) (hn : n = l.length) :
    (w.alloc (.cells cs e)).ownsRow w.heap.size e 1 (.slice (some ⟨w.heap.size, 0, none⟩) n n) l.length (nums k l) := by
  subst hn h
  exact ⟨by simp [nums], .inr ⟨w.heap.size, l.length, _, rfl, Nat.le_refl _, heap_alloc_new w _, Nat.le_refl _, hl, by simp [nums], by rw [List.take_of_length_le (by simp [nums])]⟩⟩

/-- []byte(s): a new row, that reads as s's bytes. -/
theorem run_bytes_sees {P : Program} (w : World) (src dst e : TypeId) (s : ByteArray) (hs : P.underlying src = some .string) (hd : P.underlying dst = some (.slice e)) (he : P.underlying e = some (.int .u8)) :
    ∃ c w', (convert src dst (.string s)).run P w = .ok (.slice (some ⟨w.heap.size, 0, none⟩) s.size c) w' ∧ s.size ≤ c ∧ Sees .u8 w'.heap.size w' (some ⟨w.heap.size, 0, none⟩) (codes s) ∧ Below w.heap.size w w' ∧ w'.heap.size = w.heap.size + 1 := by
  refine ⟨_, _, Lib.run_convert_string_bytes w src dst e s hs hd he, grownCap_ge _ _ _ _, ?_, ?_, Lib.bytesWorld_size w e s⟩
  · refine .inr ⟨w.heap.size, 0, rfl, by rw [Lib.bytesWorld_size]; omega, fun j hj => ?_⟩
    rw [codes_length] at hj
    rw [Nat.zero_add, Lib.bytesWorld_cell w e s j hj, codes_at s j hj]
    simp [List.getD, hj]
    rfl
  · exact ⟨rfl, rfl, rfl, by rw [Lib.bytesWorld_size]; omega, fun k hk => Lib.bytesWorld_at_old w e s k hk⟩
end Go.Proofs.YtpbminoefmpmpaaDoor
