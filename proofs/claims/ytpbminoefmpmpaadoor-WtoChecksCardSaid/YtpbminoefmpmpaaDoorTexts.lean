/- Rows of texts: what is appended to, what is read. -/
import Derived.Test.YtpbminoefmpmpaaDoorFoot
import Derived.Test.YtpbminoefmpmpaaDoorRows
namespace Go.Proofs.YtpbminoefmpmpaaDoor
open Go.RowKit
set_option linter.unusedVariables false

def txts (l : List ByteArray) : List Value := l.map .string
theorem txts_add (a b : List ByteArray) : txts (a ++ b) = txts a ++ txts b := by simp [txts]
theorem txts_length (l : List ByteArray) : (txts l).length = l.length := by simp [txts]
theorem infoStr : (Tryd.prog.info? 9).map (fun i => (i.zero, i.size, i.bytes)) = some (some (.string ⟨#[]⟩), 1, 16) := by kernel_rfl
/-- A slice value reads, in w, as the texts l; its cells lie below block B. -/
def SeesT (B : Nat) (w : World) (a : Option Addr) (l : List ByteArray) : Prop :=
  l = [] ∨ ∃ b off, a = some ⟨b, off, none⟩ ∧ b < B ∧ ∀ i, i < l.length → w.cell? ⟨b, off + i, none⟩ = some (.string (l.getD i ⟨#[]⟩))
theorem SeesT.below {B : Nat} {w w' : World} {a : Option Addr} {l : List ByteArray} (h : SeesT B w a l) (hb : Below B w w') : SeesT B w' a l := by
  rcases h with h | ⟨b, off, rfl, hB, hc⟩
  · exact .inl h
  · exact .inr ⟨b, off, rfl, hB, fun i hi => (hb.cell (p := ⟨b, off + i, none⟩) hB).trans (hc i hi)⟩
theorem SeesT.mono {B B' : Nat} {w : World} {a : Option Addr} {l : List ByteArray} (h : SeesT B w a l) (hb : B ≤ B') : SeesT B' w a l := by
  rcases h with h | ⟨b, off, rfl, hB, hx⟩
  · exact .inl h
  · exact .inr ⟨b, off, rfl, by omega, hx⟩
theorem sees_ownT {w : World} {base : Nat} {e : TypeId} {v : Value} {n : Nat} {l : List ByteArray} (h : w.ownsRow base e 1 v n (txts l)) :
    ∃ a cap, v = .slice a l.length cap ∧ n = l.length ∧ SeesT w.heap.size w a l := by
  have hn : n = l.length := by have := h.1; simp [txts] at this; omega
  rcases h.2 with ⟨rfl, h0⟩ | ⟨g, cap, cur, rfl, _, hg, _⟩
  · subst hn
    exact ⟨none, 0, by rw [h0], rfl, .inl (List.eq_nil_of_length_eq_zero h0)⟩
  · subst hn
    refine ⟨_, cap, rfl, rfl, .inr ⟨g, 0, rfl, (Array.getElem?_eq_some_iff.1 hg).1, fun i hi => ?_⟩⟩
    have := h.cells (g := g) rfl i (.string (l.getD i ⟨#[]⟩)) (by simp [txts, List.getD, hi])
    have h2 : (⟨g, 0, none⟩ : Addr).add i = ⟨g, 0 + i, none⟩ := by unfold Addr.add; split <;> simp_all
    rw [h2] at this
    exact this

/-- One text is appended, out of the literal that is made for it. -/
theorem run_append_text {P : Program} (w : World) (t ty e : TypeId) (i : TypeInfo) (z : Value) (bytes : Nat) (ht : P.underlying t = some (.slice e)) (hi : P.info? e = some i) (hz : i.zero = some z)
    (hsize : i.size = 1) (hby : i.bytes = bytes) (hzs : z.cells.size = 1)
    (v : Value) (l : List ByteArray) (hown : w.ownsRow 0 e 1 v l.length (txts l)) (ad : Addr) (s : ByteArray) (c : Nat) (hs : w.cell? ad = some (.string s))
    (hn : l.length + 1 ≤ maxLen) (hby2 : (l.length + 1) * bytes ≤ 140737488355328) :
    ∃ v' w', (Builtin.append_ #[t, t] ty #[v, .slice (some ad) 1 c]).run P w = .ok v' w' ∧ w'.ownsRow 0 e 1 v' (l ++ [s]).length (txts (l ++ [s])) ∧ w.grownBy w' v.ownBlock ∧ (v'.ownBlock = v.ownBlock ∨ v'.ownBlock = some w.heap.size) := by
  obtain ⟨v', w', hrun, h2, h3, _, h5⟩ := run_append_own_at (P := P) w 0 t ty e i z 1 bytes ht hi hz hsize hby hzs (by omega) v l.length (txts l) hown ad 1 c [.string s] (by simp) (fun j u hj => by
    have : j = 0 := by have := (List.getElem?_eq_some_iff.1 hj).1; simp at this; omega
    subst this
    simp at hj
    subst hj
    have h2 : ad.add 0 = ad := by simp [Addr.add]
    rw [h2]; exact hs) (fun u hu => by simp at hu; subst hu; rfl) hn hby2 (Nat.zero_le _)
  refine ⟨v', w', hrun, ?_, h3, h5⟩
  rw [List.length_append, txts_add]; exact h2
theorem wpList_append_text {P : Program} (w : World) {ops : Array Oper} {rest : List Oper} {o : Oper} {a : Act} {Q : Exit → Act → World → Prop}
    (hg : o.guard = none) (s x : Operand) (t : TypeId) (hop : o.op = Op.call { callee := Callee.builtin Builtin.append, args := #[s, x], argTypes := #[t, t] })
    (e : TypeId) (i : TypeInfo) (z : Value) (bytes : Nat) (ht : P.underlying t = some (.slice e)) (hi : P.info? e = some i) (hz : i.zero = some z)
    (hsize : i.size = 1) (hby : i.bytes = bytes) (hzs : z.cells.size = 1)
    (v : Value) (l : List ByteArray) (hown : w.ownsRow 0 e 1 v l.length (txts l)) (ad : Addr) (tx : ByteArray) (c : Nat) (hs : w.cell? ad = some (.string tx))
    (hsv : a.eval s = v) (hx : a.eval x = .slice (some ad) 1 c) (hn : l.length + 1 ≤ maxLen) (hby2 : (l.length + 1) * bytes ≤ 140737488355328)
    (hK : ∀ v' w', w'.ownsRow 0 e 1 v' (l ++ [tx]).length (txts (l ++ [tx])) → w.grownBy w' v.ownBlock → (v'.ownBlock = v.ownBlock ∨ v'.ownBlock = some w.heap.size) → wpList P ops Q rest (a.put o.dst v') w') :
    wpList P ops Q (o :: rest) a w := by
  obtain ⟨v', w', hrun, h1, h2, h3⟩ := run_append_text (P := P) w t o.type e i z bytes ht hi hz hsize hby hzs v l hown ad tx c hs hn hby2
  refine wpList_plain hg fun K hK' => ?_
  unfold Oper.wp
  simp [execOp, hop, resolve, invoke, builtin, hsv, hx, hrun, Result.andThen]
  exact hK' _ _ (hK v' w' h1 h2 h3)

/-- A store into a row of one's own (cells of one place each). -/
theorem own_set {w : World} {base : Nat} {e : TypeId} {n m c : Nat} {g : Nat} {xs : List Value} (h : w.ownsRow base e 1 (.slice (some ⟨g, 0, none⟩) m c) n xs) (i : Nat) (hi : i < n) (u : Value) :
    (w.setCell ⟨g, i, none⟩ u).ownsRow base e 1 (.slice (some ⟨g, 0, none⟩) m c) n (xs.set i u) := by
  refine ⟨by rw [List.length_set]; exact h.1, ?_⟩
  rcases h.2 with ⟨h1, _⟩ | ⟨g', cap, cur, hv, hg, hh, h1, h2, h3, h4⟩
  · cases h1
  · injection hv with ha hm hc
    injection ha with ha
    injection ha with hgg
    subst hgg hm hc
    refine .inr ⟨g, _, cur.setIfInBounds i u, rfl, hg, ?_, h1, h2, by simpa using h3, ?_⟩
    · simp [World.setCell, Array.getElem?_modify, hh]
    · rw [Array.toList_setIfInBounds, List.take_set, h4]
theorem own_free {w : World} {base : Nat} {e : TypeId} {n m c : Nat} {g : Nat} {xs : List Value} (h : w.ownsRow base e 1 (.slice (some ⟨g, 0, none⟩) m c) n xs) (i : Nat) : w.frozen? ⟨g, i, none⟩ = false := by
  rcases h.2 with ⟨h1, _⟩ | ⟨g', cap, cur, hv, hg, hh, _⟩
  · cases h1
  · injection hv with ha hm hc
    injection ha with ha
    injection ha with hgg
    subst hgg
    simp [World.frozen?, hh]
theorem set_last {xs : List Value} (h : xs ≠ []) (u : Value) : xs.set (xs.length - 1) u = xs.dropLast ++ [u] := by
  obtain ⟨ys, y, rfl⟩ : ∃ ys y, xs = ys ++ [y] := ⟨xs.dropLast, xs.getLast h, (List.dropLast_concat_getLast h).symm⟩
  simp
end Go.Proofs.YtpbminoefmpmpaaDoor
