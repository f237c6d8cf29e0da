/- A disk beside the document's own: they stay alike. -/
import Derived.Test.YtjhakmpinloioaaFileRefPut
namespace Go.Proofs.Ytjhakmpinloioaa
open Go.RowKit
set_option linter.unusedVariables false
set_option linter.unusedSimpArgs false

/-- Both have the same. -/
structure Pr (w : World) (d : Nat) (F : List Nat) (x : Nat) (s : St) : Prop where
  dk : Dk w d F s
  rk : Rk w x s
  nx : x ∉ F
  fine : s.fine
theorem Pr.below {w w' : World} {d : Nat} {F : List Nat} {x : Nat} {s : St} (h : Pr w d F x s) (hb : Below w.heap.size w w') : Pr w' d F x s := ⟨h.dk.below hb, h.rk.below hb, h.nx, h.fine⟩
theorem Pr.mid {w w1 : World} {d : Nat} {F F1 : List Nat} {x : Nat} {s : St} (h : Pr w d F x s) (t : Turns F F1 w w1) : Rk w1 x s := h.rk.belowE t.1 h.nx
/-- What a call of both leaves. -/
def Goes (w : World) (d : Nat) (F : List Nat) (x : Nat) (w' : World) : Prop := ∃ F' s', Pr w' d F' x s' ∧ BelowE (x :: F) w.heap.size w w' ∧ ∀ y ∈ F', y ∈ F ∨ w.heap.size ≤ y
theorem Pr.step {w w1 w2 : World} {d : Nat} {F F1 : List Nat} {x : Nat} {s s1 : St} (h : Pr w d F x s) (D : Dk w1 d F1 s1) (t : Turns F F1 w w1) (R : Rk w2 x s1) (b : BelowE [x] w1.heap.size w1 w2) (hf : s1.fine) : Goes w d F x w2 := by
  have hx1 : x ∉ F1 := fun hm => by
    rcases t.2 x hm with h1 | h1
    · exact h.nx h1
    · have := h.rk.lt; omega
  refine ⟨F1, s1, ⟨D.belowE b (fun y hy => by simp; intro e; subst e; exact hx1 hy), R, hx1, hf⟩, ?_, t.2⟩
  exact (t.1.wider (by intro y hy; simp [hy])).trans ((b.mono t.1.size).wider (by simp))
theorem Goes.before {w w1 w' : World} {d : Nat} {F : List Nat} {x : Nat} (hb : Below w.heap.size w w1) (h : Goes w1 d F x w') : Goes w d F x w' := by
  obtain ⟨F', s', p, b, y⟩ := h
  exact ⟨F', s', p, (BelowE.of hb).trans (b.mono hb.size), fun z hz => (y z hz).imp id fun h => Nat.le_trans hb.size h⟩
theorem Goes.same {w w' : World} {d : Nat} {F : List Nat} {x : Nat} {s : St} (h : Pr w d F x s) (hb : Below w.heap.size w w') : Goes w d F x w' :=
  ⟨F, s, h.below hb, .of hb, fun y hy => .inl hy⟩

theorem fine_with {s : St} (hf : s.fine) (c : Nat) (n : Nat) (l : List Int) (hl : l.length ≤ 4194304) : ((s.after c).with_ (upd s.l n l)).fine := by
  have h3 : (s.after c).left ≤ 9223372036854775807 := by
    have := hf.2.2
    unfold St.after
    split
    · split
      · simp
      · simp; omega
    · exact this
  refine ⟨?_, ?_, h3⟩
  · show (upd s.l n l 0).length ≤ _
    unfold upd; split
    · exact hl
    · exact hf.1
  · show (upd s.l n l 1).length ≤ _
    unfold upd; split
    · exact hl
    · exact hf.2.1
theorem fine_at {s : St} (hf : s.fine) {n : Int} (hn : ¬ (n ≠ 0 ∧ n ≠ 1)) : (s.l n.toNat).length ≤ 4194304 := by
  have : n = 0 ∨ n = 1 := by omega
  rcases this with rfl | rfl
  · exact hf.1
  · exact hf.2.1
theorem fine_after {s : St} (hf : s.fine) (c : Nat) : ((s.after c).with_ s.l).fine := by
  have := fine_with hf c 0 (s.l 0) hf.1
  have e : upd s.l 0 (s.l 0) = s.l := by funext i; unfold upd; split <;> simp_all
  rwa [e] at this
theorem fine_write {s : St} (hf : s.fine) (n : Int) (b : List Int) : (writeO s n b).2.fine := by
  unfold writeO
  split
  · exact hf
  · split
    · exact hf
    · split
      · exact hf
      · have hp : s.paid b.length ≤ b.length := by unfold St.paid; split <;> omega
        exact fine_with hf _ _ _ (by simp; omega)
theorem fine_cut {s : St} (hf : s.fine) (n m : Int) : (cutO s n m).2.fine := by
  unfold cutO
  split
  · exact hf
  · split
    · exact hf
    · rename_i hn
      split
      · exact hf
      · show ((s.after 1).with_ (if s.paid 1 = 1 then _ else s.l)).fine
        split
        · have := fine_at hf hn
          exact fine_with hf _ _ _ (by simp; omega)
        · exact fine_after hf 1
theorem fine_spoil {s : St} (hf : s.fine) (n m : Int) (b : List Int) : (spoilO s n m b).2.fine := by
  unfold spoilO
  split
  · exact hf
  · split
    · exact hf
    · split
      · exact hf
      · have h0 := hf
        refine ⟨?_, ?_, hf.2.2⟩
        · show (upd s.l _ _ 0).length ≤ _
          unfold upd; split
          · simp; omega
          · exact hf.1
        · show (upd s.l _ _ 1).length ≤ _
          unfold upd; split
          · simp; omega
          · exact hf.2.1
theorem fine_arm {s : St} (hf : s.fine) {k : Int} (hk : k ≤ 9223372036854775807) : (armO s k).fine := ⟨hf.1, hf.2.1, by simp [armO]; omega⟩
theorem fine_wake {s : St} (hf : s.fine) : (wakeO s).fine := ⟨hf.1, hf.2.1, hf.2.2⟩
/-- A silent call's footprint. -/
theorem Silent.turns {s : St} {d : Nat} {F : List Nat} {w w' : World} {e : Ending} (h : Silent s d F w e w') : Turns F F w w' :=
  ⟨h.2.2.wider (by simpa using h.2.1.mem), fun x hx => .inl hx⟩

theorem one_box (w : World) (cs : Array Value) (t : TypeId) : ∃ W, W = w.alloc (.cells cs t) ∧ Below w.heap.size w W ∧ Holds W w.heap.size t cs ∧ W.heap.size = w.heap.size + 1 :=
  ⟨_, rfl, (Below.refl _ _).alloc (Nat.le_refl _) _, Holds.new _ _ _, by simp⟩

def Does (w : World) (d : Nat) (F : List Nat) (x : Nat) (e : Ending) (w' : World) : Prop := e = .returned (.bool true) ∧ Goes w d F x w'
end Go.Proofs.Ytjhakmpinloioaa
