/- cur: slices.Clone of bytes; the pen's calls, and the reader's beginning. -/
import Derived.Test.YtkfgfbdlbiahkaaCurSpec
import Derived.Test.YtkfgfbdlbiahkaaFoot
import Derived.WalkSpells
import Derived.Lib.BufferMore
namespace Go.Proofs.Ytkfgfbdlbiahkaa
open Go.RowKit
set_option linter.unusedVariables false

theorem clone_any (A : Option Addr) (l : List Int) (n c : Nat) (hn : n = l.length) (B : Nat) (w : World) (hl : l.length ≤ 140737488355328) (hs : Sees .u8 B w A l) :
    Calls Try.prog 45 #[.slice A n c] w (Made 5 .u8 w l) := by
  obtain ⟨i0, hi, hz0, hz1, hz2⟩ := info_parts infoU8
  subst hn
  cases A with
  | none =>
    have hl0 : l = [] := by
      rcases hs with h | ⟨b, off, h, _⟩
      · exact h
      · cases h
    subst hl0
    have hq := fun W => Lib.run_eql_slice_nil_nil (P := Try.prog) W (t := 25) (e := 5) 0 c Try.underlying25
    go_enter Try.func45, Try.ntmps45
    go_wp2
    go_ret
    exact ⟨_, rfl, ⟨rfl, .inl ⟨rfl, rfl⟩⟩, Below.refl _ _⟩
  | some ad =>
    have hq := fun W => Lib.run_eql_slice_some_nil (P := Try.prog) W (t := 25) (e := 5) ad l.length c Try.underlying25
    have hB : Below w.heap.size w (w.alloc (.cells #[] 5)) := (Below.refl _ _).alloc (Nat.le_refl _) _
    have hs' : Sees .u8 B (w.alloc (.cells #[] 5)) (some ad) l := by
      rcases hs with h | ⟨b, off, h, h2, h3⟩
      · exact .inl h
      · by_cases h0 : l = []
        · exact .inl h0
        · have hlt := World.block_lt_of_cell? w _ (h3 0 (List.length_pos_iff.2 h0))
          exact .inr ⟨b, off, h, h2, fun i hi => (hB.cell (p := ⟨b, off + i, none⟩) hlt).trans (h3 i hi)⟩
    have hl' := Lib.hid hl
    go_enter Try.func45, Try.ntmps45
    go_wp2_with (at_builtin; refine wpList_append_foot _ rfl (.tmp 5) (.tmp 6) 25 rfl 5 i0 (.int .u8 0) 1 Try.underlying25 hi hz0 hz1 hz2 rfl .u8 _ [] (World.ownsRow_made w #[] 0 (Nat.zero_le _) (by decide) (by simp)) B (some ad) l hs' l.length c rfl rfl rfl (by have := hl'.out; simp [maxLen]; omega) (by have := hl'.out; simp; omega) ?_; intro v' w' hown hgrow hblk; simp only [List.nil_append] at hown)
    go_ret
    have hown' : w'.ownsRow w.heap.size 5 1 v' l.length (nums .u8 l) := by
      refine ⟨hown.1, ?_⟩
      rcases hown.2 with h | ⟨g, cap, cur, hv, _, r⟩
      · exact .inl h
      · refine .inr ⟨g, cap, cur, hv, ?_, r⟩
        subst hv
        rcases hblk with h | h <;> simp [Value.ownBlock] at h <;> omega
    exact ⟨v', rfl, hown', hB.grown hgrow hB.size (by intro k hk; simp [Value.ownBlock] at hk; omega)⟩

/-- A pen in memory: block g holds a row of its own, which reads as l; F has g's block and the row's. -/
def Pn (w : World) (g : Nat) (F : List Nat) (l : List Int) : Prop :=
  ∃ v, Holds w g 62 #[v] ∧ w.ownsRow 0 5 1 v l.length (nums .u8 l) ∧ g ∈ F ∧ (∀ b, v.ownBlock = some b → b ∈ F ∧ b ≠ g) ∧ ∀ x ∈ F, x < w.heap.size
/-- What a call makes of an object whose blocks are F: nothing else has turned; its blocks are F's, or new ones. -/
def Turns (F F' : List Nat) (w w' : World) : Prop := BelowE F w.heap.size w w' ∧ ∀ x ∈ F', x ∈ F ∨ w.heap.size ≤ x
def Writes (g : Nat) (F : List Nat) (l : List Int) (w : World) (e : Ending) (w' : World) : Prop := e = .returned (.tuple #[]) ∧ ∃ F', Pn w' g F' l ∧ Turns F F' w w'
theorem Turns.trans {F F' F'' : List Nat} {w w' w'' : World} (h : Turns F F' w w') (k : Turns F' F'' w' w'') : Turns F F'' w w'' := by
  refine ⟨h.1.trans ((k.1.mono h.1.size).less ?_), ?_⟩
  · intro x hx hl
    rcases h.2 x hx with h1 | h1
    · exact h1
    · omega
  · intro x hx
    rcases k.2 x hx with h1 | h1
    · exact h.2 x h1
    · right; have := h.1.size; omega
theorem BelowE.toBelow {X : List Nat} {B : Nat} {w w' : World} (h : BelowE X B w w') (hx : ∀ x ∈ X, B ≤ x) : Below B w w' :=
  (h.less (Y := []) (fun x hm hl => absurd (hx x hm) (by omega))).none
theorem Pn.below {w w' : World} {g : Nat} {F : List Nat} {l : List Int} (h : Pn w g F l) (hb : Below w.heap.size w w') : Pn w' g F l := by
  obtain ⟨v, h1, h2, h3, h4, h5⟩ := h
  refine ⟨v, h1.below hb h1.lt, ?_, h3, h4, fun x hx => Nat.lt_of_lt_of_le (h5 x hx) hb.size⟩
  refine ⟨h2.1, ?_⟩
  rcases h2.2 with h | ⟨g', cap, cur, hv, hg, hh, r⟩
  · exact .inl h
  · exact .inr ⟨g', cap, cur, hv, hg, (hb.block g' (Array.getElem?_eq_some_iff.1 hh).1).trans hh, r⟩
theorem Pn.belowE {w w' : World} {X : List Nat} {g : Nat} {F : List Nat} {l : List Int} (h : Pn w g F l) (hb : BelowE X w.heap.size w w') (hx : ∀ x ∈ F, x ∉ X) : Pn w' g F l := by
  obtain ⟨v, h1, h2, h3, h4, h5⟩ := h
  refine ⟨v, h1.belowE hb h1.lt (hx g h3), ?_, h3, h4, fun x hx => Nat.lt_of_lt_of_le (h5 x hx) hb.size⟩
  refine ⟨h2.1, ?_⟩
  rcases h2.2 with h | ⟨g', cap, cur, hv, hg, hh, r⟩
  · exact .inl h
  · exact .inr ⟨g', cap, cur, hv, hg, (hb.block g' (Array.getElem?_eq_some_iff.1 hh).1 (hx g' (h4 g' (by rw [hv]; rfl)).1)).trans hh, r⟩

theorem pput_any (g : Nat) (F : List Nat) (l : List Int) (A : Option Addr) (r : List Int) (n c : Nat) (hn : n = r.length) (B : Nat) (w : World) (h : Pn w g F l) (hs : Sees .u8 B w A r) (hl : l.length + r.length ≤ 140737488355328) :
    Calls Try.prog 43 #[.pointer (some ⟨g, 0, none⟩), .slice A n c] w (Writes g F (l ++ r) w) := by
  obtain ⟨i0, hi, hz0, hz1, hz2⟩ := info_parts infoU8
  subst hn
  obtain ⟨v, h1, h2, h3, h4, h5⟩ := h
  have c0 := h1.cell 0
  simp at c0
  have h1' := Lib.hid h1
  have hl' := Lib.hid hl
  clear h1 hl
  go_enter Try.func43, Try.ntmps43
  go_wp2_with (at_builtin; (refine wpList_append_foot _ rfl (.tmp 10) (.tmp 11) 25 rfl 5 i0 (.int .u8 0) 1 Try.underlying25 hi hz0 hz1 hz2 rfl .u8 v l h2 B A r hs r.length c rfl rfl rfl (by have := hl'.out; simp [maxLen]; omega) (by have := hl'.out; omega) ?_; intro v' w' hown hgrow hblk; have lg := h1'.out.lt; have kg : Holds w' g 62 #[v] := (hgrow.block g lg (fun e => (h4 g e.symm).2 rfl)).trans h1'.out; have k0 := kg.cell 0; have kf := kg.free 0; simp at k0; obtain ⟨aa, cc, rfl, -, -⟩ := sees_own hown))
  go_end0
  obtain ⟨v', hv'⟩ : ∃ v', v' = Value.slice aa (l ++ r).length cc := ⟨_, rfl⟩
  have hv2 : Value.slice aa (l.length + r.length) cc = v' := by rw [hv', List.length_append]
  rw [← hv'] at hown hblk
  rw [hv2]
  clear hv' hv2
  refine ⟨rfl, g :: v'.ownBlock.toList, ⟨v', ?_, ?_, by simp, ?_, ?_⟩, ?_, ?_⟩
  · have := kg.set 0 v'
    simpa using this
  · refine ⟨hown.1, ?_⟩
    rcases hown.2 with h | ⟨g', cap, cur, hv, hg, hh, r⟩
    · exact .inl h
    · refine .inr ⟨g', cap, cur, hv, hg, ?_, r⟩
      rw [Below.heap_setCell _ _ _ _ ?_]
      · exact hh
      · show g' ≠ g
        rcases hblk with h5 | h5
        · exact (h4 g' (by rw [← h5, hv]; rfl)).2
        · rw [hv] at h5; simp [Value.ownBlock] at h5; omega
  · intro b hb
    rw [hb]
    refine ⟨by simp, ?_⟩
    rcases hblk with h5 | h5
    · exact (h4 b (by rw [← h5, hb])).2
    · rw [hb] at h5; simp at h5; omega
  · intro x hx
    have hz : (w'.setCell ⟨g, 0, none⟩ v').heap.size = w'.heap.size := by simp [World.setCell]
    rw [hz]
    simp at hx
    rcases hx with rfl | hx
    · exact kg.lt
    · exact (hown.lt x hx).2
  · have hb0 : BelowE F w.heap.size w w' := (BelowE.refl _ _ _).grown hgrow (Nat.le_refl _) (fun k hk _ => (h4 k hk).1)
    exact hb0.setIn (p := ⟨g, 0, none⟩) h3 _
  · intro x hx
    simp at hx
    rcases hx with rfl | hx
    · exact .inl h3
    · rcases hblk with h5 | h5
      · exact .inl (h4 x (by rw [← h5]; exact hx)).1
      · rw [hx] at h5; simp at h5; right; omega
theorem pput_nil (A : Option Addr) (n c : Nat) (w : World) :
    Calls Try.prog 43 #[.pointer none, .slice A n c] w fun e w' => e = .returned (.tuple #[]) ∧ w = w' := by
  go_enter Try.func43, Try.ntmps43
  go_wp2
  go_end0
  exact ⟨rfl, rfl⟩
end Go.Proofs.Ytkfgfbdlbiahkaa
