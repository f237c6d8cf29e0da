/- wto: Parse of the empty text. -/
import Derived.Test.YtpbminoefmpmpaaDoorWtoParse
namespace Go.Proofs.YtpbminoefmpmpaaDoor
open Go.RowKit
set_option linter.unusedVariables false
set_option linter.unusedSimpArgs false
set_option maxRecDepth 100000 in
set_option maxHeartbeats 4000000 in
theorem parse_empty (w : World) :
    Calls Tryd.prog 21 #[.string ⟨#[]⟩] w (ParE [] [] ⟨#[]⟩ w) := by
  have hmf : ∀ (fn : Fn) (first cap : Array Value) (w : World), (Instr.makeFunc fn first cap).run Tryd.prog w = .ok (.func fn first cap) w := fun _ _ _ _ => rfl
  have hlit := Lib.hid (lit_rc ⟨#[]⟩ [])
  obtain ⟨W3, hW3⟩ : ∃ W3, W3 = ((w.alloc (.cells #[.slice none 0 0, .slice none 0 0] 24)).alloc (.cells #[.int .i64 0] 3)).alloc (.cells #[.int .i64 0] 30) := ⟨_, rfl⟩
  have z3 : W3.heap.size = w.heap.size + 1 + 1 + 1 := by rw [hW3]; simp
  have G1 : Holds W3 w.heap.size 24 #[.slice none 0 0, .slice none 0 0] := by rw [hW3]; exact ((Holds.new w _ _).alloc _).alloc _
  have G2 : Holds W3 (w.heap.size + 1) 3 #[.int .i64 0] := by
    rw [hW3]
    have q := (Holds.new (w.alloc (.cells #[.slice none 0 0, .slice none 0 0] 24)) 3 #[.int .i64 0]).alloc (.cells #[.int .i64 0] 30)
    simpa using q
  have G3 : Holds W3 (w.heap.size + 1 + 1) 30 #[.int .i64 0] := by
    rw [hW3]
    have q := Holds.new ((w.alloc (.cells #[.slice none 0 0, .slice none 0 0] 24)).alloc (.cells #[.int .i64 0] 3)) 30 #[.int .i64 0]
    simpa using q
  have B3 : Below w.heap.size w W3 := by rw [hW3]; exact (((Below.refl _ _).alloc (Nat.le_refl _) _).alloc (by simp) _).alloc (by simp; omega) _
  obtain ⟨W4, hW4⟩ : ∃ W4, W4 = W3.alloc (.cells (rcells ⟨#[]⟩ 0 (.slice none 0 0) (.slice none 0 0) [] 0) 58) := ⟨_, rfl⟩
  have z4 : W4.heap.size = w.heap.size + 4 := by rw [hW4]; simp [z3]
  have b4 : Below W3.heap.size W3 W4 := by rw [hW4]; exact box_below _ _ _
  have R4 : RdI W4 W4.heap.size (w.heap.size + 1 + 1 + 1) ⟨#[]⟩ 0 0 [] [] none none 0 0 W4 := ⟨by rw [hW4, ← z3]; exact Holds.new _ _ _, World.ownsRow_nil _ _ _ _, World.ownsRow_nil _ _ _ _, fun x hx => (by cases hx), by omega, Nat.le_refl _, BelowE.refl _ _ _⟩
  have H1 := Lib.hid (G1.below b4 G1.lt)
  have H2 := Lib.hid (G2.below b4 G2.lt)
  have H3 := Lib.hid (G3.below b4 G3.lt)
  have B4 := Lib.hid (B3.trans (b4.mono B3.size))
  have hR := Lib.hid R4
  have hW3' := Lib.hid hW3
  have hW4' := Lib.hid hW4
  have z3' := Lib.hid z3
  have z4' := Lib.hid z4
  clear hW3 hW4 G1 G2 G3 B3 b4 R4 z3 z4
  go_enter_defers Tryd.func21, Tryd.ntmps21
  go_upto_region 8 with (fail)
  rw [hlit.out, ← hW3'.out, ← hW4'.out]
  have k1 := (hR.out.blk.cell 1).trans (rc1 _ _ _ _ _ _)
  have k2 := (hR.out.blk.cell 2).trans (rc2 _ _ _ _ _ _)
  have k3 := (hR.out.blk.cell 3).trans (rc3 _ _ _ _ _ _)
  have c10 := H1.out.cell 0
  have c11 := H1.out.cell 1
  have c20 := H2.out.cell 0
  have c30 := H3.out.cell 0
  have f10 := H1.out.free 0
  have f11 := H1.out.free 1
  have f20 := H2.out.free 0
  have f30 := H3.out.free 0
  simp at c10 c11 c20 c30
  clear hlit hW3' hW4'
  go_wp2_with fail
  refine leaves_cons (f := 34) (args := #[.pointer (some ⟨w.heap.size, 0, none⟩), .pointer (some ⟨w.heap.size + 1, 0, none⟩), .pointer (some ⟨w.heap.size + 1 + 1, 0, none⟩)]) (by simp) (by simp [go_sem]) ?_
  refine (idle_parse _ _ _ _).mono ?_
  rintro e u' w7 ⟨rfl, rfl, rfl⟩
  simp only [Leaves, settle]
  have M1 : Holds ((((W4.setCell ⟨w.heap.size, 0, none⟩ (.slice none 0 0)).setCell ⟨w.heap.size, 1, none⟩ (.slice none 0 0)).setCell ⟨w.heap.size + 1, 0, none⟩ (.int .i64 0)).setCell ⟨w.heap.size + 1 + 1, 0, none⟩ (.int .i64 0)) w.heap.size 24 #[.slice none 0 0, .slice none 0 0] := by
    have q := (((H1.out.set 0 (.slice none 0 0)).set 1 (.slice none 0 0)).far (p := ⟨w.heap.size + 1, 0, none⟩) (by show ¬ w.heap.size = w.heap.size + 1; omega) (.int .i64 0)).far (p := ⟨w.heap.size + 1 + 1, 0, none⟩) (by show ¬ w.heap.size = w.heap.size + 1 + 1; omega) (.int .i64 0)
    simpa using q
  have M2 : Holds ((((W4.setCell ⟨w.heap.size, 0, none⟩ (.slice none 0 0)).setCell ⟨w.heap.size, 1, none⟩ (.slice none 0 0)).setCell ⟨w.heap.size + 1, 0, none⟩ (.int .i64 0)).setCell ⟨w.heap.size + 1 + 1, 0, none⟩ (.int .i64 0)) (w.heap.size + 1) 3 #[.int .i64 0] := by
    have q := (((H2.out.far (p := ⟨w.heap.size, 0, none⟩) (by show ¬ w.heap.size + 1 = w.heap.size; omega) (.slice none 0 0)).far (p := ⟨w.heap.size, 1, none⟩) (by show ¬ w.heap.size + 1 = w.heap.size; omega) (.slice none 0 0)).set 0 (.int .i64 0)).far (p := ⟨w.heap.size + 1 + 1, 0, none⟩) (by show ¬ w.heap.size + 1 = w.heap.size + 1 + 1; omega) (.int .i64 0)
    simpa using q
  have M3 : Holds ((((W4.setCell ⟨w.heap.size, 0, none⟩ (.slice none 0 0)).setCell ⟨w.heap.size, 1, none⟩ (.slice none 0 0)).setCell ⟨w.heap.size + 1, 0, none⟩ (.int .i64 0)).setCell ⟨w.heap.size + 1 + 1, 0, none⟩ (.int .i64 0)) (w.heap.size + 1 + 1) 30 #[.int .i64 0] := by
    have q := (((H3.out.far (p := ⟨w.heap.size, 0, none⟩) (by show ¬ w.heap.size + 1 + 1 = w.heap.size; omega) (.slice none 0 0)).far (p := ⟨w.heap.size, 1, none⟩) (by show ¬ w.heap.size + 1 + 1 = w.heap.size; omega) (.slice none 0 0)).far (p := ⟨w.heap.size + 1, 0, none⟩) (by show ¬ w.heap.size + 1 + 1 = w.heap.size + 1; omega) (.int .i64 0)).set 0 (.int .i64 0)
    simpa using q
  have B5 := (((B4.out.setCell (p := ⟨w.heap.size, 0, none⟩) (Nat.le_refl _) (.slice none 0 0)).setCell (p := ⟨w.heap.size, 1, none⟩) (Nat.le_refl _) (.slice none 0 0)).setCell (p := ⟨w.heap.size + 1, 0, none⟩) (by show w.heap.size ≤ w.heap.size + 1; omega) (.int .i64 0)).setCell (p := ⟨w.heap.size + 1 + 1, 0, none⟩) (by show w.heap.size ≤ w.heap.size + 1 + 1; omega) (.int .i64 0)
  exact ⟨_, parse_results _ _ w.heap.size (w.heap.size + 1) (w.heap.size + 1 + 1) _ _ _ _ rfl rfl rfl M1 M2 M3, none, 0, none, 0, rfl, ⟨SL.nil _, SL.nil _⟩, B5⟩
end Go.Proofs.YtpbminoefmpmpaaDoor
