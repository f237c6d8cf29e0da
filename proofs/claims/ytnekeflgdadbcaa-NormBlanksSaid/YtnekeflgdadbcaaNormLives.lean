/- 'lives' of the statements on norm. -/
import Derived.Test.YtnekeflgdadbcaaNormKey
import Derived.Test.YtnekeflgdadbcaaNormSame
namespace Go.Proofs.Ytnekeflgdadbcaa
open Go.RowKit
set_option linter.unusedVariables false
set_option linter.unusedSimpArgs false

theorem sees_litT (w : World) (e : TypeId) (l : List ByteArray) (cs : Array Value) (h : cs = (txts l).toArray) (fr : Nat × Nat := (0, 0)) : SeesT (w.alloc (.cells cs e fr)).heap.size (w.alloc (.cells cs e fr)) (some ⟨w.heap.size, 0, none⟩) l := by
  subst h
  refine .inr ⟨w.heap.size, 0, rfl, by simp, fun i hi => ?_⟩
  rw [cell_of_row _ _ _ _ _ _ (heap_alloc_new w _)]
  simp [txts, List.getD, hi]
theorem lit1 : partsL (codes ⟨#[32, 97, 46, 98, 32, 60, 61, 51, 32]⟩) = [[97, 46, 98], [60], [61], [51]] := by
  rw [show codes ⟨#[32, 97, 46, 98, 32, 60, 61, 51, 32]⟩ = [32, 97, 46, 98, 32, 60, 61, 51, 32] by rfl]
  simp [partsL, wdB, letB]
theorem lit2 : normS (codes ⟨#[105, 32, 32, 45, 110, 60, 61, 32, 97, 32, 98]⟩) = [105, 45, 110, 60, 61, 97, 32, 98] := by
  rw [show codes ⟨#[105, 32, 32, 45, 110, 60, 61, 32, 97, 32, 98]⟩ = [105, 32, 32, 45, 110, 60, 61, 32, 97, 32, 98] by rfl]
  simp [normS, normL, hw, partsL, wdB, letB]
theorem lit3 : decide (partsL (codes ⟨#[120, 32, 45, 32, 121]⟩) = partsL (codes ⟨#[32, 120, 45, 121]⟩)) = true := by
  rw [show codes ⟨#[120, 32, 45, 32, 121]⟩ = [120, 32, 45, 32, 121] by rfl, show codes ⟨#[32, 120, 45, 121]⟩ = [32, 120, 45, 121] by rfl]
  simp [partsL, wdB, letB]
theorem lit4 : decide (partsL (codes ⟨#[120, 121]⟩) = partsL (codes ⟨#[120, 32, 121]⟩)) = false := by
  rw [show codes ⟨#[120, 121]⟩ = [120, 121] by rfl, show codes ⟨#[120, 32, 121]⟩ = [120, 32, 121] by rfl]
  simp [partsL, wdB, letB]
theorem lit5 : keyL 1 ⟨#[102]⟩ (normS (codes ⟨#[97, 32, 45, 32, 98]⟩)) = [1, 1, 102, 3, 97, 45, 98] := by
  rw [show codes ⟨#[97, 32, 45, 32, 98]⟩ = [97, 32, 45, 32, 98] by rfl]
  rw [show normS [97, 32, 45, 32, 98] = [97, 45, 98] by simp [normS, normL, hw, partsL, wdB, letB]]
  rw [keyL, show (max (1 : Int) 0).toNat = 1 by rfl, show (ByteArray.mk #[102]).size = 1 by rfl, show ([97, 45, 98] : List Int).length = 3 by rfl, leb_small (by omega), leb_small (by omega)]
  rfl

set_option maxRecDepth 100000 in
set_option maxHeartbeats 4000000 in
theorem lives_any (w : World) : Calls Try.prog 7 #[] w (Gives (.bool true) w) := by
  have c1 := Lib.hid (fun W => (parts_any ⟨#[32, 97, 46, 98, 32, 60, 61, 51, 32]⟩ (by decide) W))
  rw [lit1] at c1
  have c2 := Lib.hid (fun W => (norm_any ⟨#[105, 32, 32, 45, 110, 60, 61, 32, 97, 32, 98]⟩ (by decide) W))
  rw [lit2] at c2
  have c3 := Lib.hid (fun W => (nsame_any ⟨#[120, 32, 45, 32, 121]⟩ ⟨#[32, 120, 45, 121]⟩ (by decide) (by decide) W))
  rw [lit3] at c3
  have c4 := Lib.hid (fun W => (nsame_any ⟨#[120, 121]⟩ ⟨#[120, 32, 121]⟩ (by decide) (by decide) W))
  rw [lit4] at c4
  have c5 := Lib.hid (fun W => (key_any 1 (by decide) ⟨#[102]⟩ ⟨#[97, 32, 45, 32, 98]⟩ (by decide) (by decide) W))
  rw [lit5] at c5
  rw [show strOfNums [105, 45, 110, 60, 61, 97, 32, 98] = ⟨#[105, 45, 110, 60, 61, 97, 32, 98]⟩ by rfl] at c2
  go_enter Try.func7, Try.ntmps7
  go_wp2_with fail
  refine (c1.out w).mono ?_
  rintro e w1 h1
  obtain ⟨a1, k1, rfl, l1, s1, b1⟩ := h1.open
  have s1' := Lib.hid s1
  have b1' := Lib.hid b1
  have l1' : 4 ≤ k1 := l1
  clear h1 s1 b1 l1
  go_wp2_with fail
  refine (c2.out w1).mono ?_
  rintro e w2 ⟨rfl, b2⟩
  have b2' := Lib.hid (b1'.out.trans (b2.mono b1'.out.size))
  have s2' := Lib.hid (s1'.out.below b2 |>.mono b2.size)
  clear b2 s1' b1'
  go_wp2_with fail
  have hlit := sees_litT w2 9 [⟨#[97, 46, 98]⟩, ⟨#[60]⟩, ⟨#[61]⟩, ⟨#[51]⟩] _ rfl
  have hal : Below w2.heap.size w2 (w2.alloc (.cells (txts [⟨#[97, 46, 98]⟩, ⟨#[60]⟩, ⟨#[61]⟩, ⟨#[51]⟩]).toArray 9)) := (Below.refl _ _).alloc (Nat.le_refl _) _
  refine (same_any a1 4 k1 _ (some ⟨w2.heap.size, 0, none⟩) 4 4 _ _ rfl rfl l1' (by decide) (by decide) (by decide) (s2'.out.below hal |>.mono hal.size) hlit).mono ?_
  rintro e w3 ⟨rfl, b3⟩
  have b3' := Lib.hid ((b2'.out.trans (hal.mono b2'.out.size)).trans (b3.mono (by have := b2'.out.size; have := hal.size; omega)))
  rw [show decide (List.map strOfNums [[97, 46, 98], [60], [61], [51]] = [⟨#[97, 46, 98]⟩, ⟨#[60]⟩, ⟨#[61]⟩, ⟨#[51]⟩]) = true from decide_eq_true (by rfl)]
  clear b3 hal hlit s2' b2' l1'
  go_wp2_with fail
  refine (c3.out w3).mono ?_
  rintro e w4 ⟨rfl, b4⟩
  have b4' := Lib.hid (b3'.out.trans (b4.mono b3'.out.size))
  clear b4 b3'
  go_wp2_with fail
  refine (c4.out w4).mono ?_
  rintro e w5 ⟨rfl, b5⟩
  have b5' := Lib.hid (b4'.out.trans (b5.mono b4'.out.size))
  clear b5 b4'
  go_wp2_with fail
  refine (c5.out w5).mono ?_
  rintro e w6 h6
  obtain ⟨a6, k6, rfl, s6, b6⟩ := h6.open 7 rfl
  have b6' := Lib.hid (b5'.out.trans (b6.mono b5'.out.size))
  have hcv := fun (W : World) (hb : Below w6.heap.size w6 W) => conv_sees (P := Try.prog) 30 9 5 Try.underlying30 Try.underlying5 Try.underlying9 (s6.below hb) 7 k6 rfl
  have hc := hcv w6 (Below.refl _ _)
  rw [show strOfNums [1, 1, 102, 3, 97, 45, 98] = ⟨#[1, 1, 102, 3, 97, 45, 98]⟩ by rfl] at hc
  clear b6 b5' h6 hcv s6
  go_wp2_with fail
  go_ret
  exact ⟨rfl, b6'.out⟩
end Go.Proofs.Ytnekeflgdadbcaa
