/- Zones: lives. -/
import Derived.Test.YtacbkddkjlnklaaDbmHolds
namespace Go.Proofs.Ytacbkddkjlnklaa
open Go.RowKit
set_option linter.unusedVariables false
set_option linter.unusedSimpArgs false

def zM : List Int := [1125899906842624, 1125899906842624, 1125899906842624, 1125899906842624, 1125899906842624, 3, 4, 1125899906842624, 1125899906842624]
def zY : List Int := [1125899906842624, -8, 1125899906842624, 1125899906842624, 1125899906842624, 3, 4, 1125899906842624, 1125899906842624]
def zD : List Int := [0, 1099511627776, 1099511627776, 7, 0, 3, 4, 1099511627780, 0]
def zA : List Int := [0, 1099511627776, 1099511627776, 0]
theorem zM_closed : closedL 2 zM = zD := by decide +kernel
theorem zY_closed : closedL 2 zY = [] := by decide +kernel
theorem zD_fix : zD = closedL 2 zD := by decide +kernel
theorem zD_full : Full 2 zD := ⟨by omega, rfl, by decide, zD_fix⟩
theorem zA_all : allL 1 = zA := by decide +kernel
def EndsZ (n err : Int) (m : Nat) (l : List Int) (w : World) (e : Ending) (w' : World) : Prop :=
  ∃ a c, e = .returned (.tuple #[.agg #[.int .i64 n, .slice a m c], .int .i64 err]) ∧ SL w' a m c l ∧ Below w.heap.size w w'
theorem ends_of {n err : Int} {m : Nat} {l : List Int} {w : World} {e : Ending} {w' : World} (hm : l.length = m) (hmx : m ≤ 9223372036854775807) (h : ZoneE n l err w e w') : EndsZ n err m l w e w' := by
  obtain ⟨a, c, rfl, hc, hs, hb, -⟩ := h
  subst hm
  exact ⟨a, c, rfl, ⟨rfl, hc, hmx, hs⟩, hb⟩
theorem EndsZ.from {n err : Int} {m : Nat} {l : List Int} {w w1 : World} {e : Ending} {w' : World} (h : EndsZ n err m l w1 e w') (hb : Below w.heap.size w w1) : EndsZ n err m l w e w' := by
  obtain ⟨a, c, rfl, hs, hb2⟩ := h
  exact ⟨a, c, rfl, hs, hb.trans (hb2.mono hb.size)⟩
theorem Gives.from {v : Value} {w w1 : World} {e : Ending} {w' : World} (h : Gives v w1 e w') (hb : Below w.heap.size w w1) : Gives v w e w' := ⟨h.1, hb.trans (h.2.mono hb.size)⟩
theorem sl_lit (W : World) (e : TypeId) (l : List Int) (m : Nat) (cs : Array Value) (h : cs = (nums .i64 l).toArray) (hm : m = l.length) (hmx : m ≤ 9223372036854775807) : SL (W.alloc (.cells cs e)) (some ⟨W.heap.size, 0, none⟩) m m l :=
  ⟨hm, Nat.le_refl _, hmx, by simpa using sees_new .i64 W e l cs h⟩
theorem c1_any (W : World) : Calls Try.prog 67 #[.int .i64 2, .slice (some ⟨W.heap.size, 0, none⟩) 9 9] (W.alloc (.cells #[.int .i64 1125899906842624, .int .i64 1125899906842624, .int .i64 1125899906842624, .int .i64 1125899906842624, .int .i64 1125899906842624, .int .i64 3, .int .i64 4, .int .i64 1125899906842624, .int .i64 1125899906842624] 3)) (EndsZ 2 0 9 zD W) := by
  have h := dclose_ok 2 (by omega) (some ⟨W.heap.size, 0, none⟩) zM 9 9 rfl rfl _ (sl_lit W 3 zM 9 _ rfl rfl (by omega)).sees
  rw [zM_closed] at h
  exact h.mono (fun e w' he => (ends_of rfl (by decide) he).from (box_below _ _ _))
theorem c2_any (W : World) : Calls Try.prog 67 #[.int .i64 2, .slice (some ⟨W.heap.size, 0, none⟩) 9 9] (W.alloc (.cells #[.int .i64 1125899906842624, .int .i64 (-8), .int .i64 1125899906842624, .int .i64 1125899906842624, .int .i64 1125899906842624, .int .i64 3, .int .i64 4, .int .i64 1125899906842624, .int .i64 1125899906842624] 3)) (EndsZ 2 0 0 [] W) := by
  have h := dclose_ok 2 (by omega) (some ⟨W.heap.size, 0, none⟩) zY 9 9 rfl rfl _ (sl_lit W 3 zY 9 _ rfl rfl (by omega)).sees
  rw [zY_closed] at h
  exact h.mono (fun e w' he => (ends_of rfl (by decide) he).from (box_below _ _ _))
theorem c3_any (W : World) (k : Nat) : Calls Try.prog 67 #[.int .i64 2, .slice (some ⟨k, 0, none⟩) 1 1] (W.alloc (.cells #[.int .i64 1] 3)) (EndsZ 0 1 0 [] W) := by
  have h := dclose_no 2 (some ⟨k, 0, none⟩) 1 1 (by omega) (by decide) (W.alloc (.cells #[.int .i64 1] 3))
  exact h.mono (fun e w' he => (ends_of rfl (by decide) he).from (box_below _ _ _))
theorem al_any (W : World) : Calls Try.prog 65 #[.int .i64 1] W (EndsZ 1 0 4 zA W) := by
  have h := dall_ok 1 (by omega) W
  rw [zA_all] at h
  exact h.mono (fun e w' he => ends_of rfl (by decide) he)
theorem b1_any (W : World) (a : Option Addr) (c : Nat) (h : SL W a 9 c zD) : Calls Try.prog 44 #[.agg #[.int .i64 2, .slice a 9 c], .int .i64 1, .int .i64 0] W (Gives (.tuple #[.int .i64 7, .bool true]) W) := by
  have h := bound_any 2 a 9 c zD 1 0 W h
  rwa [show bndV 2 zD 1 0 = 7 by decide +kernel, show bndB 2 zD 1 0 = true by decide +kernel] at h
def EndsP (m : Nat) (l : List Int) (w : World) (e : Ending) (w' : World) : Prop := ∃ a c, e = .returned (.tuple #[.slice a m c, .bool true]) ∧ SL w' a m c l ∧ Below w.heap.size w w'
theorem p1_any (W : World) (a : Option Addr) (c : Nat) (h : SL W a 9 c zD) : Calls Try.prog 45 #[.agg #[.int .i64 2, .slice a 9 c], .int .i64 0] W (EndsP 2 [7, 4] W) := by
  have h := point_ok 2 a 9 c zD 0 (by omega) zD_full W h
  refine h.mono ?_
  rintro e w' ⟨a2, c2, rfl, hc2, hs, hb⟩
  exact ⟨a2, c2, rfl, ⟨rfl, hc2, by omega, hs⟩, hb⟩
theorem e1_any (W : World) (a : Option Addr) (c : Nat) (h : SL W a 0 c []) : Calls Try.prog 36 #[.agg #[.int .i64 2, .slice a 0 c]] W (Gives (.bool true) W) := by
  have h := empty_any 2 a 0 c [] W h
  rwa [show emptyB 2 [] = true by decide +kernel] at h
theorem e2_any (W : World) (a : Option Addr) (c : Nat) (h : SL W a 9 c zD) : Calls Try.prog 36 #[.agg #[.int .i64 2, .slice a 9 c]] W (Gives (.bool false) W) := by
  have h := empty_any 2 a 9 c zD W h
  rwa [show emptyB 2 zD = false by decide +kernel] at h
theorem k1_any (W : World) (a : Option Addr) (c : Nat) (h : SL W a 9 c zD) : Calls Try.prog 76 #[.agg #[.int .i64 2, .slice a 9 c]] W (Gives (.int .i64 0) W) := by
  have h := dcheck_any 2 a 9 c zD W h
  rwa [show chk 2 zD = 0 by decide +kernel] at h
theorem k2_any (W : World) : Calls Try.prog 76 #[.agg #[.int .i64 1, .slice (some ⟨W.heap.size, 0, none⟩) 4 4]] (W.alloc (.cells #[.int .i64 0, .int .i64 0, .int .i64 0, .int .i64 1] 3)) (Gives (.int .i64 80) W) := by
  have h := dcheck_any 1 _ 4 4 [0, 0, 0, 1] _ (sl_lit W 3 [0, 0, 0, 1] 4 _ rfl rfl (by omega))
  rw [show chk 1 [0, 0, 0, 1] = 80 by decide +kernel] at h
  exact h.mono (fun e w' he => he.from (box_below _ _ _))
theorem h1_any (W : World) (a : Option Addr) (c : Nat) (h : SL W a 9 c zD) : Calls Try.prog 35 #[.agg #[.int .i64 2, .slice a 9 c], .slice (some ⟨W.heap.size, 0, none⟩) 2 2] (W.alloc (.cells #[.int .i64 7, .int .i64 4] 3)) (Gives (.bool true) W) := by
  have h := has_any 2 a 9 c zD _ 2 2 [7, 4] _ (h.below (box_below _ _ _)) (sl_lit W 3 [7, 4] 2 _ rfl rfl (by omega))
  rw [show hasB 2 zD [7, 4] = true by decide +kernel] at h
  exact h.mono (fun e w' he => he.from (box_below _ _ _))
theorem h2_any (W : World) (a : Option Addr) (c : Nat) (h : SL W a 9 c zD) : Calls Try.prog 35 #[.agg #[.int .i64 2, .slice a 9 c], .slice (some ⟨W.heap.size, 0, none⟩) 2 2] (W.alloc (.cells #[.int .i64 8, .int .i64 4] 3)) (Gives (.bool false) W) := by
  have h := has_any 2 a 9 c zD _ 2 2 [8, 4] _ (h.below (box_below _ _ _)) (sl_lit W 3 [8, 4] 2 _ rfl rfl (by omega))
  rw [show hasB 2 zD [8, 4] = false by decide +kernel] at h
  exact h.mono (fun e w' he => he.from (box_below _ _ _))
theorem s1_any (W : World) (a : Option Addr) (c : Nat) (h : SL W a 4 c zA) : Calls Try.prog 46 #[.agg #[.int .i64 1, .slice a 4 c], .agg #[.int .i64 1, .slice (some ⟨W.heap.size, 0, none⟩) 4 4]] (W.alloc (.cells #[.int .i64 0, .int .i64 1099511627776, .int .i64 1099511627776, .int .i64 0] 3)) (Gives (.bool true) W) := by
  have h := dsame_any 1 1 a _ zA zA 4 4 c 4 _ (h.below (box_below _ _ _)) (sl_lit W 3 zA 4 _ rfl rfl (by omega))
  simp only [decide_true, Bool.and_true] at h
  exact h.mono (fun e w' he => he.from (box_below _ _ _))
/-- What lives has laid so far. -/
structure Lv (w W : World) (g1 g5 g11 : Nat) (a1 a5 ap a11 : Option Addr) (c1 c5 cp c11 : Nat) : Prop where
  bl : Below w.heap.size w W
  z1 : ZH W g1 (.int .i64 2) (.slice a1 9 c1)
  s1 : SL W a1 9 c1 zD
  z5 : ZH W g5 (.int .i64 2) (.slice a5 0 c5)
  s5 : SL W a5 0 c5 []
  sp : SL W ap 2 cp [7, 4]
  z11 : ZH W g11 (.int .i64 1) (.slice a11 4 c11)
  s11 : SL W a11 4 c11 zA
theorem Lv.on {w W W' : World} {g1 g5 g11 : Nat} {a1 a5 ap a11 : Option Addr} {c1 c5 cp c11 : Nat} (h : Lv w W g1 g5 g11 a1 a5 ap a11 c1 c5 cp c11) (hb : Below W.heap.size W W') : Lv w W' g1 g5 g11 a1 a5 ap a11 c1 c5 cp c11 :=
  ⟨h.bl.trans (hb.mono h.bl.size), h.z1.below hb h.z1.lt, h.s1.below hb, h.z5.below hb h.z5.lt, h.s5.below hb, h.sp.below hb, h.z11.below hb h.z11.lt, h.s11.below hb⟩
end Go.Proofs.Ytacbkddkjlnklaa
