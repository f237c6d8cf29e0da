import Derived.Lib.BufferMore
import Derived.OwnWalk
import Derived.Test.YtplgmmjppmpnoaaDoorQ06
/- Zones: the document's Holds, Has; Point. -/
namespace Go.Proofs.YtplgmmjppmpnoaaDoor
open Go.RowKit
set_option linter.unusedVariables false
set_option linter.unusedSimpArgs false

def holdsB (l v : List Int) : Bool := decide (l.length = sz v.length) && (!v.any farB && cellsB v.length l v)
/-- The point of j. -/
def pointL (n : Nat) (l : List Int) (j : Nat) : List Int := (List.range n).map fun k => l.getD ((k + 1) * (n + 1) + j) 0 - l.getD j 0
theorem point_step (n : Nat) (l : List Int) (j k : Nat) (hk : k < n) : (pointL n l j).take k ++ [l.getD ((k + 1) * (n + 1) + j) 0 - l.getD j 0] = (pointL n l j).take (k + 1) := by
  have hl : k < (pointL n l j).length := by simp [pointL, hk]
  have e : (pointL n l j)[k] = l.getD ((k + 1) * (n + 1) + j) 0 - l.getD j 0 := by simp [pointL]
  rw [← List.take_append_getElem hl, e]
def PointS (n : Nat) (l : List Int) (j : Nat) (w : World) (e : Ending) (w' : World) : Prop := ∃ a c, e = .returned (.tuple #[.slice a n c, .bool true]) ∧ n ≤ c ∧ Sees .i64 w'.heap.size w' a (pointL n l j) ∧ Below w.heap.size w w'
theorem full_at {n : Nat} {l : List Int} (hF : Full n l) {p : Nat} (hp : p < sz n) : -2199023255552 ≤ l.getD p 0 ∧ l.getD p 0 ≤ 2199023255552 := by
  obtain ⟨q1, q2, q3⟩ := place_of hp
  have e : l.getD p 0 = mat n l (p / (n + 1)) (p % (n + 1)) := by unfold mat; rw [q3]
  have h1 := hF.up q1 q2
  have h2 := hF.low q1 q2
  have h3 := widestF_le (p / (n + 1)) (p % (n + 1))
  have h4 := widestF_le (p % (n + 1)) (p / (n + 1))
  omega
end Go.Proofs.YtplgmmjppmpnoaaDoor
/- Zones: lives. -/
namespace Go.Proofs.YtplgmmjppmpnoaaDoor
open Go.RowKit
set_option linter.unusedVariables false
set_option linter.unusedSimpArgs false

def zM : List Int := [1125899906842624, 1125899906842624, 1125899906842624, 1125899906842624, 1125899906842624, 3, 4, 1125899906842624, 1125899906842624]
def zY : List Int := [1125899906842624, -8, 1125899906842624, 1125899906842624, 1125899906842624, 3, 4, 1125899906842624, 1125899906842624]
def zD : List Int := [0, 1099511627776, 1099511627776, 7, 0, 3, 4, 1099511627780, 0]
def zA : List Int := [0, 1099511627776, 1099511627776, 0]
theorem zM_closed : closedL 2 zM = zD := by decide +kernel
theorem zY_closed : closedL 2 zY = [] := by decide +kernel
theorem zD_fix : zD = closedL 2 zD := by decide +kernel
theorem zD_full : Full 2 zD := ⟨by omega, rfl, by decide, zD_fix⟩
theorem zA_all : allL 1 = zA := by decide +kernel
def EndsZ (n err : Int) (m : Nat) (l : List Int) (w : World) (e : Ending) (w' : World) : Prop :=
  ∃ a c, e = .returned (.tuple #[.agg #[.int .i64 n, .slice a m c], .int .i64 err]) ∧ SL w' a m c l ∧ Below w.heap.size w w'
theorem ends_of {n err : Int} {m : Nat} {l : List Int} {w : World} {e : Ending} {w' : World} (hm : l.length = m) (hmx : m ≤ 9223372036854775807) (h : ZoneE n l err w e w') : EndsZ n err m l w e w' := by
  obtain ⟨a, c, rfl, hc, hs, hb, -⟩ := h
  subst hm
  exact ⟨a, c, rfl, ⟨rfl, hc, hmx, hs⟩, hb⟩
theorem EndsZ.from {n err : Int} {m : Nat} {l : List Int} {w w1 : World} {e : Ending} {w' : World} (h : EndsZ n err m l w1 e w') (hb : Below w.heap.size w w1) : EndsZ n err m l w e w' := by
  obtain ⟨a, c, rfl, hs, hb2⟩ := h
  exact ⟨a, c, rfl, hs, hb.trans (hb2.mono hb.size)⟩
theorem Gives.from {v : Value} {w w1 : World} {e : Ending} {w' : World} (h : Gives v w1 e w') (hb : Below w.heap.size w w1) : Gives v w e w' := ⟨h.1, hb.trans (h.2.mono hb.size)⟩
theorem sl_lit (W : World) (e : TypeId) (l : List Int) (m : Nat) (cs : Array Value) (h : cs = (nums .i64 l).toArray) (hm : m = l.length) (hmx : m ≤ 9223372036854775807) : SL (W.alloc (.cells cs e)) (some ⟨W.heap.size, 0, none⟩) m m l :=
  ⟨hm, Nat.le_refl _, hmx, by simpa using sees_new .i64 W e l cs h⟩
theorem c1_any (W : World) : Calls Tryd.prog 80 #[.int .i64 2, .slice (some ⟨W.heap.size, 0, none⟩) 9 9] (W.alloc (.cells #[.int .i64 1125899906842624, .int .i64 1125899906842624, .int .i64 1125899906842624, .int .i64 1125899906842624, .int .i64 1125899906842624, .int .i64 3, .int .i64 4, .int .i64 1125899906842624, .int .i64 1125899906842624] 3)) (EndsZ 2 0 9 zD W) := by
  have h := dclose_ok 2 (by omega) (some ⟨W.heap.size, 0, none⟩) zM 9 9 rfl rfl _ (sl_lit W 3 zM 9 _ rfl rfl (by omega)).sees
  rw [zM_closed] at h
  exact h.mono (fun e w' he => (ends_of rfl (by decide) he).from (box_below _ _ _))
theorem c2_any (W : World) : Calls Tryd.prog 80 #[.int .i64 2, .slice (some ⟨W.heap.size, 0, none⟩) 9 9] (W.alloc (.cells #[.int .i64 1125899906842624, .int .i64 (-8), .int .i64 1125899906842624, .int .i64 1125899906842624, .int .i64 1125899906842624, .int .i64 3, .int .i64 4, .int .i64 1125899906842624, .int .i64 1125899906842624] 3)) (EndsZ 2 0 0 [] W) := by
  have h := dclose_ok 2 (by omega) (some ⟨W.heap.size, 0, none⟩) zY 9 9 rfl rfl _ (sl_lit W 3 zY 9 _ rfl rfl (by omega)).sees
  rw [zY_closed] at h
  exact h.mono (fun e w' he => (ends_of rfl (by decide) he).from (box_below _ _ _))
theorem c3_any (W : World) (k : Nat) : Calls Tryd.prog 80 #[.int .i64 2, .slice (some ⟨k, 0, none⟩) 1 1] (W.alloc (.cells #[.int .i64 1] 3)) (EndsZ 0 1 0 [] W) := by
  have h := dclose_no 2 (some ⟨k, 0, none⟩) 1 1 (by omega) (by decide) (W.alloc (.cells #[.int .i64 1] 3))
  exact h.mono (fun e w' he => (ends_of rfl (by decide) he).from (box_below _ _ _))
def EndsP (m : Nat) (l : List Int) (w : World) (e : Ending) (w' : World) : Prop := ∃ a c, e = .returned (.tuple #[.slice a m c, .bool true]) ∧ SL w' a m c l ∧ Below w.heap.size w w'
theorem e1_any (W : World) (a : Option Addr) (c : Nat) (h : SL W a 0 c []) : Calls Tryd.prog 20 #[.agg #[.int .i64 2, .slice a 0 c]] W (Gives (.bool true) W) := by
  have h := empty_any 2 a 0 c [] W h
  rwa [show emptyB 2 [] = true by decide +kernel] at h
theorem e2_any (W : World) (a : Option Addr) (c : Nat) (h : SL W a 9 c zD) : Calls Tryd.prog 20 #[.agg #[.int .i64 2, .slice a 9 c]] W (Gives (.bool false) W) := by
  have h := empty_any 2 a 9 c zD W h
  rwa [show emptyB 2 zD = false by decide +kernel] at h
theorem k1_any (W : World) (a : Option Addr) (c : Nat) (h : SL W a 9 c zD) : Calls Tryd.prog 29 #[.agg #[.int .i64 2, .slice a 9 c]] W (Gives (.int .i64 0) W) := by
  have h := dcheck_any 2 a 9 c zD W h
  rwa [show chk 2 zD = 0 by decide +kernel] at h
theorem k2_any (W : World) : Calls Tryd.prog 29 #[.agg #[.int .i64 1, .slice (some ⟨W.heap.size, 0, none⟩) 4 4]] (W.alloc (.cells #[.int .i64 0, .int .i64 0, .int .i64 0, .int .i64 1] 3)) (Gives (.int .i64 80) W) := by
  have h := dcheck_any 1 _ 4 4 [0, 0, 0, 1] _ (sl_lit W 3 [0, 0, 0, 1] 4 _ rfl rfl (by omega))
  rw [show chk 1 [0, 0, 0, 1] = 80 by decide +kernel] at h
  exact h.mono (fun e w' he => he.from (box_below _ _ _))
/-- What lives has laid so far. -/
structure Lv (w W : World) (g1 g5 g11 : Nat) (a1 a5 ap a11 : Option Addr) (c1 c5 cp c11 : Nat) : Prop where
  bl : Below w.heap.size w W
  z1 : ZH W g1 (.int .i64 2) (.slice a1 9 c1)
  s1 : SL W a1 9 c1 zD
  z5 : ZH W g5 (.int .i64 2) (.slice a5 0 c5)
  s5 : SL W a5 0 c5 []
  sp : SL W ap 2 cp [7, 4]
  z11 : ZH W g11 (.int .i64 1) (.slice a11 4 c11)
  s11 : SL W a11 4 c11 zA
theorem Lv.on {w W W' : World} {g1 g5 g11 : Nat} {a1 a5 ap a11 : Option Addr} {c1 c5 cp c11 : Nat} (h : Lv w W g1 g5 g11 a1 a5 ap a11 c1 c5 cp c11) (hb : Below W.heap.size W W') : Lv w W' g1 g5 g11 a1 a5 ap a11 c1 c5 cp c11 :=
  ⟨h.bl.trans (hb.mono h.bl.size), h.z1.below hb h.z1.lt, h.s1.below hb, h.z5.below hb h.z5.lt, h.s5.below hb, h.sp.below hb, h.z11.below hb h.z11.lt, h.s11.below hb⟩
end Go.Proofs.YtplgmmjppmpnoaaDoor
/- DbmHas: the walk of the statement's function. -/
namespace Go.Proofs.YtplgmmjppmpnoaaDoor
open Go.RowKit
set_option linter.unusedVariables false
set_option linter.unusedSimpArgs false

/-- What a list's values differ by. -/
def difF (v : List Int) (i j : Nat) : Int := valF v i - valF v j
theorem dif_closed (n : Nat) (v : List Int) : Closed n (difF v) := ⟨fun i _ => by unfold difF; omega, fun i j k _ _ _ => by unfold difF; omega⟩
theorem cells_iff (n : Nat) (l v : List Int) : cellsB n l v = true ↔ Leq n (difF v) (mat n l) := by
  constructor
  · intro h i j hi hj
    have ht := place_lt hi hj
    have := List.all_eq_true.1 h (i * (n + 1) + j) (List.mem_range.2 ht)
    unfold cellB at this
    rw [place_div hj, place_mod hj] at this
    exact of_decide_eq_true this
  · intro h
    refine cellsB_yes (fun t ht => ?_)
    obtain ⟨q1, q2, q3⟩ := place_of ht
    have := h _ _ q1 q2
    unfold cellB
    apply decide_eq_true
    unfold mat at this
    rw [q3] at this
    exact this
theorem dif_widest {v : List Int} (h : v.any farB = false) (i j : Nat) : difF v i j ≤ widestF i j ∧ -2199023255552 ≤ difF v i j := by
  have h1 := val_in h i
  have h2 := val_in h j
  have h0 : valF v 0 = 0 := by unfold valF; rw [if_pos rfl]
  unfold difF widestF
  split
  · rename_i e; subst e; omega
  · split
    · rename_i e
      rcases e with rfl | rfl <;> omega
    · omega
theorem dif_clip {n : Nat} {m v : List Int} (h : v.any farB = false) : Leq n (difF v) (mat n (clipL n m)) ↔ Leq n (difF v) (mat n m) := by
  constructor
  · intro hh i j hi hj
    have := hh i j hi hj
    unfold clipL at this
    rw [mat_matL _ hi hj] at this
    have := dif_widest h i j
    unfold clipF at *
    omega
  · intro hh i j hi hj
    have := hh i j hi hj
    unfold clipL
    rw [mat_matL _ hi hj]
    have := dif_widest h i j
    unfold clipF
    omega
theorem holds_ne {m v : List Int} (h : holdsB m v = true) : closedL v.length m ≠ [] := by
  unfold holdsB at h
  rw [Bool.and_eq_true, Bool.and_eq_true] at h
  have hf : v.any farB = false := by simpa using h.2.1
  have := (cells_iff _ _ _).1 h.2.2
  exact closedL_ne (closedL_max (dif_closed _ v) ((dif_clip hf).2 this)).1
theorem closed_full {n : Nat} (hn : n ≤ 8) {m : List Int} (h : closedL n m ≠ []) : Full n (closedL n m) := ⟨hn, (closedL_is h).1, h, (closedL_again h).symm⟩
theorem has_holds {m v : List Int} (hn : v.length ≤ 8) (hl : m.length = sz v.length) : hasB v.length (closedL v.length m) v = holdsB m v := by
  have ht : (((v.length : Nat) : Int)).toNat = v.length := by omega
  by_cases hc : closedL v.length m = []
  · have h1 : hasB v.length (closedL v.length m) v = false := by unfold hasB; rw [hc]; rfl
    rw [h1]
    cases h2 : holdsB m v
    · rfl
    · exact absurd hc (holds_ne h2)
  · have hF := closed_full hn hc
    unfold hasB holdsB
    rw [hF.is, ht, decide_eq_true hl, decide_eq_true rfl, Bool.true_and, Bool.true_and, Bool.true_and]
    cases hf : v.any farB
    · rw [Bool.not_false, Bool.true_and, Bool.true_and]
      apply Bool.eq_iff_iff.2
      rw [cells_iff, cells_iff]
      obtain ⟨h3, h4, h5⟩ := closedL_is hc
      constructor
      · intro h
        exact (dif_clip hf).1 (fun i j hi hj => Int.le_trans (h i j hi hj) (h5 i j hi hj))
      · intro h
        exact (closedL_max (dif_closed _ v) ((dif_clip hf).2 h)).2
    · rfl
end Go.Proofs.YtplgmmjppmpnoaaDoor
/- DbmCloses: the walk of the statement's function. (Written by gen-dbm-closes.py.) -/
namespace Go.Proofs.YtplgmmjppmpnoaaDoor
open Go.RowKit
set_option linter.unusedVariables false
set_option linter.unusedSimpArgs false

theorem closed_chk {n : Nat} (hn : n ≤ 8) (m : List Int) : chk n (closedL n m) = 0 ∧ emptyB n (closedL n m) = decide (closedL n m = []) := by
  by_cases h : closedL n m = []
  · rw [h]
    have e := checkB_nil (mayB_nat hn)
    unfold chk emptyB
    rw [e]
    simp
  · have hF := closed_full hn h
    have e : checkB n (closedL n m) = true := by rw [checkB_sz hn h hF.len]; exact decide_eq_true hF.fix
    unfold chk emptyB
    rw [e]
    simp
theorem closed_small {n : Nat} (hn : n ≤ 8) (m : List Int) : (closedL n m).length ≤ 81 := by
  have := sz_le hn
  by_cases h : closedL n m = []
  · rw [h]; simp
  · have : (closedL n m).length = sz n := (closedL_is h).1
    omega
theorem ret_tt {e : Ending} {b : Bool} (h : e = .returned (.bool b)) (hb : b = true) : e = .returned (.bool true) := by rw [h, hb]
theorem rzone_nil (w : World) (n : Int) (a : Option Addr) (c : Nat) (h : SL w a 0 c []) : Calls Tryd.prog 9 #[.agg #[.int .i64 0, .slice a 0 c], .agg #[.int .i64 0, .slice none 0 0]] w (Gives (.bool true) w) := by
  have := rsame_any 0 0 a none [] [] 0 0 c 0 w h (SL.nil w)
  simpa using this
theorem rsame_self (n : Int) (a1 a2 : Option Addr) (l : List Int) (m c1 c2 : Nat) (w : World) (h1 : SL w a1 m c1 l) (h2 : SL w a2 m c2 l) :
    Calls Tryd.prog 9 #[.agg #[.int .i64 n, .slice a1 m c1], .agg #[.int .i64 n, .slice a2 m c2]] w (Gives (.bool true) w) := by
  have := rsame_any n n a1 a2 l l m m c1 c2 w h1 h2
  simpa using this
/-- A zone that the document's function hands back, its length a letter. -/
theorem zones_of {n : Int} {l : List Int} {w : World} {e : Ending} {w' : World} {m : Nat} (hm : l.length = m) (hmx : m ≤ 9223372036854775807) (h : ZoneS n l w e w') : ∃ a c, e = .returned (.agg #[.int .i64 n, .slice a m c]) ∧ SL w' a m c l ∧ Below w.heap.size w w' := by
  obtain ⟨a, c, rfl, hc, hs, hb, -⟩ := h
  subst hm
  exact ⟨a, c, rfl, ⟨rfl, hc, hmx, hs⟩, hb⟩
end Go.Proofs.YtplgmmjppmpnoaaDoor
/- DbmTight: the walk of the statement's function. -/
namespace Go.Proofs.YtplgmmjppmpnoaaDoor
open Go.RowKit
set_option linter.unusedVariables false
set_option linter.unusedSimpArgs false

theorem point_at {n : Nat} {l : List Int} (hF : Full n l) {i j : Nat} (hi : i ≤ n) (hj : j ≤ n) : valF (pointL n l j) i = mat n l i j - mat n l 0 j := by
  unfold valF mat
  split
  · rename_i e; subst e; simp
  · have h : i - 1 < n := by omega
    unfold pointL
    simp [List.getD, h]
    rw [show i - 1 + 1 = i by omega]
theorem point_len (n : Nat) (l : List Int) (j : Nat) : (pointL n l j).length = n := by simp [pointL]
theorem point_near {n : Nat} {l : List Int} (hF : Full n l) {j : Nat} (hj : j ≤ n) : (pointL n l j).any farB = false := by
  rw [List.any_eq_false]
  intro x hx
  obtain ⟨k, hk, rfl⟩ := List.getElem_of_mem hx
  rw [point_len] at hk
  have h1 := point_at hF (i := k + 1) (by omega) hj
  unfold valF at h1
  rw [if_neg (by omega)] at h1
  have h2 : (pointL n l j)[k]'(by rw [point_len]; exact hk) = mat n l (k + 1) j - mat n l 0 j := by
    simpa [List.getD, point_len, hk] using h1
  rw [h2]
  have t1 := hF.closed.tri (k + 1) j 0 (by omega) hj (by omega)
  have t2 := hF.closed.tri 0 j (k + 1) (by omega) hj (by omega)
  have u1 := hF.up (i := k + 1) (j := 0) (by omega) (by omega)
  have u2 := hF.up (i := 0) (j := k + 1) (by omega) (by omega)
  have e1 : widestF (k + 1) 0 = 1099511627776 := by unfold widestF; rw [if_neg (by omega), if_pos (.inr rfl)]
  have e2 : widestF 0 (k + 1) = 1099511627776 := by unfold widestF; rw [if_neg (by omega), if_pos (.inl rfl)]
  unfold farB
  simp
  omega
theorem point_has {n : Nat} {l : List Int} (hF : Full n l) {j : Nat} (hj : j ≤ n) : hasB n l (pointL n l j) = true := by
  have ht : (((n : Nat) : Int)).toNat = n := by omega
  unfold hasB
  rw [hF.is, point_len, ht, point_near hF hj, decide_eq_true rfl, Bool.true_and, Bool.true_and, Bool.not_false, Bool.true_and, cells_iff]
  intro a b ha hb
  unfold difF
  rw [point_at hF ha hj, point_at hF hb hj]
  have := hF.closed.tri a j b ha hj hb
  omega
theorem point_holds {n : Nat} (hn : n ≤ 8) {m : List Int} (hm : m.length = sz n) {j : Nat} (hj : j ≤ n) (hR : closedL n m ≠ []) : holdsB m (pointL n (closedL n m) j) = true := by
  have hF := closed_full hn hR
  have h1 := has_holds (m := m) (v := pointL n (closedL n m) j) (by rw [point_len]; exact hn) (by rw [point_len]; exact hm)
  rw [point_len] at h1
  rw [← h1]
  exact point_has hF hj
/-- What the loops of DbmTight find. -/
structure Tg (w W : World) (g : Nat) (n : Nat) (a : Option Addr) (m c : Nat) (R : List Int) (aq : Option Addr) (nq cq : Nat) (Q : List Int) : Prop where
  bl : Below w.heap.size w W
  z : ZH W g (.int .i64 n) (.slice a m c)
  s : SL W a m c R
  q : SL W aq nq cq Q
theorem Tg.on {w W W' : World} {g n : Nat} {a : Option Addr} {m c : Nat} {R : List Int} {aq : Option Addr} {nq cq : Nat} {Q : List Int} (h : Tg w W g n a m c R aq nq cq Q) (hb : Below W.heap.size W W') : Tg w W' g n a m c R aq nq cq Q :=
  ⟨h.bl.trans (hb.mono h.bl.size), h.z.below hb h.z.lt, h.s.below hb, h.q.below hb⟩
theorem gives_of_reads {v : Value} {w : World} {e : Ending} {w' : World} (h : ReadsV v w e w') : Gives v w e w' := by
  obtain ⟨he, m, rfl⟩ := h
  exact ⟨he, Below.drewN (Below.refl _ _) m⟩
end Go.Proofs.YtplgmmjppmpnoaaDoor
/- Zones put together: two, empty, clone. -/
namespace Go.Proofs.YtplgmmjppmpnoaaDoor
open Go.RowKit
set_option linter.unusedVariables false
set_option linter.unusedSimpArgs false

/-- What is wrong with two zones. -/
def twoE (n1 : Int) (l1 : List Int) (n2 : Int) (l2 : List Int) : Int := if checkB n1 l1 = false ∨ checkB n2 l2 = false then 80 else if n1 = n2 then 0 else 1
theorem zempty_any (n : Int) (a : Option Addr) (m c : Nat) (l : List Int) (w : World) (h : SL w a m c l) :
    Calls Tryd.prog 79 #[.agg #[.int .i64 n, .slice a m c]] w (Gives (.bool (decide (l = []))) w) := by
  have hB := box_below w #[.int .i64 n, .slice a m c] 24
  have hmx := h.max
  by_cases h0 : l = []
  · rw [decide_eq_true h0]
    have hm : m = 0 := by rw [h.len, h0]; rfl
    subst hm
    clear h h0
    go_enter Tryd.func79, Tryd.ntmps79
    go_wp2
    go_ret
    exact ⟨rfl, hB⟩
  · rw [decide_eq_false h0]
    have hm := len_pos h0 h.len
    have e1 : ((m : Int) == 0) = false := by simp; omega
    clear h h0 hm
    go_enter Tryd.func79, Tryd.ntmps79
    go_wp2
    go_ret
    exact ⟨rfl, hB⟩
theorem iclone_any (A : Option Addr) (l : List Int) (n c : Nat) (hn : n = l.length) (hl : l.length ≤ 1000000) (w : World) (hs : Sees .i64 w.heap.size w A l) :
    Calls Tryd.prog 45 #[.slice A n c] w (Made 3 .i64 w l) := by
  obtain ⟨i0, hi, hz0, hz1, hz2⟩ := info_parts infoInt
  subst hn
  cases A with
  | none =>
    have hl0 : l = [] := by
      rcases hs with h | ⟨b, off, h, _⟩
      · exact h
      · cases h
    subst hl0
    have hq := fun W => Lib.run_eql_slice_nil_nil (P := Tryd.prog) W (t := 22) (e := 3) 0 c Tryd.underlying22
    go_enter Tryd.func45, Tryd.ntmps45
    go_wp2
    go_ret
    exact ⟨_, rfl, ⟨rfl, .inl ⟨rfl, rfl⟩⟩, Below.refl _ _⟩
  | some ad =>
    have hq := fun W => Lib.run_eql_slice_some_nil (P := Tryd.prog) W (t := 22) (e := 3) ad l.length c Tryd.underlying22
    have hB : Below w.heap.size w (w.alloc (.cells #[] 3)) := (Below.refl _ _).alloc (Nat.le_refl _) _
    have hs' : Sees .i64 w.heap.size (w.alloc (.cells #[] 3)) (some ad) l := hs.below hB
    have hl' := Lib.hid hl
    go_enter Tryd.func45, Tryd.ntmps45
    go_wp2_with (at_builtin; refine wpList_append_sees _ rfl (.tmp 5) (.tmp 6) 22 rfl w 3 i0 (.int .i64 0) 8 Tryd.underlying22 hi hz0 hz1 hz2 rfl .i64 _ [] (by exact own_empty 3 .i64 (Below.refl _ w)) (by exact hB) w.heap.size (some ad) l (by exact hs') l.length c rfl rfl rfl (by have := hl'.out; simp; omega) (by omega) ?_; intro v2 w2 hown2 hw2; simp only [List.nil_append] at hown2)
    go_ret
    exact ⟨v2, rfl, hown2, hw2⟩
end Go.Proofs.YtplgmmjppmpnoaaDoor
/- Zones put together: clone, pairs. -/
namespace Go.Proofs.YtplgmmjppmpnoaaDoor
open Go.RowKit
set_option linter.unusedVariables false
set_option linter.unusedSimpArgs false

/-- A zone that a call has handed back, put into a zone's block. -/
theorem zone_put {n : Int} {R : List Int} {err : Int} {w W1 w3 : World} {g a c : _} {z0 z1 : Value} (hB : Below w.heap.size w W1) (hg : w.heap.size ≤ g) (hz : ZH W1 g z0 z1) (hc : R.length ≤ c) (hs : Sees .i64 w3.heap.size w3 a R) (hb : Below W1.heap.size W1 w3) (hnw : New W1 a) :
    ZH ((w3.setCell ⟨g, 0, none⟩ (.int .i64 n)).setCell ⟨g, 1, none⟩ (.slice a R.length c)) g (.int .i64 n) (.slice a R.length c) ∧
      ZoneE n R err w (.returned (.tuple #[.agg #[.int .i64 n, .slice a R.length c], .int .i64 err])) ((w3.setCell ⟨g, 0, none⟩ (.int .i64 n)).setCell ⟨g, 1, none⟩ (.slice a R.length c)) ∧
      ZoneS n R w (.returned (.agg #[.int .i64 n, .slice a R.length c])) ((w3.setCell ⟨g, 0, none⟩ (.int .i64 n)).setCell ⟨g, 1, none⟩ (.slice a R.length c)) := by
  have hlt := hz.lt
  have hne : ∀ p, a = some p → g ≠ p.block := fun p hp => by have := hnw p hp; omega
  have hs2 : Sees .i64 ((w3.setCell ⟨g, 0, none⟩ (.int .i64 n)).setCell ⟨g, 1, none⟩ (.slice a R.length c)).heap.size ((w3.setCell ⟨g, 0, none⟩ (.int .i64 n)).setCell ⟨g, 1, none⟩ (.slice a R.length c)) a R := by
    have := sees_other (sees_other hs g hne 0 (.int .i64 n)) g hne 1 (.slice a R.length c)
    simpa using this
  have hbb : Below w.heap.size w ((w3.setCell ⟨g, 0, none⟩ (.int .i64 n)).setCell ⟨g, 1, none⟩ (.slice a R.length c)) := ((hB.trans (hb.mono hB.size)).setCell (p := ⟨g, 0, none⟩) hg _).setCell (p := ⟨g, 1, none⟩) hg _
  have hnew : New w a := fun p hp => Nat.le_trans hB.size (hnw p hp)
  exact ⟨zh_set (hz.below hb hlt) _ _, ⟨a, c, rfl, hc, hs2, hbb, hnew⟩, ⟨a, c, rfl, hc, hs2, hbb, hnew⟩⟩
set_option maxRecDepth 100000 in
set_option maxHeartbeats 1000000 in
theorem zclone_any (n : Int) (a : Option Addr) (m c : Nat) (l : List Int) (hm : m ≤ 1000) (w : World) (h : SL w a m c l) :
    Calls Tryd.prog 78 #[.agg #[.int .i64 n, .slice a m c]] w (ZoneS n l w) := by
  obtain ⟨W1, hW1⟩ : ∃ W1, W1 = (w.alloc (.cells #[.int .i64 n, .slice a m c] 24)).alloc (.cells #[.int .i64 0, .slice none 0 0] 24) := ⟨_, rfl⟩
  have hB : Below w.heap.size w W1 := by rw [hW1]; exact box2_below _ _ _ _ _
  have Z1 : ZH W1 w.heap.size (.int .i64 n) (.slice a m c) := by rw [hW1]; exact (Holds.new w _ _).alloc _
  have Z2 : ZH W1 (w.heap.size + 1) (.int .i64 0) (.slice none 0 0) := by
    rw [hW1]
    have := Holds.new (w.alloc (.cells #[.int .i64 n, .slice a m c] 24)) 24 #[.int .i64 0, .slice none 0 0]
    simpa using this
  have hcl := Lib.hid (fun W (hs : Sees .i64 W.heap.size W a l) => iclone_any a l m c h.len (by have := h.len; omega) W hs)
  have hs1 := Lib.hid ((h.below hB).below (below_drew (Below.refl W1.heap.size W1))).sees
  have hc0 : ∀ W, BelowE [w.heap.size + 1] W1.heap.size W1 W → W.cell? ⟨w.heap.size, 0, none⟩ = some (.int .i64 n) := fun W hW => (Z1.belowE hW Z1.lt (by simp)).cell 0
  have hc1 : ∀ W, BelowE [w.heap.size + 1] W1.heap.size W1 W → W.cell? ⟨w.heap.size, 1, none⟩ = some (.slice a m c) := fun W hW => (Z1.belowE hW Z1.lt (by simp)).cell 1
  have hW1' := Lib.hid hW1
  have hB' := Lib.hid hB
  have Z2' := Lib.hid Z2
  clear hW1 hB Z1 Z2 h
  go_enter Tryd.func78, Tryd.ntmps78
  go_wp2
  rw [← hW1'.out]
  clear hW1'
  refine wp_drawn_on (fun W => BelowE [w.heap.size + 1] W1.heap.size W1 W) (by kernel_rfl) ((BelowE.refl _ _ _).drew) (fun hHeld => ?_)
  refine wpAnyH_take (i := 0) (oi := { dst := some 3, op := Go.Op.fieldAddr 24 (Go.Operand.tmp 1) 0, type := 0, pos := "zone.go:31", after := #[], guard := none }) (v := ?v1) rfl (by kernel_rfl) (by kernel_rfl) (by kernel_rfl) (fun _ _ _ h => h) (Or.inl ⟨by kernel_rfl, ?h1⟩) (by assumption) ?r1
  case h1 => (intro w hSw; (try dsimp only at hSw); go_simp; try with_reducible rfl)
  try simp only [Act.put, List.setIfInBounds_toArray, List.set_cons_zero, List.set_cons_succ]
  refine wpAnyH_take (i := 1) (oi := { dst := some 4, op := Go.Op.load 3 (Go.Operand.tmp 3), type := 3, pos := "zone.go:31", after := #[{ on := 0, ground := Go.Ground.data }], guard := none }) (v := ?v2) rfl (by kernel_rfl) (by kernel_rfl) (by kernel_rfl) (fun _ _ _ h => h) (Or.inl ⟨by kernel_rfl, ?h2⟩) (by assumption) ?r2
  case h2 => (intro w hSw; (try dsimp only at hSw); go_simp; try with_reducible rfl)
  try simp only [Act.put, List.setIfInBounds_toArray, List.set_cons_zero, List.set_cons_succ]
  refine wpAnyH_take (i := 2) (oi := { dst := some 5, op := Go.Op.fieldAddr 24 (Go.Operand.tmp 1) 1, type := 0, pos := "zone.go:31", after := #[], guard := none }) (v := ?v3) rfl (by kernel_rfl) (by kernel_rfl) (by kernel_rfl) (fun _ _ _ h => h) (Or.inl ⟨by kernel_rfl, ?h3⟩) (by assumption) ?r3
  case h3 => (intro w hSw; (try dsimp only at hSw); go_simp; try with_reducible rfl)
  try simp only [Act.put, List.setIfInBounds_toArray, List.set_cons_zero, List.set_cons_succ]
  refine wpAnyH_take (i := 3) (oi := { dst := some 6, op := Go.Op.load 22 (Go.Operand.tmp 5), type := 22, pos := "zone.go:31", after := #[{ on := 2, ground := Go.Ground.data }], guard := none }) (v := ?v4) rfl (by kernel_rfl) (by kernel_rfl) (by kernel_rfl) (fun _ _ _ h => h) (Or.inl ⟨by kernel_rfl, ?h4⟩) (by assumption) ?r4
  case h4 => (intro w hSw; (try dsimp only at hSw); go_simp; try with_reducible rfl)
  try simp only [Act.put, List.setIfInBounds_toArray, List.set_cons_zero, List.set_cons_succ]
  refine wpAnyH_ready (rs := [4]) (by kernel_rfl) (by simp) ?_
  refine AllReadyH.cons (o := { dst := some 7, op := Go.Op.call { callee := Go.Callee.value (Go.Operand.func 45), args := #[Go.Operand.tmp 6], argTypes := #[22] }, type := 22, pos := "zone.go:31", after := #[{ on := 3, ground := Go.Ground.data }], guard := none }) rfl (fun K hK => ?_) AllReadyH.nil
  go_simp
  refine (hcl.out _ hs1.out).mono ?_
  intro e w3 hmd
  have b3 : Below W1.heap.size W1.drew w3 := by obtain ⟨v3, -, -, b3⟩ := hmd; exact b3
  obtain ⟨a3, c3, rfl, hz3, hall⟩ := zone_end (hB'.out.trans ((below_drew (Below.refl _ _)).mono hB'.out.size)) (g := w.heap.size + 1) (by omega) (Z2'.out.below (below_drew (Below.refl _ _)) Z2'.out.lt) hmd
  have hfin := Lib.hid (hall n 0)
  have j0 := hz3.cell 0
  have j1 := hz3.cell 1
  have f0 := hz3.free 0
  have f1 := hz3.free 1
  clear hmd hall
  go_simp
  refine hK.out _ _ (hHeld.trans (BelowE.of b3)) (fun hHeld => ?_)
  clear hK K
  try simp only [Act.put, List.setIfInBounds_toArray, List.set_cons_zero, List.set_cons_succ]
  refine wpAnyH_take (i := 5) (oi := { dst := some 8, op := Go.Op.build 24 #[(0, Go.Operand.tmp 4), (1, Go.Operand.tmp 7)], type := 24, pos := "zone.go:31", after := #[{ on := 1, ground := Go.Ground.data }, { on := 4, ground := Go.Ground.data }], guard := none }) (v := ?v5) rfl (by kernel_rfl) (by kernel_rfl) (by kernel_rfl) (fun _ _ _ h => h) (Or.inl ⟨by kernel_rfl, ?h5⟩) (by assumption) ?r5
  case h5 => (intro w hSw; (try dsimp only at hSw); go_simp; try with_reducible rfl)
  try simp only [Act.put, List.setIfInBounds_toArray, List.set_cons_zero, List.set_cons_succ]
  refine wpAnyH_ready (rs := [6]) (by kernel_rfl) (by simp) ?_
  refine AllReadyH.cons (o := { dst := none, op := Go.Op.store 24 (Go.Operand.tmp 2) (Go.Operand.tmp 8), type := 0, pos := "zone.go:31", after := #[{ on := 5, ground := Go.Ground.data }, { on := 4, ground := Go.Ground.chain }, { on := 0, ground := Go.Ground.phase }, { on := 1, ground := Go.Ground.phase }, { on := 2, ground := Go.Ground.phase }, { on := 3, ground := Go.Ground.phase }, { on := 4, ground := Go.Ground.phase }, { on := 5, ground := Go.Ground.phase }], guard := none }) rfl (fun K hK => ?_) AllReadyH.nil
  go_simp
  refine hK.out _ _ (((hHeld.setIn (p := ⟨w.heap.size + 1, 0, none⟩) (by simp) _).setIn (p := ⟨w.heap.size + 1, 1, none⟩) (by simp) _)) (fun hHeld => ?_)
  clear hK K
  try simp only [Act.put, List.setIfInBounds_toArray, List.set_cons_zero, List.set_cons_succ]
  refine wpAnyH_done (by kernel_rfl) ?_ _
  go_wp2
  exact zone_ret hfin.out.1 hfin.out.2.2 _ _ 2 rfl rfl rfl

def pw (F : Int → Int → Int) (la lb : List Int) : List Int := (List.range la.length).map fun t => F (la.getD t 0) (lb.getD t 0)
theorem pw_len (F : Int → Int → Int) (la lb : List Int) : (pw F la lb).length = la.length := by simp [pw]
theorem pw_at (F : Int → Int → Int) (la lb : List Int) {t : Nat} (ht : t < la.length) : (pw F la lb).getD t 0 = F (la.getD t 0) (lb.getD t 0) := by simp [pw, List.getD, ht]
theorem pw_ext {F : Int → Int → Int} {la lb L : List Int} (hl : L.length = la.length) (h : ∀ t, t < la.length → L.getD t 0 = F (la.getD t 0) (lb.getD t 0)) : L = pw F la lb := by
  apply List.ext_getElem (by rw [pw_len, hl])
  intro t h1 h2
  have := h t (by omega)
  rw [← pw_at F la lb (by omega)] at this
  simpa [List.getD, h1, h2] using this
end Go.Proofs.YtplgmmjppmpnoaaDoor
/- Zones put together: unlessEmpty, Meet, Join, Widen. (Written by gen-zone-join.py.) -/
namespace Go.Proofs.YtplgmmjppmpnoaaDoor
open Go.RowKit
set_option linter.unusedVariables false
set_option linter.unusedSimpArgs false

def wid (x y : Int) : Int := if y ≤ x then x else 4398046511104
/-- Two zones and a third one's block. -/
structure B3 (w W : World) (x1 y1 x2 y2 : Value) : Prop where
  bl : Below w.heap.size w W
  z1 : ZH W w.heap.size x1 y1
  z2 : ZH W (w.heap.size + 1) x2 y2
  z3 : ZH W (w.heap.size + 1 + 1) (.int .i64 0) (.slice none 0 0)
theorem B3.on {w W W' : World} {x1 y1 x2 y2 : Value} (h : B3 w W x1 y1 x2 y2) (hb : Below W.heap.size W W') : B3 w W' x1 y1 x2 y2 := ⟨h.bl.trans (hb.mono h.bl.size), h.z1.below hb h.z1.lt, h.z2.below hb h.z2.lt, h.z3.below hb h.z3.lt⟩
theorem b3_new (w : World) (x1 y1 x2 y2 : Value) : B3 w (((w.alloc (.cells #[x1, y1] 24)).alloc (.cells #[x2, y2] 24)).alloc (.cells #[.int .i64 0, .slice none 0 0] 24)) x1 y1 x2 y2 := by
  refine ⟨(box2_below _ _ _ _ _).alloc (by simp; omega) _, ((Holds.new w _ _).alloc _).alloc _, ?_, ?_⟩
  · have := (Holds.new (w.alloc (.cells #[x1, y1] 24)) 24 #[x2, y2]).alloc (.cells #[.int .i64 0, .slice none 0 0] 24)
    simpa using this
  · have := Holds.new ((w.alloc (.cells #[x1, y1] 24)).alloc (.cells #[x2, y2] 24)) 24 #[.int .i64 0, .slice none 0 0]
    simpa using this
/-- A zone: empty, or with valuations. -/
def IsZ (n : Nat) (l : List Int) : Prop := n ≤ 8 ∧ (l = [] ∨ Full n l)
theorem isZ_of {n : Int} {l : List Int} (h : checkB n l = true) : ∃ k : Nat, n = k ∧ IsZ k l := by
  have hm : mayB n = true := by
    cases q : mayB n
    · rw [checkB_no q] at h; cases h
    · rfl
  obtain ⟨k, rfl, hk⟩ := mayB_of hm
  refine ⟨k, rfl, hk, ?_⟩
  by_cases h0 : l = []
  · exact .inl h0
  · right
    by_cases hl : l.length = sz k
    · rw [checkB_sz hk h0 hl] at h
      exact ⟨hk, hl, h0, of_decide_eq_true h⟩
    · rw [checkB_len h0 hl] at h; cases h
theorem IsZ.check {n : Nat} {l : List Int} (h : IsZ n l) : checkB n l = true := by
  rcases h.2 with e | hF
  · rw [e]; exact checkB_nil (mayB_nat h.1)
  · rw [checkB_sz hF.le hF.ne hF.len]; exact decide_eq_true hF.fix
theorem IsZ.small {n : Nat} {l : List Int} (h : IsZ n l) : l.length ≤ 81 := by
  rcases h.2 with e | hF
  · rw [e]; simp
  · have := sz_le h.1; rw [hF.len]; exact this
theorem IsZ.two {n : Nat} {l1 l2 : List Int} (h1 : IsZ n l1) (h2 : IsZ n l2) : twoE n l1 n l2 = 0 := by unfold twoE; rw [if_neg (by rw [h1.check, h2.check]; simp), if_pos rfl]
theorem two_or (n1 : Int) (l1 : List Int) (n2 : Int) (l2 : List Int) : (twoE n1 l1 n2 l2 ≠ 0) ∨ ∃ n : Nat, n1 = n ∧ n2 = n ∧ IsZ n l1 ∧ IsZ n l2 := by
  unfold twoE
  by_cases h : checkB n1 l1 = false ∨ checkB n2 l2 = false
  · left; rw [if_pos h]; omega
  · rw [if_neg h]
    by_cases hn : n1 = n2
    · right
      have h1 : checkB n1 l1 = true := by cases q : checkB n1 l1; exact absurd (.inl q) h; rfl
      have h2 : checkB n2 l2 = true := by cases q : checkB n2 l2; exact absurd (.inr q) h; rfl
      obtain ⟨k, rfl, hk⟩ := isZ_of h1
      subst hn
      obtain ⟨k2, hk2, hz⟩ := isZ_of h2
      have : k = k2 := by omega
      subst this
      exact ⟨k, rfl, rfl, hk, hz⟩
    · left; rw [if_neg hn]; omega
/-- What Join comes to. -/
def joinL (n : Nat) (l1 l2 : List Int) : List Int := if l1 = [] then l2 else if l2 = [] then l1 else closedL n (pw max l1 l2)
/-- What Widen comes to. -/
def widenL (n : Nat) (l1 l2 : List Int) : List Int := if l1 = [] then l2 else if l2 = [] then l1 else closedL n (pw wid l1 l2)
def meetL (n : Nat) (l1 l2 : List Int) : List Int := if l1 = [] then [] else if l2 = [] then [] else closedL n (pw min l1 l2)
end Go.Proofs.YtplgmmjppmpnoaaDoor
/- Zones put together: Leq; the document's Two, Leq, Meet, Join, Widen. (Written by gen-zone-ref.py.) -/
namespace Go.Proofs.YtplgmmjppmpnoaaDoor
open Go.RowKit
set_option linter.unusedVariables false
set_option linter.unusedSimpArgs false

/-- A zone that the document's functions hand back: empty, or in new memory. -/
def ZoneN (n : Int) (l : List Int) (w : World) (e : Ending) (w' : World) : Prop := ∃ a m c, e = .returned (.agg #[.int .i64 n, .slice a m c]) ∧ SL w' a m c l ∧ Below w.heap.size w w' ∧ (l = [] ∨ New w a)
def ZoneR (n : Int) (l : List Int) (w : World) (e : Ending) (w' : World) : Prop := ∃ a m c, e = .returned (.agg #[.int .i64 n, .slice a m c]) ∧ SL w' a m c l ∧ Below w.heap.size w w'
theorem ZoneN.r {n : Int} {l : List Int} {w : World} {e : Ending} {w' : World} (h : ZoneN n l w e w') : ZoneR n l w e w' := by
  obtain ⟨a, m, c, h1, h2, h3, -⟩ := h
  exact ⟨a, m, c, h1, h2, h3⟩
theorem zoneN_of {n : Int} {l : List Int} {w : World} {e : Ending} {w' : World} (hl : l.length ≤ 1000) (h : ZoneS n l w e w') : ZoneN n l w e w' := by
  obtain ⟨a, c, h1, h2, h3, h4, h5⟩ := h
  exact ⟨a, l.length, c, h1, ⟨rfl, h2, by omega, h3⟩, h4, .inr h5⟩
theorem sl_set {w : World} {a : Option Addr} {m c : Nat} {l : List Int} (h : SL w a m c l) (g : Nat) (hg : l = [] ∨ ∀ p, a = some p → g ≠ p.block) (x y : Value) : SL ((w.setCell ⟨g, 0, none⟩ x).setCell ⟨g, 1, none⟩ y) a m c l := by
  refine ⟨h.len, h.cap, h.max, ?_⟩
  rcases hg with e | hg
  · exact .inl e
  · have := sees_other (sees_other h.sees g hg 0 x) g hg 1 y
    simpa using this
/-- A zone handed back, put into a block. -/
theorem zone_putN {n : Int} {R : List Int} {w W1 w3 : World} {g : Nat} {a : Option Addr} {m c : Nat} {z0 z1 : Value} (hB : Below w.heap.size w W1) (hg : w.heap.size ≤ g) (hz : ZH W1 g z0 z1) (hs : SL w3 a m c R) (hb : Below W1.heap.size W1 w3) (hnw : R = [] ∨ New W1 a) :
    ZH ((w3.setCell ⟨g, 0, none⟩ (.int .i64 n)).setCell ⟨g, 1, none⟩ (.slice a m c)) g (.int .i64 n) (.slice a m c) ∧
      ZoneN n R w (.returned (.agg #[.int .i64 n, .slice a m c])) ((w3.setCell ⟨g, 0, none⟩ (.int .i64 n)).setCell ⟨g, 1, none⟩ (.slice a m c)) := by
  have hlt := hz.lt
  have hs2 := sl_set hs g (hnw.imp id (fun h p hp => by have := h p hp; omega)) (.int .i64 n) (.slice a m c)
  have hbb : Below w.heap.size w ((w3.setCell ⟨g, 0, none⟩ (.int .i64 n)).setCell ⟨g, 1, none⟩ (.slice a m c)) := ((hB.trans (hb.mono hB.size)).setCell (p := ⟨g, 0, none⟩) hg _).setCell (p := ⟨g, 1, none⟩) hg _
  exact ⟨zh_set (hz.below hb hlt) _ _, a, m, c, rfl, hs2, hbb, hnw.imp id (fun h p hp => Nat.le_trans hB.size (h p hp))⟩
/-- Has the second one all of the first one? -/
def leqB (l1 l2 : List Int) : Bool := if l1 = [] then true else if l2 = [] then false else (List.range l1.length).all fun t => decide (l1.getD t 0 ≤ l2.getD t 0)
theorem leq_yes {l1 l2 : List Int} (h1 : l1 ≠ []) (h2 : l2 ≠ []) (h : ∀ t, t < l1.length → l1.getD t 0 ≤ l2.getD t 0) : leqB l1 l2 = true := by
  unfold leqB
  rw [if_neg h1, if_neg h2]
  exact List.all_eq_true.2 (fun t ht => decide_eq_true (h t (List.mem_range.1 ht)))
theorem leq_no {l1 l2 : List Int} (h1 : l1 ≠ []) (h2 : l2 ≠ []) {t : Nat} (ht : t < l1.length) (h : ¬ l1.getD t 0 ≤ l2.getD t 0) : leqB l1 l2 = false := by
  unfold leqB
  rw [if_neg h1, if_neg h2]
  exact List.all_eq_false.2 ⟨t, List.mem_range.2 ht, by rw [decide_eq_false h]; decide⟩
theorem three_new (w : World) (x1 y1 x2 y2 x3 y3 : Value) : Below w.heap.size w (((w.alloc (.cells #[x1, y1] 24)).alloc (.cells #[x2, y2] 24)).alloc (.cells #[x3, y3] 24)) ∧ ZH (((w.alloc (.cells #[x1, y1] 24)).alloc (.cells #[x2, y2] 24)).alloc (.cells #[x3, y3] 24)) (w.heap.size + 1 + 1) x3 y3 := by
  refine ⟨(box2_below _ _ _ _ _).alloc (by simp; omega) _, ?_⟩
  have := Holds.new ((w.alloc (.cells #[x1, y1] 24)).alloc (.cells #[x2, y2] 24)) 24 #[x3, y3]
  simpa using this
/-- Two zones' blocks. -/
structure B2 (w W : World) (x1 y1 x2 y2 : Value) : Prop where
  bl : Below w.heap.size w W
  z1 : ZH W w.heap.size x1 y1
  z2 : ZH W (w.heap.size + 1) x2 y2
theorem B2.on {w W W' : World} {x1 y1 x2 y2 : Value} (h : B2 w W x1 y1 x2 y2) (hb : Below W.heap.size W W') : B2 w W' x1 y1 x2 y2 := ⟨h.bl.trans (hb.mono h.bl.size), h.z1.below hb h.z1.lt, h.z2.below hb h.z2.lt⟩
theorem b2_new (w : World) (x1 y1 x2 y2 : Value) : B2 w ((w.alloc (.cells #[x1, y1] 24)).alloc (.cells #[x2, y2] 24)) x1 y1 x2 y2 := by
  refine ⟨box2_below _ _ _ _ _, (Holds.new w _ _).alloc _, ?_⟩
  have := Holds.new (w.alloc (.cells #[x1, y1] 24)) 24 #[x2, y2]
  simpa using this
end Go.Proofs.YtplgmmjppmpnoaaDoor
/- Zones changed: the matrix's own steps. -/
namespace Go.Proofs.YtplgmmjppmpnoaaDoor
open Go.RowKit
set_option linter.unusedVariables false
set_option linter.unusedSimpArgs false

theorem mat_at (n i j : Nat) (hn : n ≤ 8) (hi : i ≤ n) (hj : j ≤ n) (a : Option Addr) (m c : Nat) (w : World) :
    Calls Tryd.prog 84 #[.agg #[.int .i64 n, .slice a m c], .int .i64 i, .int .i64 j] w (Gives (.int .i64 ((i * (n + 1) + j : Nat) : Int)) w) := by
  obtain ⟨p, q, u1, u2, u3, hq, -, -, -, -⟩ := place_wraps hn hi hj
  rw [← hq]
  have hB := Lib.hid (box_below w #[.int .i64 n, .slice a m c] 77)
  clear hq
  go_enter Tryd.func84, Tryd.ntmps84
  go_wp2
  go_ret
  exact ⟨rfl, hB.out⟩
/-- What a step leaves of a matrix. -/
def MatS (s g cap base : Nat) (R : List Int) (w : World) (e : Ending) (w' : World) : Prop :=
  e = .returned (.tuple #[]) ∧ w'.ownsRow base 3 1 (.slice (some ⟨g, 0, none⟩) s cap) s (nums .i64 R) ∧ BelowE [g] w.heap.size w w'
def limL (n : Nat) (l : List Int) (i j : Nat) (c : Int) : List Int := l.set (i * (n + 1) + j) (min (l.getD (i * (n + 1) + j) 0) c)
theorem limL_len (n : Nat) (l : List Int) (i j : Nat) (c : Int) : (limL n l i j c).length = l.length := by simp [limL]
set_option maxRecDepth 100000 in
set_option maxHeartbeats 1000000 in
theorem mlimit_any (n : Nat) (hn : n ≤ 8) (i j : Nat) (hi : i ≤ n) (hj : j ≤ n) (c : Int) (g cap base : Nat) (l : List Int) (hl : l.length = sz n) (w : World)
    (hown : w.ownsRow base 3 1 (.slice (some ⟨g, 0, none⟩) (sz n) cap) (sz n) (nums .i64 l)) :
    Calls Tryd.prog 72 #[.agg #[.int .i64 n, .slice (some ⟨g, 0, none⟩) (sz n) cap], .agg #[.int .i64 i, .int .i64 j, .int .i64 c]] w (MatS (sz n) g cap base (limL n l i j c) w) := by
  have hs81 := sz_le hn
  have hq : i * (n + 1) + j < sz n := place_lt hi hj
  have hat := Lib.hid (fun W => mat_at n i j hn hi hj (some ⟨g, 0, none⟩) (sz n) cap W)
  have hR : limL n l i j c = l.set (i * (n + 1) + j) (min (l.getD (i * (n + 1) + j) 0) c) := rfl
  generalize limL n l i j c = R at *
  generalize i * (n + 1) + j = q at *
  generalize sz n = s at *
  have hsi : (q : Int) < (s : Int) := by omega
  have hgl := own_at hown (i := q) (by omega)
  have hglt : g < w.heap.size := World.block_lt_of_cell? _ _ hgl
  obtain ⟨W1, hW1⟩ : ∃ W1, W1 = (w.alloc (.cells #[.int .i64 n, .slice (some ⟨g, 0, none⟩) s cap] 77)).alloc (.cells #[.int .i64 i, .int .i64 j, .int .i64 c] 72) := ⟨_, rfl⟩
  have hB : Below w.heap.size w W1 := by rw [hW1]; exact box2_below _ _ _ _ _
  have Z1 : Holds W1 w.heap.size 77 #[.int .i64 n, .slice (some ⟨g, 0, none⟩) s cap] := by rw [hW1]; exact (Holds.new w _ _).alloc _
  have Z2 : Holds W1 (w.heap.size + 1) 72 #[.int .i64 i, .int .i64 j, .int .i64 c] := by
    rw [hW1]
    have := Holds.new (w.alloc (.cells #[.int .i64 n, .slice (some ⟨g, 0, none⟩) s cap] 77)) 72 #[.int .i64 i, .int .i64 j, .int .i64 c]
    simpa using this
  have hR' := Lib.hid hR
  clear hR
  have O1 := Lib.hid (own_below hown hB)
  have hW1' := Lib.hid hW1
  have hB' := Lib.hid hB
  have Z1' := Lib.hid Z1
  have Z2' := Lib.hid Z2
  have hl' := Lib.hid hl
  have hglt' := Lib.hid hglt
  clear hW1 hB Z1 Z2 hown hl hgl hglt hq
  go_enter Tryd.func72, Tryd.ntmps72
  go_wp2_with fail
  rw [← hW1'.out]
  refine (hat.out _).mono ?_
  rintro e w2 ⟨rfl, b2⟩
  have O2 := Lib.hid (own_below O1.out b2)
  have Y1 := Lib.hid (Z1'.out.below b2 Z1'.out.lt)
  have Y2 := Lib.hid (Z2'.out.below b2 Z2'.out.lt)
  have B2' := Lib.hid (hB'.out.trans (b2.mono hB'.out.size))
  have m0 := own_at O2.out (i := q) (by have := hl'.out; omega)
  have mf := O2.out.frozenAt q
  have hx0 : w.heap.size ∉ [g] := by have := hglt'.out; simp; omega
  have hx1 : w.heap.size + 1 ∉ [g] := by have := hglt'.out; simp; omega
  have f1 : ∀ W, BelowE [g] w2.heap.size w2 W → W.cell? ⟨w.heap.size, 1, none⟩ = some (.slice (some ⟨g, 0, none⟩) s cap) := fun W hW => (Y1.out.belowE hW Y1.out.lt hx0).cell 1
  have f2 : ∀ W, BelowE [g] w2.heap.size w2 W → W.cell? ⟨w.heap.size + 1, 2, none⟩ = some (.int .i64 c) := fun W hW => (Y2.out.belowE hW Y2.out.lt hx1).cell 2
  have hnx : Hid (∀ z, z = min (l.getD q 0) c → MatS s g cap base R w (.returned (.tuple #[])) (w2.setCell ⟨g, q, none⟩ (.int .i64 z)).drew) := Lib.hid (by
    rintro z rfl
    rw [hR'.out]
    exact ⟨rfl, own_put O2.out q _, ((BelowE.of B2'.out).setIn (p := ⟨g, q, none⟩) (by simp) _).drew⟩)
  clear b2 O1 O2 Z1' Z2' Y1 Y2 B2' hat hx0 hx1 hl' hglt' hR'
  generalize l.getD q 0 = x at *
  by_cases hcx : c < x
  · have hfin := Lib.hid (hnx.out c (by omega))
    clear hnx
    go_wp2
    refine wp_drawn_on (fun W => BelowE [g] w2.heap.size w2 W) (by kernel_rfl) ((BelowE.refl _ _ _).drew) (fun hHeld => ?_)
    refine wpAnyH_take (i := 0) (oi := { dst := some 11, op := Go.Op.fieldAddr 77 (Go.Operand.tmp 2) 1, type := 0, pos := "zone.go:113", after := #[], guard := none }) (v := ?v1) rfl (by kernel_rfl) (by kernel_rfl) (by kernel_rfl) (fun _ _ _ h => h) (Or.inl ⟨by kernel_rfl, ?h1⟩) (by assumption) ?r1
    case h1 => (intro w hSw; (try dsimp only at hSw); go_simp; try with_reducible rfl)
    try simp only [Act.put, List.setIfInBounds_toArray, List.set_cons_zero, List.set_cons_succ]
    refine wpAnyH_take (i := 1) (oi := { dst := some 12, op := Go.Op.load 22 (Go.Operand.tmp 11), type := 22, pos := "zone.go:113", after := #[{ on := 0, ground := Go.Ground.data }], guard := none }) (v := ?v2) rfl (by kernel_rfl) (by kernel_rfl) (by kernel_rfl) (fun _ _ _ h => h) (Or.inl ⟨by kernel_rfl, ?h2⟩) (by assumption) ?r2
    case h2 => (intro w hSw; (try dsimp only at hSw); go_simp; try with_reducible rfl)
    try simp only [Act.put, List.setIfInBounds_toArray, List.set_cons_zero, List.set_cons_succ]
    refine wpAnyH_take (i := 2) (oi := { dst := some 13, op := Go.Op.move (Go.Operand.tmp 4), type := 3, pos := "zone.go:113", after := #[], guard := none }) (v := ?v3) rfl (by kernel_rfl) (by kernel_rfl) (by kernel_rfl) (fun _ _ _ h => h) (Or.inl ⟨by kernel_rfl, ?h3⟩) (by assumption) ?r3
    case h3 => (intro w hSw; (try dsimp only at hSw); go_simp; try with_reducible rfl)
    try simp only [Act.put, List.setIfInBounds_toArray, List.set_cons_zero, List.set_cons_succ]
    refine wpAnyH_take (i := 3) (oi := { dst := some 14, op := Go.Op.fieldAddr 77 (Go.Operand.tmp 2) 1, type := 0, pos := "zone.go:113", after := #[], guard := none }) (v := ?v4) rfl (by kernel_rfl) (by kernel_rfl) (by kernel_rfl) (fun _ _ _ h => h) (Or.inl ⟨by kernel_rfl, ?h4⟩) (by assumption) ?r4
    case h4 => (intro w hSw; (try dsimp only at hSw); go_simp; try with_reducible rfl)
    try simp only [Act.put, List.setIfInBounds_toArray, List.set_cons_zero, List.set_cons_succ]
    refine wpAnyH_take (i := 4) (oi := { dst := some 15, op := Go.Op.load 22 (Go.Operand.tmp 14), type := 22, pos := "zone.go:113", after := #[{ on := 3, ground := Go.Ground.data }], guard := none }) (v := ?v5) rfl (by kernel_rfl) (by kernel_rfl) (by kernel_rfl) (fun _ _ _ h => h) (Or.inl ⟨by kernel_rfl, ?h5⟩) (by assumption) ?r5
    case h5 => (intro w hSw; (try dsimp only at hSw); go_simp; try with_reducible rfl)
    try simp only [Act.put, List.setIfInBounds_toArray, List.set_cons_zero, List.set_cons_succ]
    refine wpAnyH_take (i := 5) (oi := { dst := some 16, op := Go.Op.move (Go.Operand.tmp 4), type := 3, pos := "zone.go:113", after := #[], guard := none }) (v := ?v6) rfl (by kernel_rfl) (by kernel_rfl) (by kernel_rfl) (fun _ _ _ h => h) (Or.inl ⟨by kernel_rfl, ?h6⟩) (by assumption) ?r6
    case h6 => (intro w hSw; (try dsimp only at hSw); go_simp; try with_reducible rfl)
    try simp only [Act.put, List.setIfInBounds_toArray, List.set_cons_zero, List.set_cons_succ]
    refine wpAnyH_take (i := 6) (oi := { dst := some 17, op := Go.Op.indexAddr 22 (Go.Operand.tmp 15) (Go.Operand.tmp 16), type := 0, pos := "zone.go:113", after := #[{ on := 4, ground := Go.Ground.data }, { on := 5, ground := Go.Ground.data }], guard := none }) (v := ?v7) rfl (by kernel_rfl) (by kernel_rfl) (by kernel_rfl) (fun _ _ _ h => h) (Or.inl ⟨by kernel_rfl, ?h7⟩) (by assumption) ?r7
    case h7 => (intro w hSw; (try dsimp only at hSw); go_simp; try with_reducible rfl)
    try simp only [Act.put, List.setIfInBounds_toArray, List.set_cons_zero, List.set_cons_succ]
    refine wpAnyH_take (i := 8) (oi := { dst := some 19, op := Go.Op.fieldAddr 72 (Go.Operand.tmp 3) 2, type := 0, pos := "zone.go:113", after := #[], guard := none }) (v := ?v8) rfl (by kernel_rfl) (by kernel_rfl) (by kernel_rfl) (fun _ _ _ h => h) (Or.inl ⟨by kernel_rfl, ?h8⟩) (by assumption) ?r8
    case h8 => (intro w hSw; (try dsimp only at hSw); go_simp; try with_reducible rfl)
    try simp only [Act.put, List.setIfInBounds_toArray, List.set_cons_zero, List.set_cons_succ]
    refine wpAnyH_take (i := 9) (oi := { dst := some 20, op := Go.Op.load 3 (Go.Operand.tmp 19), type := 3, pos := "zone.go:113", after := #[{ on := 8, ground := Go.Ground.data }], guard := none }) (v := ?v9) rfl (by kernel_rfl) (by kernel_rfl) (by kernel_rfl) (fun _ _ _ h => h) (Or.inl ⟨by kernel_rfl, ?h9⟩) (by assumption) ?r9
    case h9 => (intro w hSw; (try dsimp only at hSw); go_simp; try with_reducible rfl)
    try simp only [Act.put, List.setIfInBounds_toArray, List.set_cons_zero, List.set_cons_succ]
    refine wpAnyH_ready (rs := [7]) (by kernel_rfl) (by simp) ?_
    refine AllReadyH.cons (o := { dst := some 18, op := Go.Op.load 3 (Go.Operand.tmp 17), type := 3, pos := "zone.go:113", after := #[{ on := 6, ground := Go.Ground.data }], guard := none }) rfl (fun K hK => ?_) AllReadyH.nil
    go_simp
    refine hK.out _ _ (hHeld) (fun hHeld => ?_)
    clear hK K
    try simp only [Act.put, List.setIfInBounds_toArray, List.set_cons_zero, List.set_cons_succ]
    refine wpAnyH_take (i := 10) (oi := { dst := some 21, op := Go.Op.call { callee := Go.Callee.builtin Go.Builtin.min, args := #[Go.Operand.tmp 18, Go.Operand.tmp 20], argTypes := #[3, 3] }, type := 3, pos := "zone.go:113", after := #[{ on := 7, ground := Go.Ground.data }, { on := 9, ground := Go.Ground.data }], guard := none }) (v := ?v10) rfl (by kernel_rfl) (by kernel_rfl) (by kernel_rfl) (fun _ _ _ h => h) (Or.inl ⟨by kernel_rfl, ?h10⟩) (by assumption) ?r10
    case h10 => (intro w hSw; (try dsimp only at hSw); go_simp; try with_reducible rfl)
    try simp only [Act.put, List.setIfInBounds_toArray, List.set_cons_zero, List.set_cons_succ]
    refine wpAnyH_take (i := 11) (oi := { dst := some 22, op := Go.Op.indexAddr 22 (Go.Operand.tmp 12) (Go.Operand.tmp 13), type := 0, pos := "zone.go:113", after := #[{ on := 1, ground := Go.Ground.data }, { on := 2, ground := Go.Ground.data }, { on := 0, ground := Go.Ground.phase }, { on := 1, ground := Go.Ground.phase }, { on := 2, ground := Go.Ground.phase }, { on := 3, ground := Go.Ground.phase }, { on := 4, ground := Go.Ground.phase }, { on := 5, ground := Go.Ground.phase }, { on := 6, ground := Go.Ground.phase }, { on := 7, ground := Go.Ground.phase }, { on := 8, ground := Go.Ground.phase }, { on := 9, ground := Go.Ground.phase }, { on := 10, ground := Go.Ground.phase }], guard := none }) (v := ?v11) rfl (by kernel_rfl) (by kernel_rfl) (by kernel_rfl) (fun _ _ _ h => h) (Or.inl ⟨by kernel_rfl, ?h11⟩) (by assumption) ?r11
    case h11 => (intro w hSw; (try dsimp only at hSw); go_simp; try with_reducible rfl)
    try simp only [Act.put, List.setIfInBounds_toArray, List.set_cons_zero, List.set_cons_succ]
    refine wpAnyH_ready (rs := [12]) (by kernel_rfl) (by simp) ?_
    refine AllReadyH.cons (o := { dst := none, op := Go.Op.store 3 (Go.Operand.tmp 22) (Go.Operand.tmp 21), type := 0, pos := "zone.go:113", after := #[{ on := 11, ground := Go.Ground.data }, { on := 10, ground := Go.Ground.data }, { on := 0, ground := Go.Ground.phase }, { on := 1, ground := Go.Ground.phase }, { on := 2, ground := Go.Ground.phase }, { on := 3, ground := Go.Ground.phase }, { on := 4, ground := Go.Ground.phase }, { on := 5, ground := Go.Ground.phase }, { on := 6, ground := Go.Ground.phase }, { on := 7, ground := Go.Ground.phase }, { on := 8, ground := Go.Ground.phase }, { on := 9, ground := Go.Ground.phase }, { on := 10, ground := Go.Ground.phase }], guard := none }) rfl (fun K hK => ?_) AllReadyH.nil
    go_simp
    refine hK.out _ _ (hHeld.setIn (p := ⟨g, q, none⟩) (by simp) _) (fun hHeld => ?_)
    clear hK K
    try simp only [Act.put, List.setIfInBounds_toArray, List.set_cons_zero, List.set_cons_succ]
    refine wpAnyH_done (by kernel_rfl) ?_ _
    go_wp2
    go_end0
    exact hfin.out
  · have hfin := Lib.hid (hnx.out x (by omega))
    clear hnx
    go_wp2
    refine wp_drawn_on (fun W => BelowE [g] w2.heap.size w2 W) (by kernel_rfl) ((BelowE.refl _ _ _).drew) (fun hHeld => ?_)
    refine wpAnyH_take (i := 0) (oi := { dst := some 11, op := Go.Op.fieldAddr 77 (Go.Operand.tmp 2) 1, type := 0, pos := "zone.go:113", after := #[], guard := none }) (v := ?v12) rfl (by kernel_rfl) (by kernel_rfl) (by kernel_rfl) (fun _ _ _ h => h) (Or.inl ⟨by kernel_rfl, ?h12⟩) (by assumption) ?r12
    case h12 => (intro w hSw; (try dsimp only at hSw); go_simp; try with_reducible rfl)
    try simp only [Act.put, List.setIfInBounds_toArray, List.set_cons_zero, List.set_cons_succ]
    refine wpAnyH_take (i := 1) (oi := { dst := some 12, op := Go.Op.load 22 (Go.Operand.tmp 11), type := 22, pos := "zone.go:113", after := #[{ on := 0, ground := Go.Ground.data }], guard := none }) (v := ?v13) rfl (by kernel_rfl) (by kernel_rfl) (by kernel_rfl) (fun _ _ _ h => h) (Or.inl ⟨by kernel_rfl, ?h13⟩) (by assumption) ?r13
    case h13 => (intro w hSw; (try dsimp only at hSw); go_simp; try with_reducible rfl)
    try simp only [Act.put, List.setIfInBounds_toArray, List.set_cons_zero, List.set_cons_succ]
    refine wpAnyH_take (i := 2) (oi := { dst := some 13, op := Go.Op.move (Go.Operand.tmp 4), type := 3, pos := "zone.go:113", after := #[], guard := none }) (v := ?v14) rfl (by kernel_rfl) (by kernel_rfl) (by kernel_rfl) (fun _ _ _ h => h) (Or.inl ⟨by kernel_rfl, ?h14⟩) (by assumption) ?r14
    case h14 => (intro w hSw; (try dsimp only at hSw); go_simp; try with_reducible rfl)
    try simp only [Act.put, List.setIfInBounds_toArray, List.set_cons_zero, List.set_cons_succ]
    refine wpAnyH_take (i := 3) (oi := { dst := some 14, op := Go.Op.fieldAddr 77 (Go.Operand.tmp 2) 1, type := 0, pos := "zone.go:113", after := #[], guard := none }) (v := ?v15) rfl (by kernel_rfl) (by kernel_rfl) (by kernel_rfl) (fun _ _ _ h => h) (Or.inl ⟨by kernel_rfl, ?h15⟩) (by assumption) ?r15
    case h15 => (intro w hSw; (try dsimp only at hSw); go_simp; try with_reducible rfl)
    try simp only [Act.put, List.setIfInBounds_toArray, List.set_cons_zero, List.set_cons_succ]
    refine wpAnyH_take (i := 4) (oi := { dst := some 15, op := Go.Op.load 22 (Go.Operand.tmp 14), type := 22, pos := "zone.go:113", after := #[{ on := 3, ground := Go.Ground.data }], guard := none }) (v := ?v16) rfl (by kernel_rfl) (by kernel_rfl) (by kernel_rfl) (fun _ _ _ h => h) (Or.inl ⟨by kernel_rfl, ?h16⟩) (by assumption) ?r16
    case h16 => (intro w hSw; (try dsimp only at hSw); go_simp; try with_reducible rfl)
    try simp only [Act.put, List.setIfInBounds_toArray, List.set_cons_zero, List.set_cons_succ]
    refine wpAnyH_take (i := 5) (oi := { dst := some 16, op := Go.Op.move (Go.Operand.tmp 4), type := 3, pos := "zone.go:113", after := #[], guard := none }) (v := ?v17) rfl (by kernel_rfl) (by kernel_rfl) (by kernel_rfl) (fun _ _ _ h => h) (Or.inl ⟨by kernel_rfl, ?h17⟩) (by assumption) ?r17
    case h17 => (intro w hSw; (try dsimp only at hSw); go_simp; try with_reducible rfl)
    try simp only [Act.put, List.setIfInBounds_toArray, List.set_cons_zero, List.set_cons_succ]
    refine wpAnyH_take (i := 6) (oi := { dst := some 17, op := Go.Op.indexAddr 22 (Go.Operand.tmp 15) (Go.Operand.tmp 16), type := 0, pos := "zone.go:113", after := #[{ on := 4, ground := Go.Ground.data }, { on := 5, ground := Go.Ground.data }], guard := none }) (v := ?v18) rfl (by kernel_rfl) (by kernel_rfl) (by kernel_rfl) (fun _ _ _ h => h) (Or.inl ⟨by kernel_rfl, ?h18⟩) (by assumption) ?r18
    case h18 => (intro w hSw; (try dsimp only at hSw); go_simp; try with_reducible rfl)
    try simp only [Act.put, List.setIfInBounds_toArray, List.set_cons_zero, List.set_cons_succ]
    refine wpAnyH_take (i := 8) (oi := { dst := some 19, op := Go.Op.fieldAddr 72 (Go.Operand.tmp 3) 2, type := 0, pos := "zone.go:113", after := #[], guard := none }) (v := ?v19) rfl (by kernel_rfl) (by kernel_rfl) (by kernel_rfl) (fun _ _ _ h => h) (Or.inl ⟨by kernel_rfl, ?h19⟩) (by assumption) ?r19
    case h19 => (intro w hSw; (try dsimp only at hSw); go_simp; try with_reducible rfl)
    try simp only [Act.put, List.setIfInBounds_toArray, List.set_cons_zero, List.set_cons_succ]
    refine wpAnyH_take (i := 9) (oi := { dst := some 20, op := Go.Op.load 3 (Go.Operand.tmp 19), type := 3, pos := "zone.go:113", after := #[{ on := 8, ground := Go.Ground.data }], guard := none }) (v := ?v20) rfl (by kernel_rfl) (by kernel_rfl) (by kernel_rfl) (fun _ _ _ h => h) (Or.inl ⟨by kernel_rfl, ?h20⟩) (by assumption) ?r20
    case h20 => (intro w hSw; (try dsimp only at hSw); go_simp; try with_reducible rfl)
    try simp only [Act.put, List.setIfInBounds_toArray, List.set_cons_zero, List.set_cons_succ]
    refine wpAnyH_ready (rs := [7]) (by kernel_rfl) (by simp) ?_
    refine AllReadyH.cons (o := { dst := some 18, op := Go.Op.load 3 (Go.Operand.tmp 17), type := 3, pos := "zone.go:113", after := #[{ on := 6, ground := Go.Ground.data }], guard := none }) rfl (fun K hK => ?_) AllReadyH.nil
    go_simp
    refine hK.out _ _ (hHeld) (fun hHeld => ?_)
    clear hK K
    try simp only [Act.put, List.setIfInBounds_toArray, List.set_cons_zero, List.set_cons_succ]
    refine wpAnyH_take (i := 10) (oi := { dst := some 21, op := Go.Op.call { callee := Go.Callee.builtin Go.Builtin.min, args := #[Go.Operand.tmp 18, Go.Operand.tmp 20], argTypes := #[3, 3] }, type := 3, pos := "zone.go:113", after := #[{ on := 7, ground := Go.Ground.data }, { on := 9, ground := Go.Ground.data }], guard := none }) (v := ?v21) rfl (by kernel_rfl) (by kernel_rfl) (by kernel_rfl) (fun _ _ _ h => h) (Or.inl ⟨by kernel_rfl, ?h21⟩) (by assumption) ?r21
    case h21 => (intro w hSw; (try dsimp only at hSw); go_simp; try with_reducible rfl)
    try simp only [Act.put, List.setIfInBounds_toArray, List.set_cons_zero, List.set_cons_succ]
    refine wpAnyH_take (i := 11) (oi := { dst := some 22, op := Go.Op.indexAddr 22 (Go.Operand.tmp 12) (Go.Operand.tmp 13), type := 0, pos := "zone.go:113", after := #[{ on := 1, ground := Go.Ground.data }, { on := 2, ground := Go.Ground.data }, { on := 0, ground := Go.Ground.phase }, { on := 1, ground := Go.Ground.phase }, { on := 2, ground := Go.Ground.phase }, { on := 3, ground := Go.Ground.phase }, { on := 4, ground := Go.Ground.phase }, { on := 5, ground := Go.Ground.phase }, { on := 6, ground := Go.Ground.phase }, { on := 7, ground := Go.Ground.phase }, { on := 8, ground := Go.Ground.phase }, { on := 9, ground := Go.Ground.phase }, { on := 10, ground := Go.Ground.phase }], guard := none }) (v := ?v22) rfl (by kernel_rfl) (by kernel_rfl) (by kernel_rfl) (fun _ _ _ h => h) (Or.inl ⟨by kernel_rfl, ?h22⟩) (by assumption) ?r22
    case h22 => (intro w hSw; (try dsimp only at hSw); go_simp; try with_reducible rfl)
    try simp only [Act.put, List.setIfInBounds_toArray, List.set_cons_zero, List.set_cons_succ]
    refine wpAnyH_ready (rs := [12]) (by kernel_rfl) (by simp) ?_
    refine AllReadyH.cons (o := { dst := none, op := Go.Op.store 3 (Go.Operand.tmp 22) (Go.Operand.tmp 21), type := 0, pos := "zone.go:113", after := #[{ on := 11, ground := Go.Ground.data }, { on := 10, ground := Go.Ground.data }, { on := 0, ground := Go.Ground.phase }, { on := 1, ground := Go.Ground.phase }, { on := 2, ground := Go.Ground.phase }, { on := 3, ground := Go.Ground.phase }, { on := 4, ground := Go.Ground.phase }, { on := 5, ground := Go.Ground.phase }, { on := 6, ground := Go.Ground.phase }, { on := 7, ground := Go.Ground.phase }, { on := 8, ground := Go.Ground.phase }, { on := 9, ground := Go.Ground.phase }, { on := 10, ground := Go.Ground.phase }], guard := none }) rfl (fun K hK => ?_) AllReadyH.nil
    go_simp
    refine hK.out _ _ (hHeld.setIn (p := ⟨g, q, none⟩) (by simp) _) (fun hHeld => ?_)
    clear hK K
    try simp only [Act.put, List.setIfInBounds_toArray, List.set_cons_zero, List.set_cons_succ]
    refine wpAnyH_done (by kernel_rfl) ?_ _
    go_wp2
    go_end0
    exact hfin.out
/-- One pair of places, both far. -/
def farPair (l : List Int) (p q : Nat) : List Int := (l.set p 4398046511104).set q 4398046511104
theorem fforget_any (g cap base s p q : Nat) (l : List Int) (hl : l.length = s) (hp : p < s) (hq : q < s) (w : World)
    (hown : w.ownsRow base 3 1 (.slice (some ⟨g, 0, none⟩) s cap) s (nums .i64 l)) :
    Calls Tryd.prog 83 #[.pointer (some ⟨g, p, none⟩), .pointer (some ⟨g, q, none⟩)] w (MatS s g cap base (farPair l p q) w) := by
  have o1 := own_put hown p 4398046511104
  have o2 := own_put o1 q 4398046511104
  have m0 := own_at hown (i := p) (by omega)
  have mf := hown.frozenAt p
  have m1 := own_at o1 (i := q) (by rw [List.length_set]; omega)
  have mg := o1.frozenAt q
  have hfin : Hid (MatS s g cap base (farPair l p q) w (.returned (.tuple #[])) ((w.setCell ⟨g, p, none⟩ (.int .i64 4398046511104)).setCell ⟨g, q, none⟩ (.int .i64 4398046511104))) := Lib.hid ⟨rfl, o2, ((BelowE.refl [g] w.heap.size w).setIn (p := ⟨g, p, none⟩) (by simp) (.int .i64 4398046511104)).setIn (p := ⟨g, q, none⟩) (by simp) (.int .i64 4398046511104)⟩
  clear o1 o2 hown hl hp hq
  generalize farPair l p q = R at *
  generalize (l.set p 4398046511104).getD q 0 = y at *
  generalize l.getD p 0 = x at *
  go_enter Tryd.func83, Tryd.ntmps83
  go_wp2
  go_end0
  exact hfin.out
def movPair (l : List Int) (p q : Nat) (c : Int) : List Int := (l.set p (l.getD p 0 + c)).set q (l.getD q 0 - c)
set_option maxRecDepth 100000 in
set_option maxHeartbeats 1000000 in
theorem fmove_any (g cap base s p q gw : Nat) (i0 j0 : Int) (c : Int) (hc : -4398046511104 ≤ c ∧ c ≤ 4398046511104) (l : List Int) (hl : l.length = s) (hp : p < s) (hq : q < s) (hpq : p ≠ q) (hlp : -9000000000000 ≤ l.getD p 0 ∧ l.getD p 0 ≤ 9000000000000) (hlq : -9000000000000 ≤ l.getD q 0 ∧ l.getD q 0 ≤ 9000000000000) (w : World)
    (hw : Holds w gw 72 #[.int .i64 i0, .int .i64 j0, .int .i64 c]) (hgw : gw ≠ g)
    (hown : w.ownsRow base 3 1 (.slice (some ⟨g, 0, none⟩) s cap) s (nums .i64 l)) :
    Calls Tryd.prog 82 #[.pointer (some ⟨g, p, none⟩), .pointer (some ⟨g, q, none⟩), .pointer (some ⟨gw, 0, none⟩)] w (MatS s g cap base (movPair l p q c) w) := by
  have o1 := own_put hown p (l.getD p 0 + c)
  have o2 := own_put o1 q (l.getD q 0 - c)
  have m0 := own_at hown (i := p) (by omega)
  have m1 := own_at hown (i := q) (by omega)
  have mf := hown.frozenAt p
  have m2 := own_at o1 (i := q) (by rw [List.length_set]; omega)
  have mg := o1.frozenAt q
  have hglt := World.block_lt_of_cell? _ _ m0
  have hfin : Hid (MatS s g cap base (movPair l p q c) w (.returned (.tuple #[])) ((w.setCell ⟨g, p, none⟩ (.int .i64 (l.getD p 0 + c))).setCell ⟨g, q, none⟩ (.int .i64 (l.getD q 0 - c))).drew) := Lib.hid ⟨rfl, o2, (((BelowE.refl [g] w.heap.size w).setIn (p := ⟨g, p, none⟩) (by simp) (.int .i64 (l.getD p 0 + c))).setIn (p := ⟨g, q, none⟩) (by simp) (.int .i64 (l.getD q 0 - c))).drew⟩
  have f2 : ∀ W, BelowE [g] w.heap.size w W → W.cell? ⟨gw, 2, none⟩ = some (.int .i64 c) := fun W hW => (hw.belowE hW hw.lt (by simpa using hgw)).cell 2
  clear o1 o2 hown hl hp hq hw hgw hglt
  generalize movPair l p q c = R at *
  generalize (l.set p (l.getD p 0 + c)).getD q 0 = z at *
  generalize l.getD p 0 = x at *
  generalize l.getD q 0 = y at *
  have hwa : IntKind.i64.wrap (x + c) = x + c := wrap_small (by omega) (by omega)
  have hwb : IntKind.i64.wrap (y - c) = y - c := wrap_small (by omega) (by omega)
  go_enter Tryd.func82, Tryd.ntmps82
  go_wp2
  refine wp_drawn_on (fun W => BelowE [g] w.heap.size w W) (by kernel_rfl) ((BelowE.refl _ _ _).drew) (fun hHeld => ?_)
  refine wpAnyH_take (i := 0) (oi := { dst := some 5, op := Go.Op.move (Go.Operand.tmp 0), type := 86, pos := "zone.go:123", after := #[], guard := none }) (v := ?v23) rfl (by kernel_rfl) (by kernel_rfl) (by kernel_rfl) (fun _ _ _ h => h) (Or.inl ⟨by kernel_rfl, ?h23⟩) (by assumption) ?r23
  case h23 => (intro w hSw; (try dsimp only at hSw); go_simp; try with_reducible rfl)
  try simp only [Act.put, List.setIfInBounds_toArray, List.set_cons_zero, List.set_cons_succ]
  refine wpAnyH_take (i := 1) (oi := { dst := some 6, op := Go.Op.move (Go.Operand.tmp 1), type := 86, pos := "zone.go:123", after := #[{ on := 15, ground := Go.Ground.gcOnly Go.Departure.lateStores }], guard := none }) (v := ?v24) rfl (by kernel_rfl) (by kernel_rfl) (by kernel_rfl) (fun _ _ _ h => h) (Or.inl ⟨by kernel_rfl, ?h24⟩) (by assumption) ?r24
  case h24 => (intro w hSw; (try dsimp only at hSw); go_simp; try with_reducible rfl)
  try simp only [Act.put, List.setIfInBounds_toArray, List.set_cons_zero, List.set_cons_succ]
  refine wpAnyH_take (i := 2) (oi := { dst := some 7, op := Go.Op.move (Go.Operand.tmp 0), type := 86, pos := "zone.go:123", after := #[], guard := none }) (v := ?v25) rfl (by kernel_rfl) (by kernel_rfl) (by kernel_rfl) (fun _ _ _ h => h) (Or.inl ⟨by kernel_rfl, ?h25⟩) (by assumption) ?r25
  case h25 => (intro w hSw; (try dsimp only at hSw); go_simp; try with_reducible rfl)
  try simp only [Act.put, List.setIfInBounds_toArray, List.set_cons_zero, List.set_cons_succ]
  refine wpAnyH_take (i := 3) (oi := { dst := some 8, op := Go.Op.nilCheck (Go.Operand.tmp 7), type := 0, pos := "zone.go:123", after := #[{ on := 2, ground := Go.Ground.data }], guard := none }) (v := ?v26) rfl (by kernel_rfl) (by kernel_rfl) (by kernel_rfl) (fun _ _ _ h => h) (Or.inl ⟨by kernel_rfl, ?h26⟩) (by assumption) ?r26
  case h26 => (intro w hSw; (try dsimp only at hSw); go_simp; try with_reducible rfl)
  try simp only [Act.put, List.setIfInBounds_toArray, List.set_cons_zero, List.set_cons_succ]
  refine wpAnyH_take (i := 5) (oi := { dst := some 10, op := Go.Op.fieldAddr 72 (Go.Operand.tmp 2) 2, type := 0, pos := "zone.go:123", after := #[], guard := none }) (v := ?v27) rfl (by kernel_rfl) (by kernel_rfl) (by kernel_rfl) (fun _ _ _ h => h) (Or.inl ⟨by kernel_rfl, ?h27⟩) (by assumption) ?r27
  case h27 => (intro w hSw; (try dsimp only at hSw); go_simp; try with_reducible rfl)
  try simp only [Act.put, List.setIfInBounds_toArray, List.set_cons_zero, List.set_cons_succ]
  refine wpAnyH_take (i := 6) (oi := { dst := some 11, op := Go.Op.load 3 (Go.Operand.tmp 10), type := 3, pos := "zone.go:123", after := #[{ on := 5, ground := Go.Ground.data }], guard := none }) (v := ?v28) rfl (by kernel_rfl) (by kernel_rfl) (by kernel_rfl) (fun _ _ _ h => h) (Or.inl ⟨by kernel_rfl, ?h28⟩) (by assumption) ?r28
  case h28 => (intro w hSw; (try dsimp only at hSw); go_simp; try with_reducible rfl)
  try simp only [Act.put, List.setIfInBounds_toArray, List.set_cons_zero, List.set_cons_succ]
  refine wpAnyH_take (i := 8) (oi := { dst := some 13, op := Go.Op.move (Go.Operand.tmp 1), type := 86, pos := "zone.go:123", after := #[], guard := none }) (v := ?v29) rfl (by kernel_rfl) (by kernel_rfl) (by kernel_rfl) (fun _ _ _ h => h) (Or.inl ⟨by kernel_rfl, ?h29⟩) (by assumption) ?r29
  case h29 => (intro w hSw; (try dsimp only at hSw); go_simp; try with_reducible rfl)
  try simp only [Act.put, List.setIfInBounds_toArray, List.set_cons_zero, List.set_cons_succ]
  refine wpAnyH_take (i := 9) (oi := { dst := some 14, op := Go.Op.nilCheck (Go.Operand.tmp 13), type := 0, pos := "zone.go:123", after := #[{ on := 8, ground := Go.Ground.data }], guard := none }) (v := ?v30) rfl (by kernel_rfl) (by kernel_rfl) (by kernel_rfl) (fun _ _ _ h => h) (Or.inl ⟨by kernel_rfl, ?h30⟩) (by assumption) ?r30
  case h30 => (intro w hSw; (try dsimp only at hSw); go_simp; try with_reducible rfl)
  try simp only [Act.put, List.setIfInBounds_toArray, List.set_cons_zero, List.set_cons_succ]
  refine wpAnyH_take (i := 11) (oi := { dst := some 16, op := Go.Op.fieldAddr 72 (Go.Operand.tmp 2) 2, type := 0, pos := "zone.go:123", after := #[], guard := none }) (v := ?v31) rfl (by kernel_rfl) (by kernel_rfl) (by kernel_rfl) (fun _ _ _ h => h) (Or.inl ⟨by kernel_rfl, ?h31⟩) (by assumption) ?r31
  case h31 => (intro w hSw; (try dsimp only at hSw); go_simp; try with_reducible rfl)
  try simp only [Act.put, List.setIfInBounds_toArray, List.set_cons_zero, List.set_cons_succ]
  refine wpAnyH_take (i := 12) (oi := { dst := some 17, op := Go.Op.load 3 (Go.Operand.tmp 16), type := 3, pos := "zone.go:123", after := #[{ on := 11, ground := Go.Ground.data }], guard := none }) (v := ?v32) rfl (by kernel_rfl) (by kernel_rfl) (by kernel_rfl) (fun _ _ _ h => h) (Or.inl ⟨by kernel_rfl, ?h32⟩) (by assumption) ?r32
  case h32 => (intro w hSw; (try dsimp only at hSw); go_simp; try with_reducible rfl)
  try simp only [Act.put, List.setIfInBounds_toArray, List.set_cons_zero, List.set_cons_succ]
  refine wpAnyH_ready (rs := [4, 10]) (by kernel_rfl) (by simp) ?_
  refine AllReadyH.cons (o := { dst := some 9, op := Go.Op.load 3 (Go.Operand.tmp 8), type := 3, pos := "zone.go:123", after := #[{ on := 3, ground := Go.Ground.data }], guard := none }) rfl (fun K hK => ?_) (AllReadyH.cons (o := { dst := some 15, op := Go.Op.load 3 (Go.Operand.tmp 14), type := 3, pos := "zone.go:123", after := #[{ on := 9, ground := Go.Ground.data }], guard := none }) rfl (fun K hK => ?_) AllReadyH.nil)
  · go_simp
    refine hK.out _ _ (hHeld) (fun hHeld => ?_)
    clear hK K
    try simp only [Act.put, List.setIfInBounds_toArray, List.set_cons_zero, List.set_cons_succ]
    refine wpAnyH_take (i := 7) (oi := { dst := some 12, op := Go.Op.binOp Go.BinOp.add 3 (Go.Operand.tmp 9) (Go.Operand.tmp 11) 3, type := 3, pos := "zone.go:123", after := #[{ on := 4, ground := Go.Ground.data }, { on := 6, ground := Go.Ground.data }], guard := none }) (v := ?v33) rfl (by kernel_rfl) (by kernel_rfl) (by kernel_rfl) (fun _ _ _ h => h) (Or.inl ⟨by kernel_rfl, ?h33⟩) (by assumption) ?r33
    case h33 => (intro w hSw; (try dsimp only at hSw); go_simp; try with_reducible rfl)
    try simp only [Act.put, List.setIfInBounds_toArray, List.set_cons_zero, List.set_cons_succ]
    refine wpAnyH_ready (rs := [10]) (by kernel_rfl) (by simp) ?_
    refine AllReadyH.cons (o := { dst := some 15, op := Go.Op.load 3 (Go.Operand.tmp 14), type := 3, pos := "zone.go:123", after := #[{ on := 9, ground := Go.Ground.data }], guard := none }) rfl (fun K hK => ?_) AllReadyH.nil
    go_simp
    refine hK.out _ _ (hHeld) (fun hHeld => ?_)
    clear hK K
    try simp only [Act.put, List.setIfInBounds_toArray, List.set_cons_zero, List.set_cons_succ]
    refine wpAnyH_take (i := 13) (oi := { dst := some 18, op := Go.Op.binOp Go.BinOp.sub 3 (Go.Operand.tmp 15) (Go.Operand.tmp 17) 3, type := 3, pos := "zone.go:123", after := #[{ on := 10, ground := Go.Ground.data }, { on := 12, ground := Go.Ground.data }], guard := none }) (v := ?v34) rfl (by kernel_rfl) (by kernel_rfl) (by kernel_rfl) (fun _ _ _ h => h) (Or.inl ⟨by kernel_rfl, ?h34⟩) (by assumption) ?r34
    case h34 => (intro w hSw; (try dsimp only at hSw); go_simp; try with_reducible rfl)
    try simp only [Act.put, List.setIfInBounds_toArray, List.set_cons_zero, List.set_cons_succ]
    refine wpAnyH_take (i := 14) (oi := { dst := some 19, op := Go.Op.nilCheck (Go.Operand.tmp 5), type := 0, pos := "zone.go:123", after := #[{ on := 0, ground := Go.Ground.data }, { on := 0, ground := Go.Ground.phase }, { on := 1, ground := Go.Ground.textOnly Go.Departure.lateStores }, { on := 2, ground := Go.Ground.phase }, { on := 3, ground := Go.Ground.phase }, { on := 4, ground := Go.Ground.phase }, { on := 5, ground := Go.Ground.phase }, { on := 6, ground := Go.Ground.phase }, { on := 7, ground := Go.Ground.phase }, { on := 8, ground := Go.Ground.textOnly Go.Departure.lateStores }, { on := 9, ground := Go.Ground.textOnly Go.Departure.lateStoresUnsure }, { on := 10, ground := Go.Ground.phase }, { on := 11, ground := Go.Ground.textOnly Go.Departure.lateStores }, { on := 12, ground := Go.Ground.textOnly Go.Departure.inlinedCapture }, { on := 13, ground := Go.Ground.textOnly Go.Departure.lateStoresUnsure }], guard := none }) (v := ?v35) rfl (by kernel_rfl) (by kernel_rfl) (by kernel_rfl) (fun _ _ _ h => h) (Or.inl ⟨by kernel_rfl, ?h35⟩) (by assumption) ?r35
    case h35 => (intro w hSw; (try dsimp only at hSw); go_simp; try with_reducible rfl)
    try simp only [Act.put, List.setIfInBounds_toArray, List.set_cons_zero, List.set_cons_succ]
    refine wpAnyH_ready (rs := [15]) (by kernel_rfl) (by simp) ?_
    refine AllReadyH.cons (o := { dst := none, op := Go.Op.store 3 (Go.Operand.tmp 19) (Go.Operand.tmp 12), type := 0, pos := "zone.go:123", after := #[{ on := 14, ground := Go.Ground.data }, { on := 7, ground := Go.Ground.data }, { on := 0, ground := Go.Ground.phase }, { on := 1, ground := Go.Ground.textOnly Go.Departure.lateStores }, { on := 2, ground := Go.Ground.phase }, { on := 3, ground := Go.Ground.phase }, { on := 4, ground := Go.Ground.phase }, { on := 5, ground := Go.Ground.phase }, { on := 6, ground := Go.Ground.phase }, { on := 7, ground := Go.Ground.phase }, { on := 8, ground := Go.Ground.textOnly Go.Departure.lateStores }, { on := 9, ground := Go.Ground.textOnly Go.Departure.lateStoresUnsure }, { on := 10, ground := Go.Ground.phase }, { on := 11, ground := Go.Ground.textOnly Go.Departure.lateStores }, { on := 12, ground := Go.Ground.textOnly Go.Departure.inlinedCapture }, { on := 13, ground := Go.Ground.textOnly Go.Departure.lateStoresUnsure }], guard := none }) rfl (fun K hK => ?_) AllReadyH.nil
    go_simp
    refine hK.out _ _ (hHeld.setIn (p := ⟨g, p, none⟩) (by simp) _) (fun hHeld => ?_)
    clear hK K
    try simp only [Act.put, List.setIfInBounds_toArray, List.set_cons_zero, List.set_cons_succ]
    refine wpAnyH_take (i := 16) (oi := { dst := some 20, op := Go.Op.nilCheck (Go.Operand.tmp 6), type := 0, pos := "zone.go:123", after := #[{ on := 1, ground := Go.Ground.data }, { on := 0, ground := Go.Ground.phase }, { on := 1, ground := Go.Ground.phase }, { on := 2, ground := Go.Ground.phase }, { on := 3, ground := Go.Ground.phase }, { on := 4, ground := Go.Ground.phase }, { on := 5, ground := Go.Ground.phase }, { on := 6, ground := Go.Ground.phase }, { on := 7, ground := Go.Ground.phase }, { on := 8, ground := Go.Ground.phase }, { on := 9, ground := Go.Ground.phase }, { on := 10, ground := Go.Ground.phase }, { on := 11, ground := Go.Ground.phase }, { on := 12, ground := Go.Ground.phase }, { on := 13, ground := Go.Ground.phase }, { on := 14, ground := Go.Ground.phase }, { on := 15, ground := Go.Ground.phase }], guard := none }) (v := ?v36) rfl (by kernel_rfl) (by kernel_rfl) (by kernel_rfl) (fun _ _ _ h => h) (Or.inl ⟨by kernel_rfl, ?h36⟩) (by assumption) ?r36
    case h36 => (intro w hSw; (try dsimp only at hSw); go_simp; try with_reducible rfl)
    try simp only [Act.put, List.setIfInBounds_toArray, List.set_cons_zero, List.set_cons_succ]
    refine wpAnyH_ready (rs := [17]) (by kernel_rfl) (by simp) ?_
    refine AllReadyH.cons (o := { dst := none, op := Go.Op.store 3 (Go.Operand.tmp 20) (Go.Operand.tmp 18), type := 0, pos := "zone.go:123", after := #[{ on := 16, ground := Go.Ground.data }, { on := 13, ground := Go.Ground.data }, { on := 15, ground := Go.Ground.chain }, { on := 0, ground := Go.Ground.phase }, { on := 1, ground := Go.Ground.phase }, { on := 2, ground := Go.Ground.phase }, { on := 3, ground := Go.Ground.phase }, { on := 4, ground := Go.Ground.phase }, { on := 5, ground := Go.Ground.phase }, { on := 6, ground := Go.Ground.phase }, { on := 7, ground := Go.Ground.phase }, { on := 8, ground := Go.Ground.phase }, { on := 9, ground := Go.Ground.phase }, { on := 10, ground := Go.Ground.phase }, { on := 11, ground := Go.Ground.phase }, { on := 12, ground := Go.Ground.phase }, { on := 13, ground := Go.Ground.phase }, { on := 14, ground := Go.Ground.phase }, { on := 15, ground := Go.Ground.phase }], guard := none }) rfl (fun K hK => ?_) AllReadyH.nil
    go_simp
    refine hK.out _ _ (hHeld.setIn (p := ⟨g, q, none⟩) (by simp) _) (fun hHeld => ?_)
    clear hK K
    try simp only [Act.put, List.setIfInBounds_toArray, List.set_cons_zero, List.set_cons_succ]
    refine wpAnyH_done (by kernel_rfl) ?_ _
    go_wp2
    go_end0
    exact hfin.out
  · go_simp
    refine hK.out _ _ (hHeld) (fun hHeld => ?_)
    clear hK K
    try simp only [Act.put, List.setIfInBounds_toArray, List.set_cons_zero, List.set_cons_succ]
    refine wpAnyH_take (i := 13) (oi := { dst := some 18, op := Go.Op.binOp Go.BinOp.sub 3 (Go.Operand.tmp 15) (Go.Operand.tmp 17) 3, type := 3, pos := "zone.go:123", after := #[{ on := 10, ground := Go.Ground.data }, { on := 12, ground := Go.Ground.data }], guard := none }) (v := ?v37) rfl (by kernel_rfl) (by kernel_rfl) (by kernel_rfl) (fun _ _ _ h => h) (Or.inl ⟨by kernel_rfl, ?h37⟩) (by assumption) ?r37
    case h37 => (intro w hSw; (try dsimp only at hSw); go_simp; try with_reducible rfl)
    try simp only [Act.put, List.setIfInBounds_toArray, List.set_cons_zero, List.set_cons_succ]
    refine wpAnyH_ready (rs := [4]) (by kernel_rfl) (by simp) ?_
    refine AllReadyH.cons (o := { dst := some 9, op := Go.Op.load 3 (Go.Operand.tmp 8), type := 3, pos := "zone.go:123", after := #[{ on := 3, ground := Go.Ground.data }], guard := none }) rfl (fun K hK => ?_) AllReadyH.nil
    go_simp
    refine hK.out _ _ (hHeld) (fun hHeld => ?_)
    clear hK K
    try simp only [Act.put, List.setIfInBounds_toArray, List.set_cons_zero, List.set_cons_succ]
    refine wpAnyH_take (i := 7) (oi := { dst := some 12, op := Go.Op.binOp Go.BinOp.add 3 (Go.Operand.tmp 9) (Go.Operand.tmp 11) 3, type := 3, pos := "zone.go:123", after := #[{ on := 4, ground := Go.Ground.data }, { on := 6, ground := Go.Ground.data }], guard := none }) (v := ?v38) rfl (by kernel_rfl) (by kernel_rfl) (by kernel_rfl) (fun _ _ _ h => h) (Or.inl ⟨by kernel_rfl, ?h38⟩) (by assumption) ?r38
    case h38 => (intro w hSw; (try dsimp only at hSw); go_simp; try with_reducible rfl)
    try simp only [Act.put, List.setIfInBounds_toArray, List.set_cons_zero, List.set_cons_succ]
    refine wpAnyH_take (i := 14) (oi := { dst := some 19, op := Go.Op.nilCheck (Go.Operand.tmp 5), type := 0, pos := "zone.go:123", after := #[{ on := 0, ground := Go.Ground.data }, { on := 0, ground := Go.Ground.phase }, { on := 1, ground := Go.Ground.textOnly Go.Departure.lateStores }, { on := 2, ground := Go.Ground.phase }, { on := 3, ground := Go.Ground.phase }, { on := 4, ground := Go.Ground.phase }, { on := 5, ground := Go.Ground.phase }, { on := 6, ground := Go.Ground.phase }, { on := 7, ground := Go.Ground.phase }, { on := 8, ground := Go.Ground.textOnly Go.Departure.lateStores }, { on := 9, ground := Go.Ground.textOnly Go.Departure.lateStoresUnsure }, { on := 10, ground := Go.Ground.phase }, { on := 11, ground := Go.Ground.textOnly Go.Departure.lateStores }, { on := 12, ground := Go.Ground.textOnly Go.Departure.inlinedCapture }, { on := 13, ground := Go.Ground.textOnly Go.Departure.lateStoresUnsure }], guard := none }) (v := ?v39) rfl (by kernel_rfl) (by kernel_rfl) (by kernel_rfl) (fun _ _ _ h => h) (Or.inl ⟨by kernel_rfl, ?h39⟩) (by assumption) ?r39
    case h39 => (intro w hSw; (try dsimp only at hSw); go_simp; try with_reducible rfl)
    try simp only [Act.put, List.setIfInBounds_toArray, List.set_cons_zero, List.set_cons_succ]
    refine wpAnyH_ready (rs := [15]) (by kernel_rfl) (by simp) ?_
    refine AllReadyH.cons (o := { dst := none, op := Go.Op.store 3 (Go.Operand.tmp 19) (Go.Operand.tmp 12), type := 0, pos := "zone.go:123", after := #[{ on := 14, ground := Go.Ground.data }, { on := 7, ground := Go.Ground.data }, { on := 0, ground := Go.Ground.phase }, { on := 1, ground := Go.Ground.textOnly Go.Departure.lateStores }, { on := 2, ground := Go.Ground.phase }, { on := 3, ground := Go.Ground.phase }, { on := 4, ground := Go.Ground.phase }, { on := 5, ground := Go.Ground.phase }, { on := 6, ground := Go.Ground.phase }, { on := 7, ground := Go.Ground.phase }, { on := 8, ground := Go.Ground.textOnly Go.Departure.lateStores }, { on := 9, ground := Go.Ground.textOnly Go.Departure.lateStoresUnsure }, { on := 10, ground := Go.Ground.phase }, { on := 11, ground := Go.Ground.textOnly Go.Departure.lateStores }, { on := 12, ground := Go.Ground.textOnly Go.Departure.inlinedCapture }, { on := 13, ground := Go.Ground.textOnly Go.Departure.lateStoresUnsure }], guard := none }) rfl (fun K hK => ?_) AllReadyH.nil
    go_simp
    refine hK.out _ _ (hHeld.setIn (p := ⟨g, p, none⟩) (by simp) _) (fun hHeld => ?_)
    clear hK K
    try simp only [Act.put, List.setIfInBounds_toArray, List.set_cons_zero, List.set_cons_succ]
    refine wpAnyH_take (i := 16) (oi := { dst := some 20, op := Go.Op.nilCheck (Go.Operand.tmp 6), type := 0, pos := "zone.go:123", after := #[{ on := 1, ground := Go.Ground.data }, { on := 0, ground := Go.Ground.phase }, { on := 1, ground := Go.Ground.phase }, { on := 2, ground := Go.Ground.phase }, { on := 3, ground := Go.Ground.phase }, { on := 4, ground := Go.Ground.phase }, { on := 5, ground := Go.Ground.phase }, { on := 6, ground := Go.Ground.phase }, { on := 7, ground := Go.Ground.phase }, { on := 8, ground := Go.Ground.phase }, { on := 9, ground := Go.Ground.phase }, { on := 10, ground := Go.Ground.phase }, { on := 11, ground := Go.Ground.phase }, { on := 12, ground := Go.Ground.phase }, { on := 13, ground := Go.Ground.phase }, { on := 14, ground := Go.Ground.phase }, { on := 15, ground := Go.Ground.phase }], guard := none }) (v := ?v40) rfl (by kernel_rfl) (by kernel_rfl) (by kernel_rfl) (fun _ _ _ h => h) (Or.inl ⟨by kernel_rfl, ?h40⟩) (by assumption) ?r40
    case h40 => (intro w hSw; (try dsimp only at hSw); go_simp; try with_reducible rfl)
    try simp only [Act.put, List.setIfInBounds_toArray, List.set_cons_zero, List.set_cons_succ]
    refine wpAnyH_ready (rs := [17]) (by kernel_rfl) (by simp) ?_
    refine AllReadyH.cons (o := { dst := none, op := Go.Op.store 3 (Go.Operand.tmp 20) (Go.Operand.tmp 18), type := 0, pos := "zone.go:123", after := #[{ on := 16, ground := Go.Ground.data }, { on := 13, ground := Go.Ground.data }, { on := 15, ground := Go.Ground.chain }, { on := 0, ground := Go.Ground.phase }, { on := 1, ground := Go.Ground.phase }, { on := 2, ground := Go.Ground.phase }, { on := 3, ground := Go.Ground.phase }, { on := 4, ground := Go.Ground.phase }, { on := 5, ground := Go.Ground.phase }, { on := 6, ground := Go.Ground.phase }, { on := 7, ground := Go.Ground.phase }, { on := 8, ground := Go.Ground.phase }, { on := 9, ground := Go.Ground.phase }, { on := 10, ground := Go.Ground.phase }, { on := 11, ground := Go.Ground.phase }, { on := 12, ground := Go.Ground.phase }, { on := 13, ground := Go.Ground.phase }, { on := 14, ground := Go.Ground.phase }, { on := 15, ground := Go.Ground.phase }], guard := none }) rfl (fun K hK => ?_) AllReadyH.nil
    go_simp
    refine hK.out _ _ (hHeld.setIn (p := ⟨g, q, none⟩) (by simp) _) (fun hHeld => ?_)
    clear hK K
    try simp only [Act.put, List.setIfInBounds_toArray, List.set_cons_zero, List.set_cons_succ]
    refine wpAnyH_done (by kernel_rfl) ?_ _
    go_wp2
    go_end0
    exact hfin.out
end Go.Proofs.YtplgmmjppmpnoaaDoor
