/- Zones put together: Leq; the document's Two, Leq, Meet, Join, Widen. (Written by gen-zone-ref.py.) -/
import Derived.Test.YtacbkddkjlnklaaZoneJoin
namespace Go.Proofs.Ytacbkddkjlnklaa
open Go.RowKit
set_option linter.unusedVariables false
set_option linter.unusedSimpArgs false

/-- A zone that the document's functions hand back: empty, or in new memory. -/
def ZoneN (n : Int) (l : List Int) (w : World) (e : Ending) (w' : World) : Prop := ∃ a m c, e = .returned (.agg #[.int .i64 n, .slice a m c]) ∧ SL w' a m c l ∧ Below w.heap.size w w' ∧ (l = [] ∨ New w a)
def ZoneR (n : Int) (l : List Int) (w : World) (e : Ending) (w' : World) : Prop := ∃ a m c, e = .returned (.agg #[.int .i64 n, .slice a m c]) ∧ SL w' a m c l ∧ Below w.heap.size w w'
theorem ZoneN.r {n : Int} {l : List Int} {w : World} {e : Ending} {w' : World} (h : ZoneN n l w e w') : ZoneR n l w e w' := by
  obtain ⟨a, m, c, h1, h2, h3, -⟩ := h
  exact ⟨a, m, c, h1, h2, h3⟩
theorem zoneN_of {n : Int} {l : List Int} {w : World} {e : Ending} {w' : World} (hl : l.length ≤ 1000) (h : ZoneS n l w e w') : ZoneN n l w e w' := by
  obtain ⟨a, c, h1, h2, h3, h4, h5⟩ := h
  exact ⟨a, l.length, c, h1, ⟨rfl, h2, by omega, h3⟩, h4, .inr h5⟩
theorem sl_set {w : World} {a : Option Addr} {m c : Nat} {l : List Int} (h : SL w a m c l) (g : Nat) (hg : l = [] ∨ ∀ p, a = some p → g ≠ p.block) (x y : Value) : SL ((w.setCell ⟨g, 0, none⟩ x).setCell ⟨g, 1, none⟩ y) a m c l := by
  refine ⟨h.len, h.cap, h.max, ?_⟩
  rcases hg with e | hg
  · exact .inl e
  · have := sees_other (sees_other h.sees g hg 0 x) g hg 1 y
    simpa using this
/-- A zone handed back, put into a block. -/
theorem zone_putN {n : Int} {R : List Int} {w W1 w3 : World} {g : Nat} {a : Option Addr} {m c : Nat} {z0 z1 : Value} (hB : Below w.heap.size w W1) (hg : w.heap.size ≤ g) (hz : ZH W1 g z0 z1) (hs : SL w3 a m c R) (hb : Below W1.heap.size W1 w3) (hnw : R = [] ∨ New W1 a) :
    ZH ((w3.setCell ⟨g, 0, none⟩ (.int .i64 n)).setCell ⟨g, 1, none⟩ (.slice a m c)) g (.int .i64 n) (.slice a m c) ∧
      ZoneN n R w (.returned (.agg #[.int .i64 n, .slice a m c])) ((w3.setCell ⟨g, 0, none⟩ (.int .i64 n)).setCell ⟨g, 1, none⟩ (.slice a m c)) := by
  have hlt := hz.lt
  have hs2 := sl_set hs g (hnw.imp id (fun h p hp => by have := h p hp; omega)) (.int .i64 n) (.slice a m c)
  have hbb : Below w.heap.size w ((w3.setCell ⟨g, 0, none⟩ (.int .i64 n)).setCell ⟨g, 1, none⟩ (.slice a m c)) := ((hB.trans (hb.mono hB.size)).setCell (p := ⟨g, 0, none⟩) hg _).setCell (p := ⟨g, 1, none⟩) hg _
  exact ⟨zh_set (hz.below hb hlt) _ _, a, m, c, rfl, hs2, hbb, hnw.imp id (fun h p hp => Nat.le_trans hB.size (h p hp))⟩
/-- Has the second one all of the first one? -/
def leqB (l1 l2 : List Int) : Bool := if l1 = [] then true else if l2 = [] then false else (List.range l1.length).all fun t => decide (l1.getD t 0 ≤ l2.getD t 0)
theorem leq_yes {l1 l2 : List Int} (h1 : l1 ≠ []) (h2 : l2 ≠ []) (h : ∀ t, t < l1.length → l1.getD t 0 ≤ l2.getD t 0) : leqB l1 l2 = true := by
  unfold leqB
  rw [if_neg h1, if_neg h2]
  exact List.all_eq_true.2 (fun t ht => decide_eq_true (h t (List.mem_range.1 ht)))
theorem leq_no {l1 l2 : List Int} (h1 : l1 ≠ []) (h2 : l2 ≠ []) {t : Nat} (ht : t < l1.length) (h : ¬ l1.getD t 0 ≤ l2.getD t 0) : leqB l1 l2 = false := by
  unfold leqB
  rw [if_neg h1, if_neg h2]
  exact List.all_eq_false.2 ⟨t, List.mem_range.2 ht, by rw [decide_eq_false h]; decide⟩
theorem three_new (w : World) (x1 y1 x2 y2 x3 y3 : Value) : Below w.heap.size w (((w.alloc (.cells #[x1, y1] 24)).alloc (.cells #[x2, y2] 24)).alloc (.cells #[x3, y3] 24)) ∧ ZH (((w.alloc (.cells #[x1, y1] 24)).alloc (.cells #[x2, y2] 24)).alloc (.cells #[x3, y3] 24)) (w.heap.size + 1 + 1) x3 y3 := by
  refine ⟨(box2_below _ _ _ _ _).alloc (by simp; omega) _, ?_⟩
  have := Holds.new ((w.alloc (.cells #[x1, y1] 24)).alloc (.cells #[x2, y2] 24)) 24 #[x3, y3]
  simpa using this
/-- Two zones' blocks. -/
structure B2 (w W : World) (x1 y1 x2 y2 : Value) : Prop where
  bl : Below w.heap.size w W
  z1 : ZH W w.heap.size x1 y1
  z2 : ZH W (w.heap.size + 1) x2 y2
theorem B2.on {w W W' : World} {x1 y1 x2 y2 : Value} (h : B2 w W x1 y1 x2 y2) (hb : Below W.heap.size W W') : B2 w W' x1 y1 x2 y2 := ⟨h.bl.trans (hb.mono h.bl.size), h.z1.below hb h.z1.lt, h.z2.below hb h.z2.lt⟩
theorem b2_new (w : World) (x1 y1 x2 y2 : Value) : B2 w ((w.alloc (.cells #[x1, y1] 24)).alloc (.cells #[x2, y2] 24)) x1 y1 x2 y2 := by
  refine ⟨box2_below _ _ _ _ _, (Holds.new w _ _).alloc _, ?_⟩
  have := Holds.new (w.alloc (.cells #[x1, y1] 24)) 24 #[x2, y2]
  simpa using this
set_option maxRecDepth 100000 in
set_option maxHeartbeats 1000000 in
theorem zleq_bad (n1 n2 : Int) (a1 a2 : Option Addr) (m1 m2 c1 c2 : Nat) (l1 l2 : List Int) (w : World) (h1 : SL w a1 m1 c1 l1) (h2 : SL w a2 m2 c2 l2) (hne : twoE n1 l1 n2 l2 ≠ 0) : Calls Try.prog 12 #[.agg #[.int .i64 n1, .slice a1 m1 c1], .agg #[.int .i64 n2, .slice a2 m2 c2]] w (Gives (.tuple #[.bool false, .int .i64 (twoE n1 l1 n2 l2)]) w) := by
  obtain ⟨W1, hW1⟩ : ∃ W1, W1 = (w.alloc (.cells #[.int .i64 n1, .slice a1 m1 c1] 24)).alloc (.cells #[.int .i64 n2, .slice a2 m2 c2] 24) := ⟨_, rfl⟩
  have X1 : B2 w W1 (.int .i64 n1) (.slice a1 m1 c1) (.int .i64 n2) (.slice a2 m2 c2) := by rw [hW1]; exact b2_new _ _ _ _ _
  have H1 := Lib.hid h1
  have H2 := Lib.hid h2
  have X1' := Lib.hid X1
  have hW1' := Lib.hid hW1
  have q1 := Lib.hid (ztwo_any n1 n2 a1 a2 l1 l2 m1 m2 c1 c2 W1 (h1.below X1.bl) (h2.below X1.bl))
  clear hW1 X1 h1 h2
  generalize twoE n1 l1 n2 l2 = E at *
  have e1 : (E != 0) = true := by simpa using hne
  go_enter Try.func12, Try.ntmps12
  go_wp2_with fail
  rw [← hW1'.out]
  refine q1.out.mono ?_
  rintro e w2 ⟨rfl, b2⟩
  have X2 := Lib.hid (X1'.out.on b2)
  clear b2 X1' q1
  go_wp2
  go_ret2
  exact ⟨rfl, X2.out.bl⟩
set_option maxRecDepth 100000 in
set_option maxHeartbeats 1000000 in
theorem zleq_a (a1 a2 : Option Addr) (m1 m2 c1 c2 : Nat) (l1 l2 : List Int) (n : Nat) (z1 : IsZ n l1) (z2 : IsZ n l2) (w : World) (h1 : SL w a1 m1 c1 l1) (h2 : SL w a2 m2 c2 l2) (hn : l1 = []) : Calls Try.prog 12 #[.agg #[.int .i64 n, .slice a1 m1 c1], .agg #[.int .i64 n, .slice a2 m2 c2]] w (Gives (.tuple #[.bool true, .int .i64 0]) w) := by
  obtain ⟨W1, hW1⟩ : ∃ W1, W1 = (w.alloc (.cells #[.int .i64 n, .slice a1 m1 c1] 24)).alloc (.cells #[.int .i64 n, .slice a2 m2 c2] 24) := ⟨_, rfl⟩
  have X1 : B2 w W1 (.int .i64 n) (.slice a1 m1 c1) (.int .i64 n) (.slice a2 m2 c2) := by rw [hW1]; exact b2_new _ _ _ _ _
  have H1 := Lib.hid h1
  have H2 := Lib.hid h2
  have X1' := Lib.hid X1
  have hW1' := Lib.hid hW1
  have q1 := Lib.hid (ztwo_any n n a1 a2 l1 l2 m1 m2 c1 c2 W1 (h1.below X1.bl) (h2.below X1.bl))
  rw [z1.two z2] at q1
  have q2 := Lib.hid (fun W (hW : Below w.heap.size w W) => zempty_any n a1 m1 c1 l1 W (H1.out.below hW))
  have q3 := Lib.hid (fun W (hW : Below w.heap.size w W) => zempty_any n a2 m2 c2 l2 W (H2.out.below hW))
  rw [decide_eq_true hn] at q2
  clear hW1 X1 h1 h2 hn
  go_enter Try.func12, Try.ntmps12
  go_wp2_with fail
  rw [← hW1'.out]
  refine q1.out.mono ?_
  rintro e w2 ⟨rfl, b2⟩
  have X2 := Lib.hid (X1'.out.on b2)
  clear b2 X1' q1
  have k0 := X2.out.z1.cell 0
  have k1 := X2.out.z1.cell 1
  have p2 := Lib.hid (q2.out w2 X2.out.bl)
  go_wp2_with fail
  refine p2.out.mono ?_
  rintro e w3 ⟨rfl, b3⟩
  have X3 := Lib.hid (X2.out.on b3)
  clear b3 X2 p2 k0 k1
  have k0 := X3.out.z1.cell 0
  have k1 := X3.out.z1.cell 1
  have p5 := Lib.hid (q2.out w3 X3.out.bl)
  go_wp2_with fail
  refine p5.out.mono ?_
  rintro e w5 ⟨rfl, b5⟩
  have X5 := Lib.hid (X3.out.on b5)
  clear b5 p5 k0 k1
  go_wp2
  go_ret2
  exact ⟨rfl, X5.out.bl⟩
theorem zleq_b (a1 a2 : Option Addr) (m1 m2 c1 c2 : Nat) (l1 l2 : List Int) (n : Nat) (z1 : IsZ n l1) (z2 : IsZ n l2) (w : World) (h1 : SL w a1 m1 c1 l1) (h2 : SL w a2 m2 c2 l2) (hn1 : l1 ≠ []) (hn : l2 = []) : Calls Try.prog 12 #[.agg #[.int .i64 n, .slice a1 m1 c1], .agg #[.int .i64 n, .slice a2 m2 c2]] w (Gives (.tuple #[.bool false, .int .i64 0]) w) := by
  obtain ⟨W1, hW1⟩ : ∃ W1, W1 = (w.alloc (.cells #[.int .i64 n, .slice a1 m1 c1] 24)).alloc (.cells #[.int .i64 n, .slice a2 m2 c2] 24) := ⟨_, rfl⟩
  have X1 : B2 w W1 (.int .i64 n) (.slice a1 m1 c1) (.int .i64 n) (.slice a2 m2 c2) := by rw [hW1]; exact b2_new _ _ _ _ _
  have H1 := Lib.hid h1
  have H2 := Lib.hid h2
  have X1' := Lib.hid X1
  have hW1' := Lib.hid hW1
  have q1 := Lib.hid (ztwo_any n n a1 a2 l1 l2 m1 m2 c1 c2 W1 (h1.below X1.bl) (h2.below X1.bl))
  rw [z1.two z2] at q1
  have q2 := Lib.hid (fun W (hW : Below w.heap.size w W) => zempty_any n a1 m1 c1 l1 W (H1.out.below hW))
  have q3 := Lib.hid (fun W (hW : Below w.heap.size w W) => zempty_any n a2 m2 c2 l2 W (H2.out.below hW))
  rw [decide_eq_false hn1] at q2
  rw [decide_eq_true hn] at q3
  clear hW1 X1 h1 h2 hn hn1
  go_enter Try.func12, Try.ntmps12
  go_wp2_with fail
  rw [← hW1'.out]
  refine q1.out.mono ?_
  rintro e w2 ⟨rfl, b2⟩
  have X2 := Lib.hid (X1'.out.on b2)
  clear b2 X1' q1
  have k0 := X2.out.z1.cell 0
  have k1 := X2.out.z1.cell 1
  have p2 := Lib.hid (q2.out w2 X2.out.bl)
  go_wp2_with fail
  refine p2.out.mono ?_
  rintro e w3 ⟨rfl, b3⟩
  have X3 := Lib.hid (X2.out.on b3)
  clear b3 X2 p2 k0 k1
  have k0 := X3.out.z2.cell 0
  have k1 := X3.out.z2.cell 1
  have p3 := Lib.hid (q3.out w3 X3.out.bl)
  go_wp2_with fail
  refine p3.out.mono ?_
  rintro e w4 ⟨rfl, b4⟩
  have X4 := Lib.hid (X3.out.on b4)
  clear b4 X3 p3 k0 k1
  have k0 := X4.out.z1.cell 0
  have k1 := X4.out.z1.cell 1
  have p5 := Lib.hid (q2.out w4 X4.out.bl)
  go_wp2_with fail
  refine p5.out.mono ?_
  rintro e w5 ⟨rfl, b5⟩
  have X5 := Lib.hid (X4.out.on b5)
  clear b5 p5 k0 k1
  go_wp2
  go_ret2
  exact ⟨rfl, X5.out.bl⟩
set_option maxRecDepth 100000 in
set_option maxHeartbeats 1000000 in
theorem zleq_c (a1 a2 : Option Addr) (m1 m2 c1 c2 : Nat) (l1 l2 : List Int) (n : Nat) (z1 : IsZ n l1) (z2 : IsZ n l2) (w : World) (h1 : SL w a1 m1 c1 l1) (h2 : SL w a2 m2 c2 l2) (hF1 : l1 ≠ []) (hF2 : l2 ≠ []) (hl : m1 = m2) : Calls Try.prog 12 #[.agg #[.int .i64 n, .slice a1 m1 c1], .agg #[.int .i64 n, .slice a2 m2 c2]] w (Gives (.tuple #[.bool (leqB l1 l2), .int .i64 0]) w) := by
  obtain ⟨W1, hW1⟩ : ∃ W1, W1 = (w.alloc (.cells #[.int .i64 n, .slice a1 m1 c1] 24)).alloc (.cells #[.int .i64 n, .slice a2 m2 c2] 24) := ⟨_, rfl⟩
  have X1 : B2 w W1 (.int .i64 n) (.slice a1 m1 c1) (.int .i64 n) (.slice a2 m2 c2) := by rw [hW1]; exact b2_new _ _ _ _ _
  have H1 := Lib.hid h1
  have H2 := Lib.hid h2
  have X1' := Lib.hid X1
  have hW1' := Lib.hid hW1
  have q1 := Lib.hid (ztwo_any n n a1 a2 l1 l2 m1 m2 c1 c2 W1 (h1.below X1.bl) (h2.below X1.bl))
  rw [z1.two z2] at q1
  have q2 := Lib.hid (fun W (hW : Below w.heap.size w W) => zempty_any n a1 m1 c1 l1 W (H1.out.below hW))
  have q3 := Lib.hid (fun W (hW : Below w.heap.size w W) => zempty_any n a2 m2 c2 l2 W (H2.out.below hW))
  rw [decide_eq_false hF1] at q2
  rw [decide_eq_false hF2] at q3
  replace hF1 := Lib.hid hF1
  replace hF2 := Lib.hid hF2
  have hmx := h1.max
  subst hl
  clear hW1 X1 h1 h2
  go_enter Try.func12, Try.ntmps12
  go_wp2_with fail
  rw [← hW1'.out]
  refine q1.out.mono ?_
  rintro e w2 ⟨rfl, b2⟩
  have X2 := Lib.hid (X1'.out.on b2)
  clear b2 X1' q1
  have k0 := X2.out.z1.cell 0
  have k1 := X2.out.z1.cell 1
  have p2 := Lib.hid (q2.out w2 X2.out.bl)
  go_wp2_with fail
  refine p2.out.mono ?_
  rintro e w3 ⟨rfl, b3⟩
  have X3 := Lib.hid (X2.out.on b3)
  clear b3 X2 p2 k0 k1
  have k0 := X3.out.z2.cell 0
  have k1 := X3.out.z2.cell 1
  have p3 := Lib.hid (q3.out w3 X3.out.bl)
  go_wp2_with fail
  refine p3.out.mono ?_
  rintro e w4 ⟨rfl, b4⟩
  have X4 := Lib.hid (X3.out.on b4)
  clear b4 X3 p3 k0 k1
  have k1 := X4.out.z1.cell 1
  have k2 := X4.out.z2.cell 1
  have T1 := Lib.hid (H1.out.below X4.out.bl)
  have T2 := Lib.hid (H2.out.below X4.out.bl)
  go_wp2
  go_loopw [25] (fun x wr => ∃ k m : Nat, k ≤ m1 ∧ x = .int .i64 k ∧ Hid (∀ t, t < k → l1.getD t 0 ≤ l2.getD t 0) ∧ wr = w4.drewN m) (fun x _ => m1 - (intOf x).toNat)
  case atStart => exact ⟨0, 0, Nat.zero_le _, rfl, Lib.hid (by intro t ht; omega), rfl⟩
  case round =>
    obtain ⟨k, m, hk, rfl, hall, rfl⟩ := hrel
    by_cases hlt : k < m1
    · have hki : (k : Int) < (m1 : Int) := by omega
      obtain ⟨b1, o1, rfl, -, e1⟩ := sees_at' T1.out.sees (i := k) (by have := T1.out.len; omega)
      obtain ⟨b2, o2, rfl, -, e2⟩ := sees_at' T2.out.sees (i := k) (by have := T2.out.len; omega)
      have hno : Hid (¬ l1.getD k 0 ≤ l2.getD k 0 → leqB l1 l2 = false) := Lib.hid (fun h => leq_no hF1.out hF2.out (by have := T1.out.len; omega) h)
      have hyes : Hid (l1.getD k 0 ≤ l2.getD k 0 → ∀ t, t < k + 1 → l1.getD t 0 ≤ l2.getD t 0) := Lib.hid (fun h t ht => by
        by_cases e : t = k
        · subst e; exact h
        · exact hall.out t (by omega))
      clear hall
      generalize l1.getD k 0 = x at *
      generalize l2.getD k 0 = y at *
      by_cases hxy : y < x
      · have hr := hno.out (by omega)
        clear hno hyes
        go_wp2
        go_quiet (fail)
        go_wp2
        go_ret2
        rw [hr]
        exact ⟨rfl, Below.drewN (Below.drewN X4.out.bl m) nq⟩
      · have hn2 := Lib.hid (hyes.out (by omega))
        clear hno hyes
        go_wp2
        go_quiet (fail)
        go_wp2
        go_roundw
        case rel => exact ⟨k + 1, m + nq, by omega, by go_num, hn2, by simp [World.drewN, Nat.add_assoc]⟩
        case measure => simp [intOf]; omega
    · have hr : leqB l1 l2 = true := leq_yes hF1.out hF2.out (fun t ht => hall.out t (by have := T1.out.len; omega))
      clear hall
      go_wp2
      go_ret2
      rw [hr]
      exact ⟨rfl, Below.drewN X4.out.bl m⟩
theorem zleq_ok (a1 a2 : Option Addr) (m1 m2 c1 c2 : Nat) (l1 l2 : List Int) (n : Nat) (z1 : IsZ n l1) (z2 : IsZ n l2) (w : World) (h1 : SL w a1 m1 c1 l1) (h2 : SL w a2 m2 c2 l2) : Calls Try.prog 12 #[.agg #[.int .i64 n, .slice a1 m1 c1], .agg #[.int .i64 n, .slice a2 m2 c2]] w (Gives (.tuple #[.bool (leqB l1 l2), .int .i64 0]) w) := by
  by_cases e1 : l1 = []
  · have := zleq_a a1 a2 m1 m2 c1 c2 l1 l2 n z1 z2 w h1 h2 e1
    unfold leqB
    rw [if_pos e1]
    exact this
  · by_cases e2 : l2 = []
    · have := zleq_b a1 a2 m1 m2 c1 c2 l1 l2 n z1 z2 w h1 h2 e1 e2
      unfold leqB
      rw [if_neg e1, if_pos e2]
      exact this
    · exact zleq_c a1 a2 m1 m2 c1 c2 l1 l2 n z1 z2 w h1 h2 e1 e2 (by rw [h1.len, h2.len, (z1.2.resolve_left e1).len, (z2.2.resolve_left e2).len])
set_option maxRecDepth 100000 in
set_option maxHeartbeats 1000000 in
theorem rleq_any (n1 n2 : Int) (a1 a2 : Option Addr) (m1 m2 c1 c2 : Nat) (l1 l2 : List Int) (w : World) (h1 : SL w a1 m1 c1 l1) (h2 : SL w a2 m2 c2 l2) (hl : l1 = [] ∨ l2 = [] ∨ m1 = m2) : Calls Try.prog 17 #[.agg #[.int .i64 n1, .slice a1 m1 c1], .agg #[.int .i64 n2, .slice a2 m2 c2]] w (Gives (.bool (leqB l1 l2)) w) := by
  obtain ⟨W1, hW1⟩ : ∃ W1, W1 = (w.alloc (.cells #[.int .i64 n1, .slice a1 m1 c1] 24)).alloc (.cells #[.int .i64 n2, .slice a2 m2 c2] 24) := ⟨_, rfl⟩
  have X1 : B2 w W1 (.int .i64 n1) (.slice a1 m1 c1) (.int .i64 n2) (.slice a2 m2 c2) := by rw [hW1]; exact b2_new _ _ _ _ _
  have H1 := Lib.hid h1
  have H2 := Lib.hid h2
  have X1' := Lib.hid X1
  have hW1' := Lib.hid hW1
  have k1 := X1.z1.cell 1
  have k2 := X1.z2.cell 1
  have hmx := h1.max
  have hmx2 := h2.max
  have T1 := Lib.hid (h1.below X1.bl)
  have T2 := Lib.hid (h2.below X1.bl)
  by_cases e1 : l1 = []
  · have hm : m1 = 0 := by rw [h1.len, e1]; rfl
    subst hm
    have hr : leqB l1 l2 = true := by unfold leqB; rw [if_pos e1]
    rw [hr]
    clear X1 h1 h2 k1 k2 hr hW1
    go_enter Try.func17, Try.ntmps17
    go_wp2
    go_ret
    rw [← hW1'.out]
    exact ⟨rfl, X1'.out.bl⟩
  have hp1 := len_pos e1 h1.len
  have p1 : ((m1 : Int) == 0) = false := by simp; omega
  have p2 : ¬ (m1 : Int) = 0 := by omega
  by_cases e2 : l2 = []
  · have hm : m2 = 0 := by rw [h2.len, e2]; rfl
    subst hm
    have hr : leqB l1 l2 = false := by unfold leqB; rw [if_neg e1, if_pos e2]
    rw [hr]
    clear X1 h1 h2 k1 k2 hr hW1
    go_enter Try.func17, Try.ntmps17
    go_wp2
    go_ret
    rw [← hW1'.out]
    exact ⟨rfl, X1'.out.bl⟩
  have hp2 := len_pos e2 h2.len
  have hm12 : m1 = m2 := (hl.resolve_left e1).resolve_left e2
  subst hm12
  have hF1 := Lib.hid e1
  have hF2 := Lib.hid e2
  clear X1 h1 h2 hl hp1 hp2 e1 e2
  go_enter Try.func17, Try.ntmps17
  go_wp2
  rw [← hW1]
  clear hW1
  go_loopw [5] (fun x wr => ∃ k m : Nat, k ≤ m1 ∧ x = .int .i64 k ∧ Hid (∀ t, t < k → l1.getD t 0 ≤ l2.getD t 0) ∧ wr = W1.drewN m) (fun x _ => m1 - (intOf x).toNat)
  case atStart => exact ⟨0, 0, Nat.zero_le _, rfl, Lib.hid (by intro t ht; omega), rfl⟩
  case round =>
    obtain ⟨k, m, hk, rfl, hall, rfl⟩ := hrel
    by_cases hlt : k < m1
    · have hki : (k : Int) < (m1 : Int) := by omega
      obtain ⟨b1, o1, rfl, -, e1⟩ := sees_at' T1.out.sees (i := k) (by have := T1.out.len; omega)
      obtain ⟨b2, o2, rfl, -, e2⟩ := sees_at' T2.out.sees (i := k) (by have := T2.out.len; omega)
      have hno : Hid (¬ l1.getD k 0 ≤ l2.getD k 0 → leqB l1 l2 = false) := Lib.hid (fun h => leq_no hF1.out hF2.out (by have := T1.out.len; omega) h)
      have hyes : Hid (l1.getD k 0 ≤ l2.getD k 0 → ∀ t, t < k + 1 → l1.getD t 0 ≤ l2.getD t 0) := Lib.hid (fun h t ht => by
        by_cases e : t = k
        · subst e; exact h
        · exact hall.out t (by omega))
      clear hall
      generalize l1.getD k 0 = x at *
      generalize l2.getD k 0 = y at *
      by_cases hxy : y < x
      · have hr := hno.out (by omega)
        clear hno hyes
        go_wp2
        go_quiet (fail)
        go_wp2
        go_ret
        rw [hr]
        exact ⟨rfl, Below.drewN (Below.drewN X1'.out.bl m) nq⟩
      · have hn2 := Lib.hid (hyes.out (by omega))
        clear hno hyes
        go_wp2
        go_quiet (fail)
        go_wp2
        go_roundw
        case rel => exact ⟨k + 1, m + nq, by omega, by go_num, hn2, by simp [World.drewN, Nat.add_assoc]⟩
        case measure => simp [intOf]; omega
    · have hr : leqB l1 l2 = true := leq_yes hF1.out hF2.out (fun t ht => hall.out t (by have := T1.out.len; omega))
      clear hall
      go_wp2
      go_ret
      rw [hr]
      exact ⟨rfl, Below.drewN X1'.out.bl m⟩
set_option maxRecDepth 100000 in
set_option maxHeartbeats 1000000 in
theorem rtwo_any (n1 n2 : Int) (a1 a2 : Option Addr) (m1 m2 c1 c2 : Nat) (l1 l2 : List Int) (w : World) (h1 : SL w a1 m1 c1 l1) (h2 : SL w a2 m2 c2 l2) : Calls Try.prog 11 #[.agg #[.int .i64 n1, .slice a1 m1 c1], .agg #[.int .i64 n2, .slice a2 m2 c2]] w (Gives (.int .i64 (twoE n1 l1 n2 l2)) w) := by
  obtain ⟨W1, hW1⟩ : ∃ W1, W1 = (w.alloc (.cells #[.int .i64 n1, .slice a1 m1 c1] 24)).alloc (.cells #[.int .i64 n2, .slice a2 m2 c2] 24) := ⟨_, rfl⟩
  have X1 : B2 w W1 (.int .i64 n1) (.slice a1 m1 c1) (.int .i64 n2) (.slice a2 m2 c2) := by rw [hW1]; exact b2_new _ _ _ _ _
  have H1 := Lib.hid h1
  have H2 := Lib.hid h2
  have X1' := Lib.hid X1
  have hW1' := Lib.hid hW1
  have q1 := Lib.hid (rcheck_any n1 a1 m1 c1 l1 W1 (h1.below X1.bl))
  have q2 := Lib.hid (fun W (hW : Below w.heap.size w W) => rcheck_any n2 a2 m2 c2 l2 W (H2.out.below hW))
  clear hW1 X1 h1 h2
  unfold twoE
  generalize checkB n1 l1 = b1 at *
  generalize checkB n2 l2 = b2 at *
  cases b1
  · rw [if_pos (.inl rfl)]
    go_enter Try.func11, Try.ntmps11
    go_wp2_with fail
    rw [← hW1'.out]
    refine q1.out.mono ?_
    rintro e w1 ⟨rfl, b1⟩
    have X2 := Lib.hid (X1'.out.on b1)
    clear b1 X1' q1
    go_wp2
    go_ret
    exact ⟨rfl, X2.out.bl⟩
  · cases b2
    · rw [if_pos (.inr rfl)]
      go_enter Try.func11, Try.ntmps11
      go_wp2_with fail
      rw [← hW1'.out]
      refine q1.out.mono ?_
      rintro e w1 ⟨rfl, b1⟩
      have X2 := Lib.hid (X1'.out.on b1)
      clear b1 X1' q1
      have k0 := X2.out.z2.cell 0
      have k1 := X2.out.z2.cell 1
      have p2 := Lib.hid (q2.out w1 X2.out.bl)
      go_wp2_with fail
      refine p2.out.mono ?_
      rintro e w2 ⟨rfl, b2⟩
      have X3 := Lib.hid (X2.out.on b2)
      clear b2 X2 p2 k0 k1
      have k0 := X3.out.z1.cell 0
      have k1 := X3.out.z2.cell 0
      go_wp2
      go_ret
      exact ⟨rfl, X3.out.bl⟩
    · rw [if_neg (by simp)]
      by_cases hn : n1 = n2
      · rw [if_pos hn]
        subst hn
        go_enter Try.func11, Try.ntmps11
        go_wp2_with fail
        rw [← hW1'.out]
        refine q1.out.mono ?_
        rintro e w1 ⟨rfl, b1⟩
        have X2 := Lib.hid (X1'.out.on b1)
        clear b1 X1' q1
        have k0 := X2.out.z2.cell 0
        have k1 := X2.out.z2.cell 1
        have p2 := Lib.hid (q2.out w1 X2.out.bl)
        go_wp2_with fail
        refine p2.out.mono ?_
        rintro e w2 ⟨rfl, b2⟩
        have X3 := Lib.hid (X2.out.on b2)
        clear b2 X2 p2 k0 k1
        have k0 := X3.out.z1.cell 0
        have k1 := X3.out.z2.cell 0
        go_wp2
        go_ret
        exact ⟨rfl, X3.out.bl⟩
      · rw [if_neg hn]
        have hn2 : (n1 != n2) = true := by simpa using hn
        go_enter Try.func11, Try.ntmps11
        go_wp2_with fail
        rw [← hW1'.out]
        refine q1.out.mono ?_
        rintro e w1 ⟨rfl, b1⟩
        have X2 := Lib.hid (X1'.out.on b1)
        clear b1 X1' q1
        have k0 := X2.out.z2.cell 0
        have k1 := X2.out.z2.cell 1
        have p2 := Lib.hid (q2.out w1 X2.out.bl)
        go_wp2_with fail
        refine p2.out.mono ?_
        rintro e w2 ⟨rfl, b2⟩
        have X3 := Lib.hid (X2.out.on b2)
        clear b2 X2 p2 k0 k1
        have k0 := X3.out.z1.cell 0
        have k1 := X3.out.z2.cell 0
        go_wp2
        go_ret
        exact ⟨rfl, X3.out.bl⟩
set_option maxRecDepth 100000 in
set_option maxHeartbeats 1000000 in
theorem rmeet_c (a1 a2 : Option Addr) (m1 m2 c1 c2 : Nat) (l1 l2 : List Int) (n : Nat) (z1 : IsZ n l1) (z2 : IsZ n l2) (w : World) (h1 : SL w a1 m1 c1 l1) (h2 : SL w a2 m2 c2 l2) (hF1 : Full n l1) (hF2 : Full n l2) : Calls Try.prog 18 #[.agg #[.int .i64 n, .slice a1 m1 c1], .agg #[.int .i64 n, .slice a2 m2 c2]] w (ZoneN n (closedL n (pw min l1 l2)) w) := by
  obtain ⟨i0, hi, hz0, hz1, hz2⟩ := info_parts infoInt
  obtain ⟨W1, hW1⟩ : ∃ W1, W1 = ((w.alloc (.cells #[.int .i64 n, .slice a1 m1 c1] 24)).alloc (.cells #[.int .i64 n, .slice a2 m2 c2] 24)).alloc (.cells #[.int .i64 0, .slice none 0 0] 24) := ⟨_, rfl⟩
  have X1 : B3 w W1 (.int .i64 n) (.slice a1 m1 c1) (.int .i64 n) (.slice a2 m2 c2) := by rw [hW1]; exact b3_new _ _ _ _ _
  have H1 := Lib.hid h1
  have H2 := Lib.hid h2
  have X1' := Lib.hid X1
  have hW1' := Lib.hid hW1
  have k1 := X1.z1.cell 1
  have k2 := X1.z2.cell 1
  have hs81 := sz_le hF1.le
  have hm1 : m1 = sz n := by rw [h1.len, hF1.len]
  have hm2 : m2 = sz n := by rw [h2.len, hF2.len]
  have hpos := sz_pos n
  have p1 : ((m1 : Int) == 0) = false := by simp; omega
  have p2 : ¬ (m1 : Int) = 0 := by omega
  have p3 : ((m2 : Int) == 0) = false := by simp; omega
  have p4 : ¬ (m2 : Int) = 0 := by omega
  have hmi : m1 ≤ 81 := by omega
  have hm12 : m1 = m2 := by omega
  have hlen : Hid ((pw min l1 l2).length = m1) := Lib.hid (by rw [pw_len, h1.len])
  have hat : Hid (∀ k, k < m1 → (pw min l1 l2).take k ++ [min (l1.getD k 0) (l2.getD k 0)] = (pw min l1 l2).take (k + 1)) := Lib.hid (fun k hk => by
    have hl : k < (pw min l1 l2).length := by rw [pw_len, ← h1.len]; exact hk
    have e : (pw min l1 l2)[k] = min (l1.getD k 0) (l2.getD k 0) := by simp [pw]
    rw [← List.take_append_getElem hl, e])
  have hrc := Lib.hid (fun a c W (h : Sees .i64 W.heap.size W a (pw min l1 l2)) => rclose_any n hF1.le a (pw min l1 l2) m1 c (by rw [pw_len]; exact h1.len) hm1 W h)
  have hsm : Hid ((closedL n (pw min l1 l2)).length ≤ 1000) := Lib.hid (by have := closed_small hF1.le (pw min l1 l2); omega)
  clear X1 h1 h2 hF1 hF2 hm1 hm2 hs81 hpos z1 z2
  generalize pw min l1 l2 = P at *
  generalize closedL n P = R at *
  subst hm12
  go_enter Try.func18, Try.ntmps18
  go_wp2
  rw [← hW1]
  clear hW1 k1 k2
  go_loopw [5, 6] (fun v x wr => ∃ k : Nat, k ≤ m1 ∧ x = .int .i64 k ∧ Hid (wr.ownsRow W1.heap.size 3 1 v (P.take k).length (nums .i64 (P.take k))) ∧ Hid (Below W1.heap.size W1 wr)) (fun _ x _ => m1 - (intOf x).toNat)
  case atStart => exact ⟨0, by omega, rfl, Lib.hid (by rw [List.take_zero]; exact ⟨rfl, .inl ⟨rfl, rfl⟩⟩), Lib.hid (Below.refl _ _)⟩
  case round =>
    obtain ⟨k, hk, rfl, hown, hb⟩ := hrel
    have X2 := Lib.hid (X1'.out.on hb.out)
    have k0 := X2.out.z1.cell 0
    have k1 := X2.out.z1.cell 1
    have k2 := X2.out.z2.cell 1
    by_cases hlt : k < m1
    · have hki : (k : Int) < (m1 : Int) := by omega
      have T1 := Lib.hid (H1.out.below X2.out.bl)
      have T2 := Lib.hid (H2.out.below X2.out.bl)
      obtain ⟨b1, o1, rfl, -, e1⟩ := sees_at' T1.out.sees (i := k) (by have := T1.out.len; omega)
      obtain ⟨b2, o2, rfl, -, e2⟩ := sees_at' T2.out.sees (i := k) (by have := T2.out.len; omega)
      have hnx := Lib.hid (hat.out k hlt)
      have hrl : (P.take k).length ≤ 81 := by have := hlen.out; rw [List.length_take]; omega
      clear T1 T2
      generalize l1.getD k 0 = x at *
      generalize l2.getD k 0 = y at *
      by_cases hxy : y < x
      · have hz : min x y = y := by omega
        rw [hz] at hnx
        go_wp2_with (at_builtin; refine wpList_append1 _ rfl _ _ 22 rfl W1 3 i0 (.int .i64 0) 8 Try.underlying22 hi hz0 hz1 hz2 rfl .i64 y _ _ hown.out hb.out rfl rfl (by omega) (by omega) ?_; intro v' w' hown2 hb2; have hown2' := Lib.hid hown2; have hb2' := Lib.hid hb2; clear hown2 hb2)
        go_roundw
        case rel => exact ⟨k + 1, by omega, by go_num, by rw [← hnx.out]; exact hown2', hb2'⟩
        case measure => simp [intOf]; omega
      · have hz : min x y = x := by omega
        rw [hz] at hnx
        go_wp2_with (at_builtin; refine wpList_append1 _ rfl _ _ 22 rfl W1 3 i0 (.int .i64 0) 8 Try.underlying22 hi hz0 hz1 hz2 rfl .i64 x _ _ hown.out hb.out rfl rfl (by omega) (by omega) ?_; intro v' w' hown2 hb2; have hown2' := Lib.hid hown2; have hb2' := Lib.hid hb2; clear hown2 hb2)
        go_roundw
        case rel => exact ⟨k + 1, by omega, by go_num, by rw [← hnx.out]; exact hown2', hb2'⟩
        case measure => simp [intOf]; omega
    · have hke : k = m1 := by omega
      have htk : P.take k = P := List.take_of_length_le (by have := hlen.out; omega)
      have hw := hown.out
      rw [htk] at hw
      obtain ⟨a5, c5, hv, -, hs⟩ := sees_own hw
      rw [hlen.out] at hv
      subst hv
      have hcall := Lib.hid (hrc.out a5 c5 wr hs)
      clear hown hw hs htk hrc hat
      go_wp2_with fail
      refine hcall.out.mono ?_
      intro e w7 hz7
      obtain ⟨a7, m7, c7, rfl, s7, b7, nw7⟩ := zoneN_of hsm.out hz7
      have Zd := X2.out.z3.below b7 X2.out.z3.lt
      have y0 := Zd.cell 0
      have y1 := Zd.cell 1
      have f0 := Zd.free 0
      have f1 := Zd.free 1
      have hfin := Lib.hid (zone_putN (n := n) X2.out.bl (by omega) X2.out.z3 s7 b7 nw7)
      clear Zd hcall hz7
      go_wp2
      exact zone_ret hfin.out.1 hfin.out.2 _ _ 4 rfl rfl rfl
set_option maxRecDepth 100000 in
set_option maxHeartbeats 1000000 in
theorem rmeet_a (a1 a2 : Option Addr) (m1 m2 c1 c2 : Nat) (l1 l2 : List Int) (n : Nat) (z1 : IsZ n l1) (z2 : IsZ n l2) (w : World) (h1 : SL w a1 m1 c1 l1) (h2 : SL w a2 m2 c2 l2) (hn : l1 = []) : Calls Try.prog 18 #[.agg #[.int .i64 n, .slice a1 m1 c1], .agg #[.int .i64 n, .slice a2 m2 c2]] w (ZoneN n [] w) := by
  have hmx := h1.max
  have hmx2 := h2.max
  have H1 := Lib.hid h1
  have H2 := Lib.hid h2
  have hm : m1 = 0 := by rw [h1.len, hn]; rfl
  subst hm
  obtain ⟨hb3, hz3⟩ := three_new w (.int .i64 n) (.slice a1 0 c1) (.int .i64 n) (.slice a2 m2 c2) (.int .i64 n) (.slice none 0 0)
  have hb3' := Lib.hid hb3
  have hz3' := Lib.hid hz3
  clear h1 h2 hn z1 z2 hb3 hz3
  go_enter Try.func18, Try.ntmps18
  go_wp2
  exact zone_ret hz3'.out ⟨none, 0, 0, rfl, SL.nil _, hb3'.out, .inl rfl⟩ _ _ 4 rfl rfl rfl
set_option maxRecDepth 100000 in
set_option maxHeartbeats 1000000 in
theorem rmeet_b (a1 a2 : Option Addr) (m1 m2 c1 c2 : Nat) (l1 l2 : List Int) (n : Nat) (z1 : IsZ n l1) (z2 : IsZ n l2) (w : World) (h1 : SL w a1 m1 c1 l1) (h2 : SL w a2 m2 c2 l2) (hn1 : l1 ≠ []) (hn : l2 = []) : Calls Try.prog 18 #[.agg #[.int .i64 n, .slice a1 m1 c1], .agg #[.int .i64 n, .slice a2 m2 c2]] w (ZoneN n [] w) := by
  have hmx := h1.max
  have hmx2 := h2.max
  have H1 := Lib.hid h1
  have H2 := Lib.hid h2
  have hm : m2 = 0 := by rw [h2.len, hn]; rfl
  subst hm
  have hp1 := len_pos hn1 h1.len
  have p1 : ((m1 : Int) == 0) = false := by simp; omega
  have p2 : ¬ (m1 : Int) = 0 := by omega
  clear hp1 hn1
  obtain ⟨hb3, hz3⟩ := three_new w (.int .i64 n) (.slice a1 m1 c1) (.int .i64 n) (.slice a2 0 c2) (.int .i64 n) (.slice none 0 0)
  have hb3' := Lib.hid hb3
  have hz3' := Lib.hid hz3
  clear h1 h2 hn z1 z2 hb3 hz3
  go_enter Try.func18, Try.ntmps18
  go_wp2
  exact zone_ret hz3'.out ⟨none, 0, 0, rfl, SL.nil _, hb3'.out, .inl rfl⟩ _ _ 4 rfl rfl rfl
theorem rmeet_any (a1 a2 : Option Addr) (m1 m2 c1 c2 : Nat) (l1 l2 : List Int) (n : Nat) (z1 : IsZ n l1) (z2 : IsZ n l2) (w : World) (h1 : SL w a1 m1 c1 l1) (h2 : SL w a2 m2 c2 l2) : Calls Try.prog 18 #[.agg #[.int .i64 n, .slice a1 m1 c1], .agg #[.int .i64 n, .slice a2 m2 c2]] w (ZoneN n (meetL n l1 l2) w) := by
  unfold meetL
  split
  · rename_i e; exact rmeet_a a1 a2 m1 m2 c1 c2 l1 l2 n z1 z2 w h1 h2 e
  · rename_i e
    split
    · rename_i e2; exact rmeet_b a1 a2 m1 m2 c1 c2 l1 l2 n z1 z2 w h1 h2 e e2
    · rename_i e2; exact rmeet_c a1 a2 m1 m2 c1 c2 l1 l2 n z1 z2 w h1 h2 (z1.2.resolve_left e) (z2.2.resolve_left e2)
set_option maxRecDepth 100000 in
set_option maxHeartbeats 1000000 in
theorem rjoin_c (a1 a2 : Option Addr) (m1 m2 c1 c2 : Nat) (l1 l2 : List Int) (n : Nat) (z1 : IsZ n l1) (z2 : IsZ n l2) (w : World) (h1 : SL w a1 m1 c1 l1) (h2 : SL w a2 m2 c2 l2) (hF1 : Full n l1) (hF2 : Full n l2) : Calls Try.prog 19 #[.agg #[.int .i64 n, .slice a1 m1 c1], .agg #[.int .i64 n, .slice a2 m2 c2]] w (ZoneN n (closedL n (pw max l1 l2)) w) := by
  obtain ⟨i0, hi, hz0, hz1, hz2⟩ := info_parts infoInt
  obtain ⟨W1, hW1⟩ : ∃ W1, W1 = ((w.alloc (.cells #[.int .i64 n, .slice a1 m1 c1] 24)).alloc (.cells #[.int .i64 n, .slice a2 m2 c2] 24)).alloc (.cells #[.int .i64 0, .slice none 0 0] 24) := ⟨_, rfl⟩
  have X1 : B3 w W1 (.int .i64 n) (.slice a1 m1 c1) (.int .i64 n) (.slice a2 m2 c2) := by rw [hW1]; exact b3_new _ _ _ _ _
  have H1 := Lib.hid h1
  have H2 := Lib.hid h2
  have X1' := Lib.hid X1
  have hW1' := Lib.hid hW1
  have k1 := X1.z1.cell 1
  have k2 := X1.z2.cell 1
  have hs81 := sz_le hF1.le
  have hm1 : m1 = sz n := by rw [h1.len, hF1.len]
  have hm2 : m2 = sz n := by rw [h2.len, hF2.len]
  have hpos := sz_pos n
  have p1 : ((m1 : Int) == 0) = false := by simp; omega
  have p2 : ¬ (m1 : Int) = 0 := by omega
  have p3 : ((m2 : Int) == 0) = false := by simp; omega
  have p4 : ¬ (m2 : Int) = 0 := by omega
  have hmi : m1 ≤ 81 := by omega
  have hm12 : m1 = m2 := by omega
  have hlen : Hid ((pw max l1 l2).length = m1) := Lib.hid (by rw [pw_len, h1.len])
  have hat : Hid (∀ k, k < m1 → (pw max l1 l2).take k ++ [max (l1.getD k 0) (l2.getD k 0)] = (pw max l1 l2).take (k + 1)) := Lib.hid (fun k hk => by
    have hl : k < (pw max l1 l2).length := by rw [pw_len, ← h1.len]; exact hk
    have e : (pw max l1 l2)[k] = max (l1.getD k 0) (l2.getD k 0) := by simp [pw]
    rw [← List.take_append_getElem hl, e])
  have hrc := Lib.hid (fun a c W (h : Sees .i64 W.heap.size W a (pw max l1 l2)) => rclose_any n hF1.le a (pw max l1 l2) m1 c (by rw [pw_len]; exact h1.len) hm1 W h)
  have hsm : Hid ((closedL n (pw max l1 l2)).length ≤ 1000) := Lib.hid (by have := closed_small hF1.le (pw max l1 l2); omega)
  clear X1 h1 h2 hF1 hF2 hm1 hm2 hs81 hpos z1 z2
  generalize pw max l1 l2 = P at *
  generalize closedL n P = R at *
  subst hm12
  go_enter Try.func19, Try.ntmps19
  go_wp2
  rw [← hW1]
  clear hW1 k1 k2
  go_loopw [5, 6] (fun v x wr => ∃ k : Nat, k ≤ m1 ∧ x = .int .i64 k ∧ Hid (wr.ownsRow W1.heap.size 3 1 v (P.take k).length (nums .i64 (P.take k))) ∧ Hid (Below W1.heap.size W1 wr)) (fun _ x _ => m1 - (intOf x).toNat)
  case atStart => exact ⟨0, by omega, rfl, Lib.hid (by rw [List.take_zero]; exact ⟨rfl, .inl ⟨rfl, rfl⟩⟩), Lib.hid (Below.refl _ _)⟩
  case round =>
    obtain ⟨k, hk, rfl, hown, hb⟩ := hrel
    have X2 := Lib.hid (X1'.out.on hb.out)
    have k0 := X2.out.z1.cell 0
    have k1 := X2.out.z1.cell 1
    have k2 := X2.out.z2.cell 1
    by_cases hlt : k < m1
    · have hki : (k : Int) < (m1 : Int) := by omega
      have T1 := Lib.hid (H1.out.below X2.out.bl)
      have T2 := Lib.hid (H2.out.below X2.out.bl)
      obtain ⟨b1, o1, rfl, -, e1⟩ := sees_at' T1.out.sees (i := k) (by have := T1.out.len; omega)
      obtain ⟨b2, o2, rfl, -, e2⟩ := sees_at' T2.out.sees (i := k) (by have := T2.out.len; omega)
      have hnx := Lib.hid (hat.out k hlt)
      have hrl : (P.take k).length ≤ 81 := by have := hlen.out; rw [List.length_take]; omega
      clear T1 T2
      generalize l1.getD k 0 = x at *
      generalize l2.getD k 0 = y at *
      by_cases hxy : x < y
      · have hz : max x y = y := by omega
        rw [hz] at hnx
        go_wp2_with (at_builtin; refine wpList_append1 _ rfl _ _ 22 rfl W1 3 i0 (.int .i64 0) 8 Try.underlying22 hi hz0 hz1 hz2 rfl .i64 y _ _ hown.out hb.out rfl rfl (by omega) (by omega) ?_; intro v' w' hown2 hb2; have hown2' := Lib.hid hown2; have hb2' := Lib.hid hb2; clear hown2 hb2)
        go_roundw
        case rel => exact ⟨k + 1, by omega, by go_num, by rw [← hnx.out]; exact hown2', hb2'⟩
        case measure => simp [intOf]; omega
      · have hz : max x y = x := by omega
        rw [hz] at hnx
        go_wp2_with (at_builtin; refine wpList_append1 _ rfl _ _ 22 rfl W1 3 i0 (.int .i64 0) 8 Try.underlying22 hi hz0 hz1 hz2 rfl .i64 x _ _ hown.out hb.out rfl rfl (by omega) (by omega) ?_; intro v' w' hown2 hb2; have hown2' := Lib.hid hown2; have hb2' := Lib.hid hb2; clear hown2 hb2)
        go_roundw
        case rel => exact ⟨k + 1, by omega, by go_num, by rw [← hnx.out]; exact hown2', hb2'⟩
        case measure => simp [intOf]; omega
    · have hke : k = m1 := by omega
      have htk : P.take k = P := List.take_of_length_le (by have := hlen.out; omega)
      have hw := hown.out
      rw [htk] at hw
      obtain ⟨a5, c5, hv, -, hs⟩ := sees_own hw
      rw [hlen.out] at hv
      subst hv
      have hcall := Lib.hid (hrc.out a5 c5 wr hs)
      clear hown hw hs htk hrc hat
      go_wp2_with fail
      refine hcall.out.mono ?_
      intro e w7 hz7
      obtain ⟨a7, m7, c7, rfl, s7, b7, nw7⟩ := zoneN_of hsm.out hz7
      have Zd := X2.out.z3.below b7 X2.out.z3.lt
      have y0 := Zd.cell 0
      have y1 := Zd.cell 1
      have f0 := Zd.free 0
      have f1 := Zd.free 1
      have hfin := Lib.hid (zone_putN (n := n) X2.out.bl (by omega) X2.out.z3 s7 b7 nw7)
      clear Zd hcall hz7
      go_wp2
      exact zone_ret hfin.out.1 hfin.out.2 _ _ 4 rfl rfl rfl
set_option maxRecDepth 100000 in
set_option maxHeartbeats 1000000 in
theorem rjoin_a (a1 a2 : Option Addr) (m1 m2 c1 c2 : Nat) (l1 l2 : List Int) (n : Nat) (z1 : IsZ n l1) (z2 : IsZ n l2) (w : World) (h1 : SL w a1 m1 c1 l1) (h2 : SL w a2 m2 c2 l2) (hn : l1 = []) : Calls Try.prog 19 #[.agg #[.int .i64 n, .slice a1 m1 c1], .agg #[.int .i64 n, .slice a2 m2 c2]] w (ZoneR n l2 w) := by
  have hmx := h1.max
  have hmx2 := h2.max
  have H1 := Lib.hid h1
  have H2 := Lib.hid h2
  have hm : m1 = 0 := by rw [h1.len, hn]; rfl
  subst hm
  obtain ⟨hb3, hz3⟩ := three_new w (.int .i64 n) (.slice a1 0 c1) (.int .i64 n) (.slice a2 m2 c2) (.int .i64 n) (.slice a2 m2 c2)
  have hb3' := Lib.hid hb3
  have hz3' := Lib.hid hz3
  clear h1 h2 hn z1 z2 hb3 hz3
  go_enter Try.func19, Try.ntmps19
  go_wp2
  exact zone_ret hz3'.out ⟨a2, m2, c2, rfl, H2.out.below hb3'.out, hb3'.out⟩ _ _ 4 rfl rfl rfl
set_option maxRecDepth 100000 in
set_option maxHeartbeats 1000000 in
theorem rjoin_b (a1 a2 : Option Addr) (m1 m2 c1 c2 : Nat) (l1 l2 : List Int) (n : Nat) (z1 : IsZ n l1) (z2 : IsZ n l2) (w : World) (h1 : SL w a1 m1 c1 l1) (h2 : SL w a2 m2 c2 l2) (hn1 : l1 ≠ []) (hn : l2 = []) : Calls Try.prog 19 #[.agg #[.int .i64 n, .slice a1 m1 c1], .agg #[.int .i64 n, .slice a2 m2 c2]] w (ZoneR n l1 w) := by
  have hmx := h1.max
  have hmx2 := h2.max
  have H1 := Lib.hid h1
  have H2 := Lib.hid h2
  have hm : m2 = 0 := by rw [h2.len, hn]; rfl
  subst hm
  have hp1 := len_pos hn1 h1.len
  have p1 : ((m1 : Int) == 0) = false := by simp; omega
  have p2 : ¬ (m1 : Int) = 0 := by omega
  clear hp1 hn1
  obtain ⟨hb3, hz3⟩ := three_new w (.int .i64 n) (.slice a1 m1 c1) (.int .i64 n) (.slice a2 0 c2) (.int .i64 n) (.slice a1 m1 c1)
  have hb3' := Lib.hid hb3
  have hz3' := Lib.hid hz3
  clear h1 h2 hn z1 z2 hb3 hz3
  go_enter Try.func19, Try.ntmps19
  go_wp2
  exact zone_ret hz3'.out ⟨a1, m1, c1, rfl, H1.out.below hb3'.out, hb3'.out⟩ _ _ 4 rfl rfl rfl
theorem rjoin_any (a1 a2 : Option Addr) (m1 m2 c1 c2 : Nat) (l1 l2 : List Int) (n : Nat) (z1 : IsZ n l1) (z2 : IsZ n l2) (w : World) (h1 : SL w a1 m1 c1 l1) (h2 : SL w a2 m2 c2 l2) : Calls Try.prog 19 #[.agg #[.int .i64 n, .slice a1 m1 c1], .agg #[.int .i64 n, .slice a2 m2 c2]] w (ZoneR n (joinL n l1 l2) w) := by
  unfold joinL
  split
  · rename_i e; exact rjoin_a a1 a2 m1 m2 c1 c2 l1 l2 n z1 z2 w h1 h2 e
  · rename_i e
    split
    · rename_i e2; exact rjoin_b a1 a2 m1 m2 c1 c2 l1 l2 n z1 z2 w h1 h2 e e2
    · rename_i e2; exact (rjoin_c a1 a2 m1 m2 c1 c2 l1 l2 n z1 z2 w h1 h2 (z1.2.resolve_left e) (z2.2.resolve_left e2)).mono (fun e w' h => h.r)
set_option maxRecDepth 100000 in
set_option maxHeartbeats 1000000 in
theorem rwiden_c (a1 a2 : Option Addr) (m1 m2 c1 c2 : Nat) (l1 l2 : List Int) (n : Nat) (z1 : IsZ n l1) (z2 : IsZ n l2) (w : World) (h1 : SL w a1 m1 c1 l1) (h2 : SL w a2 m2 c2 l2) (hF1 : Full n l1) (hF2 : Full n l2) : Calls Try.prog 20 #[.agg #[.int .i64 n, .slice a1 m1 c1], .agg #[.int .i64 n, .slice a2 m2 c2]] w (ZoneN n (closedL n (pw wid l1 l2)) w) := by
  obtain ⟨i0, hi, hz0, hz1, hz2⟩ := info_parts infoInt
  obtain ⟨W1, hW1⟩ : ∃ W1, W1 = ((w.alloc (.cells #[.int .i64 n, .slice a1 m1 c1] 24)).alloc (.cells #[.int .i64 n, .slice a2 m2 c2] 24)).alloc (.cells #[.int .i64 0, .slice none 0 0] 24) := ⟨_, rfl⟩
  have X1 : B3 w W1 (.int .i64 n) (.slice a1 m1 c1) (.int .i64 n) (.slice a2 m2 c2) := by rw [hW1]; exact b3_new _ _ _ _ _
  have H1 := Lib.hid h1
  have H2 := Lib.hid h2
  have X1' := Lib.hid X1
  have hW1' := Lib.hid hW1
  have k1 := X1.z1.cell 1
  have k2 := X1.z2.cell 1
  have hs81 := sz_le hF1.le
  have hm1 : m1 = sz n := by rw [h1.len, hF1.len]
  have hm2 : m2 = sz n := by rw [h2.len, hF2.len]
  have hpos := sz_pos n
  have p1 : ((m1 : Int) == 0) = false := by simp; omega
  have p2 : ¬ (m1 : Int) = 0 := by omega
  have p3 : ((m2 : Int) == 0) = false := by simp; omega
  have p4 : ¬ (m2 : Int) = 0 := by omega
  have hmi : m1 ≤ 81 := by omega
  have hm12 : m1 = m2 := by omega
  have hlen : Hid ((pw wid l1 l2).length = m1) := Lib.hid (by rw [pw_len, h1.len])
  have hat : Hid (∀ k, k < m1 → (pw wid l1 l2).take k ++ [wid (l1.getD k 0) (l2.getD k 0)] = (pw wid l1 l2).take (k + 1)) := Lib.hid (fun k hk => by
    have hl : k < (pw wid l1 l2).length := by rw [pw_len, ← h1.len]; exact hk
    have e : (pw wid l1 l2)[k] = wid (l1.getD k 0) (l2.getD k 0) := by simp [pw]
    rw [← List.take_append_getElem hl, e])
  have hrc := Lib.hid (fun a c W (h : Sees .i64 W.heap.size W a (pw wid l1 l2)) => rclose_any n hF1.le a (pw wid l1 l2) m1 c (by rw [pw_len]; exact h1.len) hm1 W h)
  have hsm : Hid ((closedL n (pw wid l1 l2)).length ≤ 1000) := Lib.hid (by have := closed_small hF1.le (pw wid l1 l2); omega)
  clear X1 h1 h2 hF1 hF2 hm1 hm2 hs81 hpos z1 z2
  generalize pw wid l1 l2 = P at *
  generalize closedL n P = R at *
  subst hm12
  go_enter Try.func20, Try.ntmps20
  go_wp2
  rw [← hW1]
  clear hW1 k1 k2
  go_loopw [5, 6] (fun v x wr => ∃ k : Nat, k ≤ m1 ∧ x = .int .i64 k ∧ Hid (wr.ownsRow W1.heap.size 3 1 v (P.take k).length (nums .i64 (P.take k))) ∧ Hid (Below W1.heap.size W1 wr)) (fun _ x _ => m1 - (intOf x).toNat)
  case atStart => exact ⟨0, by omega, rfl, Lib.hid (by rw [List.take_zero]; exact ⟨rfl, .inl ⟨rfl, rfl⟩⟩), Lib.hid (Below.refl _ _)⟩
  case round =>
    obtain ⟨k, hk, rfl, hown, hb⟩ := hrel
    have X2 := Lib.hid (X1'.out.on hb.out)
    have k0 := X2.out.z1.cell 0
    have k1 := X2.out.z1.cell 1
    have k2 := X2.out.z2.cell 1
    by_cases hlt : k < m1
    · have hki : (k : Int) < (m1 : Int) := by omega
      have T1 := Lib.hid (H1.out.below X2.out.bl)
      have T2 := Lib.hid (H2.out.below X2.out.bl)
      obtain ⟨b1, o1, rfl, -, e1⟩ := sees_at' T1.out.sees (i := k) (by have := T1.out.len; omega)
      obtain ⟨b2, o2, rfl, -, e2⟩ := sees_at' T2.out.sees (i := k) (by have := T2.out.len; omega)
      have hnx := Lib.hid (hat.out k hlt)
      have hrl : (P.take k).length ≤ 81 := by have := hlen.out; rw [List.length_take]; omega
      clear T1 T2
      generalize l1.getD k 0 = x at *
      generalize l2.getD k 0 = y at *
      by_cases hxy : x < y
      · have hz : wid x y = 4398046511104 := by unfold wid; rw [if_neg (by omega)]
        rw [hz] at hnx
        go_wp2_with (at_builtin; refine wpList_append1 _ rfl _ _ 22 rfl W1 3 i0 (.int .i64 0) 8 Try.underlying22 hi hz0 hz1 hz2 rfl .i64 4398046511104 _ _ hown.out hb.out rfl rfl (by omega) (by omega) ?_; intro v' w' hown2 hb2; have hown2' := Lib.hid hown2; have hb2' := Lib.hid hb2; clear hown2 hb2)
        go_roundw
        case rel => exact ⟨k + 1, by omega, by go_num, by rw [← hnx.out]; exact hown2', hb2'⟩
        case measure => simp [intOf]; omega
      · have hz : wid x y = x := by unfold wid; rw [if_pos (by omega)]
        rw [hz] at hnx
        go_wp2_with (at_builtin; refine wpList_append1 _ rfl _ _ 22 rfl W1 3 i0 (.int .i64 0) 8 Try.underlying22 hi hz0 hz1 hz2 rfl .i64 x _ _ hown.out hb.out rfl rfl (by omega) (by omega) ?_; intro v' w' hown2 hb2; have hown2' := Lib.hid hown2; have hb2' := Lib.hid hb2; clear hown2 hb2)
        go_roundw
        case rel => exact ⟨k + 1, by omega, by go_num, by rw [← hnx.out]; exact hown2', hb2'⟩
        case measure => simp [intOf]; omega
    · have hke : k = m1 := by omega
      have htk : P.take k = P := List.take_of_length_le (by have := hlen.out; omega)
      have hw := hown.out
      rw [htk] at hw
      obtain ⟨a5, c5, hv, -, hs⟩ := sees_own hw
      rw [hlen.out] at hv
      subst hv
      have hcall := Lib.hid (hrc.out a5 c5 wr hs)
      clear hown hw hs htk hrc hat
      go_wp2_with fail
      refine hcall.out.mono ?_
      intro e w7 hz7
      obtain ⟨a7, m7, c7, rfl, s7, b7, nw7⟩ := zoneN_of hsm.out hz7
      have Zd := X2.out.z3.below b7 X2.out.z3.lt
      have y0 := Zd.cell 0
      have y1 := Zd.cell 1
      have f0 := Zd.free 0
      have f1 := Zd.free 1
      have hfin := Lib.hid (zone_putN (n := n) X2.out.bl (by omega) X2.out.z3 s7 b7 nw7)
      clear Zd hcall hz7
      go_wp2
      exact zone_ret hfin.out.1 hfin.out.2 _ _ 4 rfl rfl rfl
set_option maxRecDepth 100000 in
set_option maxHeartbeats 1000000 in
theorem rwiden_a (a1 a2 : Option Addr) (m1 m2 c1 c2 : Nat) (l1 l2 : List Int) (n : Nat) (z1 : IsZ n l1) (z2 : IsZ n l2) (w : World) (h1 : SL w a1 m1 c1 l1) (h2 : SL w a2 m2 c2 l2) (hn : l1 = []) : Calls Try.prog 20 #[.agg #[.int .i64 n, .slice a1 m1 c1], .agg #[.int .i64 n, .slice a2 m2 c2]] w (ZoneR n l2 w) := by
  have hmx := h1.max
  have hmx2 := h2.max
  have H1 := Lib.hid h1
  have H2 := Lib.hid h2
  have hm : m1 = 0 := by rw [h1.len, hn]; rfl
  subst hm
  obtain ⟨hb3, hz3⟩ := three_new w (.int .i64 n) (.slice a1 0 c1) (.int .i64 n) (.slice a2 m2 c2) (.int .i64 n) (.slice a2 m2 c2)
  have hb3' := Lib.hid hb3
  have hz3' := Lib.hid hz3
  clear h1 h2 hn z1 z2 hb3 hz3
  go_enter Try.func20, Try.ntmps20
  go_wp2
  exact zone_ret hz3'.out ⟨a2, m2, c2, rfl, H2.out.below hb3'.out, hb3'.out⟩ _ _ 4 rfl rfl rfl
set_option maxRecDepth 100000 in
set_option maxHeartbeats 1000000 in
theorem rwiden_b (a1 a2 : Option Addr) (m1 m2 c1 c2 : Nat) (l1 l2 : List Int) (n : Nat) (z1 : IsZ n l1) (z2 : IsZ n l2) (w : World) (h1 : SL w a1 m1 c1 l1) (h2 : SL w a2 m2 c2 l2) (hn1 : l1 ≠ []) (hn : l2 = []) : Calls Try.prog 20 #[.agg #[.int .i64 n, .slice a1 m1 c1], .agg #[.int .i64 n, .slice a2 m2 c2]] w (ZoneR n l1 w) := by
  have hmx := h1.max
  have hmx2 := h2.max
  have H1 := Lib.hid h1
  have H2 := Lib.hid h2
  have hm : m2 = 0 := by rw [h2.len, hn]; rfl
  subst hm
  have hp1 := len_pos hn1 h1.len
  have p1 : ((m1 : Int) == 0) = false := by simp; omega
  have p2 : ¬ (m1 : Int) = 0 := by omega
  clear hp1 hn1
  obtain ⟨hb3, hz3⟩ := three_new w (.int .i64 n) (.slice a1 m1 c1) (.int .i64 n) (.slice a2 0 c2) (.int .i64 n) (.slice a1 m1 c1)
  have hb3' := Lib.hid hb3
  have hz3' := Lib.hid hz3
  clear h1 h2 hn z1 z2 hb3 hz3
  go_enter Try.func20, Try.ntmps20
  go_wp2
  exact zone_ret hz3'.out ⟨a1, m1, c1, rfl, H1.out.below hb3'.out, hb3'.out⟩ _ _ 4 rfl rfl rfl
theorem rwiden_any (a1 a2 : Option Addr) (m1 m2 c1 c2 : Nat) (l1 l2 : List Int) (n : Nat) (z1 : IsZ n l1) (z2 : IsZ n l2) (w : World) (h1 : SL w a1 m1 c1 l1) (h2 : SL w a2 m2 c2 l2) : Calls Try.prog 20 #[.agg #[.int .i64 n, .slice a1 m1 c1], .agg #[.int .i64 n, .slice a2 m2 c2]] w (ZoneR n (widenL n l1 l2) w) := by
  unfold widenL
  split
  · rename_i e; exact rwiden_a a1 a2 m1 m2 c1 c2 l1 l2 n z1 z2 w h1 h2 e
  · rename_i e
    split
    · rename_i e2; exact rwiden_b a1 a2 m1 m2 c1 c2 l1 l2 n z1 z2 w h1 h2 e e2
    · rename_i e2; exact (rwiden_c a1 a2 m1 m2 c1 c2 l1 l2 n z1 z2 w h1 h2 (z1.2.resolve_left e) (z2.2.resolve_left e2)).mono (fun e w' h => h.r)
end Go.Proofs.Ytacbkddkjlnklaa
